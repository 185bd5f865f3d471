/-
  A maker's own blocks: the boxed derivation, the result, the derivation that it builds; what stays of them.
-/
import Derived.Test.YtjhdcjjoignioaaDFill
import Derived.Test.YtjhdcjjoignioaaDesk
namespace Go.Proofs.Ytjhdcjjoignioaa.Dv
open Go.RowKit

def Tm.zero : Tm := .mk 0 0 []
theorem take_set_next {α : Type} (l : List α) (q : Nat) (x : α) (h : q < l.length) : (l.set q x).take (q + 1) = l.take q ++ [x] := by
  rw [List.take_succ_eq_append_getElem (by simpa using h), List.getElem_set_self, List.take_set_of_le (Nat.le_refl _)]
theorem full_lt {B g : Nat} {w : World} {xs : List (Tm × Value)} (h : Full B w g xs) : g < w.heap.size := by obtain ⟨cs, hcs⟩ := h.open'; exact (Array.getElem?_eq_some_iff.1 hcs).1
theorem full_open {B g : Nat} {w : World} {xs : List (Tm × Value)} (h : Full B w g xs) (o : Nat) : w.frozen? ⟨g, o, none⟩ = false := by obtain ⟨cs, hcs⟩ := h.open'; exact open_unfrozen hcs o
abbrev zeroObj : Obj := .cells #[.int .i64 0, .int .i64 0, .slice none 0 0] 53

def Desk (w : World) (t u : Tm) (s v : Value) (w' : World) : Prop := Below (w.heap.size + 3) (((w.alloc (boxOf t s)).alloc zeroObj).alloc (boxOf u v)) w'

theorem desk_blocks {w w' : World} {t u : Tm} {s v : Value} (h : Desk w t u s v w') : w'.heap[w.heap.size]? = some (boxOf t s) ∧ w'.heap[w.heap.size + 1]? = some zeroObj ∧ w'.heap[w.heap.size + 2]? = some (boxOf u v) := by
  obtain ⟨h0, h1, h2, -⟩ := heap_three w (boxOf t s) zeroObj (boxOf u v)
  exact ⟨by rw [Below.block h _ (by omega)]; exact h0, by rw [Below.block h _ (by omega)]; exact h1, by rw [Below.block h _ (by omega)]; exact h2⟩

theorem five_cells {w : World} {g : Nat} {v0 v1 v2 : Value} {T : TypeId} (h : w.heap[g]? = some (.cells #[v0, v1, v2] T (0, 0))) :
    w.cell? ⟨g, 0, none⟩ = some v0 ∧ w.cell? ⟨g, 1, none⟩ = some v1 ∧ w.cell? ⟨g, 2, none⟩ = some v2 := by
  refine ⟨?_, ?_, ?_⟩ <;> (rw [cell_of_row w g _ _ _ _ h]; rfl)
theorem five_free {w : World} {g : Nat} {cs : Array Value} {T : TypeId} (h : w.heap[g]? = some (.cells cs T (0, 0))) :
    w.frozen? ⟨g, 0, none⟩ = false ∧ w.frozen? ⟨g, 1, none⟩ = false ∧ w.frozen? ⟨g, 2, none⟩ = false :=
  ⟨open_unfrozen h _, open_unfrozen h _, open_unfrozen h _⟩

theorem desk_start (w : World) (t u : Tm) (s v : Value) : Desk w t u s v (((w.alloc (.cells #[.int .i64 t.k, .int .i64 t.i, s] 53)).alloc (.cells #[.int .i64 0, .int .i64 0, .slice none 0 0] 53)).alloc (.cells #[.int .i64 u.k, .int .i64 u.i, v] 53)) := Below.refl _ _
theorem desk_under {w w' : World} {t u : Tm} {s v : Value} (h : Desk w t u s v w') : Below w.heap.size w w' :=
  ((((Below.refl _ _).alloc (Nat.le_refl _) _).alloc (by simp) _).alloc (by simp; omega) _).trans (h.mono (by omega))
theorem desk_size {w w' : World} {t u : Tm} {s v : Value} (h : Desk w t u s v w') : w.heap.size + 3 ≤ w'.heap.size := by have := Below.size h; simpa using this
theorem desk_later {w w1 w2 : World} {t u : Tm} {s v : Value} (h : Desk w t u s v w1) (hb : Below w1.heap.size w1 w2) : Desk w t u s v w2 := below_call h hb (by have := desk_size h; omega)
theorem desk_trans {w w1 w2 : World} {t u : Tm} {s v : Value} (h : Desk w t u s v w1) (hb : Below (w.heap.size + 3) w1 w2) : Desk w t u s v w2 := Below.trans h hb

theorem desk_set {w w1 : World} {t u : Tm} {s v v' : Value} (h : Desk w t u s v w1) : Desk w t u s v' (w1.setCell ⟨w.heap.size + 2, 2, none⟩ v') := by
  obtain ⟨h0, h1, h2, h3⟩ := heap_three w (boxOf t s) zeroObj (boxOf u v')
  obtain ⟨g0, g1, g2⟩ := desk_blocks h
  refine ⟨(Below.os h).trans rfl, (Below.tape h).trans rfl, (Below.output h).trans rfl, by have := desk_size h; simp [World.setCell]; omega, fun k hk => ?_⟩
  by_cases e2 : k = w.heap.size + 2
  · subst e2
    rw [h2, heap_setCell_same _ _ _ _ _ _ g2]; rfl
  · rw [Below.heap_setCell _ _ _ _ (by exact e2)]
    by_cases e1 : k = w.heap.size + 1
    · subst e1; rw [h1, g1]
    · by_cases e0 : k = w.heap.size
      · subst e0; rw [h0, g0]
      · rw [h3 k (by omega), (desk_under h).block k (by omega)]

theorem desk_put {w w1 : World} {t u : Tm} {s v : Value} (h : Desk w t u s v w1) {g : Nat} (hg : w.heap.size + 3 ≤ g) (o : Nat) (x : Tm) (sx : Value) : Desk w t u s v (put5 w1 g o x sx) :=
  Below.trans h ⟨(put5_rest _ _ _ _ _).1, (put5_rest _ _ _ _ _).2.1, (put5_rest _ _ _ _ _).2.2, by rw [put5_size]; exact Nat.le_refl _, fun k hk => put5_other _ _ _ _ _ (by omega)⟩

theorem cells5_zeros : ∀ n : Nat, (cells5 (List.replicate n (Tm.zero, Value.slice none 0 0))) = (madeCells #[.int .i64 0, .int .i64 0, .slice none 0 0] (n * 3)).toList := by
  intro n
  apply List.ext_getElem?
  intro j
  by_cases hj : j < n * 3
  · have h5 : j % 3 < 3 := Nat.mod_lt _ (by omega)
    have hd : j / 3 < n := by omega
    have e : j = j / 3 * 3 + j % 3 := by omega
    have h1 := cells5_get (List.replicate n (Tm.zero, Value.slice none 0 0)) (j / 3) (by simpa using hd) (j % 3) h5
    rw [← e] at h1
    rw [h1]
    simp only [List.getElem_replicate]
    have hz : (madeCells #[Value.int .i64 0, .int .i64 0, .slice none 0 0] (n * 3)).toList[j]? = some (#[Value.int .i64 0, .int .i64 0, .slice none 0 0][j % 3]!) := by simp [madeCells, hj]
    rw [hz]
    generalize j % 3 = q at h5
    match q, h5 with
    | 0, _ => rfl
    | 1, _ => rfl
    | 2, _ => rfl
  · rw [List.getElem?_eq_none (by rw [cells5_length]; simp; omega), List.getElem?_eq_none (by simp [madeCells]; omega)]

theorem zero_fine : Tm.zero.fine := by simp [Tm.zero, Tm.fine, I64, Tm.k, Tm.i]
theorem full_made {B : Nat} {w : World} {g n : Nat} (h : w.ownsRow B 53 3 (.slice (some ⟨g, 0, none⟩) n n) n (madeCells #[.int .i64 0, .int .i64 0, .slice none 0 0] (n * 3)).toList) :
    Full B w g (List.replicate n (Tm.zero, .slice none 0 0)) := by
  rw [← cells5_zeros] at h
  have hb : B ≤ g ∧ ∃ cs, w.heap[g]? = some (.cells cs 53 (0, 0)) := by
    obtain ⟨-, ⟨h1, -⟩ | ⟨g', cap, cur, h1, h2, h3, -⟩⟩ := h
    · cases h1
    · obtain rfl : g = g' := by simp only [Value.slice.injEq, Option.some.injEq, Addr.mk.injEq] at h1; exact h1.1.1
      exact ⟨h2, cur, h3⟩
  refine ⟨hb.1, hb.2, fun i hi => ?_, fun p hp => ?_, fun p hp => ?_⟩
  · have cellq : ∀ q, q < 3 → w.cell? ⟨g, i * 3 + q, none⟩ = [Value.int .i64 ((List.replicate n (Tm.zero, Value.slice none 0 0))[i]).1.k, .int .i64 ((List.replicate n (Tm.zero, Value.slice none 0 0))[i]).1.i, ((List.replicate n (Tm.zero, Value.slice none 0 0))[i]).2][q]? := fun q hq => by
      rw [h.cellAt (i * 3 + q) (by simp at hi; omega)]; exact cells5_get _ i hi q hq
    exact ⟨cellq 0 (by omega), cellq 1 (by omega), cellq 2 (by omega)⟩
  · rw [(List.mem_replicate.1 hp).2]; exact zero_fine
  · rw [(List.mem_replicate.1 hp).2]; exact liesP_nil _ _

theorem Full.below {B g b o : Nat} {w : World} {xs : List (Tm × Value)} (h : Full B w g xs) (hb : b < B) (v : Value) : Full B (w.setCell ⟨b, o, none⟩ v) g xs := by
  have hg := h.above
  have hk : ∀ b', B ≤ b' → (w.setCell ⟨b, o, none⟩ v).heap[b']? = w.heap[b']? := fun b' hb' => Below.heap_setCell _ _ _ _ (by show b' ≠ b; omega)
  exact ⟨hg, by rw [hk g hg]; exact h.open', fun i hi => (h.node i hi).same (hk g hg), h.fine, fun p hp => (h.kids p hp).keep (fun b' hb' _ => hk b' hb'.1.1) (fun b' hb' _ => ⟨hb'.1.same (hk b' hb'.1.1), hb'.2⟩)⟩

theorem held_and {w w' : World} {t : Tm} {s v : Value} {p : Addr} (h : Held w t s w') (hp : w.cell? p = some v) : Held w t s w' ∧ w'.cell? p = some v ∧ w'.cell? ⟨w.heap.size, 0, none⟩ = some (.int .i64 t.k) ∧ w'.cell? ⟨w.heap.size, 1, none⟩ = some (.int .i64 t.i) ∧ w'.cell? ⟨w.heap.size, 2, none⟩ = some s :=
  ⟨h, cell_lat (held_below h) hp, held_cells h⟩
theorem held_alloc {w w1 : World} {t : Tm} {s : Value} (h : Held w t s w1) (o : Obj) : Held w t s (w1.alloc o) := Below.alloc h (by have := Below.size h; simpa using this) o
theorem held_size {w w1 : World} {t : Tm} {s : Value} (h : Held w t s w1) : w.heap.size + 1 ≤ w1.heap.size := by have := Below.size h; simpa using this
abbrev five (w : World) (g : Nat) (v0 v1 v2 : Value) : World := ((w.setCell ⟨g, 0, none⟩ v0).setCell ⟨g, 1, none⟩ v1).setCell ⟨g, 2, none⟩ v2
theorem five_size (w : World) (g : Nat) (v0 v1 v2 : Value) : (five w g v0 v1 v2).heap.size = w.heap.size := by simp [five, World.setCell]
theorem five_other (w : World) (g : Nat) (v0 v1 v2 : Value) {b : Nat} (h : b ≠ g) : (five w g v0 v1 v2).heap[b]? = w.heap[b]? := by
  unfold five; repeat rw [Below.heap_setCell _ _ _ _ (by exact h)]
theorem below_five {B : Nat} {w w1 : World} (h : Below B w w1) {g : Nat} (hg : B ≤ g) (v0 v1 v2 : Value) : Below B w (five w1 g v0 v1 v2) :=
  ((h.setCell hg _).setCell hg _).setCell hg _
theorem liesP_fives {B N g : Nat} {w : World} {l : List Tm} {s : Value} (h : LiesP w (Own B w) l s) (hg : g < B) (hN : N ≤ B) (v0 v1 v2 : Value) : LiesP (five w g v0 v1 v2) (Own N (five w g v0 v1 v2)) l s :=
  h.keep (fun b hp _ => five_other w g v0 v1 v2 (by have := hp.1; omega)) (fun b hp _ => (hp.from hN).same (five_other w g v0 v1 v2 (by have := hp.1; omega)))
theorem desk_drew {w w1 : World} {t u : Tm} {s v : Value} (h : Desk w t u s v w1) : Desk w t u s v w1.drew := Below.drew h
theorem desk_alloc {w w1 : World} {t u : Tm} {s v : Value} (h : Desk w t u s v w1) (o : Obj) : Desk w t u s v (w1.alloc o) := Below.alloc h (Below.size h |> fun hs => by simpa using hs) o
theorem held_set {w w1 : World} {t : Tm} {s : Value} (h : Held w t s w1) {p : Addr} (hp : w.heap.size + 1 ≤ p.block) (u : Value) : Held w t s (w1.setCell p u) := Below.setCell h hp u
end Go.Proofs.Ytjhdcjjoignioaa.Dv
