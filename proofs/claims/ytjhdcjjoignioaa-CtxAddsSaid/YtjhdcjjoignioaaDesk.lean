/-
  A maker's own blocks: the boxed term, the result, the term that it builds; what stays of them.
-/
import Derived.Test.YtjhdcjjoignioaaLiftC
import Derived.Test.YtjhdcjjoignioaaTwin
import Derived.Test.YtjhdcjjoignioaaSpoil
import Derived.IntWalk
import Derived.OwnWalk
namespace Go.Proofs.Ytjhdcjjoignioaa
open Go.RowKit

theorem cell_lat {w wx : World} {a : Addr} {v : Value} (hb : Below w.heap.size w wx) (h : w.cell? a = some v) : wx.cell? a = some v := (hb.cell (World.block_lt_of_cell? _ _ h)).trans h
theorem boxes_under {w w' : World} {t : Tm} {s : Value} (h : Boxes w t s w') : Below w.heap.size w w' := held_below (boxes_held h)

abbrev zeroObj : Obj := .cells #[.int .i64 0, .int .i64 0, .int .i64 0, .int .i64 0, .slice none 0 0] 26

/-- The boxed term, the result, and the term that is built, v: the slice of its kids. -/
def Desk (w : World) (t u : Tm) (s v : Value) (w' : World) : Prop := Below (w.heap.size + 3) (((w.alloc (boxOf t s)).alloc zeroObj).alloc (boxOf u v)) w'

theorem heap_three (w : World) (a b c : Obj) : (((w.alloc a).alloc b).alloc c).heap[w.heap.size]? = some a ∧ (((w.alloc a).alloc b).alloc c).heap[w.heap.size + 1]? = some b ∧ (((w.alloc a).alloc b).alloc c).heap[w.heap.size + 2]? = some c ∧ ∀ k, k < w.heap.size → (((w.alloc a).alloc b).alloc c).heap[k]? = w.heap[k]? := by
  refine ⟨?_, ?_, ?_, fun k hk => ?_⟩
  · rw [Below.heap_alloc _ _ _ (by simp; omega), Below.heap_alloc _ _ _ (by simp), alloc_new]
  · rw [Below.heap_alloc _ _ _ (by simp)]
    have := alloc_new (w.alloc a) b
    simpa using this
  · have := alloc_new ((w.alloc a).alloc b) c
    simpa using this
  · rw [Below.heap_alloc _ _ _ (by simp; omega), Below.heap_alloc _ _ _ (by simp; omega), Below.heap_alloc _ _ _ hk]

theorem desk_blocks {w w' : World} {t u : Tm} {s v : Value} (h : Desk w t u s v w') : w'.heap[w.heap.size]? = some (boxOf t s) ∧ w'.heap[w.heap.size + 1]? = some zeroObj ∧ w'.heap[w.heap.size + 2]? = some (boxOf u v) := by
  obtain ⟨h0, h1, h2, -⟩ := heap_three w (boxOf t s) zeroObj (boxOf u v)
  exact ⟨by rw [Below.block h _ (by omega)]; exact h0, by rw [Below.block h _ (by omega)]; exact h1, by rw [Below.block h _ (by omega)]; exact h2⟩

theorem five_cells {w : World} {g : Nat} {v0 v1 v2 v3 v4 : Value} {T : TypeId} (h : w.heap[g]? = some (.cells #[v0, v1, v2, v3, v4] T (0, 0))) :
    w.cell? ⟨g, 0, none⟩ = some v0 ∧ w.cell? ⟨g, 1, none⟩ = some v1 ∧ w.cell? ⟨g, 2, none⟩ = some v2 ∧ w.cell? ⟨g, 3, none⟩ = some v3 ∧ w.cell? ⟨g, 4, none⟩ = some v4 := by
  refine ⟨?_, ?_, ?_, ?_, ?_⟩ <;> (rw [cell_of_row w g _ _ _ _ h]; rfl)
theorem five_free {w : World} {g : Nat} {cs : Array Value} {T : TypeId} (h : w.heap[g]? = some (.cells cs T (0, 0))) :
    w.frozen? ⟨g, 0, none⟩ = false ∧ w.frozen? ⟨g, 1, none⟩ = false ∧ w.frozen? ⟨g, 2, none⟩ = false ∧ w.frozen? ⟨g, 3, none⟩ = false ∧ w.frozen? ⟨g, 4, none⟩ = false :=
  ⟨open_unfrozen h _, open_unfrozen h _, open_unfrozen h _, open_unfrozen h _, open_unfrozen h _⟩

theorem desk_start (w : World) (t u : Tm) (s v : Value) : Desk w t u s v (((w.alloc (.cells #[.int .i64 t.k, .int .i64 t.i, .int .i64 t.j, .int .i64 t.n, s] 26)).alloc (.cells #[.int .i64 0, .int .i64 0, .int .i64 0, .int .i64 0, .slice none 0 0] 26)).alloc (.cells #[.int .i64 u.k, .int .i64 u.i, .int .i64 u.j, .int .i64 u.n, v] 26)) := Below.refl _ _
theorem desk_under {w w' : World} {t u : Tm} {s v : Value} (h : Desk w t u s v w') : Below w.heap.size w w' :=
  ((((Below.refl _ _).alloc (Nat.le_refl _) _).alloc (by simp) _).alloc (by simp; omega) _).trans (h.mono (by omega))
theorem desk_size {w w' : World} {t u : Tm} {s v : Value} (h : Desk w t u s v w') : w.heap.size + 3 ≤ w'.heap.size := by have := Below.size h; simpa using this
theorem desk_later {w w1 w2 : World} {t u : Tm} {s v : Value} (h : Desk w t u s v w1) (hb : Below w1.heap.size w1 w2) : Desk w t u s v w2 := below_call h hb (by have := desk_size h; omega)
theorem desk_trans {w w1 w2 : World} {t u : Tm} {s v : Value} (h : Desk w t u s v w1) (hb : Below (w.heap.size + 3) w1 w2) : Desk w t u s v w2 := Below.trans h hb

/-- The kids of the built term are laid into it. -/
theorem desk_set {w w1 : World} {t u : Tm} {s v v' : Value} (h : Desk w t u s v w1) : Desk w t u s v' (w1.setCell ⟨w.heap.size + 2, 4, none⟩ v') := by
  obtain ⟨h0, h1, h2, h3⟩ := heap_three w (boxOf t s) zeroObj (boxOf u v')
  obtain ⟨g0, g1, g2⟩ := desk_blocks h
  refine ⟨(Below.os h).trans rfl, (Below.tape h).trans rfl, (Below.output h).trans rfl, by have := desk_size h; simp [World.setCell]; omega, fun k hk => ?_⟩
  by_cases e2 : k = w.heap.size + 2
  · subst e2
    rw [h2, heap_setCell_same _ _ _ _ _ _ g2]; rfl
  · rw [Below.heap_setCell _ _ _ _ (by exact e2)]
    by_cases e1 : k = w.heap.size + 1
    · subst e1; rw [h1, g1]
    · by_cases e0 : k = w.heap.size
      · subst e0; rw [h0, g0]
      · rw [h3 k (by omega), (desk_under h).block k (by omega)]

theorem desk_put {w w1 : World} {t u : Tm} {s v : Value} (h : Desk w t u s v w1) {g : Nat} (hg : w.heap.size + 3 ≤ g) (o : Nat) (x : Tm) (sx : Value) : Desk w t u s v (put5 w1 g o x sx) :=
  Below.trans h ⟨(put5_rest _ _ _ _ _).1, (put5_rest _ _ _ _ _).2.1, (put5_rest _ _ _ _ _).2.2, by rw [put5_size]; exact Nat.le_refl _, fun k hk => put5_other _ _ _ _ _ (by omega)⟩

/-- A list that was just made whole: zero terms. -/
theorem cells5_zeros : ∀ n : Nat, (cells5 (List.replicate n (Tm.zero, Value.slice none 0 0))) = (madeCells #[.int .i64 0, .int .i64 0, .int .i64 0, .int .i64 0, .slice none 0 0] (n * 5)).toList := by
  intro n
  apply List.ext_getElem?
  intro j
  by_cases hj : j < n * 5
  · have h5 : j % 5 < 5 := Nat.mod_lt _ (by omega)
    have hd : j / 5 < n := by omega
    have e : j = j / 5 * 5 + j % 5 := by omega
    have h1 := cells5_get (List.replicate n (Tm.zero, Value.slice none 0 0)) (j / 5) (by simpa using hd) (j % 5) h5
    rw [← e] at h1
    rw [h1]
    simp only [List.getElem_replicate]
    have hz : (madeCells #[Value.int .i64 0, .int .i64 0, .int .i64 0, .int .i64 0, .slice none 0 0] (n * 5)).toList[j]? = some (#[Value.int .i64 0, .int .i64 0, .int .i64 0, .int .i64 0, .slice none 0 0][j % 5]!) := by simp [madeCells, hj]
    rw [hz]
    generalize j % 5 = q at h5
    match q, h5 with
    | 0, _ => rfl
    | 1, _ => rfl
    | 2, _ => rfl
    | 3, _ => rfl
    | 4, _ => rfl
  · rw [List.getElem?_eq_none (by rw [cells5_length]; simp; omega), List.getElem?_eq_none (by simp [madeCells]; omega)]

theorem zero_fine : Tm.zero.fine := by simp [Tm.zero, Tm.fine, I64, Tm.k, Tm.i, Tm.j, Tm.n]
theorem full_made {B : Nat} {w : World} {g n : Nat} (h : w.ownsRow B 26 5 (.slice (some ⟨g, 0, none⟩) n n) n (madeCells #[.int .i64 0, .int .i64 0, .int .i64 0, .int .i64 0, .slice none 0 0] (n * 5)).toList) :
    Full B w g (List.replicate n (Tm.zero, .slice none 0 0)) := by
  rw [← cells5_zeros] at h
  have hb : B ≤ g ∧ ∃ cs, w.heap[g]? = some (.cells cs 26 (0, 0)) := by
    obtain ⟨-, ⟨h1, -⟩ | ⟨g', cap, cur, h1, h2, h3, -⟩⟩ := h
    · cases h1
    · obtain rfl : g = g' := by simp only [Value.slice.injEq, Option.some.injEq, Addr.mk.injEq] at h1; exact h1.1.1
      exact ⟨h2, cur, h3⟩
  refine ⟨hb.1, hb.2, fun i hi => ?_, fun p hp => ?_, fun p hp => ?_⟩
  · have cellq : ∀ q, q < 5 → w.cell? ⟨g, i * 5 + q, none⟩ = [Value.int .i64 ((List.replicate n (Tm.zero, Value.slice none 0 0))[i]).1.k, .int .i64 ((List.replicate n (Tm.zero, Value.slice none 0 0))[i]).1.i, .int .i64 ((List.replicate n (Tm.zero, Value.slice none 0 0))[i]).1.j, .int .i64 ((List.replicate n (Tm.zero, Value.slice none 0 0))[i]).1.n, ((List.replicate n (Tm.zero, Value.slice none 0 0))[i]).2][q]? := fun q hq => by
      rw [h.cellAt (i * 5 + q) (by simp at hi; omega)]; exact cells5_get _ i hi q hq
    exact ⟨cellq 0 (by omega), cellq 1 (by omega), cellq 2 (by omega), cellq 3 (by omega), cellq 4 (by omega)⟩
  · rw [(List.mem_replicate.1 hp).2]; exact zero_fine
  · rw [(List.mem_replicate.1 hp).2]; exact liesP_nil _ _

theorem Full.below {B g b o : Nat} {w : World} {xs : List (Tm × Value)} (h : Full B w g xs) (hb : b < B) (v : Value) : Full B (w.setCell ⟨b, o, none⟩ v) g xs := by
  have hg := h.above
  have hk : ∀ b', B ≤ b' → (w.setCell ⟨b, o, none⟩ v).heap[b']? = w.heap[b']? := fun b' hb' => Below.heap_setCell _ _ _ _ (by show b' ≠ b; omega)
  exact ⟨hg, by rw [hk g hg]; exact h.open', fun i hi => (h.node i hi).same (hk g hg), h.fine, fun p hp => (h.kids p hp).keep (fun b' hb' _ => hk b' hb'.1.1) (fun b' hb' _ => ⟨hb'.1.same (hk b' hb'.1.1), hb'.2⟩)⟩

/-- The kid's box, and a cell that was there: what the round's region reads. -/
theorem held_and {w w' : World} {t : Tm} {s v : Value} {p : Addr} (h : Held w t s w') (hp : w.cell? p = some v) : Held w t s w' ∧ w'.cell? p = some v ∧ w'.cell? ⟨w.heap.size, 0, none⟩ = some (.int .i64 t.k) ∧ w'.cell? ⟨w.heap.size, 1, none⟩ = some (.int .i64 t.i) ∧ w'.cell? ⟨w.heap.size, 2, none⟩ = some (.int .i64 t.j) ∧ w'.cell? ⟨w.heap.size, 3, none⟩ = some (.int .i64 t.n) ∧ w'.cell? ⟨w.heap.size, 4, none⟩ = some s :=
  ⟨h, cell_lat (held_below h) hp, held_cells h⟩
theorem held_alloc {w w1 : World} {t : Tm} {s : Value} (h : Held w t s w1) (o : Obj) : Held w t s (w1.alloc o) := Below.alloc h (by have := Below.size h; simpa using this) o
theorem held_size {w w1 : World} {t : Tm} {s : Value} (h : Held w t s w1) : w.heap.size + 1 ≤ w1.heap.size := by have := Below.size h; simpa using this
/-- A new block of zeros, asked for behind a call. -/
theorem zero_cells {W wn : World} {N : Nat} (hN : W.heap[N]? = some zeroObj) (h : Below W.heap.size W wn) : (wn.cell? ⟨N, 0, none⟩ = some (.int .i64 0) ∧ wn.cell? ⟨N, 1, none⟩ = some (.int .i64 0) ∧ wn.cell? ⟨N, 2, none⟩ = some (.int .i64 0) ∧ wn.cell? ⟨N, 3, none⟩ = some (.int .i64 0) ∧ wn.cell? ⟨N, 4, none⟩ = some (.slice none 0 0)) ∧
    wn.frozen? ⟨N, 0, none⟩ = false ∧ wn.frozen? ⟨N, 1, none⟩ = false ∧ wn.frozen? ⟨N, 2, none⟩ = false ∧ wn.frozen? ⟨N, 3, none⟩ = false ∧ wn.frozen? ⟨N, 4, none⟩ = false := by
  have hb := h.block N (Array.getElem?_eq_some_iff.1 hN).1
  rw [hN] at hb
  exact ⟨five_cells hb, five_free hb⟩

theorem zero_cells_new {wr wn : World} {A : Obj} (h : Below ((wr.alloc A).alloc (.cells #[.int .i64 0, .int .i64 0, .int .i64 0, .int .i64 0, .slice none 0 0] 26)).drew.heap.size ((wr.alloc A).alloc (.cells #[.int .i64 0, .int .i64 0, .int .i64 0, .int .i64 0, .slice none 0 0] 26)).drew wn) :
    (wn.cell? ⟨wr.heap.size + 1, 0, none⟩ = some (.int .i64 0) ∧ wn.cell? ⟨wr.heap.size + 1, 1, none⟩ = some (.int .i64 0) ∧ wn.cell? ⟨wr.heap.size + 1, 2, none⟩ = some (.int .i64 0) ∧ wn.cell? ⟨wr.heap.size + 1, 3, none⟩ = some (.int .i64 0) ∧ wn.cell? ⟨wr.heap.size + 1, 4, none⟩ = some (.slice none 0 0)) ∧
    wn.frozen? ⟨wr.heap.size + 1, 0, none⟩ = false ∧ wn.frozen? ⟨wr.heap.size + 1, 1, none⟩ = false ∧ wn.frozen? ⟨wr.heap.size + 1, 2, none⟩ = false ∧ wn.frozen? ⟨wr.heap.size + 1, 3, none⟩ = false ∧ wn.frozen? ⟨wr.heap.size + 1, 4, none⟩ = false :=
  zero_cells (W := ((wr.alloc A).alloc zeroObj).drew) (show ((wr.alloc A).alloc zeroObj).heap[wr.heap.size + 1]? = some zeroObj from heap_alloc2_new wr A zeroObj) h
theorem zero_blocks_new {wr wn : World} {A : Obj} (h : Below ((wr.alloc A).alloc zeroObj).drew.heap.size ((wr.alloc A).alloc zeroObj).drew wn) : wn.heap[wr.heap.size + 1]? = some zeroObj := by
  have hN : ((wr.alloc A).alloc zeroObj).heap[wr.heap.size + 1]? = some zeroObj := heap_alloc2_new wr A zeroObj
  have hb := h.block (wr.heap.size + 1) (by have := (Array.getElem?_eq_some_iff.1 hN).1; exact this)
  exact hb.trans hN
theorem below_from {B : Nat} {w w' : World} (h : Below w.heap.size w w') (hB : B ≤ w.heap.size) : Below B w w' := h.mono hB
theorem held_five {w w1 : World} {t : Tm} {s : Value} (h : Held w t s w1) (v0 v1 v2 v3 v4 : Value) : Held w t s (((((w1.setCell ⟨w.heap.size + 1, 0, none⟩ v0).setCell ⟨w.heap.size + 1, 1, none⟩ v1).setCell ⟨w.heap.size + 1, 2, none⟩ v2).setCell ⟨w.heap.size + 1, 3, none⟩ v3).setCell ⟨w.heap.size + 1, 4, none⟩ v4) :=
  held_set (held_set (held_set (held_set (held_set h (Nat.le_refl _) _) (Nat.le_refl _) _) (Nat.le_refl _) _) (Nat.le_refl _) _) (Nat.le_refl _) _
/-- What was made lies there still when an older block of the call's own is written. -/
theorem liesP_five {N : Nat} {w : World} {l : List Tm} {s : Value} (h : LiesP w (Own (N + 2) w) l s) (v0 v1 v2 v3 v4 : Value) :
    LiesP (((((w.setCell ⟨N + 1, 0, none⟩ v0).setCell ⟨N + 1, 1, none⟩ v1).setCell ⟨N + 1, 2, none⟩ v2).setCell ⟨N + 1, 3, none⟩ v3).setCell ⟨N + 1, 4, none⟩ v4) (Own N (((((w.setCell ⟨N + 1, 0, none⟩ v0).setCell ⟨N + 1, 1, none⟩ v1).setCell ⟨N + 1, 2, none⟩ v2).setCell ⟨N + 1, 3, none⟩ v3).setCell ⟨N + 1, 4, none⟩ v4)) l s := by
  have hb : ∀ b, N + 2 ≤ b → (((((w.setCell ⟨N + 1, 0, none⟩ v0).setCell ⟨N + 1, 1, none⟩ v1).setCell ⟨N + 1, 2, none⟩ v2).setCell ⟨N + 1, 3, none⟩ v3).setCell ⟨N + 1, 4, none⟩ v4).heap[b]? = w.heap[b]? := fun b hb => by
    have hne : b ≠ N + 1 := by omega
    repeat rw [Below.heap_setCell _ _ _ _ (by exact hne)]
  exact h.keep (fun b hp _ => hb b hp.1) (fun b hp _ => (hp.from (by omega)).same (hb b hp.1))
theorem take_set_next {α : Type} (l : List α) (q : Nat) (x : α) (h : q < l.length) : (l.set q x).take (q + 1) = l.take q ++ [x] := by
  rw [List.take_succ_eq_append_getElem (by simpa using h), List.getElem_set_self, List.take_set_of_le (Nat.le_refl _)]
/-- The list that was filled, behind the store of the result. -/
theorem five_lies {N n : Nat} {w : World} {l : List Tm} {m : Nat} (h : LiesP w (Own (N + 3) w) l (.slice (some ⟨N + 3, 0, none⟩) m n)) (hm : m = n) (v0 v1 v2 v3 v4 : Value) :
    LiesP (((((w.setCell ⟨N + 1, 0, none⟩ v0).setCell ⟨N + 1, 1, none⟩ v1).setCell ⟨N + 1, 2, none⟩ v2).setCell ⟨N + 1, 3, none⟩ v3).setCell ⟨N + 1, 4, none⟩ v4) (Own N (((((w.setCell ⟨N + 1, 0, none⟩ v0).setCell ⟨N + 1, 1, none⟩ v1).setCell ⟨N + 1, 2, none⟩ v2).setCell ⟨N + 1, 3, none⟩ v3).setCell ⟨N + 1, 4, none⟩ v4)) l (.slice (some ⟨N + 3, 0, none⟩) n n) := by
  subst hm
  exact liesP_five (h.from (by omega)) v0 v1 v2 v3 v4
theorem right_each (f : Int → Int → Option Int) (hf : ∀ v b w, 0 ≤ v → v ≤ 2147483647 → f v b = some w → 0 ≤ w ∧ w ≤ 2147483647) (t : Tm) (b : Int) (u : Tm) (hr : t.rightB = true) (h : t.each f b = some u) : u.rightB = true := by
  obtain ⟨h1, h2, -⟩ := each_keeps f hf t b u hr h
  unfold Tm.rightB at hr ⊢; rw [h1, h2]; exact hr
def GivesNone (w : World) (e : Ending) (w' : World) : Prop := (∃ z : Tm, e = .returned (.tuple #[tv z (.slice none 0 0), .bool false])) ∧ Below w.heap.size w w'
def GivesSome (u : Tm) (w : World) (e : Ending) (w' : World) : Prop := (∃ s', e = .returned (.tuple #[tv u s', .bool true]) ∧ LiesP w' (Own w.heap.size w') u.kids s') ∧ Below w.heap.size w w'
theorem Gives.none {w w' : World} {e : Ending} (h : Gives none w e w') : GivesNone w e w' := by
  obtain ⟨hb, ⟨u, s', h1, -⟩ | ⟨z, -, -, h2⟩⟩ := h
  · cases h1
  · exact ⟨⟨z, h2⟩, hb⟩
theorem Gives.some {u : Tm} {w w' : World} {e : Ending} (h : Gives (some u) w e w') : GivesSome u w e w' := by
  obtain ⟨hb, ⟨u', s', h1, h2, h3⟩ | ⟨z, h1, -⟩⟩ := h
  · cases h1; exact ⟨⟨s', h2, h3⟩, hb⟩
  · cases h1
end Go.Proofs.Ytjhdcjjoignioaa
