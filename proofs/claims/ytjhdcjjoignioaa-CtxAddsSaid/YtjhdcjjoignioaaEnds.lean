/-
  Ends of makers: the result is stored into a block of the call's own; what was made lies there still.
-/
import Derived.Test.YtjhdcjjoignioaaDesk
namespace Go.Proofs.Ytjhdcjjoignioaa
open Go.RowKit

/-- Five cells of one block are written. -/
abbrev five (w : World) (g : Nat) (v0 v1 v2 v3 v4 : Value) : World := ((((w.setCell ⟨g, 0, none⟩ v0).setCell ⟨g, 1, none⟩ v1).setCell ⟨g, 2, none⟩ v2).setCell ⟨g, 3, none⟩ v3).setCell ⟨g, 4, none⟩ v4
theorem five_size (w : World) (g : Nat) (v0 v1 v2 v3 v4 : Value) : (five w g v0 v1 v2 v3 v4).heap.size = w.heap.size := by simp [five, World.setCell]
theorem five_other (w : World) (g : Nat) (v0 v1 v2 v3 v4 : Value) {b : Nat} (h : b ≠ g) : (five w g v0 v1 v2 v3 v4).heap[b]? = w.heap[b]? := by
  unfold five; repeat rw [Below.heap_setCell _ _ _ _ (by exact h)]
theorem five_alloc {w : World} {g : Nat} {T : TypeId} {z0 z1 z2 z3 z4 : Value} (h : w.heap[g]? = some (.cells #[z0, z1, z2, z3, z4] T (0, 0))) (v0 v1 v2 v3 v4 : Value) (X : Obj) : ((five w g v0 v1 v2 v3 v4).alloc X).heap[g]? = some (.cells #[v0, v1, v2, v3, v4] T (0, 0)) := by
  rw [Below.heap_alloc _ _ _ (by rw [five_size]; exact (Array.getElem?_eq_some_iff.1 h).1)]
  exact five_set h
theorem below_five {B : Nat} {w w1 : World} (h : Below B w w1) {g : Nat} (hg : B ≤ g) (v0 v1 v2 v3 v4 : Value) : Below B w (five w1 g v0 v1 v2 v3 v4) :=
  ((((h.setCell hg _).setCell hg _).setCell hg _).setCell hg _).setCell hg _
theorem below_five_alloc {B : Nat} {w w1 : World} (h : Below B w w1) (hB : B ≤ w1.heap.size) {g : Nat} (hg : B ≤ g) (v0 v1 v2 v3 v4 : Value) (X : Obj) : Below B w ((five w1 g v0 v1 v2 v3 v4).alloc X) :=
  (below_five h hg v0 v1 v2 v3 v4).alloc (by rw [five_size]; exact hB) X
theorem liesP_fives {B N g : Nat} {w : World} {l : List Tm} {s : Value} (h : LiesP w (Own B w) l s) (hg : g < B) (hN : N ≤ B) (v0 v1 v2 v3 v4 : Value) : LiesP (five w g v0 v1 v2 v3 v4) (Own N (five w g v0 v1 v2 v3 v4)) l s :=
  h.keep (fun b hp _ => five_other w g v0 v1 v2 v3 v4 (by have := hp.1; omega)) (fun b hp _ => (hp.from hN).same (five_other w g v0 v1 v2 v3 v4 (by have := hp.1; omega)))
theorem liesP_fives_alloc {B N g : Nat} {w : World} {l : List Tm} {s : Value} (h : LiesP w (Own B w) l s) (hg : g < B) (hN : N ≤ B) (v0 v1 v2 v3 v4 : Value) (X : Obj) : LiesP ((five w g v0 v1 v2 v3 v4).alloc X) (Own N ((five w g v0 v1 v2 v3 v4).alloc X)) l s :=
  (liesP_fives h hg hN v0 v1 v2 v3 v4).later ((Below.refl _ _).alloc (Nat.le_refl _) _)
theorem liesP_set {B N g o : Nat} {w : World} {l : List Tm} {s : Value} (h : LiesP w (Own B w) l s) (hg : g < B) (hN : N ≤ B) (v : Value) : LiesP (w.setCell ⟨g, o, none⟩ v) (Own N (w.setCell ⟨g, o, none⟩ v)) l s :=
  h.keep (fun b hp _ => Below.heap_setCell _ _ _ _ (by show b ≠ g; have := hp.1; omega)) (fun b hp _ => (hp.from hN).same (Below.heap_setCell _ _ _ _ (by show b ≠ g; have := hp.1; omega)))
theorem below_three (w : World) (a b c : Obj) : Below w.heap.size w (((w.alloc a).alloc b).alloc c) := (((Below.refl _ _).alloc (Nat.le_refl _) _).alloc (by simp) _).alloc (by simp <;> omega) _
/-- The cells of a term that lies in the second of two new blocks. -/
theorem news_new2 (w : World) (o : Obj) (t : Tm) (s : Value) (T : TypeId) : ∀ j u, (cells5 [(t, s)])[j]? = some u → ((w.alloc o).alloc (.cells #[.int .i64 t.k, .int .i64 t.i, .int .i64 t.j, .int .i64 t.n, s] T)).cell? ((⟨w.heap.size + 1, 0, none⟩ : Addr).add j) = some u := by
  have := news_new (w.alloc o) t s T
  simpa using this
/-- What a kid's call has made is appended; the maker's own blocks stay. -/
theorem push_after {w wr w2 w3 : World} {t t' : Tm} {s v vl : Value} {ps : List (Tm × Value)} {u : Tm} {s2 : Value} {g cap : Nat} (hd : Desk w t t' s vl wr) (h : Made (w.heap.size + 3) wr v ps) (hf : u.fine) (hb2 : Below wr.heap.size wr w2) (hk : LiesP w2 (Own wr.heap.size w2) u.kids s2) (o o' : Obj)
    (hown : w3.ownsRow (w.heap.size + 3) 26 5 (.slice (some ⟨g, 0, none⟩) (ps.length + 1) cap) (ps.length + 1) (cells5 ps ++ cells5 [(u, s2)])) (hgrow : ((w2.alloc o).alloc o').grownBy w3 v.ownBlock) (hat : v.ownBlock = some g ∨ g = w2.heap.size + 1 + 1) :
    Made (w.heap.size + 3) w3 (.slice (some ⟨g, 0, none⟩) (ps.length + 1) cap) (ps ++ [(u, s2)]) ∧ Desk w t t' s vl w3 := by
  have hb3 : Below wr.heap.size wr (w2.alloc o) := hb2.alloc hb2.size o
  have hk3 : LiesP (w2.alloc o) (Own wr.heap.size (w2.alloc o)) u.kids s2 := hk.later ((Below.refl _ _).alloc (Nat.le_refl _) _)
  exact ⟨made_push h hf (desk_size hd) hb3 hk3 o' hown hgrow (by simpa using hat), desk_trans hd (below_push h (Below.refl _ _) (desk_size hd) hb3 o' hgrow)⟩
theorem desk_drew {w w1 : World} {t u : Tm} {s v : Value} (h : Desk w t u s v w1) : Desk w t u s v w1.drew := Below.drew h
theorem desk_alloc {w w1 : World} {t u : Tm} {s v : Value} (h : Desk w t u s v w1) (o : Obj) : Desk w t u s v (w1.alloc o) := Below.alloc h (Below.size h |> fun hs => by simpa using hs) o
/-- The maker's own blocks, and an element of the list that it reads: what the region of a round loads. -/
theorem desk_and {w w' : World} {t u x : Tm} {s v sx : Value} {b o : Nat} (h : Desk w t u s v w') (hx : Node w b o x sx) : Desk w t u s v w' ∧ w'.cell? ⟨w.heap.size, 0, none⟩ = some (.int .i64 t.k) ∧ w'.cell? ⟨w.heap.size, 4, none⟩ = some s ∧
    w'.cell? ⟨b, o, none⟩ = some (.int .i64 x.k) ∧ w'.cell? ⟨b, o + 1, none⟩ = some (.int .i64 x.i) ∧ w'.cell? ⟨b, o + 2, none⟩ = some (.int .i64 x.j) ∧ w'.cell? ⟨b, o + 3, none⟩ = some (.int .i64 x.n) ∧ w'.cell? ⟨b, o + 4, none⟩ = some sx := by
  obtain ⟨q0, -, -⟩ := desk_blocks h
  obtain ⟨d0, -, -, -, d4⟩ := five_cells q0
  obtain ⟨c0, c1, c2, c3, c4⟩ := hx.below (desk_under h) hx.lt
  exact ⟨h, d0, d4, c0, c1, c2, c3, c4⟩
/-- What a kid's call has made is appended at once. -/
theorem push_once {w wr w2 w3 : World} {t t' : Tm} {s v vl : Value} {ps : List (Tm × Value)} {u : Tm} {s2 : Value} {g cap : Nat} (hd : Desk w t t' s vl wr) (h : Made (w.heap.size + 3) wr v ps) (hf : u.fine) (hb2 : Below wr.heap.size wr w2) (hk : LiesP w2 (Own wr.heap.size w2) u.kids s2) (o : Obj)
    (hown : w3.ownsRow (w.heap.size + 3) 26 5 (.slice (some ⟨g, 0, none⟩) (ps.length + 1) cap) (ps.length + 1) (cells5 ps ++ cells5 [(u, s2)])) (hgrow : (w2.alloc o).grownBy w3 v.ownBlock) (hat : v.ownBlock = some g ∨ g = (w2.alloc o).heap.size) :
    Made (w.heap.size + 3) w3 (.slice (some ⟨g, 0, none⟩) (ps.length + 1) cap) (ps ++ [(u, s2)]) ∧ Desk w t t' s vl w3 :=
  ⟨made_push h hf (desk_size hd) hb2 hk o hown hgrow (by simpa using hat), desk_trans hd (below_push h (Below.refl _ _) (desk_size hd) hb2 o hgrow)⟩
theorem one5 (t : Tm) (s : Value) (hs : s.oneCell' = true := by rfl) : ∀ v ∈ cells5 [(t, s)], v.oneCell' = true := by
  intro v hv; simp [cells5] at hv; rcases hv with rfl | rfl | rfl | rfl | rfl
  · rfl
  · rfl
  · rfl
  · rfl
  · exact hs
/-- What a call hands back that makes a term, or the zero term and false. -/
def GivesZ (r : Option Tm) (w : World) (e : Ending) (w' : World) : Prop := Below w.heap.size w w' ∧
  ((∃ u s', r = some u ∧ e = .returned (.tuple #[tv u s', .bool true]) ∧ LiesP w' (Own w.heap.size w') u.kids s') ∨ (r = none ∧ e = .returned (.tuple #[tv Tm.zero (.slice none 0 0), .bool false])))
theorem GivesZ.none {w w' : World} {e : Ending} (h : GivesZ none w e w') : e = .returned (.tuple #[tv Tm.zero (.slice none 0 0), .bool false]) ∧ Below w.heap.size w w' := by
  obtain ⟨hb, ⟨u, s', h1, -⟩ | ⟨-, h2⟩⟩ := h
  · cases h1
  · exact ⟨h2, hb⟩
theorem GivesZ.some {u : Tm} {w w' : World} {e : Ending} (h : GivesZ (some u) w e w') : GivesSome u w e w' := by
  obtain ⟨hb, ⟨u', s', h1, h2, h3⟩ | ⟨h1, -⟩⟩ := h
  · cases h1; exact ⟨⟨s', h2, h3⟩, hb⟩
  · cases h1
theorem above3 (N : Nat) : N ≤ N + 3 := by omega
end Go.Proofs.Ytjhdcjjoignioaa
