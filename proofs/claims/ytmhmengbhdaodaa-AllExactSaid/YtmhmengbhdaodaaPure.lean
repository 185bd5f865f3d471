/-
  erase.pure copies a marked term without its transports.
-/
import Derived.Test.YtmhmengbhdaodaaUnder
import Derived.Test.YtmhmengbhdaodaaLawKit
import Derived.Test.YtmhmengbhdaodaaLiftFacts
import Derived.Deep.RegionHeld3
import Derived.Deep.DeepCutAuto
namespace Go.Proofs.Ytmhmengbhdaodaa
open Go.RowKit

/-- A box at its place. -/
def Boxed (n : Nat) (x : Tm) (s : Value) (w : World) : Prop := w.heap[n]? = some (boxOf x s)
theorem boxed_drew {n : Nat} {x : Tm} {s : Value} {w : World} (h : Boxed n x s w) : Boxed n x s w.drew := h
theorem boxed_call {n : Nat} {x : Tm} {s : Value} {w w' : World} (h : Boxed n x s w) (hb : Below w.heap.size w w') : Boxed n x s w' := by
  unfold Boxed; rw [hb.block _ (Array.getElem?_eq_some_iff.1 h).1]; exact h
/-- The maker's blocks stay, and the kid's box. -/
def Both (v : World) (n : Nat) (x : Tm) (s : Value) (w : World) : Prop := Kept v w ∧ Boxed n x s w
theorem both_drew {v w : World} {n : Nat} {x : Tm} {s : Value} (h : Both v n x s w) : Both v n x s w.drew := ⟨kept_drew h.1, h.2⟩
theorem both_call {v w w' : World} {n : Nat} {x : Tm} {s : Value} (h : Both v n x s w) (hb : Below w.heap.size w w') : Both v n x s w' := ⟨kept_call h.1 hb, boxed_call h.2 hb⟩
theorem both_set {v w : World} {n g : Nat} {x : Tm} {s : Value} (h : Both v n x s w) (hg : v.heap.size ≤ g ∧ g < n) (o : Nat) (y : Value) : Both v n x s (w.setCell ⟨g, o, none⟩ y) :=
  ⟨Below.setCell h.1 hg.1 _, by unfold Boxed; rw [Below.heap_setCell _ _ _ _ (by show n ≠ g; omega)]; exact h.2⟩
theorem both_and {v w : World} {n : Nat} {x : Tm} {s c : Value} {p : Addr} (h : Both v n x s w) (hp : v.cell? p = some c) : Both v n x s w ∧ w.cell? p = some c ∧ w.cell? ⟨n, 0, none⟩ = some (.int .i64 x.k) ∧ w.cell? ⟨n, 1, none⟩ = some (.int .i64 x.i) ∧ w.cell? ⟨n, 2, none⟩ = some (.int .i64 x.j) ∧ w.cell? ⟨n, 3, none⟩ = some (.int .i64 x.n) ∧ w.cell? ⟨n, 4, none⟩ = some s := by
  obtain ⟨c0, c1, c2, c3, c4⟩ := five_cells h.2
  exact ⟨h, cell_lat h.1 hp, c0, c1, c2, c3, c4⟩
/-- The kids of the term that is built are laid into it. -/
theorem kept_setv {w w1 : World} {k i j n v v' : Value} (h : Below (w.heap.size + 1) (w.alloc (.cells #[k, i, j, n, v] 24)) w1) : Kept (w.alloc (.cells #[k, i, j, n, v'] 24)) (w1.setCell ⟨w.heap.size, 4, none⟩ v') := by
  have hs := h.size
  have hm : w1.heap[w.heap.size]? = some (.cells #[k, i, j, n, v] 24 (0, 0)) := by rw [h.block _ (by omega)]; exact alloc_new _ _
  refine ⟨h.os, h.tape, h.output, by simpa [World.setCell] using hs, fun b hb => ?_⟩
  have hb' : b < w.heap.size + 1 := by simpa using hb
  by_cases e : b = w.heap.size
  · subst e
    rw [heap_setCell_same _ _ _ _ _ _ hm, alloc_new]; rfl
  · rw [Below.heap_setCell _ _ _ _ (by exact e), h.block b hb', Below.heap_alloc _ _ _ (by omega), Below.heap_alloc _ _ _ (by omega)]

theorem kept_put5 {v w : World} {g : Nat} (h : Kept v w) (hg : v.heap.size ≤ g) (o : Nat) (x : Tm) (sx : Value) : Kept v (put5 w g o x sx) :=
  (((((Below.setCell h hg _).setCell hg _).setCell hg _).setCell hg _).setCell hg _)
theorem pur_fine {t : Tm} (h : t.markedB = true) : t.pur.fine := by
  rw [pur_und t h]
  have hf := right_fine (marked_right (und_marked t h).1)
  exact ⟨hf.1, hf.2.1, hf.2.2.1, by show I64 0; unfold I64; omega⟩

end Go.Proofs.Ytmhmengbhdaodaa
