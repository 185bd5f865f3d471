/-
  The boxed term and the box of the result.
-/
import Derived.Test.YtjhdcjjoignioaaEnds
namespace Go.Proofs.Ytjhdcjjoignioaa
open Go.RowKit
theorem boxes_two {w w' : World} {t : Tm} {s : Value} (h : Boxes w t s w') : w'.heap[w.heap.size]? = some (boxOf t s) ∧ w'.heap[w.heap.size + 1]? = some zeroObj := by
  refine ⟨?_, boxes_block h⟩
  rw [Below.block h _ (by omega), Below.heap_alloc _ _ _ (by simp), alloc_new]

theorem small_fine (k i : Int) (l : List Tm) (hk : I64 k) (hi : I64 i) : (Tm.mk k i 0 0 l).fine := ⟨hk, hi, by show I64 0; unfold I64; omega, by show I64 0; unfold I64; omega⟩
theorem small_I64 (n : Nat) (h : n < 1000) : I64 (n : Int) := by unfold I64; omega
end Go.Proofs.Ytjhdcjjoignioaa
