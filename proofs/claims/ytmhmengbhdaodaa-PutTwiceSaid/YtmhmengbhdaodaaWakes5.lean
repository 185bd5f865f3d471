/-
  The layer's own sentence, transhiplaw05.wakes, is true.
-/
import Derived.Test.YtmhmengbhdaodaaBoxes
import Derived.Test.YtmhmengbhdaodaaLift
import Derived.Test.YtmhmengbhdaodaaRename
import Derived.Test.YtmhmengbhdaodaaRow
namespace Go.Proofs.Ytmhmengbhdaodaa
open Go.RowKit

def wake5 : Tm := .mk 14 0 0 0 [.mk 1 0 0 0 [], .mk 15 0 0 0 [.mk 2 0 0 0 [], .mk 2 1 0 0 []]]
def wake5w (w : World) : World := ((w.alloc (.cells #[.int .i64 2, .int .i64 0, .int .i64 0, .int .i64 0, .slice none 0 0, .int .i64 2, .int .i64 1, .int .i64 0, .int .i64 0, .slice none 0 0] 24)).alloc (.cells #[.int .i64 1, .int .i64 0, .int .i64 0, .int .i64 0, .slice none 0 0, .int .i64 15, .int .i64 0, .int .i64 0, .int .i64 0, .slice (some ⟨w.heap.size, 0, none⟩) 2 2] 24)).alloc (.cells #[.int .i64 14, .int .i64 0, .int .i64 0, .int .i64 0, .slice (some ⟨w.heap.size + 1, 0, none⟩) 2 2] 24)
theorem wake5_heap (w : World) : (wake5w w).heap[w.heap.size]? = some (.cells #[.int .i64 2, .int .i64 0, .int .i64 0, .int .i64 0, .slice none 0 0, .int .i64 2, .int .i64 1, .int .i64 0, .int .i64 0, .slice none 0 0] 24) ∧ (wake5w w).heap[w.heap.size + 1]? = some (.cells #[.int .i64 1, .int .i64 0, .int .i64 0, .int .i64 0, .slice none 0 0, .int .i64 15, .int .i64 0, .int .i64 0, .int .i64 0, .slice (some ⟨w.heap.size, 0, none⟩) 2 2] 24) ∧ (wake5w w).heap[w.heap.size + 2]? = some (.cells #[.int .i64 14, .int .i64 0, .int .i64 0, .int .i64 0, .slice (some ⟨w.heap.size + 1, 0, none⟩) 2 2] 24) := by
  obtain ⟨h0, h1, h2, -⟩ := heap_three w (.cells #[.int .i64 2, .int .i64 0, .int .i64 0, .int .i64 0, .slice none 0 0, .int .i64 2, .int .i64 1, .int .i64 0, .int .i64 0, .slice none 0 0] 24) (.cells #[.int .i64 1, .int .i64 0, .int .i64 0, .int .i64 0, .slice none 0 0, .int .i64 15, .int .i64 0, .int .i64 0, .int .i64 0, .slice (some ⟨w.heap.size, 0, none⟩) 2 2] 24) (.cells #[.int .i64 14, .int .i64 0, .int .i64 0, .int .i64 0, .slice (some ⟨w.heap.size + 1, 0, none⟩) 2 2] 24)
  exact ⟨h0, h1, h2⟩
theorem wake5_lies (w : World) : Lies (wake5w w) wake5.kids (.slice (some ⟨w.heap.size + 1, 0, none⟩) 2 2) := by
  obtain ⟨h0, h1, -⟩ := wake5_heap w
  have c0 := fun q => cell_of_row (wake5w w) w.heap.size q _ _ _ h0
  have c1 := fun q => cell_of_row (wake5w w) (w.heap.size + 1) q _ _ _ h1
  have hin : Lies (wake5w w) [.mk 2 0 0 0 [], .mk 2 1 0 0 []] (.slice (some ⟨w.heap.size, 0, none⟩) 2 2) :=
    Row.lies (ps := [(.mk 2 0 0 0 [], .slice none 0 0), (.mk 2 1 0 0 [], .slice none 0 0)]) ⟨⟨by rw [c0]; rfl, by rw [c0]; rfl, by rw [c0]; rfl, by rw [c0]; rfl, by rw [c0]; rfl⟩, small_fine _ _ _ (small_I64 2 (by decide)) (small_I64 0 (by decide)), lies_nil _, ⟨by rw [c0]; rfl, by rw [c0]; rfl, by rw [c0]; rfl, by rw [c0]; rfl, by rw [c0]; rfl⟩, small_fine _ _ _ (small_I64 2 (by decide)) (small_I64 1 (by decide)), lies_nil _, trivial⟩ (by decide) (by decide)
  exact Row.lies (ps := [(.mk 1 0 0 0 [], .slice none 0 0), (.mk 15 0 0 0 [.mk 2 0 0 0 [], .mk 2 1 0 0 []], .slice (some ⟨w.heap.size, 0, none⟩) 2 2)]) ⟨⟨by rw [c1]; rfl, by rw [c1]; rfl, by rw [c1]; rfl, by rw [c1]; rfl, by rw [c1]; rfl⟩, small_fine _ _ _ (small_I64 1 (by decide)) (small_I64 0 (by decide)), lies_nil _, ⟨by rw [c1]; rfl, by rw [c1]; rfl, by rw [c1]; rfl, by rw [c1]; rfl, by rw [c1]; rfl⟩, small_fine _ _ _ (small_I64 15 (by decide)) (small_I64 0 (by decide)), hin, trivial⟩ (Nat.le_refl 2) (by decide)
theorem wake5_below (w : World) : Below w.heap.size w (wake5w w) := below_three _ _ _ _

/-- What wakes asks of a result of this shape: its second kid's list, and that list's numbers. -/
theorem deep_cells {w : World} {P : Nat → Prop} {k i j : Int} {z : Tm} {k' i' j' n' : Int} {x y : Tm} {s : Value} (h : LiesP w P (Tm.mk 14 k i j [z, .mk k' i' j' n' [x, y]]).kids s) :
    ∃ b cap b' cap', s = .slice (some ⟨b, 0, none⟩) 2 cap ∧ w.cell? ⟨b, 9, none⟩ = some (.slice (some ⟨b', 0, none⟩) 2 cap') ∧ w.cell? ⟨b', 1, none⟩ = some (.int .i64 x.i) ∧ w.cell? ⟨b', 6, none⟩ = some (.int .i64 y.i) := by
  cases h with
  | mk _ a cap S hc hm hf hn hk =>
    obtain ⟨b, rfl, -, hx⟩ := hn 1 (by show 1 < 2; omega)
    have h2 := hk 1 (by show 1 < 2; omega)
    have h9 := hx.c4
    revert h9
    generalize S 1 = s2 at h2
    intro h9
    cases h2 with
    | mk _ a' cap' S' hc' hm' hf' hn' hk' =>
      obtain ⟨b', rfl, -, y0⟩ := hn' 0 (by show 0 < 2; omega)
      obtain ⟨b2, e2, -, y1⟩ := hn' 1 (by show 1 < 2; omega)
      obtain rfl : b' = b2 := by simpa using e2
      exact ⟨b, cap, b', cap', rfl, h9, y0.c1, y1.c1⟩

end Go.Proofs.Ytmhmengbhdaodaa
