/-
  What the walks of the laws of layers 5 to 8 share: boxes that stay, Same on equal terms.
-/
import Derived.Test.YtjhdcjjoignioaaSameKeep
import Derived.Test.YtjhdcjjoignioaaWeigh
import Derived.Test.YtjhdcjjoignioaaEnds
import Derived.Deep.RegionHeld3
namespace Go.Proofs.Ytjhdcjjoignioaa
open Go.RowKit

theorem keepsame_eq (t : Tm) (w : World) (s r : Value) (hl : Lies w t.kids s) (hm : Lies w t.kids r) : Calls Try.prog 13 #[tv t s, tv t r] w fun e w' => e = .returned (.bool true) ∧ Below w.heap.size w w' :=
  (keepsame_any t t w s r hl hm).mono fun e w' h => by rw [sameB_self] at h; exact h

/-- Nothing that was there has turned. -/
def Kept (w w' : World) : Prop := Below w.heap.size w w'
theorem kept_start (w : World) : Kept w w := Below.refl _ _
theorem kept_drew {w w1 : World} (h : Kept w w1) : Kept w w1.drew := Below.drew h
theorem kept_call {w w1 w2 : World} (h : Kept w w1) (hb : Below w1.heap.size w1 w2) : Kept w w2 := below_call h hb (Below.size h)
theorem kept_alloc {w w1 : World} (h : Kept w w1) (o : Obj) : Kept w (w1.alloc o) := Below.alloc h (Below.size h) o
theorem kept_lies {w w1 : World} (h : Kept w w1) {l : List Tm} {s : Value} (hl : Lies w l s) : Lies w1 l s := hl.keep h
theorem kept_below {w w1 : World} (h : Kept w w1) : Below w.heap.size w w1 := h
theorem keep_block {B n : Nat} {w w' : World} {o : Obj} (hb : Below B w w') (hn : n < B) (h : w.heap[n]? = some o) : w'.heap[n]? = some o := by rw [hb.block n hn]; exact h
theorem and_five {a b c d e r : Prop} (h : a ∧ b ∧ c ∧ d ∧ e) (h' : r) : a ∧ b ∧ c ∧ d ∧ e ∧ r := ⟨h.1, h.2.1, h.2.2.1, h.2.2.2.1, h.2.2.2.2, h'⟩
theorem block_lt {w : World} {n : Nat} {o : Obj} (h : w.heap[n]? = some o) : n < w.heap.size := (Array.getElem?_eq_some_iff.1 h).1

/-- The cells of 1 boxes, for later. -/
theorem kept_boxes1 {w w' : World} {b0 : Nat} {v00 v01 v02 v03 v04 : Value} (h : Kept w w') (H : w.cell? ⟨b0, 0, none⟩ = some v00 ∧ w.cell? ⟨b0, 1, none⟩ = some v01 ∧ w.cell? ⟨b0, 2, none⟩ = some v02 ∧ w.cell? ⟨b0, 3, none⟩ = some v03 ∧ w.cell? ⟨b0, 4, none⟩ = some v04) : Kept w w' ∧ w'.cell? ⟨b0, 0, none⟩ = some v00 ∧ w'.cell? ⟨b0, 1, none⟩ = some v01 ∧ w'.cell? ⟨b0, 2, none⟩ = some v02 ∧ w'.cell? ⟨b0, 3, none⟩ = some v03 ∧ w'.cell? ⟨b0, 4, none⟩ = some v04 := by
  obtain ⟨c00, c01, c02, c03, c04⟩ := H
  exact ⟨h, cell_lat h c00, cell_lat h c01, cell_lat h c02, cell_lat h c03, cell_lat h c04⟩

/-- The cells of 2 boxes, for later. -/
theorem kept_boxes2 {w w' : World} {b0 b1 : Nat} {v00 v01 v02 v03 v04 v10 v11 v12 v13 v14 : Value} (h : Kept w w') (H : w.cell? ⟨b0, 0, none⟩ = some v00 ∧ w.cell? ⟨b0, 1, none⟩ = some v01 ∧ w.cell? ⟨b0, 2, none⟩ = some v02 ∧ w.cell? ⟨b0, 3, none⟩ = some v03 ∧ w.cell? ⟨b0, 4, none⟩ = some v04 ∧ w.cell? ⟨b1, 0, none⟩ = some v10 ∧ w.cell? ⟨b1, 1, none⟩ = some v11 ∧ w.cell? ⟨b1, 2, none⟩ = some v12 ∧ w.cell? ⟨b1, 3, none⟩ = some v13 ∧ w.cell? ⟨b1, 4, none⟩ = some v14) : Kept w w' ∧ w'.cell? ⟨b0, 0, none⟩ = some v00 ∧ w'.cell? ⟨b0, 1, none⟩ = some v01 ∧ w'.cell? ⟨b0, 2, none⟩ = some v02 ∧ w'.cell? ⟨b0, 3, none⟩ = some v03 ∧ w'.cell? ⟨b0, 4, none⟩ = some v04 ∧ w'.cell? ⟨b1, 0, none⟩ = some v10 ∧ w'.cell? ⟨b1, 1, none⟩ = some v11 ∧ w'.cell? ⟨b1, 2, none⟩ = some v12 ∧ w'.cell? ⟨b1, 3, none⟩ = some v13 ∧ w'.cell? ⟨b1, 4, none⟩ = some v14 := by
  obtain ⟨c00, c01, c02, c03, c04, c10, c11, c12, c13, c14⟩ := H
  exact ⟨h, cell_lat h c00, cell_lat h c01, cell_lat h c02, cell_lat h c03, cell_lat h c04, cell_lat h c10, cell_lat h c11, cell_lat h c12, cell_lat h c13, cell_lat h c14⟩

/-- The cells of 3 boxes, for later. -/
theorem kept_boxes3 {w w' : World} {b0 b1 b2 : Nat} {v00 v01 v02 v03 v04 v10 v11 v12 v13 v14 v20 v21 v22 v23 v24 : Value} (h : Kept w w') (H : w.cell? ⟨b0, 0, none⟩ = some v00 ∧ w.cell? ⟨b0, 1, none⟩ = some v01 ∧ w.cell? ⟨b0, 2, none⟩ = some v02 ∧ w.cell? ⟨b0, 3, none⟩ = some v03 ∧ w.cell? ⟨b0, 4, none⟩ = some v04 ∧ w.cell? ⟨b1, 0, none⟩ = some v10 ∧ w.cell? ⟨b1, 1, none⟩ = some v11 ∧ w.cell? ⟨b1, 2, none⟩ = some v12 ∧ w.cell? ⟨b1, 3, none⟩ = some v13 ∧ w.cell? ⟨b1, 4, none⟩ = some v14 ∧ w.cell? ⟨b2, 0, none⟩ = some v20 ∧ w.cell? ⟨b2, 1, none⟩ = some v21 ∧ w.cell? ⟨b2, 2, none⟩ = some v22 ∧ w.cell? ⟨b2, 3, none⟩ = some v23 ∧ w.cell? ⟨b2, 4, none⟩ = some v24) : Kept w w' ∧ w'.cell? ⟨b0, 0, none⟩ = some v00 ∧ w'.cell? ⟨b0, 1, none⟩ = some v01 ∧ w'.cell? ⟨b0, 2, none⟩ = some v02 ∧ w'.cell? ⟨b0, 3, none⟩ = some v03 ∧ w'.cell? ⟨b0, 4, none⟩ = some v04 ∧ w'.cell? ⟨b1, 0, none⟩ = some v10 ∧ w'.cell? ⟨b1, 1, none⟩ = some v11 ∧ w'.cell? ⟨b1, 2, none⟩ = some v12 ∧ w'.cell? ⟨b1, 3, none⟩ = some v13 ∧ w'.cell? ⟨b1, 4, none⟩ = some v14 ∧ w'.cell? ⟨b2, 0, none⟩ = some v20 ∧ w'.cell? ⟨b2, 1, none⟩ = some v21 ∧ w'.cell? ⟨b2, 2, none⟩ = some v22 ∧ w'.cell? ⟨b2, 3, none⟩ = some v23 ∧ w'.cell? ⟨b2, 4, none⟩ = some v24 := by
  obtain ⟨c00, c01, c02, c03, c04, c10, c11, c12, c13, c14, c20, c21, c22, c23, c24⟩ := H
  exact ⟨h, cell_lat h c00, cell_lat h c01, cell_lat h c02, cell_lat h c03, cell_lat h c04, cell_lat h c10, cell_lat h c11, cell_lat h c12, cell_lat h c13, cell_lat h c14, cell_lat h c20, cell_lat h c21, cell_lat h c22, cell_lat h c23, cell_lat h c24⟩

/-- The cells of 4 boxes, for later. -/
theorem kept_boxes4 {w w' : World} {b0 b1 b2 b3 : Nat} {v00 v01 v02 v03 v04 v10 v11 v12 v13 v14 v20 v21 v22 v23 v24 v30 v31 v32 v33 v34 : Value} (h : Kept w w') (H : w.cell? ⟨b0, 0, none⟩ = some v00 ∧ w.cell? ⟨b0, 1, none⟩ = some v01 ∧ w.cell? ⟨b0, 2, none⟩ = some v02 ∧ w.cell? ⟨b0, 3, none⟩ = some v03 ∧ w.cell? ⟨b0, 4, none⟩ = some v04 ∧ w.cell? ⟨b1, 0, none⟩ = some v10 ∧ w.cell? ⟨b1, 1, none⟩ = some v11 ∧ w.cell? ⟨b1, 2, none⟩ = some v12 ∧ w.cell? ⟨b1, 3, none⟩ = some v13 ∧ w.cell? ⟨b1, 4, none⟩ = some v14 ∧ w.cell? ⟨b2, 0, none⟩ = some v20 ∧ w.cell? ⟨b2, 1, none⟩ = some v21 ∧ w.cell? ⟨b2, 2, none⟩ = some v22 ∧ w.cell? ⟨b2, 3, none⟩ = some v23 ∧ w.cell? ⟨b2, 4, none⟩ = some v24 ∧ w.cell? ⟨b3, 0, none⟩ = some v30 ∧ w.cell? ⟨b3, 1, none⟩ = some v31 ∧ w.cell? ⟨b3, 2, none⟩ = some v32 ∧ w.cell? ⟨b3, 3, none⟩ = some v33 ∧ w.cell? ⟨b3, 4, none⟩ = some v34) : Kept w w' ∧ w'.cell? ⟨b0, 0, none⟩ = some v00 ∧ w'.cell? ⟨b0, 1, none⟩ = some v01 ∧ w'.cell? ⟨b0, 2, none⟩ = some v02 ∧ w'.cell? ⟨b0, 3, none⟩ = some v03 ∧ w'.cell? ⟨b0, 4, none⟩ = some v04 ∧ w'.cell? ⟨b1, 0, none⟩ = some v10 ∧ w'.cell? ⟨b1, 1, none⟩ = some v11 ∧ w'.cell? ⟨b1, 2, none⟩ = some v12 ∧ w'.cell? ⟨b1, 3, none⟩ = some v13 ∧ w'.cell? ⟨b1, 4, none⟩ = some v14 ∧ w'.cell? ⟨b2, 0, none⟩ = some v20 ∧ w'.cell? ⟨b2, 1, none⟩ = some v21 ∧ w'.cell? ⟨b2, 2, none⟩ = some v22 ∧ w'.cell? ⟨b2, 3, none⟩ = some v23 ∧ w'.cell? ⟨b2, 4, none⟩ = some v24 ∧ w'.cell? ⟨b3, 0, none⟩ = some v30 ∧ w'.cell? ⟨b3, 1, none⟩ = some v31 ∧ w'.cell? ⟨b3, 2, none⟩ = some v32 ∧ w'.cell? ⟨b3, 3, none⟩ = some v33 ∧ w'.cell? ⟨b3, 4, none⟩ = some v34 := by
  obtain ⟨c00, c01, c02, c03, c04, c10, c11, c12, c13, c14, c20, c21, c22, c23, c24, c30, c31, c32, c33, c34⟩ := H
  exact ⟨h, cell_lat h c00, cell_lat h c01, cell_lat h c02, cell_lat h c03, cell_lat h c04, cell_lat h c10, cell_lat h c11, cell_lat h c12, cell_lat h c13, cell_lat h c14, cell_lat h c20, cell_lat h c21, cell_lat h c22, cell_lat h c23, cell_lat h c24, cell_lat h c30, cell_lat h c31, cell_lat h c32, cell_lat h c33, cell_lat h c34⟩
end Go.Proofs.Ytjhdcjjoignioaa
