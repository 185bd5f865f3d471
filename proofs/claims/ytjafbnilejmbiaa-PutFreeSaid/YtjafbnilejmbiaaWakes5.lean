/-
  The layer's own sentence, transhiplaw05.wakes, is true.
-/
import Derived.Test.YtjafbnilejmbiaaLift
import Derived.Test.YtjafbnilejmbiaaRename
import Derived.Test.YtjafbnilejmbiaaRow
namespace Go.Proofs.Ytjafbnilejmbiaa
open Go.RowKit

theorem v5_any (i : Int) (w : World) : Calls Try.prog 90 #[.int .i64 i] w fun e w' => e = .returned (.agg #[.int .i64 2, .int .i64 i, .int .i64 0, .int .i64 0, .slice none 0 0]) ∧ Below w.heap.size w w' := by
  obtain ⟨du, hu1, hu2⟩ := under_term
  go_enter Try.func90, Try.ntmps90
  go_wp2
  refine bodyPost_ret (results_cell_row rfl _ _ w.heap.size _ _ _ du rfl (alloc_new _ _) hu1 (by cases du <;> first | rfl | exact hu2) size_term) rfl ?_
  exact ⟨rfl, (Below.refl _ _).alloc (Nat.le_refl _) _⟩

def wake5 : Tm := .mk 14 0 0 0 [.mk 1 0 0 0 [], .mk 15 0 0 0 [.mk 2 0 0 0 [], .mk 2 1 0 0 []]]
def wake5w (w : World) : World := ((w.alloc (.cells #[.int .i64 2, .int .i64 0, .int .i64 0, .int .i64 0, .slice none 0 0, .int .i64 2, .int .i64 1, .int .i64 0, .int .i64 0, .slice none 0 0] 24)).alloc (.cells #[.int .i64 1, .int .i64 0, .int .i64 0, .int .i64 0, .slice none 0 0, .int .i64 15, .int .i64 0, .int .i64 0, .int .i64 0, .slice (some ⟨w.heap.size, 0, none⟩) 2 2] 24)).alloc (.cells #[.int .i64 14, .int .i64 0, .int .i64 0, .int .i64 0, .slice (some ⟨w.heap.size + 1, 0, none⟩) 2 2] 24)
theorem wake5_heap (w : World) : (wake5w w).heap[w.heap.size]? = some (.cells #[.int .i64 2, .int .i64 0, .int .i64 0, .int .i64 0, .slice none 0 0, .int .i64 2, .int .i64 1, .int .i64 0, .int .i64 0, .slice none 0 0] 24) ∧ (wake5w w).heap[w.heap.size + 1]? = some (.cells #[.int .i64 1, .int .i64 0, .int .i64 0, .int .i64 0, .slice none 0 0, .int .i64 15, .int .i64 0, .int .i64 0, .int .i64 0, .slice (some ⟨w.heap.size, 0, none⟩) 2 2] 24) ∧ (wake5w w).heap[w.heap.size + 2]? = some (.cells #[.int .i64 14, .int .i64 0, .int .i64 0, .int .i64 0, .slice (some ⟨w.heap.size + 1, 0, none⟩) 2 2] 24) := by
  obtain ⟨h0, h1, h2, -⟩ := heap_three w (.cells #[.int .i64 2, .int .i64 0, .int .i64 0, .int .i64 0, .slice none 0 0, .int .i64 2, .int .i64 1, .int .i64 0, .int .i64 0, .slice none 0 0] 24) (.cells #[.int .i64 1, .int .i64 0, .int .i64 0, .int .i64 0, .slice none 0 0, .int .i64 15, .int .i64 0, .int .i64 0, .int .i64 0, .slice (some ⟨w.heap.size, 0, none⟩) 2 2] 24) (.cells #[.int .i64 14, .int .i64 0, .int .i64 0, .int .i64 0, .slice (some ⟨w.heap.size + 1, 0, none⟩) 2 2] 24)
  exact ⟨h0, h1, h2⟩
theorem small_fine (k i : Int) (l : List Tm) (hk : I64 k) (hi : I64 i) : (Tm.mk k i 0 0 l).fine := ⟨hk, hi, by show I64 0; unfold I64; omega, by show I64 0; unfold I64; omega⟩
theorem small_I64 (n : Nat) (h : n < 1000) : I64 (n : Int) := by unfold I64; omega
theorem wake5_lies (w : World) : Lies (wake5w w) wake5.kids (.slice (some ⟨w.heap.size + 1, 0, none⟩) 2 2) := by
  obtain ⟨h0, h1, -⟩ := wake5_heap w
  have c0 := fun q => cell_of_row (wake5w w) w.heap.size q _ _ _ h0
  have c1 := fun q => cell_of_row (wake5w w) (w.heap.size + 1) q _ _ _ h1
  have hin : Lies (wake5w w) [.mk 2 0 0 0 [], .mk 2 1 0 0 []] (.slice (some ⟨w.heap.size, 0, none⟩) 2 2) :=
    Row.lies (ps := [(.mk 2 0 0 0 [], .slice none 0 0), (.mk 2 1 0 0 [], .slice none 0 0)]) ⟨⟨by rw [c0]; rfl, by rw [c0]; rfl, by rw [c0]; rfl, by rw [c0]; rfl, by rw [c0]; rfl⟩, small_fine _ _ _ (small_I64 2 (by decide)) (small_I64 0 (by decide)), lies_nil _, ⟨by rw [c0]; rfl, by rw [c0]; rfl, by rw [c0]; rfl, by rw [c0]; rfl, by rw [c0]; rfl⟩, small_fine _ _ _ (small_I64 2 (by decide)) (small_I64 1 (by decide)), lies_nil _, trivial⟩ (by decide) (by decide)
  exact Row.lies (ps := [(.mk 1 0 0 0 [], .slice none 0 0), (.mk 15 0 0 0 [.mk 2 0 0 0 [], .mk 2 1 0 0 []], .slice (some ⟨w.heap.size, 0, none⟩) 2 2)]) ⟨⟨by rw [c1]; rfl, by rw [c1]; rfl, by rw [c1]; rfl, by rw [c1]; rfl, by rw [c1]; rfl⟩, small_fine _ _ _ (small_I64 1 (by decide)) (small_I64 0 (by decide)), lies_nil _, ⟨by rw [c1]; rfl, by rw [c1]; rfl, by rw [c1]; rfl, by rw [c1]; rfl, by rw [c1]; rfl⟩, small_fine _ _ _ (small_I64 15 (by decide)) (small_I64 0 (by decide)), hin, trivial⟩ (Nat.le_refl 2) (by decide)
theorem wake5_below (w : World) : Below w.heap.size w (wake5w w) := below_three _ _ _ _

/-- What wakes asks of a result of this shape: its second kid's list, and that list's numbers. -/
theorem deep_cells {w : World} {P : Nat → Prop} {k i j : Int} {z : Tm} {k' i' j' n' : Int} {x y : Tm} {s : Value} (h : LiesP w P (Tm.mk 14 k i j [z, .mk k' i' j' n' [x, y]]).kids s) :
    ∃ b cap b' cap', s = .slice (some ⟨b, 0, none⟩) 2 cap ∧ w.cell? ⟨b, 9, none⟩ = some (.slice (some ⟨b', 0, none⟩) 2 cap') ∧ w.cell? ⟨b', 1, none⟩ = some (.int .i64 x.i) ∧ w.cell? ⟨b', 6, none⟩ = some (.int .i64 y.i) := by
  cases h with
  | mk _ a cap S hc hm hf hn hk =>
    obtain ⟨b, rfl, -, hx⟩ := hn 1 (by show 1 < 2; omega)
    have h2 := hk 1 (by show 1 < 2; omega)
    have h9 := hx.c4
    revert h9
    generalize S 1 = s2 at h2
    intro h9
    cases h2 with
    | mk _ a' cap' S' hc' hm' hf' hn' hk' =>
      obtain ⟨b', rfl, -, y0⟩ := hn' 0 (by show 0 < 2; omega)
      obtain ⟨b2, e2, -, y1⟩ := hn' 1 (by show 1 < 2; omega)
      obtain rfl : b' = b2 := by simpa using e2
      exact ⟨b, cap, b', cap', rfl, h9, y0.c1, y1.c1⟩

set_option maxRecDepth 20000 in
set_option maxHeartbeats 2000000 in
theorem wakes5_any (w : World) : Calls Try.prog 56 #[] w fun e w' => e = .returned (.bool true) ∧ Below w.heap.size w w' := by
  go_enter Try.func56, Try.ntmps56
  go_wp2_with fail
  refine (v5_any _ _).mono ?_
  rintro e wa ⟨rfl, hba⟩
  go_wp2_with fail
  refine (v5_any _ _).mono ?_
  rintro e wb ⟨rfl, hbb⟩
  have hB := hba.trans (hbb.mono hba.size)
  obtain ⟨h0, h1, h2⟩ := wake5_heap wb
  have hL := wake5_lies wb
  have hBw := wake5_below wb
  have hsw : (wake5w wb).heap.size = wb.heap.size + 3 := by simp [wake5w]
  have HSW := Lib.hid hsw
  clear hba hbb hsw
  go_wp2_with fail
  refine (lift_any wake5 2 0 (wake5w wb) _ hL (by unfold I64; omega) (by unfold I64; omega) (by decide +kernel)).mono ?_
  rintro e w3 ⟨s3, rfl, hl3, hb3⟩
  rw [show wake5.liftB 2 0 = .mk 14 0 0 0 [.mk 1 0 0 0 [], .mk 15 0 0 0 [.mk 2 0 0 0 [], .mk 2 3 0 0 []]] from by kernel_rfl] at hl3 ⊢
  obtain ⟨b3, cap3, b4, cap4, rfl, i4, j0, j1⟩ := deep_cells hl3
  have hs3 : wb.heap.size + 1 + 1 < w3.heap.size := by have := hb3.size; rw [HSW.out] at this; exact this
  have h2' := hb3.block (wb.heap.size + 2) (by rw [HSW.out]; omega)
  rw [h2] at h2'
  obtain ⟨d0, d1, d2, d3, d4⟩ := five_cells h2'
  have hB3 := hB.trans ((hBw.trans (hb3.mono hBw.size)).mono hB.size)
  have hL3 := hL.keep hb3
  have HX := Lib.hid (And.intro i4 (And.intro j0 j1))
  clear h0 h1 h2 h2' hb3 hl3 hL hBw i4 j0 j1
  go_wp2_with fail
  have hbi : Below w3.heap.size w3 ((w3.alloc (.cells #[.int .i64 14, .int .i64 0, .int .i64 0, .int .i64 0, .slice (some ⟨b3, 0, none⟩) 2 cap3] 24)).alloc (.cells #[.int .i64 5] 3)) := ((Below.refl _ _).alloc (Nat.le_refl _) _).alloc (by simp) _
  have hti : LiesI ((w3.alloc (.cells #[.int .i64 14, .int .i64 0, .int .i64 0, .int .i64 0, .slice (some ⟨b3, 0, none⟩) 2 cap3] 24)).alloc (.cells #[.int .i64 5] 3)) [5] (.slice (some ⟨w3.heap.size + 1, 0, none⟩) 1 1) := ⟨_, 1, rfl, Nat.le_refl _, by decide, fun i hi => ⟨w3.heap.size + 1, 0, rfl, by
    obtain rfl : i = 0 := by simpa using hi
    rw [cell_of_row _ _ _ _ _ _ (heap_alloc2_new _ _ _)]; rfl⟩⟩
  refine (rename_any wake5 [5] _ _ _ (hL3.keep hbi) hti (by decide +kernel)).mono ?_
  intro e w5 hg
  rw [show wake5.renB [5] = some (.mk 14 0 0 0 [.mk 1 0 0 0 [], .mk 15 0 0 0 [.mk 2 0 0 0 [], .mk 2 6 0 0 []]]) from by kernel_rfl] at hg
  obtain ⟨⟨s5, rfl, hl5⟩, hb5⟩ := hg.some
  obtain ⟨b5, cap5, b6, cap6, rfl, k4, m0, m1⟩ := deep_cells hl5
  have hu5 := hb5.block w3.heap.size (by simp; omega)
  rw [Below.heap_alloc _ _ _ (by simp), alloc_new] at hu5
  obtain ⟨x0, x1, x2, x3, x4⟩ := five_cells hu5
  have hb35 : Below w3.heap.size w3 w5 := hbi.trans (hb5.mono (by simp; omega))
  have i4 := cell_lat hb35 HX.out.1
  have j0 := cell_lat hb35 HX.out.2.1
  have j1 := cell_lat hb35 HX.out.2.2
  have hB5 := hB3.trans (hb35.mono hB3.size)
  have hs5 : w3.heap.size < w5.heap.size := by have := hb5.size; simp at this; omega
  have l3 := World.block_lt_of_cell? _ _ i4
  have l4 := World.block_lt_of_cell? _ _ j0
  have l5 := World.block_lt_of_cell? _ _ k4
  have l6 := World.block_lt_of_cell? _ _ m0
  simp only at l3 l4 l5 l6
  clear hti hbi hb35 hb5 hu5 hL3 hl5 hg d0 d1 d2 d3 d4
  go_wp2
  go_ret
  exact ⟨rfl, hB5.alloc hB5.size _⟩
end Go.Proofs.Ytjafbnilejmbiaa
