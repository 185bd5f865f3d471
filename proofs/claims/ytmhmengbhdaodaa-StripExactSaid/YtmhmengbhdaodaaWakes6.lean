/-
  The layer's own sentence, transhiplaw06.wakes, is true.
-/
import Derived.Test.YtmhmengbhdaodaaL8
import Derived.Test.YtmhmengbhdaodaaWakes5
namespace Go.Proofs.Ytmhmengbhdaodaa
open Go.RowKit

theorem s6_any (i : Int) (w : World) : Calls Try.prog 33 #[.int .i64 i] w fun e w' => e = .returned (.agg #[.int .i64 1, .int .i64 i, .int .i64 0, .int .i64 0, .slice none 0 0]) ∧ Below w.heap.size w w' := by
  obtain ⟨du, hu1, hu2⟩ := under_term
  go_enter Try.func33, Try.ntmps33
  go_wp2
  refine bodyPost_ret (results_cell_row rfl _ _ w.heap.size _ _ _ du rfl (alloc_new _ _) hu1 (by cases du <;> first | rfl | exact hu2) size_term) rfl ?_
  exact ⟨rfl, (Below.refl _ _).alloc (Nat.le_refl _) _⟩

def wake6 : Tm := .mk 5 0 0 0 [.mk 1 0 0 0 [], .mk 1 0 0 0 [], .mk 2 0 0 0 [], .mk 2 1 0 0 []]
def wake6w (w : World) : World := (w.alloc (.cells #[.int .i64 1, .int .i64 0, .int .i64 0, .int .i64 0, .slice none 0 0, .int .i64 1, .int .i64 0, .int .i64 0, .int .i64 0, .slice none 0 0, .int .i64 2, .int .i64 0, .int .i64 0, .int .i64 0, .slice none 0 0, .int .i64 2, .int .i64 1, .int .i64 0, .int .i64 0, .slice none 0 0] 24)).alloc (.cells #[.int .i64 5, .int .i64 0, .int .i64 0, .int .i64 0, .slice (some ⟨w.heap.size, 0, none⟩) 4 4] 24)
theorem wake6_heap (w : World) : (wake6w w).heap[w.heap.size]? = some (.cells #[.int .i64 1, .int .i64 0, .int .i64 0, .int .i64 0, .slice none 0 0, .int .i64 1, .int .i64 0, .int .i64 0, .int .i64 0, .slice none 0 0, .int .i64 2, .int .i64 0, .int .i64 0, .int .i64 0, .slice none 0 0, .int .i64 2, .int .i64 1, .int .i64 0, .int .i64 0, .slice none 0 0] 24) ∧ (wake6w w).heap[w.heap.size + 1]? = some (.cells #[.int .i64 5, .int .i64 0, .int .i64 0, .int .i64 0, .slice (some ⟨w.heap.size, 0, none⟩) 4 4] 24) := by
  refine ⟨?_, heap_alloc2_new _ _ _⟩
  unfold wake6w
  rw [Below.heap_alloc _ _ _ (by simp), alloc_new]
theorem wake6_lies (w : World) : Lies (wake6w w) wake6.kids (.slice (some ⟨w.heap.size, 0, none⟩) 4 4) := by
  obtain ⟨h0, -⟩ := wake6_heap w
  have c0 := fun q => cell_of_row (wake6w w) w.heap.size q _ _ _ h0
  exact Row.lies (ps := [(.mk 1 0 0 0 [], .slice none 0 0), (.mk 1 0 0 0 [], .slice none 0 0), (.mk 2 0 0 0 [], .slice none 0 0), (.mk 2 1 0 0 [], .slice none 0 0)]) ⟨⟨by rw [c0]; rfl, by rw [c0]; rfl, by rw [c0]; rfl, by rw [c0]; rfl, by rw [c0]; rfl⟩, small_fine _ _ _ (small_I64 1 (by decide)) (small_I64 0 (by decide)), lies_nil _, ⟨by rw [c0]; rfl, by rw [c0]; rfl, by rw [c0]; rfl, by rw [c0]; rfl, by rw [c0]; rfl⟩, small_fine _ _ _ (small_I64 1 (by decide)) (small_I64 0 (by decide)), lies_nil _, ⟨by rw [c0]; rfl, by rw [c0]; rfl, by rw [c0]; rfl, by rw [c0]; rfl, by rw [c0]; rfl⟩, small_fine _ _ _ (small_I64 2 (by decide)) (small_I64 0 (by decide)), lies_nil _, ⟨by rw [c0]; rfl, by rw [c0]; rfl, by rw [c0]; rfl, by rw [c0]; rfl, by rw [c0]; rfl⟩, small_fine _ _ _ (small_I64 2 (by decide)) (small_I64 1 (by decide)), lies_nil _, trivial⟩ (by decide) (by decide)
theorem wake6_below (w : World) : Below w.heap.size w (wake6w w) := ((Below.refl _ _).alloc (Nat.le_refl _) _).alloc (by simp) _
theorem two_cells {w : World} {P : Nat → Prop} {x y : Tm} {s : Value} (h : LiesP w P [x, y] s) : ∃ b cap, s = .slice (some ⟨b, 0, none⟩) 2 cap ∧ w.cell? ⟨b, 1, none⟩ = some (.int .i64 x.i) ∧ w.cell? ⟨b, 6, none⟩ = some (.int .i64 y.i) := by
  cases h with
  | mk _ a cap S hc hm hf hn hk =>
    obtain ⟨b, rfl, -, y0⟩ := hn 0 (by show 0 < 2; omega)
    obtain ⟨b2, e2, -, y1⟩ := hn 1 (by show 1 < 2; omega)
    obtain rfl : b = b2 := by simpa using e2
    exact ⟨b, cap, rfl, y0.c1, y1.c1⟩

set_option maxRecDepth 20000 in
set_option maxHeartbeats 2000000 in
theorem wakes6_any (w : World) : Calls Try.prog 14 #[] w fun e w' => e = .returned (.bool true) ∧ Below w.heap.size w w' := by
  go_enter Try.func14, Try.ntmps14
  go_wp2_with fail
  refine (s6_any _ _).mono ?_
  rintro e wa ⟨rfl, hba⟩
  go_wp2_with fail
  refine (s6_any _ _).mono ?_
  rintro e wb ⟨rfl, hbb⟩
  have hB := hba.trans (hbb.mono hba.size)
  have hL := wake6_lies wb
  have hBw := wake6_below wb
  clear hba hbb
  go_wp2_with fail
  have hc1 := strip_any wake6 (wake6w wb) _ hL
  rw [show wake6.stripB = .mk 15 0 0 0 [.mk 2 0 0 0 [], .mk 2 1 0 0 []] from by kernel_rfl] at hc1
  refine hc1.mono ?_
  clear hc1
  rintro e w3 ⟨s3, he, hl3, hb3⟩
  replace he : e = .returned (.agg #[.int .i64 15, .int .i64 0, .int .i64 0, .int .i64 0, s3]) := he
  subst he
  replace hl3 : LiesP w3 (Own (wake6w wb).heap.size w3) [.mk 2 0 0 0 [], .mk 2 1 0 0 []] s3 := hl3
  obtain ⟨b3, cap3, rfl, j0, j1⟩ := two_cells hl3
  have hB3 := hB.trans ((hBw.trans (hb3.mono hBw.size)).mono hB.size)
  have l3 := World.block_lt_of_cell? _ _ j1
  simp only at l3
  clear hb3 hl3 hL hBw
  go_wp2_with fail
  refine (strip_any Tm.zero _ _ (lies_nil _)).mono ?_
  rw [show Tm.zero.stripB = Tm.zero from by kernel_rfl]
  rintro e w5 ⟨s5, he, hl5, hb5⟩
  replace he : e = .returned (.agg #[.int .i64 0, .int .i64 0, .int .i64 0, .int .i64 0, s5]) := he
  subst he
  have hfd : ∀ w : World, (Instr.field 24 (.agg #[.int .i64 0, .int .i64 0, .int .i64 0, .int .i64 0, s5]) 0).run Try.prog w = .ok (.int .i64 0) w := fun _ => by kernel_rfl
  go_wp2
  go_ret
  exact ⟨rfl, hB3.trans ((((Below.refl _ _).alloc (Nat.le_refl _) _).trans (hb5.mono (by simp))).mono hB3.size)⟩
end Go.Proofs.Ytmhmengbhdaodaa
