/-
  The walk of transhiplaw06.StripLift.
-/
import Derived.Test.YtjafbnilejmbiaaLawKit
import Derived.Test.YtjafbnilejmbiaaWakes6
import Derived.Test.YtjafbnilejmbiaaStripFacts
import Derived.Test.YtjafbnilejmbiaaRefMore
namespace Go.Proofs.Ytjafbnilejmbiaa
open Go.RowKit

set_option maxRecDepth 20000 in
set_option maxHeartbeats 3000000 in
theorem stripLift_any (t : Tm) (k c : Int) (w : World) (s : Value) (hl : Lies w t.kids s) (hk : I64 k) (hc : I64 c) : Calls Try.prog 16 #[tv t s, .int .i64 k, .int .i64 c] w fun e w' => e = .returned (.bool true) ∧ Below w.heap.size w w' := by
  obtain ⟨a, cap, S, rfl, hcap, hmx, -, -, -⟩ := hl.out
  have H0 := held_start w t (.slice a t.kids.length cap)
  have HL := Lib.hid hl
  unfold tv
  clear hl
  go_enter Try.func16, Try.ntmps16
  go_wp2_with fail
  refine (great_any t _ _ 300 (held_lies H0 HL.out) (by omega) (by omega)).mono ?_
  rintro e w1 ⟨g, rfl, hg, hb'⟩
  have H1 := held_call H0 hb'
  obtain ⟨d0, d1, d2, d3, d4⟩ := held_cells H1
  have HG := Lib.hid hg
  clear hg hb' H0
  cases g with
  | true =>
    go_wp2
    go_ret
    exact ⟨rfl, held_below H1⟩
  | false =>
  have hz_t := (HG.out rfl).1
  have hd_t := (HG.out rfl).2
  clear HG
  go_wp2_with fail
  refine (refright_any t _ _ (held_lies H1 HL.out)).mono ?_
  rintro e w2 ⟨rfl, hb'⟩
  have H2 := held_call H1 hb'
  obtain ⟨d0, d1, d2, d3, d4⟩ := held_cells H2
  clear hb' H1
  cases hr_rt : t.rightB with
  | false =>
    go_wp2
    go_ret
    exact ⟨rfl, held_below H2⟩
  | true =>
  have HRrt := Lib.hid hr_rt
  clear hr_rt
  by_cases hp1 : k < 0
  · have ep1 : decide (k < 0) = true := by simpa using hp1
    go_wp2
    go_ret
    exact ⟨rfl, held_below H2⟩
  have ep1 : decide (k < 0) = false := by simpa using hp1
  by_cases hp2 : c < 0
  · have ep2 : decide (c < 0) = true := by simpa using hp2
    go_wp2
    go_ret
    exact ⟨rfl, held_below H2⟩
  have ep2 : decide (c < 0) = false := by simpa using hp2
  by_cases hp3 : 1048576 < k
  · have ep3 : decide (1048576 < k) = true := by simpa using hp3
    go_wp2
    go_ret
    exact ⟨rfl, held_below H2⟩
  have ep3 : decide (1048576 < k) = false := by simpa using hp3
  go_wp2_with fail
  refine (refFree_any t _ _ (held_lies H2 HL.out)).mono ?_
  rintro e w3 ⟨rfl, hb'⟩
  have H3 := held_call H2 hb'
  obtain ⟨d0, d1, d2, d3, d4⟩ := held_cells H3
  clear hb' H2
  by_cases hp4 : 1048576 < t.freeB
  · have ep4 : decide (1048576 < t.freeB) = true := by simpa using hp4
    go_wp2
    go_ret
    exact ⟨rfl, held_below H3⟩
  have ep4 : decide (1048576 < t.freeB) = false := by simpa using hp4
  have hr : t.rightB = true := HRrt.out
  have hfr : t.freeN ≤ 1048576 := by rw [← free_of hr]; omega
  have hdt : t.deep ≤ 100000 := by omega
  obtain ⟨X, hX⟩ : ∃ X, (t.liftB k c).stripB = X := ⟨_, rfl⟩
  have hx2 := stripB_lift (k := k) (c := c) (by omega) (by omega) (by omega) hr hfr hdt
  rw [hX] at hx2
  have HX1 := Lib.hid hX
  have HX2 := Lib.hid hx2.symm
  have HDT := Lib.hid hdt
  have HD2 := Lib.hid (stripB_deep t hdt)
  have HC := Lib.hid (held_cells H3)
  have HLT := Lib.hid (held_lies H3 HL.out)
  have hK0 := kept_start w3
  have HH := Lib.hid H3
  clear hr hz_t hd_t HRrt hX hx2 hdt hfr
  go_wp2_with fail
  go_region_held3 (fun w' => Kept w3 w' ∧ w'.cell? ⟨w.heap.size, 0, none⟩ = some (.int .i64 t.k) ∧ w'.cell? ⟨w.heap.size, 1, none⟩ = some (.int .i64 t.i) ∧ w'.cell? ⟨w.heap.size, 2, none⟩ = some (.int .i64 t.j) ∧ w'.cell? ⟨w.heap.size, 3, none⟩ = some (.int .i64 t.n) ∧ w'.cell? ⟨w.heap.size, 4, none⟩ = some (.slice a t.kids.length cap))
    (((with_reducible refine kept_boxes1 ?_ HC.out); repeat (first | with_reducible assumption | with_reducible exact hK0 | with_reducible refine kept_drew ?_ | with_reducible refine kept_alloc ?_ _)))
    (first | (go_at_call 61; have hS := (‹Kept w3 _ ∧ _›).1; ((refine (wakes6_any _).mono ?_); rintro e wn ⟨rfl, hbn⟩; have hh := kept_call hS hbn; obtain ⟨-, x00, x01, x02, x03, x04⟩ := kept_boxes1 hh HC.out)) | (go_at_call 51; have mk0 := HP2.out; have mk1 := HM4.out; have hS := (‹Kept w3 _ ∧ _›).1; have hcall := keepsame_eq X _ _ _ mk0 mk1; ((with_reducible refine Calls.mono hcall ?_); rintro e wn ⟨rfl, hbn⟩; clear hcall; have hh := kept_call hS hbn; obtain ⟨-, x00, x01, x02, x03, x04⟩ := kept_boxes1 hh HC.out)) | (go_at_call 54; have mk0 := HM3.out; have hS := (‹Kept w3 _ ∧ _›).1; have hcall := lift_any t.stripB k c _ _ mk0 hk hc HD2.out; ((with_reducible refine Calls.mono hcall ?_); rintro e wn ⟨s11, rfl, hl11, hbn⟩; clear hcall; have hh := kept_call hS hbn; rw [HX2.out] at hl11 ⊢; obtain ⟨a11, cap11, rfl, -, -⟩ := hl11.out; have HM4 := Lib.hid hl11.lies; have HP2 := Lib.hid (HP1.out.keep hbn); clear hl11; obtain ⟨-, x00, x01, x02, x03, x04⟩ := kept_boxes1 hh HC.out)) | (go_at_call 60; have mk0 := HM2.out; have hS := (‹Kept w3 _ ∧ _›).1; have hcall := strip_any t _ _ (kept_lies hS HLT.out); ((with_reducible refine Calls.mono hcall ?_); rintro e wn ⟨s10, rfl, hl10, hbn⟩; clear hcall; have hh := kept_call hS hbn; obtain ⟨a10, cap10, rfl, -, -⟩ := hl10.out; have HM3 := Lib.hid hl10.lies; have HP1 := Lib.hid (mk0.keep hbn); clear hl10; obtain ⟨-, x00, x01, x02, x03, x04⟩ := kept_boxes1 hh HC.out)) | (go_at_call 60; have mk0 := HM1.out; have hS := (‹Kept w3 _ ∧ _›).1; have hcall := strip_any (t.liftB k c) _ _ mk0; ((with_reducible refine Calls.mono hcall ?_); rintro e wn ⟨s9, rfl, hl9, hbn⟩; clear hcall; have hh := kept_call hS hbn; rw [HX1.out] at hl9 ⊢; obtain ⟨a9, cap9, rfl, -, -⟩ := hl9.out; have HM2 := Lib.hid hl9.lies; clear hl9; obtain ⟨-, x00, x01, x02, x03, x04⟩ := kept_boxes1 hh HC.out)) | (go_at_call 54; have hS := (‹Kept w3 _ ∧ _›).1; have hcall := lift_any t k c _ _ (kept_lies hS HLT.out) hk hc HDT.out; ((with_reducible refine Calls.mono hcall ?_); rintro e wn ⟨s8, rfl, hl8, hbn⟩; clear hcall; have hh := kept_call hS hbn; obtain ⟨a8, cap8, rfl, -, -⟩ := hl8.out; have HM1 := Lib.hid hl8.lies; clear hl8; obtain ⟨-, x00, x01, x02, x03, x04⟩ := kept_boxes1 hh HC.out)))
  go_wp2
  go_ret
  exact ⟨rfl, (held_below HH.out).trans (hh.mono (by have := held_size HH.out; omega))⟩
end Go.Proofs.Ytjafbnilejmbiaa
