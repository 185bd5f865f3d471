/-
  The walk of transhiplaw05.LiftStays.
-/
import Derived.Test.YtjafbnilejmbiaaLawKit
import Derived.Test.YtjafbnilejmbiaaWakes5
import Derived.Test.YtjafbnilejmbiaaLiftFacts
import Derived.Test.YtjafbnilejmbiaaRefMore
namespace Go.Proofs.Ytjafbnilejmbiaa
open Go.RowKit

set_option maxRecDepth 20000 in
set_option maxHeartbeats 4000000 in
theorem liftStays_any (t : Tm) (k m : Int) (w : World) (s : Value) (hl : Lies w t.kids s) (hk : I64 k) (hm : I64 m) : Calls Try.prog 10 #[tv t s, .int .i64 k, .int .i64 m] w fun e w' => e = .returned (.bool true) ∧ Below w.heap.size w w' := by
  obtain ⟨a, cap, S, rfl, hcap, hmx, -, -, -⟩ := hl.out
  have H0 := held_start w t (.slice a t.kids.length cap)
  have HL := Lib.hid hl
  unfold tv
  clear hl
  go_enter Try.func10, Try.ntmps10
  go_wp2_with fail
  refine (great_any t _ _ 300 (held_lies H0 HL.out) (by omega) (by omega)).mono ?_
  rintro e w1 ⟨g, rfl, hg, hb'⟩
  have H1 := held_call H0 hb'
  obtain ⟨d0, d1, d2, d3, d4⟩ := held_cells H1
  have HG := Lib.hid hg
  clear hg hb' H0
  cases g with
  | true =>
    go_wp2
    go_ret
    exact ⟨rfl, held_below H1⟩
  | false =>
  have hz_t := (HG.out rfl).1
  have hd_t := (HG.out rfl).2
  clear HG
  go_wp2_with fail
  refine (refright_any t _ _ (held_lies H1 HL.out)).mono ?_
  rintro e w2 ⟨rfl, hb'⟩
  have H2 := held_call H1 hb'
  obtain ⟨d0, d1, d2, d3, d4⟩ := held_cells H2
  clear hb' H1
  cases hr_rt : t.rightB with
  | false =>
    go_wp2
    go_ret
    exact ⟨rfl, held_below H2⟩
  | true =>
  have HRrt := Lib.hid hr_rt
  clear hr_rt
  by_cases hp1 : k < 0
  · have ep1 : decide (k < 0) = true := by simpa using hp1
    go_wp2
    go_ret
    exact ⟨rfl, held_below H2⟩
  have ep1 : decide (k < 0) = false := by simpa using hp1
  by_cases hp2 : m < 0
  · have ep2 : decide (m < 0) = true := by simpa using hp2
    go_wp2
    go_ret
    exact ⟨rfl, held_below H2⟩
  have ep2 : decide (m < 0) = false := by simpa using hp2
  by_cases hp3 : 1099511627776 < m
  · have ep3 : decide (1099511627776 < m) = true := by simpa using hp3
    go_wp2
    go_ret
    exact ⟨rfl, held_below H2⟩
  have ep3 : decide (1099511627776 < m) = false := by simpa using hp3
  have hr : t.rightB = true := HRrt.out
  have hfr := t.free_range hr
  have hfe := free_of hr
  have hcm : I64 (t.freeB + m) := by unfold I64; rw [hfe]; omega
  have h0i : I64 0 := by unfold I64; omega
  have hsum : IntKind.i64.wrap (t.freeB + m) = t.freeB + m := IntWalk.i64_in _ (by unfold I64 at hcm; omega)
  have HS1 := Lib.hid (liftB_stays (k := k) (c := t.freeB + m) (by omega) hr (by omega))
  have HS2 := Lib.hid (liftB_zero (c := m) hr (by omega))
  have HDT : Hid (t.deep ≤ 100000) := by have : t.deep ≤ 100000 := by omega
                                         exact this
  have HC := Lib.hid (held_cells H2)
  have HLT := Lib.hid (held_lies H2 HL.out)
  have hK0 := kept_start w2
  have HH := Lib.hid H2
  clear hr hz_t hd_t HRrt hfe hfr
  go_wp2_with fail
  go_region_held3 (fun w' => Kept w2 w' ∧ w'.cell? ⟨w.heap.size, 0, none⟩ = some (.int .i64 t.k) ∧ w'.cell? ⟨w.heap.size, 1, none⟩ = some (.int .i64 t.i) ∧ w'.cell? ⟨w.heap.size, 2, none⟩ = some (.int .i64 t.j) ∧ w'.cell? ⟨w.heap.size, 3, none⟩ = some (.int .i64 t.n) ∧ w'.cell? ⟨w.heap.size, 4, none⟩ = some (.slice a t.kids.length cap))
    (((with_reducible refine kept_boxes1 ?_ HC.out); repeat (first | with_reducible assumption | with_reducible exact hK0 | with_reducible refine kept_drew ?_ | with_reducible refine kept_alloc ?_ _)))
    (first | (go_at_call 56; have hS := (‹Kept w2 _ ∧ _›).1; ((refine (wakes5_any _).mono ?_); rintro e wn ⟨rfl, hbn⟩; have hh := kept_call hS hbn; obtain ⟨-, x00, x01, x02, x03, x04⟩ := kept_boxes1 hh HC.out)) | (go_at_call 44; have hS := (‹Kept w2 _ ∧ _›).1; have hcall := refFree_any t _ _ (kept_lies hS HLT.out); ((with_reducible refine Calls.mono hcall ?_); rintro e wn ⟨rfl, hbn⟩; clear hcall; have hh := kept_call hS hbn; obtain ⟨-, x00, x01, x02, x03, x04⟩ := kept_boxes1 hh HC.out)) | (go_at_call 51; have mk0 := HM2.out; have hS := (‹Kept w2 _ ∧ _›).1; have hcall := keepsame_eq t _ _ _ mk0 (kept_lies hS HLT.out); ((with_reducible refine Calls.mono hcall ?_); rintro e wn ⟨rfl, hbn⟩; clear hcall; have hh := kept_call hS hbn; obtain ⟨-, x00, x01, x02, x03, x04⟩ := kept_boxes1 hh HC.out)) | (go_at_call 51; have mk0 := HM1.out; have hS := (‹Kept w2 _ ∧ _›).1; have hcall := keepsame_eq t _ _ _ mk0 (kept_lies hS HLT.out); ((with_reducible refine Calls.mono hcall ?_); rintro e wn ⟨rfl, hbn⟩; clear hcall; have hh := kept_call hS hbn; obtain ⟨-, x00, x01, x02, x03, x04⟩ := kept_boxes1 hh HC.out)) | (go_at_call 54; have hS := (‹Kept w2 _ ∧ _›).1; have hcall := lift_any t k (t.freeB + m) _ _ (kept_lies hS HLT.out) hk hcm HDT.out; ((with_reducible refine Calls.mono hcall ?_); rintro e wn ⟨s8, rfl, hl8, hbn⟩; clear hcall; have hh := kept_call hS hbn; rw [HS1.out] at hl8 ⊢; obtain ⟨a8, cap8, rfl, -, -⟩ := hl8.out; have HM1 := Lib.hid hl8.lies; clear hl8; obtain ⟨-, x00, x01, x02, x03, x04⟩ := kept_boxes1 hh HC.out)) | (go_at_call 54; have hS := (‹Kept w2 _ ∧ _›).1; have hcall := lift_any t 0 m _ _ (kept_lies hS HLT.out) h0i hm HDT.out; ((with_reducible refine Calls.mono hcall ?_); rintro e wn ⟨s9, rfl, hl9, hbn⟩; clear hcall; have hh := kept_call hS hbn; rw [HS2.out] at hl9 ⊢; obtain ⟨a9, cap9, rfl, -, -⟩ := hl9.out; have HM2 := Lib.hid hl9.lies; clear hl9; obtain ⟨-, x00, x01, x02, x03, x04⟩ := kept_boxes1 hh HC.out)))
  go_wp2
  go_ret
  exact ⟨rfl, (held_below HH.out).trans (hh.mono (by have := held_size HH.out; omega))⟩
end Go.Proofs.Ytjafbnilejmbiaa
