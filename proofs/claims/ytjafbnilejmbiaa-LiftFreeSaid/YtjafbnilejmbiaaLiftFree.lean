/-
  The walk of transhiplaw05.LiftFree.
-/
import Derived.Test.YtjafbnilejmbiaaLawKit
import Derived.Test.YtjafbnilejmbiaaWakes5
import Derived.Test.YtjafbnilejmbiaaLiftFacts
import Derived.Test.YtjafbnilejmbiaaRefMore
namespace Go.Proofs.Ytjafbnilejmbiaa
open Go.RowKit

set_option maxRecDepth 20000 in
set_option maxHeartbeats 4000000 in
theorem liftFree_any (t : Tm) (k : Int) (w : World) (s : Value) (hl : Lies w t.kids s) (hk : I64 k) : Calls Try.prog 11 #[tv t s, .int .i64 k] w fun e w' => e = .returned (.bool true) ∧ Below w.heap.size w w' := by
  obtain ⟨a, cap, S, rfl, hcap, hmx, -, -, -⟩ := hl.out
  have H0 := held_start w t (.slice a t.kids.length cap)
  have HL := Lib.hid hl
  unfold tv
  clear hl
  go_enter Try.func11, Try.ntmps11
  go_wp2_with fail
  refine (great_any t _ _ 300 (held_lies H0 HL.out) (by omega) (by omega)).mono ?_
  rintro e w1 ⟨g, rfl, hg, hb'⟩
  have H1 := held_call H0 hb'
  obtain ⟨d0, d1, d2, d3, d4⟩ := held_cells H1
  have HG := Lib.hid hg
  clear hg hb' H0
  cases g with
  | true =>
    go_wp2
    go_ret
    exact ⟨rfl, held_below H1⟩
  | false =>
  have hz_t := (HG.out rfl).1
  have hd_t := (HG.out rfl).2
  clear HG
  go_wp2_with fail
  refine (refright_any t _ _ (held_lies H1 HL.out)).mono ?_
  rintro e w2 ⟨rfl, hb'⟩
  have H2 := held_call H1 hb'
  obtain ⟨d0, d1, d2, d3, d4⟩ := held_cells H2
  clear hb' H1
  cases hr_rt : t.rightB with
  | false =>
    go_wp2
    go_ret
    exact ⟨rfl, held_below H2⟩
  | true =>
  have HRrt := Lib.hid hr_rt
  clear hr_rt
  by_cases hp1 : k < 0
  · have ep1 : decide (k < 0) = true := by simpa using hp1
    go_wp2
    go_ret
    exact ⟨rfl, held_below H2⟩
  have ep1 : decide (k < 0) = false := by simpa using hp1
  by_cases hp2 : 1048576 < k
  · have ep2 : decide (1048576 < k) = true := by simpa using hp2
    go_wp2
    go_ret
    exact ⟨rfl, held_below H2⟩
  have ep2 : decide (1048576 < k) = false := by simpa using hp2
  go_wp2_with fail
  refine (refFree_any t _ _ (held_lies H2 HL.out)).mono ?_
  rintro e w3 ⟨rfl, hb'⟩
  have H3 := held_call H2 hb'
  obtain ⟨d0, d1, d2, d3, d4⟩ := held_cells H3
  clear hb' H2
  by_cases hp3 : 1048576 < t.freeB
  · have ep3 : decide (1048576 < t.freeB) = true := by simpa using hp3
    go_wp2
    go_ret
    exact ⟨rfl, held_below H3⟩
  have ep3 : decide (1048576 < t.freeB) = false := by simpa using hp3
  have hr : t.rightB = true := HRrt.out
  have hfe := free_of hr
  have hfr := t.free_range hr
  have hf0 : 0 ≤ t.freeB := by rw [hfe]; exact hfr.1
  have hK := liftB_keeps (k := k) (by omega) (by omega) hr (by omega) (by omega)
  have h0i : I64 0 := by unfold I64; omega
  have hdt : t.deep ≤ 100000 := by omega
  have HDT := Lib.hid hdt
  obtain ⟨U, hU⟩ : ∃ U, t.liftB k 0 = U := ⟨_, rfl⟩
  rw [hU] at hK
  have HU := Lib.hid hU
  obtain ⟨k1, k2, k3, k4⟩ := hK
  have HU1 := Lib.hid k1
  have HU2 := Lib.hid k2
  have HU3 := Lib.hid k3
  have hszu : U.size ≤ 1000000000000 := by rw [k3]; omega
  have HSZU := Lib.hid hszu
  have hszt : t.size ≤ 1000000000000 := by omega
  have HSZT := Lib.hid hszt
  have HK4 := Lib.hid k4
  clear k1 k2 k3 k4 hr hz_t hd_t HRrt hfe hfr hU hszu hszt hdt
  go_wp2_with fail
  refine (lift_any t k 0 _ _ (held_lies H3 HL.out) hk h0i HDT.out).mono ?_
  rw [HU.out]
  rintro e wl ⟨s8, rfl, hl8, hb8⟩
  obtain ⟨a8, cap8, rfl, -, -⟩ := hl8.out
  have HA := held_call H3 hb8
  obtain ⟨d0, d1, d2, d3, d4⟩ := held_cells HA
  have hsl : w.heap.size < wl.heap.size := by have := held_size HA; omega
  have HL8 := Lib.hid hl8.lies
  clear hb8 hl8 H3
  go_wp2_with fail
  have HB := held_alloc HA (.cells #[.int .i64 U.k, .int .i64 U.i, .int .i64 U.j, .int .i64 U.n, .slice a8 U.kids.length cap8] 24)
  refine (refFree_any t _ _ (held_lies HB HL.out)).mono ?_
  rintro e wf ⟨rfl, hb9⟩
  have HD := held_call HB hb9
  have q9 := keep_block hb9 (block_lt (alloc_new wl _)) (alloc_new wl _)
  have HC := Lib.hid (and_five (held_cells HD) (five_cells q9))
  obtain ⟨d0, d1, d2, d3, d4⟩ := held_cells HD
  obtain ⟨y0, y1, y2, y3, y4⟩ := five_cells q9
  have HLT := Lib.hid (held_lies HD HL.out)
  have HLU := Lib.hid ((HL8.out.keep ((Below.refl _ _).alloc (Nat.le_refl _) _)).keep hb9)
  have hK0 := kept_start wf
  have HH := Lib.hid HD
  clear hb9 HA HB HD HL8 q9
  by_cases hp : 0 < t.freeB
  · have ep : decide (0 < t.freeB) = true := by simpa using hp
    have HU4 := Lib.hid (HK4.out.trans (if_pos hp))
    go_wp2_with fail
    go_region_held3 (fun w' => Kept wf w' ∧ w'.cell? ⟨w.heap.size, 0, none⟩ = some (.int .i64 t.k) ∧ w'.cell? ⟨w.heap.size, 1, none⟩ = some (.int .i64 t.i) ∧ w'.cell? ⟨w.heap.size, 2, none⟩ = some (.int .i64 t.j) ∧ w'.cell? ⟨w.heap.size, 3, none⟩ = some (.int .i64 t.n) ∧ w'.cell? ⟨w.heap.size, 4, none⟩ = some (.slice a t.kids.length cap) ∧ w'.cell? ⟨wl.heap.size, 0, none⟩ = some (.int .i64 U.k) ∧ w'.cell? ⟨wl.heap.size, 1, none⟩ = some (.int .i64 U.i) ∧ w'.cell? ⟨wl.heap.size, 2, none⟩ = some (.int .i64 U.j) ∧ w'.cell? ⟨wl.heap.size, 3, none⟩ = some (.int .i64 U.n) ∧ w'.cell? ⟨wl.heap.size, 4, none⟩ = some (.slice a8 U.kids.length cap8))
      (((with_reducible refine kept_boxes2 ?_ HC.out); repeat (first | with_reducible assumption | with_reducible exact hK0 | with_reducible refine kept_drew ?_ | with_reducible refine kept_alloc ?_ _)))
      (first | (go_at_call 56; have hS := (‹Kept wf _ ∧ _›).1; ((refine (wakes5_any _).mono ?_); rintro e wn ⟨rfl, hbn⟩; have hh := kept_call hS hbn; obtain ⟨-, x00, x01, x02, x03, x04, x10, x11, x12, x13, x14⟩ := kept_boxes2 hh HC.out)) | (go_at_call 32; have hS := (‹Kept wf _ ∧ _›).1; have hcall := refright_any U _ _ (kept_lies hS HLU.out); ((with_reducible refine Calls.mono hcall ?_); rintro e wn ⟨rfl, hbn⟩; clear hcall; have hh := kept_call hS hbn; rw [HU1.out]; obtain ⟨-, x00, x01, x02, x03, x04, x10, x11, x12, x13, x14⟩ := kept_boxes2 hh HC.out)) | (go_at_call 34; have hS := (‹Kept wf _ ∧ _›).1; have hcall := refmarked_any U _ _ (kept_lies hS HLU.out); ((with_reducible refine Calls.mono hcall ?_); rintro e wn ⟨rfl, hbn⟩; clear hcall; have hh := kept_call hS hbn; rw [HU2.out]; obtain ⟨-, x00, x01, x02, x03, x04, x10, x11, x12, x13, x14⟩ := kept_boxes2 hh HC.out)) | (go_at_call 34; have hS := (‹Kept wf _ ∧ _›).1; have hcall := refmarked_any t _ _ (kept_lies hS HLT.out); ((with_reducible refine Calls.mono hcall ?_); rintro e wn ⟨rfl, hbn⟩; clear hcall; have hh := kept_call hS hbn; obtain ⟨-, x00, x01, x02, x03, x04, x10, x11, x12, x13, x14⟩ := kept_boxes2 hh HC.out)) | (go_at_call 40; have hS := (‹Kept wf _ ∧ _›).1; have hcall := refsize_any U _ _ (kept_lies hS HLU.out) HSZU.out; ((with_reducible refine Calls.mono hcall ?_); rintro e wn ⟨rfl, hbn⟩; clear hcall; have hh := kept_call hS hbn; rw [HU3.out]; obtain ⟨-, x00, x01, x02, x03, x04, x10, x11, x12, x13, x14⟩ := kept_boxes2 hh HC.out)) | (go_at_call 40; have hS := (‹Kept wf _ ∧ _›).1; have hcall := refsize_any t _ _ (kept_lies hS HLT.out) HSZT.out; ((with_reducible refine Calls.mono hcall ?_); rintro e wn ⟨rfl, hbn⟩; clear hcall; have hh := kept_call hS hbn; obtain ⟨-, x00, x01, x02, x03, x04, x10, x11, x12, x13, x14⟩ := kept_boxes2 hh HC.out)) | (go_at_call 44; have hS := (‹Kept wf _ ∧ _›).1; have hcall := refFree_any U _ _ (kept_lies hS HLU.out); ((with_reducible refine Calls.mono hcall ?_); rintro e wn ⟨rfl, hbn⟩; clear hcall; have hh := kept_call hS hbn; rw [HU4.out]; obtain ⟨-, x00, x01, x02, x03, x04, x10, x11, x12, x13, x14⟩ := kept_boxes2 hh HC.out)))
    go_wp2
    go_ret
    exact ⟨rfl, (held_below HH.out).trans (hh.mono (by have := held_size HH.out; omega))⟩
  · have ep : decide (0 < t.freeB) = false := by simpa using hp
    have HU4 := Lib.hid (HK4.out.trans (if_neg hp))
    go_wp2_with fail
    go_region_held3 (fun w' => Kept wf w' ∧ w'.cell? ⟨w.heap.size, 0, none⟩ = some (.int .i64 t.k) ∧ w'.cell? ⟨w.heap.size, 1, none⟩ = some (.int .i64 t.i) ∧ w'.cell? ⟨w.heap.size, 2, none⟩ = some (.int .i64 t.j) ∧ w'.cell? ⟨w.heap.size, 3, none⟩ = some (.int .i64 t.n) ∧ w'.cell? ⟨w.heap.size, 4, none⟩ = some (.slice a t.kids.length cap) ∧ w'.cell? ⟨wl.heap.size, 0, none⟩ = some (.int .i64 U.k) ∧ w'.cell? ⟨wl.heap.size, 1, none⟩ = some (.int .i64 U.i) ∧ w'.cell? ⟨wl.heap.size, 2, none⟩ = some (.int .i64 U.j) ∧ w'.cell? ⟨wl.heap.size, 3, none⟩ = some (.int .i64 U.n) ∧ w'.cell? ⟨wl.heap.size, 4, none⟩ = some (.slice a8 U.kids.length cap8))
      (((with_reducible refine kept_boxes2 ?_ HC.out); repeat (first | with_reducible assumption | with_reducible exact hK0 | with_reducible refine kept_drew ?_ | with_reducible refine kept_alloc ?_ _)))
      (first | (go_at_call 56; have hS := (‹Kept wf _ ∧ _›).1; ((refine (wakes5_any _).mono ?_); rintro e wn ⟨rfl, hbn⟩; have hh := kept_call hS hbn; obtain ⟨-, x00, x01, x02, x03, x04, x10, x11, x12, x13, x14⟩ := kept_boxes2 hh HC.out)) | (go_at_call 32; have hS := (‹Kept wf _ ∧ _›).1; have hcall := refright_any U _ _ (kept_lies hS HLU.out); ((with_reducible refine Calls.mono hcall ?_); rintro e wn ⟨rfl, hbn⟩; clear hcall; have hh := kept_call hS hbn; rw [HU1.out]; obtain ⟨-, x00, x01, x02, x03, x04, x10, x11, x12, x13, x14⟩ := kept_boxes2 hh HC.out)) | (go_at_call 34; have hS := (‹Kept wf _ ∧ _›).1; have hcall := refmarked_any U _ _ (kept_lies hS HLU.out); ((with_reducible refine Calls.mono hcall ?_); rintro e wn ⟨rfl, hbn⟩; clear hcall; have hh := kept_call hS hbn; rw [HU2.out]; obtain ⟨-, x00, x01, x02, x03, x04, x10, x11, x12, x13, x14⟩ := kept_boxes2 hh HC.out)) | (go_at_call 34; have hS := (‹Kept wf _ ∧ _›).1; have hcall := refmarked_any t _ _ (kept_lies hS HLT.out); ((with_reducible refine Calls.mono hcall ?_); rintro e wn ⟨rfl, hbn⟩; clear hcall; have hh := kept_call hS hbn; obtain ⟨-, x00, x01, x02, x03, x04, x10, x11, x12, x13, x14⟩ := kept_boxes2 hh HC.out)) | (go_at_call 40; have hS := (‹Kept wf _ ∧ _›).1; have hcall := refsize_any U _ _ (kept_lies hS HLU.out) HSZU.out; ((with_reducible refine Calls.mono hcall ?_); rintro e wn ⟨rfl, hbn⟩; clear hcall; have hh := kept_call hS hbn; rw [HU3.out]; obtain ⟨-, x00, x01, x02, x03, x04, x10, x11, x12, x13, x14⟩ := kept_boxes2 hh HC.out)) | (go_at_call 40; have hS := (‹Kept wf _ ∧ _›).1; have hcall := refsize_any t _ _ (kept_lies hS HLT.out) HSZT.out; ((with_reducible refine Calls.mono hcall ?_); rintro e wn ⟨rfl, hbn⟩; clear hcall; have hh := kept_call hS hbn; obtain ⟨-, x00, x01, x02, x03, x04, x10, x11, x12, x13, x14⟩ := kept_boxes2 hh HC.out)) | (go_at_call 44; have hS := (‹Kept wf _ ∧ _›).1; have hcall := refFree_any U _ _ (kept_lies hS HLU.out); ((with_reducible refine Calls.mono hcall ?_); rintro e wn ⟨rfl, hbn⟩; clear hcall; have hh := kept_call hS hbn; rw [HU4.out]; obtain ⟨-, x00, x01, x02, x03, x04, x10, x11, x12, x13, x14⟩ := kept_boxes2 hh HC.out)))
    go_wp2
    go_ret
    exact ⟨rfl, (held_below HH.out).trans (hh.mono (by have := held_size HH.out; omega))⟩
end Go.Proofs.Ytjafbnilejmbiaa
