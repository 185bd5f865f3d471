/-
  The walk of transhiplaw05.LiftTwice.
-/
import Derived.Test.YtjafbnilejmbiaaLawKit
import Derived.Test.YtjafbnilejmbiaaWakes5
import Derived.Test.YtjafbnilejmbiaaLiftFacts
import Derived.Test.YtjafbnilejmbiaaRefMore
namespace Go.Proofs.Ytjafbnilejmbiaa
open Go.RowKit

set_option maxRecDepth 20000 in
set_option maxHeartbeats 4000000 in
theorem liftTwice_any (t : Tm) (k m c : Int) (w : World) (s : Value) (hl : Lies w t.kids s) (hk : I64 k) (hm : I64 m) (hc : I64 c) : Calls Try.prog 9 #[tv t s, .int .i64 k, .int .i64 m, .int .i64 c] w fun e w' => e = .returned (.bool true) ∧ Below w.heap.size w w' := by
  obtain ⟨a, cap, S, rfl, hcap, hmx, -, -, -⟩ := hl.out
  have H0 := held_start w t (.slice a t.kids.length cap)
  have HL := Lib.hid hl
  unfold tv
  clear hl
  go_enter Try.func9, Try.ntmps9
  go_wp2_with fail
  refine (great_any t _ _ 300 (held_lies H0 HL.out) (by omega) (by omega)).mono ?_
  rintro e w1 ⟨g, rfl, hg, hb'⟩
  have H1 := held_call H0 hb'
  obtain ⟨d0, d1, d2, d3, d4⟩ := held_cells H1
  have HG := Lib.hid hg
  clear hg hb' H0
  cases g with
  | true =>
    go_wp2
    go_ret
    exact ⟨rfl, held_below H1⟩
  | false =>
  have hz_t := (HG.out rfl).1
  have hd_t := (HG.out rfl).2
  clear HG
  by_cases hp1 : k < 0
  · have ep1 : decide (k < 0) = true := by simpa using hp1
    go_wp2
    go_ret
    exact ⟨rfl, held_below H1⟩
  have ep1 : decide (k < 0) = false := by simpa using hp1
  by_cases hp2 : m < 0
  · have ep2 : decide (m < 0) = true := by simpa using hp2
    go_wp2
    go_ret
    exact ⟨rfl, held_below H1⟩
  have ep2 : decide (m < 0) = false := by simpa using hp2
  by_cases hp3 : 1099511627776 < k
  · have ep3 : decide (1099511627776 < k) = true := by simpa using hp3
    go_wp2
    go_ret
    exact ⟨rfl, held_below H1⟩
  have ep3 : decide (1099511627776 < k) = false := by simpa using hp3
  by_cases hp4 : 1099511627776 < m
  · have ep4 : decide (1099511627776 < m) = true := by simpa using hp4
    go_wp2
    go_ret
    exact ⟨rfl, held_below H1⟩
  have ep4 : decide (1099511627776 < m) = false := by simpa using hp4
  go_wp2_with fail
  refine (refright_any t _ _ (held_lies H1 HL.out)).mono ?_
  rintro e w2 ⟨rfl, hb'⟩
  have H2 := held_call H1 hb'
  obtain ⟨d0, d1, d2, d3, d4⟩ := held_cells H2
  clear hb' H1
  cases hr_rt : t.rightB with
  | false =>
    go_wp2
    go_ret
    exact ⟨rfl, held_below H2⟩
  | true =>
  have HRrt := Lib.hid hr_rt
  clear hr_rt
  go_wp2_with fail
  refine (refFree_any t _ _ (held_lies H2 HL.out)).mono ?_
  rintro e w3 ⟨rfl, hb'⟩
  have H3 := held_call H2 hb'
  obtain ⟨d0, d1, d2, d3, d4⟩ := held_cells H3
  clear hb' H2
  by_cases hp5 : 1048576 < t.freeB
  · have ep5 : decide (1048576 < t.freeB) = true := by simpa using hp5
    go_wp2
    go_ret
    exact ⟨rfl, held_below H3⟩
  have ep5 : decide (1048576 < t.freeB) = false := by simpa using hp5
  by_cases hp6 : 1048576 < k
  · have ep6 : decide (1048576 < k) = true := by simpa using hp6
    go_wp2
    go_ret
    exact ⟨rfl, held_below H3⟩
  have ep6 : decide (1048576 < k) = false := by simpa using hp6
  by_cases hp7 : 1048576 < m
  · have ep7 : decide (1048576 < m) = true := by simpa using hp7
    go_wp2
    go_ret
    exact ⟨rfl, held_below H3⟩
  have ep7 : decide (1048576 < m) = false := by simpa using hp7
  have hr : t.rightB = true := HRrt.out
  have hfr : t.freeN ≤ 1048576 := by rw [← free_of hr]; omega
  have hsz : t.size ≤ 100000 := by omega
  have hkm : I64 (k + m) := by unfold I64; omega
  have hsum : IntKind.i64.wrap (k + m) = k + m := IntWalk.i64_in _ (by omega)
  have HTW := Lib.hid (liftB_twice (c := c) (k := k) (m := m) (by omega) (by omega) (by omega) hr hfr (by omega))
  have HD1 := Lib.hid (liftB_deep t k c hsz)
  have HDT : Hid (t.deep ≤ 100000) := by have : t.deep ≤ 100000 := by omega
                                         exact this
  have HC := Lib.hid (held_cells H3)
  have HLT := Lib.hid (held_lies H3 HL.out)
  have hK0 := kept_start w3
  have HH := Lib.hid H3
  clear hr hz_t hd_t HRrt
  go_wp2_with fail
  go_region_held3 (fun w' => Kept w3 w' ∧ w'.cell? ⟨w.heap.size, 0, none⟩ = some (.int .i64 t.k) ∧ w'.cell? ⟨w.heap.size, 1, none⟩ = some (.int .i64 t.i) ∧ w'.cell? ⟨w.heap.size, 2, none⟩ = some (.int .i64 t.j) ∧ w'.cell? ⟨w.heap.size, 3, none⟩ = some (.int .i64 t.n) ∧ w'.cell? ⟨w.heap.size, 4, none⟩ = some (.slice a t.kids.length cap))
    (((with_reducible refine kept_boxes1 ?_ HC.out); repeat (first | with_reducible assumption | with_reducible exact hK0 | with_reducible refine kept_drew ?_ | with_reducible refine kept_alloc ?_ _)))
    (first | (go_at_call 56; have hS := (‹Kept w3 _ ∧ _›).1; ((refine (wakes5_any _).mono ?_); rintro e wn ⟨rfl, hbn⟩; have hh := kept_call hS hbn; obtain ⟨-, x00, x01, x02, x03, x04⟩ := kept_boxes1 hh HC.out)) | (go_at_call 51; have mk0 := HP2.out; have mk1 := HM3.out; have hS := (‹Kept w3 _ ∧ _›).1; have hcall := keepsame_eq ((t.liftB k c).liftB m c) _ _ _ mk0 mk1; ((with_reducible refine Calls.mono hcall ?_); rintro e wn ⟨rfl, hbn⟩; clear hcall; have hh := kept_call hS hbn; obtain ⟨-, x00, x01, x02, x03, x04⟩ := kept_boxes1 hh HC.out)) | (go_at_call 54; have mk0 := HM2.out; have hS := (‹Kept w3 _ ∧ _›).1; have hcall := lift_any t (k + m) c _ _ (kept_lies hS HLT.out) hkm hc HDT.out; ((with_reducible refine Calls.mono hcall ?_); rintro e wn ⟨s10, rfl, hl10, hbn⟩; clear hcall; have hh := kept_call hS hbn; rw [← HTW.out] at hl10 ⊢; obtain ⟨a10, cap10, rfl, -, -⟩ := hl10.out; have HP2 := Lib.hid (mk0.keep hbn); have HM3 := Lib.hid hl10.lies; clear hl10; obtain ⟨-, x00, x01, x02, x03, x04⟩ := kept_boxes1 hh HC.out)) | (go_at_call 54; have mk0 := HM1.out; have hS := (‹Kept w3 _ ∧ _›).1; have hcall := lift_any (t.liftB k c) m c _ _ mk0 hm hc HD1.out; ((with_reducible refine Calls.mono hcall ?_); rintro e wn ⟨s9, rfl, hl9, hbn⟩; clear hcall; have hh := kept_call hS hbn; obtain ⟨a9, cap9, rfl, -, -⟩ := hl9.out; have HM2 := Lib.hid hl9.lies; clear hl9; obtain ⟨-, x00, x01, x02, x03, x04⟩ := kept_boxes1 hh HC.out)) | (go_at_call 54; have hS := (‹Kept w3 _ ∧ _›).1; have hcall := lift_any t k c _ _ (kept_lies hS HLT.out) hk hc HDT.out; ((with_reducible refine Calls.mono hcall ?_); rintro e wn ⟨s8, rfl, hl8, hbn⟩; clear hcall; have hh := kept_call hS hbn; obtain ⟨a8, cap8, rfl, -, -⟩ := hl8.out; have HM1 := Lib.hid hl8.lies; clear hl8; obtain ⟨-, x00, x01, x02, x03, x04⟩ := kept_boxes1 hh HC.out)))
  go_wp2
  go_ret
  exact ⟨rfl, (held_below HH.out).trans (hh.mono (by have := held_size HH.out; omega))⟩
end Go.Proofs.Ytjafbnilejmbiaa
