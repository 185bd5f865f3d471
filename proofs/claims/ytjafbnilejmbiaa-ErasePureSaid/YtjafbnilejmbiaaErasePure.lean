/-
  The walk of transhiplaw08.ErasePure.
-/
import Derived.Test.YtjafbnilejmbiaaLawKit
import Derived.Test.YtjafbnilejmbiaaL8
import Derived.Test.YtjafbnilejmbiaaRefMore
namespace Go.Proofs.Ytjafbnilejmbiaa
open Go.RowKit

set_option maxRecDepth 20000 in
set_option maxHeartbeats 4000000 in
theorem erasePure_any (t : Tm) (w : World) (s : Value) (hl : Lies w t.kids s) : Calls Try.prog 26 #[tv t s] w fun e w' => e = .returned (.bool true) ∧ Below w.heap.size w w' := by
  obtain ⟨a, cap, S, rfl, hcap, hmx, -, -, -⟩ := hl.out
  have H0 := held_start w t (.slice a t.kids.length cap)
  have HL := Lib.hid hl
  unfold tv
  clear hl
  go_enter Try.func26, Try.ntmps26
  go_wp2_with fail
  refine (great_any t _ _ 250 (held_lies H0 HL.out) (by omega) (by omega)).mono ?_
  rintro e w1 ⟨g, rfl, hg, hb'⟩
  have H1 := held_call H0 hb'
  obtain ⟨d0, d1, d2, d3, d4⟩ := held_cells H1
  have HG := Lib.hid hg
  clear hg hb' H0
  cases g with
  | true =>
    go_wp2
    go_ret
    exact ⟨rfl, held_below H1⟩
  | false =>
  have hz_t := (HG.out rfl).1
  have hd_t := (HG.out rfl).2
  clear HG
  go_wp2_with fail
  refine (refmarked_any t _ _ (held_lies H1 HL.out)).mono ?_
  rintro e w2 ⟨rfl, hb'⟩
  have H2 := held_call H1 hb'
  obtain ⟨d0, d1, d2, d3, d4⟩ := held_cells H2
  clear hb' H1
  cases hr_mt : t.markedB with
  | false =>
    go_wp2
    go_ret
    exact ⟨rfl, held_below H2⟩
  | true =>
  have HRmt := Lib.hid hr_mt
  clear hr_mt
  have hr : t.markedB = true := HRmt.out
  have hsz : t.size ≤ 1000000000000 := by omega
  obtain ⟨U, hU⟩ : ∃ U, t.eraseB = U := ⟨_, rfl⟩
  obtain ⟨C, hC⟩ : ∃ C : Int, ((t.countB : Nat) : Int) = C := ⟨_, rfl⟩
  have k1 := eraseB_pure hr
  have k2 := eraseB_again hr
  have k3 := eraseB_size hr
  have k4 := eraseB_count hr
  rw [hU] at k1 k2 k3 k4
  rw [hC] at k4
  have HU := Lib.hid hU
  have HU1 := Lib.hid k1
  have HU2 := Lib.hid k2
  have HCN := Lib.hid hC
  have HSZT := Lib.hid hsz
  have HSZU := Lib.hid (Nat.le_trans k3 hsz)
  have HK4 := Lib.hid k4
  clear k1 k2 k3 k4 hr hz_t hd_t HRmt hU hC hsz
  go_wp2_with fail
  refine (erase_any t _ _ (held_lies H2 HL.out)).mono ?_
  rw [HU.out]
  rintro e wl ⟨s8, rfl, hl8, hb8⟩
  obtain ⟨a8, cap8, rfl, -, -⟩ := hl8.out
  have HA := held_call H2 hb8
  obtain ⟨d0, d1, d2, d3, d4⟩ := held_cells HA
  have hsl : w.heap.size < wl.heap.size := by have := held_size HA; omega
  have HLA := Lib.hid hl8.lies
  clear hb8 hl8 H2
  have HB := held_alloc HA (.cells #[.int .i64 U.k, .int .i64 U.i, .int .i64 U.j, .int .i64 U.n, .slice a8 U.kids.length cap8] 24)
  have q9 := alloc_new wl (.cells #[.int .i64 U.k, .int .i64 U.i, .int .i64 U.j, .int .i64 U.n, .slice a8 U.kids.length cap8] 24)
  have HLU0 := HLA.out.keep ((Below.refl _ _).alloc (Nat.le_refl _) (.cells #[.int .i64 U.k, .int .i64 U.i, .int .i64 U.j, .int .i64 U.n, .slice a8 U.kids.length cap8] 24))
  go_wp2_with fail
  generalize wl.alloc (.cells #[.int .i64 U.k, .int .i64 U.i, .int .i64 U.j, .int .i64 U.n, .slice a8 U.kids.length cap8] 24) = wf at HB q9 HLU0 ⊢
  have HC := Lib.hid (and_five (held_cells HB) (five_cells q9))
  clear d0 d1 d2 d3 d4 HA
  obtain ⟨d0, d1, d2, d3, d4⟩ := held_cells HB
  obtain ⟨y0, y1, y2, y3, y4⟩ := five_cells q9
  have HLT := Lib.hid (held_lies HB HL.out)
  have HLU := Lib.hid HLU0
  have hK0 := kept_start wf
  have HH := Lib.hid HB
  clear HB HLU0 q9
  cases hsm : sameB U t with
  | false =>
    have eC : (C == 0) = false := HK4.out.trans hsm
    have HSM := Lib.hid hsm
    clear hsm
    go_region_held3 (fun w' => Kept wf w' ∧ w'.cell? ⟨w.heap.size, 0, none⟩ = some (.int .i64 t.k) ∧ w'.cell? ⟨w.heap.size, 1, none⟩ = some (.int .i64 t.i) ∧ w'.cell? ⟨w.heap.size, 2, none⟩ = some (.int .i64 t.j) ∧ w'.cell? ⟨w.heap.size, 3, none⟩ = some (.int .i64 t.n) ∧ w'.cell? ⟨w.heap.size, 4, none⟩ = some (.slice a t.kids.length cap) ∧ w'.cell? ⟨wl.heap.size, 0, none⟩ = some (.int .i64 U.k) ∧ w'.cell? ⟨wl.heap.size, 1, none⟩ = some (.int .i64 U.i) ∧ w'.cell? ⟨wl.heap.size, 2, none⟩ = some (.int .i64 U.j) ∧ w'.cell? ⟨wl.heap.size, 3, none⟩ = some (.int .i64 U.n) ∧ w'.cell? ⟨wl.heap.size, 4, none⟩ = some (.slice a8 U.kids.length cap8))
      (((with_reducible refine kept_boxes2 ?_ HC.out); repeat (first | with_reducible assumption | with_reducible exact hK0 | with_reducible refine kept_drew ?_ | with_reducible refine kept_alloc ?_ _)))
      (first | (go_at_call 75; have hS := (‹Kept wf _ ∧ _›).1; ((refine (wakes8_any _).mono ?_); rintro e wn ⟨rfl, hbn⟩; have hh := kept_call hS hbn; obtain ⟨-, x00, x01, x02, x03, x04, x10, x11, x12, x13, x14⟩ := kept_boxes2 hh HC.out)) | (go_at_call 36; have hS := (‹Kept wf _ ∧ _›).1; have hcall := refpure_any U _ _ (kept_lies hS HLU.out) HSZU.out; ((with_reducible refine Calls.mono hcall ?_); rintro e wn ⟨rfl, hbn⟩; clear hcall; have hh := kept_call hS hbn; rw [HU1.out]; obtain ⟨-, x00, x01, x02, x03, x04, x10, x11, x12, x13, x14⟩ := kept_boxes2 hh HC.out)) | (go_at_call 72; have hS := (‹Kept wf _ ∧ _›).1; have hcall := erase_any U _ _ (kept_lies hS HLU.out); ((with_reducible refine Calls.mono hcall ?_); rintro e wn ⟨s9, rfl, hl9, hbn⟩; clear hcall; have hh := kept_call hS hbn; rw [HU2.out] at hl9 ⊢; obtain ⟨a9, cap9, rfl, -, -⟩ := hl9.out; have HM1 := Lib.hid hl9.lies; clear hl9; obtain ⟨-, x00, x01, x02, x03, x04, x10, x11, x12, x13, x14⟩ := kept_boxes2 hh HC.out)) | (go_at_call 74; have hS := (‹Kept wf _ ∧ _›).1; have hcall := count_any t _ _ (kept_lies hS HLT.out) HSZT.out; ((with_reducible refine Calls.mono hcall ?_); rintro e wn ⟨rfl, hbn⟩; clear hcall; have hh := kept_call hS hbn; rw [HCN.out]; obtain ⟨-, x00, x01, x02, x03, x04, x10, x11, x12, x13, x14⟩ := kept_boxes2 hh HC.out)) | (go_at_call 51; have mk0 := HM1.out; have hS := (‹Kept wf _ ∧ _›).1; have hcall := keepsame_eq U _ _ _ mk0 (kept_lies hS HLU.out); ((with_reducible refine Calls.mono hcall ?_); rintro e wn ⟨rfl, hbn⟩; clear hcall; have hh := kept_call hS hbn; obtain ⟨-, x00, x01, x02, x03, x04, x10, x11, x12, x13, x14⟩ := kept_boxes2 hh HC.out)) | (go_at_call 51; have hS := (‹Kept wf _ ∧ _›).1; have hcall := keepsame_any U t _ _ _ (kept_lies hS HLU.out) (kept_lies hS HLT.out); ((with_reducible refine Calls.mono hcall ?_); rintro e wn ⟨rfl, hbn⟩; clear hcall; have hh := kept_call hS hbn; rw [HSM.out]; obtain ⟨-, x00, x01, x02, x03, x04, x10, x11, x12, x13, x14⟩ := kept_boxes2 hh HC.out)))
    go_wp2
    go_ret
    exact ⟨rfl, (held_below HH.out).trans (hh.mono (by have := held_size HH.out; omega))⟩
  | true =>
    have eC : (C == 0) = true := HK4.out.trans hsm
    have HSM := Lib.hid hsm
    clear hsm
    go_region_held3 (fun w' => Kept wf w' ∧ w'.cell? ⟨w.heap.size, 0, none⟩ = some (.int .i64 t.k) ∧ w'.cell? ⟨w.heap.size, 1, none⟩ = some (.int .i64 t.i) ∧ w'.cell? ⟨w.heap.size, 2, none⟩ = some (.int .i64 t.j) ∧ w'.cell? ⟨w.heap.size, 3, none⟩ = some (.int .i64 t.n) ∧ w'.cell? ⟨w.heap.size, 4, none⟩ = some (.slice a t.kids.length cap) ∧ w'.cell? ⟨wl.heap.size, 0, none⟩ = some (.int .i64 U.k) ∧ w'.cell? ⟨wl.heap.size, 1, none⟩ = some (.int .i64 U.i) ∧ w'.cell? ⟨wl.heap.size, 2, none⟩ = some (.int .i64 U.j) ∧ w'.cell? ⟨wl.heap.size, 3, none⟩ = some (.int .i64 U.n) ∧ w'.cell? ⟨wl.heap.size, 4, none⟩ = some (.slice a8 U.kids.length cap8))
      (((with_reducible refine kept_boxes2 ?_ HC.out); repeat (first | with_reducible assumption | with_reducible exact hK0 | with_reducible refine kept_drew ?_ | with_reducible refine kept_alloc ?_ _)))
      (first | (go_at_call 75; have hS := (‹Kept wf _ ∧ _›).1; ((refine (wakes8_any _).mono ?_); rintro e wn ⟨rfl, hbn⟩; have hh := kept_call hS hbn; obtain ⟨-, x00, x01, x02, x03, x04, x10, x11, x12, x13, x14⟩ := kept_boxes2 hh HC.out)) | (go_at_call 36; have hS := (‹Kept wf _ ∧ _›).1; have hcall := refpure_any U _ _ (kept_lies hS HLU.out) HSZU.out; ((with_reducible refine Calls.mono hcall ?_); rintro e wn ⟨rfl, hbn⟩; clear hcall; have hh := kept_call hS hbn; rw [HU1.out]; obtain ⟨-, x00, x01, x02, x03, x04, x10, x11, x12, x13, x14⟩ := kept_boxes2 hh HC.out)) | (go_at_call 72; have hS := (‹Kept wf _ ∧ _›).1; have hcall := erase_any U _ _ (kept_lies hS HLU.out); ((with_reducible refine Calls.mono hcall ?_); rintro e wn ⟨s9, rfl, hl9, hbn⟩; clear hcall; have hh := kept_call hS hbn; rw [HU2.out] at hl9 ⊢; obtain ⟨a9, cap9, rfl, -, -⟩ := hl9.out; have HM1 := Lib.hid hl9.lies; clear hl9; obtain ⟨-, x00, x01, x02, x03, x04, x10, x11, x12, x13, x14⟩ := kept_boxes2 hh HC.out)) | (go_at_call 74; have hS := (‹Kept wf _ ∧ _›).1; have hcall := count_any t _ _ (kept_lies hS HLT.out) HSZT.out; ((with_reducible refine Calls.mono hcall ?_); rintro e wn ⟨rfl, hbn⟩; clear hcall; have hh := kept_call hS hbn; rw [HCN.out]; obtain ⟨-, x00, x01, x02, x03, x04, x10, x11, x12, x13, x14⟩ := kept_boxes2 hh HC.out)) | (go_at_call 51; have mk0 := HM1.out; have hS := (‹Kept wf _ ∧ _›).1; have hcall := keepsame_eq U _ _ _ mk0 (kept_lies hS HLU.out); ((with_reducible refine Calls.mono hcall ?_); rintro e wn ⟨rfl, hbn⟩; clear hcall; have hh := kept_call hS hbn; obtain ⟨-, x00, x01, x02, x03, x04, x10, x11, x12, x13, x14⟩ := kept_boxes2 hh HC.out)) | (go_at_call 51; have hS := (‹Kept wf _ ∧ _›).1; have hcall := keepsame_any U t _ _ _ (kept_lies hS HLU.out) (kept_lies hS HLT.out); ((with_reducible refine Calls.mono hcall ?_); rintro e wn ⟨rfl, hbn⟩; clear hcall; have hh := kept_call hS hbn; rw [HSM.out]; obtain ⟨-, x00, x01, x02, x03, x04, x10, x11, x12, x13, x14⟩ := kept_boxes2 hh HC.out)))
    go_wp2
    go_ret
    exact ⟨rfl, (held_below HH.out).trans (hh.mono (by have := held_size HH.out; omega))⟩
end Go.Proofs.Ytjafbnilejmbiaa
