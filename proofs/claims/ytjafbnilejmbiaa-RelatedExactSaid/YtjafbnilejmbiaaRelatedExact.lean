/-
  The walk of transhiplaw08.RelatedExact.
-/
import Derived.Test.YtjafbnilejmbiaaLawKit
import Derived.Test.YtjafbnilejmbiaaL8
import Derived.Test.YtjafbnilejmbiaaRefMore
namespace Go.Proofs.Ytjafbnilejmbiaa
open Go.RowKit

set_option maxRecDepth 20000 in
set_option maxHeartbeats 4000000 in
theorem relatedExact_any (a b c : Tm) (w : World) (sa sb sc : Value) (hla : Lies w a.kids sa) (hlb : Lies w b.kids sb) (hlc : Lies w c.kids sc) : Calls Try.prog 28 #[tv a sa, tv b sb, tv c sc] w fun e w' => e = .returned (.bool true) ∧ Below w.heap.size w w' := by
  obtain ⟨aa, ca, Sa, rfl, -, hma, -, -, -⟩ := hla.out
  obtain ⟨ab, cb, Sb, rfl, -, hmb, -, -, -⟩ := hlb.out
  obtain ⟨ac, cc, Sc, rfl, -, hmc, -, -, -⟩ := hlc.out
  have hB3 := below_three w (.cells #[.int .i64 a.k, .int .i64 a.i, .int .i64 a.j, .int .i64 a.n, .slice aa a.kids.length ca] 24) (.cells #[.int .i64 b.k, .int .i64 b.i, .int .i64 b.j, .int .i64 b.n, .slice ab b.kids.length cb] 24) (.cells #[.int .i64 c.k, .int .i64 c.i, .int .i64 c.j, .int .i64 c.n, .slice ac c.kids.length cc] 24)
  obtain ⟨q0, q1, q2, -⟩ := heap_three w (.cells #[.int .i64 a.k, .int .i64 a.i, .int .i64 a.j, .int .i64 a.n, .slice aa a.kids.length ca] 24) (.cells #[.int .i64 b.k, .int .i64 b.i, .int .i64 b.j, .int .i64 b.n, .slice ab b.kids.length cb] 24) (.cells #[.int .i64 c.k, .int .i64 c.i, .int .i64 c.j, .int .i64 c.n, .slice ac c.kids.length cc] 24)
  have HC0 := Lib.hid (and_five (five_cells q0) (and_five (five_cells q1) (five_cells q2)))
  have HLa := Lib.hid (hla.keep hB3)
  have HLb := Lib.hid (hlb.keep hB3)
  have HLc := Lib.hid (hlc.keep hB3)
  have H0 := kept_start (((w.alloc (.cells #[.int .i64 a.k, .int .i64 a.i, .int .i64 a.j, .int .i64 a.n, .slice aa a.kids.length ca] 24)).alloc (.cells #[.int .i64 b.k, .int .i64 b.i, .int .i64 b.j, .int .i64 b.n, .slice ab b.kids.length cb] 24)).alloc (.cells #[.int .i64 c.k, .int .i64 c.i, .int .i64 c.j, .int .i64 c.n, .slice ac c.kids.length cc] 24))
  obtain ⟨X, hX⟩ : ∃ X, relatedB a b = X := ⟨_, rfl⟩
  obtain ⟨Y, hY⟩ : ∃ Y, relatedB b c = Y := ⟨_, rfl⟩
  obtain ⟨Z, hZ⟩ : ∃ Z, relatedB a c = Z := ⟨_, rfl⟩
  obtain ⟨M, hM⟩ : ∃ M, a.markedB = M := ⟨_, rfl⟩
  have HX := Lib.hid hX
  have HY := Lib.hid hY
  have HZ := Lib.hid hZ
  have HM := Lib.hid hM
  have HXr := Lib.hid ((relatedB_comm b a).trans hX)
  have HMr := Lib.hid ((relatedB_self a).trans hM)
  have HT : Hid (X = true → Y = true → Z = true) := fun h1 h2 => hZ.symm.trans (relatedB_trans (hX.trans h1) (hY.trans h2))
  clear hla hlb hlc q0 q1 q2 hB3 hX hY hZ hM
  unfold tv
  go_enter Try.func28, Try.ntmps28
  go_wp2_with fail
  refine (great_any a _ _ 250 (kept_lies H0 HLa.out) (by omega) (by omega)).mono ?_
  rintro e w1 ⟨g, rfl, hg, hb'⟩
  have H1 := kept_call H0 hb'
  obtain ⟨-, d00, d01, d02, d03, d04, d10, d11, d12, d13, d14, d20, d21, d22, d23, d24⟩ := kept_boxes3 H1 HC0.out
  have HG := Lib.hid hg
  clear hg hb' H0
  cases g with
  | true =>
    go_wp2
    go_ret
    exact ⟨rfl, three_below H1⟩
  | false =>
  have hz_a := (HG.out rfl).1
  have hd_a := (HG.out rfl).2
  clear HG
  go_wp2_with fail
  refine (great_any b _ _ 250 (kept_lies H1 HLb.out) (by omega) (by omega)).mono ?_
  rintro e w2 ⟨g, rfl, hg, hb'⟩
  have H2 := kept_call H1 hb'
  obtain ⟨-, d00, d01, d02, d03, d04, d10, d11, d12, d13, d14, d20, d21, d22, d23, d24⟩ := kept_boxes3 H2 HC0.out
  have HG := Lib.hid hg
  clear hg hb' H1
  cases g with
  | true =>
    go_wp2
    go_ret
    exact ⟨rfl, three_below H2⟩
  | false =>
  have hz_b := (HG.out rfl).1
  have hd_b := (HG.out rfl).2
  clear HG
  go_wp2_with fail
  refine (great_any c _ _ 250 (kept_lies H2 HLc.out) (by omega) (by omega)).mono ?_
  rintro e w3 ⟨g, rfl, hg, hb'⟩
  have H3 := kept_call H2 hb'
  obtain ⟨-, d00, d01, d02, d03, d04, d10, d11, d12, d13, d14, d20, d21, d22, d23, d24⟩ := kept_boxes3 H3 HC0.out
  have HG := Lib.hid hg
  clear hg hb' H2
  cases g with
  | true =>
    go_wp2
    go_ret
    exact ⟨rfl, three_below H3⟩
  | false =>
  have hz_c := (HG.out rfl).1
  have hd_c := (HG.out rfl).2
  clear HG
  have HB0 := Lib.hid (three_below H3)
  have HC := Lib.hid (kept_boxes3 H3 HC0.out).2
  have HA := Lib.hid (kept_lies H3 HLa.out)
  have HB := Lib.hid (kept_lies H3 HLb.out)
  have HCc := Lib.hid (kept_lies H3 HLc.out)
  clear H3 HC0 HLa HLb HLc
  generalize w3 = v0 at *
  have hK0 := kept_start v0
  go_wp2_with fail
  go_region_held3 (fun w' => Kept v0 w' ∧ w'.cell? ⟨w.heap.size, 0, none⟩ = some (.int .i64 a.k) ∧ w'.cell? ⟨w.heap.size, 1, none⟩ = some (.int .i64 a.i) ∧ w'.cell? ⟨w.heap.size, 2, none⟩ = some (.int .i64 a.j) ∧ w'.cell? ⟨w.heap.size, 3, none⟩ = some (.int .i64 a.n) ∧ w'.cell? ⟨w.heap.size, 4, none⟩ = some (.slice aa a.kids.length ca) ∧ w'.cell? ⟨w.heap.size + 1, 0, none⟩ = some (.int .i64 b.k) ∧ w'.cell? ⟨w.heap.size + 1, 1, none⟩ = some (.int .i64 b.i) ∧ w'.cell? ⟨w.heap.size + 1, 2, none⟩ = some (.int .i64 b.j) ∧ w'.cell? ⟨w.heap.size + 1, 3, none⟩ = some (.int .i64 b.n) ∧ w'.cell? ⟨w.heap.size + 1, 4, none⟩ = some (.slice ab b.kids.length cb) ∧ w'.cell? ⟨w.heap.size + 1 + 1, 0, none⟩ = some (.int .i64 c.k) ∧ w'.cell? ⟨w.heap.size + 1 + 1, 1, none⟩ = some (.int .i64 c.i) ∧ w'.cell? ⟨w.heap.size + 1 + 1, 2, none⟩ = some (.int .i64 c.j) ∧ w'.cell? ⟨w.heap.size + 1 + 1, 3, none⟩ = some (.int .i64 c.n) ∧ w'.cell? ⟨w.heap.size + 1 + 1, 4, none⟩ = some (.slice ac c.kids.length cc))
    (((with_reducible refine kept_boxes3 ?_ HC.out); repeat (first | with_reducible assumption | with_reducible exact hK0 | with_reducible refine kept_drew ?_ | with_reducible refine kept_alloc ?_ _)))
    (first | (go_at_call 76; have hS := (‹Kept v0 _ ∧ _›).1; have hcall := related_any a b _ _ _ (kept_lies hS HA.out) (kept_lies hS HB.out); ((with_reducible refine Calls.mono hcall ?_); rintro e wn ⟨rfl, hbn⟩; clear hcall; have hh := kept_call hS hbn; rw [HX.out]; obtain ⟨-, x00, x01, x02, x03, x04, x10, x11, x12, x13, x14, x20, x21, x22, x23, x24⟩ := kept_boxes3 hh HC.out)) | (go_at_call 76; have hS := (‹Kept v0 _ ∧ _›).1; have hcall := related_any b c _ _ _ (kept_lies hS HB.out) (kept_lies hS HCc.out); ((with_reducible refine Calls.mono hcall ?_); rintro e wn ⟨rfl, hbn⟩; clear hcall; have hh := kept_call hS hbn; rw [HY.out]; obtain ⟨-, x00, x01, x02, x03, x04, x10, x11, x12, x13, x14, x20, x21, x22, x23, x24⟩ := kept_boxes3 hh HC.out)) | (go_at_call 76; have hS := (‹Kept v0 _ ∧ _›).1; have hcall := related_any a c _ _ _ (kept_lies hS HA.out) (kept_lies hS HCc.out); ((with_reducible refine Calls.mono hcall ?_); rintro e wn ⟨rfl, hbn⟩; clear hcall; have hh := kept_call hS hbn; rw [HZ.out]; obtain ⟨-, x00, x01, x02, x03, x04, x10, x11, x12, x13, x14, x20, x21, x22, x23, x24⟩ := kept_boxes3 hh HC.out)))
  cases X with
  | false =>
    go_wp2_with fail
    have hcall := refrelated_any a b _ _ _ (kept_lies hh HA.out) (kept_lies hh HB.out)
    rw [HX.out] at hcall
    refine hcall.mono ?_
    rintro e wp ⟨rfl, hbp⟩
    have hh2 := kept_call hh hbp
    clear hcall hbp
    obtain ⟨-, x00, x01, x02, x03, x04, x10, x11, x12, x13, x14, x20, x21, x22, x23, x24⟩ := kept_boxes3 hh2 HC.out
    go_wp2_with fail
    have hcall := related_any b a _ _ _ (kept_lies hh2 HB.out) (kept_lies hh2 HA.out)
    rw [HXr.out] at hcall
    refine hcall.mono ?_
    rintro e wq ⟨rfl, hbq⟩
    have hh3 := kept_call hh2 hbq
    clear hcall hbq
    obtain ⟨-, x00, x01, x02, x03, x04, x10, x11, x12, x13, x14, x20, x21, x22, x23, x24⟩ := kept_boxes3 hh3 HC.out
    cases M with
    | false =>
      go_wp2_with fail
      go_region_held3 (fun w' => Kept v0 w' ∧ w'.cell? ⟨w.heap.size, 0, none⟩ = some (.int .i64 a.k) ∧ w'.cell? ⟨w.heap.size, 1, none⟩ = some (.int .i64 a.i) ∧ w'.cell? ⟨w.heap.size, 2, none⟩ = some (.int .i64 a.j) ∧ w'.cell? ⟨w.heap.size, 3, none⟩ = some (.int .i64 a.n) ∧ w'.cell? ⟨w.heap.size, 4, none⟩ = some (.slice aa a.kids.length ca) ∧ w'.cell? ⟨w.heap.size + 1, 0, none⟩ = some (.int .i64 b.k) ∧ w'.cell? ⟨w.heap.size + 1, 1, none⟩ = some (.int .i64 b.i) ∧ w'.cell? ⟨w.heap.size + 1, 2, none⟩ = some (.int .i64 b.j) ∧ w'.cell? ⟨w.heap.size + 1, 3, none⟩ = some (.int .i64 b.n) ∧ w'.cell? ⟨w.heap.size + 1, 4, none⟩ = some (.slice ab b.kids.length cb) ∧ w'.cell? ⟨w.heap.size + 1 + 1, 0, none⟩ = some (.int .i64 c.k) ∧ w'.cell? ⟨w.heap.size + 1 + 1, 1, none⟩ = some (.int .i64 c.i) ∧ w'.cell? ⟨w.heap.size + 1 + 1, 2, none⟩ = some (.int .i64 c.j) ∧ w'.cell? ⟨w.heap.size + 1 + 1, 3, none⟩ = some (.int .i64 c.n) ∧ w'.cell? ⟨w.heap.size + 1 + 1, 4, none⟩ = some (.slice ac c.kids.length cc))
        (((with_reducible refine kept_boxes3 ?_ HC.out); repeat (first | with_reducible assumption | with_reducible exact hh3 | with_reducible refine kept_drew ?_ | with_reducible refine kept_alloc ?_ _)))
        (first | (go_at_call 75; have hS := (‹Kept v0 _ ∧ _›).1; ((refine (wakes8_any _).mono ?_); rintro e wn ⟨rfl, hbn⟩; have hh := kept_call hS hbn; obtain ⟨-, x00, x01, x02, x03, x04, x10, x11, x12, x13, x14, x20, x21, x22, x23, x24⟩ := kept_boxes3 hh HC.out)) | (go_at_call 76; have hS := (‹Kept v0 _ ∧ _›).1; have hcall := related_any a a _ _ _ (kept_lies hS HA.out) (kept_lies hS HA.out); ((with_reducible refine Calls.mono hcall ?_); rintro e wn ⟨rfl, hbn⟩; clear hcall; have hh := kept_call hS hbn; rw [HMr.out]; obtain ⟨-, x00, x01, x02, x03, x04, x10, x11, x12, x13, x14, x20, x21, x22, x23, x24⟩ := kept_boxes3 hh HC.out)) | (go_at_call 34; have hS := (‹Kept v0 _ ∧ _›).1; have hcall := refmarked_any a _ _ (kept_lies hS HA.out); ((with_reducible refine Calls.mono hcall ?_); rintro e wn ⟨rfl, hbn⟩; clear hcall; have hh := kept_call hS hbn; rw [HM.out]; obtain ⟨-, x00, x01, x02, x03, x04, x10, x11, x12, x13, x14, x20, x21, x22, x23, x24⟩ := kept_boxes3 hh HC.out)))
      go_wp2
      go_ret
      exact ⟨rfl, HB0.out.trans (hh.mono HB0.out.size)⟩
    | true =>
      go_wp2_with fail
      go_region_held3 (fun w' => Kept v0 w' ∧ w'.cell? ⟨w.heap.size, 0, none⟩ = some (.int .i64 a.k) ∧ w'.cell? ⟨w.heap.size, 1, none⟩ = some (.int .i64 a.i) ∧ w'.cell? ⟨w.heap.size, 2, none⟩ = some (.int .i64 a.j) ∧ w'.cell? ⟨w.heap.size, 3, none⟩ = some (.int .i64 a.n) ∧ w'.cell? ⟨w.heap.size, 4, none⟩ = some (.slice aa a.kids.length ca) ∧ w'.cell? ⟨w.heap.size + 1, 0, none⟩ = some (.int .i64 b.k) ∧ w'.cell? ⟨w.heap.size + 1, 1, none⟩ = some (.int .i64 b.i) ∧ w'.cell? ⟨w.heap.size + 1, 2, none⟩ = some (.int .i64 b.j) ∧ w'.cell? ⟨w.heap.size + 1, 3, none⟩ = some (.int .i64 b.n) ∧ w'.cell? ⟨w.heap.size + 1, 4, none⟩ = some (.slice ab b.kids.length cb) ∧ w'.cell? ⟨w.heap.size + 1 + 1, 0, none⟩ = some (.int .i64 c.k) ∧ w'.cell? ⟨w.heap.size + 1 + 1, 1, none⟩ = some (.int .i64 c.i) ∧ w'.cell? ⟨w.heap.size + 1 + 1, 2, none⟩ = some (.int .i64 c.j) ∧ w'.cell? ⟨w.heap.size + 1 + 1, 3, none⟩ = some (.int .i64 c.n) ∧ w'.cell? ⟨w.heap.size + 1 + 1, 4, none⟩ = some (.slice ac c.kids.length cc))
        (((with_reducible refine kept_boxes3 ?_ HC.out); repeat (first | with_reducible assumption | with_reducible exact hh3 | with_reducible refine kept_drew ?_ | with_reducible refine kept_alloc ?_ _)))
        (first | (go_at_call 75; have hS := (‹Kept v0 _ ∧ _›).1; ((refine (wakes8_any _).mono ?_); rintro e wn ⟨rfl, hbn⟩; have hh := kept_call hS hbn; obtain ⟨-, x00, x01, x02, x03, x04, x10, x11, x12, x13, x14, x20, x21, x22, x23, x24⟩ := kept_boxes3 hh HC.out)) | (go_at_call 76; have hS := (‹Kept v0 _ ∧ _›).1; have hcall := related_any a a _ _ _ (kept_lies hS HA.out) (kept_lies hS HA.out); ((with_reducible refine Calls.mono hcall ?_); rintro e wn ⟨rfl, hbn⟩; clear hcall; have hh := kept_call hS hbn; rw [HMr.out]; obtain ⟨-, x00, x01, x02, x03, x04, x10, x11, x12, x13, x14, x20, x21, x22, x23, x24⟩ := kept_boxes3 hh HC.out)) | (go_at_call 34; have hS := (‹Kept v0 _ ∧ _›).1; have hcall := refmarked_any a _ _ (kept_lies hS HA.out); ((with_reducible refine Calls.mono hcall ?_); rintro e wn ⟨rfl, hbn⟩; clear hcall; have hh := kept_call hS hbn; rw [HM.out]; obtain ⟨-, x00, x01, x02, x03, x04, x10, x11, x12, x13, x14, x20, x21, x22, x23, x24⟩ := kept_boxes3 hh HC.out)))
      go_wp2
      go_ret
      exact ⟨rfl, HB0.out.trans (hh.mono HB0.out.size)⟩
  | true =>
  cases Y with
  | false =>
    go_wp2_with fail
    have hcall := refrelated_any a b _ _ _ (kept_lies hh HA.out) (kept_lies hh HB.out)
    rw [HX.out] at hcall
    refine hcall.mono ?_
    rintro e wp ⟨rfl, hbp⟩
    have hh2 := kept_call hh hbp
    clear hcall hbp
    obtain ⟨-, x00, x01, x02, x03, x04, x10, x11, x12, x13, x14, x20, x21, x22, x23, x24⟩ := kept_boxes3 hh2 HC.out
    go_wp2_with fail
    have hcall := related_any b a _ _ _ (kept_lies hh2 HB.out) (kept_lies hh2 HA.out)
    rw [HXr.out] at hcall
    refine hcall.mono ?_
    rintro e wq ⟨rfl, hbq⟩
    have hh3 := kept_call hh2 hbq
    clear hcall hbq
    obtain ⟨-, x00, x01, x02, x03, x04, x10, x11, x12, x13, x14, x20, x21, x22, x23, x24⟩ := kept_boxes3 hh3 HC.out
    cases M with
    | false =>
      go_wp2_with fail
      go_region_held3 (fun w' => Kept v0 w' ∧ w'.cell? ⟨w.heap.size, 0, none⟩ = some (.int .i64 a.k) ∧ w'.cell? ⟨w.heap.size, 1, none⟩ = some (.int .i64 a.i) ∧ w'.cell? ⟨w.heap.size, 2, none⟩ = some (.int .i64 a.j) ∧ w'.cell? ⟨w.heap.size, 3, none⟩ = some (.int .i64 a.n) ∧ w'.cell? ⟨w.heap.size, 4, none⟩ = some (.slice aa a.kids.length ca) ∧ w'.cell? ⟨w.heap.size + 1, 0, none⟩ = some (.int .i64 b.k) ∧ w'.cell? ⟨w.heap.size + 1, 1, none⟩ = some (.int .i64 b.i) ∧ w'.cell? ⟨w.heap.size + 1, 2, none⟩ = some (.int .i64 b.j) ∧ w'.cell? ⟨w.heap.size + 1, 3, none⟩ = some (.int .i64 b.n) ∧ w'.cell? ⟨w.heap.size + 1, 4, none⟩ = some (.slice ab b.kids.length cb) ∧ w'.cell? ⟨w.heap.size + 1 + 1, 0, none⟩ = some (.int .i64 c.k) ∧ w'.cell? ⟨w.heap.size + 1 + 1, 1, none⟩ = some (.int .i64 c.i) ∧ w'.cell? ⟨w.heap.size + 1 + 1, 2, none⟩ = some (.int .i64 c.j) ∧ w'.cell? ⟨w.heap.size + 1 + 1, 3, none⟩ = some (.int .i64 c.n) ∧ w'.cell? ⟨w.heap.size + 1 + 1, 4, none⟩ = some (.slice ac c.kids.length cc))
        (((with_reducible refine kept_boxes3 ?_ HC.out); repeat (first | with_reducible assumption | with_reducible exact hh3 | with_reducible refine kept_drew ?_ | with_reducible refine kept_alloc ?_ _)))
        (first | (go_at_call 75; have hS := (‹Kept v0 _ ∧ _›).1; ((refine (wakes8_any _).mono ?_); rintro e wn ⟨rfl, hbn⟩; have hh := kept_call hS hbn; obtain ⟨-, x00, x01, x02, x03, x04, x10, x11, x12, x13, x14, x20, x21, x22, x23, x24⟩ := kept_boxes3 hh HC.out)) | (go_at_call 76; have hS := (‹Kept v0 _ ∧ _›).1; have hcall := related_any a a _ _ _ (kept_lies hS HA.out) (kept_lies hS HA.out); ((with_reducible refine Calls.mono hcall ?_); rintro e wn ⟨rfl, hbn⟩; clear hcall; have hh := kept_call hS hbn; rw [HMr.out]; obtain ⟨-, x00, x01, x02, x03, x04, x10, x11, x12, x13, x14, x20, x21, x22, x23, x24⟩ := kept_boxes3 hh HC.out)) | (go_at_call 34; have hS := (‹Kept v0 _ ∧ _›).1; have hcall := refmarked_any a _ _ (kept_lies hS HA.out); ((with_reducible refine Calls.mono hcall ?_); rintro e wn ⟨rfl, hbn⟩; clear hcall; have hh := kept_call hS hbn; rw [HM.out]; obtain ⟨-, x00, x01, x02, x03, x04, x10, x11, x12, x13, x14, x20, x21, x22, x23, x24⟩ := kept_boxes3 hh HC.out)))
      go_wp2
      go_ret
      exact ⟨rfl, HB0.out.trans (hh.mono HB0.out.size)⟩
    | true =>
      go_wp2_with fail
      go_region_held3 (fun w' => Kept v0 w' ∧ w'.cell? ⟨w.heap.size, 0, none⟩ = some (.int .i64 a.k) ∧ w'.cell? ⟨w.heap.size, 1, none⟩ = some (.int .i64 a.i) ∧ w'.cell? ⟨w.heap.size, 2, none⟩ = some (.int .i64 a.j) ∧ w'.cell? ⟨w.heap.size, 3, none⟩ = some (.int .i64 a.n) ∧ w'.cell? ⟨w.heap.size, 4, none⟩ = some (.slice aa a.kids.length ca) ∧ w'.cell? ⟨w.heap.size + 1, 0, none⟩ = some (.int .i64 b.k) ∧ w'.cell? ⟨w.heap.size + 1, 1, none⟩ = some (.int .i64 b.i) ∧ w'.cell? ⟨w.heap.size + 1, 2, none⟩ = some (.int .i64 b.j) ∧ w'.cell? ⟨w.heap.size + 1, 3, none⟩ = some (.int .i64 b.n) ∧ w'.cell? ⟨w.heap.size + 1, 4, none⟩ = some (.slice ab b.kids.length cb) ∧ w'.cell? ⟨w.heap.size + 1 + 1, 0, none⟩ = some (.int .i64 c.k) ∧ w'.cell? ⟨w.heap.size + 1 + 1, 1, none⟩ = some (.int .i64 c.i) ∧ w'.cell? ⟨w.heap.size + 1 + 1, 2, none⟩ = some (.int .i64 c.j) ∧ w'.cell? ⟨w.heap.size + 1 + 1, 3, none⟩ = some (.int .i64 c.n) ∧ w'.cell? ⟨w.heap.size + 1 + 1, 4, none⟩ = some (.slice ac c.kids.length cc))
        (((with_reducible refine kept_boxes3 ?_ HC.out); repeat (first | with_reducible assumption | with_reducible exact hh3 | with_reducible refine kept_drew ?_ | with_reducible refine kept_alloc ?_ _)))
        (first | (go_at_call 75; have hS := (‹Kept v0 _ ∧ _›).1; ((refine (wakes8_any _).mono ?_); rintro e wn ⟨rfl, hbn⟩; have hh := kept_call hS hbn; obtain ⟨-, x00, x01, x02, x03, x04, x10, x11, x12, x13, x14, x20, x21, x22, x23, x24⟩ := kept_boxes3 hh HC.out)) | (go_at_call 76; have hS := (‹Kept v0 _ ∧ _›).1; have hcall := related_any a a _ _ _ (kept_lies hS HA.out) (kept_lies hS HA.out); ((with_reducible refine Calls.mono hcall ?_); rintro e wn ⟨rfl, hbn⟩; clear hcall; have hh := kept_call hS hbn; rw [HMr.out]; obtain ⟨-, x00, x01, x02, x03, x04, x10, x11, x12, x13, x14, x20, x21, x22, x23, x24⟩ := kept_boxes3 hh HC.out)) | (go_at_call 34; have hS := (‹Kept v0 _ ∧ _›).1; have hcall := refmarked_any a _ _ (kept_lies hS HA.out); ((with_reducible refine Calls.mono hcall ?_); rintro e wn ⟨rfl, hbn⟩; clear hcall; have hh := kept_call hS hbn; rw [HM.out]; obtain ⟨-, x00, x01, x02, x03, x04, x10, x11, x12, x13, x14, x20, x21, x22, x23, x24⟩ := kept_boxes3 hh HC.out)))
      go_wp2
      go_ret
      exact ⟨rfl, HB0.out.trans (hh.mono HB0.out.size)⟩
  | true =>
  have hz1 := HT.out rfl rfl
  subst hz1
  go_wp2_with fail
  have hcall := refrelated_any a b _ _ _ (kept_lies hh HA.out) (kept_lies hh HB.out)
  rw [HX.out] at hcall
  refine hcall.mono ?_
  rintro e wp ⟨rfl, hbp⟩
  have hh2 := kept_call hh hbp
  clear hcall hbp
  obtain ⟨-, x00, x01, x02, x03, x04, x10, x11, x12, x13, x14, x20, x21, x22, x23, x24⟩ := kept_boxes3 hh2 HC.out
  go_wp2_with fail
  have hcall := related_any b a _ _ _ (kept_lies hh2 HB.out) (kept_lies hh2 HA.out)
  rw [HXr.out] at hcall
  refine hcall.mono ?_
  rintro e wq ⟨rfl, hbq⟩
  have hh3 := kept_call hh2 hbq
  clear hcall hbq
  obtain ⟨-, x00, x01, x02, x03, x04, x10, x11, x12, x13, x14, x20, x21, x22, x23, x24⟩ := kept_boxes3 hh3 HC.out
  cases M with
  | false =>
    go_wp2_with fail
    go_region_held3 (fun w' => Kept v0 w' ∧ w'.cell? ⟨w.heap.size, 0, none⟩ = some (.int .i64 a.k) ∧ w'.cell? ⟨w.heap.size, 1, none⟩ = some (.int .i64 a.i) ∧ w'.cell? ⟨w.heap.size, 2, none⟩ = some (.int .i64 a.j) ∧ w'.cell? ⟨w.heap.size, 3, none⟩ = some (.int .i64 a.n) ∧ w'.cell? ⟨w.heap.size, 4, none⟩ = some (.slice aa a.kids.length ca) ∧ w'.cell? ⟨w.heap.size + 1, 0, none⟩ = some (.int .i64 b.k) ∧ w'.cell? ⟨w.heap.size + 1, 1, none⟩ = some (.int .i64 b.i) ∧ w'.cell? ⟨w.heap.size + 1, 2, none⟩ = some (.int .i64 b.j) ∧ w'.cell? ⟨w.heap.size + 1, 3, none⟩ = some (.int .i64 b.n) ∧ w'.cell? ⟨w.heap.size + 1, 4, none⟩ = some (.slice ab b.kids.length cb) ∧ w'.cell? ⟨w.heap.size + 1 + 1, 0, none⟩ = some (.int .i64 c.k) ∧ w'.cell? ⟨w.heap.size + 1 + 1, 1, none⟩ = some (.int .i64 c.i) ∧ w'.cell? ⟨w.heap.size + 1 + 1, 2, none⟩ = some (.int .i64 c.j) ∧ w'.cell? ⟨w.heap.size + 1 + 1, 3, none⟩ = some (.int .i64 c.n) ∧ w'.cell? ⟨w.heap.size + 1 + 1, 4, none⟩ = some (.slice ac c.kids.length cc))
      (((with_reducible refine kept_boxes3 ?_ HC.out); repeat (first | with_reducible assumption | with_reducible exact hh3 | with_reducible refine kept_drew ?_ | with_reducible refine kept_alloc ?_ _)))
      (first | (go_at_call 75; have hS := (‹Kept v0 _ ∧ _›).1; ((refine (wakes8_any _).mono ?_); rintro e wn ⟨rfl, hbn⟩; have hh := kept_call hS hbn; obtain ⟨-, x00, x01, x02, x03, x04, x10, x11, x12, x13, x14, x20, x21, x22, x23, x24⟩ := kept_boxes3 hh HC.out)) | (go_at_call 76; have hS := (‹Kept v0 _ ∧ _›).1; have hcall := related_any a a _ _ _ (kept_lies hS HA.out) (kept_lies hS HA.out); ((with_reducible refine Calls.mono hcall ?_); rintro e wn ⟨rfl, hbn⟩; clear hcall; have hh := kept_call hS hbn; rw [HMr.out]; obtain ⟨-, x00, x01, x02, x03, x04, x10, x11, x12, x13, x14, x20, x21, x22, x23, x24⟩ := kept_boxes3 hh HC.out)) | (go_at_call 34; have hS := (‹Kept v0 _ ∧ _›).1; have hcall := refmarked_any a _ _ (kept_lies hS HA.out); ((with_reducible refine Calls.mono hcall ?_); rintro e wn ⟨rfl, hbn⟩; clear hcall; have hh := kept_call hS hbn; rw [HM.out]; obtain ⟨-, x00, x01, x02, x03, x04, x10, x11, x12, x13, x14, x20, x21, x22, x23, x24⟩ := kept_boxes3 hh HC.out)))
    go_wp2
    go_ret
    exact ⟨rfl, HB0.out.trans (hh.mono HB0.out.size)⟩
  | true =>
    go_wp2_with fail
    go_region_held3 (fun w' => Kept v0 w' ∧ w'.cell? ⟨w.heap.size, 0, none⟩ = some (.int .i64 a.k) ∧ w'.cell? ⟨w.heap.size, 1, none⟩ = some (.int .i64 a.i) ∧ w'.cell? ⟨w.heap.size, 2, none⟩ = some (.int .i64 a.j) ∧ w'.cell? ⟨w.heap.size, 3, none⟩ = some (.int .i64 a.n) ∧ w'.cell? ⟨w.heap.size, 4, none⟩ = some (.slice aa a.kids.length ca) ∧ w'.cell? ⟨w.heap.size + 1, 0, none⟩ = some (.int .i64 b.k) ∧ w'.cell? ⟨w.heap.size + 1, 1, none⟩ = some (.int .i64 b.i) ∧ w'.cell? ⟨w.heap.size + 1, 2, none⟩ = some (.int .i64 b.j) ∧ w'.cell? ⟨w.heap.size + 1, 3, none⟩ = some (.int .i64 b.n) ∧ w'.cell? ⟨w.heap.size + 1, 4, none⟩ = some (.slice ab b.kids.length cb) ∧ w'.cell? ⟨w.heap.size + 1 + 1, 0, none⟩ = some (.int .i64 c.k) ∧ w'.cell? ⟨w.heap.size + 1 + 1, 1, none⟩ = some (.int .i64 c.i) ∧ w'.cell? ⟨w.heap.size + 1 + 1, 2, none⟩ = some (.int .i64 c.j) ∧ w'.cell? ⟨w.heap.size + 1 + 1, 3, none⟩ = some (.int .i64 c.n) ∧ w'.cell? ⟨w.heap.size + 1 + 1, 4, none⟩ = some (.slice ac c.kids.length cc))
      (((with_reducible refine kept_boxes3 ?_ HC.out); repeat (first | with_reducible assumption | with_reducible exact hh3 | with_reducible refine kept_drew ?_ | with_reducible refine kept_alloc ?_ _)))
      (first | (go_at_call 75; have hS := (‹Kept v0 _ ∧ _›).1; ((refine (wakes8_any _).mono ?_); rintro e wn ⟨rfl, hbn⟩; have hh := kept_call hS hbn; obtain ⟨-, x00, x01, x02, x03, x04, x10, x11, x12, x13, x14, x20, x21, x22, x23, x24⟩ := kept_boxes3 hh HC.out)) | (go_at_call 76; have hS := (‹Kept v0 _ ∧ _›).1; have hcall := related_any a a _ _ _ (kept_lies hS HA.out) (kept_lies hS HA.out); ((with_reducible refine Calls.mono hcall ?_); rintro e wn ⟨rfl, hbn⟩; clear hcall; have hh := kept_call hS hbn; rw [HMr.out]; obtain ⟨-, x00, x01, x02, x03, x04, x10, x11, x12, x13, x14, x20, x21, x22, x23, x24⟩ := kept_boxes3 hh HC.out)) | (go_at_call 34; have hS := (‹Kept v0 _ ∧ _›).1; have hcall := refmarked_any a _ _ (kept_lies hS HA.out); ((with_reducible refine Calls.mono hcall ?_); rintro e wn ⟨rfl, hbn⟩; clear hcall; have hh := kept_call hS hbn; rw [HM.out]; obtain ⟨-, x00, x01, x02, x03, x04, x10, x11, x12, x13, x14, x20, x21, x22, x23, x24⟩ := kept_boxes3 hh HC.out)))
    go_wp2
    go_ret
    exact ⟨rfl, HB0.out.trans (hh.mono HB0.out.size)⟩
end Go.Proofs.Ytjafbnilejmbiaa
