/-
  The walk of transhiplaw06.StripMarks.
-/
import Derived.Test.YtjafbnilejmbiaaLawKit
import Derived.Test.YtjafbnilejmbiaaWakes6
import Derived.Test.YtjafbnilejmbiaaStripFacts
import Derived.Test.YtjafbnilejmbiaaRefMore
import Derived.Test.YtjafbnilejmbiaaMarksFacts
namespace Go.Proofs.Ytjafbnilejmbiaa
open Go.RowKit

set_option maxRecDepth 20000 in
set_option maxHeartbeats 3000000 in
theorem stripMarks_any (a b t : Tm) (i j : Int) (w : World) (sa sb st : Value) (hla : Lies w a.kids sa) (hlb : Lies w b.kids sb) (hlt : Lies w t.kids st) : Calls Try.prog 17 #[tv a sa, tv b sb, tv t st, .int .i64 i, .int .i64 j] w fun e w' => e = .returned (.bool true) ∧ Below w.heap.size w w' := by
  obtain ⟨aa, ca, Sa, rfl, -, hma, -, -, -⟩ := hla.out
  obtain ⟨ab, cb, Sb, rfl, -, hmb, -, -, -⟩ := hlb.out
  obtain ⟨at_, ct, St, rfl, -, hmt, -, -, -⟩ := hlt.out
  have hB3 := below_three w (.cells #[.int .i64 a.k, .int .i64 a.i, .int .i64 a.j, .int .i64 a.n, .slice aa a.kids.length ca] 24) (.cells #[.int .i64 b.k, .int .i64 b.i, .int .i64 b.j, .int .i64 b.n, .slice ab b.kids.length cb] 24) (.cells #[.int .i64 t.k, .int .i64 t.i, .int .i64 t.j, .int .i64 t.n, .slice at_ t.kids.length ct] 24)
  obtain ⟨q0, q1, q2, -⟩ := heap_three w (.cells #[.int .i64 a.k, .int .i64 a.i, .int .i64 a.j, .int .i64 a.n, .slice aa a.kids.length ca] 24) (.cells #[.int .i64 b.k, .int .i64 b.i, .int .i64 b.j, .int .i64 b.n, .slice ab b.kids.length cb] 24) (.cells #[.int .i64 t.k, .int .i64 t.i, .int .i64 t.j, .int .i64 t.n, .slice at_ t.kids.length ct] 24)
  have HC0 := Lib.hid (and_five (five_cells q0) (and_five (five_cells q1) (five_cells q2)))
  have HLa := Lib.hid (hla.keep hB3)
  have HLb := Lib.hid (hlb.keep hB3)
  have HLt := Lib.hid (hlt.keep hB3)
  have H0 := kept_start (((w.alloc (.cells #[.int .i64 a.k, .int .i64 a.i, .int .i64 a.j, .int .i64 a.n, .slice aa a.kids.length ca] 24)).alloc (.cells #[.int .i64 b.k, .int .i64 b.i, .int .i64 b.j, .int .i64 b.n, .slice ab b.kids.length cb] 24)).alloc (.cells #[.int .i64 t.k, .int .i64 t.i, .int .i64 t.j, .int .i64 t.n, .slice at_ t.kids.length ct] 24))
  clear hla hlb hlt q0 q1 q2 hB3
  unfold tv
  go_enter Try.func17, Try.ntmps17
  go_wp2_with fail
  refine (great_any a _ _ 300 (kept_lies H0 HLa.out) (by omega) (by omega)).mono ?_
  rintro e w1 ⟨g, rfl, hg, hb'⟩
  have H1 := kept_call H0 hb'
  obtain ⟨-, d00, d01, d02, d03, d04, d10, d11, d12, d13, d14, d20, d21, d22, d23, d24⟩ := kept_boxes3 H1 HC0.out
  have HG := Lib.hid hg
  clear hg hb' H0
  cases g with
  | true =>
    go_wp2
    go_ret
    exact ⟨rfl, three_below H1⟩
  | false =>
  have hz_a := (HG.out rfl).1
  have hd_a := (HG.out rfl).2
  clear HG
  go_wp2_with fail
  refine (great_any b _ _ 300 (kept_lies H1 HLb.out) (by omega) (by omega)).mono ?_
  rintro e w2 ⟨g, rfl, hg, hb'⟩
  have H2 := kept_call H1 hb'
  obtain ⟨-, d00, d01, d02, d03, d04, d10, d11, d12, d13, d14, d20, d21, d22, d23, d24⟩ := kept_boxes3 H2 HC0.out
  have HG := Lib.hid hg
  clear hg hb' H1
  cases g with
  | true =>
    go_wp2
    go_ret
    exact ⟨rfl, three_below H2⟩
  | false =>
  have hz_b := (HG.out rfl).1
  have hd_b := (HG.out rfl).2
  clear HG
  go_wp2_with fail
  refine (great_any t _ _ 300 (kept_lies H2 HLt.out) (by omega) (by omega)).mono ?_
  rintro e w3 ⟨g, rfl, hg, hb'⟩
  have H3 := kept_call H2 hb'
  obtain ⟨-, d00, d01, d02, d03, d04, d10, d11, d12, d13, d14, d20, d21, d22, d23, d24⟩ := kept_boxes3 H3 HC0.out
  have HG := Lib.hid hg
  clear hg hb' H2
  cases g with
  | true =>
    go_wp2
    go_ret
    exact ⟨rfl, three_below H3⟩
  | false =>
  have hz_t := (HG.out rfl).1
  have hd_t := (HG.out rfl).2
  clear HG
  go_wp2_with fail
  refine (refmarked_any a _ _ (kept_lies H3 HLa.out)).mono ?_
  rintro e w4 ⟨rfl, hb'⟩
  have H4 := kept_call H3 hb'
  obtain ⟨-, d00, d01, d02, d03, d04, d10, d11, d12, d13, d14, d20, d21, d22, d23, d24⟩ := kept_boxes3 H4 HC0.out
  clear hb' H3
  cases hr_ma : a.markedB with
  | false =>
    go_wp2
    go_ret
    exact ⟨rfl, three_below H4⟩
  | true =>
  have HRma := Lib.hid hr_ma
  clear hr_ma
  go_wp2_with fail
  refine (refmarked_any b _ _ (kept_lies H4 HLb.out)).mono ?_
  rintro e w5 ⟨rfl, hb'⟩
  have H5 := kept_call H4 hb'
  obtain ⟨-, d00, d01, d02, d03, d04, d10, d11, d12, d13, d14, d20, d21, d22, d23, d24⟩ := kept_boxes3 H5 HC0.out
  clear hb' H4
  cases hr_mb : b.markedB with
  | false =>
    go_wp2
    go_ret
    exact ⟨rfl, three_below H5⟩
  | true =>
  have HRmb := Lib.hid hr_mb
  clear hr_mb
  go_wp2_with fail
  refine (refmarked_any t _ _ (kept_lies H5 HLt.out)).mono ?_
  rintro e w6 ⟨rfl, hb'⟩
  have H6 := kept_call H5 hb'
  obtain ⟨-, d00, d01, d02, d03, d04, d10, d11, d12, d13, d14, d20, d21, d22, d23, d24⟩ := kept_boxes3 H6 HC0.out
  clear hb' H5
  cases hr_mt : t.markedB with
  | false =>
    go_wp2
    go_ret
    exact ⟨rfl, three_below H6⟩
  | true =>
  have HRmt := Lib.hid hr_mt
  clear hr_mt
  by_cases hp1 : i < 0
  · have ep1 : decide (i < 0) = true := by simpa using hp1
    go_wp2
    go_ret
    exact ⟨rfl, three_below H6⟩
  have ep1 : decide (i < 0) = false := by simpa using hp1
  by_cases hp2 : 1000 < i
  · have ep2 : decide (1000 < i) = true := by simpa using hp2
    go_wp2
    go_ret
    exact ⟨rfl, three_below H6⟩
  have ep2 : decide (1000 < i) = false := by simpa using hp2
  by_cases hp3 : j < 0
  · have ep3 : decide (j < 0) = true := by simpa using hp3
    go_wp2
    go_ret
    exact ⟨rfl, three_below H6⟩
  have ep3 : decide (j < 0) = false := by simpa using hp3
  by_cases hp4 : 1000 < j
  · have ep4 : decide (1000 < j) = true := by simpa using hp4
    go_wp2
    go_ret
    exact ⟨rfl, three_below H6⟩
  have ep4 : decide (1000 < j) = false := by simpa using hp4
  have r1 := marks_lam (i := i) (j := j) HRma.out HRmb.out HRmt.out (by omega) (by omega) (by omega) (by omega)
  have r2 := marks_lam (i := 0) (j := 0) HRma.out HRmt.out HRmt.out (by omega) (by omega) (by omega) (by omega)
  have r3 := marks_app (i := i) (j := j) HRma.out HRmb.out HRmt.out HRmt.out (by omega) (by omega) (by omega) (by omega)
  have r4 := marks_app (i := 0) (j := 0) HRmb.out HRma.out HRmt.out HRmt.out (by omega) (by omega) (by omega) (by omega)
  have R1 := Lib.hid r1
  have R2 := Lib.hid r2
  have R3 := Lib.hid r3
  have R4 := Lib.hid r4
  clear r1 r2 r3 r4
  have K0 := H6
  clear H6
  generalize w6 = v0 at *
  have hB0 : Below v0.heap.size v0 (v0.alloc (.cells #[.int .i64 a.k, .int .i64 a.i, .int .i64 a.j, .int .i64 a.n, .slice aa a.kids.length ca, .int .i64 b.k, .int .i64 b.i, .int .i64 b.j, .int .i64 b.n, .slice ab b.kids.length cb, .int .i64 t.k, .int .i64 t.i, .int .i64 t.j, .int .i64 t.n, .slice at_ t.kids.length ct] 24)) := (Below.refl _ _).alloc (Nat.le_refl _) _
  have hL0 : Lies (v0.alloc (.cells #[.int .i64 a.k, .int .i64 a.i, .int .i64 a.j, .int .i64 a.n, .slice aa a.kids.length ca, .int .i64 b.k, .int .i64 b.i, .int .i64 b.j, .int .i64 b.n, .slice ab b.kids.length cb, .int .i64 t.k, .int .i64 t.i, .int .i64 t.j, .int .i64 t.n, .slice at_ t.kids.length ct] 24)) (Tm.mk 4 i j 0 [a, b, t]).kids (.slice (some ⟨v0.heap.size, 0, none⟩) 3 3) := by
    have c0 := fun q => cell_of_row (v0.alloc (.cells #[.int .i64 a.k, .int .i64 a.i, .int .i64 a.j, .int .i64 a.n, .slice aa a.kids.length ca, .int .i64 b.k, .int .i64 b.i, .int .i64 b.j, .int .i64 b.n, .slice ab b.kids.length cb, .int .i64 t.k, .int .i64 t.i, .int .i64 t.j, .int .i64 t.n, .slice at_ t.kids.length ct] 24)) v0.heap.size q _ _ _ (alloc_new _ _)
    exact Row.lies (ps := [(a, .slice aa a.kids.length ca), (b, .slice ab b.kids.length cb), (t, .slice at_ t.kids.length ct)]) ⟨⟨by rw [c0]; rfl, by rw [c0]; rfl, by rw [c0]; rfl, by rw [c0]; rfl, by rw [c0]; rfl⟩, right_fine (marked_right HRma.out), (kept_lies K0 HLa.out).keep ((Below.refl _ _).alloc (Nat.le_refl _) _), ⟨by rw [c0]; rfl, by rw [c0]; rfl, by rw [c0]; rfl, by rw [c0]; rfl, by rw [c0]; rfl⟩, right_fine (marked_right HRmb.out), (kept_lies K0 HLb.out).keep ((Below.refl _ _).alloc (Nat.le_refl _) _), ⟨by rw [c0]; rfl, by rw [c0]; rfl, by rw [c0]; rfl, by rw [c0]; rfl, by rw [c0]; rfl⟩, right_fine (marked_right HRmt.out), (kept_lies K0 HLt.out).keep ((Below.refl _ _).alloc (Nat.le_refl _) _), trivial⟩ (Nat.le_refl _) (by decide)
  have hc0 := strip_any (.mk 4 i j 0 [a, b, t]) _ _ hL0
  rw [R1.out] at hc0
  (try rw [World.size_alloc] at hc0)
  clear hL0
  go_wp2_with fail
  refine hc0.mono ?_
  clear hc0 d00 d01 d02 d03 d04 d10 d11 d12 d13 d14 d20 d21 d22 d23 d24
  rintro e u0 ⟨s0, he, hl0, hb⟩
  obtain ⟨p0, m0, rfl, -, -⟩ := hl0.out
  replace he : e = .returned (.agg #[.int .i64 14, .int .i64 0, .int .i64 0, .int .i64 0, .slice p0 2 m0]) := he
  subst he
  have hbu0 := hB0.trans (hb.mono hB0.size)
  have G0 := kept_call K0 hbu0
  have K1 := kept_alloc G0 (.cells #[.int .i64 14, .int .i64 0, .int .i64 0, .int .i64 0, .slice p0 2 m0] 24)
  have qq0 := alloc_new u0 (.cells #[.int .i64 14, .int .i64 0, .int .i64 0, .int .i64 0, .slice p0 2 m0] 24)
  have ll0 := Lib.hid (hl0.lies.keep ((Below.refl _ _).alloc (Nat.le_refl _) (.cells #[.int .i64 14, .int .i64 0, .int .i64 0, .int .i64 0, .slice p0 2 m0] 24)))
  have hbv0 : Below v0.heap.size v0 (u0.alloc (.cells #[.int .i64 14, .int .i64 0, .int .i64 0, .int .i64 0, .slice p0 2 m0] 24)) := hbu0.alloc hbu0.size _
  have hsu0 := three_size G0
  have hsv0 : w.heap.size + 1 < u0.heap.size := by omega
  have hsw0 : w.heap.size < u0.heap.size := by omega
  obtain ⟨-, d00, d01, d02, d03, d04, d10, d11, d12, d13, d14, d20, d21, d22, d23, d24⟩ := kept_boxes3 G0 HC0.out
  clear hb hl0 hB0

  have hB1 : Below (u0.alloc (.cells #[.int .i64 14, .int .i64 0, .int .i64 0, .int .i64 0, .slice p0 2 m0] 24)).heap.size (u0.alloc (.cells #[.int .i64 14, .int .i64 0, .int .i64 0, .int .i64 0, .slice p0 2 m0] 24)) ((u0.alloc (.cells #[.int .i64 14, .int .i64 0, .int .i64 0, .int .i64 0, .slice p0 2 m0] 24)).alloc (.cells #[.int .i64 a.k, .int .i64 a.i, .int .i64 a.j, .int .i64 a.n, .slice aa a.kids.length ca, .int .i64 t.k, .int .i64 t.i, .int .i64 t.j, .int .i64 t.n, .slice at_ t.kids.length ct, .int .i64 t.k, .int .i64 t.i, .int .i64 t.j, .int .i64 t.n, .slice at_ t.kids.length ct] 24)) := (Below.refl _ _).alloc (Nat.le_refl _) _
  have hL1 : Lies ((u0.alloc (.cells #[.int .i64 14, .int .i64 0, .int .i64 0, .int .i64 0, .slice p0 2 m0] 24)).alloc (.cells #[.int .i64 a.k, .int .i64 a.i, .int .i64 a.j, .int .i64 a.n, .slice aa a.kids.length ca, .int .i64 t.k, .int .i64 t.i, .int .i64 t.j, .int .i64 t.n, .slice at_ t.kids.length ct, .int .i64 t.k, .int .i64 t.i, .int .i64 t.j, .int .i64 t.n, .slice at_ t.kids.length ct] 24)) (Tm.mk 4 0 0 0 [a, t, t]).kids (.slice (some ⟨(u0.alloc (.cells #[.int .i64 14, .int .i64 0, .int .i64 0, .int .i64 0, .slice p0 2 m0] 24)).heap.size, 0, none⟩) 3 3) := by
    have c0 := fun q => cell_of_row ((u0.alloc (.cells #[.int .i64 14, .int .i64 0, .int .i64 0, .int .i64 0, .slice p0 2 m0] 24)).alloc (.cells #[.int .i64 a.k, .int .i64 a.i, .int .i64 a.j, .int .i64 a.n, .slice aa a.kids.length ca, .int .i64 t.k, .int .i64 t.i, .int .i64 t.j, .int .i64 t.n, .slice at_ t.kids.length ct, .int .i64 t.k, .int .i64 t.i, .int .i64 t.j, .int .i64 t.n, .slice at_ t.kids.length ct] 24)) (u0.alloc (.cells #[.int .i64 14, .int .i64 0, .int .i64 0, .int .i64 0, .slice p0 2 m0] 24)).heap.size q _ _ _ (alloc_new _ _)
    exact Row.lies (ps := [(a, .slice aa a.kids.length ca), (t, .slice at_ t.kids.length ct), (t, .slice at_ t.kids.length ct)]) ⟨⟨by rw [c0]; rfl, by rw [c0]; rfl, by rw [c0]; rfl, by rw [c0]; rfl, by rw [c0]; rfl⟩, right_fine (marked_right HRma.out), (kept_lies K1 HLa.out).keep ((Below.refl _ _).alloc (Nat.le_refl _) _), ⟨by rw [c0]; rfl, by rw [c0]; rfl, by rw [c0]; rfl, by rw [c0]; rfl, by rw [c0]; rfl⟩, right_fine (marked_right HRmt.out), (kept_lies K1 HLt.out).keep ((Below.refl _ _).alloc (Nat.le_refl _) _), ⟨by rw [c0]; rfl, by rw [c0]; rfl, by rw [c0]; rfl, by rw [c0]; rfl, by rw [c0]; rfl⟩, right_fine (marked_right HRmt.out), (kept_lies K1 HLt.out).keep ((Below.refl _ _).alloc (Nat.le_refl _) _), trivial⟩ (Nat.le_refl _) (by decide)
  have hc1 := strip_any (.mk 4 0 0 0 [a, t, t]) _ _ hL1
  rw [R2.out] at hc1
  (try rw [World.size_alloc] at hc1)
  clear hL1
  go_wp2_with fail
  refine hc1.mono ?_
  clear hc1 d00 d01 d02 d03 d04 d10 d11 d12 d13 d14 d20 d21 d22 d23 d24
  rintro e u1 ⟨s1, he, hl1, hb⟩
  obtain ⟨p1, m1, rfl, -, -⟩ := hl1.out
  replace he : e = .returned (.agg #[.int .i64 14, .int .i64 0, .int .i64 0, .int .i64 0, .slice p1 2 m1]) := he
  subst he
  have hbu1 := hB1.trans (hb.mono hB1.size)
  have G1 := kept_call K1 hbu1
  have K2 := kept_alloc G1 (.cells #[.int .i64 14, .int .i64 0, .int .i64 0, .int .i64 0, .slice p1 2 m1] 24)
  have qq1 := alloc_new u1 (.cells #[.int .i64 14, .int .i64 0, .int .i64 0, .int .i64 0, .slice p1 2 m1] 24)
  have ll1 := Lib.hid (hl1.lies.keep ((Below.refl _ _).alloc (Nat.le_refl _) (.cells #[.int .i64 14, .int .i64 0, .int .i64 0, .int .i64 0, .slice p1 2 m1] 24)))
  have hbv1 : Below (u0.alloc (.cells #[.int .i64 14, .int .i64 0, .int .i64 0, .int .i64 0, .slice p0 2 m0] 24)).heap.size (u0.alloc (.cells #[.int .i64 14, .int .i64 0, .int .i64 0, .int .i64 0, .slice p0 2 m0] 24)) (u1.alloc (.cells #[.int .i64 14, .int .i64 0, .int .i64 0, .int .i64 0, .slice p1 2 m1] 24)) := hbu1.alloc hbu1.size _
  have hsu1 := three_size G1
  have hsv1 : w.heap.size + 1 < u1.heap.size := by omega
  have hsw1 : w.heap.size < u1.heap.size := by omega
  obtain ⟨-, d00, d01, d02, d03, d04, d10, d11, d12, d13, d14, d20, d21, d22, d23, d24⟩ := kept_boxes3 G1 HC0.out
  clear hb hl1 hB1

  have hB2 : Below (u1.alloc (.cells #[.int .i64 14, .int .i64 0, .int .i64 0, .int .i64 0, .slice p1 2 m1] 24)).heap.size (u1.alloc (.cells #[.int .i64 14, .int .i64 0, .int .i64 0, .int .i64 0, .slice p1 2 m1] 24)) ((u1.alloc (.cells #[.int .i64 14, .int .i64 0, .int .i64 0, .int .i64 0, .slice p1 2 m1] 24)).alloc (.cells #[.int .i64 a.k, .int .i64 a.i, .int .i64 a.j, .int .i64 a.n, .slice aa a.kids.length ca, .int .i64 b.k, .int .i64 b.i, .int .i64 b.j, .int .i64 b.n, .slice ab b.kids.length cb, .int .i64 t.k, .int .i64 t.i, .int .i64 t.j, .int .i64 t.n, .slice at_ t.kids.length ct, .int .i64 t.k, .int .i64 t.i, .int .i64 t.j, .int .i64 t.n, .slice at_ t.kids.length ct] 24)) := (Below.refl _ _).alloc (Nat.le_refl _) _
  have hL2 : Lies ((u1.alloc (.cells #[.int .i64 14, .int .i64 0, .int .i64 0, .int .i64 0, .slice p1 2 m1] 24)).alloc (.cells #[.int .i64 a.k, .int .i64 a.i, .int .i64 a.j, .int .i64 a.n, .slice aa a.kids.length ca, .int .i64 b.k, .int .i64 b.i, .int .i64 b.j, .int .i64 b.n, .slice ab b.kids.length cb, .int .i64 t.k, .int .i64 t.i, .int .i64 t.j, .int .i64 t.n, .slice at_ t.kids.length ct, .int .i64 t.k, .int .i64 t.i, .int .i64 t.j, .int .i64 t.n, .slice at_ t.kids.length ct] 24)) (Tm.mk 5 i j 0 [a, b, t, t]).kids (.slice (some ⟨(u1.alloc (.cells #[.int .i64 14, .int .i64 0, .int .i64 0, .int .i64 0, .slice p1 2 m1] 24)).heap.size, 0, none⟩) 4 4) := by
    have c0 := fun q => cell_of_row ((u1.alloc (.cells #[.int .i64 14, .int .i64 0, .int .i64 0, .int .i64 0, .slice p1 2 m1] 24)).alloc (.cells #[.int .i64 a.k, .int .i64 a.i, .int .i64 a.j, .int .i64 a.n, .slice aa a.kids.length ca, .int .i64 b.k, .int .i64 b.i, .int .i64 b.j, .int .i64 b.n, .slice ab b.kids.length cb, .int .i64 t.k, .int .i64 t.i, .int .i64 t.j, .int .i64 t.n, .slice at_ t.kids.length ct, .int .i64 t.k, .int .i64 t.i, .int .i64 t.j, .int .i64 t.n, .slice at_ t.kids.length ct] 24)) (u1.alloc (.cells #[.int .i64 14, .int .i64 0, .int .i64 0, .int .i64 0, .slice p1 2 m1] 24)).heap.size q _ _ _ (alloc_new _ _)
    exact Row.lies (ps := [(a, .slice aa a.kids.length ca), (b, .slice ab b.kids.length cb), (t, .slice at_ t.kids.length ct), (t, .slice at_ t.kids.length ct)]) ⟨⟨by rw [c0]; rfl, by rw [c0]; rfl, by rw [c0]; rfl, by rw [c0]; rfl, by rw [c0]; rfl⟩, right_fine (marked_right HRma.out), (kept_lies K2 HLa.out).keep ((Below.refl _ _).alloc (Nat.le_refl _) _), ⟨by rw [c0]; rfl, by rw [c0]; rfl, by rw [c0]; rfl, by rw [c0]; rfl, by rw [c0]; rfl⟩, right_fine (marked_right HRmb.out), (kept_lies K2 HLb.out).keep ((Below.refl _ _).alloc (Nat.le_refl _) _), ⟨by rw [c0]; rfl, by rw [c0]; rfl, by rw [c0]; rfl, by rw [c0]; rfl, by rw [c0]; rfl⟩, right_fine (marked_right HRmt.out), (kept_lies K2 HLt.out).keep ((Below.refl _ _).alloc (Nat.le_refl _) _), ⟨by rw [c0]; rfl, by rw [c0]; rfl, by rw [c0]; rfl, by rw [c0]; rfl, by rw [c0]; rfl⟩, right_fine (marked_right HRmt.out), (kept_lies K2 HLt.out).keep ((Below.refl _ _).alloc (Nat.le_refl _) _), trivial⟩ (Nat.le_refl _) (by decide)
  have hc2 := strip_any (.mk 5 i j 0 [a, b, t, t]) _ _ hL2
  rw [R3.out] at hc2
  (try rw [World.size_alloc] at hc2)
  clear hL2
  go_wp2_with fail
  refine hc2.mono ?_
  clear hc2 d00 d01 d02 d03 d04 d10 d11 d12 d13 d14 d20 d21 d22 d23 d24
  rintro e u2 ⟨s2, he, hl2, hb⟩
  obtain ⟨p2, m2, rfl, -, -⟩ := hl2.out
  replace he : e = .returned (.agg #[.int .i64 15, .int .i64 0, .int .i64 0, .int .i64 0, .slice p2 2 m2]) := he
  subst he
  have hbu2 := hB2.trans (hb.mono hB2.size)
  have G2 := kept_call K2 hbu2
  have K3 := kept_alloc G2 (.cells #[.int .i64 15, .int .i64 0, .int .i64 0, .int .i64 0, .slice p2 2 m2] 24)
  have qq2 := alloc_new u2 (.cells #[.int .i64 15, .int .i64 0, .int .i64 0, .int .i64 0, .slice p2 2 m2] 24)
  have ll2 := Lib.hid (hl2.lies.keep ((Below.refl _ _).alloc (Nat.le_refl _) (.cells #[.int .i64 15, .int .i64 0, .int .i64 0, .int .i64 0, .slice p2 2 m2] 24)))
  have hbv2 : Below (u1.alloc (.cells #[.int .i64 14, .int .i64 0, .int .i64 0, .int .i64 0, .slice p1 2 m1] 24)).heap.size (u1.alloc (.cells #[.int .i64 14, .int .i64 0, .int .i64 0, .int .i64 0, .slice p1 2 m1] 24)) (u2.alloc (.cells #[.int .i64 15, .int .i64 0, .int .i64 0, .int .i64 0, .slice p2 2 m2] 24)) := hbu2.alloc hbu2.size _
  have hsu2 := three_size G2
  have hsv2 : w.heap.size + 1 < u2.heap.size := by omega
  have hsw2 : w.heap.size < u2.heap.size := by omega
  obtain ⟨-, d00, d01, d02, d03, d04, d10, d11, d12, d13, d14, d20, d21, d22, d23, d24⟩ := kept_boxes3 G2 HC0.out
  clear hb hl2 hB2

  have hB3 : Below (u2.alloc (.cells #[.int .i64 15, .int .i64 0, .int .i64 0, .int .i64 0, .slice p2 2 m2] 24)).heap.size (u2.alloc (.cells #[.int .i64 15, .int .i64 0, .int .i64 0, .int .i64 0, .slice p2 2 m2] 24)) ((u2.alloc (.cells #[.int .i64 15, .int .i64 0, .int .i64 0, .int .i64 0, .slice p2 2 m2] 24)).alloc (.cells #[.int .i64 b.k, .int .i64 b.i, .int .i64 b.j, .int .i64 b.n, .slice ab b.kids.length cb, .int .i64 a.k, .int .i64 a.i, .int .i64 a.j, .int .i64 a.n, .slice aa a.kids.length ca, .int .i64 t.k, .int .i64 t.i, .int .i64 t.j, .int .i64 t.n, .slice at_ t.kids.length ct, .int .i64 t.k, .int .i64 t.i, .int .i64 t.j, .int .i64 t.n, .slice at_ t.kids.length ct] 24)) := (Below.refl _ _).alloc (Nat.le_refl _) _
  have hL3 : Lies ((u2.alloc (.cells #[.int .i64 15, .int .i64 0, .int .i64 0, .int .i64 0, .slice p2 2 m2] 24)).alloc (.cells #[.int .i64 b.k, .int .i64 b.i, .int .i64 b.j, .int .i64 b.n, .slice ab b.kids.length cb, .int .i64 a.k, .int .i64 a.i, .int .i64 a.j, .int .i64 a.n, .slice aa a.kids.length ca, .int .i64 t.k, .int .i64 t.i, .int .i64 t.j, .int .i64 t.n, .slice at_ t.kids.length ct, .int .i64 t.k, .int .i64 t.i, .int .i64 t.j, .int .i64 t.n, .slice at_ t.kids.length ct] 24)) (Tm.mk 5 0 0 0 [b, a, t, t]).kids (.slice (some ⟨(u2.alloc (.cells #[.int .i64 15, .int .i64 0, .int .i64 0, .int .i64 0, .slice p2 2 m2] 24)).heap.size, 0, none⟩) 4 4) := by
    have c0 := fun q => cell_of_row ((u2.alloc (.cells #[.int .i64 15, .int .i64 0, .int .i64 0, .int .i64 0, .slice p2 2 m2] 24)).alloc (.cells #[.int .i64 b.k, .int .i64 b.i, .int .i64 b.j, .int .i64 b.n, .slice ab b.kids.length cb, .int .i64 a.k, .int .i64 a.i, .int .i64 a.j, .int .i64 a.n, .slice aa a.kids.length ca, .int .i64 t.k, .int .i64 t.i, .int .i64 t.j, .int .i64 t.n, .slice at_ t.kids.length ct, .int .i64 t.k, .int .i64 t.i, .int .i64 t.j, .int .i64 t.n, .slice at_ t.kids.length ct] 24)) (u2.alloc (.cells #[.int .i64 15, .int .i64 0, .int .i64 0, .int .i64 0, .slice p2 2 m2] 24)).heap.size q _ _ _ (alloc_new _ _)
    exact Row.lies (ps := [(b, .slice ab b.kids.length cb), (a, .slice aa a.kids.length ca), (t, .slice at_ t.kids.length ct), (t, .slice at_ t.kids.length ct)]) ⟨⟨by rw [c0]; rfl, by rw [c0]; rfl, by rw [c0]; rfl, by rw [c0]; rfl, by rw [c0]; rfl⟩, right_fine (marked_right HRmb.out), (kept_lies K3 HLb.out).keep ((Below.refl _ _).alloc (Nat.le_refl _) _), ⟨by rw [c0]; rfl, by rw [c0]; rfl, by rw [c0]; rfl, by rw [c0]; rfl, by rw [c0]; rfl⟩, right_fine (marked_right HRma.out), (kept_lies K3 HLa.out).keep ((Below.refl _ _).alloc (Nat.le_refl _) _), ⟨by rw [c0]; rfl, by rw [c0]; rfl, by rw [c0]; rfl, by rw [c0]; rfl, by rw [c0]; rfl⟩, right_fine (marked_right HRmt.out), (kept_lies K3 HLt.out).keep ((Below.refl _ _).alloc (Nat.le_refl _) _), ⟨by rw [c0]; rfl, by rw [c0]; rfl, by rw [c0]; rfl, by rw [c0]; rfl, by rw [c0]; rfl⟩, right_fine (marked_right HRmt.out), (kept_lies K3 HLt.out).keep ((Below.refl _ _).alloc (Nat.le_refl _) _), trivial⟩ (Nat.le_refl _) (by decide)
  have hc3 := strip_any (.mk 5 0 0 0 [b, a, t, t]) _ _ hL3
  rw [R4.out] at hc3
  (try rw [World.size_alloc] at hc3)
  clear hL3
  go_wp2_with fail
  refine hc3.mono ?_
  clear hc3 d00 d01 d02 d03 d04 d10 d11 d12 d13 d14 d20 d21 d22 d23 d24
  rintro e u3 ⟨s3, he, hl3, hb⟩
  obtain ⟨p3, m3, rfl, -, -⟩ := hl3.out
  replace he : e = .returned (.agg #[.int .i64 15, .int .i64 0, .int .i64 0, .int .i64 0, .slice p3 2 m3]) := he
  subst he
  have hbu3 := hB3.trans (hb.mono hB3.size)
  have G3 := kept_call K3 hbu3
  have K4 := kept_alloc G3 (.cells #[.int .i64 15, .int .i64 0, .int .i64 0, .int .i64 0, .slice p3 2 m3] 24)
  have qq3 := alloc_new u3 (.cells #[.int .i64 15, .int .i64 0, .int .i64 0, .int .i64 0, .slice p3 2 m3] 24)
  have ll3 := Lib.hid (hl3.lies.keep ((Below.refl _ _).alloc (Nat.le_refl _) (.cells #[.int .i64 15, .int .i64 0, .int .i64 0, .int .i64 0, .slice p3 2 m3] 24)))
  have hbv3 : Below (u2.alloc (.cells #[.int .i64 15, .int .i64 0, .int .i64 0, .int .i64 0, .slice p2 2 m2] 24)).heap.size (u2.alloc (.cells #[.int .i64 15, .int .i64 0, .int .i64 0, .int .i64 0, .slice p2 2 m2] 24)) (u3.alloc (.cells #[.int .i64 15, .int .i64 0, .int .i64 0, .int .i64 0, .slice p3 2 m3] 24)) := hbu3.alloc hbu3.size _
  have hsu3 := three_size G3
  have hsv3 : w.heap.size + 1 < u3.heap.size := by omega
  have hsw3 : w.heap.size < u3.heap.size := by omega
  obtain ⟨-, d00, d01, d02, d03, d04, d10, d11, d12, d13, d14, d20, d21, d22, d23, d24⟩ := kept_boxes3 G3 HC0.out
  clear hb hl3 hB3

  have hb13 := hbv1.trans (hbv2.mono hbv1.size)
  have hb1u := hb13.trans (hbu3.mono hb13.size)
  have hb2u := hbv2.trans (hbu3.mono hbv2.size)
  have t0 := keep_block hb1u (block_lt qq0) qq0
  have t1 := keep_block hb2u (block_lt qq1) qq1
  have t2 := keep_block hbu3 (block_lt qq2) qq2
  have L0 := Lib.hid (((ll0.out.keep hbv1).keep hbv2).keep hbv3)
  have L1 := Lib.hid ((ll1.out.keep hbv2).keep hbv3)
  have L2 := Lib.hid (ll2.out.keep hbv3)
  have b0 := block_lt t0
  have b1 := block_lt t1
  have b2 := block_lt t2
  have HT0 := Lib.hid t0
  have HT1 := Lib.hid t1
  have HT2 := Lib.hid t2
  have HT3 := Lib.hid qq3
  obtain ⟨x0, x1, x2, x3, x4⟩ := five_cells t0
  obtain ⟨y0, y1, y2, y3, y4⟩ := five_cells t1
  obtain ⟨z0, z1, z2, z3, z4⟩ := five_cells t2
  clear t0 t1 t2 qq0 qq1 qq2 qq3 hb1u hb2u hb13 hbu0 hbu1 hbu2 hbu3 hbv0 hbv1 hbv2 hbv3
  go_wp2_with fail
  refine (keepsame_eq (.mk 14 0 0 0 [a.bare, t.bare]) _ _ _ L0.out L1.out).mono ?_
  rintro e w8 ⟨rfl, hb8⟩
  have s2 := keep_block hb8 (by simp; omega) ((keep_block ((Below.refl u3.heap.size u3).alloc (Nat.le_refl _) _) b2 HT2.out))
  have s3 := keep_block hb8 (block_lt HT3.out) HT3.out
  obtain ⟨f0, f1, f2, f3, f4⟩ := five_cells s2
  obtain ⟨g0, g1, g2, g3, g4⟩ := five_cells s3
  have M2 := Lib.hid (L2.out.keep hb8)
  have M3 := Lib.hid (ll3.out.keep hb8)
  have K8 := kept_call K4 hb8
  clear hb8 s2 s3
  go_wp2_with fail
  refine (keepsame_eq (.mk 15 0 0 0 [t.bare, t.bare]) _ _ _ M2.out M3.out).mono ?_
  rintro e w9 ⟨rfl, hb9⟩
  have K9 := kept_call K8 hb9
  clear hb9
  go_wp2_with fail
  refine (wakes6_any _).mono ?_
  rintro e w10 ⟨rfl, hb10⟩
  have K10 := kept_call K9 hb10
  go_wp2
  go_ret
  exact ⟨rfl, three_below K10⟩

end Go.Proofs.Ytjafbnilejmbiaa
