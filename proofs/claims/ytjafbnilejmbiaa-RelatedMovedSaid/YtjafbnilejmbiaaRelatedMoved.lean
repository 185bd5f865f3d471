/-
  The walk of transhiplaw08.RelatedMoved.
-/
import Derived.Test.YtjafbnilejmbiaaLawKit
import Derived.Test.YtjafbnilejmbiaaL8
import Derived.Test.YtjafbnilejmbiaaRefMore
import Derived.Test.YtjafbnilejmbiaaLift
namespace Go.Proofs.Ytjafbnilejmbiaa
open Go.RowKit

set_option maxRecDepth 20000 in
set_option maxHeartbeats 4000000 in
theorem four_below {w w' : World} {A B C D : Obj} (h : Kept ((((w.alloc A).alloc B).alloc C).alloc D) w') : Below w.heap.size w w' := (below_four w A B C D).trans (Below.mono h (below_four w A B C D).size)

set_option maxRecDepth 20000 in
set_option maxHeartbeats 4000000 in
theorem relatedMoved_any (t a b p : Tm) (i : Int) (w : World) (st sa sb sp : Value) (hlt : Lies w t.kids st) (hla : Lies w a.kids sa) (hlb : Lies w b.kids sb) (hlp : Lies w p.kids sp) : Calls Try.prog 29 #[tv t st, tv a sa, tv b sb, tv p sp, .int .i64 i] w fun e w' => e = .returned (.bool true) ∧ Below w.heap.size w w' := by
  obtain ⟨at_, ct, St, rfl, -, hmt, -, -, -⟩ := hlt.out
  obtain ⟨aa, ca, Sa, rfl, -, hma, -, -, -⟩ := hla.out
  obtain ⟨ab, cb, Sb, rfl, -, hmb, -, -, -⟩ := hlb.out
  obtain ⟨ap, cp, Sp, rfl, -, hmp, -, -, -⟩ := hlp.out
  have hB4 := below_four w (.cells #[.int .i64 t.k, .int .i64 t.i, .int .i64 t.j, .int .i64 t.n, .slice at_ t.kids.length ct] 24) (.cells #[.int .i64 a.k, .int .i64 a.i, .int .i64 a.j, .int .i64 a.n, .slice aa a.kids.length ca] 24) (.cells #[.int .i64 b.k, .int .i64 b.i, .int .i64 b.j, .int .i64 b.n, .slice ab b.kids.length cb] 24) (.cells #[.int .i64 p.k, .int .i64 p.i, .int .i64 p.j, .int .i64 p.n, .slice ap p.kids.length cp] 24)
  obtain ⟨q0, q1, q2, q3⟩ := heap_four w (.cells #[.int .i64 t.k, .int .i64 t.i, .int .i64 t.j, .int .i64 t.n, .slice at_ t.kids.length ct] 24) (.cells #[.int .i64 a.k, .int .i64 a.i, .int .i64 a.j, .int .i64 a.n, .slice aa a.kids.length ca] 24) (.cells #[.int .i64 b.k, .int .i64 b.i, .int .i64 b.j, .int .i64 b.n, .slice ab b.kids.length cb] 24) (.cells #[.int .i64 p.k, .int .i64 p.i, .int .i64 p.j, .int .i64 p.n, .slice ap p.kids.length cp] 24)
  have HC0 := Lib.hid (and_five (five_cells q0) (and_five (five_cells q1) (and_five (five_cells q2) (five_cells q3))))
  have HLt := Lib.hid (hlt.keep hB4)
  have HLa := Lib.hid (hla.keep hB4)
  have HLb := Lib.hid (hlb.keep hB4)
  have HLp := Lib.hid (hlp.keep hB4)
  have H0 := kept_start ((((w.alloc (.cells #[.int .i64 t.k, .int .i64 t.i, .int .i64 t.j, .int .i64 t.n, .slice at_ t.kids.length ct] 24)).alloc (.cells #[.int .i64 a.k, .int .i64 a.i, .int .i64 a.j, .int .i64 a.n, .slice aa a.kids.length ca] 24)).alloc (.cells #[.int .i64 b.k, .int .i64 b.i, .int .i64 b.j, .int .i64 b.n, .slice ab b.kids.length cb] 24)).alloc (.cells #[.int .i64 p.k, .int .i64 p.i, .int .i64 p.j, .int .i64 p.n, .slice ap p.kids.length cp] 24))
  clear hlt hla hlb hlp q0 q1 q2 q3 hB4
  unfold tv
  go_enter Try.func29, Try.ntmps29
  go_wp2_with fail
  refine (great_any t _ _ 250 (kept_lies H0 HLt.out) (by omega) (by omega)).mono ?_
  rintro e w1 ⟨g, rfl, hg, hb'⟩
  have H1 := kept_call H0 hb'
  obtain ⟨-, d00, d01, d02, d03, d04, d10, d11, d12, d13, d14, d20, d21, d22, d23, d24, d30, d31, d32, d33, d34⟩ := kept_boxes4 H1 HC0.out
  have HG := Lib.hid hg
  clear hg hb' H0
  cases g with
  | true =>
    go_wp2
    go_ret
    exact ⟨rfl, four_below H1⟩
  | false =>
  have hz_t := (HG.out rfl).1
  have hd_t := (HG.out rfl).2
  clear HG
  go_wp2_with fail
  refine (great_any a _ _ 250 (kept_lies H1 HLa.out) (by omega) (by omega)).mono ?_
  rintro e w2 ⟨g, rfl, hg, hb'⟩
  have H2 := kept_call H1 hb'
  obtain ⟨-, d00, d01, d02, d03, d04, d10, d11, d12, d13, d14, d20, d21, d22, d23, d24, d30, d31, d32, d33, d34⟩ := kept_boxes4 H2 HC0.out
  have HG := Lib.hid hg
  clear hg hb' H1
  cases g with
  | true =>
    go_wp2
    go_ret
    exact ⟨rfl, four_below H2⟩
  | false =>
  have hz_a := (HG.out rfl).1
  have hd_a := (HG.out rfl).2
  clear HG
  go_wp2_with fail
  refine (great_any b _ _ 250 (kept_lies H2 HLb.out) (by omega) (by omega)).mono ?_
  rintro e w3 ⟨g, rfl, hg, hb'⟩
  have H3 := kept_call H2 hb'
  obtain ⟨-, d00, d01, d02, d03, d04, d10, d11, d12, d13, d14, d20, d21, d22, d23, d24, d30, d31, d32, d33, d34⟩ := kept_boxes4 H3 HC0.out
  have HG := Lib.hid hg
  clear hg hb' H2
  cases g with
  | true =>
    go_wp2
    go_ret
    exact ⟨rfl, four_below H3⟩
  | false =>
  have hz_b := (HG.out rfl).1
  have hd_b := (HG.out rfl).2
  clear HG
  go_wp2_with fail
  refine (great_any p _ _ 250 (kept_lies H3 HLp.out) (by omega) (by omega)).mono ?_
  rintro e w4 ⟨g, rfl, hg, hb'⟩
  have H4 := kept_call H3 hb'
  obtain ⟨-, d00, d01, d02, d03, d04, d10, d11, d12, d13, d14, d20, d21, d22, d23, d24, d30, d31, d32, d33, d34⟩ := kept_boxes4 H4 HC0.out
  have HG := Lib.hid hg
  clear hg hb' H3
  cases g with
  | true =>
    go_wp2
    go_ret
    exact ⟨rfl, four_below H4⟩
  | false =>
  have hz_p := (HG.out rfl).1
  have hd_p := (HG.out rfl).2
  clear HG
  go_wp2_with fail
  refine (refmarked_any t _ _ (kept_lies H4 HLt.out)).mono ?_
  rintro e w5 ⟨rfl, hb'⟩
  have H5 := kept_call H4 hb'
  obtain ⟨-, d00, d01, d02, d03, d04, d10, d11, d12, d13, d14, d20, d21, d22, d23, d24, d30, d31, d32, d33, d34⟩ := kept_boxes4 H5 HC0.out
  clear hb' H4
  cases hr_mt : t.markedB with
  | false =>
    go_wp2
    go_ret
    exact ⟨rfl, four_below H5⟩
  | true =>
  have HRmt := Lib.hid hr_mt
  clear hr_mt
  go_wp2_with fail
  refine (refmarked_any a _ _ (kept_lies H5 HLa.out)).mono ?_
  rintro e w6 ⟨rfl, hb'⟩
  have H6 := kept_call H5 hb'
  obtain ⟨-, d00, d01, d02, d03, d04, d10, d11, d12, d13, d14, d20, d21, d22, d23, d24, d30, d31, d32, d33, d34⟩ := kept_boxes4 H6 HC0.out
  clear hb' H5
  cases hr_ma : a.markedB with
  | false =>
    go_wp2
    go_ret
    exact ⟨rfl, four_below H6⟩
  | true =>
  have HRma := Lib.hid hr_ma
  clear hr_ma
  go_wp2_with fail
  refine (refmarked_any b _ _ (kept_lies H6 HLb.out)).mono ?_
  rintro e w7 ⟨rfl, hb'⟩
  have H7 := kept_call H6 hb'
  obtain ⟨-, d00, d01, d02, d03, d04, d10, d11, d12, d13, d14, d20, d21, d22, d23, d24, d30, d31, d32, d33, d34⟩ := kept_boxes4 H7 HC0.out
  clear hb' H6
  cases hr_mb : b.markedB with
  | false =>
    go_wp2
    go_ret
    exact ⟨rfl, four_below H7⟩
  | true =>
  have HRmb := Lib.hid hr_mb
  clear hr_mb
  go_wp2_with fail
  refine (refplain_any p _ _ (kept_lies H7 HLp.out)).mono ?_
  rintro e w8 ⟨rfl, hb'⟩
  have H8 := kept_call H7 hb'
  obtain ⟨-, d00, d01, d02, d03, d04, d10, d11, d12, d13, d14, d20, d21, d22, d23, d24, d30, d31, d32, d33, d34⟩ := kept_boxes4 H8 HC0.out
  clear hb' H7
  cases hr_pp : p.plainB with
  | false =>
    go_wp2
    go_ret
    exact ⟨rfl, four_below H8⟩
  | true =>
  have HRpp := Lib.hid hr_pp
  clear hr_pp
  by_cases hp1 : i < 0
  · have ep1 : decide (i < 0) = true := by simpa using hp1
    go_wp2
    go_ret
    exact ⟨rfl, four_below H8⟩
  have ep1 : decide (i < 0) = false := by simpa using hp1
  by_cases hp2 : 1000 < i
  · have ep2 : decide (1000 < i) = true := by simpa using hp2
    go_wp2
    go_ret
    exact ⟨rfl, four_below H8⟩
  have ep2 : decide (1000 < i) = false := by simpa using hp2
  have hi0 : 0 ≤ i := by omega
  have hi1 : i ≤ 1000 := by omega
  have R1 := Lib.hid (moved_one HRmt.out HRma.out HRmb.out HRpp.out hi0 hi1)
  have R2 := Lib.hid (moved_two HRmt.out HRma.out HRmb.out HRpp.out hi0 hi1)
  have R3 := Lib.hid (moved_three HRmt.out HRma.out HRmb.out HRpp.out hi0 hi1)
  have hXf := right_fine (marked_right (tr_marked HRmt.out HRma.out HRmb.out HRpp.out hi0 hi1))
  have HB0 := Lib.hid (four_below H8)
  have HCv := Lib.hid (kept_boxes4 H8 HC0.out).2
  have Lt0 := Lib.hid (kept_lies H8 HLt.out)
  have La0 := Lib.hid (kept_lies H8 HLa.out)
  have Lb0 := Lib.hid (kept_lies H8 HLb.out)
  have Lp0 := Lib.hid (kept_lies H8 HLp.out)
  clear H8 HC0 HLt HLa HLb HLp
  generalize w8 = v0 at *
  have K0 := kept_start v0
  have hB : Below v0.heap.size v0 ((v0.alloc (.cells #[.int .i64 a.k, .int .i64 a.i, .int .i64 a.j, .int .i64 a.n, .slice aa a.kids.length ca, .int .i64 b.k, .int .i64 b.i, .int .i64 b.j, .int .i64 b.n, .slice ab b.kids.length cb, .int .i64 p.k, .int .i64 p.i, .int .i64 p.j, .int .i64 p.n, .slice ap p.kids.length cp, .int .i64 t.k, .int .i64 t.i, .int .i64 t.j, .int .i64 t.n, .slice at_ t.kids.length ct] 24)).alloc (.cells #[.int .i64 12, .int .i64 i, .int .i64 0, .int .i64 0, .slice (some ⟨v0.heap.size, 0, none⟩) 4 4] 24)) := ((Below.refl _ _).alloc (Nat.le_refl _) _).alloc (by simp) _
  have hL0 : Lies (v0.alloc (.cells #[.int .i64 a.k, .int .i64 a.i, .int .i64 a.j, .int .i64 a.n, .slice aa a.kids.length ca, .int .i64 b.k, .int .i64 b.i, .int .i64 b.j, .int .i64 b.n, .slice ab b.kids.length cb, .int .i64 p.k, .int .i64 p.i, .int .i64 p.j, .int .i64 p.n, .slice ap p.kids.length cp, .int .i64 t.k, .int .i64 t.i, .int .i64 t.j, .int .i64 t.n, .slice at_ t.kids.length ct] 24)) ((Tm.mk 12 i 0 0 [a, b, p, t])).kids (.slice (some ⟨v0.heap.size, 0, none⟩) 4 4) := by
    have c0 := fun q => cell_of_row (v0.alloc (.cells #[.int .i64 a.k, .int .i64 a.i, .int .i64 a.j, .int .i64 a.n, .slice aa a.kids.length ca, .int .i64 b.k, .int .i64 b.i, .int .i64 b.j, .int .i64 b.n, .slice ab b.kids.length cb, .int .i64 p.k, .int .i64 p.i, .int .i64 p.j, .int .i64 p.n, .slice ap p.kids.length cp, .int .i64 t.k, .int .i64 t.i, .int .i64 t.j, .int .i64 t.n, .slice at_ t.kids.length ct] 24)) v0.heap.size q _ _ _ (alloc_new _ _)
    exact Row.lies (ps := [(a, .slice aa a.kids.length ca), (b, .slice ab b.kids.length cb), (p, .slice ap p.kids.length cp), (t, .slice at_ t.kids.length ct)]) ⟨⟨by rw [c0]; rfl, by rw [c0]; rfl, by rw [c0]; rfl, by rw [c0]; rfl, by rw [c0]; rfl⟩, right_fine (marked_right HRma.out), (La0.out).keep ((Below.refl _ _).alloc (Nat.le_refl _) _), ⟨by rw [c0]; rfl, by rw [c0]; rfl, by rw [c0]; rfl, by rw [c0]; rfl, by rw [c0]; rfl⟩, right_fine (marked_right HRmb.out), (Lb0.out).keep ((Below.refl _ _).alloc (Nat.le_refl _) _), ⟨by rw [c0]; rfl, by rw [c0]; rfl, by rw [c0]; rfl, by rw [c0]; rfl, by rw [c0]; rfl⟩, right_fine (plain_right HRpp.out), (Lp0.out).keep ((Below.refl _ _).alloc (Nat.le_refl _) _), ⟨by rw [c0]; rfl, by rw [c0]; rfl, by rw [c0]; rfl, by rw [c0]; rfl, by rw [c0]; rfl⟩, right_fine (marked_right HRmt.out), (Lt0.out).keep ((Below.refl _ _).alloc (Nat.le_refl _) _), trivial⟩ (Nat.le_refl _) (by decide)
  have hL : Lies ((v0.alloc (.cells #[.int .i64 a.k, .int .i64 a.i, .int .i64 a.j, .int .i64 a.n, .slice aa a.kids.length ca, .int .i64 b.k, .int .i64 b.i, .int .i64 b.j, .int .i64 b.n, .slice ab b.kids.length cb, .int .i64 p.k, .int .i64 p.i, .int .i64 p.j, .int .i64 p.n, .slice ap p.kids.length cp, .int .i64 t.k, .int .i64 t.i, .int .i64 t.j, .int .i64 t.n, .slice at_ t.kids.length ct] 24)).alloc (.cells #[.int .i64 12, .int .i64 i, .int .i64 0, .int .i64 0, .slice (some ⟨v0.heap.size, 0, none⟩) 4 4] 24)) ((Tm.mk 12 i 0 0 [a, b, p, t])).kids (.slice (some ⟨v0.heap.size, 0, none⟩) 4 4) := hL0.keep ((Below.refl _ _).alloc (Nat.le_refl _) _)
  have hQ : ((v0.alloc (.cells #[.int .i64 a.k, .int .i64 a.i, .int .i64 a.j, .int .i64 a.n, .slice aa a.kids.length ca, .int .i64 b.k, .int .i64 b.i, .int .i64 b.j, .int .i64 b.n, .slice ab b.kids.length cb, .int .i64 p.k, .int .i64 p.i, .int .i64 p.j, .int .i64 p.n, .slice ap p.kids.length cp, .int .i64 t.k, .int .i64 t.i, .int .i64 t.j, .int .i64 t.n, .slice at_ t.kids.length ct] 24)).alloc (.cells #[.int .i64 12, .int .i64 i, .int .i64 0, .int .i64 0, .slice (some ⟨v0.heap.size, 0, none⟩) 4 4] 24)).heap[v0.heap.size + 1]? = some (.cells #[.int .i64 12, .int .i64 i, .int .i64 0, .int .i64 0, .slice (some ⟨v0.heap.size, 0, none⟩) 4 4] 24) := heap_alloc2_new _ _ _
  clear hL0
  go_upto_region 4 with fail
  generalize ((v0.alloc (.cells #[.int .i64 a.k, .int .i64 a.i, .int .i64 a.j, .int .i64 a.n, .slice aa a.kids.length ca, .int .i64 b.k, .int .i64 b.i, .int .i64 b.j, .int .i64 b.n, .slice ab b.kids.length cb, .int .i64 p.k, .int .i64 p.i, .int .i64 p.j, .int .i64 p.n, .slice ap p.kids.length cp, .int .i64 t.k, .int .i64 t.i, .int .i64 t.j, .int .i64 t.n, .slice at_ t.kids.length ct] 24)).alloc (.cells #[.int .i64 12, .int .i64 i, .int .i64 0, .int .i64 0, .slice (some ⟨v0.heap.size, 0, none⟩) 4 4] 24)) = v1 at hB hL hQ ⊢
  have K1 := kept_call K0 hB
  clear d00 d01 d02 d03 d04 d10 d11 d12 d13 d14 d20 d21 d22 d23 d24 d30 d31 d32 d33 d34
  obtain ⟨-, d00, d01, d02, d03, d04, d10, d11, d12, d13, d14, d20, d21, d22, d23, d24, d30, d31, d32, d33, d34⟩ := kept_boxes4 K1 HCv.out
  obtain ⟨e0, e1, e2, e3, e4⟩ := five_cells hQ
  have QX := Lib.hid hQ
  have LX1 := Lib.hid hL
  have La1 := Lib.hid (La0.out.keep hB)
  have Lt1 := Lib.hid (Lt0.out.keep hB)
  clear hB hQ hL
  have hB : Below v1.heap.size v1 ((v1.alloc (.cells #[.int .i64 a.k, .int .i64 a.i, .int .i64 a.j, .int .i64 a.n, .slice aa a.kids.length ca, .int .i64 12, .int .i64 i, .int .i64 0, .int .i64 0, .slice (some ⟨v0.heap.size, 0, none⟩) 4 4] 24)).alloc (.cells #[.int .i64 11, .int .i64 i, .int .i64 0, .int .i64 0, .slice (some ⟨v1.heap.size, 0, none⟩) 2 2] 24)) := ((Below.refl _ _).alloc (Nat.le_refl _) _).alloc (by simp) _
  have hL0 : Lies (v1.alloc (.cells #[.int .i64 a.k, .int .i64 a.i, .int .i64 a.j, .int .i64 a.n, .slice aa a.kids.length ca, .int .i64 12, .int .i64 i, .int .i64 0, .int .i64 0, .slice (some ⟨v0.heap.size, 0, none⟩) 4 4] 24)) ((Tm.mk 11 i 0 0 [a, (Tm.mk 12 i 0 0 [a, b, p, t])])).kids (.slice (some ⟨v1.heap.size, 0, none⟩) 2 2) := by
    have c0 := fun q => cell_of_row (v1.alloc (.cells #[.int .i64 a.k, .int .i64 a.i, .int .i64 a.j, .int .i64 a.n, .slice aa a.kids.length ca, .int .i64 12, .int .i64 i, .int .i64 0, .int .i64 0, .slice (some ⟨v0.heap.size, 0, none⟩) 4 4] 24)) v1.heap.size q _ _ _ (alloc_new _ _)
    exact Row.lies (ps := [(a, .slice aa a.kids.length ca), ((Tm.mk 12 i 0 0 [a, b, p, t]), .slice (some ⟨v0.heap.size, 0, none⟩) 4 4)]) ⟨⟨by rw [c0]; rfl, by rw [c0]; rfl, by rw [c0]; rfl, by rw [c0]; rfl, by rw [c0]; rfl⟩, right_fine (marked_right HRma.out), (La1.out).keep ((Below.refl _ _).alloc (Nat.le_refl _) _), ⟨by rw [c0]; rfl, by rw [c0]; rfl, by rw [c0]; rfl, by rw [c0]; rfl, by rw [c0]; rfl⟩, hXf, (LX1.out).keep ((Below.refl _ _).alloc (Nat.le_refl _) _), trivial⟩ (Nat.le_refl _) (by decide)
  have hL : Lies ((v1.alloc (.cells #[.int .i64 a.k, .int .i64 a.i, .int .i64 a.j, .int .i64 a.n, .slice aa a.kids.length ca, .int .i64 12, .int .i64 i, .int .i64 0, .int .i64 0, .slice (some ⟨v0.heap.size, 0, none⟩) 4 4] 24)).alloc (.cells #[.int .i64 11, .int .i64 i, .int .i64 0, .int .i64 0, .slice (some ⟨v1.heap.size, 0, none⟩) 2 2] 24)) ((Tm.mk 11 i 0 0 [a, (Tm.mk 12 i 0 0 [a, b, p, t])])).kids (.slice (some ⟨v1.heap.size, 0, none⟩) 2 2) := hL0.keep ((Below.refl _ _).alloc (Nat.le_refl _) _)
  have hQ : ((v1.alloc (.cells #[.int .i64 a.k, .int .i64 a.i, .int .i64 a.j, .int .i64 a.n, .slice aa a.kids.length ca, .int .i64 12, .int .i64 i, .int .i64 0, .int .i64 0, .slice (some ⟨v0.heap.size, 0, none⟩) 4 4] 24)).alloc (.cells #[.int .i64 11, .int .i64 i, .int .i64 0, .int .i64 0, .slice (some ⟨v1.heap.size, 0, none⟩) 2 2] 24)).heap[v1.heap.size + 1]? = some (.cells #[.int .i64 11, .int .i64 i, .int .i64 0, .int .i64 0, .slice (some ⟨v1.heap.size, 0, none⟩) 2 2] 24) := heap_alloc2_new _ _ _
  clear hL0
  go_upto_region 5 with fail
  generalize ((v1.alloc (.cells #[.int .i64 a.k, .int .i64 a.i, .int .i64 a.j, .int .i64 a.n, .slice aa a.kids.length ca, .int .i64 12, .int .i64 i, .int .i64 0, .int .i64 0, .slice (some ⟨v0.heap.size, 0, none⟩) 4 4] 24)).alloc (.cells #[.int .i64 11, .int .i64 i, .int .i64 0, .int .i64 0, .slice (some ⟨v1.heap.size, 0, none⟩) 2 2] 24)) = v2 at hB hL hQ ⊢
  have K2 := kept_call K1 hB
  clear d00 d01 d02 d03 d04 d10 d11 d12 d13 d14 d20 d21 d22 d23 d24 d30 d31 d32 d33 d34
  obtain ⟨-, d00, d01, d02, d03, d04, d10, d11, d12, d13, d14, d20, d21, d22, d23, d24, d30, d31, d32, d33, d34⟩ := kept_boxes4 K2 HCv.out
  obtain ⟨e0, e1, e2, e3, e4⟩ := five_cells hQ
  have QX2 := Lib.hid (keep_block hB (block_lt QX.out) QX.out)
  have QY := Lib.hid hQ
  have LX2 := Lib.hid (LX1.out.keep hB)
  have LY2 := Lib.hid hL
  have La2 := Lib.hid (La1.out.keep hB)
  have Lt2 := Lib.hid (Lt1.out.keep hB)
  clear hB hQ hL e0 e1 e2 e3 e4
  have hB : Below v2.heap.size v2 ((v2.alloc (.cells #[.int .i64 a.k, .int .i64 a.i, .int .i64 a.j, .int .i64 a.n, .slice aa a.kids.length ca, .int .i64 t.k, .int .i64 t.i, .int .i64 t.j, .int .i64 t.n, .slice at_ t.kids.length ct] 24)).alloc (.cells #[.int .i64 11, .int .i64 i, .int .i64 0, .int .i64 0, .slice (some ⟨v2.heap.size, 0, none⟩) 2 2] 24)) := ((Below.refl _ _).alloc (Nat.le_refl _) _).alloc (by simp) _
  have hL0 : Lies (v2.alloc (.cells #[.int .i64 a.k, .int .i64 a.i, .int .i64 a.j, .int .i64 a.n, .slice aa a.kids.length ca, .int .i64 t.k, .int .i64 t.i, .int .i64 t.j, .int .i64 t.n, .slice at_ t.kids.length ct] 24)) ((Tm.mk 11 i 0 0 [a, t])).kids (.slice (some ⟨v2.heap.size, 0, none⟩) 2 2) := by
    have c0 := fun q => cell_of_row (v2.alloc (.cells #[.int .i64 a.k, .int .i64 a.i, .int .i64 a.j, .int .i64 a.n, .slice aa a.kids.length ca, .int .i64 t.k, .int .i64 t.i, .int .i64 t.j, .int .i64 t.n, .slice at_ t.kids.length ct] 24)) v2.heap.size q _ _ _ (alloc_new _ _)
    exact Row.lies (ps := [(a, .slice aa a.kids.length ca), (t, .slice at_ t.kids.length ct)]) ⟨⟨by rw [c0]; rfl, by rw [c0]; rfl, by rw [c0]; rfl, by rw [c0]; rfl, by rw [c0]; rfl⟩, right_fine (marked_right HRma.out), (La2.out).keep ((Below.refl _ _).alloc (Nat.le_refl _) _), ⟨by rw [c0]; rfl, by rw [c0]; rfl, by rw [c0]; rfl, by rw [c0]; rfl, by rw [c0]; rfl⟩, right_fine (marked_right HRmt.out), (Lt2.out).keep ((Below.refl _ _).alloc (Nat.le_refl _) _), trivial⟩ (Nat.le_refl _) (by decide)
  have hL : Lies ((v2.alloc (.cells #[.int .i64 a.k, .int .i64 a.i, .int .i64 a.j, .int .i64 a.n, .slice aa a.kids.length ca, .int .i64 t.k, .int .i64 t.i, .int .i64 t.j, .int .i64 t.n, .slice at_ t.kids.length ct] 24)).alloc (.cells #[.int .i64 11, .int .i64 i, .int .i64 0, .int .i64 0, .slice (some ⟨v2.heap.size, 0, none⟩) 2 2] 24)) ((Tm.mk 11 i 0 0 [a, t])).kids (.slice (some ⟨v2.heap.size, 0, none⟩) 2 2) := hL0.keep ((Below.refl _ _).alloc (Nat.le_refl _) _)
  have hQ : ((v2.alloc (.cells #[.int .i64 a.k, .int .i64 a.i, .int .i64 a.j, .int .i64 a.n, .slice aa a.kids.length ca, .int .i64 t.k, .int .i64 t.i, .int .i64 t.j, .int .i64 t.n, .slice at_ t.kids.length ct] 24)).alloc (.cells #[.int .i64 11, .int .i64 i, .int .i64 0, .int .i64 0, .slice (some ⟨v2.heap.size, 0, none⟩) 2 2] 24)).heap[v2.heap.size + 1]? = some (.cells #[.int .i64 11, .int .i64 i, .int .i64 0, .int .i64 0, .slice (some ⟨v2.heap.size, 0, none⟩) 2 2] 24) := heap_alloc2_new _ _ _
  clear hL0
  go_upto_region 6 with fail
  generalize ((v2.alloc (.cells #[.int .i64 a.k, .int .i64 a.i, .int .i64 a.j, .int .i64 a.n, .slice aa a.kids.length ca, .int .i64 t.k, .int .i64 t.i, .int .i64 t.j, .int .i64 t.n, .slice at_ t.kids.length ct] 24)).alloc (.cells #[.int .i64 11, .int .i64 i, .int .i64 0, .int .i64 0, .slice (some ⟨v2.heap.size, 0, none⟩) 2 2] 24)) = v3 at hB hL hQ ⊢
  have K3 := kept_call K2 hB
  clear d00 d01 d02 d03 d04 d10 d11 d12 d13 d14 d20 d21 d22 d23 d24 d30 d31 d32 d33 d34
  obtain ⟨-, d00, d01, d02, d03, d04, d10, d11, d12, d13, d14, d20, d21, d22, d23, d24, d30, d31, d32, d33, d34⟩ := kept_boxes4 K3 HCv.out
  obtain ⟨e0, e1, e2, e3, e4⟩ := five_cells hQ
  have HC := Lib.hid (and_five (And.intro d00 (And.intro d01 (And.intro d02 (And.intro d03 d04)))) (and_five (five_cells (keep_block hB (block_lt QX2.out) QX2.out)) (and_five (five_cells (keep_block hB (block_lt QY.out) QY.out)) (five_cells hQ))))
  have LX := Lib.hid (LX2.out.keep hB)
  have LY := Lib.hid (LY2.out.keep hB)
  have LZ := Lib.hid hL
  have Lt3 := Lib.hid (Lt2.out.keep hB)
  have HB3 := Lib.hid (HB0.out.trans (Below.mono K3 HB0.out.size))
  clear d00 d01 d02 d03 d04 d10 d11 d12 d13 d14 d20 d21 d22 d23 d24 d30 d31 d32 d33 d34 e0 e1 e2 e3 e4
  obtain ⟨E, hE⟩ : ∃ E, t.eraseB = E := ⟨_, rfl⟩
  have CT : Hid (∀ w', Kept v3 w' → Calls Try.prog 72 #[.agg #[.int .i64 t.k, .int .i64 t.i, .int .i64 t.j, .int .i64 t.n, .slice at_ t.kids.length ct]] w' (Makes E w')) := fun w' h => by
    have := erase_any t w' _ (kept_lies h Lt3.out)
    rw [hE] at this; exact this
  have CX : Hid (∀ w', Kept v3 w' → Calls Try.prog 72 #[.agg #[.int .i64 12, .int .i64 i, .int .i64 0, .int .i64 0, .slice (some ⟨v0.heap.size, 0, none⟩) 4 4]] w' (Makes E w')) := fun w' h => by
    have := erase_any (Tm.mk 12 i 0 0 [a, b, p, t]) w' _ (kept_lies h LX.out)
    rw [R3.out, hE] at this; exact this
  have CR1 : Hid (∀ w', Kept v3 w' → Calls Try.prog 76 #[.agg #[.int .i64 12, .int .i64 i, .int .i64 0, .int .i64 0, .slice (some ⟨v0.heap.size, 0, none⟩) 4 4], .agg #[.int .i64 t.k, .int .i64 t.i, .int .i64 t.j, .int .i64 t.n, .slice at_ t.kids.length ct]] w' (fun e w'' => e = .returned (.bool true) ∧ Below w'.heap.size w' w'')) := fun w' h => by
    have := related_any (Tm.mk 12 i 0 0 [a, b, p, t]) t w' _ _ (kept_lies h LX.out) (kept_lies h Lt3.out)
    rw [R1.out] at this; exact this
  have CR2 : Hid (∀ w', Kept v3 w' → Calls Try.prog 76 #[.agg #[.int .i64 11, .int .i64 i, .int .i64 0, .int .i64 0, .slice (some ⟨v1.heap.size, 0, none⟩) 2 2], .agg #[.int .i64 11, .int .i64 i, .int .i64 0, .int .i64 0, .slice (some ⟨v2.heap.size, 0, none⟩) 2 2]] w' (fun e w'' => e = .returned (.bool true) ∧ Below w'.heap.size w' w'')) := fun w' h => by
    have := related_any (Tm.mk 11 i 0 0 [a, (Tm.mk 12 i 0 0 [a, b, p, t])]) (Tm.mk 11 i 0 0 [a, t]) w' _ _ (kept_lies h LY.out) (kept_lies h LZ.out)
    rw [R2.out] at this; exact this
  have hK0 := kept_start v3
  obtain ⟨x00, x01, x02, x03, x04, x10, x11, x12, x13, x14, x20, x21, x22, x23, x24, x30, x31, x32, x33, x34⟩ := HC.out
  clear hB hQ hL hE R1 R2 R3 hXf QX QX2 QY LX1 LX2 LY2 La0 La1 La2 Lt0 Lt1 Lt2 Lb0 Lp0 LX LY LZ Lt3 HCv K0 K1 K2 K3 HB0
  go_region_held3 (fun w' => Kept v3 w' ∧ w'.cell? ⟨w.heap.size, 0, none⟩ = some (.int .i64 t.k) ∧ w'.cell? ⟨w.heap.size, 1, none⟩ = some (.int .i64 t.i) ∧ w'.cell? ⟨w.heap.size, 2, none⟩ = some (.int .i64 t.j) ∧ w'.cell? ⟨w.heap.size, 3, none⟩ = some (.int .i64 t.n) ∧ w'.cell? ⟨w.heap.size, 4, none⟩ = some (.slice at_ t.kids.length ct) ∧ w'.cell? ⟨v0.heap.size + 1, 0, none⟩ = some (.int .i64 12) ∧ w'.cell? ⟨v0.heap.size + 1, 1, none⟩ = some (.int .i64 i) ∧ w'.cell? ⟨v0.heap.size + 1, 2, none⟩ = some (.int .i64 0) ∧ w'.cell? ⟨v0.heap.size + 1, 3, none⟩ = some (.int .i64 0) ∧ w'.cell? ⟨v0.heap.size + 1, 4, none⟩ = some (.slice (some ⟨v0.heap.size, 0, none⟩) 4 4) ∧ w'.cell? ⟨v1.heap.size + 1, 0, none⟩ = some (.int .i64 11) ∧ w'.cell? ⟨v1.heap.size + 1, 1, none⟩ = some (.int .i64 i) ∧ w'.cell? ⟨v1.heap.size + 1, 2, none⟩ = some (.int .i64 0) ∧ w'.cell? ⟨v1.heap.size + 1, 3, none⟩ = some (.int .i64 0) ∧ w'.cell? ⟨v1.heap.size + 1, 4, none⟩ = some (.slice (some ⟨v1.heap.size, 0, none⟩) 2 2) ∧ w'.cell? ⟨v2.heap.size + 1, 0, none⟩ = some (.int .i64 11) ∧ w'.cell? ⟨v2.heap.size + 1, 1, none⟩ = some (.int .i64 i) ∧ w'.cell? ⟨v2.heap.size + 1, 2, none⟩ = some (.int .i64 0) ∧ w'.cell? ⟨v2.heap.size + 1, 3, none⟩ = some (.int .i64 0) ∧ w'.cell? ⟨v2.heap.size + 1, 4, none⟩ = some (.slice (some ⟨v2.heap.size, 0, none⟩) 2 2))
    (((with_reducible refine kept_boxes4 ?_ HC.out); repeat (first | with_reducible assumption | with_reducible exact hK0 | with_reducible refine kept_drew ?_ | with_reducible refine kept_alloc ?_ _)))
    (first | (go_at_call 75; have hS := (‹Kept v3 _ ∧ _›).1; ((refine (wakes8_any _).mono ?_); rintro e wn ⟨rfl, hbn⟩; have hh := kept_call hS hbn; obtain ⟨-, x00, x01, x02, x03, x04, x10, x11, x12, x13, x14, x20, x21, x22, x23, x24, x30, x31, x32, x33, x34⟩ := kept_boxes4 hh HC.out)) | (go_at_call 51; have mk0 := HP1.out; have mk1 := HM2.out; have hS := (‹Kept v3 _ ∧ _›).1; ((with_reducible refine Calls.mono (keepsame_eq E _ _ _ mk0 mk1) ?_); rintro e wn ⟨rfl, hbn⟩; have hh := kept_call hS hbn; obtain ⟨-, x00, x01, x02, x03, x04, x10, x11, x12, x13, x14, x20, x21, x22, x23, x24, x30, x31, x32, x33, x34⟩ := kept_boxes4 hh HC.out)) | (go_at_call 72; have mk0 := HM1.out; have hS := (‹Kept v3 _ ∧ _›).1; ((with_reducible refine Calls.mono (CT.out _ hS) ?_); rintro e wn ⟨s9, rfl, hl9, hbn⟩; have hh := kept_call hS hbn; obtain ⟨a9, cap9, rfl, -, -⟩ := hl9.out; have HP1 := Lib.hid (mk0.keep hbn); have HM2 := Lib.hid hl9.lies; clear hl9; obtain ⟨-, x00, x01, x02, x03, x04, x10, x11, x12, x13, x14, x20, x21, x22, x23, x24, x30, x31, x32, x33, x34⟩ := kept_boxes4 hh HC.out)) | (go_at_call 72; have hS := (‹Kept v3 _ ∧ _›).1; ((with_reducible refine Calls.mono (CX.out _ hS) ?_); rintro e wn ⟨s8, rfl, hl8, hbn⟩; have hh := kept_call hS hbn; obtain ⟨a8, cap8, rfl, -, -⟩ := hl8.out; have HM1 := Lib.hid hl8.lies; clear hl8; obtain ⟨-, x00, x01, x02, x03, x04, x10, x11, x12, x13, x14, x20, x21, x22, x23, x24, x30, x31, x32, x33, x34⟩ := kept_boxes4 hh HC.out)) | (go_at_call 76; have hS := (‹Kept v3 _ ∧ _›).1; ((with_reducible refine Calls.mono (CR1.out _ hS) ?_); rintro e wn ⟨rfl, hbn⟩; have hh := kept_call hS hbn; obtain ⟨-, x00, x01, x02, x03, x04, x10, x11, x12, x13, x14, x20, x21, x22, x23, x24, x30, x31, x32, x33, x34⟩ := kept_boxes4 hh HC.out)) | (go_at_call 76; have hS := (‹Kept v3 _ ∧ _›).1; ((with_reducible refine Calls.mono (CR2.out _ hS) ?_); rintro e wn ⟨rfl, hbn⟩; have hh := kept_call hS hbn; obtain ⟨-, x00, x01, x02, x03, x04, x10, x11, x12, x13, x14, x20, x21, x22, x23, x24, x30, x31, x32, x33, x34⟩ := kept_boxes4 hh HC.out)))
  go_wp2
  go_ret
  exact ⟨rfl, HB3.out.trans (hh.mono HB3.out.size)⟩
end Go.Proofs.Ytjafbnilejmbiaa
