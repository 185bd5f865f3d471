/-
  PutExact holds: for every input the call returns true, and the arguments read as before. No condition.
-/
import Derived.Test.YtmhmengbhdaodaaPxB
import Derived.Test.YtmhmengbhdaodaaPxA
import Derived.Test.YtmhmengbhdaodaaRefMore
import Derived.Test.YtmhmengbhdaodaaWakes5
import Derived.Test.YtmhmengbhdaodaaLawKit
import Derived.Test.YtmhmengbhdaodaaSpoil
import Derived.Test.YtmhmengbhdaodaaBox
import Derived.Test.YtmhmengbhdaodaaRows
import Derived.ProofKit
import Derived.OpenShut
import Derived.Carry
import Derived.Deep.Slices
import Derived.JoinedOf
/-! The page's own may and Put. -/
namespace Go.Proofs.Ytmhmengbhdaodaa
open Go.RowKit

set_option maxHeartbeats 2000000 in
theorem refmay_any (t u : Tm) (w : World) (s r : Value) (hl : Lies w t.kids s) (hm : Lies w u.kids r) : Calls Try.prog 35 #[tv t s, tv u r] w fun e w' => e = .returned (.bool (mayB t u)) ∧ Below w.heap.size w w' := by
  obtain ⟨a, cap, S, rfl, -⟩ := hl.out
  obtain ⟨a2, cap2, S2, rfl, -⟩ := hm.out
  have HL := Lib.hid hl
  have HM := Lib.hid hm
  have H0 := held2_start w t (.slice a t.kids.length cap) u (.slice a2 u.kids.length cap2)
  clear hl hm
  unfold tv
  go_enter Try.func35, Try.ntmps35
  go_wp2_with fail
  refine (refright_any u _ _ (held2_lies H0 HM.out)).mono ?_
  cases hu : u.rightB
  · rintro e w1 ⟨rfl, hb1⟩
    have H1 := held2_call H0 hb1
    go_wp2
    go_ret
    exact ⟨ret_bool (by unfold mayB; rw [hu]; rfl), held2_below H1⟩
  rintro e w1 ⟨rfl, hb1⟩
  have H1 := held2_call H0 hb1
  obtain ⟨d0, d1, d2, d3, d4, e0, e1, e2, e3, e4⟩ := held2_cells H1
  have HU := Lib.hid hu
  clear hb1 H0 hu
  by_cases k1 : t.k = 1
  · have f1 : (t.k == 1) = true := by simpa using k1
    have HB := Lib.hid (show mayB t u = true by unfold mayB; rw [HU.out, f1]; rfl)
    clear k1
    go_wp2
    go_ret
    exact ⟨ret_bool HB.out.symm, held2_below H1⟩
  have f1 : (t.k == 1) = false := by simpa using k1
  by_cases k2 : t.k = 2
  · have f2 : (t.k == 2) = true := by simpa using k2
    have HB := Lib.hid (show mayB t u = true by unfold mayB; rw [HU.out, f1, f2]; rfl)
    clear k1 k2
    go_wp2
    go_ret
    exact ⟨ret_bool HB.out.symm, held2_below H1⟩
  have f2 : (t.k == 2) = false := by simpa using k2
  clear k1 k2
  go_wp2_with fail
  refine (refplain_any t _ _ (held2_lies H1 HL.out)).mono ?_
  cases hp : t.plainB
  · rintro e w2 ⟨rfl, hb2⟩
    have H2 := held2_call H1 hb2
    have HB := Lib.hid (show mayB t u = u.markedB by unfold mayB; rw [HU.out, f1, f2, hp]; rfl)
    clear hb2 H1 d0 d1 d2 d3 d4 e0 e1 e2 e3 e4 hp
    obtain ⟨d0, d1, d2, d3, d4, e0, e1, e2, e3, e4⟩ := held2_cells H2
    go_wp2_with fail
    refine (refmarked_any u _ _ (held2_lies H2 HM.out)).mono ?_
    obtain ⟨M, hM⟩ : ∃ M, u.markedB = M := ⟨_, rfl⟩
    rw [hM] at HB ⊢
    clear hM
    rintro e w3 ⟨rfl, hb3⟩
    have H3 := held2_call H2 hb3
    go_wp2
    go_ret
    exact ⟨ret_bool HB.out.symm, held2_below H3⟩
  · rintro e w2 ⟨rfl, hb2⟩
    have H2 := held2_call H1 hb2
    have HB := Lib.hid (show mayB t u = true by unfold mayB; rw [HU.out, f1, f2, hp]; rfl)
    clear hp
    go_wp2
    go_ret
    exact ⟨ret_bool HB.out.symm, held2_below H2⟩

set_option maxRecDepth 20000 in
set_option maxHeartbeats 2000000 in
theorem refPutT_any (t u : Tm) (w : World) (s r : Value) (hl : Lies w t.kids s) (hm : Lies w u.kids r) (hdt : t.deep ≤ 100000) (hdu : u.deep ≤ 100000) : Calls Try.prog 15 #[tv t s, tv u r] w (Makes (t.putB u) w) := by
  obtain ⟨a, cap, S, rfl, -⟩ := hl.out
  obtain ⟨a2, cap2, S2, rfl, -⟩ := hm.out
  obtain ⟨du, hu1, hu2⟩ := under_term
  have hB := below_three w (.cells #[.int .i64 t.k, .int .i64 t.i, .int .i64 t.j, .int .i64 t.n, .slice a t.kids.length cap] 24) (.cells #[.int .i64 u.k, .int .i64 u.i, .int .i64 u.j, .int .i64 u.n, .slice a2 u.kids.length cap2] 24) (.cells #[.int .i64 0, .int .i64 0, .int .i64 0, .int .i64 0, .slice none 0 0] 24)
  obtain ⟨q0, q1, q2, -⟩ := heap_three w (.cells #[.int .i64 t.k, .int .i64 t.i, .int .i64 t.j, .int .i64 t.n, .slice a t.kids.length cap] 24) (.cells #[.int .i64 u.k, .int .i64 u.i, .int .i64 u.j, .int .i64 u.n, .slice a2 u.kids.length cap2] 24) (.cells #[.int .i64 0, .int .i64 0, .int .i64 0, .int .i64 0, .slice none 0 0] 24)
  have HL := Lib.hid (hl.keep hB)
  have HM := Lib.hid (hm.keep hB)
  have hs3 : w.heap.size + 1 + 1 < (((w.alloc (.cells #[.int .i64 t.k, .int .i64 t.i, .int .i64 t.j, .int .i64 t.n, .slice a t.kids.length cap] 24)).alloc (.cells #[.int .i64 u.k, .int .i64 u.i, .int .i64 u.j, .int .i64 u.n, .slice a2 u.kids.length cap2] 24)).alloc (.cells #[.int .i64 0, .int .i64 0, .int .i64 0, .int .i64 0, .slice none 0 0] 24)).heap.size := by simp
  clear hl hm
  unfold tv
  have hput : t.putB u = if t.rightB = true ∧ mayB t u = true then (t.putG (gPut u) 0 (decide (12 < t.k))).getD .zero else .zero := rfl
  cases hr : t.rightB with
  | false =>
    rw [if_neg (by rw [hr]; simp)] at hput
    rw [hput]
    clear hput
    go_enter Try.func15, Try.ntmps15
    go_upto_region 1 with fail
    generalize ((w.alloc (.cells #[.int .i64 t.k, .int .i64 t.i, .int .i64 t.j, .int .i64 t.n, .slice a t.kids.length cap] 24)).alloc (.cells #[.int .i64 u.k, .int .i64 u.i, .int .i64 u.j, .int .i64 u.n, .slice a2 u.kids.length cap2] 24)).alloc (.cells #[.int .i64 0, .int .i64 0, .int .i64 0, .int .i64 0, .slice none 0 0] 24) = w2 at hB q0 q1 q2 HL HM hs3 ⊢
    obtain ⟨d0, d1, d2, d3, d4⟩ := five_cells q0
    have Q2 := Lib.hid q2
    clear q0 q1 q2
    go_wp2_with fail
    refine (refright_any t _ _ HL.out).mono ?_
    rw [hr]
    rintro e w3 ⟨rfl, hb3⟩
    have q3 := (hb3.block _ hs3).trans Q2.out
    obtain ⟨z0, z1, z2, z3, z4⟩ := five_cells q3
    obtain ⟨f0, f1, f2, f3, f4⟩ := five_free q3
    have hb := hB.trans (hb3.mono hB.size)
    clear hb3 d0 d1 d2 d3 d4
    go_wp2
    (try simp only [Exit.inBlock, Exit.then])
    refine bodyPost_ret (results_cell_row rfl _ _ (w.heap.size + 1 + 1) _ _ _ du rfl (five_set q3) hu1 (by cases du <;> first | rfl | exact hu2) size_term) rfl ?_
    exact ⟨.slice none 0 0, rfl, liesP_nil _ _, below_five hb (by omega) _ _ _ _ _⟩
  | true =>
    cases hmay : mayB t u with
    | false =>
      rw [if_neg (by rw [hmay]; simp)] at hput
      rw [hput]
      clear hput
      go_enter Try.func15, Try.ntmps15
      go_upto_region 1 with fail
      generalize ((w.alloc (.cells #[.int .i64 t.k, .int .i64 t.i, .int .i64 t.j, .int .i64 t.n, .slice a t.kids.length cap] 24)).alloc (.cells #[.int .i64 u.k, .int .i64 u.i, .int .i64 u.j, .int .i64 u.n, .slice a2 u.kids.length cap2] 24)).alloc (.cells #[.int .i64 0, .int .i64 0, .int .i64 0, .int .i64 0, .slice none 0 0] 24) = w2 at hB q0 q1 q2 HL HM hs3 ⊢
      obtain ⟨d0, d1, d2, d3, d4⟩ := five_cells q0
      have Q0 := Lib.hid q0
      have Q1 := Lib.hid q1
      have Q2 := Lib.hid q2
      clear q0 q1 q2
      go_wp2_with fail
      refine (refright_any t _ _ HL.out).mono ?_
      rw [hr]
      rintro e w3 ⟨rfl, hb3⟩
      have HB3 := Lib.hid hb3
      have q3 := (hb3.block _ hs3).trans Q2.out
      clear d0 d1 d2 d3 d4
      obtain ⟨d0, d1, d2, d3, d4⟩ := five_cells ((hb3.block _ (block_lt Q0.out)).trans Q0.out)
      obtain ⟨e0, e1, e2, e3, e4⟩ := five_cells ((hb3.block _ (block_lt Q1.out)).trans Q1.out)
      have Q3 := Lib.hid q3
      have HBB := Lib.hid (hB.trans (hb3.mono hB.size))
      clear hb3 q3
      go_wp2_with fail
      refine (refmay_any t u _ _ _ (HL.out.keep HB3.out) (HM.out.keep HB3.out)).mono ?_
      rw [hmay]
      rintro e w4 ⟨rfl, hb4⟩
      have q4 := (hb4.block _ (block_lt Q3.out)).trans Q3.out
      obtain ⟨z0, z1, z2, z3, z4⟩ := five_cells q4
      obtain ⟨f0, f1, f2, f3, f4⟩ := five_free q4
      have hb := HBB.out.trans (hb4.mono HBB.out.size)
      clear hb4 d0 d1 d2 d3 d4 e0 e1 e2 e3 e4
      go_wp2
      (try simp only [Exit.inBlock, Exit.then])
      refine bodyPost_ret (results_cell_row rfl _ _ (w.heap.size + 1 + 1) _ _ _ du rfl (five_set q4) hu1 (by cases du <;> first | rfl | exact hu2) size_term) rfl ?_
      exact ⟨.slice none 0 0, rfl, liesP_nil _ _, below_five hb (by omega) _ _ _ _ _⟩
    | true =>
      rw [if_pos ⟨hr, hmay⟩] at hput
      have hur : u.rightB = true := by unfold mayB at hmay; simp only [Bool.and_eq_true] at hmay; exact hmay.1
      have CP := refput_any u hur hdu t 0 false
      obtain ⟨R, hR⟩ : ∃ R, t.putG (gPut u) 0 (decide (12 < t.k)) = R := ⟨_, rfl⟩
      rw [Bool.false_or] at CP
      rw [hR] at hput CP
      rw [hput]
      have HCP := Lib.hid CP
      clear hput CP hur hR
      go_enter Try.func15, Try.ntmps15
      go_upto_region 1 with fail
      generalize ((w.alloc (.cells #[.int .i64 t.k, .int .i64 t.i, .int .i64 t.j, .int .i64 t.n, .slice a t.kids.length cap] 24)).alloc (.cells #[.int .i64 u.k, .int .i64 u.i, .int .i64 u.j, .int .i64 u.n, .slice a2 u.kids.length cap2] 24)).alloc (.cells #[.int .i64 0, .int .i64 0, .int .i64 0, .int .i64 0, .slice none 0 0] 24) = w2 at hB q0 q1 q2 HL HM hs3 ⊢
      obtain ⟨d0, d1, d2, d3, d4⟩ := five_cells q0
      have Q0 := Lib.hid q0
      have Q1 := Lib.hid q1
      have Q2 := Lib.hid q2
      clear q0 q1 q2
      go_wp2_with fail
      refine (refright_any t _ _ HL.out).mono ?_
      rw [hr]
      have HR := Lib.hid hr
      clear hr
      rintro e w3 ⟨rfl, hb3⟩
      have HB3 := Lib.hid hb3
      have HQ0 := Lib.hid ((hb3.block _ (block_lt Q0.out)).trans Q0.out)
      have HQ1 := Lib.hid ((hb3.block _ (block_lt Q1.out)).trans Q1.out)
      have HQ2 := Lib.hid ((hb3.block _ hs3).trans Q2.out)
      clear d0 d1 d2 d3 d4
      obtain ⟨d0, d1, d2, d3, d4⟩ := five_cells HQ0.out
      obtain ⟨e0, e1, e2, e3, e4⟩ := five_cells HQ1.out
      have HBB := Lib.hid (hB.trans (hb3.mono hB.size))
      clear hb3 Q0 Q1 Q2
      go_wp2_with fail
      refine (refmay_any t u _ _ _ (HL.out.keep HB3.out) (HM.out.keep HB3.out)).mono ?_
      rw [hmay]
      clear hmay
      rintro e w4 ⟨rfl, hb4⟩
      have HB4 := Lib.hid hb4
      have q4 := (hb4.block _ (block_lt HQ2.out)).trans HQ2.out
      have Q4 := Lib.hid q4
      have hbb4 := Lib.hid (HBB.out.trans (hb4.mono HBB.out.size))
      clear d0 d1 d2 d3 d4 e0 e1 e2 e3 e4
      obtain ⟨d0, d1, d2, d3, d4⟩ := five_cells ((hb4.block _ (block_lt HQ0.out)).trans HQ0.out)
      obtain ⟨e0, e1, e2, e3, e4⟩ := five_cells ((hb4.block _ (block_lt HQ1.out)).trans HQ1.out)
      clear hb4 q4
      go_wp2_with fail
      refine (HCP.out _ _ _ ((HL.out.keep HB3.out).keep HB4.out) ((HM.out.keep HB3.out).keep HB4.out) HR.out (Int.le_refl 0) (by omega)).mono ?_
      rintro e w5 ⟨x, xa, xn, xc, ok, rfl, hb5, hans⟩
      have HANS := Lib.hid hans
      have q5 := (hb5.block _ (block_lt Q4.out)).trans Q4.out
      have hs5 : w.heap.size + 1 + 1 < w5.heap.size := block_lt q5
      have hs4 : w.heap.size + 1 + 1 < w4.heap.size := block_lt Q4.out
      obtain ⟨z0, z1, z2, z3, z4⟩ := five_cells q5
      obtain ⟨f0, f1, f2, f3, f4⟩ := five_free q5
      have hb := hbb4.out.trans (hb5.mono hbb4.out.size)
      have hs0 := hbb4.out.size
      clear hans hb5 d0 d1 d2 d3 d4 e0 e1 e2 e3 e4
      rcases HANS.out with ⟨rfl, rfl, rfl, h3⟩ | ⟨rfl, rfl⟩
      · go_wp2
        (try simp only [Exit.inBlock, Exit.then])
        refine bodyPost_ret (results_cell_row rfl _ _ (w.heap.size + 1 + 1) _ _ _ du rfl (five_alloc q5 _ _ _ _ _ _) hu1 (by cases du <;> first | rfl | exact hu2) size_term) rfl ?_
        exact ⟨_, rfl, liesP_fives_alloc h3 hs4 (by omega) _ _ _ _ _ _, below_five_alloc hb hb.size (by omega) _ _ _ _ _ _⟩
      · go_wp2
        (try simp only [Exit.inBlock, Exit.then])
        refine bodyPost_ret (results_cell_row rfl _ _ (w.heap.size + 1 + 1) _ _ _ du rfl (five_alloc q5 _ _ _ _ _ _) hu1 (by cases du <;> first | rfl | exact hu2) size_term) rfl ?_
        exact ⟨.slice none 0 0, rfl, liesP_nil _ _, below_five_alloc hb hb.size (by omega) _ _ _ _ _ _⟩
end Go.Proofs.Ytmhmengbhdaodaa

/-! The layer's own sentence, transhiplaw07.wakes, is true; stands. -/
namespace Go.Proofs.Ytmhmengbhdaodaa
open Go.RowKit

theorem v7_any (i : Int) (w : World) : Calls Try.prog 23 #[.int .i64 i] w fun e w' => e = .returned (.agg #[.int .i64 2, .int .i64 i, .int .i64 0, .int .i64 0, .slice none 0 0]) ∧ Below w.heap.size w w' := by
  obtain ⟨du, hu1, hu2⟩ := under_term
  go_enter Try.func23, Try.ntmps23
  go_wp2
  refine bodyPost_ret (results_cell_row rfl _ _ w.heap.size _ _ _ du rfl (alloc_new _ _) hu1 (by cases du <;> first | rfl | exact hu2) size_term) rfl ?_
  exact ⟨rfl, (Below.refl _ _).alloc (Nat.le_refl _) _⟩

def wake7 : Tm := .mk 15 0 0 0 [varT 0, varT 1]
def wake7s : Tm := .mk 1 3 0 0 []
theorem wake7_lies (w : World) : Lies (w.alloc (.cells #[.int .i64 2, .int .i64 0, .int .i64 0, .int .i64 0, .slice none 0 0, .int .i64 2, .int .i64 1, .int .i64 0, .int .i64 0, .slice none 0 0] 24)) wake7.kids (.slice (some ⟨w.heap.size, 0, none⟩) 2 2) := by
  have c0 := fun q => cell_of_row (w.alloc (.cells #[.int .i64 2, .int .i64 0, .int .i64 0, .int .i64 0, .slice none 0 0, .int .i64 2, .int .i64 1, .int .i64 0, .int .i64 0, .slice none 0 0] 24)) w.heap.size q _ _ _ (alloc_new _ _)
  exact Row.lies (ps := [(.mk 2 0 0 0 [], .slice none 0 0), (.mk 2 1 0 0 [], .slice none 0 0)]) ⟨⟨by rw [c0]; rfl, by rw [c0]; rfl, by rw [c0]; rfl, by rw [c0]; rfl, by rw [c0]; rfl⟩, small_fine _ _ _ (small_I64 2 (by decide)) (small_I64 0 (by decide)), lies_nil _, ⟨by rw [c0]; rfl, by rw [c0]; rfl, by rw [c0]; rfl, by rw [c0]; rfl, by rw [c0]; rfl⟩, small_fine _ _ _ (small_I64 2 (by decide)) (small_I64 1 (by decide)), lies_nil _, trivial⟩ (by decide) (by decide)

theorem two_kids {w : World} {P : Nat → Prop} {x y : Tm} {s : Value} (h : LiesP w P [x, y] s) : ∃ (a : Option Addr) (cap b : Nat), s = .slice a 2 cap ∧ a = some ⟨b, 0, none⟩ ∧ w.cell? ⟨b, 0, none⟩ = some (.int .i64 x.k) ∧ w.cell? ⟨b, 1, none⟩ = some (.int .i64 x.i) ∧ w.cell? ⟨b, 5, none⟩ = some (.int .i64 y.k) ∧ w.cell? ⟨b, 6, none⟩ = some (.int .i64 y.i) := by
  cases h with
  | mk l a cap S hc hm hf hn hk =>
    obtain ⟨b, ha, -, n0⟩ := hn 0 (by simp)
    subst ha
    obtain ⟨b', ha', -, n1⟩ := hn 1 (by simp)
    cases ha'
    exact ⟨_, cap, b, rfl, rfl, n0.c0, n0.c1, n1.c0, n1.c1⟩

set_option maxRecDepth 20000 in
set_option maxHeartbeats 2000000 in
theorem wakes7_any (w : World) : Calls Try.prog 17 #[] w fun e w' => e = .returned (.bool true) ∧ Below w.heap.size w w' := by
  go_enter Try.func17, Try.ntmps17
  go_wp2_with fail
  refine (v7_any _ _).mono ?_
  rintro e wa ⟨rfl, hba⟩
  go_wp2_with fail
  refine (v7_any _ _).mono ?_
  rintro e wb ⟨rfl, hbb⟩
  have hB := hba.trans (hbb.mono hba.size)
  have hL := wake7_lies wb
  have hBw : Below wb.heap.size wb (wb.alloc (.cells #[.int .i64 2, .int .i64 0, .int .i64 0, .int .i64 0, .slice none 0 0, .int .i64 2, .int .i64 1, .int .i64 0, .int .i64 0, .slice none 0 0] 24)) := (Below.refl _ _).alloc (Nat.le_refl _) _
  clear hba hbb
  have hc := put_any wake7 wake7s _ _ (.slice none 0 0) hL (lies_nil _) (by decide) (by decide)
  rw [show wake7.putB wake7s = .mk 15 0 0 0 [.mk 1 3 0 0 [], varT 0] from by kernel_rfl] at hc
  go_wp2_with fail
  refine hc.mono ?_
  clear hc
  rintro e w3 ⟨s3, he, hl3, hb3⟩
  obtain ⟨a3, cap3, b3, hs3, ha3, p0, p1, p5, p6⟩ := two_kids hl3
  subst ha3
  subst hs3
  replace he : e = .returned (.agg #[.int .i64 15, .int .i64 0, .int .i64 0, .int .i64 0, .slice (some ⟨b3, 0, none⟩) 2 cap3]) := he
  subst he
  have hb4 : Below w3.heap.size w3 (w3.alloc (.cells #[.int .i64 15, .int .i64 0, .int .i64 0, .int .i64 0, .slice (some ⟨b3, 0, none⟩) 2 cap3] 24)) := (Below.refl _ _).alloc (Nat.le_refl _) _
  have hlt3 : b3 < w3.heap.size := World.block_lt_of_cell? _ _ p0
  have hB4 := hB.trans (((hBw.trans (hb3.mono hBw.size)).trans (hb4.mono (by have := hb3.size; have := hBw.size; omega))).mono hB.size)
  have HB4 := Lib.hid hB4
  clear hl3 hb3 hb4 hB hBw hL hB4
  go_wp2_with fail
  go_ret
  exact ⟨rfl, HB4.out⟩
end Go.Proofs.Ytmhmengbhdaodaa

/-! The walk of transhiplaw07.PutExact. -/
namespace Go.Proofs.Ytmhmengbhdaodaa
open Go.RowKit

theorem tens_and {v w' : World} {b0 b1 : Nat} {t u : Tm} {st su : Value} (h : Kept v w') (ht : Five v b0 t st) (hu : Five v b1 u su) : Kept v w' ∧ w'.cell? ⟨b0, 0, none⟩ = some (.int .i64 t.k) ∧ w'.cell? ⟨b0, 1, none⟩ = some (.int .i64 t.i) ∧ w'.cell? ⟨b0, 2, none⟩ = some (.int .i64 t.j) ∧ w'.cell? ⟨b0, 3, none⟩ = some (.int .i64 t.n) ∧ w'.cell? ⟨b0, 4, none⟩ = some (st) ∧ w'.cell? ⟨b1, 0, none⟩ = some (.int .i64 u.k) ∧ w'.cell? ⟨b1, 1, none⟩ = some (.int .i64 u.i) ∧ w'.cell? ⟨b1, 2, none⟩ = some (.int .i64 u.j) ∧ w'.cell? ⟨b1, 3, none⟩ = some (.int .i64 u.n) ∧ w'.cell? ⟨b1, 4, none⟩ = some (su) := by
  obtain ⟨t0, t1, t2, t3, t4⟩ := ht.keep h
  obtain ⟨u0, u1, u2, u3, u4⟩ := hu.keep h
  exact ⟨h, t0, t1, t2, t3, t4, u0, u1, u2, u3, u4⟩

set_option maxRecDepth 20000 in
set_option maxHeartbeats 16000000 in
theorem putExact_any (t u : Tm) (w : World) (s r : Value) (hl : Lies w t.kids s) (hm : Lies w u.kids r) : Calls Try.prog 4 #[tv t s, tv u r] w fun e w' => e = .returned (.bool true) ∧ Below w.heap.size w w' := by
  obtain ⟨a, cap, S, rfl, -⟩ := hl.out
  obtain ⟨a2, cap2, S2, rfl, -⟩ := hm.out
  have H0 := held2_start w t (.slice a t.kids.length cap) u (.slice a2 u.kids.length cap2)
  have HL := Lib.hid hl
  have HM := Lib.hid hm
  unfold tv
  clear hl hm
  go_enter Try.func4, Try.ntmps4
  go_wp2_with fail
  refine (great_any t _ _ 120 (held2_lies H0 HL.out) (by omega) (by omega)).mono ?_
  rintro e w1 ⟨g, rfl, hg, hb1⟩
  have H1 := held2_call H0 hb1
  obtain ⟨d0, d1, d2, d3, d4, e0, e1, e2, e3, e4⟩ := held2_cells H1
  have HG := Lib.hid hg
  clear hg hb1 H0
  cases g with
  | true =>
    go_wp2
    go_ret
    exact ⟨rfl, held2_below H1⟩
  | false =>
    have hz := (HG.out rfl).1
    clear HG
    go_wp2_with fail
    refine (great_any u _ _ 120 (held2_lies H1 HM.out) (by omega) (by omega)).mono ?_
    rintro e w2 ⟨g, rfl, hg, hb2⟩
    have H2 := held2_call H1 hb2
    have HG := Lib.hid hg
    clear hg hb2 H1 d0 d1 d2 d3 d4 e0 e1 e2 e3 e4
    obtain ⟨d0, d1, d2, d3, d4, e0, e1, e2, e3, e4⟩ := held2_cells H2
    cases g with
    | true =>
      go_wp2
      go_ret
      exact ⟨rfl, held2_below H2⟩
    | false =>
      have hz2 := (HG.out rfl).1
      clear HG
      have HDT := Lib.hid (show t.deep ≤ 100000 by have := deep_le_size t; omega)
      have HDU := Lib.hid (show u.deep ≤ 100000 by have := deep_le_size u; omega)
      have CP := refPutT_any t u w2 _ _ (held2_lies H2 HL.out) (held2_lies H2 HM.out) HDT.out HDU.out
      obtain ⟨U, hU⟩ : ∃ U, t.putB u = U := ⟨_, rfl⟩
      have HPU := Lib.hid hU
      rw [hU] at CP
      clear hU
      go_wp2_with fail
      refine CP.mono ?_
      clear CP
      rintro e w3 ⟨s3, rfl, hl3, hb3⟩
      obtain ⟨a3, cap3, rfl, -, -⟩ := hl3.out
      have H3 := held2_call H2 hb3
      have hs3 : w.heap.size < w3.heap.size := by have := Below.size (held2_first H3); simp at this; omega
      have hs3' : w.heap.size + 1 < w3.heap.size := by have := Below.size H3; simp at this; omega
      have H4 := held2_alloc H3 (.cells #[.int .i64 U.k, .int .i64 U.i, .int .i64 U.j, .int .i64 U.n, .slice a3 U.kids.length cap3] 24)
      have hqw := alloc_new w3 (.cells #[.int .i64 U.k, .int .i64 U.i, .int .i64 U.j, .int .i64 U.n, .slice a3 U.kids.length cap3] 24)
      have hlw : Lies (w3.alloc (.cells #[.int .i64 U.k, .int .i64 U.i, .int .i64 U.j, .int .i64 U.n, .slice a3 U.kids.length cap3] 24)) U.kids (.slice a3 U.kids.length cap3) := hl3.lies.keep ((Below.refl _ _).alloc (Nat.le_refl _) _)
      have hlt := held2_lies H4 HL.out
      have hlu := held2_lies H4 HM.out
      have hbv := held2_below H4
      clear d0 d1 d2 d3 d4 e0 e1 e2 e3 e4 hb3 hl3 H2 H3
      go_upto_region 4 with fail
      obtain ⟨d0, d1, d2, d3, d4, e0, e1, e2, e3, e4⟩ := held2_cells H4
      obtain ⟨gw, hgw⟩ : ∃ g, w3.heap.size = g := ⟨_, rfl⟩
      have HTC : Hid (Five (w3.alloc (.cells #[.int .i64 U.k, .int .i64 U.i, .int .i64 U.j, .int .i64 U.n, .slice a3 U.kids.length cap3] 24)) w.heap.size t (.slice a t.kids.length cap)) := Lib.hid ⟨d0, d1, d2, d3, d4⟩
      have HUC : Hid (Five (w3.alloc (.cells #[.int .i64 U.k, .int .i64 U.i, .int .i64 U.j, .int .i64 U.n, .slice a3 U.kids.length cap3] 24)) (w.heap.size + 1) u (.slice a2 u.kids.length cap2)) := Lib.hid ⟨e0, e1, e2, e3, e4⟩
      generalize w3.alloc (.cells #[.int .i64 U.k, .int .i64 U.i, .int .i64 U.j, .int .i64 U.n, .slice a3 U.kids.length cap3] 24) = V at hqw hlw hlt hlu hbv HTC HUC H4 d0 d1 d2 d3 d4 e0 e1 e2 e3 e4 ⊢
      rw [hgw] at hqw ⊢
      have HQW := Lib.hid hqw
      have HLW := Lib.hid hlw
      have HLT := Lib.hid hlt
      have HLU := Lib.hid hlu
      have HBV := Lib.hid hbv
      have hk0 := kept_start V
      clear hqw hlw hlt hlu hbv H4 hgw hs3 hs3'
      go_wp2_with fail
      refine wp_region_held_drew (S := fun w' => Kept V w' ∧ w'.cell? ⟨w.heap.size, 0, none⟩ = some (.int .i64 t.k) ∧ w'.cell? ⟨w.heap.size, 1, none⟩ = some (.int .i64 t.i) ∧ w'.cell? ⟨w.heap.size, 2, none⟩ = some (.int .i64 t.j) ∧ w'.cell? ⟨w.heap.size, 3, none⟩ = some (.int .i64 t.n) ∧ w'.cell? ⟨w.heap.size, 4, none⟩ = some (.slice a t.kids.length cap) ∧ w'.cell? ⟨w.heap.size + 1, 0, none⟩ = some (.int .i64 u.k) ∧ w'.cell? ⟨w.heap.size + 1, 1, none⟩ = some (.int .i64 u.i) ∧ w'.cell? ⟨w.heap.size + 1, 2, none⟩ = some (.int .i64 u.j) ∧ w'.cell? ⟨w.heap.size + 1, 3, none⟩ = some (.int .i64 u.n) ∧ w'.cell? ⟨w.heap.size + 1, 4, none⟩ = some (.slice a2 u.kids.length cap2)) (by kernel_rfl) ?_ (fun hHeld => ?_)
      · (try dsimp only)
        (((with_reducible refine tens_and ?_ HTC.out HUC.out); repeat (first | with_reducible assumption | with_reducible exact hk0 | with_reducible refine kept_drew ?_ | with_reducible refine kept_alloc ?_ _ | ((with_reducible refine kept_set ?_ ?hh _); (case hh => first | exact Nat.le_refl _ | (simp only; omega))))))
      refine wpAnyH_take (i := 0) (oi := { dst := some 18, op := Go.Op.load 24 (Go.Operand.tmp 2), type := 24, pos := "law.go:37", after := #[], guard := none }) (v := ?_) rfl (by kernel_rfl) (by kernel_rfl) (by kernel_rfl) (fun _ _ _ h => h) (Or.inl ⟨by rfl, ?_⟩) (by assumption) ?_
      rotate_left 1
      · ((intro w hSw; (try dsimp only at hSw); go_simp) <;> with_reducible rfl)
      (try simp only [Act.put, List.setIfInBounds_toArray, List.set_cons_zero, List.set_cons_succ])
      refine wpAnyH_take (i := 2) (oi := { dst := some 20, op := Go.Op.load 24 (Go.Operand.tmp 3), type := 24, pos := "law.go:37", after := #[], guard := none }) (v := ?_) rfl (by kernel_rfl) (by kernel_rfl) (by kernel_rfl) (fun _ _ _ h => h) (Or.inl ⟨by rfl, ?_⟩) (by assumption) ?_
      rotate_left 1
      · ((intro w hSw; (try dsimp only at hSw); go_simp) <;> with_reducible rfl)
      (try simp only [Act.put, List.setIfInBounds_toArray, List.set_cons_zero, List.set_cons_succ])
      refine wpAnyH_ready (rs := [1, 4, 5]) (by kernel_rfl) (by simp) ?_
      refine AllReadyH.cons (o := { dst := some 19, op := Go.Op.call { callee := Go.Callee.value (Go.Operand.func 10), args := #[Go.Operand.tmp 18], argTypes := #[24] }, type := 24, pos := "law.go:37", after := #[{ on := 0, ground := Go.Ground.data }], guard := none }) rfl (fun K hK => ?_) ?_
      · go_simp
        (go_at_call 10; have hS := hHeld.1; have hnc := Below.size hS; refine (twin_any t _ _ (kept_lies hS HLT.out) (by omega)).mono ?_; rintro e wa ⟨s6, rfl, hl6, hbn⟩; obtain ⟨a6, cap6, rfl, -, -⟩ := hl6.out; have hl6 := hl6.from (B' := V.heap.size + 0) (by simp); have hha := kept_call hS hbn; have hsa : V.heap.size + 0 ≤ wa.heap.size := (by have := hbn.size; first | omega | (simp at this; omega)); clear hbn hS)
        refine hK.out _ _ ?_ (fun hHeld => ?_)
        · (try dsimp only)
          (((with_reducible refine tens_and ?_ HTC.out HUC.out); repeat (first | with_reducible assumption | with_reducible exact hk0 | with_reducible refine kept_drew ?_ | with_reducible refine kept_alloc ?_ _ | ((with_reducible refine kept_set ?_ ?hh _); (case hh => first | exact Nat.le_refl _ | (simp only; omega))))))
        clear hK K
        (try simp only [Act.put, List.setIfInBounds_toArray, List.set_cons_zero, List.set_cons_succ])
        refine wpAnyH_ready (rs := [3, 4, 5]) (by kernel_rfl) (by simp) ?_
        refine AllReadyH.cons (o := { dst := some 21, op := Go.Op.call { callee := Go.Callee.value (Go.Operand.func 10), args := #[Go.Operand.tmp 20], argTypes := #[24] }, type := 24, pos := "law.go:37", after := #[{ on := 2, ground := Go.Ground.data }, { on := 1, ground := Go.Ground.chain }], guard := none }) rfl (fun K hK => ?_) ?_
        · go_simp
          (go_at_call 10; have hS := hHeld.1; refine (twin_any u _ _ (kept_lies hS HLU.out) (by omega)).mono ?_; rintro e wb ⟨s7, rfl, hl7, hbn⟩; obtain ⟨a7, cap7, rfl, -, -⟩ := hl7.out; have hl7 := hl7.from (B' := wa.heap.size + 0) (by simp); have hhb := kept_call hS hbn; have hsb : wa.heap.size + 0 ≤ wb.heap.size := (by have := hbn.size; first | omega | (simp at this; omega)); have HAB : Below wa.heap.size wa wb := by first | exact hbn | exact Below.trans (Below.refl _ _) hbn; clear hbn hS)
          refine hK.out _ _ ?_ (fun hHeld => ?_)
          · (try dsimp only)
            (((with_reducible refine tens_and ?_ HTC.out HUC.out); repeat (first | with_reducible assumption | with_reducible exact hk0 | with_reducible refine kept_drew ?_ | with_reducible refine kept_alloc ?_ _ | ((with_reducible refine kept_set ?_ ?hh _); (case hh => first | exact Nat.le_refl _ | (simp only; omega))))))
          clear hK K
          (try simp only [Act.put, List.setIfInBounds_toArray, List.set_cons_zero, List.set_cons_succ])
          refine wpAnyH_ready (rs := [4, 5]) (by kernel_rfl) (by simp) ?_
          refine AllReadyH.cons (o := { dst := some 6, op := Go.Op.alloc 24, type := 0, pos := "law.go:37", after := #[], guard := none }) rfl (fun K hK => ?_) ?_
          · go_simp
            refine hK.out _ _ ?_ (fun hHeld => ?_)
            · (try dsimp only)
              (((with_reducible refine tens_and ?_ HTC.out HUC.out); repeat (first | with_reducible assumption | with_reducible exact hk0 | with_reducible refine kept_drew ?_ | with_reducible refine kept_alloc ?_ _ | ((with_reducible refine kept_set ?_ ?hh _); (case hh => first | exact Nat.le_refl _ | (simp only; omega))))))
            clear hK K
            (try simp only [Act.put, List.setIfInBounds_toArray, List.set_cons_zero, List.set_cons_succ])
            refine wpAnyH_ready (rs := [5]) (by kernel_rfl) (by simp) ?_
            refine AllReadyH.cons (o := { dst := some 7, op := Go.Op.alloc 24, type := 0, pos := "law.go:37", after := #[], guard := none }) rfl (fun K hK => ?_) ?_
            · go_simp
              refine hK.out _ _ ?_ (fun hHeld => ?_)
              · (try dsimp only)
                (((with_reducible refine tens_and ?_ HTC.out HUC.out); repeat (first | with_reducible assumption | with_reducible exact hk0 | with_reducible refine kept_drew ?_ | with_reducible refine kept_alloc ?_ _ | ((with_reducible refine kept_set ?_ ?hh _); (case hh => first | exact Nat.le_refl _ | (simp only; omega))))))
              clear hK K
              (try simp only [Act.put, List.setIfInBounds_toArray, List.set_cons_zero, List.set_cons_succ])
              refine wpAnyH_ready (rs := [6]) (by kernel_rfl) (by simp) ?_
              refine AllReadyH.cons (o := { dst := none, op := Go.Op.store 24 (Go.Operand.tmp 6) (Go.Operand.tmp 19), type := 0, pos := "law.go:37", after := #[{ on := 4, ground := Go.Ground.data }, { on := 1, ground := Go.Ground.data }, { on := 3, ground := Go.Ground.chain }, { on := 0, ground := Go.Ground.phase }, { on := 1, ground := Go.Ground.phase }, { on := 2, ground := Go.Ground.textOnly Go.Departure.lateStores }, { on := 3, ground := Go.Ground.textOnly Go.Departure.lateStoresUnsure }, { on := 4, ground := Go.Ground.phase }, { on := 5, ground := Go.Ground.phase }], guard := none }) rfl (fun K hK => ?_) ?_
              · go_simp
                refine hK.out _ _ ?_ (fun hHeld => ?_)
                · (try dsimp only)
                  (((with_reducible refine tens_and ?_ HTC.out HUC.out); repeat (first | with_reducible assumption | with_reducible exact hk0 | with_reducible refine kept_drew ?_ | with_reducible refine kept_alloc ?_ _ | ((with_reducible refine kept_set ?_ ?hh _); (case hh => first | exact Nat.le_refl _ | (simp only; omega))))))
                clear hK K
                (try simp only [Act.put, List.setIfInBounds_toArray, List.set_cons_zero, List.set_cons_succ])
                refine wpAnyH_ready (rs := [7]) (by kernel_rfl) (by simp) ?_
                refine AllReadyH.cons (o := { dst := none, op := Go.Op.store 24 (Go.Operand.tmp 7) (Go.Operand.tmp 21), type := 0, pos := "law.go:37", after := #[{ on := 5, ground := Go.Ground.data }, { on := 3, ground := Go.Ground.data }, { on := 6, ground := Go.Ground.chain }, { on := 0, ground := Go.Ground.phase }, { on := 1, ground := Go.Ground.phase }, { on := 2, ground := Go.Ground.phase }, { on := 3, ground := Go.Ground.phase }, { on := 4, ground := Go.Ground.phase }, { on := 5, ground := Go.Ground.phase }, { on := 6, ground := Go.Ground.phase }], guard := none }) rfl (fun K hK => ?_) ?_
                · go_simp
                  refine hK.out _ _ ?_ (fun hHeld => ?_)
                  · (try dsimp only)
                    (((with_reducible refine tens_and ?_ HTC.out HUC.out); repeat (first | with_reducible assumption | with_reducible exact hk0 | with_reducible refine kept_drew ?_ | with_reducible refine kept_alloc ?_ _ | ((with_reducible refine kept_set ?_ ?hh _); (case hh => first | exact Nat.le_refl _ | (simp only; omega))))))
                  clear hK K
                  (try simp only [Act.put, List.setIfInBounds_toArray, List.set_cons_zero, List.set_cons_succ])
                  refine wpAnyH_done (by kernel_rfl) ?_ _
                  have Q6 : ((wb.alloc (.cells #[.int .i64 t.k, .int .i64 t.i, .int .i64 t.j, .int .i64 t.n, .slice a6 t.kids.length cap6] 24)).alloc (.cells #[.int .i64 u.k, .int .i64 u.i, .int .i64 u.j, .int .i64 u.n, .slice a7 u.kids.length cap7] 24)).heap[wb.heap.size]? = some (boxOf t (.slice a6 t.kids.length cap6)) := (Below.heap_alloc _ _ _ (by simp)).trans (alloc_new _ _)
                  have Q7 : ((wb.alloc (.cells #[.int .i64 t.k, .int .i64 t.i, .int .i64 t.j, .int .i64 t.n, .slice a6 t.kids.length cap6] 24)).alloc (.cells #[.int .i64 u.k, .int .i64 u.i, .int .i64 u.j, .int .i64 u.n, .slice a7 u.kids.length cap7] 24)).heap[wb.heap.size + 1]? = some (boxOf u (.slice a7 u.kids.length cap7)) := heap_alloc2_new _ _ _
                  have hL6 : Lies ((wb.alloc (.cells #[.int .i64 t.k, .int .i64 t.i, .int .i64 t.j, .int .i64 t.n, .slice a6 t.kids.length cap6] 24)).alloc (.cells #[.int .i64 u.k, .int .i64 u.i, .int .i64 u.j, .int .i64 u.n, .slice a7 u.kids.length cap7] 24)) t.kids (.slice a6 t.kids.length cap6) := (hl6.keep (Q := fun _ => True) (fun b hp hlt => by have h0 := hp.1; exact (Below.heap_alloc _ _ _ (by simp <;> omega)).trans ((Below.heap_alloc _ _ _ (by omega)).trans (HAB.block b hlt))) (fun _ _ _ => trivial)).lies
                  have hL7 : Lies ((wb.alloc (.cells #[.int .i64 t.k, .int .i64 t.i, .int .i64 t.j, .int .i64 t.n, .slice a6 t.kids.length cap6] 24)).alloc (.cells #[.int .i64 u.k, .int .i64 u.i, .int .i64 u.j, .int .i64 u.n, .slice a7 u.kids.length cap7] 24)) u.kids (.slice a7 u.kids.length cap7) := (hl7.keep (Q := fun _ => True) (fun b hp hlt => by have h0 := hp.1; exact (Below.heap_alloc _ _ _ (by simp <;> omega)).trans ((Below.heap_alloc _ _ _ (by omega)).trans rfl)) (fun _ _ _ => trivial)).lies
                  have hKW : Kept V ((wb.alloc (.cells #[.int .i64 t.k, .int .i64 t.i, .int .i64 t.j, .int .i64 t.n, .slice a6 t.kids.length cap6] 24)).alloc (.cells #[.int .i64 u.k, .int .i64 u.i, .int .i64 u.j, .int .i64 u.n, .slice a7 u.kids.length cap7] 24)) := (hhb.alloc hhb.size _).alloc (by simp; have := hhb.size; omega) _
                  clear hHeld hl6 hl7 HAB
                  generalize ((wb.alloc (.cells #[.int .i64 t.k, .int .i64 t.i, .int .i64 t.j, .int .i64 t.n, .slice a6 t.kids.length cap6] 24)).alloc (.cells #[.int .i64 u.k, .int .i64 u.i, .int .i64 u.j, .int .i64 u.n, .slice a7 u.kids.length cap7] 24)) = W at Q6 Q7 hL6 hL7 hKW ⊢
                  obtain ⟨g7, hg7⟩ : ∃ g, wb.heap.size + 1 = g := ⟨_, rfl⟩
                  rw [hg7] at Q7 ⊢
                  obtain ⟨g6, hg6⟩ : ∃ g, wb.heap.size = g := ⟨_, rfl⟩
                  rw [hg6] at Q6 ⊢
                  have HQ6 := Lib.hid Q6
                  have HQ7 := Lib.hid Q7
                  have HL6 := Lib.hid hL6
                  have HL7 := Lib.hid hL7
                  have HKW := Lib.hid hKW
                  clear Q6 Q7 hL6 hL7 hKW hg6 hg7
                  obtain ⟨m0, m1, m2, m3, m4⟩ := five_cells HQ6.out
                  obtain ⟨n0, n1, n2, n3, n4⟩ := five_cells HQ7.out
                  go_wp2_with fail
                  have CP := put_any t u W _ _ HL6.out HL7.out HDT.out HDU.out
                  rw [HPU.out] at CP
                  refine CP.mono ?_
                  clear CP m0 m1 m2 m3 m4 n0 n1 n2 n3 n4
                  rintro e w7 ⟨s8, rfl, hl8, hb7⟩
                  obtain ⟨a8, cap8, rfl, -, -⟩ := hl8.out
                  have qw7 := keep_block hb7 (block_lt (keep_block HKW.out (block_lt HQW.out) HQW.out)) (keep_block HKW.out (block_lt HQW.out) HQW.out)
                  obtain ⟨x0, x1, x2, x3, x4⟩ := five_cells qw7
                  have hgw7 := block_lt qw7
                  have hb8 : Below w7.heap.size w7 (w7.alloc (.cells #[.int .i64 U.k, .int .i64 U.i, .int .i64 U.j, .int .i64 U.n, .slice a8 U.kids.length cap8] 24)) := (Below.refl _ _).alloc (Nat.le_refl _) _
                  have HB7 := Lib.hid hb7
                  have HL8 := Lib.hid hl8
                  have HW7 := Lib.hid ((HLW.out.keep HKW.out).keep hb7)
                  clear hb7 hl8 qw7
                  go_wp2_with fail
                  refine (keepsame_eq U _ _ _ (HL8.out.lies.keep hb8) (HW7.out.keep hb8)).mono ?_
                  rintro e w9 ⟨rfl, hb9⟩
                  have hb79 : Below w7.heap.size w7 w9 := hb8.trans (hb9.mono hb8.size)
                  have r9 := keep_block hb9 (block_lt (alloc_new w7 _)) (alloc_new w7 _)
                  obtain ⟨z0, z1, z2, z3, z4⟩ := five_cells r9
                  have hsp := HL8.out.keep (w' := w9) (Q := fun b => b < w7.heap.size ∧ Own W.heap.size w9 b) (fun b _ hlt => hb79.block b hlt) (fun b hb hlt => ⟨hlt, hb.later hb79⟩)
                  have HSP := Lib.hid (spoil_any (fun b => b < w7.heap.size ∧ Own W.heap.size w9 b) w7.heap.size (fun b hb => hb.1) U.size U w9 _ (Nat.le_refl _) hsp (fun b hb => hb.2.2) hb79.size)
                  have hW9 : Below W.heap.size W w9 := HB7.out.trans (hb79.mono HB7.out.size)
                  have HW9 := Lib.hid hW9
                  clear hb79 hb8 hb9 hsp r9 x0 x1 x2 x3 x4 hW9
                  go_wp2_with fail
                  refine HSP.out.mono ?_
                  rintro e w10 ⟨rfl, hshr⟩
                  have hB10 : Below W.heap.size w9 w10 := hshr.below (fun b hb => hb.2.1) HW9.out.size
                  have hW10 : Kept W w10 := HW9.out.trans hB10
                  have HW10 := Lib.hid hW10
                  have H5t := Lib.hid (HTC.out.keep HKW.out)
                  have H5u := Lib.hid (HUC.out.keep HKW.out)
                  have HLTW := Lib.hid (HLT.out.keep HKW.out)
                  have HLUW := Lib.hid (HLU.out.keep HKW.out)
                  have H56 : Hid (Five W g6 t (.slice a6 t.kids.length cap6)) := Lib.hid (five_cells HQ6.out)
                  have H57 : Hid (Five W g7 u (.slice a7 u.kids.length cap7)) := Lib.hid (five_cells HQ7.out)
                  clear hshr hB10 HSP z0 z1 z2 z3 z4
                  obtain ⟨d0, d1, d2, d3, d4⟩ := H5t.out.keep hW10
                  obtain ⟨m0, m1, m2, m3, m4⟩ := H56.out.keep hW10
                  go_wp2_with fail
                  refine (keepsame_eq t _ _ _ (HL6.out.keep hW10) (HLTW.out.keep hW10)).mono ?_
                  rintro e w11 ⟨rfl, hb11⟩
                  have hW11 : Kept W w11 := kept_call hW10 hb11
                  clear hb11 d0 d1 d2 d3 d4 m0 m1 m2 m3 m4
                  obtain ⟨d0, d1, d2, d3, d4⟩ := H5u.out.keep hW11
                  obtain ⟨m0, m1, m2, m3, m4⟩ := H57.out.keep hW11
                  go_wp2_with fail
                  refine (keepsame_eq u _ _ _ (HL7.out.keep hW11) (HLUW.out.keep hW11)).mono ?_
                  rintro e w12 ⟨rfl, hb12⟩
                  have hW12 : Kept W w12 := kept_call hW11 hb12
                  go_wp2_with fail
                  refine (wakes7_any _).mono ?_
                  rintro e w13 ⟨rfl, hb13⟩
                  have hW13 : Kept W w13 := kept_call hW12 hb13
                  go_wp2
                  go_ret
                  exact ⟨rfl, HBV.out.trans ((HKW.out.trans (hW13.mono HKW.out.size)).mono HBV.out.size)⟩
                exact AllReadyH.nil
              exact AllReadyH.nil
            exact AllReadyH.nil
          refine AllReadyH.cons (o := { dst := some 7, op := Go.Op.alloc 24, type := 0, pos := "law.go:37", after := #[], guard := none }) rfl (fun K hK => ?_) ?_
          · go_simp
            refine hK.out _ _ ?_ (fun hHeld => ?_)
            · (try dsimp only)
              (((with_reducible refine tens_and ?_ HTC.out HUC.out); repeat (first | with_reducible assumption | with_reducible exact hk0 | with_reducible refine kept_drew ?_ | with_reducible refine kept_alloc ?_ _ | ((with_reducible refine kept_set ?_ ?hh _); (case hh => first | exact Nat.le_refl _ | (simp only; omega))))))
            clear hK K
            (try simp only [Act.put, List.setIfInBounds_toArray, List.set_cons_zero, List.set_cons_succ])
            refine wpAnyH_ready (rs := [4]) (by kernel_rfl) (by simp) ?_
            refine AllReadyH.cons (o := { dst := some 6, op := Go.Op.alloc 24, type := 0, pos := "law.go:37", after := #[], guard := none }) rfl (fun K hK => ?_) ?_
            · go_simp
              refine hK.out _ _ ?_ (fun hHeld => ?_)
              · (try dsimp only)
                (((with_reducible refine tens_and ?_ HTC.out HUC.out); repeat (first | with_reducible assumption | with_reducible exact hk0 | with_reducible refine kept_drew ?_ | with_reducible refine kept_alloc ?_ _ | ((with_reducible refine kept_set ?_ ?hh _); (case hh => first | exact Nat.le_refl _ | (simp only; omega))))))
              clear hK K
              (try simp only [Act.put, List.setIfInBounds_toArray, List.set_cons_zero, List.set_cons_succ])
              refine wpAnyH_ready (rs := [6]) (by kernel_rfl) (by simp) ?_
              refine AllReadyH.cons (o := { dst := none, op := Go.Op.store 24 (Go.Operand.tmp 6) (Go.Operand.tmp 19), type := 0, pos := "law.go:37", after := #[{ on := 4, ground := Go.Ground.data }, { on := 1, ground := Go.Ground.data }, { on := 3, ground := Go.Ground.chain }, { on := 0, ground := Go.Ground.phase }, { on := 1, ground := Go.Ground.phase }, { on := 2, ground := Go.Ground.textOnly Go.Departure.lateStores }, { on := 3, ground := Go.Ground.textOnly Go.Departure.lateStoresUnsure }, { on := 4, ground := Go.Ground.phase }, { on := 5, ground := Go.Ground.phase }], guard := none }) rfl (fun K hK => ?_) ?_
              · go_simp
                refine hK.out _ _ ?_ (fun hHeld => ?_)
                · (try dsimp only)
                  (((with_reducible refine tens_and ?_ HTC.out HUC.out); repeat (first | with_reducible assumption | with_reducible exact hk0 | with_reducible refine kept_drew ?_ | with_reducible refine kept_alloc ?_ _ | ((with_reducible refine kept_set ?_ ?hh _); (case hh => first | exact Nat.le_refl _ | (simp only; omega))))))
                clear hK K
                (try simp only [Act.put, List.setIfInBounds_toArray, List.set_cons_zero, List.set_cons_succ])
                refine wpAnyH_ready (rs := [7]) (by kernel_rfl) (by simp) ?_
                refine AllReadyH.cons (o := { dst := none, op := Go.Op.store 24 (Go.Operand.tmp 7) (Go.Operand.tmp 21), type := 0, pos := "law.go:37", after := #[{ on := 5, ground := Go.Ground.data }, { on := 3, ground := Go.Ground.data }, { on := 6, ground := Go.Ground.chain }, { on := 0, ground := Go.Ground.phase }, { on := 1, ground := Go.Ground.phase }, { on := 2, ground := Go.Ground.phase }, { on := 3, ground := Go.Ground.phase }, { on := 4, ground := Go.Ground.phase }, { on := 5, ground := Go.Ground.phase }, { on := 6, ground := Go.Ground.phase }], guard := none }) rfl (fun K hK => ?_) ?_
                · go_simp
                  refine hK.out _ _ ?_ (fun hHeld => ?_)
                  · (try dsimp only)
                    (((with_reducible refine tens_and ?_ HTC.out HUC.out); repeat (first | with_reducible assumption | with_reducible exact hk0 | with_reducible refine kept_drew ?_ | with_reducible refine kept_alloc ?_ _ | ((with_reducible refine kept_set ?_ ?hh _); (case hh => first | exact Nat.le_refl _ | (simp only; omega))))))
                  clear hK K
                  (try simp only [Act.put, List.setIfInBounds_toArray, List.set_cons_zero, List.set_cons_succ])
                  refine wpAnyH_done (by kernel_rfl) ?_ _
                  have Q6 : ((wb.alloc (.cells #[.int .i64 u.k, .int .i64 u.i, .int .i64 u.j, .int .i64 u.n, .slice a7 u.kids.length cap7] 24)).alloc (.cells #[.int .i64 t.k, .int .i64 t.i, .int .i64 t.j, .int .i64 t.n, .slice a6 t.kids.length cap6] 24)).heap[wb.heap.size + 1]? = some (boxOf t (.slice a6 t.kids.length cap6)) := heap_alloc2_new _ _ _
                  have Q7 : ((wb.alloc (.cells #[.int .i64 u.k, .int .i64 u.i, .int .i64 u.j, .int .i64 u.n, .slice a7 u.kids.length cap7] 24)).alloc (.cells #[.int .i64 t.k, .int .i64 t.i, .int .i64 t.j, .int .i64 t.n, .slice a6 t.kids.length cap6] 24)).heap[wb.heap.size]? = some (boxOf u (.slice a7 u.kids.length cap7)) := (Below.heap_alloc _ _ _ (by simp)).trans (alloc_new _ _)
                  have hL6 : Lies ((wb.alloc (.cells #[.int .i64 u.k, .int .i64 u.i, .int .i64 u.j, .int .i64 u.n, .slice a7 u.kids.length cap7] 24)).alloc (.cells #[.int .i64 t.k, .int .i64 t.i, .int .i64 t.j, .int .i64 t.n, .slice a6 t.kids.length cap6] 24)) t.kids (.slice a6 t.kids.length cap6) := (hl6.keep (Q := fun _ => True) (fun b hp hlt => by have h0 := hp.1; exact (Below.heap_alloc _ _ _ (by simp <;> omega)).trans ((Below.heap_alloc _ _ _ (by omega)).trans (HAB.block b hlt))) (fun _ _ _ => trivial)).lies
                  have hL7 : Lies ((wb.alloc (.cells #[.int .i64 u.k, .int .i64 u.i, .int .i64 u.j, .int .i64 u.n, .slice a7 u.kids.length cap7] 24)).alloc (.cells #[.int .i64 t.k, .int .i64 t.i, .int .i64 t.j, .int .i64 t.n, .slice a6 t.kids.length cap6] 24)) u.kids (.slice a7 u.kids.length cap7) := (hl7.keep (Q := fun _ => True) (fun b hp hlt => by have h0 := hp.1; exact (Below.heap_alloc _ _ _ (by simp <;> omega)).trans ((Below.heap_alloc _ _ _ (by omega)).trans rfl)) (fun _ _ _ => trivial)).lies
                  have hKW : Kept V ((wb.alloc (.cells #[.int .i64 u.k, .int .i64 u.i, .int .i64 u.j, .int .i64 u.n, .slice a7 u.kids.length cap7] 24)).alloc (.cells #[.int .i64 t.k, .int .i64 t.i, .int .i64 t.j, .int .i64 t.n, .slice a6 t.kids.length cap6] 24)) := (hhb.alloc hhb.size _).alloc (by simp; have := hhb.size; omega) _
                  clear hHeld hl6 hl7 HAB
                  generalize ((wb.alloc (.cells #[.int .i64 u.k, .int .i64 u.i, .int .i64 u.j, .int .i64 u.n, .slice a7 u.kids.length cap7] 24)).alloc (.cells #[.int .i64 t.k, .int .i64 t.i, .int .i64 t.j, .int .i64 t.n, .slice a6 t.kids.length cap6] 24)) = W at Q6 Q7 hL6 hL7 hKW ⊢
                  obtain ⟨g6, hg6⟩ : ∃ g, wb.heap.size + 1 = g := ⟨_, rfl⟩
                  rw [hg6] at Q6 ⊢
                  obtain ⟨g7, hg7⟩ : ∃ g, wb.heap.size = g := ⟨_, rfl⟩
                  rw [hg7] at Q7 ⊢
                  have HQ6 := Lib.hid Q6
                  have HQ7 := Lib.hid Q7
                  have HL6 := Lib.hid hL6
                  have HL7 := Lib.hid hL7
                  have HKW := Lib.hid hKW
                  clear Q6 Q7 hL6 hL7 hKW hg6 hg7
                  obtain ⟨m0, m1, m2, m3, m4⟩ := five_cells HQ6.out
                  obtain ⟨n0, n1, n2, n3, n4⟩ := five_cells HQ7.out
                  go_wp2_with fail
                  have CP := put_any t u W _ _ HL6.out HL7.out HDT.out HDU.out
                  rw [HPU.out] at CP
                  refine CP.mono ?_
                  clear CP m0 m1 m2 m3 m4 n0 n1 n2 n3 n4
                  rintro e w7 ⟨s8, rfl, hl8, hb7⟩
                  obtain ⟨a8, cap8, rfl, -, -⟩ := hl8.out
                  have qw7 := keep_block hb7 (block_lt (keep_block HKW.out (block_lt HQW.out) HQW.out)) (keep_block HKW.out (block_lt HQW.out) HQW.out)
                  obtain ⟨x0, x1, x2, x3, x4⟩ := five_cells qw7
                  have hgw7 := block_lt qw7
                  have hb8 : Below w7.heap.size w7 (w7.alloc (.cells #[.int .i64 U.k, .int .i64 U.i, .int .i64 U.j, .int .i64 U.n, .slice a8 U.kids.length cap8] 24)) := (Below.refl _ _).alloc (Nat.le_refl _) _
                  have HB7 := Lib.hid hb7
                  have HL8 := Lib.hid hl8
                  have HW7 := Lib.hid ((HLW.out.keep HKW.out).keep hb7)
                  clear hb7 hl8 qw7
                  go_wp2_with fail
                  refine (keepsame_eq U _ _ _ (HL8.out.lies.keep hb8) (HW7.out.keep hb8)).mono ?_
                  rintro e w9 ⟨rfl, hb9⟩
                  have hb79 : Below w7.heap.size w7 w9 := hb8.trans (hb9.mono hb8.size)
                  have r9 := keep_block hb9 (block_lt (alloc_new w7 _)) (alloc_new w7 _)
                  obtain ⟨z0, z1, z2, z3, z4⟩ := five_cells r9
                  have hsp := HL8.out.keep (w' := w9) (Q := fun b => b < w7.heap.size ∧ Own W.heap.size w9 b) (fun b _ hlt => hb79.block b hlt) (fun b hb hlt => ⟨hlt, hb.later hb79⟩)
                  have HSP := Lib.hid (spoil_any (fun b => b < w7.heap.size ∧ Own W.heap.size w9 b) w7.heap.size (fun b hb => hb.1) U.size U w9 _ (Nat.le_refl _) hsp (fun b hb => hb.2.2) hb79.size)
                  have hW9 : Below W.heap.size W w9 := HB7.out.trans (hb79.mono HB7.out.size)
                  have HW9 := Lib.hid hW9
                  clear hb79 hb8 hb9 hsp r9 x0 x1 x2 x3 x4 hW9
                  go_wp2_with fail
                  refine HSP.out.mono ?_
                  rintro e w10 ⟨rfl, hshr⟩
                  have hB10 : Below W.heap.size w9 w10 := hshr.below (fun b hb => hb.2.1) HW9.out.size
                  have hW10 : Kept W w10 := HW9.out.trans hB10
                  have HW10 := Lib.hid hW10
                  have H5t := Lib.hid (HTC.out.keep HKW.out)
                  have H5u := Lib.hid (HUC.out.keep HKW.out)
                  have HLTW := Lib.hid (HLT.out.keep HKW.out)
                  have HLUW := Lib.hid (HLU.out.keep HKW.out)
                  have H56 : Hid (Five W g6 t (.slice a6 t.kids.length cap6)) := Lib.hid (five_cells HQ6.out)
                  have H57 : Hid (Five W g7 u (.slice a7 u.kids.length cap7)) := Lib.hid (five_cells HQ7.out)
                  clear hshr hB10 HSP z0 z1 z2 z3 z4
                  obtain ⟨d0, d1, d2, d3, d4⟩ := H5t.out.keep hW10
                  obtain ⟨m0, m1, m2, m3, m4⟩ := H56.out.keep hW10
                  go_wp2_with fail
                  refine (keepsame_eq t _ _ _ (HL6.out.keep hW10) (HLTW.out.keep hW10)).mono ?_
                  rintro e w11 ⟨rfl, hb11⟩
                  have hW11 : Kept W w11 := kept_call hW10 hb11
                  clear hb11 d0 d1 d2 d3 d4 m0 m1 m2 m3 m4
                  obtain ⟨d0, d1, d2, d3, d4⟩ := H5u.out.keep hW11
                  obtain ⟨m0, m1, m2, m3, m4⟩ := H57.out.keep hW11
                  go_wp2_with fail
                  refine (keepsame_eq u _ _ _ (HL7.out.keep hW11) (HLUW.out.keep hW11)).mono ?_
                  rintro e w12 ⟨rfl, hb12⟩
                  have hW12 : Kept W w12 := kept_call hW11 hb12
                  go_wp2_with fail
                  refine (wakes7_any _).mono ?_
                  rintro e w13 ⟨rfl, hb13⟩
                  have hW13 : Kept W w13 := kept_call hW12 hb13
                  go_wp2
                  go_ret
                  exact ⟨rfl, HBV.out.trans ((HKW.out.trans (hW13.mono HKW.out.size)).mono HBV.out.size)⟩
                exact AllReadyH.nil
              exact AllReadyH.nil
            exact AllReadyH.nil
          exact AllReadyH.nil
        refine AllReadyH.cons (o := { dst := some 6, op := Go.Op.alloc 24, type := 0, pos := "law.go:37", after := #[], guard := none }) rfl (fun K hK => ?_) ?_
        · go_simp
          refine hK.out _ _ ?_ (fun hHeld => ?_)
          · (try dsimp only)
            (((with_reducible refine tens_and ?_ HTC.out HUC.out); repeat (first | with_reducible assumption | with_reducible exact hk0 | with_reducible refine kept_drew ?_ | with_reducible refine kept_alloc ?_ _ | ((with_reducible refine kept_set ?_ ?hh _); (case hh => first | exact Nat.le_refl _ | (simp only; omega))))))
          clear hK K
          (try simp only [Act.put, List.setIfInBounds_toArray, List.set_cons_zero, List.set_cons_succ])
          have hZ6 : (wa.alloc zeroObj).heap[wa.heap.size]? = some zeroObj := alloc_new _ _
          refine wpAnyH_ready (rs := [3, 5]) (by kernel_rfl) (by simp) ?_
          refine AllReadyH.cons (o := { dst := some 21, op := Go.Op.call { callee := Go.Callee.value (Go.Operand.func 10), args := #[Go.Operand.tmp 20], argTypes := #[24] }, type := 24, pos := "law.go:37", after := #[{ on := 2, ground := Go.Ground.data }, { on := 1, ground := Go.Ground.chain }], guard := none }) rfl (fun K hK => ?_) ?_
          · go_simp
            (go_at_call 10; have hS := hHeld.1; refine (twin_any u _ _ (kept_lies hS HLU.out) (by omega)).mono ?_; rintro e wb ⟨s7, rfl, hl7, hbn⟩; obtain ⟨a7, cap7, rfl, -, -⟩ := hl7.out; have hl7 := hl7.from (B' := wa.heap.size + 1) (by simp); have hhb := kept_call hS hbn; have hsb : wa.heap.size + 1 ≤ wb.heap.size := (by have := hbn.size; first | omega | (simp at this; omega)); have hZ6 := keep_block hbn (block_lt hZ6) hZ6; have hb6 := block_lt hZ6; obtain ⟨⟨c60, c61, c62, c63, c64⟩, f60, f61, f62, f63, f64⟩ := And.intro (five_cells hZ6) (five_free hZ6); have HAB : Below wa.heap.size wa wb := ((Below.refl _ _).alloc (Nat.le_refl _) _).trans (hbn.mono (by simp)); clear hbn hS)
            refine hK.out _ _ ?_ (fun hHeld => ?_)
            · (try dsimp only)
              (((with_reducible refine tens_and ?_ HTC.out HUC.out); repeat (first | with_reducible assumption | with_reducible exact hk0 | with_reducible refine kept_drew ?_ | with_reducible refine kept_alloc ?_ _ | ((with_reducible refine kept_set ?_ ?hh _); (case hh => first | exact Nat.le_refl _ | (simp only; omega))))))
            clear hK K
            (try simp only [Act.put, List.setIfInBounds_toArray, List.set_cons_zero, List.set_cons_succ])
            refine wpAnyH_ready (rs := [5]) (by kernel_rfl) (by simp) ?_
            refine AllReadyH.cons (o := { dst := some 7, op := Go.Op.alloc 24, type := 0, pos := "law.go:37", after := #[], guard := none }) rfl (fun K hK => ?_) ?_
            · go_simp
              refine hK.out _ _ ?_ (fun hHeld => ?_)
              · (try dsimp only)
                (((with_reducible refine tens_and ?_ HTC.out HUC.out); repeat (first | with_reducible assumption | with_reducible exact hk0 | with_reducible refine kept_drew ?_ | with_reducible refine kept_alloc ?_ _ | ((with_reducible refine kept_set ?_ ?hh _); (case hh => first | exact Nat.le_refl _ | (simp only; omega))))))
              clear hK K
              (try simp only [Act.put, List.setIfInBounds_toArray, List.set_cons_zero, List.set_cons_succ])
              refine wpAnyH_ready (rs := [6]) (by kernel_rfl) (by simp) ?_
              refine AllReadyH.cons (o := { dst := none, op := Go.Op.store 24 (Go.Operand.tmp 6) (Go.Operand.tmp 19), type := 0, pos := "law.go:37", after := #[{ on := 4, ground := Go.Ground.data }, { on := 1, ground := Go.Ground.data }, { on := 3, ground := Go.Ground.chain }, { on := 0, ground := Go.Ground.phase }, { on := 1, ground := Go.Ground.phase }, { on := 2, ground := Go.Ground.textOnly Go.Departure.lateStores }, { on := 3, ground := Go.Ground.textOnly Go.Departure.lateStoresUnsure }, { on := 4, ground := Go.Ground.phase }, { on := 5, ground := Go.Ground.phase }], guard := none }) rfl (fun K hK => ?_) ?_
              · go_simp
                refine hK.out _ _ ?_ (fun hHeld => ?_)
                · (try dsimp only)
                  (((with_reducible refine tens_and ?_ HTC.out HUC.out); repeat (first | with_reducible assumption | with_reducible exact hk0 | with_reducible refine kept_drew ?_ | with_reducible refine kept_alloc ?_ _ | ((with_reducible refine kept_set ?_ ?hh _); (case hh => first | exact Nat.le_refl _ | (simp only; omega))))))
                clear hK K
                (try simp only [Act.put, List.setIfInBounds_toArray, List.set_cons_zero, List.set_cons_succ])
                refine wpAnyH_ready (rs := [7]) (by kernel_rfl) (by simp) ?_
                refine AllReadyH.cons (o := { dst := none, op := Go.Op.store 24 (Go.Operand.tmp 7) (Go.Operand.tmp 21), type := 0, pos := "law.go:37", after := #[{ on := 5, ground := Go.Ground.data }, { on := 3, ground := Go.Ground.data }, { on := 6, ground := Go.Ground.chain }, { on := 0, ground := Go.Ground.phase }, { on := 1, ground := Go.Ground.phase }, { on := 2, ground := Go.Ground.phase }, { on := 3, ground := Go.Ground.phase }, { on := 4, ground := Go.Ground.phase }, { on := 5, ground := Go.Ground.phase }, { on := 6, ground := Go.Ground.phase }], guard := none }) rfl (fun K hK => ?_) ?_
                · go_simp
                  refine hK.out _ _ ?_ (fun hHeld => ?_)
                  · (try dsimp only)
                    (((with_reducible refine tens_and ?_ HTC.out HUC.out); repeat (first | with_reducible assumption | with_reducible exact hk0 | with_reducible refine kept_drew ?_ | with_reducible refine kept_alloc ?_ _ | ((with_reducible refine kept_set ?_ ?hh _); (case hh => first | exact Nat.le_refl _ | (simp only; omega))))))
                  clear hK K
                  (try simp only [Act.put, List.setIfInBounds_toArray, List.set_cons_zero, List.set_cons_succ])
                  refine wpAnyH_done (by kernel_rfl) ?_ _
                  have Q6 : ((((((wb.setCell ⟨wa.heap.size, 0, none⟩ (.int .i64 t.k)).setCell ⟨wa.heap.size, 1, none⟩ (.int .i64 t.i)).setCell ⟨wa.heap.size, 2, none⟩ (.int .i64 t.j)).setCell ⟨wa.heap.size, 3, none⟩ (.int .i64 t.n)).setCell ⟨wa.heap.size, 4, none⟩ (.slice a6 t.kids.length cap6)).alloc (.cells #[.int .i64 u.k, .int .i64 u.i, .int .i64 u.j, .int .i64 u.n, .slice a7 u.kids.length cap7] 24)).heap[wa.heap.size]? = some (boxOf t (.slice a6 t.kids.length cap6)) := (Below.heap_alloc _ _ _ (by rw [five_size]; exact hb6)).trans (five_set hZ6)
                  have Q7 : ((((((wb.setCell ⟨wa.heap.size, 0, none⟩ (.int .i64 t.k)).setCell ⟨wa.heap.size, 1, none⟩ (.int .i64 t.i)).setCell ⟨wa.heap.size, 2, none⟩ (.int .i64 t.j)).setCell ⟨wa.heap.size, 3, none⟩ (.int .i64 t.n)).setCell ⟨wa.heap.size, 4, none⟩ (.slice a6 t.kids.length cap6)).alloc (.cells #[.int .i64 u.k, .int .i64 u.i, .int .i64 u.j, .int .i64 u.n, .slice a7 u.kids.length cap7] 24)).heap[wb.heap.size]? = some (boxOf u (.slice a7 u.kids.length cap7)) := five_new _ _ _ _ _ _ _ _
                  have hL6 : Lies ((((((wb.setCell ⟨wa.heap.size, 0, none⟩ (.int .i64 t.k)).setCell ⟨wa.heap.size, 1, none⟩ (.int .i64 t.i)).setCell ⟨wa.heap.size, 2, none⟩ (.int .i64 t.j)).setCell ⟨wa.heap.size, 3, none⟩ (.int .i64 t.n)).setCell ⟨wa.heap.size, 4, none⟩ (.slice a6 t.kids.length cap6)).alloc (.cells #[.int .i64 u.k, .int .i64 u.i, .int .i64 u.j, .int .i64 u.n, .slice a7 u.kids.length cap7] 24)) t.kids (.slice a6 t.kids.length cap6) := (hl6.keep (Q := fun _ => True) (fun b hp hlt => by have h0 := hp.1; exact (Below.heap_alloc _ _ _ (by rw [five_size]; omega)).trans ((five_other _ _ _ _ _ _ _ (by omega)).trans (HAB.block b hlt))) (fun _ _ _ => trivial)).lies
                  have hL7 : Lies ((((((wb.setCell ⟨wa.heap.size, 0, none⟩ (.int .i64 t.k)).setCell ⟨wa.heap.size, 1, none⟩ (.int .i64 t.i)).setCell ⟨wa.heap.size, 2, none⟩ (.int .i64 t.j)).setCell ⟨wa.heap.size, 3, none⟩ (.int .i64 t.n)).setCell ⟨wa.heap.size, 4, none⟩ (.slice a6 t.kids.length cap6)).alloc (.cells #[.int .i64 u.k, .int .i64 u.i, .int .i64 u.j, .int .i64 u.n, .slice a7 u.kids.length cap7] 24)) u.kids (.slice a7 u.kids.length cap7) := (hl7.keep (Q := fun _ => True) (fun b hp hlt => by have h0 := hp.1; exact (Below.heap_alloc _ _ _ (by rw [five_size]; omega)).trans ((five_other _ _ _ _ _ _ _ (by omega)).trans rfl)) (fun _ _ _ => trivial)).lies
                  have hKW : Kept V ((((((wb.setCell ⟨wa.heap.size, 0, none⟩ (.int .i64 t.k)).setCell ⟨wa.heap.size, 1, none⟩ (.int .i64 t.i)).setCell ⟨wa.heap.size, 2, none⟩ (.int .i64 t.j)).setCell ⟨wa.heap.size, 3, none⟩ (.int .i64 t.n)).setCell ⟨wa.heap.size, 4, none⟩ (.slice a6 t.kids.length cap6)).alloc (.cells #[.int .i64 u.k, .int .i64 u.i, .int .i64 u.j, .int .i64 u.n, .slice a7 u.kids.length cap7] 24)) := below_five_alloc hhb hhb.size (by omega) _ _ _ _ _ _
                  clear hHeld hl6 hl7 HAB
                  generalize ((((((wb.setCell ⟨wa.heap.size, 0, none⟩ (.int .i64 t.k)).setCell ⟨wa.heap.size, 1, none⟩ (.int .i64 t.i)).setCell ⟨wa.heap.size, 2, none⟩ (.int .i64 t.j)).setCell ⟨wa.heap.size, 3, none⟩ (.int .i64 t.n)).setCell ⟨wa.heap.size, 4, none⟩ (.slice a6 t.kids.length cap6)).alloc (.cells #[.int .i64 u.k, .int .i64 u.i, .int .i64 u.j, .int .i64 u.n, .slice a7 u.kids.length cap7] 24)) = W at Q6 Q7 hL6 hL7 hKW ⊢
                  obtain ⟨g6, hg6⟩ : ∃ g, wa.heap.size = g := ⟨_, rfl⟩
                  rw [hg6] at Q6 ⊢
                  obtain ⟨g7, hg7⟩ : ∃ g, wb.heap.size = g := ⟨_, rfl⟩
                  rw [hg7] at Q7 ⊢
                  have HQ6 := Lib.hid Q6
                  have HQ7 := Lib.hid Q7
                  have HL6 := Lib.hid hL6
                  have HL7 := Lib.hid hL7
                  have HKW := Lib.hid hKW
                  clear Q6 Q7 hL6 hL7 hKW hg6 hg7
                  obtain ⟨m0, m1, m2, m3, m4⟩ := five_cells HQ6.out
                  obtain ⟨n0, n1, n2, n3, n4⟩ := five_cells HQ7.out
                  go_wp2_with fail
                  have CP := put_any t u W _ _ HL6.out HL7.out HDT.out HDU.out
                  rw [HPU.out] at CP
                  refine CP.mono ?_
                  clear CP m0 m1 m2 m3 m4 n0 n1 n2 n3 n4
                  rintro e w7 ⟨s8, rfl, hl8, hb7⟩
                  obtain ⟨a8, cap8, rfl, -, -⟩ := hl8.out
                  have qw7 := keep_block hb7 (block_lt (keep_block HKW.out (block_lt HQW.out) HQW.out)) (keep_block HKW.out (block_lt HQW.out) HQW.out)
                  obtain ⟨x0, x1, x2, x3, x4⟩ := five_cells qw7
                  have hgw7 := block_lt qw7
                  have hb8 : Below w7.heap.size w7 (w7.alloc (.cells #[.int .i64 U.k, .int .i64 U.i, .int .i64 U.j, .int .i64 U.n, .slice a8 U.kids.length cap8] 24)) := (Below.refl _ _).alloc (Nat.le_refl _) _
                  have HB7 := Lib.hid hb7
                  have HL8 := Lib.hid hl8
                  have HW7 := Lib.hid ((HLW.out.keep HKW.out).keep hb7)
                  clear hb7 hl8 qw7
                  go_wp2_with fail
                  refine (keepsame_eq U _ _ _ (HL8.out.lies.keep hb8) (HW7.out.keep hb8)).mono ?_
                  rintro e w9 ⟨rfl, hb9⟩
                  have hb79 : Below w7.heap.size w7 w9 := hb8.trans (hb9.mono hb8.size)
                  have r9 := keep_block hb9 (block_lt (alloc_new w7 _)) (alloc_new w7 _)
                  obtain ⟨z0, z1, z2, z3, z4⟩ := five_cells r9
                  have hsp := HL8.out.keep (w' := w9) (Q := fun b => b < w7.heap.size ∧ Own W.heap.size w9 b) (fun b _ hlt => hb79.block b hlt) (fun b hb hlt => ⟨hlt, hb.later hb79⟩)
                  have HSP := Lib.hid (spoil_any (fun b => b < w7.heap.size ∧ Own W.heap.size w9 b) w7.heap.size (fun b hb => hb.1) U.size U w9 _ (Nat.le_refl _) hsp (fun b hb => hb.2.2) hb79.size)
                  have hW9 : Below W.heap.size W w9 := HB7.out.trans (hb79.mono HB7.out.size)
                  have HW9 := Lib.hid hW9
                  clear hb79 hb8 hb9 hsp r9 x0 x1 x2 x3 x4 hW9
                  go_wp2_with fail
                  refine HSP.out.mono ?_
                  rintro e w10 ⟨rfl, hshr⟩
                  have hB10 : Below W.heap.size w9 w10 := hshr.below (fun b hb => hb.2.1) HW9.out.size
                  have hW10 : Kept W w10 := HW9.out.trans hB10
                  have HW10 := Lib.hid hW10
                  have H5t := Lib.hid (HTC.out.keep HKW.out)
                  have H5u := Lib.hid (HUC.out.keep HKW.out)
                  have HLTW := Lib.hid (HLT.out.keep HKW.out)
                  have HLUW := Lib.hid (HLU.out.keep HKW.out)
                  have H56 : Hid (Five W g6 t (.slice a6 t.kids.length cap6)) := Lib.hid (five_cells HQ6.out)
                  have H57 : Hid (Five W g7 u (.slice a7 u.kids.length cap7)) := Lib.hid (five_cells HQ7.out)
                  clear hshr hB10 HSP z0 z1 z2 z3 z4
                  obtain ⟨d0, d1, d2, d3, d4⟩ := H5t.out.keep hW10
                  obtain ⟨m0, m1, m2, m3, m4⟩ := H56.out.keep hW10
                  go_wp2_with fail
                  refine (keepsame_eq t _ _ _ (HL6.out.keep hW10) (HLTW.out.keep hW10)).mono ?_
                  rintro e w11 ⟨rfl, hb11⟩
                  have hW11 : Kept W w11 := kept_call hW10 hb11
                  clear hb11 d0 d1 d2 d3 d4 m0 m1 m2 m3 m4
                  obtain ⟨d0, d1, d2, d3, d4⟩ := H5u.out.keep hW11
                  obtain ⟨m0, m1, m2, m3, m4⟩ := H57.out.keep hW11
                  go_wp2_with fail
                  refine (keepsame_eq u _ _ _ (HL7.out.keep hW11) (HLUW.out.keep hW11)).mono ?_
                  rintro e w12 ⟨rfl, hb12⟩
                  have hW12 : Kept W w12 := kept_call hW11 hb12
                  go_wp2_with fail
                  refine (wakes7_any _).mono ?_
                  rintro e w13 ⟨rfl, hb13⟩
                  have hW13 : Kept W w13 := kept_call hW12 hb13
                  go_wp2
                  go_ret
                  exact ⟨rfl, HBV.out.trans ((HKW.out.trans (hW13.mono HKW.out.size)).mono HBV.out.size)⟩
                exact AllReadyH.nil
              exact AllReadyH.nil
            exact AllReadyH.nil
          refine AllReadyH.cons (o := { dst := some 7, op := Go.Op.alloc 24, type := 0, pos := "law.go:37", after := #[], guard := none }) rfl (fun K hK => ?_) ?_
          · go_simp
            refine hK.out _ _ ?_ (fun hHeld => ?_)
            · (try dsimp only)
              (((with_reducible refine tens_and ?_ HTC.out HUC.out); repeat (first | with_reducible assumption | with_reducible exact hk0 | with_reducible refine kept_drew ?_ | with_reducible refine kept_alloc ?_ _ | ((with_reducible refine kept_set ?_ ?hh _); (case hh => first | exact Nat.le_refl _ | (simp only; omega))))))
            clear hK K
            (try simp only [Act.put, List.setIfInBounds_toArray, List.set_cons_zero, List.set_cons_succ])
            have hZ6 := (Below.heap_alloc (wa.alloc zeroObj) zeroObj _ (block_lt hZ6)).trans hZ6
            have hZ7 : ((wa.alloc zeroObj).alloc zeroObj).heap[wa.heap.size + 1]? = some zeroObj := by have := alloc_new (wa.alloc zeroObj) zeroObj; simpa using this
            refine wpAnyH_ready (rs := [3]) (by kernel_rfl) (by simp) ?_
            refine AllReadyH.cons (o := { dst := some 21, op := Go.Op.call { callee := Go.Callee.value (Go.Operand.func 10), args := #[Go.Operand.tmp 20], argTypes := #[24] }, type := 24, pos := "law.go:37", after := #[{ on := 2, ground := Go.Ground.data }, { on := 1, ground := Go.Ground.chain }], guard := none }) rfl (fun K hK => ?_) ?_
            · go_simp
              (go_at_call 10; have hS := hHeld.1; refine (twin_any u _ _ (kept_lies hS HLU.out) (by omega)).mono ?_; rintro e wb ⟨s7, rfl, hl7, hbn⟩; obtain ⟨a7, cap7, rfl, -, -⟩ := hl7.out; have hl7 := hl7.from (B' := wa.heap.size + 2) (by simp); have hhb := kept_call hS hbn; have hsb : wa.heap.size + 2 ≤ wb.heap.size := (by have := hbn.size; first | omega | (simp at this; omega)); have hZ6 := keep_block hbn (block_lt hZ6) hZ6; have hb6 := block_lt hZ6; have hZ7 := keep_block hbn (block_lt hZ7) hZ7; have hb7 := block_lt hZ7; obtain ⟨⟨c60, c61, c62, c63, c64⟩, f60, f61, f62, f63, f64⟩ := And.intro (five_cells hZ6) (five_free hZ6); obtain ⟨⟨c70, c71, c72, c73, c74⟩, f70, f71, f72, f73, f74⟩ := And.intro (five_cells hZ7) (five_free hZ7); have HAB : Below wa.heap.size wa wb := (((Below.refl _ _).alloc (Nat.le_refl _) _).alloc (by simp) _).trans (hbn.mono (by simp <;> omega)); clear hbn hS)
              refine hK.out _ _ ?_ (fun hHeld => ?_)
              · (try dsimp only)
                (((with_reducible refine tens_and ?_ HTC.out HUC.out); repeat (first | with_reducible assumption | with_reducible exact hk0 | with_reducible refine kept_drew ?_ | with_reducible refine kept_alloc ?_ _ | ((with_reducible refine kept_set ?_ ?hh _); (case hh => first | exact Nat.le_refl _ | (simp only; omega))))))
              clear hK K
              (try simp only [Act.put, List.setIfInBounds_toArray, List.set_cons_zero, List.set_cons_succ])
              refine wpAnyH_ready (rs := [6]) (by kernel_rfl) (by simp) ?_
              refine AllReadyH.cons (o := { dst := none, op := Go.Op.store 24 (Go.Operand.tmp 6) (Go.Operand.tmp 19), type := 0, pos := "law.go:37", after := #[{ on := 4, ground := Go.Ground.data }, { on := 1, ground := Go.Ground.data }, { on := 3, ground := Go.Ground.chain }, { on := 0, ground := Go.Ground.phase }, { on := 1, ground := Go.Ground.phase }, { on := 2, ground := Go.Ground.textOnly Go.Departure.lateStores }, { on := 3, ground := Go.Ground.textOnly Go.Departure.lateStoresUnsure }, { on := 4, ground := Go.Ground.phase }, { on := 5, ground := Go.Ground.phase }], guard := none }) rfl (fun K hK => ?_) ?_
              · go_simp
                refine hK.out _ _ ?_ (fun hHeld => ?_)
                · (try dsimp only)
                  (((with_reducible refine tens_and ?_ HTC.out HUC.out); repeat (first | with_reducible assumption | with_reducible exact hk0 | with_reducible refine kept_drew ?_ | with_reducible refine kept_alloc ?_ _ | ((with_reducible refine kept_set ?_ ?hh _); (case hh => first | exact Nat.le_refl _ | (simp only; omega))))))
                clear hK K
                (try simp only [Act.put, List.setIfInBounds_toArray, List.set_cons_zero, List.set_cons_succ])
                refine wpAnyH_ready (rs := [7]) (by kernel_rfl) (by simp) ?_
                refine AllReadyH.cons (o := { dst := none, op := Go.Op.store 24 (Go.Operand.tmp 7) (Go.Operand.tmp 21), type := 0, pos := "law.go:37", after := #[{ on := 5, ground := Go.Ground.data }, { on := 3, ground := Go.Ground.data }, { on := 6, ground := Go.Ground.chain }, { on := 0, ground := Go.Ground.phase }, { on := 1, ground := Go.Ground.phase }, { on := 2, ground := Go.Ground.phase }, { on := 3, ground := Go.Ground.phase }, { on := 4, ground := Go.Ground.phase }, { on := 5, ground := Go.Ground.phase }, { on := 6, ground := Go.Ground.phase }], guard := none }) rfl (fun K hK => ?_) ?_
                · go_simp
                  refine hK.out _ _ ?_ (fun hHeld => ?_)
                  · (try dsimp only)
                    (((with_reducible refine tens_and ?_ HTC.out HUC.out); repeat (first | with_reducible assumption | with_reducible exact hk0 | with_reducible refine kept_drew ?_ | with_reducible refine kept_alloc ?_ _ | ((with_reducible refine kept_set ?_ ?hh _); (case hh => first | exact Nat.le_refl _ | (simp only; omega))))))
                  clear hK K
                  (try simp only [Act.put, List.setIfInBounds_toArray, List.set_cons_zero, List.set_cons_succ])
                  refine wpAnyH_done (by kernel_rfl) ?_ _
                  have Q6 : ((((((((((wb.setCell ⟨wa.heap.size, 0, none⟩ (.int .i64 t.k)).setCell ⟨wa.heap.size, 1, none⟩ (.int .i64 t.i)).setCell ⟨wa.heap.size, 2, none⟩ (.int .i64 t.j)).setCell ⟨wa.heap.size, 3, none⟩ (.int .i64 t.n)).setCell ⟨wa.heap.size, 4, none⟩ (.slice a6 t.kids.length cap6)).setCell ⟨wa.heap.size + 1, 0, none⟩ (.int .i64 u.k)).setCell ⟨wa.heap.size + 1, 1, none⟩ (.int .i64 u.i)).setCell ⟨wa.heap.size + 1, 2, none⟩ (.int .i64 u.j)).setCell ⟨wa.heap.size + 1, 3, none⟩ (.int .i64 u.n)).setCell ⟨wa.heap.size + 1, 4, none⟩ (.slice a7 u.kids.length cap7)).heap[wa.heap.size]? = some (boxOf t (.slice a6 t.kids.length cap6)) := (five_other _ _ _ _ _ _ _ (by omega)).trans (five_set hZ6)
                  have Q7 : ((((((((((wb.setCell ⟨wa.heap.size, 0, none⟩ (.int .i64 t.k)).setCell ⟨wa.heap.size, 1, none⟩ (.int .i64 t.i)).setCell ⟨wa.heap.size, 2, none⟩ (.int .i64 t.j)).setCell ⟨wa.heap.size, 3, none⟩ (.int .i64 t.n)).setCell ⟨wa.heap.size, 4, none⟩ (.slice a6 t.kids.length cap6)).setCell ⟨wa.heap.size + 1, 0, none⟩ (.int .i64 u.k)).setCell ⟨wa.heap.size + 1, 1, none⟩ (.int .i64 u.i)).setCell ⟨wa.heap.size + 1, 2, none⟩ (.int .i64 u.j)).setCell ⟨wa.heap.size + 1, 3, none⟩ (.int .i64 u.n)).setCell ⟨wa.heap.size + 1, 4, none⟩ (.slice a7 u.kids.length cap7)).heap[wa.heap.size + 1]? = some (boxOf u (.slice a7 u.kids.length cap7)) := five_set ((five_other _ _ _ _ _ _ _ (by omega)).trans hZ7)
                  have hL6 : Lies ((((((((((wb.setCell ⟨wa.heap.size, 0, none⟩ (.int .i64 t.k)).setCell ⟨wa.heap.size, 1, none⟩ (.int .i64 t.i)).setCell ⟨wa.heap.size, 2, none⟩ (.int .i64 t.j)).setCell ⟨wa.heap.size, 3, none⟩ (.int .i64 t.n)).setCell ⟨wa.heap.size, 4, none⟩ (.slice a6 t.kids.length cap6)).setCell ⟨wa.heap.size + 1, 0, none⟩ (.int .i64 u.k)).setCell ⟨wa.heap.size + 1, 1, none⟩ (.int .i64 u.i)).setCell ⟨wa.heap.size + 1, 2, none⟩ (.int .i64 u.j)).setCell ⟨wa.heap.size + 1, 3, none⟩ (.int .i64 u.n)).setCell ⟨wa.heap.size + 1, 4, none⟩ (.slice a7 u.kids.length cap7)) t.kids (.slice a6 t.kids.length cap6) := (hl6.keep (Q := fun _ => True) (fun b hp hlt => by have h0 := hp.1; exact (five_other _ _ _ _ _ _ _ (by omega)).trans ((five_other _ _ _ _ _ _ _ (by omega)).trans (HAB.block b hlt))) (fun _ _ _ => trivial)).lies
                  have hL7 : Lies ((((((((((wb.setCell ⟨wa.heap.size, 0, none⟩ (.int .i64 t.k)).setCell ⟨wa.heap.size, 1, none⟩ (.int .i64 t.i)).setCell ⟨wa.heap.size, 2, none⟩ (.int .i64 t.j)).setCell ⟨wa.heap.size, 3, none⟩ (.int .i64 t.n)).setCell ⟨wa.heap.size, 4, none⟩ (.slice a6 t.kids.length cap6)).setCell ⟨wa.heap.size + 1, 0, none⟩ (.int .i64 u.k)).setCell ⟨wa.heap.size + 1, 1, none⟩ (.int .i64 u.i)).setCell ⟨wa.heap.size + 1, 2, none⟩ (.int .i64 u.j)).setCell ⟨wa.heap.size + 1, 3, none⟩ (.int .i64 u.n)).setCell ⟨wa.heap.size + 1, 4, none⟩ (.slice a7 u.kids.length cap7)) u.kids (.slice a7 u.kids.length cap7) := (hl7.keep (Q := fun _ => True) (fun b hp hlt => by have h0 := hp.1; exact (five_other _ _ _ _ _ _ _ (by omega)).trans ((five_other _ _ _ _ _ _ _ (by omega)).trans rfl)) (fun _ _ _ => trivial)).lies
                  have hKW : Kept V ((((((((((wb.setCell ⟨wa.heap.size, 0, none⟩ (.int .i64 t.k)).setCell ⟨wa.heap.size, 1, none⟩ (.int .i64 t.i)).setCell ⟨wa.heap.size, 2, none⟩ (.int .i64 t.j)).setCell ⟨wa.heap.size, 3, none⟩ (.int .i64 t.n)).setCell ⟨wa.heap.size, 4, none⟩ (.slice a6 t.kids.length cap6)).setCell ⟨wa.heap.size + 1, 0, none⟩ (.int .i64 u.k)).setCell ⟨wa.heap.size + 1, 1, none⟩ (.int .i64 u.i)).setCell ⟨wa.heap.size + 1, 2, none⟩ (.int .i64 u.j)).setCell ⟨wa.heap.size + 1, 3, none⟩ (.int .i64 u.n)).setCell ⟨wa.heap.size + 1, 4, none⟩ (.slice a7 u.kids.length cap7)) := below_five (below_five hhb (by omega) _ _ _ _ _) (by omega) _ _ _ _ _
                  clear hHeld hl6 hl7 HAB
                  generalize ((((((((((wb.setCell ⟨wa.heap.size, 0, none⟩ (.int .i64 t.k)).setCell ⟨wa.heap.size, 1, none⟩ (.int .i64 t.i)).setCell ⟨wa.heap.size, 2, none⟩ (.int .i64 t.j)).setCell ⟨wa.heap.size, 3, none⟩ (.int .i64 t.n)).setCell ⟨wa.heap.size, 4, none⟩ (.slice a6 t.kids.length cap6)).setCell ⟨wa.heap.size + 1, 0, none⟩ (.int .i64 u.k)).setCell ⟨wa.heap.size + 1, 1, none⟩ (.int .i64 u.i)).setCell ⟨wa.heap.size + 1, 2, none⟩ (.int .i64 u.j)).setCell ⟨wa.heap.size + 1, 3, none⟩ (.int .i64 u.n)).setCell ⟨wa.heap.size + 1, 4, none⟩ (.slice a7 u.kids.length cap7)) = W at Q6 Q7 hL6 hL7 hKW ⊢
                  obtain ⟨g7, hg7⟩ : ∃ g, wa.heap.size + 1 = g := ⟨_, rfl⟩
                  rw [hg7] at Q7 ⊢
                  obtain ⟨g6, hg6⟩ : ∃ g, wa.heap.size = g := ⟨_, rfl⟩
                  rw [hg6] at Q6 ⊢
                  have HQ6 := Lib.hid Q6
                  have HQ7 := Lib.hid Q7
                  have HL6 := Lib.hid hL6
                  have HL7 := Lib.hid hL7
                  have HKW := Lib.hid hKW
                  clear Q6 Q7 hL6 hL7 hKW hg6 hg7
                  obtain ⟨m0, m1, m2, m3, m4⟩ := five_cells HQ6.out
                  obtain ⟨n0, n1, n2, n3, n4⟩ := five_cells HQ7.out
                  go_wp2_with fail
                  have CP := put_any t u W _ _ HL6.out HL7.out HDT.out HDU.out
                  rw [HPU.out] at CP
                  refine CP.mono ?_
                  clear CP m0 m1 m2 m3 m4 n0 n1 n2 n3 n4
                  rintro e w7 ⟨s8, rfl, hl8, hb7⟩
                  obtain ⟨a8, cap8, rfl, -, -⟩ := hl8.out
                  have qw7 := keep_block hb7 (block_lt (keep_block HKW.out (block_lt HQW.out) HQW.out)) (keep_block HKW.out (block_lt HQW.out) HQW.out)
                  obtain ⟨x0, x1, x2, x3, x4⟩ := five_cells qw7
                  have hgw7 := block_lt qw7
                  have hb8 : Below w7.heap.size w7 (w7.alloc (.cells #[.int .i64 U.k, .int .i64 U.i, .int .i64 U.j, .int .i64 U.n, .slice a8 U.kids.length cap8] 24)) := (Below.refl _ _).alloc (Nat.le_refl _) _
                  have HB7 := Lib.hid hb7
                  have HL8 := Lib.hid hl8
                  have HW7 := Lib.hid ((HLW.out.keep HKW.out).keep hb7)
                  clear hb7 hl8 qw7
                  go_wp2_with fail
                  refine (keepsame_eq U _ _ _ (HL8.out.lies.keep hb8) (HW7.out.keep hb8)).mono ?_
                  rintro e w9 ⟨rfl, hb9⟩
                  have hb79 : Below w7.heap.size w7 w9 := hb8.trans (hb9.mono hb8.size)
                  have r9 := keep_block hb9 (block_lt (alloc_new w7 _)) (alloc_new w7 _)
                  obtain ⟨z0, z1, z2, z3, z4⟩ := five_cells r9
                  have hsp := HL8.out.keep (w' := w9) (Q := fun b => b < w7.heap.size ∧ Own W.heap.size w9 b) (fun b _ hlt => hb79.block b hlt) (fun b hb hlt => ⟨hlt, hb.later hb79⟩)
                  have HSP := Lib.hid (spoil_any (fun b => b < w7.heap.size ∧ Own W.heap.size w9 b) w7.heap.size (fun b hb => hb.1) U.size U w9 _ (Nat.le_refl _) hsp (fun b hb => hb.2.2) hb79.size)
                  have hW9 : Below W.heap.size W w9 := HB7.out.trans (hb79.mono HB7.out.size)
                  have HW9 := Lib.hid hW9
                  clear hb79 hb8 hb9 hsp r9 x0 x1 x2 x3 x4 hW9
                  go_wp2_with fail
                  refine HSP.out.mono ?_
                  rintro e w10 ⟨rfl, hshr⟩
                  have hB10 : Below W.heap.size w9 w10 := hshr.below (fun b hb => hb.2.1) HW9.out.size
                  have hW10 : Kept W w10 := HW9.out.trans hB10
                  have HW10 := Lib.hid hW10
                  have H5t := Lib.hid (HTC.out.keep HKW.out)
                  have H5u := Lib.hid (HUC.out.keep HKW.out)
                  have HLTW := Lib.hid (HLT.out.keep HKW.out)
                  have HLUW := Lib.hid (HLU.out.keep HKW.out)
                  have H56 : Hid (Five W g6 t (.slice a6 t.kids.length cap6)) := Lib.hid (five_cells HQ6.out)
                  have H57 : Hid (Five W g7 u (.slice a7 u.kids.length cap7)) := Lib.hid (five_cells HQ7.out)
                  clear hshr hB10 HSP z0 z1 z2 z3 z4
                  obtain ⟨d0, d1, d2, d3, d4⟩ := H5t.out.keep hW10
                  obtain ⟨m0, m1, m2, m3, m4⟩ := H56.out.keep hW10
                  go_wp2_with fail
                  refine (keepsame_eq t _ _ _ (HL6.out.keep hW10) (HLTW.out.keep hW10)).mono ?_
                  rintro e w11 ⟨rfl, hb11⟩
                  have hW11 : Kept W w11 := kept_call hW10 hb11
                  clear hb11 d0 d1 d2 d3 d4 m0 m1 m2 m3 m4
                  obtain ⟨d0, d1, d2, d3, d4⟩ := H5u.out.keep hW11
                  obtain ⟨m0, m1, m2, m3, m4⟩ := H57.out.keep hW11
                  go_wp2_with fail
                  refine (keepsame_eq u _ _ _ (HL7.out.keep hW11) (HLUW.out.keep hW11)).mono ?_
                  rintro e w12 ⟨rfl, hb12⟩
                  have hW12 : Kept W w12 := kept_call hW11 hb12
                  go_wp2_with fail
                  refine (wakes7_any _).mono ?_
                  rintro e w13 ⟨rfl, hb13⟩
                  have hW13 : Kept W w13 := kept_call hW12 hb13
                  go_wp2
                  go_ret
                  exact ⟨rfl, HBV.out.trans ((HKW.out.trans (hW13.mono HKW.out.size)).mono HBV.out.size)⟩
                exact AllReadyH.nil
              exact AllReadyH.nil
            exact AllReadyH.nil
          exact AllReadyH.nil
        refine AllReadyH.cons (o := { dst := some 7, op := Go.Op.alloc 24, type := 0, pos := "law.go:37", after := #[], guard := none }) rfl (fun K hK => ?_) ?_
        · go_simp
          refine hK.out _ _ ?_ (fun hHeld => ?_)
          · (try dsimp only)
            (((with_reducible refine tens_and ?_ HTC.out HUC.out); repeat (first | with_reducible assumption | with_reducible exact hk0 | with_reducible refine kept_drew ?_ | with_reducible refine kept_alloc ?_ _ | ((with_reducible refine kept_set ?_ ?hh _); (case hh => first | exact Nat.le_refl _ | (simp only; omega))))))
          clear hK K
          (try simp only [Act.put, List.setIfInBounds_toArray, List.set_cons_zero, List.set_cons_succ])
          have hZ7 : (wa.alloc zeroObj).heap[wa.heap.size]? = some zeroObj := alloc_new _ _
          refine wpAnyH_ready (rs := [3, 4]) (by kernel_rfl) (by simp) ?_
          refine AllReadyH.cons (o := { dst := some 21, op := Go.Op.call { callee := Go.Callee.value (Go.Operand.func 10), args := #[Go.Operand.tmp 20], argTypes := #[24] }, type := 24, pos := "law.go:37", after := #[{ on := 2, ground := Go.Ground.data }, { on := 1, ground := Go.Ground.chain }], guard := none }) rfl (fun K hK => ?_) ?_
          · go_simp
            (go_at_call 10; have hS := hHeld.1; refine (twin_any u _ _ (kept_lies hS HLU.out) (by omega)).mono ?_; rintro e wb ⟨s7, rfl, hl7, hbn⟩; obtain ⟨a7, cap7, rfl, -, -⟩ := hl7.out; have hl7 := hl7.from (B' := wa.heap.size + 1) (by simp); have hhb := kept_call hS hbn; have hsb : wa.heap.size + 1 ≤ wb.heap.size := (by have := hbn.size; first | omega | (simp at this; omega)); have hZ7 := keep_block hbn (block_lt hZ7) hZ7; have hb7 := block_lt hZ7; obtain ⟨⟨c70, c71, c72, c73, c74⟩, f70, f71, f72, f73, f74⟩ := And.intro (five_cells hZ7) (five_free hZ7); have HAB : Below wa.heap.size wa wb := ((Below.refl _ _).alloc (Nat.le_refl _) _).trans (hbn.mono (by simp)); clear hbn hS)
            refine hK.out _ _ ?_ (fun hHeld => ?_)
            · (try dsimp only)
              (((with_reducible refine tens_and ?_ HTC.out HUC.out); repeat (first | with_reducible assumption | with_reducible exact hk0 | with_reducible refine kept_drew ?_ | with_reducible refine kept_alloc ?_ _ | ((with_reducible refine kept_set ?_ ?hh _); (case hh => first | exact Nat.le_refl _ | (simp only; omega))))))
            clear hK K
            (try simp only [Act.put, List.setIfInBounds_toArray, List.set_cons_zero, List.set_cons_succ])
            refine wpAnyH_ready (rs := [4]) (by kernel_rfl) (by simp) ?_
            refine AllReadyH.cons (o := { dst := some 6, op := Go.Op.alloc 24, type := 0, pos := "law.go:37", after := #[], guard := none }) rfl (fun K hK => ?_) ?_
            · go_simp
              refine hK.out _ _ ?_ (fun hHeld => ?_)
              · (try dsimp only)
                (((with_reducible refine tens_and ?_ HTC.out HUC.out); repeat (first | with_reducible assumption | with_reducible exact hk0 | with_reducible refine kept_drew ?_ | with_reducible refine kept_alloc ?_ _ | ((with_reducible refine kept_set ?_ ?hh _); (case hh => first | exact Nat.le_refl _ | (simp only; omega))))))
              clear hK K
              (try simp only [Act.put, List.setIfInBounds_toArray, List.set_cons_zero, List.set_cons_succ])
              refine wpAnyH_ready (rs := [6]) (by kernel_rfl) (by simp) ?_
              refine AllReadyH.cons (o := { dst := none, op := Go.Op.store 24 (Go.Operand.tmp 6) (Go.Operand.tmp 19), type := 0, pos := "law.go:37", after := #[{ on := 4, ground := Go.Ground.data }, { on := 1, ground := Go.Ground.data }, { on := 3, ground := Go.Ground.chain }, { on := 0, ground := Go.Ground.phase }, { on := 1, ground := Go.Ground.phase }, { on := 2, ground := Go.Ground.textOnly Go.Departure.lateStores }, { on := 3, ground := Go.Ground.textOnly Go.Departure.lateStoresUnsure }, { on := 4, ground := Go.Ground.phase }, { on := 5, ground := Go.Ground.phase }], guard := none }) rfl (fun K hK => ?_) ?_
              · go_simp
                refine hK.out _ _ ?_ (fun hHeld => ?_)
                · (try dsimp only)
                  (((with_reducible refine tens_and ?_ HTC.out HUC.out); repeat (first | with_reducible assumption | with_reducible exact hk0 | with_reducible refine kept_drew ?_ | with_reducible refine kept_alloc ?_ _ | ((with_reducible refine kept_set ?_ ?hh _); (case hh => first | exact Nat.le_refl _ | (simp only; omega))))))
                clear hK K
                (try simp only [Act.put, List.setIfInBounds_toArray, List.set_cons_zero, List.set_cons_succ])
                refine wpAnyH_ready (rs := [7]) (by kernel_rfl) (by simp) ?_
                refine AllReadyH.cons (o := { dst := none, op := Go.Op.store 24 (Go.Operand.tmp 7) (Go.Operand.tmp 21), type := 0, pos := "law.go:37", after := #[{ on := 5, ground := Go.Ground.data }, { on := 3, ground := Go.Ground.data }, { on := 6, ground := Go.Ground.chain }, { on := 0, ground := Go.Ground.phase }, { on := 1, ground := Go.Ground.phase }, { on := 2, ground := Go.Ground.phase }, { on := 3, ground := Go.Ground.phase }, { on := 4, ground := Go.Ground.phase }, { on := 5, ground := Go.Ground.phase }, { on := 6, ground := Go.Ground.phase }], guard := none }) rfl (fun K hK => ?_) ?_
                · go_simp
                  refine hK.out _ _ ?_ (fun hHeld => ?_)
                  · (try dsimp only)
                    (((with_reducible refine tens_and ?_ HTC.out HUC.out); repeat (first | with_reducible assumption | with_reducible exact hk0 | with_reducible refine kept_drew ?_ | with_reducible refine kept_alloc ?_ _ | ((with_reducible refine kept_set ?_ ?hh _); (case hh => first | exact Nat.le_refl _ | (simp only; omega))))))
                  clear hK K
                  (try simp only [Act.put, List.setIfInBounds_toArray, List.set_cons_zero, List.set_cons_succ])
                  refine wpAnyH_done (by kernel_rfl) ?_ _
                  have Q6 : ((((((wb.setCell ⟨wa.heap.size, 0, none⟩ (.int .i64 u.k)).setCell ⟨wa.heap.size, 1, none⟩ (.int .i64 u.i)).setCell ⟨wa.heap.size, 2, none⟩ (.int .i64 u.j)).setCell ⟨wa.heap.size, 3, none⟩ (.int .i64 u.n)).setCell ⟨wa.heap.size, 4, none⟩ (.slice a7 u.kids.length cap7)).alloc (.cells #[.int .i64 t.k, .int .i64 t.i, .int .i64 t.j, .int .i64 t.n, .slice a6 t.kids.length cap6] 24)).heap[wb.heap.size]? = some (boxOf t (.slice a6 t.kids.length cap6)) := five_new _ _ _ _ _ _ _ _
                  have Q7 : ((((((wb.setCell ⟨wa.heap.size, 0, none⟩ (.int .i64 u.k)).setCell ⟨wa.heap.size, 1, none⟩ (.int .i64 u.i)).setCell ⟨wa.heap.size, 2, none⟩ (.int .i64 u.j)).setCell ⟨wa.heap.size, 3, none⟩ (.int .i64 u.n)).setCell ⟨wa.heap.size, 4, none⟩ (.slice a7 u.kids.length cap7)).alloc (.cells #[.int .i64 t.k, .int .i64 t.i, .int .i64 t.j, .int .i64 t.n, .slice a6 t.kids.length cap6] 24)).heap[wa.heap.size]? = some (boxOf u (.slice a7 u.kids.length cap7)) := (Below.heap_alloc _ _ _ (by rw [five_size]; exact hb7)).trans (five_set hZ7)
                  have hL6 : Lies ((((((wb.setCell ⟨wa.heap.size, 0, none⟩ (.int .i64 u.k)).setCell ⟨wa.heap.size, 1, none⟩ (.int .i64 u.i)).setCell ⟨wa.heap.size, 2, none⟩ (.int .i64 u.j)).setCell ⟨wa.heap.size, 3, none⟩ (.int .i64 u.n)).setCell ⟨wa.heap.size, 4, none⟩ (.slice a7 u.kids.length cap7)).alloc (.cells #[.int .i64 t.k, .int .i64 t.i, .int .i64 t.j, .int .i64 t.n, .slice a6 t.kids.length cap6] 24)) t.kids (.slice a6 t.kids.length cap6) := (hl6.keep (Q := fun _ => True) (fun b hp hlt => by have h0 := hp.1; exact (Below.heap_alloc _ _ _ (by rw [five_size]; omega)).trans ((five_other _ _ _ _ _ _ _ (by omega)).trans (HAB.block b hlt))) (fun _ _ _ => trivial)).lies
                  have hL7 : Lies ((((((wb.setCell ⟨wa.heap.size, 0, none⟩ (.int .i64 u.k)).setCell ⟨wa.heap.size, 1, none⟩ (.int .i64 u.i)).setCell ⟨wa.heap.size, 2, none⟩ (.int .i64 u.j)).setCell ⟨wa.heap.size, 3, none⟩ (.int .i64 u.n)).setCell ⟨wa.heap.size, 4, none⟩ (.slice a7 u.kids.length cap7)).alloc (.cells #[.int .i64 t.k, .int .i64 t.i, .int .i64 t.j, .int .i64 t.n, .slice a6 t.kids.length cap6] 24)) u.kids (.slice a7 u.kids.length cap7) := (hl7.keep (Q := fun _ => True) (fun b hp hlt => by have h0 := hp.1; exact (Below.heap_alloc _ _ _ (by rw [five_size]; omega)).trans ((five_other _ _ _ _ _ _ _ (by omega)).trans rfl)) (fun _ _ _ => trivial)).lies
                  have hKW : Kept V ((((((wb.setCell ⟨wa.heap.size, 0, none⟩ (.int .i64 u.k)).setCell ⟨wa.heap.size, 1, none⟩ (.int .i64 u.i)).setCell ⟨wa.heap.size, 2, none⟩ (.int .i64 u.j)).setCell ⟨wa.heap.size, 3, none⟩ (.int .i64 u.n)).setCell ⟨wa.heap.size, 4, none⟩ (.slice a7 u.kids.length cap7)).alloc (.cells #[.int .i64 t.k, .int .i64 t.i, .int .i64 t.j, .int .i64 t.n, .slice a6 t.kids.length cap6] 24)) := below_five_alloc hhb hhb.size (by omega) _ _ _ _ _ _
                  clear hHeld hl6 hl7 HAB
                  generalize ((((((wb.setCell ⟨wa.heap.size, 0, none⟩ (.int .i64 u.k)).setCell ⟨wa.heap.size, 1, none⟩ (.int .i64 u.i)).setCell ⟨wa.heap.size, 2, none⟩ (.int .i64 u.j)).setCell ⟨wa.heap.size, 3, none⟩ (.int .i64 u.n)).setCell ⟨wa.heap.size, 4, none⟩ (.slice a7 u.kids.length cap7)).alloc (.cells #[.int .i64 t.k, .int .i64 t.i, .int .i64 t.j, .int .i64 t.n, .slice a6 t.kids.length cap6] 24)) = W at Q6 Q7 hL6 hL7 hKW ⊢
                  obtain ⟨g6, hg6⟩ : ∃ g, wb.heap.size = g := ⟨_, rfl⟩
                  rw [hg6] at Q6 ⊢
                  obtain ⟨g7, hg7⟩ : ∃ g, wa.heap.size = g := ⟨_, rfl⟩
                  rw [hg7] at Q7 ⊢
                  have HQ6 := Lib.hid Q6
                  have HQ7 := Lib.hid Q7
                  have HL6 := Lib.hid hL6
                  have HL7 := Lib.hid hL7
                  have HKW := Lib.hid hKW
                  clear Q6 Q7 hL6 hL7 hKW hg6 hg7
                  obtain ⟨m0, m1, m2, m3, m4⟩ := five_cells HQ6.out
                  obtain ⟨n0, n1, n2, n3, n4⟩ := five_cells HQ7.out
                  go_wp2_with fail
                  have CP := put_any t u W _ _ HL6.out HL7.out HDT.out HDU.out
                  rw [HPU.out] at CP
                  refine CP.mono ?_
                  clear CP m0 m1 m2 m3 m4 n0 n1 n2 n3 n4
                  rintro e w7 ⟨s8, rfl, hl8, hb7⟩
                  obtain ⟨a8, cap8, rfl, -, -⟩ := hl8.out
                  have qw7 := keep_block hb7 (block_lt (keep_block HKW.out (block_lt HQW.out) HQW.out)) (keep_block HKW.out (block_lt HQW.out) HQW.out)
                  obtain ⟨x0, x1, x2, x3, x4⟩ := five_cells qw7
                  have hgw7 := block_lt qw7
                  have hb8 : Below w7.heap.size w7 (w7.alloc (.cells #[.int .i64 U.k, .int .i64 U.i, .int .i64 U.j, .int .i64 U.n, .slice a8 U.kids.length cap8] 24)) := (Below.refl _ _).alloc (Nat.le_refl _) _
                  have HB7 := Lib.hid hb7
                  have HL8 := Lib.hid hl8
                  have HW7 := Lib.hid ((HLW.out.keep HKW.out).keep hb7)
                  clear hb7 hl8 qw7
                  go_wp2_with fail
                  refine (keepsame_eq U _ _ _ (HL8.out.lies.keep hb8) (HW7.out.keep hb8)).mono ?_
                  rintro e w9 ⟨rfl, hb9⟩
                  have hb79 : Below w7.heap.size w7 w9 := hb8.trans (hb9.mono hb8.size)
                  have r9 := keep_block hb9 (block_lt (alloc_new w7 _)) (alloc_new w7 _)
                  obtain ⟨z0, z1, z2, z3, z4⟩ := five_cells r9
                  have hsp := HL8.out.keep (w' := w9) (Q := fun b => b < w7.heap.size ∧ Own W.heap.size w9 b) (fun b _ hlt => hb79.block b hlt) (fun b hb hlt => ⟨hlt, hb.later hb79⟩)
                  have HSP := Lib.hid (spoil_any (fun b => b < w7.heap.size ∧ Own W.heap.size w9 b) w7.heap.size (fun b hb => hb.1) U.size U w9 _ (Nat.le_refl _) hsp (fun b hb => hb.2.2) hb79.size)
                  have hW9 : Below W.heap.size W w9 := HB7.out.trans (hb79.mono HB7.out.size)
                  have HW9 := Lib.hid hW9
                  clear hb79 hb8 hb9 hsp r9 x0 x1 x2 x3 x4 hW9
                  go_wp2_with fail
                  refine HSP.out.mono ?_
                  rintro e w10 ⟨rfl, hshr⟩
                  have hB10 : Below W.heap.size w9 w10 := hshr.below (fun b hb => hb.2.1) HW9.out.size
                  have hW10 : Kept W w10 := HW9.out.trans hB10
                  have HW10 := Lib.hid hW10
                  have H5t := Lib.hid (HTC.out.keep HKW.out)
                  have H5u := Lib.hid (HUC.out.keep HKW.out)
                  have HLTW := Lib.hid (HLT.out.keep HKW.out)
                  have HLUW := Lib.hid (HLU.out.keep HKW.out)
                  have H56 : Hid (Five W g6 t (.slice a6 t.kids.length cap6)) := Lib.hid (five_cells HQ6.out)
                  have H57 : Hid (Five W g7 u (.slice a7 u.kids.length cap7)) := Lib.hid (five_cells HQ7.out)
                  clear hshr hB10 HSP z0 z1 z2 z3 z4
                  obtain ⟨d0, d1, d2, d3, d4⟩ := H5t.out.keep hW10
                  obtain ⟨m0, m1, m2, m3, m4⟩ := H56.out.keep hW10
                  go_wp2_with fail
                  refine (keepsame_eq t _ _ _ (HL6.out.keep hW10) (HLTW.out.keep hW10)).mono ?_
                  rintro e w11 ⟨rfl, hb11⟩
                  have hW11 : Kept W w11 := kept_call hW10 hb11
                  clear hb11 d0 d1 d2 d3 d4 m0 m1 m2 m3 m4
                  obtain ⟨d0, d1, d2, d3, d4⟩ := H5u.out.keep hW11
                  obtain ⟨m0, m1, m2, m3, m4⟩ := H57.out.keep hW11
                  go_wp2_with fail
                  refine (keepsame_eq u _ _ _ (HL7.out.keep hW11) (HLUW.out.keep hW11)).mono ?_
                  rintro e w12 ⟨rfl, hb12⟩
                  have hW12 : Kept W w12 := kept_call hW11 hb12
                  go_wp2_with fail
                  refine (wakes7_any _).mono ?_
                  rintro e w13 ⟨rfl, hb13⟩
                  have hW13 : Kept W w13 := kept_call hW12 hb13
                  go_wp2
                  go_ret
                  exact ⟨rfl, HBV.out.trans ((HKW.out.trans (hW13.mono HKW.out.size)).mono HBV.out.size)⟩
                exact AllReadyH.nil
              exact AllReadyH.nil
            exact AllReadyH.nil
          refine AllReadyH.cons (o := { dst := some 6, op := Go.Op.alloc 24, type := 0, pos := "law.go:37", after := #[], guard := none }) rfl (fun K hK => ?_) ?_
          · go_simp
            refine hK.out _ _ ?_ (fun hHeld => ?_)
            · (try dsimp only)
              (((with_reducible refine tens_and ?_ HTC.out HUC.out); repeat (first | with_reducible assumption | with_reducible exact hk0 | with_reducible refine kept_drew ?_ | with_reducible refine kept_alloc ?_ _ | ((with_reducible refine kept_set ?_ ?hh _); (case hh => first | exact Nat.le_refl _ | (simp only; omega))))))
            clear hK K
            (try simp only [Act.put, List.setIfInBounds_toArray, List.set_cons_zero, List.set_cons_succ])
            have hZ7 := (Below.heap_alloc (wa.alloc zeroObj) zeroObj _ (block_lt hZ7)).trans hZ7
            have hZ6 : ((wa.alloc zeroObj).alloc zeroObj).heap[wa.heap.size + 1]? = some zeroObj := by have := alloc_new (wa.alloc zeroObj) zeroObj; simpa using this
            refine wpAnyH_ready (rs := [3]) (by kernel_rfl) (by simp) ?_
            refine AllReadyH.cons (o := { dst := some 21, op := Go.Op.call { callee := Go.Callee.value (Go.Operand.func 10), args := #[Go.Operand.tmp 20], argTypes := #[24] }, type := 24, pos := "law.go:37", after := #[{ on := 2, ground := Go.Ground.data }, { on := 1, ground := Go.Ground.chain }], guard := none }) rfl (fun K hK => ?_) ?_
            · go_simp
              (go_at_call 10; have hS := hHeld.1; refine (twin_any u _ _ (kept_lies hS HLU.out) (by omega)).mono ?_; rintro e wb ⟨s7, rfl, hl7, hbn⟩; obtain ⟨a7, cap7, rfl, -, -⟩ := hl7.out; have hl7 := hl7.from (B' := wa.heap.size + 2) (by simp); have hhb := kept_call hS hbn; have hsb : wa.heap.size + 2 ≤ wb.heap.size := (by have := hbn.size; first | omega | (simp at this; omega)); have hZ6 := keep_block hbn (block_lt hZ6) hZ6; have hb6 := block_lt hZ6; have hZ7 := keep_block hbn (block_lt hZ7) hZ7; have hb7 := block_lt hZ7; obtain ⟨⟨c60, c61, c62, c63, c64⟩, f60, f61, f62, f63, f64⟩ := And.intro (five_cells hZ6) (five_free hZ6); obtain ⟨⟨c70, c71, c72, c73, c74⟩, f70, f71, f72, f73, f74⟩ := And.intro (five_cells hZ7) (five_free hZ7); have HAB : Below wa.heap.size wa wb := (((Below.refl _ _).alloc (Nat.le_refl _) _).alloc (by simp) _).trans (hbn.mono (by simp <;> omega)); clear hbn hS)
              refine hK.out _ _ ?_ (fun hHeld => ?_)
              · (try dsimp only)
                (((with_reducible refine tens_and ?_ HTC.out HUC.out); repeat (first | with_reducible assumption | with_reducible exact hk0 | with_reducible refine kept_drew ?_ | with_reducible refine kept_alloc ?_ _ | ((with_reducible refine kept_set ?_ ?hh _); (case hh => first | exact Nat.le_refl _ | (simp only; omega))))))
              clear hK K
              (try simp only [Act.put, List.setIfInBounds_toArray, List.set_cons_zero, List.set_cons_succ])
              refine wpAnyH_ready (rs := [6]) (by kernel_rfl) (by simp) ?_
              refine AllReadyH.cons (o := { dst := none, op := Go.Op.store 24 (Go.Operand.tmp 6) (Go.Operand.tmp 19), type := 0, pos := "law.go:37", after := #[{ on := 4, ground := Go.Ground.data }, { on := 1, ground := Go.Ground.data }, { on := 3, ground := Go.Ground.chain }, { on := 0, ground := Go.Ground.phase }, { on := 1, ground := Go.Ground.phase }, { on := 2, ground := Go.Ground.textOnly Go.Departure.lateStores }, { on := 3, ground := Go.Ground.textOnly Go.Departure.lateStoresUnsure }, { on := 4, ground := Go.Ground.phase }, { on := 5, ground := Go.Ground.phase }], guard := none }) rfl (fun K hK => ?_) ?_
              · go_simp
                refine hK.out _ _ ?_ (fun hHeld => ?_)
                · (try dsimp only)
                  (((with_reducible refine tens_and ?_ HTC.out HUC.out); repeat (first | with_reducible assumption | with_reducible exact hk0 | with_reducible refine kept_drew ?_ | with_reducible refine kept_alloc ?_ _ | ((with_reducible refine kept_set ?_ ?hh _); (case hh => first | exact Nat.le_refl _ | (simp only; omega))))))
                clear hK K
                (try simp only [Act.put, List.setIfInBounds_toArray, List.set_cons_zero, List.set_cons_succ])
                refine wpAnyH_ready (rs := [7]) (by kernel_rfl) (by simp) ?_
                refine AllReadyH.cons (o := { dst := none, op := Go.Op.store 24 (Go.Operand.tmp 7) (Go.Operand.tmp 21), type := 0, pos := "law.go:37", after := #[{ on := 5, ground := Go.Ground.data }, { on := 3, ground := Go.Ground.data }, { on := 6, ground := Go.Ground.chain }, { on := 0, ground := Go.Ground.phase }, { on := 1, ground := Go.Ground.phase }, { on := 2, ground := Go.Ground.phase }, { on := 3, ground := Go.Ground.phase }, { on := 4, ground := Go.Ground.phase }, { on := 5, ground := Go.Ground.phase }, { on := 6, ground := Go.Ground.phase }], guard := none }) rfl (fun K hK => ?_) ?_
                · go_simp
                  refine hK.out _ _ ?_ (fun hHeld => ?_)
                  · (try dsimp only)
                    (((with_reducible refine tens_and ?_ HTC.out HUC.out); repeat (first | with_reducible assumption | with_reducible exact hk0 | with_reducible refine kept_drew ?_ | with_reducible refine kept_alloc ?_ _ | ((with_reducible refine kept_set ?_ ?hh _); (case hh => first | exact Nat.le_refl _ | (simp only; omega))))))
                  clear hK K
                  (try simp only [Act.put, List.setIfInBounds_toArray, List.set_cons_zero, List.set_cons_succ])
                  refine wpAnyH_done (by kernel_rfl) ?_ _
                  have Q6 : ((((((((((wb.setCell ⟨wa.heap.size + 1, 0, none⟩ (.int .i64 t.k)).setCell ⟨wa.heap.size + 1, 1, none⟩ (.int .i64 t.i)).setCell ⟨wa.heap.size + 1, 2, none⟩ (.int .i64 t.j)).setCell ⟨wa.heap.size + 1, 3, none⟩ (.int .i64 t.n)).setCell ⟨wa.heap.size + 1, 4, none⟩ (.slice a6 t.kids.length cap6)).setCell ⟨wa.heap.size, 0, none⟩ (.int .i64 u.k)).setCell ⟨wa.heap.size, 1, none⟩ (.int .i64 u.i)).setCell ⟨wa.heap.size, 2, none⟩ (.int .i64 u.j)).setCell ⟨wa.heap.size, 3, none⟩ (.int .i64 u.n)).setCell ⟨wa.heap.size, 4, none⟩ (.slice a7 u.kids.length cap7)).heap[wa.heap.size + 1]? = some (boxOf t (.slice a6 t.kids.length cap6)) := (five_other _ _ _ _ _ _ _ (by omega)).trans (five_set hZ6)
                  have Q7 : ((((((((((wb.setCell ⟨wa.heap.size + 1, 0, none⟩ (.int .i64 t.k)).setCell ⟨wa.heap.size + 1, 1, none⟩ (.int .i64 t.i)).setCell ⟨wa.heap.size + 1, 2, none⟩ (.int .i64 t.j)).setCell ⟨wa.heap.size + 1, 3, none⟩ (.int .i64 t.n)).setCell ⟨wa.heap.size + 1, 4, none⟩ (.slice a6 t.kids.length cap6)).setCell ⟨wa.heap.size, 0, none⟩ (.int .i64 u.k)).setCell ⟨wa.heap.size, 1, none⟩ (.int .i64 u.i)).setCell ⟨wa.heap.size, 2, none⟩ (.int .i64 u.j)).setCell ⟨wa.heap.size, 3, none⟩ (.int .i64 u.n)).setCell ⟨wa.heap.size, 4, none⟩ (.slice a7 u.kids.length cap7)).heap[wa.heap.size]? = some (boxOf u (.slice a7 u.kids.length cap7)) := five_set ((five_other _ _ _ _ _ _ _ (by omega)).trans hZ7)
                  have hL6 : Lies ((((((((((wb.setCell ⟨wa.heap.size + 1, 0, none⟩ (.int .i64 t.k)).setCell ⟨wa.heap.size + 1, 1, none⟩ (.int .i64 t.i)).setCell ⟨wa.heap.size + 1, 2, none⟩ (.int .i64 t.j)).setCell ⟨wa.heap.size + 1, 3, none⟩ (.int .i64 t.n)).setCell ⟨wa.heap.size + 1, 4, none⟩ (.slice a6 t.kids.length cap6)).setCell ⟨wa.heap.size, 0, none⟩ (.int .i64 u.k)).setCell ⟨wa.heap.size, 1, none⟩ (.int .i64 u.i)).setCell ⟨wa.heap.size, 2, none⟩ (.int .i64 u.j)).setCell ⟨wa.heap.size, 3, none⟩ (.int .i64 u.n)).setCell ⟨wa.heap.size, 4, none⟩ (.slice a7 u.kids.length cap7)) t.kids (.slice a6 t.kids.length cap6) := (hl6.keep (Q := fun _ => True) (fun b hp hlt => by have h0 := hp.1; exact (five_other _ _ _ _ _ _ _ (by omega)).trans ((five_other _ _ _ _ _ _ _ (by omega)).trans (HAB.block b hlt))) (fun _ _ _ => trivial)).lies
                  have hL7 : Lies ((((((((((wb.setCell ⟨wa.heap.size + 1, 0, none⟩ (.int .i64 t.k)).setCell ⟨wa.heap.size + 1, 1, none⟩ (.int .i64 t.i)).setCell ⟨wa.heap.size + 1, 2, none⟩ (.int .i64 t.j)).setCell ⟨wa.heap.size + 1, 3, none⟩ (.int .i64 t.n)).setCell ⟨wa.heap.size + 1, 4, none⟩ (.slice a6 t.kids.length cap6)).setCell ⟨wa.heap.size, 0, none⟩ (.int .i64 u.k)).setCell ⟨wa.heap.size, 1, none⟩ (.int .i64 u.i)).setCell ⟨wa.heap.size, 2, none⟩ (.int .i64 u.j)).setCell ⟨wa.heap.size, 3, none⟩ (.int .i64 u.n)).setCell ⟨wa.heap.size, 4, none⟩ (.slice a7 u.kids.length cap7)) u.kids (.slice a7 u.kids.length cap7) := (hl7.keep (Q := fun _ => True) (fun b hp hlt => by have h0 := hp.1; exact (five_other _ _ _ _ _ _ _ (by omega)).trans ((five_other _ _ _ _ _ _ _ (by omega)).trans rfl)) (fun _ _ _ => trivial)).lies
                  have hKW : Kept V ((((((((((wb.setCell ⟨wa.heap.size + 1, 0, none⟩ (.int .i64 t.k)).setCell ⟨wa.heap.size + 1, 1, none⟩ (.int .i64 t.i)).setCell ⟨wa.heap.size + 1, 2, none⟩ (.int .i64 t.j)).setCell ⟨wa.heap.size + 1, 3, none⟩ (.int .i64 t.n)).setCell ⟨wa.heap.size + 1, 4, none⟩ (.slice a6 t.kids.length cap6)).setCell ⟨wa.heap.size, 0, none⟩ (.int .i64 u.k)).setCell ⟨wa.heap.size, 1, none⟩ (.int .i64 u.i)).setCell ⟨wa.heap.size, 2, none⟩ (.int .i64 u.j)).setCell ⟨wa.heap.size, 3, none⟩ (.int .i64 u.n)).setCell ⟨wa.heap.size, 4, none⟩ (.slice a7 u.kids.length cap7)) := below_five (below_five hhb (by omega) _ _ _ _ _) (by omega) _ _ _ _ _
                  clear hHeld hl6 hl7 HAB
                  generalize ((((((((((wb.setCell ⟨wa.heap.size + 1, 0, none⟩ (.int .i64 t.k)).setCell ⟨wa.heap.size + 1, 1, none⟩ (.int .i64 t.i)).setCell ⟨wa.heap.size + 1, 2, none⟩ (.int .i64 t.j)).setCell ⟨wa.heap.size + 1, 3, none⟩ (.int .i64 t.n)).setCell ⟨wa.heap.size + 1, 4, none⟩ (.slice a6 t.kids.length cap6)).setCell ⟨wa.heap.size, 0, none⟩ (.int .i64 u.k)).setCell ⟨wa.heap.size, 1, none⟩ (.int .i64 u.i)).setCell ⟨wa.heap.size, 2, none⟩ (.int .i64 u.j)).setCell ⟨wa.heap.size, 3, none⟩ (.int .i64 u.n)).setCell ⟨wa.heap.size, 4, none⟩ (.slice a7 u.kids.length cap7)) = W at Q6 Q7 hL6 hL7 hKW ⊢
                  obtain ⟨g6, hg6⟩ : ∃ g, wa.heap.size + 1 = g := ⟨_, rfl⟩
                  rw [hg6] at Q6 ⊢
                  obtain ⟨g7, hg7⟩ : ∃ g, wa.heap.size = g := ⟨_, rfl⟩
                  rw [hg7] at Q7 ⊢
                  have HQ6 := Lib.hid Q6
                  have HQ7 := Lib.hid Q7
                  have HL6 := Lib.hid hL6
                  have HL7 := Lib.hid hL7
                  have HKW := Lib.hid hKW
                  clear Q6 Q7 hL6 hL7 hKW hg6 hg7
                  obtain ⟨m0, m1, m2, m3, m4⟩ := five_cells HQ6.out
                  obtain ⟨n0, n1, n2, n3, n4⟩ := five_cells HQ7.out
                  go_wp2_with fail
                  have CP := put_any t u W _ _ HL6.out HL7.out HDT.out HDU.out
                  rw [HPU.out] at CP
                  refine CP.mono ?_
                  clear CP m0 m1 m2 m3 m4 n0 n1 n2 n3 n4
                  rintro e w7 ⟨s8, rfl, hl8, hb7⟩
                  obtain ⟨a8, cap8, rfl, -, -⟩ := hl8.out
                  have qw7 := keep_block hb7 (block_lt (keep_block HKW.out (block_lt HQW.out) HQW.out)) (keep_block HKW.out (block_lt HQW.out) HQW.out)
                  obtain ⟨x0, x1, x2, x3, x4⟩ := five_cells qw7
                  have hgw7 := block_lt qw7
                  have hb8 : Below w7.heap.size w7 (w7.alloc (.cells #[.int .i64 U.k, .int .i64 U.i, .int .i64 U.j, .int .i64 U.n, .slice a8 U.kids.length cap8] 24)) := (Below.refl _ _).alloc (Nat.le_refl _) _
                  have HB7 := Lib.hid hb7
                  have HL8 := Lib.hid hl8
                  have HW7 := Lib.hid ((HLW.out.keep HKW.out).keep hb7)
                  clear hb7 hl8 qw7
                  go_wp2_with fail
                  refine (keepsame_eq U _ _ _ (HL8.out.lies.keep hb8) (HW7.out.keep hb8)).mono ?_
                  rintro e w9 ⟨rfl, hb9⟩
                  have hb79 : Below w7.heap.size w7 w9 := hb8.trans (hb9.mono hb8.size)
                  have r9 := keep_block hb9 (block_lt (alloc_new w7 _)) (alloc_new w7 _)
                  obtain ⟨z0, z1, z2, z3, z4⟩ := five_cells r9
                  have hsp := HL8.out.keep (w' := w9) (Q := fun b => b < w7.heap.size ∧ Own W.heap.size w9 b) (fun b _ hlt => hb79.block b hlt) (fun b hb hlt => ⟨hlt, hb.later hb79⟩)
                  have HSP := Lib.hid (spoil_any (fun b => b < w7.heap.size ∧ Own W.heap.size w9 b) w7.heap.size (fun b hb => hb.1) U.size U w9 _ (Nat.le_refl _) hsp (fun b hb => hb.2.2) hb79.size)
                  have hW9 : Below W.heap.size W w9 := HB7.out.trans (hb79.mono HB7.out.size)
                  have HW9 := Lib.hid hW9
                  clear hb79 hb8 hb9 hsp r9 x0 x1 x2 x3 x4 hW9
                  go_wp2_with fail
                  refine HSP.out.mono ?_
                  rintro e w10 ⟨rfl, hshr⟩
                  have hB10 : Below W.heap.size w9 w10 := hshr.below (fun b hb => hb.2.1) HW9.out.size
                  have hW10 : Kept W w10 := HW9.out.trans hB10
                  have HW10 := Lib.hid hW10
                  have H5t := Lib.hid (HTC.out.keep HKW.out)
                  have H5u := Lib.hid (HUC.out.keep HKW.out)
                  have HLTW := Lib.hid (HLT.out.keep HKW.out)
                  have HLUW := Lib.hid (HLU.out.keep HKW.out)
                  have H56 : Hid (Five W g6 t (.slice a6 t.kids.length cap6)) := Lib.hid (five_cells HQ6.out)
                  have H57 : Hid (Five W g7 u (.slice a7 u.kids.length cap7)) := Lib.hid (five_cells HQ7.out)
                  clear hshr hB10 HSP z0 z1 z2 z3 z4
                  obtain ⟨d0, d1, d2, d3, d4⟩ := H5t.out.keep hW10
                  obtain ⟨m0, m1, m2, m3, m4⟩ := H56.out.keep hW10
                  go_wp2_with fail
                  refine (keepsame_eq t _ _ _ (HL6.out.keep hW10) (HLTW.out.keep hW10)).mono ?_
                  rintro e w11 ⟨rfl, hb11⟩
                  have hW11 : Kept W w11 := kept_call hW10 hb11
                  clear hb11 d0 d1 d2 d3 d4 m0 m1 m2 m3 m4
                  obtain ⟨d0, d1, d2, d3, d4⟩ := H5u.out.keep hW11
                  obtain ⟨m0, m1, m2, m3, m4⟩ := H57.out.keep hW11
                  go_wp2_with fail
                  refine (keepsame_eq u _ _ _ (HL7.out.keep hW11) (HLUW.out.keep hW11)).mono ?_
                  rintro e w12 ⟨rfl, hb12⟩
                  have hW12 : Kept W w12 := kept_call hW11 hb12
                  go_wp2_with fail
                  refine (wakes7_any _).mono ?_
                  rintro e w13 ⟨rfl, hb13⟩
                  have hW13 : Kept W w13 := kept_call hW12 hb13
                  go_wp2
                  go_ret
                  exact ⟨rfl, HBV.out.trans ((HKW.out.trans (hW13.mono HKW.out.size)).mono HBV.out.size)⟩
                exact AllReadyH.nil
              exact AllReadyH.nil
            exact AllReadyH.nil
          exact AllReadyH.nil
        exact AllReadyH.nil
      refine AllReadyH.cons (o := { dst := some 6, op := Go.Op.alloc 24, type := 0, pos := "law.go:37", after := #[], guard := none }) rfl (fun K hK => ?_) ?_
      · go_simp
        refine hK.out _ _ ?_ (fun hHeld => ?_)
        · (try dsimp only)
          (((with_reducible refine tens_and ?_ HTC.out HUC.out); repeat (first | with_reducible assumption | with_reducible exact hk0 | with_reducible refine kept_drew ?_ | with_reducible refine kept_alloc ?_ _ | ((with_reducible refine kept_set ?_ ?hh _); (case hh => first | exact Nat.le_refl _ | (simp only; omega))))))
        clear hK K
        (try simp only [Act.put, List.setIfInBounds_toArray, List.set_cons_zero, List.set_cons_succ])
        have hZ6 : (V.drew.alloc zeroObj).heap[V.heap.size]? = some zeroObj := alloc_new _ _
        refine wpAnyH_ready (rs := [1, 5]) (by kernel_rfl) (by simp) ?_
        refine AllReadyH.cons (o := { dst := some 19, op := Go.Op.call { callee := Go.Callee.value (Go.Operand.func 10), args := #[Go.Operand.tmp 18], argTypes := #[24] }, type := 24, pos := "law.go:37", after := #[{ on := 0, ground := Go.Ground.data }], guard := none }) rfl (fun K hK => ?_) ?_
        · go_simp
          (go_at_call 10; have hS := hHeld.1; have hnc := Below.size hS; refine (twin_any t _ _ (kept_lies hS HLT.out) (by omega)).mono ?_; rintro e wa ⟨s6, rfl, hl6, hbn⟩; obtain ⟨a6, cap6, rfl, -, -⟩ := hl6.out; have hl6 := hl6.from (B' := V.heap.size + 1) (by simp); have hha := kept_call hS hbn; have hsa : V.heap.size + 1 ≤ wa.heap.size := (by have := hbn.size; first | omega | (simp at this; omega)); have hZ6 := keep_block hbn (block_lt hZ6) hZ6; have hb6 := block_lt hZ6; clear hbn hS)
          refine hK.out _ _ ?_ (fun hHeld => ?_)
          · (try dsimp only)
            (((with_reducible refine tens_and ?_ HTC.out HUC.out); repeat (first | with_reducible assumption | with_reducible exact hk0 | with_reducible refine kept_drew ?_ | with_reducible refine kept_alloc ?_ _ | ((with_reducible refine kept_set ?_ ?hh _); (case hh => first | exact Nat.le_refl _ | (simp only; omega))))))
          clear hK K
          (try simp only [Act.put, List.setIfInBounds_toArray, List.set_cons_zero, List.set_cons_succ])
          refine wpAnyH_ready (rs := [3, 5]) (by kernel_rfl) (by simp) ?_
          refine AllReadyH.cons (o := { dst := some 21, op := Go.Op.call { callee := Go.Callee.value (Go.Operand.func 10), args := #[Go.Operand.tmp 20], argTypes := #[24] }, type := 24, pos := "law.go:37", after := #[{ on := 2, ground := Go.Ground.data }, { on := 1, ground := Go.Ground.chain }], guard := none }) rfl (fun K hK => ?_) ?_
          · go_simp
            (go_at_call 10; have hS := hHeld.1; refine (twin_any u _ _ (kept_lies hS HLU.out) (by omega)).mono ?_; rintro e wb ⟨s7, rfl, hl7, hbn⟩; obtain ⟨a7, cap7, rfl, -, -⟩ := hl7.out; have hl7 := hl7.from (B' := wa.heap.size + 0) (by simp); have hhb := kept_call hS hbn; have hsb : wa.heap.size + 0 ≤ wb.heap.size := (by have := hbn.size; first | omega | (simp at this; omega)); have hZ6 := keep_block hbn (block_lt hZ6) hZ6; have hb6 := block_lt hZ6; obtain ⟨⟨c60, c61, c62, c63, c64⟩, f60, f61, f62, f63, f64⟩ := And.intro (five_cells hZ6) (five_free hZ6); have HAB : Below wa.heap.size wa wb := by first | exact hbn | exact Below.trans (Below.refl _ _) hbn; clear hbn hS)
            refine hK.out _ _ ?_ (fun hHeld => ?_)
            · (try dsimp only)
              (((with_reducible refine tens_and ?_ HTC.out HUC.out); repeat (first | with_reducible assumption | with_reducible exact hk0 | with_reducible refine kept_drew ?_ | with_reducible refine kept_alloc ?_ _ | ((with_reducible refine kept_set ?_ ?hh _); (case hh => first | exact Nat.le_refl _ | (simp only; omega))))))
            clear hK K
            (try simp only [Act.put, List.setIfInBounds_toArray, List.set_cons_zero, List.set_cons_succ])
            refine wpAnyH_ready (rs := [5]) (by kernel_rfl) (by simp) ?_
            refine AllReadyH.cons (o := { dst := some 7, op := Go.Op.alloc 24, type := 0, pos := "law.go:37", after := #[], guard := none }) rfl (fun K hK => ?_) ?_
            · go_simp
              refine hK.out _ _ ?_ (fun hHeld => ?_)
              · (try dsimp only)
                (((with_reducible refine tens_and ?_ HTC.out HUC.out); repeat (first | with_reducible assumption | with_reducible exact hk0 | with_reducible refine kept_drew ?_ | with_reducible refine kept_alloc ?_ _ | ((with_reducible refine kept_set ?_ ?hh _); (case hh => first | exact Nat.le_refl _ | (simp only; omega))))))
              clear hK K
              (try simp only [Act.put, List.setIfInBounds_toArray, List.set_cons_zero, List.set_cons_succ])
              refine wpAnyH_ready (rs := [6]) (by kernel_rfl) (by simp) ?_
              refine AllReadyH.cons (o := { dst := none, op := Go.Op.store 24 (Go.Operand.tmp 6) (Go.Operand.tmp 19), type := 0, pos := "law.go:37", after := #[{ on := 4, ground := Go.Ground.data }, { on := 1, ground := Go.Ground.data }, { on := 3, ground := Go.Ground.chain }, { on := 0, ground := Go.Ground.phase }, { on := 1, ground := Go.Ground.phase }, { on := 2, ground := Go.Ground.textOnly Go.Departure.lateStores }, { on := 3, ground := Go.Ground.textOnly Go.Departure.lateStoresUnsure }, { on := 4, ground := Go.Ground.phase }, { on := 5, ground := Go.Ground.phase }], guard := none }) rfl (fun K hK => ?_) ?_
              · go_simp
                refine hK.out _ _ ?_ (fun hHeld => ?_)
                · (try dsimp only)
                  (((with_reducible refine tens_and ?_ HTC.out HUC.out); repeat (first | with_reducible assumption | with_reducible exact hk0 | with_reducible refine kept_drew ?_ | with_reducible refine kept_alloc ?_ _ | ((with_reducible refine kept_set ?_ ?hh _); (case hh => first | exact Nat.le_refl _ | (simp only; omega))))))
                clear hK K
                (try simp only [Act.put, List.setIfInBounds_toArray, List.set_cons_zero, List.set_cons_succ])
                refine wpAnyH_ready (rs := [7]) (by kernel_rfl) (by simp) ?_
                refine AllReadyH.cons (o := { dst := none, op := Go.Op.store 24 (Go.Operand.tmp 7) (Go.Operand.tmp 21), type := 0, pos := "law.go:37", after := #[{ on := 5, ground := Go.Ground.data }, { on := 3, ground := Go.Ground.data }, { on := 6, ground := Go.Ground.chain }, { on := 0, ground := Go.Ground.phase }, { on := 1, ground := Go.Ground.phase }, { on := 2, ground := Go.Ground.phase }, { on := 3, ground := Go.Ground.phase }, { on := 4, ground := Go.Ground.phase }, { on := 5, ground := Go.Ground.phase }, { on := 6, ground := Go.Ground.phase }], guard := none }) rfl (fun K hK => ?_) ?_
                · go_simp
                  refine hK.out _ _ ?_ (fun hHeld => ?_)
                  · (try dsimp only)
                    (((with_reducible refine tens_and ?_ HTC.out HUC.out); repeat (first | with_reducible assumption | with_reducible exact hk0 | with_reducible refine kept_drew ?_ | with_reducible refine kept_alloc ?_ _ | ((with_reducible refine kept_set ?_ ?hh _); (case hh => first | exact Nat.le_refl _ | (simp only; omega))))))
                  clear hK K
                  (try simp only [Act.put, List.setIfInBounds_toArray, List.set_cons_zero, List.set_cons_succ])
                  refine wpAnyH_done (by kernel_rfl) ?_ _
                  have Q6 : ((((((wb.setCell ⟨V.heap.size, 0, none⟩ (.int .i64 t.k)).setCell ⟨V.heap.size, 1, none⟩ (.int .i64 t.i)).setCell ⟨V.heap.size, 2, none⟩ (.int .i64 t.j)).setCell ⟨V.heap.size, 3, none⟩ (.int .i64 t.n)).setCell ⟨V.heap.size, 4, none⟩ (.slice a6 t.kids.length cap6)).alloc (.cells #[.int .i64 u.k, .int .i64 u.i, .int .i64 u.j, .int .i64 u.n, .slice a7 u.kids.length cap7] 24)).heap[V.heap.size]? = some (boxOf t (.slice a6 t.kids.length cap6)) := (Below.heap_alloc _ _ _ (by rw [five_size]; exact hb6)).trans (five_set hZ6)
                  have Q7 : ((((((wb.setCell ⟨V.heap.size, 0, none⟩ (.int .i64 t.k)).setCell ⟨V.heap.size, 1, none⟩ (.int .i64 t.i)).setCell ⟨V.heap.size, 2, none⟩ (.int .i64 t.j)).setCell ⟨V.heap.size, 3, none⟩ (.int .i64 t.n)).setCell ⟨V.heap.size, 4, none⟩ (.slice a6 t.kids.length cap6)).alloc (.cells #[.int .i64 u.k, .int .i64 u.i, .int .i64 u.j, .int .i64 u.n, .slice a7 u.kids.length cap7] 24)).heap[wb.heap.size]? = some (boxOf u (.slice a7 u.kids.length cap7)) := five_new _ _ _ _ _ _ _ _
                  have hL6 : Lies ((((((wb.setCell ⟨V.heap.size, 0, none⟩ (.int .i64 t.k)).setCell ⟨V.heap.size, 1, none⟩ (.int .i64 t.i)).setCell ⟨V.heap.size, 2, none⟩ (.int .i64 t.j)).setCell ⟨V.heap.size, 3, none⟩ (.int .i64 t.n)).setCell ⟨V.heap.size, 4, none⟩ (.slice a6 t.kids.length cap6)).alloc (.cells #[.int .i64 u.k, .int .i64 u.i, .int .i64 u.j, .int .i64 u.n, .slice a7 u.kids.length cap7] 24)) t.kids (.slice a6 t.kids.length cap6) := (hl6.keep (Q := fun _ => True) (fun b hp hlt => by have h0 := hp.1; exact (Below.heap_alloc _ _ _ (by rw [five_size]; omega)).trans ((five_other _ _ _ _ _ _ _ (by omega)).trans (HAB.block b hlt))) (fun _ _ _ => trivial)).lies
                  have hL7 : Lies ((((((wb.setCell ⟨V.heap.size, 0, none⟩ (.int .i64 t.k)).setCell ⟨V.heap.size, 1, none⟩ (.int .i64 t.i)).setCell ⟨V.heap.size, 2, none⟩ (.int .i64 t.j)).setCell ⟨V.heap.size, 3, none⟩ (.int .i64 t.n)).setCell ⟨V.heap.size, 4, none⟩ (.slice a6 t.kids.length cap6)).alloc (.cells #[.int .i64 u.k, .int .i64 u.i, .int .i64 u.j, .int .i64 u.n, .slice a7 u.kids.length cap7] 24)) u.kids (.slice a7 u.kids.length cap7) := (hl7.keep (Q := fun _ => True) (fun b hp hlt => by have h0 := hp.1; exact (Below.heap_alloc _ _ _ (by rw [five_size]; omega)).trans ((five_other _ _ _ _ _ _ _ (by omega)).trans rfl)) (fun _ _ _ => trivial)).lies
                  have hKW : Kept V ((((((wb.setCell ⟨V.heap.size, 0, none⟩ (.int .i64 t.k)).setCell ⟨V.heap.size, 1, none⟩ (.int .i64 t.i)).setCell ⟨V.heap.size, 2, none⟩ (.int .i64 t.j)).setCell ⟨V.heap.size, 3, none⟩ (.int .i64 t.n)).setCell ⟨V.heap.size, 4, none⟩ (.slice a6 t.kids.length cap6)).alloc (.cells #[.int .i64 u.k, .int .i64 u.i, .int .i64 u.j, .int .i64 u.n, .slice a7 u.kids.length cap7] 24)) := below_five_alloc hhb hhb.size (by omega) _ _ _ _ _ _
                  clear hHeld hl6 hl7 HAB
                  generalize ((((((wb.setCell ⟨V.heap.size, 0, none⟩ (.int .i64 t.k)).setCell ⟨V.heap.size, 1, none⟩ (.int .i64 t.i)).setCell ⟨V.heap.size, 2, none⟩ (.int .i64 t.j)).setCell ⟨V.heap.size, 3, none⟩ (.int .i64 t.n)).setCell ⟨V.heap.size, 4, none⟩ (.slice a6 t.kids.length cap6)).alloc (.cells #[.int .i64 u.k, .int .i64 u.i, .int .i64 u.j, .int .i64 u.n, .slice a7 u.kids.length cap7] 24)) = W at Q6 Q7 hL6 hL7 hKW ⊢
                  obtain ⟨g7, hg7⟩ : ∃ g, wb.heap.size = g := ⟨_, rfl⟩
                  rw [hg7] at Q7 ⊢
                  obtain ⟨g6, hg6⟩ : ∃ g, V.heap.size = g := ⟨_, rfl⟩
                  rw [hg6] at Q6 ⊢
                  have HQ6 := Lib.hid Q6
                  have HQ7 := Lib.hid Q7
                  have HL6 := Lib.hid hL6
                  have HL7 := Lib.hid hL7
                  have HKW := Lib.hid hKW
                  clear Q6 Q7 hL6 hL7 hKW hg6 hg7
                  obtain ⟨m0, m1, m2, m3, m4⟩ := five_cells HQ6.out
                  obtain ⟨n0, n1, n2, n3, n4⟩ := five_cells HQ7.out
                  go_wp2_with fail
                  have CP := put_any t u W _ _ HL6.out HL7.out HDT.out HDU.out
                  rw [HPU.out] at CP
                  refine CP.mono ?_
                  clear CP m0 m1 m2 m3 m4 n0 n1 n2 n3 n4
                  rintro e w7 ⟨s8, rfl, hl8, hb7⟩
                  obtain ⟨a8, cap8, rfl, -, -⟩ := hl8.out
                  have qw7 := keep_block hb7 (block_lt (keep_block HKW.out (block_lt HQW.out) HQW.out)) (keep_block HKW.out (block_lt HQW.out) HQW.out)
                  obtain ⟨x0, x1, x2, x3, x4⟩ := five_cells qw7
                  have hgw7 := block_lt qw7
                  have hb8 : Below w7.heap.size w7 (w7.alloc (.cells #[.int .i64 U.k, .int .i64 U.i, .int .i64 U.j, .int .i64 U.n, .slice a8 U.kids.length cap8] 24)) := (Below.refl _ _).alloc (Nat.le_refl _) _
                  have HB7 := Lib.hid hb7
                  have HL8 := Lib.hid hl8
                  have HW7 := Lib.hid ((HLW.out.keep HKW.out).keep hb7)
                  clear hb7 hl8 qw7
                  go_wp2_with fail
                  refine (keepsame_eq U _ _ _ (HL8.out.lies.keep hb8) (HW7.out.keep hb8)).mono ?_
                  rintro e w9 ⟨rfl, hb9⟩
                  have hb79 : Below w7.heap.size w7 w9 := hb8.trans (hb9.mono hb8.size)
                  have r9 := keep_block hb9 (block_lt (alloc_new w7 _)) (alloc_new w7 _)
                  obtain ⟨z0, z1, z2, z3, z4⟩ := five_cells r9
                  have hsp := HL8.out.keep (w' := w9) (Q := fun b => b < w7.heap.size ∧ Own W.heap.size w9 b) (fun b _ hlt => hb79.block b hlt) (fun b hb hlt => ⟨hlt, hb.later hb79⟩)
                  have HSP := Lib.hid (spoil_any (fun b => b < w7.heap.size ∧ Own W.heap.size w9 b) w7.heap.size (fun b hb => hb.1) U.size U w9 _ (Nat.le_refl _) hsp (fun b hb => hb.2.2) hb79.size)
                  have hW9 : Below W.heap.size W w9 := HB7.out.trans (hb79.mono HB7.out.size)
                  have HW9 := Lib.hid hW9
                  clear hb79 hb8 hb9 hsp r9 x0 x1 x2 x3 x4 hW9
                  go_wp2_with fail
                  refine HSP.out.mono ?_
                  rintro e w10 ⟨rfl, hshr⟩
                  have hB10 : Below W.heap.size w9 w10 := hshr.below (fun b hb => hb.2.1) HW9.out.size
                  have hW10 : Kept W w10 := HW9.out.trans hB10
                  have HW10 := Lib.hid hW10
                  have H5t := Lib.hid (HTC.out.keep HKW.out)
                  have H5u := Lib.hid (HUC.out.keep HKW.out)
                  have HLTW := Lib.hid (HLT.out.keep HKW.out)
                  have HLUW := Lib.hid (HLU.out.keep HKW.out)
                  have H56 : Hid (Five W g6 t (.slice a6 t.kids.length cap6)) := Lib.hid (five_cells HQ6.out)
                  have H57 : Hid (Five W g7 u (.slice a7 u.kids.length cap7)) := Lib.hid (five_cells HQ7.out)
                  clear hshr hB10 HSP z0 z1 z2 z3 z4
                  obtain ⟨d0, d1, d2, d3, d4⟩ := H5t.out.keep hW10
                  obtain ⟨m0, m1, m2, m3, m4⟩ := H56.out.keep hW10
                  go_wp2_with fail
                  refine (keepsame_eq t _ _ _ (HL6.out.keep hW10) (HLTW.out.keep hW10)).mono ?_
                  rintro e w11 ⟨rfl, hb11⟩
                  have hW11 : Kept W w11 := kept_call hW10 hb11
                  clear hb11 d0 d1 d2 d3 d4 m0 m1 m2 m3 m4
                  obtain ⟨d0, d1, d2, d3, d4⟩ := H5u.out.keep hW11
                  obtain ⟨m0, m1, m2, m3, m4⟩ := H57.out.keep hW11
                  go_wp2_with fail
                  refine (keepsame_eq u _ _ _ (HL7.out.keep hW11) (HLUW.out.keep hW11)).mono ?_
                  rintro e w12 ⟨rfl, hb12⟩
                  have hW12 : Kept W w12 := kept_call hW11 hb12
                  go_wp2_with fail
                  refine (wakes7_any _).mono ?_
                  rintro e w13 ⟨rfl, hb13⟩
                  have hW13 : Kept W w13 := kept_call hW12 hb13
                  go_wp2
                  go_ret
                  exact ⟨rfl, HBV.out.trans ((HKW.out.trans (hW13.mono HKW.out.size)).mono HBV.out.size)⟩
                exact AllReadyH.nil
              exact AllReadyH.nil
            exact AllReadyH.nil
          refine AllReadyH.cons (o := { dst := some 7, op := Go.Op.alloc 24, type := 0, pos := "law.go:37", after := #[], guard := none }) rfl (fun K hK => ?_) ?_
          · go_simp
            refine hK.out _ _ ?_ (fun hHeld => ?_)
            · (try dsimp only)
              (((with_reducible refine tens_and ?_ HTC.out HUC.out); repeat (first | with_reducible assumption | with_reducible exact hk0 | with_reducible refine kept_drew ?_ | with_reducible refine kept_alloc ?_ _ | ((with_reducible refine kept_set ?_ ?hh _); (case hh => first | exact Nat.le_refl _ | (simp only; omega))))))
            clear hK K
            (try simp only [Act.put, List.setIfInBounds_toArray, List.set_cons_zero, List.set_cons_succ])
            have hZ6 := (Below.heap_alloc wa zeroObj _ (block_lt hZ6)).trans hZ6
            have hZ7 : (wa.alloc zeroObj).heap[wa.heap.size]? = some zeroObj := alloc_new _ _
            refine wpAnyH_ready (rs := [3]) (by kernel_rfl) (by simp) ?_
            refine AllReadyH.cons (o := { dst := some 21, op := Go.Op.call { callee := Go.Callee.value (Go.Operand.func 10), args := #[Go.Operand.tmp 20], argTypes := #[24] }, type := 24, pos := "law.go:37", after := #[{ on := 2, ground := Go.Ground.data }, { on := 1, ground := Go.Ground.chain }], guard := none }) rfl (fun K hK => ?_) ?_
            · go_simp
              (go_at_call 10; have hS := hHeld.1; refine (twin_any u _ _ (kept_lies hS HLU.out) (by omega)).mono ?_; rintro e wb ⟨s7, rfl, hl7, hbn⟩; obtain ⟨a7, cap7, rfl, -, -⟩ := hl7.out; have hl7 := hl7.from (B' := wa.heap.size + 1) (by simp); have hhb := kept_call hS hbn; have hsb : wa.heap.size + 1 ≤ wb.heap.size := (by have := hbn.size; first | omega | (simp at this; omega)); have hZ6 := keep_block hbn (block_lt hZ6) hZ6; have hb6 := block_lt hZ6; have hZ7 := keep_block hbn (block_lt hZ7) hZ7; have hb7 := block_lt hZ7; obtain ⟨⟨c60, c61, c62, c63, c64⟩, f60, f61, f62, f63, f64⟩ := And.intro (five_cells hZ6) (five_free hZ6); obtain ⟨⟨c70, c71, c72, c73, c74⟩, f70, f71, f72, f73, f74⟩ := And.intro (five_cells hZ7) (five_free hZ7); have HAB : Below wa.heap.size wa wb := ((Below.refl _ _).alloc (Nat.le_refl _) _).trans (hbn.mono (by simp)); clear hbn hS)
              refine hK.out _ _ ?_ (fun hHeld => ?_)
              · (try dsimp only)
                (((with_reducible refine tens_and ?_ HTC.out HUC.out); repeat (first | with_reducible assumption | with_reducible exact hk0 | with_reducible refine kept_drew ?_ | with_reducible refine kept_alloc ?_ _ | ((with_reducible refine kept_set ?_ ?hh _); (case hh => first | exact Nat.le_refl _ | (simp only; omega))))))
              clear hK K
              (try simp only [Act.put, List.setIfInBounds_toArray, List.set_cons_zero, List.set_cons_succ])
              refine wpAnyH_ready (rs := [6]) (by kernel_rfl) (by simp) ?_
              refine AllReadyH.cons (o := { dst := none, op := Go.Op.store 24 (Go.Operand.tmp 6) (Go.Operand.tmp 19), type := 0, pos := "law.go:37", after := #[{ on := 4, ground := Go.Ground.data }, { on := 1, ground := Go.Ground.data }, { on := 3, ground := Go.Ground.chain }, { on := 0, ground := Go.Ground.phase }, { on := 1, ground := Go.Ground.phase }, { on := 2, ground := Go.Ground.textOnly Go.Departure.lateStores }, { on := 3, ground := Go.Ground.textOnly Go.Departure.lateStoresUnsure }, { on := 4, ground := Go.Ground.phase }, { on := 5, ground := Go.Ground.phase }], guard := none }) rfl (fun K hK => ?_) ?_
              · go_simp
                refine hK.out _ _ ?_ (fun hHeld => ?_)
                · (try dsimp only)
                  (((with_reducible refine tens_and ?_ HTC.out HUC.out); repeat (first | with_reducible assumption | with_reducible exact hk0 | with_reducible refine kept_drew ?_ | with_reducible refine kept_alloc ?_ _ | ((with_reducible refine kept_set ?_ ?hh _); (case hh => first | exact Nat.le_refl _ | (simp only; omega))))))
                clear hK K
                (try simp only [Act.put, List.setIfInBounds_toArray, List.set_cons_zero, List.set_cons_succ])
                refine wpAnyH_ready (rs := [7]) (by kernel_rfl) (by simp) ?_
                refine AllReadyH.cons (o := { dst := none, op := Go.Op.store 24 (Go.Operand.tmp 7) (Go.Operand.tmp 21), type := 0, pos := "law.go:37", after := #[{ on := 5, ground := Go.Ground.data }, { on := 3, ground := Go.Ground.data }, { on := 6, ground := Go.Ground.chain }, { on := 0, ground := Go.Ground.phase }, { on := 1, ground := Go.Ground.phase }, { on := 2, ground := Go.Ground.phase }, { on := 3, ground := Go.Ground.phase }, { on := 4, ground := Go.Ground.phase }, { on := 5, ground := Go.Ground.phase }, { on := 6, ground := Go.Ground.phase }], guard := none }) rfl (fun K hK => ?_) ?_
                · go_simp
                  refine hK.out _ _ ?_ (fun hHeld => ?_)
                  · (try dsimp only)
                    (((with_reducible refine tens_and ?_ HTC.out HUC.out); repeat (first | with_reducible assumption | with_reducible exact hk0 | with_reducible refine kept_drew ?_ | with_reducible refine kept_alloc ?_ _ | ((with_reducible refine kept_set ?_ ?hh _); (case hh => first | exact Nat.le_refl _ | (simp only; omega))))))
                  clear hK K
                  (try simp only [Act.put, List.setIfInBounds_toArray, List.set_cons_zero, List.set_cons_succ])
                  refine wpAnyH_done (by kernel_rfl) ?_ _
                  have Q6 : ((((((((((wb.setCell ⟨V.heap.size, 0, none⟩ (.int .i64 t.k)).setCell ⟨V.heap.size, 1, none⟩ (.int .i64 t.i)).setCell ⟨V.heap.size, 2, none⟩ (.int .i64 t.j)).setCell ⟨V.heap.size, 3, none⟩ (.int .i64 t.n)).setCell ⟨V.heap.size, 4, none⟩ (.slice a6 t.kids.length cap6)).setCell ⟨wa.heap.size, 0, none⟩ (.int .i64 u.k)).setCell ⟨wa.heap.size, 1, none⟩ (.int .i64 u.i)).setCell ⟨wa.heap.size, 2, none⟩ (.int .i64 u.j)).setCell ⟨wa.heap.size, 3, none⟩ (.int .i64 u.n)).setCell ⟨wa.heap.size, 4, none⟩ (.slice a7 u.kids.length cap7)).heap[V.heap.size]? = some (boxOf t (.slice a6 t.kids.length cap6)) := (five_other _ _ _ _ _ _ _ (by omega)).trans (five_set hZ6)
                  have Q7 : ((((((((((wb.setCell ⟨V.heap.size, 0, none⟩ (.int .i64 t.k)).setCell ⟨V.heap.size, 1, none⟩ (.int .i64 t.i)).setCell ⟨V.heap.size, 2, none⟩ (.int .i64 t.j)).setCell ⟨V.heap.size, 3, none⟩ (.int .i64 t.n)).setCell ⟨V.heap.size, 4, none⟩ (.slice a6 t.kids.length cap6)).setCell ⟨wa.heap.size, 0, none⟩ (.int .i64 u.k)).setCell ⟨wa.heap.size, 1, none⟩ (.int .i64 u.i)).setCell ⟨wa.heap.size, 2, none⟩ (.int .i64 u.j)).setCell ⟨wa.heap.size, 3, none⟩ (.int .i64 u.n)).setCell ⟨wa.heap.size, 4, none⟩ (.slice a7 u.kids.length cap7)).heap[wa.heap.size]? = some (boxOf u (.slice a7 u.kids.length cap7)) := five_set ((five_other _ _ _ _ _ _ _ (by omega)).trans hZ7)
                  have hL6 : Lies ((((((((((wb.setCell ⟨V.heap.size, 0, none⟩ (.int .i64 t.k)).setCell ⟨V.heap.size, 1, none⟩ (.int .i64 t.i)).setCell ⟨V.heap.size, 2, none⟩ (.int .i64 t.j)).setCell ⟨V.heap.size, 3, none⟩ (.int .i64 t.n)).setCell ⟨V.heap.size, 4, none⟩ (.slice a6 t.kids.length cap6)).setCell ⟨wa.heap.size, 0, none⟩ (.int .i64 u.k)).setCell ⟨wa.heap.size, 1, none⟩ (.int .i64 u.i)).setCell ⟨wa.heap.size, 2, none⟩ (.int .i64 u.j)).setCell ⟨wa.heap.size, 3, none⟩ (.int .i64 u.n)).setCell ⟨wa.heap.size, 4, none⟩ (.slice a7 u.kids.length cap7)) t.kids (.slice a6 t.kids.length cap6) := (hl6.keep (Q := fun _ => True) (fun b hp hlt => by have h0 := hp.1; exact (five_other _ _ _ _ _ _ _ (by omega)).trans ((five_other _ _ _ _ _ _ _ (by omega)).trans (HAB.block b hlt))) (fun _ _ _ => trivial)).lies
                  have hL7 : Lies ((((((((((wb.setCell ⟨V.heap.size, 0, none⟩ (.int .i64 t.k)).setCell ⟨V.heap.size, 1, none⟩ (.int .i64 t.i)).setCell ⟨V.heap.size, 2, none⟩ (.int .i64 t.j)).setCell ⟨V.heap.size, 3, none⟩ (.int .i64 t.n)).setCell ⟨V.heap.size, 4, none⟩ (.slice a6 t.kids.length cap6)).setCell ⟨wa.heap.size, 0, none⟩ (.int .i64 u.k)).setCell ⟨wa.heap.size, 1, none⟩ (.int .i64 u.i)).setCell ⟨wa.heap.size, 2, none⟩ (.int .i64 u.j)).setCell ⟨wa.heap.size, 3, none⟩ (.int .i64 u.n)).setCell ⟨wa.heap.size, 4, none⟩ (.slice a7 u.kids.length cap7)) u.kids (.slice a7 u.kids.length cap7) := (hl7.keep (Q := fun _ => True) (fun b hp hlt => by have h0 := hp.1; exact (five_other _ _ _ _ _ _ _ (by omega)).trans ((five_other _ _ _ _ _ _ _ (by omega)).trans rfl)) (fun _ _ _ => trivial)).lies
                  have hKW : Kept V ((((((((((wb.setCell ⟨V.heap.size, 0, none⟩ (.int .i64 t.k)).setCell ⟨V.heap.size, 1, none⟩ (.int .i64 t.i)).setCell ⟨V.heap.size, 2, none⟩ (.int .i64 t.j)).setCell ⟨V.heap.size, 3, none⟩ (.int .i64 t.n)).setCell ⟨V.heap.size, 4, none⟩ (.slice a6 t.kids.length cap6)).setCell ⟨wa.heap.size, 0, none⟩ (.int .i64 u.k)).setCell ⟨wa.heap.size, 1, none⟩ (.int .i64 u.i)).setCell ⟨wa.heap.size, 2, none⟩ (.int .i64 u.j)).setCell ⟨wa.heap.size, 3, none⟩ (.int .i64 u.n)).setCell ⟨wa.heap.size, 4, none⟩ (.slice a7 u.kids.length cap7)) := below_five (below_five hhb (by omega) _ _ _ _ _) (by omega) _ _ _ _ _
                  clear hHeld hl6 hl7 HAB
                  generalize ((((((((((wb.setCell ⟨V.heap.size, 0, none⟩ (.int .i64 t.k)).setCell ⟨V.heap.size, 1, none⟩ (.int .i64 t.i)).setCell ⟨V.heap.size, 2, none⟩ (.int .i64 t.j)).setCell ⟨V.heap.size, 3, none⟩ (.int .i64 t.n)).setCell ⟨V.heap.size, 4, none⟩ (.slice a6 t.kids.length cap6)).setCell ⟨wa.heap.size, 0, none⟩ (.int .i64 u.k)).setCell ⟨wa.heap.size, 1, none⟩ (.int .i64 u.i)).setCell ⟨wa.heap.size, 2, none⟩ (.int .i64 u.j)).setCell ⟨wa.heap.size, 3, none⟩ (.int .i64 u.n)).setCell ⟨wa.heap.size, 4, none⟩ (.slice a7 u.kids.length cap7)) = W at Q6 Q7 hL6 hL7 hKW ⊢
                  obtain ⟨g7, hg7⟩ : ∃ g, wa.heap.size = g := ⟨_, rfl⟩
                  rw [hg7] at Q7 ⊢
                  obtain ⟨g6, hg6⟩ : ∃ g, V.heap.size = g := ⟨_, rfl⟩
                  rw [hg6] at Q6 ⊢
                  have HQ6 := Lib.hid Q6
                  have HQ7 := Lib.hid Q7
                  have HL6 := Lib.hid hL6
                  have HL7 := Lib.hid hL7
                  have HKW := Lib.hid hKW
                  clear Q6 Q7 hL6 hL7 hKW hg6 hg7
                  obtain ⟨m0, m1, m2, m3, m4⟩ := five_cells HQ6.out
                  obtain ⟨n0, n1, n2, n3, n4⟩ := five_cells HQ7.out
                  go_wp2_with fail
                  have CP := put_any t u W _ _ HL6.out HL7.out HDT.out HDU.out
                  rw [HPU.out] at CP
                  refine CP.mono ?_
                  clear CP m0 m1 m2 m3 m4 n0 n1 n2 n3 n4
                  rintro e w7 ⟨s8, rfl, hl8, hb7⟩
                  obtain ⟨a8, cap8, rfl, -, -⟩ := hl8.out
                  have qw7 := keep_block hb7 (block_lt (keep_block HKW.out (block_lt HQW.out) HQW.out)) (keep_block HKW.out (block_lt HQW.out) HQW.out)
                  obtain ⟨x0, x1, x2, x3, x4⟩ := five_cells qw7
                  have hgw7 := block_lt qw7
                  have hb8 : Below w7.heap.size w7 (w7.alloc (.cells #[.int .i64 U.k, .int .i64 U.i, .int .i64 U.j, .int .i64 U.n, .slice a8 U.kids.length cap8] 24)) := (Below.refl _ _).alloc (Nat.le_refl _) _
                  have HB7 := Lib.hid hb7
                  have HL8 := Lib.hid hl8
                  have HW7 := Lib.hid ((HLW.out.keep HKW.out).keep hb7)
                  clear hb7 hl8 qw7
                  go_wp2_with fail
                  refine (keepsame_eq U _ _ _ (HL8.out.lies.keep hb8) (HW7.out.keep hb8)).mono ?_
                  rintro e w9 ⟨rfl, hb9⟩
                  have hb79 : Below w7.heap.size w7 w9 := hb8.trans (hb9.mono hb8.size)
                  have r9 := keep_block hb9 (block_lt (alloc_new w7 _)) (alloc_new w7 _)
                  obtain ⟨z0, z1, z2, z3, z4⟩ := five_cells r9
                  have hsp := HL8.out.keep (w' := w9) (Q := fun b => b < w7.heap.size ∧ Own W.heap.size w9 b) (fun b _ hlt => hb79.block b hlt) (fun b hb hlt => ⟨hlt, hb.later hb79⟩)
                  have HSP := Lib.hid (spoil_any (fun b => b < w7.heap.size ∧ Own W.heap.size w9 b) w7.heap.size (fun b hb => hb.1) U.size U w9 _ (Nat.le_refl _) hsp (fun b hb => hb.2.2) hb79.size)
                  have hW9 : Below W.heap.size W w9 := HB7.out.trans (hb79.mono HB7.out.size)
                  have HW9 := Lib.hid hW9
                  clear hb79 hb8 hb9 hsp r9 x0 x1 x2 x3 x4 hW9
                  go_wp2_with fail
                  refine HSP.out.mono ?_
                  rintro e w10 ⟨rfl, hshr⟩
                  have hB10 : Below W.heap.size w9 w10 := hshr.below (fun b hb => hb.2.1) HW9.out.size
                  have hW10 : Kept W w10 := HW9.out.trans hB10
                  have HW10 := Lib.hid hW10
                  have H5t := Lib.hid (HTC.out.keep HKW.out)
                  have H5u := Lib.hid (HUC.out.keep HKW.out)
                  have HLTW := Lib.hid (HLT.out.keep HKW.out)
                  have HLUW := Lib.hid (HLU.out.keep HKW.out)
                  have H56 : Hid (Five W g6 t (.slice a6 t.kids.length cap6)) := Lib.hid (five_cells HQ6.out)
                  have H57 : Hid (Five W g7 u (.slice a7 u.kids.length cap7)) := Lib.hid (five_cells HQ7.out)
                  clear hshr hB10 HSP z0 z1 z2 z3 z4
                  obtain ⟨d0, d1, d2, d3, d4⟩ := H5t.out.keep hW10
                  obtain ⟨m0, m1, m2, m3, m4⟩ := H56.out.keep hW10
                  go_wp2_with fail
                  refine (keepsame_eq t _ _ _ (HL6.out.keep hW10) (HLTW.out.keep hW10)).mono ?_
                  rintro e w11 ⟨rfl, hb11⟩
                  have hW11 : Kept W w11 := kept_call hW10 hb11
                  clear hb11 d0 d1 d2 d3 d4 m0 m1 m2 m3 m4
                  obtain ⟨d0, d1, d2, d3, d4⟩ := H5u.out.keep hW11
                  obtain ⟨m0, m1, m2, m3, m4⟩ := H57.out.keep hW11
                  go_wp2_with fail
                  refine (keepsame_eq u _ _ _ (HL7.out.keep hW11) (HLUW.out.keep hW11)).mono ?_
                  rintro e w12 ⟨rfl, hb12⟩
                  have hW12 : Kept W w12 := kept_call hW11 hb12
                  go_wp2_with fail
                  refine (wakes7_any _).mono ?_
                  rintro e w13 ⟨rfl, hb13⟩
                  have hW13 : Kept W w13 := kept_call hW12 hb13
                  go_wp2
                  go_ret
                  exact ⟨rfl, HBV.out.trans ((HKW.out.trans (hW13.mono HKW.out.size)).mono HBV.out.size)⟩
                exact AllReadyH.nil
              exact AllReadyH.nil
            exact AllReadyH.nil
          exact AllReadyH.nil
        refine AllReadyH.cons (o := { dst := some 7, op := Go.Op.alloc 24, type := 0, pos := "law.go:37", after := #[], guard := none }) rfl (fun K hK => ?_) ?_
        · go_simp
          refine hK.out _ _ ?_ (fun hHeld => ?_)
          · (try dsimp only)
            (((with_reducible refine tens_and ?_ HTC.out HUC.out); repeat (first | with_reducible assumption | with_reducible exact hk0 | with_reducible refine kept_drew ?_ | with_reducible refine kept_alloc ?_ _ | ((with_reducible refine kept_set ?_ ?hh _); (case hh => first | exact Nat.le_refl _ | (simp only; omega))))))
          clear hK K
          (try simp only [Act.put, List.setIfInBounds_toArray, List.set_cons_zero, List.set_cons_succ])
          have hZ6 := (Below.heap_alloc (V.drew.alloc zeroObj) zeroObj _ (block_lt hZ6)).trans hZ6
          have hZ7 : ((V.drew.alloc zeroObj).alloc zeroObj).heap[V.heap.size + 1]? = some zeroObj := by have := alloc_new (V.drew.alloc zeroObj) zeroObj; simpa using this
          refine wpAnyH_ready (rs := [1]) (by kernel_rfl) (by simp) ?_
          refine AllReadyH.cons (o := { dst := some 19, op := Go.Op.call { callee := Go.Callee.value (Go.Operand.func 10), args := #[Go.Operand.tmp 18], argTypes := #[24] }, type := 24, pos := "law.go:37", after := #[{ on := 0, ground := Go.Ground.data }], guard := none }) rfl (fun K hK => ?_) ?_
          · go_simp
            (go_at_call 10; have hS := hHeld.1; have hnc := Below.size hS; refine (twin_any t _ _ (kept_lies hS HLT.out) (by omega)).mono ?_; rintro e wa ⟨s6, rfl, hl6, hbn⟩; obtain ⟨a6, cap6, rfl, -, -⟩ := hl6.out; have hl6 := hl6.from (B' := V.heap.size + 2) (by simp); have hha := kept_call hS hbn; have hsa : V.heap.size + 2 ≤ wa.heap.size := (by have := hbn.size; first | omega | (simp at this; omega)); have hZ6 := keep_block hbn (block_lt hZ6) hZ6; have hb6 := block_lt hZ6; have hZ7 := keep_block hbn (block_lt hZ7) hZ7; have hb7 := block_lt hZ7; clear hbn hS)
            refine hK.out _ _ ?_ (fun hHeld => ?_)
            · (try dsimp only)
              (((with_reducible refine tens_and ?_ HTC.out HUC.out); repeat (first | with_reducible assumption | with_reducible exact hk0 | with_reducible refine kept_drew ?_ | with_reducible refine kept_alloc ?_ _ | ((with_reducible refine kept_set ?_ ?hh _); (case hh => first | exact Nat.le_refl _ | (simp only; omega))))))
            clear hK K
            (try simp only [Act.put, List.setIfInBounds_toArray, List.set_cons_zero, List.set_cons_succ])
            refine wpAnyH_ready (rs := [3]) (by kernel_rfl) (by simp) ?_
            refine AllReadyH.cons (o := { dst := some 21, op := Go.Op.call { callee := Go.Callee.value (Go.Operand.func 10), args := #[Go.Operand.tmp 20], argTypes := #[24] }, type := 24, pos := "law.go:37", after := #[{ on := 2, ground := Go.Ground.data }, { on := 1, ground := Go.Ground.chain }], guard := none }) rfl (fun K hK => ?_) ?_
            · go_simp
              (go_at_call 10; have hS := hHeld.1; refine (twin_any u _ _ (kept_lies hS HLU.out) (by omega)).mono ?_; rintro e wb ⟨s7, rfl, hl7, hbn⟩; obtain ⟨a7, cap7, rfl, -, -⟩ := hl7.out; have hl7 := hl7.from (B' := wa.heap.size + 0) (by simp); have hhb := kept_call hS hbn; have hsb : wa.heap.size + 0 ≤ wb.heap.size := (by have := hbn.size; first | omega | (simp at this; omega)); have hZ6 := keep_block hbn (block_lt hZ6) hZ6; have hb6 := block_lt hZ6; have hZ7 := keep_block hbn (block_lt hZ7) hZ7; have hb7 := block_lt hZ7; obtain ⟨⟨c60, c61, c62, c63, c64⟩, f60, f61, f62, f63, f64⟩ := And.intro (five_cells hZ6) (five_free hZ6); obtain ⟨⟨c70, c71, c72, c73, c74⟩, f70, f71, f72, f73, f74⟩ := And.intro (five_cells hZ7) (five_free hZ7); have HAB : Below wa.heap.size wa wb := by first | exact hbn | exact Below.trans (Below.refl _ _) hbn; clear hbn hS)
              refine hK.out _ _ ?_ (fun hHeld => ?_)
              · (try dsimp only)
                (((with_reducible refine tens_and ?_ HTC.out HUC.out); repeat (first | with_reducible assumption | with_reducible exact hk0 | with_reducible refine kept_drew ?_ | with_reducible refine kept_alloc ?_ _ | ((with_reducible refine kept_set ?_ ?hh _); (case hh => first | exact Nat.le_refl _ | (simp only; omega))))))
              clear hK K
              (try simp only [Act.put, List.setIfInBounds_toArray, List.set_cons_zero, List.set_cons_succ])
              refine wpAnyH_ready (rs := [6]) (by kernel_rfl) (by simp) ?_
              refine AllReadyH.cons (o := { dst := none, op := Go.Op.store 24 (Go.Operand.tmp 6) (Go.Operand.tmp 19), type := 0, pos := "law.go:37", after := #[{ on := 4, ground := Go.Ground.data }, { on := 1, ground := Go.Ground.data }, { on := 3, ground := Go.Ground.chain }, { on := 0, ground := Go.Ground.phase }, { on := 1, ground := Go.Ground.phase }, { on := 2, ground := Go.Ground.textOnly Go.Departure.lateStores }, { on := 3, ground := Go.Ground.textOnly Go.Departure.lateStoresUnsure }, { on := 4, ground := Go.Ground.phase }, { on := 5, ground := Go.Ground.phase }], guard := none }) rfl (fun K hK => ?_) ?_
              · go_simp
                refine hK.out _ _ ?_ (fun hHeld => ?_)
                · (try dsimp only)
                  (((with_reducible refine tens_and ?_ HTC.out HUC.out); repeat (first | with_reducible assumption | with_reducible exact hk0 | with_reducible refine kept_drew ?_ | with_reducible refine kept_alloc ?_ _ | ((with_reducible refine kept_set ?_ ?hh _); (case hh => first | exact Nat.le_refl _ | (simp only; omega))))))
                clear hK K
                (try simp only [Act.put, List.setIfInBounds_toArray, List.set_cons_zero, List.set_cons_succ])
                refine wpAnyH_ready (rs := [7]) (by kernel_rfl) (by simp) ?_
                refine AllReadyH.cons (o := { dst := none, op := Go.Op.store 24 (Go.Operand.tmp 7) (Go.Operand.tmp 21), type := 0, pos := "law.go:37", after := #[{ on := 5, ground := Go.Ground.data }, { on := 3, ground := Go.Ground.data }, { on := 6, ground := Go.Ground.chain }, { on := 0, ground := Go.Ground.phase }, { on := 1, ground := Go.Ground.phase }, { on := 2, ground := Go.Ground.phase }, { on := 3, ground := Go.Ground.phase }, { on := 4, ground := Go.Ground.phase }, { on := 5, ground := Go.Ground.phase }, { on := 6, ground := Go.Ground.phase }], guard := none }) rfl (fun K hK => ?_) ?_
                · go_simp
                  refine hK.out _ _ ?_ (fun hHeld => ?_)
                  · (try dsimp only)
                    (((with_reducible refine tens_and ?_ HTC.out HUC.out); repeat (first | with_reducible assumption | with_reducible exact hk0 | with_reducible refine kept_drew ?_ | with_reducible refine kept_alloc ?_ _ | ((with_reducible refine kept_set ?_ ?hh _); (case hh => first | exact Nat.le_refl _ | (simp only; omega))))))
                  clear hK K
                  (try simp only [Act.put, List.setIfInBounds_toArray, List.set_cons_zero, List.set_cons_succ])
                  refine wpAnyH_done (by kernel_rfl) ?_ _
                  have Q6 : ((((((((((wb.setCell ⟨V.heap.size, 0, none⟩ (.int .i64 t.k)).setCell ⟨V.heap.size, 1, none⟩ (.int .i64 t.i)).setCell ⟨V.heap.size, 2, none⟩ (.int .i64 t.j)).setCell ⟨V.heap.size, 3, none⟩ (.int .i64 t.n)).setCell ⟨V.heap.size, 4, none⟩ (.slice a6 t.kids.length cap6)).setCell ⟨V.heap.size + 1, 0, none⟩ (.int .i64 u.k)).setCell ⟨V.heap.size + 1, 1, none⟩ (.int .i64 u.i)).setCell ⟨V.heap.size + 1, 2, none⟩ (.int .i64 u.j)).setCell ⟨V.heap.size + 1, 3, none⟩ (.int .i64 u.n)).setCell ⟨V.heap.size + 1, 4, none⟩ (.slice a7 u.kids.length cap7)).heap[V.heap.size]? = some (boxOf t (.slice a6 t.kids.length cap6)) := (five_other _ _ _ _ _ _ _ (by omega)).trans (five_set hZ6)
                  have Q7 : ((((((((((wb.setCell ⟨V.heap.size, 0, none⟩ (.int .i64 t.k)).setCell ⟨V.heap.size, 1, none⟩ (.int .i64 t.i)).setCell ⟨V.heap.size, 2, none⟩ (.int .i64 t.j)).setCell ⟨V.heap.size, 3, none⟩ (.int .i64 t.n)).setCell ⟨V.heap.size, 4, none⟩ (.slice a6 t.kids.length cap6)).setCell ⟨V.heap.size + 1, 0, none⟩ (.int .i64 u.k)).setCell ⟨V.heap.size + 1, 1, none⟩ (.int .i64 u.i)).setCell ⟨V.heap.size + 1, 2, none⟩ (.int .i64 u.j)).setCell ⟨V.heap.size + 1, 3, none⟩ (.int .i64 u.n)).setCell ⟨V.heap.size + 1, 4, none⟩ (.slice a7 u.kids.length cap7)).heap[V.heap.size + 1]? = some (boxOf u (.slice a7 u.kids.length cap7)) := five_set ((five_other _ _ _ _ _ _ _ (by omega)).trans hZ7)
                  have hL6 : Lies ((((((((((wb.setCell ⟨V.heap.size, 0, none⟩ (.int .i64 t.k)).setCell ⟨V.heap.size, 1, none⟩ (.int .i64 t.i)).setCell ⟨V.heap.size, 2, none⟩ (.int .i64 t.j)).setCell ⟨V.heap.size, 3, none⟩ (.int .i64 t.n)).setCell ⟨V.heap.size, 4, none⟩ (.slice a6 t.kids.length cap6)).setCell ⟨V.heap.size + 1, 0, none⟩ (.int .i64 u.k)).setCell ⟨V.heap.size + 1, 1, none⟩ (.int .i64 u.i)).setCell ⟨V.heap.size + 1, 2, none⟩ (.int .i64 u.j)).setCell ⟨V.heap.size + 1, 3, none⟩ (.int .i64 u.n)).setCell ⟨V.heap.size + 1, 4, none⟩ (.slice a7 u.kids.length cap7)) t.kids (.slice a6 t.kids.length cap6) := (hl6.keep (Q := fun _ => True) (fun b hp hlt => by have h0 := hp.1; exact (five_other _ _ _ _ _ _ _ (by omega)).trans ((five_other _ _ _ _ _ _ _ (by omega)).trans (HAB.block b hlt))) (fun _ _ _ => trivial)).lies
                  have hL7 : Lies ((((((((((wb.setCell ⟨V.heap.size, 0, none⟩ (.int .i64 t.k)).setCell ⟨V.heap.size, 1, none⟩ (.int .i64 t.i)).setCell ⟨V.heap.size, 2, none⟩ (.int .i64 t.j)).setCell ⟨V.heap.size, 3, none⟩ (.int .i64 t.n)).setCell ⟨V.heap.size, 4, none⟩ (.slice a6 t.kids.length cap6)).setCell ⟨V.heap.size + 1, 0, none⟩ (.int .i64 u.k)).setCell ⟨V.heap.size + 1, 1, none⟩ (.int .i64 u.i)).setCell ⟨V.heap.size + 1, 2, none⟩ (.int .i64 u.j)).setCell ⟨V.heap.size + 1, 3, none⟩ (.int .i64 u.n)).setCell ⟨V.heap.size + 1, 4, none⟩ (.slice a7 u.kids.length cap7)) u.kids (.slice a7 u.kids.length cap7) := (hl7.keep (Q := fun _ => True) (fun b hp hlt => by have h0 := hp.1; exact (five_other _ _ _ _ _ _ _ (by omega)).trans ((five_other _ _ _ _ _ _ _ (by omega)).trans rfl)) (fun _ _ _ => trivial)).lies
                  have hKW : Kept V ((((((((((wb.setCell ⟨V.heap.size, 0, none⟩ (.int .i64 t.k)).setCell ⟨V.heap.size, 1, none⟩ (.int .i64 t.i)).setCell ⟨V.heap.size, 2, none⟩ (.int .i64 t.j)).setCell ⟨V.heap.size, 3, none⟩ (.int .i64 t.n)).setCell ⟨V.heap.size, 4, none⟩ (.slice a6 t.kids.length cap6)).setCell ⟨V.heap.size + 1, 0, none⟩ (.int .i64 u.k)).setCell ⟨V.heap.size + 1, 1, none⟩ (.int .i64 u.i)).setCell ⟨V.heap.size + 1, 2, none⟩ (.int .i64 u.j)).setCell ⟨V.heap.size + 1, 3, none⟩ (.int .i64 u.n)).setCell ⟨V.heap.size + 1, 4, none⟩ (.slice a7 u.kids.length cap7)) := below_five (below_five hhb (by omega) _ _ _ _ _) (by omega) _ _ _ _ _
                  clear hHeld hl6 hl7 HAB
                  generalize ((((((((((wb.setCell ⟨V.heap.size, 0, none⟩ (.int .i64 t.k)).setCell ⟨V.heap.size, 1, none⟩ (.int .i64 t.i)).setCell ⟨V.heap.size, 2, none⟩ (.int .i64 t.j)).setCell ⟨V.heap.size, 3, none⟩ (.int .i64 t.n)).setCell ⟨V.heap.size, 4, none⟩ (.slice a6 t.kids.length cap6)).setCell ⟨V.heap.size + 1, 0, none⟩ (.int .i64 u.k)).setCell ⟨V.heap.size + 1, 1, none⟩ (.int .i64 u.i)).setCell ⟨V.heap.size + 1, 2, none⟩ (.int .i64 u.j)).setCell ⟨V.heap.size + 1, 3, none⟩ (.int .i64 u.n)).setCell ⟨V.heap.size + 1, 4, none⟩ (.slice a7 u.kids.length cap7)) = W at Q6 Q7 hL6 hL7 hKW ⊢
                  obtain ⟨g7, hg7⟩ : ∃ g, V.heap.size + 1 = g := ⟨_, rfl⟩
                  rw [hg7] at Q7 ⊢
                  obtain ⟨g6, hg6⟩ : ∃ g, V.heap.size = g := ⟨_, rfl⟩
                  rw [hg6] at Q6 ⊢
                  have HQ6 := Lib.hid Q6
                  have HQ7 := Lib.hid Q7
                  have HL6 := Lib.hid hL6
                  have HL7 := Lib.hid hL7
                  have HKW := Lib.hid hKW
                  clear Q6 Q7 hL6 hL7 hKW hg6 hg7
                  obtain ⟨m0, m1, m2, m3, m4⟩ := five_cells HQ6.out
                  obtain ⟨n0, n1, n2, n3, n4⟩ := five_cells HQ7.out
                  go_wp2_with fail
                  have CP := put_any t u W _ _ HL6.out HL7.out HDT.out HDU.out
                  rw [HPU.out] at CP
                  refine CP.mono ?_
                  clear CP m0 m1 m2 m3 m4 n0 n1 n2 n3 n4
                  rintro e w7 ⟨s8, rfl, hl8, hb7⟩
                  obtain ⟨a8, cap8, rfl, -, -⟩ := hl8.out
                  have qw7 := keep_block hb7 (block_lt (keep_block HKW.out (block_lt HQW.out) HQW.out)) (keep_block HKW.out (block_lt HQW.out) HQW.out)
                  obtain ⟨x0, x1, x2, x3, x4⟩ := five_cells qw7
                  have hgw7 := block_lt qw7
                  have hb8 : Below w7.heap.size w7 (w7.alloc (.cells #[.int .i64 U.k, .int .i64 U.i, .int .i64 U.j, .int .i64 U.n, .slice a8 U.kids.length cap8] 24)) := (Below.refl _ _).alloc (Nat.le_refl _) _
                  have HB7 := Lib.hid hb7
                  have HL8 := Lib.hid hl8
                  have HW7 := Lib.hid ((HLW.out.keep HKW.out).keep hb7)
                  clear hb7 hl8 qw7
                  go_wp2_with fail
                  refine (keepsame_eq U _ _ _ (HL8.out.lies.keep hb8) (HW7.out.keep hb8)).mono ?_
                  rintro e w9 ⟨rfl, hb9⟩
                  have hb79 : Below w7.heap.size w7 w9 := hb8.trans (hb9.mono hb8.size)
                  have r9 := keep_block hb9 (block_lt (alloc_new w7 _)) (alloc_new w7 _)
                  obtain ⟨z0, z1, z2, z3, z4⟩ := five_cells r9
                  have hsp := HL8.out.keep (w' := w9) (Q := fun b => b < w7.heap.size ∧ Own W.heap.size w9 b) (fun b _ hlt => hb79.block b hlt) (fun b hb hlt => ⟨hlt, hb.later hb79⟩)
                  have HSP := Lib.hid (spoil_any (fun b => b < w7.heap.size ∧ Own W.heap.size w9 b) w7.heap.size (fun b hb => hb.1) U.size U w9 _ (Nat.le_refl _) hsp (fun b hb => hb.2.2) hb79.size)
                  have hW9 : Below W.heap.size W w9 := HB7.out.trans (hb79.mono HB7.out.size)
                  have HW9 := Lib.hid hW9
                  clear hb79 hb8 hb9 hsp r9 x0 x1 x2 x3 x4 hW9
                  go_wp2_with fail
                  refine HSP.out.mono ?_
                  rintro e w10 ⟨rfl, hshr⟩
                  have hB10 : Below W.heap.size w9 w10 := hshr.below (fun b hb => hb.2.1) HW9.out.size
                  have hW10 : Kept W w10 := HW9.out.trans hB10
                  have HW10 := Lib.hid hW10
                  have H5t := Lib.hid (HTC.out.keep HKW.out)
                  have H5u := Lib.hid (HUC.out.keep HKW.out)
                  have HLTW := Lib.hid (HLT.out.keep HKW.out)
                  have HLUW := Lib.hid (HLU.out.keep HKW.out)
                  have H56 : Hid (Five W g6 t (.slice a6 t.kids.length cap6)) := Lib.hid (five_cells HQ6.out)
                  have H57 : Hid (Five W g7 u (.slice a7 u.kids.length cap7)) := Lib.hid (five_cells HQ7.out)
                  clear hshr hB10 HSP z0 z1 z2 z3 z4
                  obtain ⟨d0, d1, d2, d3, d4⟩ := H5t.out.keep hW10
                  obtain ⟨m0, m1, m2, m3, m4⟩ := H56.out.keep hW10
                  go_wp2_with fail
                  refine (keepsame_eq t _ _ _ (HL6.out.keep hW10) (HLTW.out.keep hW10)).mono ?_
                  rintro e w11 ⟨rfl, hb11⟩
                  have hW11 : Kept W w11 := kept_call hW10 hb11
                  clear hb11 d0 d1 d2 d3 d4 m0 m1 m2 m3 m4
                  obtain ⟨d0, d1, d2, d3, d4⟩ := H5u.out.keep hW11
                  obtain ⟨m0, m1, m2, m3, m4⟩ := H57.out.keep hW11
                  go_wp2_with fail
                  refine (keepsame_eq u _ _ _ (HL7.out.keep hW11) (HLUW.out.keep hW11)).mono ?_
                  rintro e w12 ⟨rfl, hb12⟩
                  have hW12 : Kept W w12 := kept_call hW11 hb12
                  go_wp2_with fail
                  refine (wakes7_any _).mono ?_
                  rintro e w13 ⟨rfl, hb13⟩
                  have hW13 : Kept W w13 := kept_call hW12 hb13
                  go_wp2
                  go_ret
                  exact ⟨rfl, HBV.out.trans ((HKW.out.trans (hW13.mono HKW.out.size)).mono HBV.out.size)⟩
                exact AllReadyH.nil
              exact AllReadyH.nil
            exact AllReadyH.nil
          exact AllReadyH.nil
        exact AllReadyH.nil
      refine AllReadyH.cons (o := { dst := some 7, op := Go.Op.alloc 24, type := 0, pos := "law.go:37", after := #[], guard := none }) rfl (fun K hK => ?_) ?_
      · go_simp
        refine hK.out _ _ ?_ (fun hHeld => ?_)
        · (try dsimp only)
          (((with_reducible refine tens_and ?_ HTC.out HUC.out); repeat (first | with_reducible assumption | with_reducible exact hk0 | with_reducible refine kept_drew ?_ | with_reducible refine kept_alloc ?_ _ | ((with_reducible refine kept_set ?_ ?hh _); (case hh => first | exact Nat.le_refl _ | (simp only; omega))))))
        clear hK K
        (try simp only [Act.put, List.setIfInBounds_toArray, List.set_cons_zero, List.set_cons_succ])
        have hZ7 : (V.drew.alloc zeroObj).heap[V.heap.size]? = some zeroObj := alloc_new _ _
        refine wpAnyH_ready (rs := [1, 4]) (by kernel_rfl) (by simp) ?_
        refine AllReadyH.cons (o := { dst := some 19, op := Go.Op.call { callee := Go.Callee.value (Go.Operand.func 10), args := #[Go.Operand.tmp 18], argTypes := #[24] }, type := 24, pos := "law.go:37", after := #[{ on := 0, ground := Go.Ground.data }], guard := none }) rfl (fun K hK => ?_) ?_
        · go_simp
          (go_at_call 10; have hS := hHeld.1; have hnc := Below.size hS; refine (twin_any t _ _ (kept_lies hS HLT.out) (by omega)).mono ?_; rintro e wa ⟨s6, rfl, hl6, hbn⟩; obtain ⟨a6, cap6, rfl, -, -⟩ := hl6.out; have hl6 := hl6.from (B' := V.heap.size + 1) (by simp); have hha := kept_call hS hbn; have hsa : V.heap.size + 1 ≤ wa.heap.size := (by have := hbn.size; first | omega | (simp at this; omega)); have hZ7 := keep_block hbn (block_lt hZ7) hZ7; have hb7 := block_lt hZ7; clear hbn hS)
          refine hK.out _ _ ?_ (fun hHeld => ?_)
          · (try dsimp only)
            (((with_reducible refine tens_and ?_ HTC.out HUC.out); repeat (first | with_reducible assumption | with_reducible exact hk0 | with_reducible refine kept_drew ?_ | with_reducible refine kept_alloc ?_ _ | ((with_reducible refine kept_set ?_ ?hh _); (case hh => first | exact Nat.le_refl _ | (simp only; omega))))))
          clear hK K
          (try simp only [Act.put, List.setIfInBounds_toArray, List.set_cons_zero, List.set_cons_succ])
          refine wpAnyH_ready (rs := [3, 4]) (by kernel_rfl) (by simp) ?_
          refine AllReadyH.cons (o := { dst := some 21, op := Go.Op.call { callee := Go.Callee.value (Go.Operand.func 10), args := #[Go.Operand.tmp 20], argTypes := #[24] }, type := 24, pos := "law.go:37", after := #[{ on := 2, ground := Go.Ground.data }, { on := 1, ground := Go.Ground.chain }], guard := none }) rfl (fun K hK => ?_) ?_
          · go_simp
            (go_at_call 10; have hS := hHeld.1; refine (twin_any u _ _ (kept_lies hS HLU.out) (by omega)).mono ?_; rintro e wb ⟨s7, rfl, hl7, hbn⟩; obtain ⟨a7, cap7, rfl, -, -⟩ := hl7.out; have hl7 := hl7.from (B' := wa.heap.size + 0) (by simp); have hhb := kept_call hS hbn; have hsb : wa.heap.size + 0 ≤ wb.heap.size := (by have := hbn.size; first | omega | (simp at this; omega)); have hZ7 := keep_block hbn (block_lt hZ7) hZ7; have hb7 := block_lt hZ7; obtain ⟨⟨c70, c71, c72, c73, c74⟩, f70, f71, f72, f73, f74⟩ := And.intro (five_cells hZ7) (five_free hZ7); have HAB : Below wa.heap.size wa wb := by first | exact hbn | exact Below.trans (Below.refl _ _) hbn; clear hbn hS)
            refine hK.out _ _ ?_ (fun hHeld => ?_)
            · (try dsimp only)
              (((with_reducible refine tens_and ?_ HTC.out HUC.out); repeat (first | with_reducible assumption | with_reducible exact hk0 | with_reducible refine kept_drew ?_ | with_reducible refine kept_alloc ?_ _ | ((with_reducible refine kept_set ?_ ?hh _); (case hh => first | exact Nat.le_refl _ | (simp only; omega))))))
            clear hK K
            (try simp only [Act.put, List.setIfInBounds_toArray, List.set_cons_zero, List.set_cons_succ])
            refine wpAnyH_ready (rs := [4]) (by kernel_rfl) (by simp) ?_
            refine AllReadyH.cons (o := { dst := some 6, op := Go.Op.alloc 24, type := 0, pos := "law.go:37", after := #[], guard := none }) rfl (fun K hK => ?_) ?_
            · go_simp
              refine hK.out _ _ ?_ (fun hHeld => ?_)
              · (try dsimp only)
                (((with_reducible refine tens_and ?_ HTC.out HUC.out); repeat (first | with_reducible assumption | with_reducible exact hk0 | with_reducible refine kept_drew ?_ | with_reducible refine kept_alloc ?_ _ | ((with_reducible refine kept_set ?_ ?hh _); (case hh => first | exact Nat.le_refl _ | (simp only; omega))))))
              clear hK K
              (try simp only [Act.put, List.setIfInBounds_toArray, List.set_cons_zero, List.set_cons_succ])
              refine wpAnyH_ready (rs := [6]) (by kernel_rfl) (by simp) ?_
              refine AllReadyH.cons (o := { dst := none, op := Go.Op.store 24 (Go.Operand.tmp 6) (Go.Operand.tmp 19), type := 0, pos := "law.go:37", after := #[{ on := 4, ground := Go.Ground.data }, { on := 1, ground := Go.Ground.data }, { on := 3, ground := Go.Ground.chain }, { on := 0, ground := Go.Ground.phase }, { on := 1, ground := Go.Ground.phase }, { on := 2, ground := Go.Ground.textOnly Go.Departure.lateStores }, { on := 3, ground := Go.Ground.textOnly Go.Departure.lateStoresUnsure }, { on := 4, ground := Go.Ground.phase }, { on := 5, ground := Go.Ground.phase }], guard := none }) rfl (fun K hK => ?_) ?_
              · go_simp
                refine hK.out _ _ ?_ (fun hHeld => ?_)
                · (try dsimp only)
                  (((with_reducible refine tens_and ?_ HTC.out HUC.out); repeat (first | with_reducible assumption | with_reducible exact hk0 | with_reducible refine kept_drew ?_ | with_reducible refine kept_alloc ?_ _ | ((with_reducible refine kept_set ?_ ?hh _); (case hh => first | exact Nat.le_refl _ | (simp only; omega))))))
                clear hK K
                (try simp only [Act.put, List.setIfInBounds_toArray, List.set_cons_zero, List.set_cons_succ])
                refine wpAnyH_ready (rs := [7]) (by kernel_rfl) (by simp) ?_
                refine AllReadyH.cons (o := { dst := none, op := Go.Op.store 24 (Go.Operand.tmp 7) (Go.Operand.tmp 21), type := 0, pos := "law.go:37", after := #[{ on := 5, ground := Go.Ground.data }, { on := 3, ground := Go.Ground.data }, { on := 6, ground := Go.Ground.chain }, { on := 0, ground := Go.Ground.phase }, { on := 1, ground := Go.Ground.phase }, { on := 2, ground := Go.Ground.phase }, { on := 3, ground := Go.Ground.phase }, { on := 4, ground := Go.Ground.phase }, { on := 5, ground := Go.Ground.phase }, { on := 6, ground := Go.Ground.phase }], guard := none }) rfl (fun K hK => ?_) ?_
                · go_simp
                  refine hK.out _ _ ?_ (fun hHeld => ?_)
                  · (try dsimp only)
                    (((with_reducible refine tens_and ?_ HTC.out HUC.out); repeat (first | with_reducible assumption | with_reducible exact hk0 | with_reducible refine kept_drew ?_ | with_reducible refine kept_alloc ?_ _ | ((with_reducible refine kept_set ?_ ?hh _); (case hh => first | exact Nat.le_refl _ | (simp only; omega))))))
                  clear hK K
                  (try simp only [Act.put, List.setIfInBounds_toArray, List.set_cons_zero, List.set_cons_succ])
                  refine wpAnyH_done (by kernel_rfl) ?_ _
                  have Q6 : ((((((wb.setCell ⟨V.heap.size, 0, none⟩ (.int .i64 u.k)).setCell ⟨V.heap.size, 1, none⟩ (.int .i64 u.i)).setCell ⟨V.heap.size, 2, none⟩ (.int .i64 u.j)).setCell ⟨V.heap.size, 3, none⟩ (.int .i64 u.n)).setCell ⟨V.heap.size, 4, none⟩ (.slice a7 u.kids.length cap7)).alloc (.cells #[.int .i64 t.k, .int .i64 t.i, .int .i64 t.j, .int .i64 t.n, .slice a6 t.kids.length cap6] 24)).heap[wb.heap.size]? = some (boxOf t (.slice a6 t.kids.length cap6)) := five_new _ _ _ _ _ _ _ _
                  have Q7 : ((((((wb.setCell ⟨V.heap.size, 0, none⟩ (.int .i64 u.k)).setCell ⟨V.heap.size, 1, none⟩ (.int .i64 u.i)).setCell ⟨V.heap.size, 2, none⟩ (.int .i64 u.j)).setCell ⟨V.heap.size, 3, none⟩ (.int .i64 u.n)).setCell ⟨V.heap.size, 4, none⟩ (.slice a7 u.kids.length cap7)).alloc (.cells #[.int .i64 t.k, .int .i64 t.i, .int .i64 t.j, .int .i64 t.n, .slice a6 t.kids.length cap6] 24)).heap[V.heap.size]? = some (boxOf u (.slice a7 u.kids.length cap7)) := (Below.heap_alloc _ _ _ (by rw [five_size]; exact hb7)).trans (five_set hZ7)
                  have hL6 : Lies ((((((wb.setCell ⟨V.heap.size, 0, none⟩ (.int .i64 u.k)).setCell ⟨V.heap.size, 1, none⟩ (.int .i64 u.i)).setCell ⟨V.heap.size, 2, none⟩ (.int .i64 u.j)).setCell ⟨V.heap.size, 3, none⟩ (.int .i64 u.n)).setCell ⟨V.heap.size, 4, none⟩ (.slice a7 u.kids.length cap7)).alloc (.cells #[.int .i64 t.k, .int .i64 t.i, .int .i64 t.j, .int .i64 t.n, .slice a6 t.kids.length cap6] 24)) t.kids (.slice a6 t.kids.length cap6) := (hl6.keep (Q := fun _ => True) (fun b hp hlt => by have h0 := hp.1; exact (Below.heap_alloc _ _ _ (by rw [five_size]; omega)).trans ((five_other _ _ _ _ _ _ _ (by omega)).trans (HAB.block b hlt))) (fun _ _ _ => trivial)).lies
                  have hL7 : Lies ((((((wb.setCell ⟨V.heap.size, 0, none⟩ (.int .i64 u.k)).setCell ⟨V.heap.size, 1, none⟩ (.int .i64 u.i)).setCell ⟨V.heap.size, 2, none⟩ (.int .i64 u.j)).setCell ⟨V.heap.size, 3, none⟩ (.int .i64 u.n)).setCell ⟨V.heap.size, 4, none⟩ (.slice a7 u.kids.length cap7)).alloc (.cells #[.int .i64 t.k, .int .i64 t.i, .int .i64 t.j, .int .i64 t.n, .slice a6 t.kids.length cap6] 24)) u.kids (.slice a7 u.kids.length cap7) := (hl7.keep (Q := fun _ => True) (fun b hp hlt => by have h0 := hp.1; exact (Below.heap_alloc _ _ _ (by rw [five_size]; omega)).trans ((five_other _ _ _ _ _ _ _ (by omega)).trans rfl)) (fun _ _ _ => trivial)).lies
                  have hKW : Kept V ((((((wb.setCell ⟨V.heap.size, 0, none⟩ (.int .i64 u.k)).setCell ⟨V.heap.size, 1, none⟩ (.int .i64 u.i)).setCell ⟨V.heap.size, 2, none⟩ (.int .i64 u.j)).setCell ⟨V.heap.size, 3, none⟩ (.int .i64 u.n)).setCell ⟨V.heap.size, 4, none⟩ (.slice a7 u.kids.length cap7)).alloc (.cells #[.int .i64 t.k, .int .i64 t.i, .int .i64 t.j, .int .i64 t.n, .slice a6 t.kids.length cap6] 24)) := below_five_alloc hhb hhb.size (by omega) _ _ _ _ _ _
                  clear hHeld hl6 hl7 HAB
                  generalize ((((((wb.setCell ⟨V.heap.size, 0, none⟩ (.int .i64 u.k)).setCell ⟨V.heap.size, 1, none⟩ (.int .i64 u.i)).setCell ⟨V.heap.size, 2, none⟩ (.int .i64 u.j)).setCell ⟨V.heap.size, 3, none⟩ (.int .i64 u.n)).setCell ⟨V.heap.size, 4, none⟩ (.slice a7 u.kids.length cap7)).alloc (.cells #[.int .i64 t.k, .int .i64 t.i, .int .i64 t.j, .int .i64 t.n, .slice a6 t.kids.length cap6] 24)) = W at Q6 Q7 hL6 hL7 hKW ⊢
                  obtain ⟨g6, hg6⟩ : ∃ g, wb.heap.size = g := ⟨_, rfl⟩
                  rw [hg6] at Q6 ⊢
                  obtain ⟨g7, hg7⟩ : ∃ g, V.heap.size = g := ⟨_, rfl⟩
                  rw [hg7] at Q7 ⊢
                  have HQ6 := Lib.hid Q6
                  have HQ7 := Lib.hid Q7
                  have HL6 := Lib.hid hL6
                  have HL7 := Lib.hid hL7
                  have HKW := Lib.hid hKW
                  clear Q6 Q7 hL6 hL7 hKW hg6 hg7
                  obtain ⟨m0, m1, m2, m3, m4⟩ := five_cells HQ6.out
                  obtain ⟨n0, n1, n2, n3, n4⟩ := five_cells HQ7.out
                  go_wp2_with fail
                  have CP := put_any t u W _ _ HL6.out HL7.out HDT.out HDU.out
                  rw [HPU.out] at CP
                  refine CP.mono ?_
                  clear CP m0 m1 m2 m3 m4 n0 n1 n2 n3 n4
                  rintro e w7 ⟨s8, rfl, hl8, hb7⟩
                  obtain ⟨a8, cap8, rfl, -, -⟩ := hl8.out
                  have qw7 := keep_block hb7 (block_lt (keep_block HKW.out (block_lt HQW.out) HQW.out)) (keep_block HKW.out (block_lt HQW.out) HQW.out)
                  obtain ⟨x0, x1, x2, x3, x4⟩ := five_cells qw7
                  have hgw7 := block_lt qw7
                  have hb8 : Below w7.heap.size w7 (w7.alloc (.cells #[.int .i64 U.k, .int .i64 U.i, .int .i64 U.j, .int .i64 U.n, .slice a8 U.kids.length cap8] 24)) := (Below.refl _ _).alloc (Nat.le_refl _) _
                  have HB7 := Lib.hid hb7
                  have HL8 := Lib.hid hl8
                  have HW7 := Lib.hid ((HLW.out.keep HKW.out).keep hb7)
                  clear hb7 hl8 qw7
                  go_wp2_with fail
                  refine (keepsame_eq U _ _ _ (HL8.out.lies.keep hb8) (HW7.out.keep hb8)).mono ?_
                  rintro e w9 ⟨rfl, hb9⟩
                  have hb79 : Below w7.heap.size w7 w9 := hb8.trans (hb9.mono hb8.size)
                  have r9 := keep_block hb9 (block_lt (alloc_new w7 _)) (alloc_new w7 _)
                  obtain ⟨z0, z1, z2, z3, z4⟩ := five_cells r9
                  have hsp := HL8.out.keep (w' := w9) (Q := fun b => b < w7.heap.size ∧ Own W.heap.size w9 b) (fun b _ hlt => hb79.block b hlt) (fun b hb hlt => ⟨hlt, hb.later hb79⟩)
                  have HSP := Lib.hid (spoil_any (fun b => b < w7.heap.size ∧ Own W.heap.size w9 b) w7.heap.size (fun b hb => hb.1) U.size U w9 _ (Nat.le_refl _) hsp (fun b hb => hb.2.2) hb79.size)
                  have hW9 : Below W.heap.size W w9 := HB7.out.trans (hb79.mono HB7.out.size)
                  have HW9 := Lib.hid hW9
                  clear hb79 hb8 hb9 hsp r9 x0 x1 x2 x3 x4 hW9
                  go_wp2_with fail
                  refine HSP.out.mono ?_
                  rintro e w10 ⟨rfl, hshr⟩
                  have hB10 : Below W.heap.size w9 w10 := hshr.below (fun b hb => hb.2.1) HW9.out.size
                  have hW10 : Kept W w10 := HW9.out.trans hB10
                  have HW10 := Lib.hid hW10
                  have H5t := Lib.hid (HTC.out.keep HKW.out)
                  have H5u := Lib.hid (HUC.out.keep HKW.out)
                  have HLTW := Lib.hid (HLT.out.keep HKW.out)
                  have HLUW := Lib.hid (HLU.out.keep HKW.out)
                  have H56 : Hid (Five W g6 t (.slice a6 t.kids.length cap6)) := Lib.hid (five_cells HQ6.out)
                  have H57 : Hid (Five W g7 u (.slice a7 u.kids.length cap7)) := Lib.hid (five_cells HQ7.out)
                  clear hshr hB10 HSP z0 z1 z2 z3 z4
                  obtain ⟨d0, d1, d2, d3, d4⟩ := H5t.out.keep hW10
                  obtain ⟨m0, m1, m2, m3, m4⟩ := H56.out.keep hW10
                  go_wp2_with fail
                  refine (keepsame_eq t _ _ _ (HL6.out.keep hW10) (HLTW.out.keep hW10)).mono ?_
                  rintro e w11 ⟨rfl, hb11⟩
                  have hW11 : Kept W w11 := kept_call hW10 hb11
                  clear hb11 d0 d1 d2 d3 d4 m0 m1 m2 m3 m4
                  obtain ⟨d0, d1, d2, d3, d4⟩ := H5u.out.keep hW11
                  obtain ⟨m0, m1, m2, m3, m4⟩ := H57.out.keep hW11
                  go_wp2_with fail
                  refine (keepsame_eq u _ _ _ (HL7.out.keep hW11) (HLUW.out.keep hW11)).mono ?_
                  rintro e w12 ⟨rfl, hb12⟩
                  have hW12 : Kept W w12 := kept_call hW11 hb12
                  go_wp2_with fail
                  refine (wakes7_any _).mono ?_
                  rintro e w13 ⟨rfl, hb13⟩
                  have hW13 : Kept W w13 := kept_call hW12 hb13
                  go_wp2
                  go_ret
                  exact ⟨rfl, HBV.out.trans ((HKW.out.trans (hW13.mono HKW.out.size)).mono HBV.out.size)⟩
                exact AllReadyH.nil
              exact AllReadyH.nil
            exact AllReadyH.nil
          refine AllReadyH.cons (o := { dst := some 6, op := Go.Op.alloc 24, type := 0, pos := "law.go:37", after := #[], guard := none }) rfl (fun K hK => ?_) ?_
          · go_simp
            refine hK.out _ _ ?_ (fun hHeld => ?_)
            · (try dsimp only)
              (((with_reducible refine tens_and ?_ HTC.out HUC.out); repeat (first | with_reducible assumption | with_reducible exact hk0 | with_reducible refine kept_drew ?_ | with_reducible refine kept_alloc ?_ _ | ((with_reducible refine kept_set ?_ ?hh _); (case hh => first | exact Nat.le_refl _ | (simp only; omega))))))
            clear hK K
            (try simp only [Act.put, List.setIfInBounds_toArray, List.set_cons_zero, List.set_cons_succ])
            have hZ7 := (Below.heap_alloc wa zeroObj _ (block_lt hZ7)).trans hZ7
            have hZ6 : (wa.alloc zeroObj).heap[wa.heap.size]? = some zeroObj := alloc_new _ _
            refine wpAnyH_ready (rs := [3]) (by kernel_rfl) (by simp) ?_
            refine AllReadyH.cons (o := { dst := some 21, op := Go.Op.call { callee := Go.Callee.value (Go.Operand.func 10), args := #[Go.Operand.tmp 20], argTypes := #[24] }, type := 24, pos := "law.go:37", after := #[{ on := 2, ground := Go.Ground.data }, { on := 1, ground := Go.Ground.chain }], guard := none }) rfl (fun K hK => ?_) ?_
            · go_simp
              (go_at_call 10; have hS := hHeld.1; refine (twin_any u _ _ (kept_lies hS HLU.out) (by omega)).mono ?_; rintro e wb ⟨s7, rfl, hl7, hbn⟩; obtain ⟨a7, cap7, rfl, -, -⟩ := hl7.out; have hl7 := hl7.from (B' := wa.heap.size + 1) (by simp); have hhb := kept_call hS hbn; have hsb : wa.heap.size + 1 ≤ wb.heap.size := (by have := hbn.size; first | omega | (simp at this; omega)); have hZ6 := keep_block hbn (block_lt hZ6) hZ6; have hb6 := block_lt hZ6; have hZ7 := keep_block hbn (block_lt hZ7) hZ7; have hb7 := block_lt hZ7; obtain ⟨⟨c60, c61, c62, c63, c64⟩, f60, f61, f62, f63, f64⟩ := And.intro (five_cells hZ6) (five_free hZ6); obtain ⟨⟨c70, c71, c72, c73, c74⟩, f70, f71, f72, f73, f74⟩ := And.intro (five_cells hZ7) (five_free hZ7); have HAB : Below wa.heap.size wa wb := ((Below.refl _ _).alloc (Nat.le_refl _) _).trans (hbn.mono (by simp)); clear hbn hS)
              refine hK.out _ _ ?_ (fun hHeld => ?_)
              · (try dsimp only)
                (((with_reducible refine tens_and ?_ HTC.out HUC.out); repeat (first | with_reducible assumption | with_reducible exact hk0 | with_reducible refine kept_drew ?_ | with_reducible refine kept_alloc ?_ _ | ((with_reducible refine kept_set ?_ ?hh _); (case hh => first | exact Nat.le_refl _ | (simp only; omega))))))
              clear hK K
              (try simp only [Act.put, List.setIfInBounds_toArray, List.set_cons_zero, List.set_cons_succ])
              refine wpAnyH_ready (rs := [6]) (by kernel_rfl) (by simp) ?_
              refine AllReadyH.cons (o := { dst := none, op := Go.Op.store 24 (Go.Operand.tmp 6) (Go.Operand.tmp 19), type := 0, pos := "law.go:37", after := #[{ on := 4, ground := Go.Ground.data }, { on := 1, ground := Go.Ground.data }, { on := 3, ground := Go.Ground.chain }, { on := 0, ground := Go.Ground.phase }, { on := 1, ground := Go.Ground.phase }, { on := 2, ground := Go.Ground.textOnly Go.Departure.lateStores }, { on := 3, ground := Go.Ground.textOnly Go.Departure.lateStoresUnsure }, { on := 4, ground := Go.Ground.phase }, { on := 5, ground := Go.Ground.phase }], guard := none }) rfl (fun K hK => ?_) ?_
              · go_simp
                refine hK.out _ _ ?_ (fun hHeld => ?_)
                · (try dsimp only)
                  (((with_reducible refine tens_and ?_ HTC.out HUC.out); repeat (first | with_reducible assumption | with_reducible exact hk0 | with_reducible refine kept_drew ?_ | with_reducible refine kept_alloc ?_ _ | ((with_reducible refine kept_set ?_ ?hh _); (case hh => first | exact Nat.le_refl _ | (simp only; omega))))))
                clear hK K
                (try simp only [Act.put, List.setIfInBounds_toArray, List.set_cons_zero, List.set_cons_succ])
                refine wpAnyH_ready (rs := [7]) (by kernel_rfl) (by simp) ?_
                refine AllReadyH.cons (o := { dst := none, op := Go.Op.store 24 (Go.Operand.tmp 7) (Go.Operand.tmp 21), type := 0, pos := "law.go:37", after := #[{ on := 5, ground := Go.Ground.data }, { on := 3, ground := Go.Ground.data }, { on := 6, ground := Go.Ground.chain }, { on := 0, ground := Go.Ground.phase }, { on := 1, ground := Go.Ground.phase }, { on := 2, ground := Go.Ground.phase }, { on := 3, ground := Go.Ground.phase }, { on := 4, ground := Go.Ground.phase }, { on := 5, ground := Go.Ground.phase }, { on := 6, ground := Go.Ground.phase }], guard := none }) rfl (fun K hK => ?_) ?_
                · go_simp
                  refine hK.out _ _ ?_ (fun hHeld => ?_)
                  · (try dsimp only)
                    (((with_reducible refine tens_and ?_ HTC.out HUC.out); repeat (first | with_reducible assumption | with_reducible exact hk0 | with_reducible refine kept_drew ?_ | with_reducible refine kept_alloc ?_ _ | ((with_reducible refine kept_set ?_ ?hh _); (case hh => first | exact Nat.le_refl _ | (simp only; omega))))))
                  clear hK K
                  (try simp only [Act.put, List.setIfInBounds_toArray, List.set_cons_zero, List.set_cons_succ])
                  refine wpAnyH_done (by kernel_rfl) ?_ _
                  have Q6 : ((((((((((wb.setCell ⟨wa.heap.size, 0, none⟩ (.int .i64 t.k)).setCell ⟨wa.heap.size, 1, none⟩ (.int .i64 t.i)).setCell ⟨wa.heap.size, 2, none⟩ (.int .i64 t.j)).setCell ⟨wa.heap.size, 3, none⟩ (.int .i64 t.n)).setCell ⟨wa.heap.size, 4, none⟩ (.slice a6 t.kids.length cap6)).setCell ⟨V.heap.size, 0, none⟩ (.int .i64 u.k)).setCell ⟨V.heap.size, 1, none⟩ (.int .i64 u.i)).setCell ⟨V.heap.size, 2, none⟩ (.int .i64 u.j)).setCell ⟨V.heap.size, 3, none⟩ (.int .i64 u.n)).setCell ⟨V.heap.size, 4, none⟩ (.slice a7 u.kids.length cap7)).heap[wa.heap.size]? = some (boxOf t (.slice a6 t.kids.length cap6)) := (five_other _ _ _ _ _ _ _ (by omega)).trans (five_set hZ6)
                  have Q7 : ((((((((((wb.setCell ⟨wa.heap.size, 0, none⟩ (.int .i64 t.k)).setCell ⟨wa.heap.size, 1, none⟩ (.int .i64 t.i)).setCell ⟨wa.heap.size, 2, none⟩ (.int .i64 t.j)).setCell ⟨wa.heap.size, 3, none⟩ (.int .i64 t.n)).setCell ⟨wa.heap.size, 4, none⟩ (.slice a6 t.kids.length cap6)).setCell ⟨V.heap.size, 0, none⟩ (.int .i64 u.k)).setCell ⟨V.heap.size, 1, none⟩ (.int .i64 u.i)).setCell ⟨V.heap.size, 2, none⟩ (.int .i64 u.j)).setCell ⟨V.heap.size, 3, none⟩ (.int .i64 u.n)).setCell ⟨V.heap.size, 4, none⟩ (.slice a7 u.kids.length cap7)).heap[V.heap.size]? = some (boxOf u (.slice a7 u.kids.length cap7)) := five_set ((five_other _ _ _ _ _ _ _ (by omega)).trans hZ7)
                  have hL6 : Lies ((((((((((wb.setCell ⟨wa.heap.size, 0, none⟩ (.int .i64 t.k)).setCell ⟨wa.heap.size, 1, none⟩ (.int .i64 t.i)).setCell ⟨wa.heap.size, 2, none⟩ (.int .i64 t.j)).setCell ⟨wa.heap.size, 3, none⟩ (.int .i64 t.n)).setCell ⟨wa.heap.size, 4, none⟩ (.slice a6 t.kids.length cap6)).setCell ⟨V.heap.size, 0, none⟩ (.int .i64 u.k)).setCell ⟨V.heap.size, 1, none⟩ (.int .i64 u.i)).setCell ⟨V.heap.size, 2, none⟩ (.int .i64 u.j)).setCell ⟨V.heap.size, 3, none⟩ (.int .i64 u.n)).setCell ⟨V.heap.size, 4, none⟩ (.slice a7 u.kids.length cap7)) t.kids (.slice a6 t.kids.length cap6) := (hl6.keep (Q := fun _ => True) (fun b hp hlt => by have h0 := hp.1; exact (five_other _ _ _ _ _ _ _ (by omega)).trans ((five_other _ _ _ _ _ _ _ (by omega)).trans (HAB.block b hlt))) (fun _ _ _ => trivial)).lies
                  have hL7 : Lies ((((((((((wb.setCell ⟨wa.heap.size, 0, none⟩ (.int .i64 t.k)).setCell ⟨wa.heap.size, 1, none⟩ (.int .i64 t.i)).setCell ⟨wa.heap.size, 2, none⟩ (.int .i64 t.j)).setCell ⟨wa.heap.size, 3, none⟩ (.int .i64 t.n)).setCell ⟨wa.heap.size, 4, none⟩ (.slice a6 t.kids.length cap6)).setCell ⟨V.heap.size, 0, none⟩ (.int .i64 u.k)).setCell ⟨V.heap.size, 1, none⟩ (.int .i64 u.i)).setCell ⟨V.heap.size, 2, none⟩ (.int .i64 u.j)).setCell ⟨V.heap.size, 3, none⟩ (.int .i64 u.n)).setCell ⟨V.heap.size, 4, none⟩ (.slice a7 u.kids.length cap7)) u.kids (.slice a7 u.kids.length cap7) := (hl7.keep (Q := fun _ => True) (fun b hp hlt => by have h0 := hp.1; exact (five_other _ _ _ _ _ _ _ (by omega)).trans ((five_other _ _ _ _ _ _ _ (by omega)).trans rfl)) (fun _ _ _ => trivial)).lies
                  have hKW : Kept V ((((((((((wb.setCell ⟨wa.heap.size, 0, none⟩ (.int .i64 t.k)).setCell ⟨wa.heap.size, 1, none⟩ (.int .i64 t.i)).setCell ⟨wa.heap.size, 2, none⟩ (.int .i64 t.j)).setCell ⟨wa.heap.size, 3, none⟩ (.int .i64 t.n)).setCell ⟨wa.heap.size, 4, none⟩ (.slice a6 t.kids.length cap6)).setCell ⟨V.heap.size, 0, none⟩ (.int .i64 u.k)).setCell ⟨V.heap.size, 1, none⟩ (.int .i64 u.i)).setCell ⟨V.heap.size, 2, none⟩ (.int .i64 u.j)).setCell ⟨V.heap.size, 3, none⟩ (.int .i64 u.n)).setCell ⟨V.heap.size, 4, none⟩ (.slice a7 u.kids.length cap7)) := below_five (below_five hhb (by omega) _ _ _ _ _) (by omega) _ _ _ _ _
                  clear hHeld hl6 hl7 HAB
                  generalize ((((((((((wb.setCell ⟨wa.heap.size, 0, none⟩ (.int .i64 t.k)).setCell ⟨wa.heap.size, 1, none⟩ (.int .i64 t.i)).setCell ⟨wa.heap.size, 2, none⟩ (.int .i64 t.j)).setCell ⟨wa.heap.size, 3, none⟩ (.int .i64 t.n)).setCell ⟨wa.heap.size, 4, none⟩ (.slice a6 t.kids.length cap6)).setCell ⟨V.heap.size, 0, none⟩ (.int .i64 u.k)).setCell ⟨V.heap.size, 1, none⟩ (.int .i64 u.i)).setCell ⟨V.heap.size, 2, none⟩ (.int .i64 u.j)).setCell ⟨V.heap.size, 3, none⟩ (.int .i64 u.n)).setCell ⟨V.heap.size, 4, none⟩ (.slice a7 u.kids.length cap7)) = W at Q6 Q7 hL6 hL7 hKW ⊢
                  obtain ⟨g6, hg6⟩ : ∃ g, wa.heap.size = g := ⟨_, rfl⟩
                  rw [hg6] at Q6 ⊢
                  obtain ⟨g7, hg7⟩ : ∃ g, V.heap.size = g := ⟨_, rfl⟩
                  rw [hg7] at Q7 ⊢
                  have HQ6 := Lib.hid Q6
                  have HQ7 := Lib.hid Q7
                  have HL6 := Lib.hid hL6
                  have HL7 := Lib.hid hL7
                  have HKW := Lib.hid hKW
                  clear Q6 Q7 hL6 hL7 hKW hg6 hg7
                  obtain ⟨m0, m1, m2, m3, m4⟩ := five_cells HQ6.out
                  obtain ⟨n0, n1, n2, n3, n4⟩ := five_cells HQ7.out
                  go_wp2_with fail
                  have CP := put_any t u W _ _ HL6.out HL7.out HDT.out HDU.out
                  rw [HPU.out] at CP
                  refine CP.mono ?_
                  clear CP m0 m1 m2 m3 m4 n0 n1 n2 n3 n4
                  rintro e w7 ⟨s8, rfl, hl8, hb7⟩
                  obtain ⟨a8, cap8, rfl, -, -⟩ := hl8.out
                  have qw7 := keep_block hb7 (block_lt (keep_block HKW.out (block_lt HQW.out) HQW.out)) (keep_block HKW.out (block_lt HQW.out) HQW.out)
                  obtain ⟨x0, x1, x2, x3, x4⟩ := five_cells qw7
                  have hgw7 := block_lt qw7
                  have hb8 : Below w7.heap.size w7 (w7.alloc (.cells #[.int .i64 U.k, .int .i64 U.i, .int .i64 U.j, .int .i64 U.n, .slice a8 U.kids.length cap8] 24)) := (Below.refl _ _).alloc (Nat.le_refl _) _
                  have HB7 := Lib.hid hb7
                  have HL8 := Lib.hid hl8
                  have HW7 := Lib.hid ((HLW.out.keep HKW.out).keep hb7)
                  clear hb7 hl8 qw7
                  go_wp2_with fail
                  refine (keepsame_eq U _ _ _ (HL8.out.lies.keep hb8) (HW7.out.keep hb8)).mono ?_
                  rintro e w9 ⟨rfl, hb9⟩
                  have hb79 : Below w7.heap.size w7 w9 := hb8.trans (hb9.mono hb8.size)
                  have r9 := keep_block hb9 (block_lt (alloc_new w7 _)) (alloc_new w7 _)
                  obtain ⟨z0, z1, z2, z3, z4⟩ := five_cells r9
                  have hsp := HL8.out.keep (w' := w9) (Q := fun b => b < w7.heap.size ∧ Own W.heap.size w9 b) (fun b _ hlt => hb79.block b hlt) (fun b hb hlt => ⟨hlt, hb.later hb79⟩)
                  have HSP := Lib.hid (spoil_any (fun b => b < w7.heap.size ∧ Own W.heap.size w9 b) w7.heap.size (fun b hb => hb.1) U.size U w9 _ (Nat.le_refl _) hsp (fun b hb => hb.2.2) hb79.size)
                  have hW9 : Below W.heap.size W w9 := HB7.out.trans (hb79.mono HB7.out.size)
                  have HW9 := Lib.hid hW9
                  clear hb79 hb8 hb9 hsp r9 x0 x1 x2 x3 x4 hW9
                  go_wp2_with fail
                  refine HSP.out.mono ?_
                  rintro e w10 ⟨rfl, hshr⟩
                  have hB10 : Below W.heap.size w9 w10 := hshr.below (fun b hb => hb.2.1) HW9.out.size
                  have hW10 : Kept W w10 := HW9.out.trans hB10
                  have HW10 := Lib.hid hW10
                  have H5t := Lib.hid (HTC.out.keep HKW.out)
                  have H5u := Lib.hid (HUC.out.keep HKW.out)
                  have HLTW := Lib.hid (HLT.out.keep HKW.out)
                  have HLUW := Lib.hid (HLU.out.keep HKW.out)
                  have H56 : Hid (Five W g6 t (.slice a6 t.kids.length cap6)) := Lib.hid (five_cells HQ6.out)
                  have H57 : Hid (Five W g7 u (.slice a7 u.kids.length cap7)) := Lib.hid (five_cells HQ7.out)
                  clear hshr hB10 HSP z0 z1 z2 z3 z4
                  obtain ⟨d0, d1, d2, d3, d4⟩ := H5t.out.keep hW10
                  obtain ⟨m0, m1, m2, m3, m4⟩ := H56.out.keep hW10
                  go_wp2_with fail
                  refine (keepsame_eq t _ _ _ (HL6.out.keep hW10) (HLTW.out.keep hW10)).mono ?_
                  rintro e w11 ⟨rfl, hb11⟩
                  have hW11 : Kept W w11 := kept_call hW10 hb11
                  clear hb11 d0 d1 d2 d3 d4 m0 m1 m2 m3 m4
                  obtain ⟨d0, d1, d2, d3, d4⟩ := H5u.out.keep hW11
                  obtain ⟨m0, m1, m2, m3, m4⟩ := H57.out.keep hW11
                  go_wp2_with fail
                  refine (keepsame_eq u _ _ _ (HL7.out.keep hW11) (HLUW.out.keep hW11)).mono ?_
                  rintro e w12 ⟨rfl, hb12⟩
                  have hW12 : Kept W w12 := kept_call hW11 hb12
                  go_wp2_with fail
                  refine (wakes7_any _).mono ?_
                  rintro e w13 ⟨rfl, hb13⟩
                  have hW13 : Kept W w13 := kept_call hW12 hb13
                  go_wp2
                  go_ret
                  exact ⟨rfl, HBV.out.trans ((HKW.out.trans (hW13.mono HKW.out.size)).mono HBV.out.size)⟩
                exact AllReadyH.nil
              exact AllReadyH.nil
            exact AllReadyH.nil
          exact AllReadyH.nil
        refine AllReadyH.cons (o := { dst := some 6, op := Go.Op.alloc 24, type := 0, pos := "law.go:37", after := #[], guard := none }) rfl (fun K hK => ?_) ?_
        · go_simp
          refine hK.out _ _ ?_ (fun hHeld => ?_)
          · (try dsimp only)
            (((with_reducible refine tens_and ?_ HTC.out HUC.out); repeat (first | with_reducible assumption | with_reducible exact hk0 | with_reducible refine kept_drew ?_ | with_reducible refine kept_alloc ?_ _ | ((with_reducible refine kept_set ?_ ?hh _); (case hh => first | exact Nat.le_refl _ | (simp only; omega))))))
          clear hK K
          (try simp only [Act.put, List.setIfInBounds_toArray, List.set_cons_zero, List.set_cons_succ])
          have hZ7 := (Below.heap_alloc (V.drew.alloc zeroObj) zeroObj _ (block_lt hZ7)).trans hZ7
          have hZ6 : ((V.drew.alloc zeroObj).alloc zeroObj).heap[V.heap.size + 1]? = some zeroObj := by have := alloc_new (V.drew.alloc zeroObj) zeroObj; simpa using this
          refine wpAnyH_ready (rs := [1]) (by kernel_rfl) (by simp) ?_
          refine AllReadyH.cons (o := { dst := some 19, op := Go.Op.call { callee := Go.Callee.value (Go.Operand.func 10), args := #[Go.Operand.tmp 18], argTypes := #[24] }, type := 24, pos := "law.go:37", after := #[{ on := 0, ground := Go.Ground.data }], guard := none }) rfl (fun K hK => ?_) ?_
          · go_simp
            (go_at_call 10; have hS := hHeld.1; have hnc := Below.size hS; refine (twin_any t _ _ (kept_lies hS HLT.out) (by omega)).mono ?_; rintro e wa ⟨s6, rfl, hl6, hbn⟩; obtain ⟨a6, cap6, rfl, -, -⟩ := hl6.out; have hl6 := hl6.from (B' := V.heap.size + 2) (by simp); have hha := kept_call hS hbn; have hsa : V.heap.size + 2 ≤ wa.heap.size := (by have := hbn.size; first | omega | (simp at this; omega)); have hZ6 := keep_block hbn (block_lt hZ6) hZ6; have hb6 := block_lt hZ6; have hZ7 := keep_block hbn (block_lt hZ7) hZ7; have hb7 := block_lt hZ7; clear hbn hS)
            refine hK.out _ _ ?_ (fun hHeld => ?_)
            · (try dsimp only)
              (((with_reducible refine tens_and ?_ HTC.out HUC.out); repeat (first | with_reducible assumption | with_reducible exact hk0 | with_reducible refine kept_drew ?_ | with_reducible refine kept_alloc ?_ _ | ((with_reducible refine kept_set ?_ ?hh _); (case hh => first | exact Nat.le_refl _ | (simp only; omega))))))
            clear hK K
            (try simp only [Act.put, List.setIfInBounds_toArray, List.set_cons_zero, List.set_cons_succ])
            refine wpAnyH_ready (rs := [3]) (by kernel_rfl) (by simp) ?_
            refine AllReadyH.cons (o := { dst := some 21, op := Go.Op.call { callee := Go.Callee.value (Go.Operand.func 10), args := #[Go.Operand.tmp 20], argTypes := #[24] }, type := 24, pos := "law.go:37", after := #[{ on := 2, ground := Go.Ground.data }, { on := 1, ground := Go.Ground.chain }], guard := none }) rfl (fun K hK => ?_) ?_
            · go_simp
              (go_at_call 10; have hS := hHeld.1; refine (twin_any u _ _ (kept_lies hS HLU.out) (by omega)).mono ?_; rintro e wb ⟨s7, rfl, hl7, hbn⟩; obtain ⟨a7, cap7, rfl, -, -⟩ := hl7.out; have hl7 := hl7.from (B' := wa.heap.size + 0) (by simp); have hhb := kept_call hS hbn; have hsb : wa.heap.size + 0 ≤ wb.heap.size := (by have := hbn.size; first | omega | (simp at this; omega)); have hZ6 := keep_block hbn (block_lt hZ6) hZ6; have hb6 := block_lt hZ6; have hZ7 := keep_block hbn (block_lt hZ7) hZ7; have hb7 := block_lt hZ7; obtain ⟨⟨c60, c61, c62, c63, c64⟩, f60, f61, f62, f63, f64⟩ := And.intro (five_cells hZ6) (five_free hZ6); obtain ⟨⟨c70, c71, c72, c73, c74⟩, f70, f71, f72, f73, f74⟩ := And.intro (five_cells hZ7) (five_free hZ7); have HAB : Below wa.heap.size wa wb := by first | exact hbn | exact Below.trans (Below.refl _ _) hbn; clear hbn hS)
              refine hK.out _ _ ?_ (fun hHeld => ?_)
              · (try dsimp only)
                (((with_reducible refine tens_and ?_ HTC.out HUC.out); repeat (first | with_reducible assumption | with_reducible exact hk0 | with_reducible refine kept_drew ?_ | with_reducible refine kept_alloc ?_ _ | ((with_reducible refine kept_set ?_ ?hh _); (case hh => first | exact Nat.le_refl _ | (simp only; omega))))))
              clear hK K
              (try simp only [Act.put, List.setIfInBounds_toArray, List.set_cons_zero, List.set_cons_succ])
              refine wpAnyH_ready (rs := [6]) (by kernel_rfl) (by simp) ?_
              refine AllReadyH.cons (o := { dst := none, op := Go.Op.store 24 (Go.Operand.tmp 6) (Go.Operand.tmp 19), type := 0, pos := "law.go:37", after := #[{ on := 4, ground := Go.Ground.data }, { on := 1, ground := Go.Ground.data }, { on := 3, ground := Go.Ground.chain }, { on := 0, ground := Go.Ground.phase }, { on := 1, ground := Go.Ground.phase }, { on := 2, ground := Go.Ground.textOnly Go.Departure.lateStores }, { on := 3, ground := Go.Ground.textOnly Go.Departure.lateStoresUnsure }, { on := 4, ground := Go.Ground.phase }, { on := 5, ground := Go.Ground.phase }], guard := none }) rfl (fun K hK => ?_) ?_
              · go_simp
                refine hK.out _ _ ?_ (fun hHeld => ?_)
                · (try dsimp only)
                  (((with_reducible refine tens_and ?_ HTC.out HUC.out); repeat (first | with_reducible assumption | with_reducible exact hk0 | with_reducible refine kept_drew ?_ | with_reducible refine kept_alloc ?_ _ | ((with_reducible refine kept_set ?_ ?hh _); (case hh => first | exact Nat.le_refl _ | (simp only; omega))))))
                clear hK K
                (try simp only [Act.put, List.setIfInBounds_toArray, List.set_cons_zero, List.set_cons_succ])
                refine wpAnyH_ready (rs := [7]) (by kernel_rfl) (by simp) ?_
                refine AllReadyH.cons (o := { dst := none, op := Go.Op.store 24 (Go.Operand.tmp 7) (Go.Operand.tmp 21), type := 0, pos := "law.go:37", after := #[{ on := 5, ground := Go.Ground.data }, { on := 3, ground := Go.Ground.data }, { on := 6, ground := Go.Ground.chain }, { on := 0, ground := Go.Ground.phase }, { on := 1, ground := Go.Ground.phase }, { on := 2, ground := Go.Ground.phase }, { on := 3, ground := Go.Ground.phase }, { on := 4, ground := Go.Ground.phase }, { on := 5, ground := Go.Ground.phase }, { on := 6, ground := Go.Ground.phase }], guard := none }) rfl (fun K hK => ?_) ?_
                · go_simp
                  refine hK.out _ _ ?_ (fun hHeld => ?_)
                  · (try dsimp only)
                    (((with_reducible refine tens_and ?_ HTC.out HUC.out); repeat (first | with_reducible assumption | with_reducible exact hk0 | with_reducible refine kept_drew ?_ | with_reducible refine kept_alloc ?_ _ | ((with_reducible refine kept_set ?_ ?hh _); (case hh => first | exact Nat.le_refl _ | (simp only; omega))))))
                  clear hK K
                  (try simp only [Act.put, List.setIfInBounds_toArray, List.set_cons_zero, List.set_cons_succ])
                  refine wpAnyH_done (by kernel_rfl) ?_ _
                  have Q6 : ((((((((((wb.setCell ⟨V.heap.size + 1, 0, none⟩ (.int .i64 t.k)).setCell ⟨V.heap.size + 1, 1, none⟩ (.int .i64 t.i)).setCell ⟨V.heap.size + 1, 2, none⟩ (.int .i64 t.j)).setCell ⟨V.heap.size + 1, 3, none⟩ (.int .i64 t.n)).setCell ⟨V.heap.size + 1, 4, none⟩ (.slice a6 t.kids.length cap6)).setCell ⟨V.heap.size, 0, none⟩ (.int .i64 u.k)).setCell ⟨V.heap.size, 1, none⟩ (.int .i64 u.i)).setCell ⟨V.heap.size, 2, none⟩ (.int .i64 u.j)).setCell ⟨V.heap.size, 3, none⟩ (.int .i64 u.n)).setCell ⟨V.heap.size, 4, none⟩ (.slice a7 u.kids.length cap7)).heap[V.heap.size + 1]? = some (boxOf t (.slice a6 t.kids.length cap6)) := (five_other _ _ _ _ _ _ _ (by omega)).trans (five_set hZ6)
                  have Q7 : ((((((((((wb.setCell ⟨V.heap.size + 1, 0, none⟩ (.int .i64 t.k)).setCell ⟨V.heap.size + 1, 1, none⟩ (.int .i64 t.i)).setCell ⟨V.heap.size + 1, 2, none⟩ (.int .i64 t.j)).setCell ⟨V.heap.size + 1, 3, none⟩ (.int .i64 t.n)).setCell ⟨V.heap.size + 1, 4, none⟩ (.slice a6 t.kids.length cap6)).setCell ⟨V.heap.size, 0, none⟩ (.int .i64 u.k)).setCell ⟨V.heap.size, 1, none⟩ (.int .i64 u.i)).setCell ⟨V.heap.size, 2, none⟩ (.int .i64 u.j)).setCell ⟨V.heap.size, 3, none⟩ (.int .i64 u.n)).setCell ⟨V.heap.size, 4, none⟩ (.slice a7 u.kids.length cap7)).heap[V.heap.size]? = some (boxOf u (.slice a7 u.kids.length cap7)) := five_set ((five_other _ _ _ _ _ _ _ (by omega)).trans hZ7)
                  have hL6 : Lies ((((((((((wb.setCell ⟨V.heap.size + 1, 0, none⟩ (.int .i64 t.k)).setCell ⟨V.heap.size + 1, 1, none⟩ (.int .i64 t.i)).setCell ⟨V.heap.size + 1, 2, none⟩ (.int .i64 t.j)).setCell ⟨V.heap.size + 1, 3, none⟩ (.int .i64 t.n)).setCell ⟨V.heap.size + 1, 4, none⟩ (.slice a6 t.kids.length cap6)).setCell ⟨V.heap.size, 0, none⟩ (.int .i64 u.k)).setCell ⟨V.heap.size, 1, none⟩ (.int .i64 u.i)).setCell ⟨V.heap.size, 2, none⟩ (.int .i64 u.j)).setCell ⟨V.heap.size, 3, none⟩ (.int .i64 u.n)).setCell ⟨V.heap.size, 4, none⟩ (.slice a7 u.kids.length cap7)) t.kids (.slice a6 t.kids.length cap6) := (hl6.keep (Q := fun _ => True) (fun b hp hlt => by have h0 := hp.1; exact (five_other _ _ _ _ _ _ _ (by omega)).trans ((five_other _ _ _ _ _ _ _ (by omega)).trans (HAB.block b hlt))) (fun _ _ _ => trivial)).lies
                  have hL7 : Lies ((((((((((wb.setCell ⟨V.heap.size + 1, 0, none⟩ (.int .i64 t.k)).setCell ⟨V.heap.size + 1, 1, none⟩ (.int .i64 t.i)).setCell ⟨V.heap.size + 1, 2, none⟩ (.int .i64 t.j)).setCell ⟨V.heap.size + 1, 3, none⟩ (.int .i64 t.n)).setCell ⟨V.heap.size + 1, 4, none⟩ (.slice a6 t.kids.length cap6)).setCell ⟨V.heap.size, 0, none⟩ (.int .i64 u.k)).setCell ⟨V.heap.size, 1, none⟩ (.int .i64 u.i)).setCell ⟨V.heap.size, 2, none⟩ (.int .i64 u.j)).setCell ⟨V.heap.size, 3, none⟩ (.int .i64 u.n)).setCell ⟨V.heap.size, 4, none⟩ (.slice a7 u.kids.length cap7)) u.kids (.slice a7 u.kids.length cap7) := (hl7.keep (Q := fun _ => True) (fun b hp hlt => by have h0 := hp.1; exact (five_other _ _ _ _ _ _ _ (by omega)).trans ((five_other _ _ _ _ _ _ _ (by omega)).trans rfl)) (fun _ _ _ => trivial)).lies
                  have hKW : Kept V ((((((((((wb.setCell ⟨V.heap.size + 1, 0, none⟩ (.int .i64 t.k)).setCell ⟨V.heap.size + 1, 1, none⟩ (.int .i64 t.i)).setCell ⟨V.heap.size + 1, 2, none⟩ (.int .i64 t.j)).setCell ⟨V.heap.size + 1, 3, none⟩ (.int .i64 t.n)).setCell ⟨V.heap.size + 1, 4, none⟩ (.slice a6 t.kids.length cap6)).setCell ⟨V.heap.size, 0, none⟩ (.int .i64 u.k)).setCell ⟨V.heap.size, 1, none⟩ (.int .i64 u.i)).setCell ⟨V.heap.size, 2, none⟩ (.int .i64 u.j)).setCell ⟨V.heap.size, 3, none⟩ (.int .i64 u.n)).setCell ⟨V.heap.size, 4, none⟩ (.slice a7 u.kids.length cap7)) := below_five (below_five hhb (by omega) _ _ _ _ _) (by omega) _ _ _ _ _
                  clear hHeld hl6 hl7 HAB
                  generalize ((((((((((wb.setCell ⟨V.heap.size + 1, 0, none⟩ (.int .i64 t.k)).setCell ⟨V.heap.size + 1, 1, none⟩ (.int .i64 t.i)).setCell ⟨V.heap.size + 1, 2, none⟩ (.int .i64 t.j)).setCell ⟨V.heap.size + 1, 3, none⟩ (.int .i64 t.n)).setCell ⟨V.heap.size + 1, 4, none⟩ (.slice a6 t.kids.length cap6)).setCell ⟨V.heap.size, 0, none⟩ (.int .i64 u.k)).setCell ⟨V.heap.size, 1, none⟩ (.int .i64 u.i)).setCell ⟨V.heap.size, 2, none⟩ (.int .i64 u.j)).setCell ⟨V.heap.size, 3, none⟩ (.int .i64 u.n)).setCell ⟨V.heap.size, 4, none⟩ (.slice a7 u.kids.length cap7)) = W at Q6 Q7 hL6 hL7 hKW ⊢
                  obtain ⟨g6, hg6⟩ : ∃ g, V.heap.size + 1 = g := ⟨_, rfl⟩
                  rw [hg6] at Q6 ⊢
                  obtain ⟨g7, hg7⟩ : ∃ g, V.heap.size = g := ⟨_, rfl⟩
                  rw [hg7] at Q7 ⊢
                  have HQ6 := Lib.hid Q6
                  have HQ7 := Lib.hid Q7
                  have HL6 := Lib.hid hL6
                  have HL7 := Lib.hid hL7
                  have HKW := Lib.hid hKW
                  clear Q6 Q7 hL6 hL7 hKW hg6 hg7
                  obtain ⟨m0, m1, m2, m3, m4⟩ := five_cells HQ6.out
                  obtain ⟨n0, n1, n2, n3, n4⟩ := five_cells HQ7.out
                  go_wp2_with fail
                  have CP := put_any t u W _ _ HL6.out HL7.out HDT.out HDU.out
                  rw [HPU.out] at CP
                  refine CP.mono ?_
                  clear CP m0 m1 m2 m3 m4 n0 n1 n2 n3 n4
                  rintro e w7 ⟨s8, rfl, hl8, hb7⟩
                  obtain ⟨a8, cap8, rfl, -, -⟩ := hl8.out
                  have qw7 := keep_block hb7 (block_lt (keep_block HKW.out (block_lt HQW.out) HQW.out)) (keep_block HKW.out (block_lt HQW.out) HQW.out)
                  obtain ⟨x0, x1, x2, x3, x4⟩ := five_cells qw7
                  have hgw7 := block_lt qw7
                  have hb8 : Below w7.heap.size w7 (w7.alloc (.cells #[.int .i64 U.k, .int .i64 U.i, .int .i64 U.j, .int .i64 U.n, .slice a8 U.kids.length cap8] 24)) := (Below.refl _ _).alloc (Nat.le_refl _) _
                  have HB7 := Lib.hid hb7
                  have HL8 := Lib.hid hl8
                  have HW7 := Lib.hid ((HLW.out.keep HKW.out).keep hb7)
                  clear hb7 hl8 qw7
                  go_wp2_with fail
                  refine (keepsame_eq U _ _ _ (HL8.out.lies.keep hb8) (HW7.out.keep hb8)).mono ?_
                  rintro e w9 ⟨rfl, hb9⟩
                  have hb79 : Below w7.heap.size w7 w9 := hb8.trans (hb9.mono hb8.size)
                  have r9 := keep_block hb9 (block_lt (alloc_new w7 _)) (alloc_new w7 _)
                  obtain ⟨z0, z1, z2, z3, z4⟩ := five_cells r9
                  have hsp := HL8.out.keep (w' := w9) (Q := fun b => b < w7.heap.size ∧ Own W.heap.size w9 b) (fun b _ hlt => hb79.block b hlt) (fun b hb hlt => ⟨hlt, hb.later hb79⟩)
                  have HSP := Lib.hid (spoil_any (fun b => b < w7.heap.size ∧ Own W.heap.size w9 b) w7.heap.size (fun b hb => hb.1) U.size U w9 _ (Nat.le_refl _) hsp (fun b hb => hb.2.2) hb79.size)
                  have hW9 : Below W.heap.size W w9 := HB7.out.trans (hb79.mono HB7.out.size)
                  have HW9 := Lib.hid hW9
                  clear hb79 hb8 hb9 hsp r9 x0 x1 x2 x3 x4 hW9
                  go_wp2_with fail
                  refine HSP.out.mono ?_
                  rintro e w10 ⟨rfl, hshr⟩
                  have hB10 : Below W.heap.size w9 w10 := hshr.below (fun b hb => hb.2.1) HW9.out.size
                  have hW10 : Kept W w10 := HW9.out.trans hB10
                  have HW10 := Lib.hid hW10
                  have H5t := Lib.hid (HTC.out.keep HKW.out)
                  have H5u := Lib.hid (HUC.out.keep HKW.out)
                  have HLTW := Lib.hid (HLT.out.keep HKW.out)
                  have HLUW := Lib.hid (HLU.out.keep HKW.out)
                  have H56 : Hid (Five W g6 t (.slice a6 t.kids.length cap6)) := Lib.hid (five_cells HQ6.out)
                  have H57 : Hid (Five W g7 u (.slice a7 u.kids.length cap7)) := Lib.hid (five_cells HQ7.out)
                  clear hshr hB10 HSP z0 z1 z2 z3 z4
                  obtain ⟨d0, d1, d2, d3, d4⟩ := H5t.out.keep hW10
                  obtain ⟨m0, m1, m2, m3, m4⟩ := H56.out.keep hW10
                  go_wp2_with fail
                  refine (keepsame_eq t _ _ _ (HL6.out.keep hW10) (HLTW.out.keep hW10)).mono ?_
                  rintro e w11 ⟨rfl, hb11⟩
                  have hW11 : Kept W w11 := kept_call hW10 hb11
                  clear hb11 d0 d1 d2 d3 d4 m0 m1 m2 m3 m4
                  obtain ⟨d0, d1, d2, d3, d4⟩ := H5u.out.keep hW11
                  obtain ⟨m0, m1, m2, m3, m4⟩ := H57.out.keep hW11
                  go_wp2_with fail
                  refine (keepsame_eq u _ _ _ (HL7.out.keep hW11) (HLUW.out.keep hW11)).mono ?_
                  rintro e w12 ⟨rfl, hb12⟩
                  have hW12 : Kept W w12 := kept_call hW11 hb12
                  go_wp2_with fail
                  refine (wakes7_any _).mono ?_
                  rintro e w13 ⟨rfl, hb13⟩
                  have hW13 : Kept W w13 := kept_call hW12 hb13
                  go_wp2
                  go_ret
                  exact ⟨rfl, HBV.out.trans ((HKW.out.trans (hW13.mono HKW.out.size)).mono HBV.out.size)⟩
                exact AllReadyH.nil
              exact AllReadyH.nil
            exact AllReadyH.nil
          exact AllReadyH.nil
        exact AllReadyH.nil
      exact AllReadyH.nil
end Go.Proofs.Ytmhmengbhdaodaa

/-! A term that is handed in, opened: it is a tree that lies in the world. -/
namespace Go.Proofs.Ytmhmengbhdaodaa
open Go.ChangeShapes Go.WideShapes Go.ChangeAt Go.RowKit

theorem own : ownKnob Try.prog.godebug = none := by kernel_rfl
theorem cells_int : Try.prog.cellsOf 3 = 1 := by kernel_rfl
theorem cells_kids : Try.prog.cellsOf 22 = 1 := by kernel_rfl
theorem cells_term : Try.prog.cellsOf 24 = 5 := by kernel_rfl
theorem laidOut : laidOutB Try.prog = true := by kernel_rfl

instance instOpenTm : Inhabited (Tm × Value) := ⟨(.mk 0 0 0 0 [], .nilIface)⟩

theorem list5 {α : Type} {l : List α} (h : l.length = 5) : ∃ a b c d e, l = [a, b, c, d, e] := by
  match l, h with
  | [a, b, c, d, e], _ => exact ⟨a, b, c, d, e, rfl⟩

theorem wf_I64 {x : Int} (h : (Lit.int .i64 x).wf = true) : I64 x := by
  simp [Lit.wf] at h
  have hm : IntKind.i64.min = -9223372036854775808 := by decide
  rw [hm] at h
  exact h

set_option maxRecDepth 100000 in
theorem open_term {H : Type} {enc : TypeId × Value → H} {w : World} {base : Nat} {sp : Nat → Bool} {hd : Bool} : ∀ (fuel : Nat) (cs : List Value) (x : DataW H × List MemPlace),
    DataW.trod enc Try.prog w base sp hd fuel 24 cs = some x → ∃ (t : Tm) (s : Value), cs = [.int .i64 t.k, .int .i64 t.i, .int .i64 t.j, .int .i64 t.n, s] ∧ t.fine ∧ Lies w t.kids s := by
  intro fuel
  induction fuel using Nat.strongRecOn with
  | _ fuel ih =>
    intro cs x h
    obtain ⟨xs, n, rfl, rfl, hl, hlen, hf⟩ := DataW.trod_struct Try.underlying24 h
    rw [cells_term] at hl
    obtain ⟨v0, v1, v2, v3, v4, rfl⟩ := list5 hl
    obtain ⟨y0, y1, y2, y3, y4, rfl⟩ := list5 hlen
    have g0 := hf 0 _ rfl
    have g1 := hf 1 _ rfl
    have g2 := hf 2 _ rfl
    have g3 := hf 3 _ rfl
    have g4 := hf 4 _ rfl
    simp [cells_int, cells_kids] at g0 g1 g2 g3 g4
    obtain ⟨k, e0, -, w0⟩ := DataW.trod_int Try.underlying3 g0
    obtain ⟨i, e1, -, w1⟩ := DataW.trod_int Try.underlying3 g1
    obtain ⟨j, e2, -, w2⟩ := DataW.trod_int Try.underlying3 g2
    obtain ⟨m, e3, -, w3⟩ := DataW.trod_int Try.underlying3 g3
    simp at e0 e1 e2 e3
    subst e0 e1 e2 e3
    rcases DataW.trod_slice Try.underlying22 g4 with ⟨e4, -⟩ | ⟨a, len, cap, elems, rest, n', rfl, e4, -, hb, hlc, hm, hlen', hel, -, -⟩
    · simp at e4
      subst e4
      exact ⟨.mk k i j m [], _, rfl, ⟨wf_I64 w0, wf_I64 w1, wf_I64 w2, wf_I64 w3⟩, .mk [] none 0 (fun _ => .nilIface) (Nat.le_refl _) (by decide) (fun _ h => by cases h) (fun _ h => by cases h) (fun _ h => by cases h)⟩
    · simp at e4
      subst e4
      have key : ∀ i, i < len → ∃ p : Tm × Value, p.1.fine ∧ Lies w p.1.kids p.2 ∧ ∃ b o, a = ⟨b, o, none⟩ ∧ Node w b (o + i * 5) p.1 p.2 := by
        intro i hi
        have h1 := hel i hi
        rw [cells_term, List.getElem?_eq_getElem (by omega)] at h1
        obtain ⟨cs', h2, h3⟩ := Option.bind_eq_some_iff.1 h1
        obtain ⟨t, s, rfl, hfine, hlies⟩ := ih n' (by omega) _ _ h3
        obtain ⟨-, -, hcell⟩ := World.cells?_some h2
        have hs0 : a.spot = none := by
          have h1 := hel 0 (by omega)
          rw [cells_term, List.getElem?_eq_getElem (by omega)] at h1
          obtain ⟨cs0, h2, -⟩ := Option.bind_eq_some_iff.1 h1
          obtain ⟨-, hl0, hc0⟩ := World.cells?_some h2
          have c0 := hc0 0 (by omega)
          rw [List.getElem?_eq_getElem (by omega)] at c0
          simpa [Addr.add] using World.cell?_spot c0
        obtain ⟨b, o, spot⟩ := a
        simp only at hs0
        subst hs0
        refine ⟨(t, s), hfine, hlies, b, o, rfl, ?_⟩
        have hc : ∀ q, q < 5 → w.cell? ⟨b, o + i * 5 + q, none⟩ = [Value.int .i64 t.k, .int .i64 t.i, .int .i64 t.j, .int .i64 t.n, s][q]? := fun q hq => by
          have := hcell q hq
          rwa [add_plain, add_plain] at this
        exact ⟨hc 0 (by omega), hc 1 (by omega), hc 2 (by omega), hc 3 (by omega), hc 4 (by omega)⟩
      obtain ⟨f, hf'⟩ := Go.Deep.choose_lt (α := Tm × Value) (p := fun i p => p.1.fine ∧ Lies w p.1.kids p.2 ∧ ∃ b o, a = ⟨b, o, none⟩ ∧ Node w b (o + i * 5) p.1 p.2) key
      have hl5 : ((List.range len).map fun i => (f i).1).length = len := by simp
      refine ⟨.mk k i j m ((List.range len).map fun i => (f i).1), _, rfl, ⟨wf_I64 w0, wf_I64 w1, wf_I64 w2, wf_I64 w3⟩, ?_⟩
      have := Lies.mk (w := w) ((List.range len).map fun i => (f i).1) (some a) cap (fun i => (f i).2) (by simpa using hlc) hm
        (fun x hx => by
          obtain ⟨i, hi, rfl⟩ := List.mem_map.1 hx
          exact (hf' i (List.mem_range.1 hi)).1)
        (fun i hi => by
          obtain ⟨b, o, ha, hn⟩ := (hf' i (by simpa using hi)).2.2
          exact ⟨b, o, by rw [ha], by simpa using hn⟩)
        (fun i hi => by simpa using (hf' i (by simpa using hi)).2.1)
      rwa [hl5] at this
set_option maxRecDepth 100000 in
/-- The same for an argument. -/
theorem open_arg {H : Type} {enc : TypeId × Value → H} {W : World} {r : Reach} {b0 base : Nat} {sp : Nat → Bool} {hd : Bool} {v : Value} {d : DataW H} {p : List MemPlace} (hv : Value.okWide Try.prog W r b0 24 v)
    (h : DataW.Trod enc Try.prog W base sp hd 24 v d p) : ∃ (t : Tm) (s : Value), Lies W t.kids s ∧ v = tv t s := by
  obtain ⟨cs, rfl, hsz⟩ := okWide_struct Try.underlying24 hv
  obtain ⟨fuel, hf⟩ := h
  obtain ⟨t, s, hcs, -, hl⟩ := open_term fuel _ _ hf
  refine ⟨t, s, hl, ?_⟩
  have : cs.toList = [.int .i64 t.k, .int .i64 t.i, .int .i64 t.j, .int .i64 t.n, s] := by simpa [Value.cells] using hcs
  rw [show cs = #[.int .i64 t.k, .int .i64 t.i, .int .i64 t.j, .int .i64 t.n, s] from by cases cs; simp_all]

end Go.Proofs.Ytmhmengbhdaodaa

/-! The words of the cut's first line: the facts of a row that ask for them, each made once for all rows of the seat. -/
namespace Go.Proofs.Ytmhmengbhdaodaa
open Go.ChangeShapes Go.WideShapes

def code (l : List Nat) : List Char := l.map Char.ofNat
def joinN : List (List Nat) → List Nat
  | [] => []
  | [a] => a
  | a :: b :: r => a ++ 32 :: joinN (b :: r)

theorem words_one : ∀ a : List Nat, (a.all fun n => Char.ofNat n != Char.ofNat 32) = true → wordsSigns (code a) = [code a]
  | [], _ => rfl
  | n :: a, h => by
    simp only [List.all_cons, Bool.and_eq_true, bne_iff_ne] at h
    have ih := words_one a h.2
    show wordsSigns (Char.ofNat n :: code a) = _
    rw [wordsSigns]
    · rw [ih]; rfl
    · exact h.1
theorem words_more : ∀ (a : List Nat) (r : List Char), (a.all fun n => Char.ofNat n != Char.ofNat 32) = true → wordsSigns (code a ++ Char.ofNat 32 :: r) = code a :: wordsSigns r
  | [], r, _ => by
    show wordsSigns (Char.ofNat 32 :: r) = _
    rw [show Char.ofNat 32 = _ from rfl, wordsSigns]; rfl
  | n :: a, r, h => by
    simp only [List.all_cons, Bool.and_eq_true, bne_iff_ne] at h
    have ih := words_more a r h.2
    show wordsSigns (Char.ofNat n :: (code a ++ Char.ofNat 32 :: r)) = _
    rw [wordsSigns]
    · rw [ih]; rfl
    · exact h.1
theorem words_join : ∀ ws : List (List Nat), ws ≠ [] → (ws.all fun w => w.all fun n => Char.ofNat n != Char.ofNat 32) = true → wordsSigns (code (joinN ws)) = ws.map code
  | [], h, _ => absurd rfl h
  | [a], _, h => by simp only [List.all_cons, List.all_nil, Bool.and_true] at h; exact words_one a h
  | a :: b :: r, _, h => by
    have h' := h
    rw [List.all_cons, Bool.and_eq_true] at h'
    have ih := words_join (b :: r) (by simp) h'.2
    show wordsSigns (code (a ++ 32 :: joinN (b :: r))) = _
    rw [show code (a ++ 32 :: joinN (b :: r)) = code a ++ Char.ofNat 32 :: code (joinN (b :: r)) from by simp [code], words_more a _ h'.1, ih]; rfl

def cutWords : List (List Nat) := [[104, 97, 114, 110, 101, 115, 115],
  [97, 57, 52, 57, 101, 55, 101, 48, 97, 55, 52, 102, 97, 56, 54, 57, 99, 101, 101, 50, 51, 55, 51, 102, 55, 52, 97, 50, 57, 50, 50, 100, 48, 97, 97, 48, 49, 98, 57, 55, 51, 53, 100, 54, 54, 97, 50, 56, 53, 102, 49, 57, 97, 101, 100, 57, 97, 52, 51, 49, 48, 102, 98, 99],
  [99, 117, 116],
  [97, 116],
  [116, 114, 97, 110, 115, 104, 105, 112, 47, 116, 114, 97, 110, 115, 104, 105, 112, 108, 97, 119, 48, 54, 46, 83, 116, 114, 105, 112, 69, 120, 97, 99, 116],
  [116, 114, 97, 110, 115, 104, 105, 112, 47, 116, 114, 97, 110, 115, 104, 105, 112, 108, 97, 119, 48, 55, 46, 80, 117, 116, 69, 120, 97, 99, 116],
  [116, 114, 97, 110, 115, 104, 105, 112, 47, 116, 114, 97, 110, 115, 104, 105, 112, 108, 97, 119, 48, 55, 46, 65, 108, 108, 69, 120, 97, 99, 116],
  [116, 114, 97, 110, 115, 104, 105, 112, 47, 116, 114, 97, 110, 115, 104, 105, 112, 108, 97, 119, 48, 55, 46, 80, 117, 116, 65, 108, 108],
  [116, 114, 97, 110, 115, 104, 105, 112, 47, 116, 114, 97, 110, 115, 104, 105, 112, 108, 97, 119, 48, 55, 46, 80, 117, 116, 84, 119, 105, 99, 101]]

set_option maxRecDepth 100000 in
theorem cut_words : wordsSigns Try.prog.initOrder.toList = cutWords.map code := by
  have h : Try.prog.initOrder.toList = code (joinN cutWords) := by
    show (String.ofList (code (joinN cutWords))).toList = _
    exact String.toList_ofList
  rw [h]
  exact words_join cutWords (by simp [cutWords]) (by decide +kernel)

theorem cut_behind : behindMainWord (cutWords.map code) = code [99, 117, 116] :: cutWords.tail.tail.tail.map code := by kernel_rfl
theorem cut_lifts : stripLifts liftWords (code [99, 117, 116] :: cutWords.tail.tail.tail.map code) = ([], code [99, 117, 116] :: cutWords.tail.tail.tail.map code) := by kernel_rfl
theorem cut1 : (code [99, 117, 116] == "gc".toList) = false := by kernel_rfl
theorem cut2 : (code [99, 117, 116] == "spec".toList) = false := by kernel_rfl
theorem cut3 : (code [99, 117, 116] == "cut".toList) = true := by kernel_rfl
theorem cut_all : behindMainWord (wordsSigns Try.prog.initOrder.toList) = code [99, 117, 116] :: cutWords.tail.tail.tail.map code := by rw [cut_words, cut_behind]
theorem make_of (P : Program) {c : List Char} {rest : List (List Char)} (h : behindMainWord (wordsSigns P.initOrder.toList) = c :: rest) (h1 : (c == "gc".toList) = false) (h2 : (c == "spec".toList) = false) (h3 : (c == "cut".toList) = true) : P.make = some .cut := by
  unfold Program.make; rw [h]
  simp only [h1, h2, h3, Bool.or_self, Bool.false_eq_true, if_false, Bool.true_or, if_true]
theorem mayEnter_of (P : Program) {c : List Char} {rest : List (List Char)} (h : behindMainWord (wordsSigns P.initOrder.toList) = c :: rest) (h3 : ((stripLifts liftWords (c :: rest)).2.head? == some "cut".toList) = true)
    (h4 : (stripLifts liftWords (c :: rest)).1 = []) (h5 : P.laysLater = false) (h6 : P.bearsReflect = false) (h7 : P.doorFits [] = true) : P.mayEnter = true := by
  unfold Program.mayEnter; rw [h]
  refine Bool.or_eq_true_iff.2 (Or.inr ?_)
  rw [h3, h4, h5, h6, h7]; rfl
theorem row_make : Try.prog.make = some .cut := make_of Try.prog cut_all cut1 cut2 cut3
theorem row_mayEnter : Try.prog.mayEnter = true := mayEnter_of Try.prog cut_all (by rw [cut_lifts]; kernel_rfl) (by rw [cut_lifts]) (by kernel_rfl) (by kernel_rfl) (by kernel_rfl)
theorem row_lifts : Try.prog.liftsFinal = false := by unfold Program.liftsFinal Program.headLifts; rw [cut_all, cut_lifts]; kernel_rfl
end Go.Proofs.Ytmhmengbhdaodaa

/-! PutExact holds: for every input the call returns true, and the arguments read as before. The walk of the Go text is in the texts that this one imports; no condition. -/
namespace Go.Proofs.Ytmhmengbhdaodaa.lawPutExact
open Go.ChangeShapes Go.WideShapes Go.ChangeAt Go.RowKit

set_option maxRecDepth 100000 in
theorem lifted (os : Os) (started : os.Started) (H : Type) (enc : TypeId × Value → H) :
    ReturnsInHanded {} Try.checked os 4 .any (Rows.putExactSpec.pre6 enc Try.prog Try.f4 Rows.putExactRow.domain false) (Rows.putExactSpec.post enc Try.prog Try.f4 false true false false) := by
  refine returnsInHanded_of_change (C := Try.checked) own started (by kernel_rfl) Try.func4
    (ChangeSpec.witness6 (enc := enc) (C := Try.checked) false ⟨#[], #[.agg #[.int .i64 0, .int .i64 0, .int .i64 0, .int .i64 0, .slice none 0 0], .agg #[.int .i64 0, .int .i64 0, .int .i64 0, .int .i64 0, .slice none 0 0]], []⟩ 8 (by kernel_rfl) (by kernel_rfl) (by kernel_rfl) (by kernel_rfl)) ?_
  intro W base args ds gs before hval0 hW hcnd _
  have hval : ∀ (j : Nat) t v, Try.f4.params[j]? = some t → args[j]? = some v → Value.okWide Try.prog W .any base t v := hval0
  have hW' := hW
  obtain ⟨p, q, hA0, hV, rfl, hfz, hnd⟩ := hW
  have hA : DataW.TrodAll enc Try.prog W 0 (fun _ => true) true Try.f4.params.toList args.toList ds p := hA0
  rw [Try.params4] at hA hval
  obtain ⟨v0, vs0, d0, ds0, p0, q0, hargs0, rfl, rfl, h0, r0⟩ := trodAll_cons hA
  obtain ⟨v1, vs1, d1, ds1, p1, q1, hargs1, rfl, rfl, h1, r1⟩ := trodAll_cons r0
  obtain ⟨rfl, rfl, rfl⟩ := trodAll_nil r1
  obtain rfl : args = #[v0, v1] := by cases args; simp_all
  obtain ⟨rfl, rfl⟩ := trodVars_none hV
  have h0k := h0
  have hlt0 : ∀ x ∈ p0, x.block < W.heap.size := fun x hx => by have := hW'.lt x (by simp [hx]); simpa using this
  obtain ⟨t0, s0, hl0, hv0⟩ := open_arg (hval 0 24 v0 rfl rfl) h0
  subst hv0
  have h1k := h1
  have hlt1 : ∀ x ∈ p1, x.block < W.heap.size := fun x hx => by have := hW'.lt x (by simp [hx]); simpa using this
  obtain ⟨t1, s1, hl1, hv1⟩ := open_arg (hval 1 24 v1 rfl rfl) h1
  subst hv1
  clear hA0 hval0
  simp only [List.append_nil] at hW'
  refine (putExact_any t0 t1 W s0 s1 hl0 hl1).mono fun e W' ⟨he, hb⟩ => ?_
  subst he
  exact ⟨_, rfl, _, _, _, [], _, [], hW', trodAll_cons_mk (shut_bool Try.underlying4 _) trodAll_mk0, (trodAll_cons_mk (Below.trod laidOut (by kernel_rfl) (of_decide_eq_true (by kernel_rfl)) h0k hb hlt0) (trodAll_cons_mk (Below.trod laidOut (by kernel_rfl) (of_decide_eq_true (by kernel_rfl)) h1k hb hlt1) trodAll_mk0)), rfl, hb.frame _, fun h => by cases h⟩

theorem closed : joinedFacts Try.prog 4 Try.f4 Rows.putExactSpec Rows.putExactRow = true := by
  unfold joinedFacts
  rw [row_mayEnter, row_lifts, row_make]
  kernel_rfl

theorem proved : Rows.PutExactSaid :=
  OpenClaim.holds_of_wide 4 Try.f4 rfl rfl rfl rfl rfl rfl rfl ⟨rfl, rfl, rfl, rfl, rfl⟩ rfl rfl rfl rfl rfl (by kernel_rfl) Try.func4 closed
    (of_decide_eq_true (by kernel_rfl)) (by unfold Func.isWrapper; first | (rw [if_pos (by decide +kernel)]; kernel_rfl) | (rw [if_neg (by decide +kernel)]; exact ⟨rfl, rfl⟩))
    (fun os started H enc _ => lifted os started H enc)
#print axioms proved
end Go.Proofs.Ytmhmengbhdaodaa.lawPutExact
