/-
  Facts and contracts that the proof of RuleLevels uses.
-/
import Derived.Test.YtjlppnmckobcfaaRows
import Derived.WalkKit
import Derived.Lib.Hide
import Derived.KernelRfl
import Derived.Deep.RegionWith
import Derived.Deep.RegionHeld3
import Derived.Deep.AppendLies
import Derived.Laws.Rows
import Derived.Laws.IdiomCopy
import Derived.Deep.Slices
import Derived.Deep.QuietTactic
import Derived.BigQuiet
import Derived.Lib.QuietBelow
import Derived.StillTailTactics
import Derived.IntWalk
import Derived.OwnWalk
import Derived.OrdersHeld
import Derived.Deep.DeepCutAuto
import Derived.Deep.RegionLaw
import Derived.Deep.LoopGhost
import Derived.Deep.MidRow
import Derived.Laws.Tables
import Derived.Laws.CopyOwn
import Derived.Laws.CopyRow
import Derived.Deep.RegionHeld
import Derived.ProofKit
import Derived.OpenShut
import Derived.Carry
import Derived.ChangeSlices
import Derived.JoinedOf
import Derived.Test.YtjlppnmckobcfaaRuleLevelsQ3
namespace Go.Proofs.Ytjlppnmckobcfaa
open Go.RowKit

theorem kidsK (r : Int) (w : World) : Calls Try.prog 21 #[.int .i64 r] w fun e w' => e = .returned (.int .i64 (Dv.dkidsN r)) ∧ Kept w w' := (Dv.dkids_any r w).mono (fun _ _ h => ⟨h.1, by rw [h.2]; exact kept_refl _⟩)
theorem innerK (r k : Int) (w : World) : Calls Try.prog 23 #[.int .i64 r, .int .i64 k] w fun e w' => e = .returned (.bool (Dv.innerB r k)) ∧ Kept w w' := (Dv.dinner_any r k w).mono (fun _ _ h => ⟨h.1, by rw [h.2]; exact kept_refl _⟩)
/-- A context is handed back. -/
def GivesE (l : List En) (w : World) (e : Ending) (w' : World) : Prop := ∃ s' : Value, e = .returned s' ∧ LiesE w' l s' ∧ Kept w w'
theorem givesE_row {l : List En} {w w' : World} {e : Ending} (h : GivesRow l w e w') : GivesE l w e w' := by
  obtain ⟨s', ps, h1, h2, h3, h4⟩ := h
  subst h3
  exact ⟨s', h1, (madeE_lies h2).lies, h4⟩
theorem givesE_made {l : List En} {w w' : World} {e : Ending} (h : MakesE l w e w') : GivesE l w e w' := by
  obtain ⟨s', h1, h2, h3⟩ := h
  exact ⟨s', h1, h2.lies, h3⟩

set_option maxRecDepth 20000 in
set_option maxHeartbeats 4000000 in
theorem premise0_any (r : Int) (kid : Int) (i : Int) (c : List En) (u : Tm) (v : Tm) (x : Tm) (P : Nat → Prop) (w : World) (sc : Value) (b0 o0 N0 cap0 : Nat) (C0 : Array Value) (T0 : TypeId) (fr0 : Nat × Nat) (su : Value) (sv : Value) (sx : Value) (hlc : LiesE w c sc) (hrr : I64 r) (hrkid : I64 kid) (hfu : u.fine) (hlu : LiesQ w P u.kids su) (hfv : v.fine) (hlv : LiesQ w P v.kids sv) (hfx : x.fine) (hlx : LiesQ w P x.kids sx) (hri : I64 i) (hb0 : w.heap[b0]? = some (.cells C0 T0 fr0)) (hs0 : (C0.toList.drop o0).take 17 = [.bool false, .int .i64 u.k, .int .i64 u.i, .int .i64 u.j, .int .i64 u.n, su, .int .i64 v.k, .int .i64 v.i, .int .i64 v.j, .int .i64 v.n, sv, .int .i64 x.k, .int .i64 x.i, .int .i64 x.j, .int .i64 x.n, sx, .int .i64 i]) (hN0 : 0 < N0) (hlen : c.length ≤ 100000) (hsz : ∀ e ∈ c, e.a.size ≤ 1000000) (rest : List Jd) (hzu : u.size ≤ 1000000) (hza : x.size ≤ 1000000) : Calls Try.prog 8 #[sc, .int .i64 r, .int .i64 kid, .slice (some ⟨b0, o0, none⟩) N0 cap0] w (GivesPr (premB c r kid ((⟨false, u, v, x, i⟩ : Jd) :: rest)) w) := by
  have HEc := Lib.hid hlc
  obtain ⟨ac, cc, Sc, rfl, -⟩ := hlc.out
  clear hlc
  have Rr := Lib.hid hrr
  clear hrr
  have Rkid := Lib.hid hrkid
  clear hrkid
  have Gu := Lib.hid hfu
  clear hfu
  obtain ⟨au, cu, Su, rfl, -⟩ := hlu.out
  have Gv := Lib.hid hfv
  clear hfv
  obtain ⟨av, cv, Sv, rfl, -⟩ := hlv.out
  have Gx := Lib.hid hfx
  clear hfx
  obtain ⟨ax, cx, Sx, rfl, -⟩ := hlx.out
  have Ri := Lib.hid hri
  clear hri
  have HB0 := Lib.hid hb0
  have HS0 := Lib.hid hs0
  have en0 : ((N0 : Int) == 0) = false := by simp; omega
  have en1 : (N0 == 0) = false := by simp; omega
  have en2 : decide ((N0 : Int) < 1) = false := decide_eq_false (by omega)
  have en3 : decide (N0 < 1) = false := decide_eq_false (by omega)
  clear hb0 hs0
  have HLEN := Lib.hid hlen
  have HSZ := Lib.hid hsz
  have HRN := Lib.hid (show I64 (c.length : Int) by unfold I64; omega)
  clear hsz
  have HZU := Lib.hid hzu
  have HZA := Lib.hid hza
  clear hzu hza
  obtain ⟨de, de1, de2⟩ := under_of 52 (by kernel_rfl)
  obtain ⟨dj, dj1, dj2⟩ := under_of 34 (by kernel_rfl)
  obtain ⟨du, hu1, hu2⟩ := under_term
  go_enter Try.func8, Try.ntmps8
  go_upto_region 1 with fail
  refine at_code (fun V0 hV0 => ?_)
  have k1 : Kept w V0 := by rw [← hV0]; exact kept_refl _
  have Z0 : Hid (V0.heap.size = w.heap.size + 0) := by show _ = _; rw [← hV0]; rfl
  clear hV0
  have Kk3 := Lib.hid k1
  clear k1
  have HLu : Hid (LiesQ V0 (Par w V0.heap.size [] P) u.kids _) := (par_in _ _ hlu).later Kk3.out
  clear hlu
  have HLv : Hid (LiesQ V0 (Par w V0.heap.size [] P) v.kids _) := (par_in _ _ hlv).later Kk3.out
  clear hlv
  have HLx : Hid (LiesQ V0 (Par w V0.heap.size [] P) x.kids _) := (par_in _ _ hlx).later Kk3.out
  clear hlx
  have kvV0 : SeesN V0 V0.heap.size V0 := seesN_kept _ (kept_refl _)
  by_cases c4 : kid < 0
  · have ec4 : decide (kid < 0) = true := decide_eq_true c4
    have Ec4 := Lib.hid ec4
    have Hc4 := Lib.hid c4
    clear c4
    go_wp2
    go_ret2
    rw [premB_kid0 Ec4.out]
    exact ⟨_, rfl, liesE_nil _, Kk3.out⟩
  · have ec4 : decide (kid < 0) = false := decide_eq_false c4
    have Ec4 := Lib.hid ec4
    have Hc4 := Lib.hid c4
    clear c4
    go_wp2_with fail
    clear kvV0
    refine (kidsK r _).mono ?_
    rintro e w5 ⟨rfl, k6⟩
    have Kk7 := Lib.hid k6
    clear k6
    have kvV0 : SeesN V0 V0.heap.size w5 := seesN_kept _ Kk7.out
    by_cases c8 : (Dv.dkidsN r) ≤ kid
    · have ec8 : decide ((Dv.dkidsN r) ≤ kid) = true := decide_eq_true c8
      have Ec8 := Lib.hid ec8
      have Hc8 := Lib.hid c8
      clear c8
      go_wp2
      go_ret2
      rw [premB_kid1 Ec8.out]
      exact ⟨_, rfl, liesE_nil _, (kept_trans Kk3.out Kk7.out)⟩
    · have ec8 : decide ((Dv.dkidsN r) ≤ kid) = false := decide_eq_false c8
      have Ec8 := Lib.hid ec8
      have Hc8 := Lib.hid c8
      clear c8
      go_wp2_with fail
      clear kvV0
      refine (rulepure_any c _ _ (HEc.out.keep (kept_trans Kk3.out Kk7.out))).mono ?_
      obtain ⟨rb12, hb11⟩ : ∃ qb, (purC c) = qb := ⟨_, rfl⟩
      rw [hb11]
      have Hhb11 := Lib.hid hb11
      clear hb11
      rintro e w9 ⟨rfl, k10⟩
      have Kk13 := Lib.hid k10
      clear k10
      cases rb12 with
      | false =>
        have kvV0 : SeesN V0 V0.heap.size w9 := seesN_kept _ (kept_trans Kk7.out Kk13.out)
        go_wp2
        go_ret2
        rw [premB_pure Hhb11.out]
        exact ⟨_, rfl, liesE_nil _, (kept_trans Kk3.out (kept_trans Kk7.out Kk13.out))⟩
      | true =>
        have kvV0 : SeesN V0 V0.heap.size w9 := seesN_kept _ (kept_trans Kk7.out Kk13.out)
        go_wp2_with fail
        clear kvV0
        refine (innerK r kid _).mono ?_
        obtain ⟨rb17, hb16⟩ : ∃ qb, (Dv.innerB r kid) = qb := ⟨_, rfl⟩
        rw [hb16]
        have Hhb16 := Lib.hid hb16
        clear hb16
        rintro e w14 ⟨rfl, k15⟩
        have Kk18 := Lib.hid k15
        clear k15
        cases rb17 with
        | false =>
          have kvV0 : SeesN V0 V0.heap.size w14 := seesN_kept _ (kept_trans Kk7.out (kept_trans Kk13.out Kk18.out))
          go_wp2_with fail
          clear kvV0
          refine ((entries_any c _ _ (HEc.out.keep (kept_trans Kk3.out (kept_trans Kk7.out (kept_trans Kk13.out Kk18.out)))) HLEN.out HSZ.out).mono (fun _ _ h => givesE_row h)).mono ?_
          rintro e w19 ⟨s21, rfl, hl22, k20⟩
          obtain ⟨a23, c24, S25, rfl, -⟩ := hl22.out
          have Hhl22 := Lib.hid hl22
          clear hl22
          have Kk26 := Lib.hid k20
          clear k20
          have kvV0 : SeesN V0 V0.heap.size w19 := seesN_kept _ (kept_trans Kk7.out (kept_trans Kk13.out (kept_trans Kk18.out Kk26.out)))
          go_wp2
          go_ret2
          rw [premB_outer (premB_in Ec4.out Ec8.out Hhb11.out) Hhb16.out]
          exact ⟨_, rfl, (Hhl22.out.keep (kept_refl _)), (kept_trans Kk3.out (kept_trans Kk7.out (kept_trans Kk13.out (kept_trans Kk18.out Kk26.out))))⟩
        | true =>
          have kvV0 : SeesN V0 V0.heap.size w14 := seesN_kept _ (kept_trans Kk7.out (kept_trans Kk13.out Kk18.out))
          go_wp2_with (refine stop_load 34 (.tmp 36) rfl ?_)
          intro _
          refine wpList_load_part (b0) (o0) 34 (.tmp 36) #[.bool false, .int .i64 u.k, .int .i64 u.i, .int .i64 u.j, .int .i64 u.n, (.slice au u.kids.length cu), .int .i64 v.k, .int .i64 v.i, .int .i64 v.j, .int .i64 v.n, (.slice av v.kids.length cv), .int .i64 x.k, .int .i64 x.i, .int .i64 x.j, .int .i64 x.n, (.slice ax x.kids.length cx), .int .i64 i] dj (blk_at HB0.out (kept_trans Kk3.out (kept_trans Kk7.out (kept_trans Kk13.out Kk18.out)))) (by rfl) rfl (by rfl) (row_subW HS0.out 0 17 (by decide)) dj1 (by cases dj <;> first | rfl | exact dj2) (by kernel_rfl) ?_
          go_wp2_with fail
          clear kvV0
          refine (rright0_any (c.length : Int) i u v x (Par w V0.heap.size [] P) w14 ((.slice au u.kids.length cu)) ((.slice av v.kids.length cv)) ((.slice ax x.kids.length cx)) Gu.out (HLu.out.later (kept_trans Kk7.out (kept_trans Kk13.out Kk18.out))) Gv.out (HLv.out.later (kept_trans Kk7.out (kept_trans Kk13.out Kk18.out))) Gx.out (HLx.out.later (kept_trans Kk7.out (kept_trans Kk13.out Kk18.out))) Ri.out HRN.out).mono ?_
          obtain ⟨rb30, hb29⟩ : ∃ qb, (rightJ (⟨false, u, v, x, i⟩ : Jd) (c.length : Int)) = qb := ⟨_, rfl⟩
          rw [hb29]
          have Hhb29 := Lib.hid hb29
          clear hb29
          rintro e w27 ⟨rfl, k28⟩
          have Kk31 := Lib.hid k28
          clear k28
          cases rb30 with
          | false =>
            have kvV0 : SeesN V0 V0.heap.size w27 := seesN_kept _ (kept_trans Kk7.out (kept_trans Kk13.out (kept_trans Kk18.out Kk31.out)))
            go_wp2
            go_ret2
            rw [premB_right Hhb16.out Hhb29.out]
            exact ⟨_, rfl, liesE_nil _, (kept_trans Kk3.out (kept_trans Kk7.out (kept_trans Kk13.out (kept_trans Kk18.out Kk31.out))))⟩
          | true =>
            have HX0 := Lib.hid (pure_range (rightJ_pure Hhb29.out)).1
            have HX1 := Lib.hid (pure_range (rightJ_pure Hhb29.out)).2
            have kvV0 : SeesN V0 V0.heap.size w27 := seesN_kept _ (kept_trans Kk7.out (kept_trans Kk13.out (kept_trans Kk18.out Kk31.out)))
            go_wp2_with (refine stop_load 34 (.tmp 46) rfl ?_)
            intro _
            refine wpList_load_part (b0) (o0) 34 (.tmp 46) #[.bool false, .int .i64 u.k, .int .i64 u.i, .int .i64 u.j, .int .i64 u.n, (.slice au u.kids.length cu), .int .i64 v.k, .int .i64 v.i, .int .i64 v.j, .int .i64 v.n, (.slice av v.kids.length cv), .int .i64 x.k, .int .i64 x.i, .int .i64 x.j, .int .i64 x.n, (.slice ax x.kids.length cx), .int .i64 i] dj (blk_at HB0.out (kept_trans Kk3.out (kept_trans Kk7.out (kept_trans Kk13.out (kept_trans Kk18.out Kk31.out))))) (by rfl) rfl (by rfl) (row_subW HS0.out 0 17 (by decide)) dj1 (by cases dj <;> first | rfl | exact dj2) (by kernel_rfl) ?_
            go_wp2_with fail
            clear kvV0
            refine (entry0_any r i u v x (Par w V0.heap.size [] P) w27 Rr.out ((.slice au u.kids.length cu)) ((.slice av v.kids.length cv)) ((.slice ax x.kids.length cx)) Gu.out (HLu.out.later (kept_trans Kk7.out (kept_trans Kk13.out (kept_trans Kk18.out Kk31.out)))) Gv.out (HLv.out.later (kept_trans Kk7.out (kept_trans Kk13.out (kept_trans Kk18.out Kk31.out)))) Gx.out (HLx.out.later (kept_trans Kk7.out (kept_trans Kk13.out (kept_trans Kk18.out Kk31.out)))) Ri.out HX0.out HX1.out).mono ?_
            obtain ⟨rb35, hb34⟩ : ∃ qb, ((entB r (⟨false, u, v, x, i⟩ : Jd)).2) = qb := ⟨_, rfl⟩
            rw [hb34]
            have Hhb34 := Lib.hid hb34
            clear hb34
            obtain ⟨U41, hU41⟩ : ∃ qu, (entB r (⟨false, u, v, x, i⟩ : Jd)).1 = qu := ⟨_, rfl⟩
            rw [hU41]
            have HU41 := Lib.hid hU41
            clear hU41
            rintro e w32 ⟨s36, rfl, hl37, k33⟩
            obtain ⟨a38, c39, S40, rfl, -⟩ := hl37.out
            have Kk42 := Lib.hid k33
            clear k33
            have Hhl37 : Hid (LiesQ w32 (Par w V0.heap.size [] P) U41.a.kids _) := par_give hl37 (Below.size (kept_trans Kk7.out (kept_trans Kk13.out (kept_trans Kk18.out Kk31.out)))) (xlt_nil _)
            clear hl37
            cases rb35 with
            | false =>
              have kvV0 : SeesN V0 V0.heap.size w32 := seesN_kept _ (kept_trans Kk7.out (kept_trans Kk13.out (kept_trans Kk18.out (kept_trans Kk31.out Kk42.out))))
              go_wp2_with (refine stop_store 52 (.tmp 10) (.tmp 49) rfl ?_)
              intro _
              refine wpList_store_part_n (by rfl) 52 (.tmp 10) (.tmp 49) rfl (w32.heap.size) 0 #[.int .i64 U41.a.k, .int .i64 U41.a.i, .int .i64 U41.a.j, .int .i64 U41.a.n, (.slice a38 U41.a.kids.length c39), .int .i64 U41.i] (by rfl) (by rfl) 52 (by kernel_rfl) (row_ok rfl) ?_
              intro W43 hW43
              clear kvV0
              obtain ⟨k46, x45, z47⟩ := alloc1 hW43
              have Kk48 := Lib.hid k46
              clear k46
              have Hx45 := Lib.hid x45
              have Hz47 := Lib.hid z47
              clear x45 z47 hW43
              have HG49 : Hid (V0.heap.size ≤ w32.heap.size) := (Below.size (kept_trans Kk7.out (kept_trans Kk13.out (kept_trans Kk18.out (kept_trans Kk31.out Kk42.out)))))
              have XL50 : Hid (XLt (w32.heap.size :: []) W43) := (xlt_more (xlt_nil _) Kk48.out (by have := Hz47.out; omega))
              refine ⟨_, #[.int .i64 U41.a.k, .int .i64 U41.a.i, .int .i64 U41.a.j, .int .i64 U41.a.n, (.slice a38 U41.a.kids.length c39), .int .i64 U41.i], Hx45.out, rfl, Nat.le_of_ble_eq_true rfl, ?_⟩
              intro W44 hW44
              have KB51 := Lib.hid (kept_set (kept_trans Kk3.out (kept_trans Kk7.out (kept_trans Kk13.out (kept_trans Kk18.out (kept_trans Kk31.out (kept_trans Kk42.out Kk48.out)))))) hW44 (by have := HG49.out; have := Z0.out; omega))
              have KB52 := Lib.hid (kept_set (kept_trans Kk7.out (kept_trans Kk13.out (kept_trans Kk18.out (kept_trans Kk31.out (kept_trans Kk42.out Kk48.out))))) hW44 HG49.out)
              have HL53 : Hid (LiesQ W44 (Par w V0.heap.size (w32.heap.size :: []) P) u.kids _) := par_set (par_grow HLu.out (kept_trans Kk7.out (kept_trans Kk13.out (kept_trans Kk18.out (kept_trans Kk31.out (kept_trans Kk42.out Kk48.out))))) (List.forall_mem_cons.2 ⟨(Or.inr (Nat.le_trans (Below.size (kept_trans Kk7.out (kept_trans Kk13.out (kept_trans Kk18.out (kept_trans Kk31.out Kk42.out))))) (Nat.le_refl w32.heap.size))), (fun _ h => nomatch h)⟩)) hW44 (List.mem_cons_self ..) (by have := HG49.out; have := Z0.out; omega)
              have HL54 : Hid (LiesQ W44 (Par w V0.heap.size (w32.heap.size :: []) P) v.kids _) := par_set (par_grow HLv.out (kept_trans Kk7.out (kept_trans Kk13.out (kept_trans Kk18.out (kept_trans Kk31.out (kept_trans Kk42.out Kk48.out))))) (List.forall_mem_cons.2 ⟨(Or.inr (Nat.le_trans (Below.size (kept_trans Kk7.out (kept_trans Kk13.out (kept_trans Kk18.out (kept_trans Kk31.out Kk42.out))))) (Nat.le_refl w32.heap.size))), (fun _ h => nomatch h)⟩)) hW44 (List.mem_cons_self ..) (by have := HG49.out; have := Z0.out; omega)
              have HL55 : Hid (LiesQ W44 (Par w V0.heap.size (w32.heap.size :: []) P) x.kids _) := par_set (par_grow HLx.out (kept_trans Kk7.out (kept_trans Kk13.out (kept_trans Kk18.out (kept_trans Kk31.out (kept_trans Kk42.out Kk48.out))))) (List.forall_mem_cons.2 ⟨(Or.inr (Nat.le_trans (Below.size (kept_trans Kk7.out (kept_trans Kk13.out (kept_trans Kk18.out (kept_trans Kk31.out Kk42.out))))) (Nat.le_refl w32.heap.size))), (fun _ h => nomatch h)⟩)) hW44 (List.mem_cons_self ..) (by have := HG49.out; have := Z0.out; omega)
              have HL56 : Hid (LiesQ W44 (Par w V0.heap.size (w32.heap.size :: []) P) U41.a.kids _) := par_set (par_grow Hhl37.out Kk48.out (List.forall_mem_cons.2 ⟨(Or.inr (Nat.le_refl w32.heap.size)), (fun _ h => nomatch h)⟩)) hW44 (List.mem_cons_self ..) (by have := HG49.out; have := Z0.out; omega)
              have XL57 := Lib.hid (xlt_set XL50.out hW44)
              have HX58 := Lib.hid (blk_same Hx45.out hW44)
              clear hW44
              have ld59 := partN_cell (r := V0.heap.size) HX58.out trivial 5 (.int .i64 U41.i) rfl
              have kvV0 : SeesN V0 V0.heap.size W44 := seesN_kept _ KB52.out
              have kvW44 : SeesN W44 V0.heap.size W44 := seesN_kept _ (kept_refl _)
              go_wp2
              go_ret2
              rw [premB_ent Hhb16.out Hhb34.out]
              exact ⟨_, rfl, liesE_nil _, KB51.out⟩
            | true =>
              have kvV0 : SeesN V0 V0.heap.size w32 := seesN_kept _ (kept_trans Kk7.out (kept_trans Kk13.out (kept_trans Kk18.out (kept_trans Kk31.out Kk42.out))))
              go_wp2_with (refine stop_store 52 (.tmp 10) (.tmp 49) rfl ?_)
              intro _
              refine wpList_store_part_n (by rfl) 52 (.tmp 10) (.tmp 49) rfl (w32.heap.size) 0 #[.int .i64 U41.a.k, .int .i64 U41.a.i, .int .i64 U41.a.j, .int .i64 U41.a.n, (.slice a38 U41.a.kids.length c39), .int .i64 U41.i] (by rfl) (by rfl) 52 (by kernel_rfl) (row_ok rfl) ?_
              intro W60 hW60
              clear kvV0
              obtain ⟨k63, x62, z64⟩ := alloc1 hW60
              have Kk65 := Lib.hid k63
              clear k63
              have Hx62 := Lib.hid x62
              have Hz64 := Lib.hid z64
              clear x62 z64 hW60
              have HG66 : Hid (V0.heap.size ≤ w32.heap.size) := (Below.size (kept_trans Kk7.out (kept_trans Kk13.out (kept_trans Kk18.out (kept_trans Kk31.out Kk42.out)))))
              have XL67 : Hid (XLt (w32.heap.size :: []) W60) := (xlt_more (xlt_nil _) Kk65.out (by have := Hz64.out; omega))
              refine ⟨_, #[.int .i64 U41.a.k, .int .i64 U41.a.i, .int .i64 U41.a.j, .int .i64 U41.a.n, (.slice a38 U41.a.kids.length c39), .int .i64 U41.i], Hx62.out, rfl, Nat.le_of_ble_eq_true rfl, ?_⟩
              intro W61 hW61
              have KB68 := Lib.hid (kept_set (kept_trans Kk3.out (kept_trans Kk7.out (kept_trans Kk13.out (kept_trans Kk18.out (kept_trans Kk31.out (kept_trans Kk42.out Kk65.out)))))) hW61 (by have := HG66.out; have := Z0.out; omega))
              have KB69 := Lib.hid (kept_set (kept_trans Kk7.out (kept_trans Kk13.out (kept_trans Kk18.out (kept_trans Kk31.out (kept_trans Kk42.out Kk65.out))))) hW61 HG66.out)
              have HL70 : Hid (LiesQ W61 (Par w V0.heap.size (w32.heap.size :: []) P) u.kids _) := par_set (par_grow HLu.out (kept_trans Kk7.out (kept_trans Kk13.out (kept_trans Kk18.out (kept_trans Kk31.out (kept_trans Kk42.out Kk65.out))))) (List.forall_mem_cons.2 ⟨(Or.inr (Nat.le_trans (Below.size (kept_trans Kk7.out (kept_trans Kk13.out (kept_trans Kk18.out (kept_trans Kk31.out Kk42.out))))) (Nat.le_refl w32.heap.size))), (fun _ h => nomatch h)⟩)) hW61 (List.mem_cons_self ..) (by have := HG66.out; have := Z0.out; omega)
              have HL71 : Hid (LiesQ W61 (Par w V0.heap.size (w32.heap.size :: []) P) v.kids _) := par_set (par_grow HLv.out (kept_trans Kk7.out (kept_trans Kk13.out (kept_trans Kk18.out (kept_trans Kk31.out (kept_trans Kk42.out Kk65.out))))) (List.forall_mem_cons.2 ⟨(Or.inr (Nat.le_trans (Below.size (kept_trans Kk7.out (kept_trans Kk13.out (kept_trans Kk18.out (kept_trans Kk31.out Kk42.out))))) (Nat.le_refl w32.heap.size))), (fun _ h => nomatch h)⟩)) hW61 (List.mem_cons_self ..) (by have := HG66.out; have := Z0.out; omega)
              have HL72 : Hid (LiesQ W61 (Par w V0.heap.size (w32.heap.size :: []) P) x.kids _) := par_set (par_grow HLx.out (kept_trans Kk7.out (kept_trans Kk13.out (kept_trans Kk18.out (kept_trans Kk31.out (kept_trans Kk42.out Kk65.out))))) (List.forall_mem_cons.2 ⟨(Or.inr (Nat.le_trans (Below.size (kept_trans Kk7.out (kept_trans Kk13.out (kept_trans Kk18.out (kept_trans Kk31.out Kk42.out))))) (Nat.le_refl w32.heap.size))), (fun _ h => nomatch h)⟩)) hW61 (List.mem_cons_self ..) (by have := HG66.out; have := Z0.out; omega)
              have HL73 : Hid (LiesQ W61 (Par w V0.heap.size (w32.heap.size :: []) P) U41.a.kids _) := par_set (par_grow Hhl37.out Kk65.out (List.forall_mem_cons.2 ⟨(Or.inr (Nat.le_refl w32.heap.size)), (fun _ h => nomatch h)⟩)) hW61 (List.mem_cons_self ..) (by have := HG66.out; have := Z0.out; omega)
              have XL74 := Lib.hid (xlt_set XL67.out hW61)
              have HX75 := Lib.hid (blk_same Hx62.out hW61)
              clear hW61
              have ld76 := partN_cell (r := V0.heap.size) HX75.out trivial 5 (.int .i64 U41.i) rfl
              have kvV0 : SeesN V0 V0.heap.size W61 := seesN_kept _ KB69.out
              have kvW61 : SeesN W61 V0.heap.size W61 := seesN_kept _ (kept_refl _)
              go_wp2_with (refine stop_load 32 (.tmp 54) rfl ?_)
              intro _
              refine wpList_load_part (w32.heap.size) (0) 32 (.tmp 54) #[.int .i64 U41.a.k, .int .i64 U41.a.i, .int .i64 U41.a.j, .int .i64 U41.a.n, (.slice a38 U41.a.kids.length c39)] du HX75.out (by rfl) rfl (by rfl) (by rfl) hu1 (by cases du <;> first | rfl | exact hu2) size_term ?_
              go_wp2_with fail
              clear kvV0
              clear kvW61
              refine ((ctxadd_any c U41.a U41.i _ _ ((.slice a38 U41.a.kids.length c39)) (HEc.out.keep KB68.out) HL73.out.lies ⟨(show En.fine U41 from by rw [← HU41.out]; exact (entB_fine (r := r) (j := (⟨false, u, v, x, i⟩ : Jd)) ⟨Gu.out, Gv.out, Gx.out, Ri.out⟩)).1, (show En.fine U41 from by rw [← HU41.out]; exact (entB_fine (r := r) (j := (⟨false, u, v, x, i⟩ : Jd)) ⟨Gu.out, Gv.out, Gx.out, Ri.out⟩)).2⟩ HLEN.out HSZ.out (by rw [← HU41.out]; exact entB_size HZU.out HZA.out)).mono (fun _ _ h => givesE_made h)).mono ?_
              rintro e w77 ⟨s79, rfl, hl80, k78⟩
              obtain ⟨a81, c82, S83, rfl, -⟩ := hl80.out
              have Hhl80 := Lib.hid hl80
              clear hl80
              have Kk84 := Lib.hid k78
              clear k78
              have kvV0 : SeesN V0 V0.heap.size w77 := seesN_kept _ (kept_trans KB69.out Kk84.out)
              have kvW61 : SeesN W61 V0.heap.size w77 := seesN_kept _ Kk84.out
              go_wp2
              go_ret2
              rw [premB_all (premB_in Ec4.out Ec8.out Hhb11.out) Hhb16.out Hhb29.out Hhb34.out]
              exact ⟨_, rfl, (by rw [HU41.out]; have h := (Hhl80.out.keep (kept_refl _)); rw [List.length_append] at h; exact h), (kept_trans KB68.out Kk84.out)⟩

end Go.Proofs.Ytjlppnmckobcfaa

namespace Go.Proofs.Ytjlppnmckobcfaa
open Go.RowKit

def smallJ (M : Nat) (j : Jd) : Prop := ((j.u.size : Int) ≤ M ∧ j.u.deep ≤ 201) ∧ ((j.v.size : Int) ≤ M ∧ j.v.deep ≤ 201) ∧ ((j.a.size : Int) ≤ M ∧ j.a.deep ≤ 201)
def NotGreatJ (l : List Jd) (M : Nat) (w : World) (e : Ending) (w' : World) : Prop :=
  ∃ g : Bool, e = .returned (.bool g) ∧ (g = false → l.length ≤ M ∧ ∀ j ∈ l, smallJ M j) ∧ Below w.heap.size w w'

set_option maxRecDepth 20000 in
set_option maxHeartbeats 4000000 in
theorem greatjudgs_any (l : List Jd) (M : Nat) (w : World) (ls : Value) (hl : LiesJ w l ls) (hM : M ≤ 10000) :
    Calls Try.prog 20 #[ls, .int .i64 M] w (NotGreatJ l M w) := by
  obtain ⟨a, cap, S, rfl, hc, hm, -, hn, hk⟩ := hl.out
  unfold maxLen at hm
  have HN := Lib.hid hn
  have HK := Lib.hid hk
  clear hl hn hk
  go_enter Try.func20, Try.ntmps20
  by_cases hlen : M < l.length
  · have e1 : decide ((M : Int) < (l.length : Int)) = true := decide_eq_true (by omega)
    have e2 : decide (M < l.length) = true := decide_eq_true hlen
    go_wp2
    go_ret
    exact ⟨true, rfl, (fun h => by cases h), Below.refl _ _⟩
  have e1 : decide ((M : Int) < (l.length : Int)) = false := decide_eq_false (by omega)
  have e2 : decide (M < l.length) = false := decide_eq_false hlen
  go_wp2
  go_loopw [5, 6] (fun nv iv wr => ∃ (k : Nat) (n : Int), k ≤ l.length ∧ iv = .int .i64 k ∧ nv = .int .i64 n ∧ 0 ≤ n ∧ n ≤ M + 1 ∧ Hid (n ≤ M → ∀ j (h : j < l.length), j < k → smallJ M l[j]) ∧ Below w.heap.size w wr) (fun _ i _ => l.length - (intOf i).toNat)
  case atStart => exact ⟨0, 0, Nat.zero_le _, rfl, rfl, by omega, by omega, fun _ j _ h => by omega, Below.refl _ _⟩
  case round =>
    obtain ⟨k, n, hk, rfl, rfl, hn1, hn2, hrel, hb⟩ := hrel
    by_cases hlt : k < l.length
    · by_cases hnm : n ≤ M
      · obtain ⟨b, o, rfl, hx⟩ := HN.out k hlt
        have hx := hx.keep hb
        have hq := (HK.out k hlt).keep hb
        obtain ⟨a0, c0, S0, hS0, -⟩ := hq.1.out
        obtain ⟨a1, c1, S1, hS1, -⟩ := hq.2.1.out
        obtain ⟨a2, c2, S2, hS2, -⟩ := hq.2.2.out
        rw [hS0, hS1, hS2] at hx hq
        have HQ := Lib.hid hq
        have HX := Lib.hid hx
        have HB := Lib.hid hb
        obtain ⟨x0, x1, x2, x3, x4, x5, x6, x7, x8, x9, x10, x11, x12, x13, x14, x15, x16⟩ := hx
        clear hS0 hS1 hS2 hq hb
        go_wp2_with fail
        refine (weigh_any l[k].u _ _ _ _ HQ.out.1 (by omega) (by omega) (by omega) (by omega)).mono ?_
        rintro e w1 ⟨r1, rfl, h11, h12, h13, hb1⟩
        have HR1 := Lib.hid h13
        have HB1 := Lib.hid hb1
        clear x0 x1 x2 x3 x4 x5 x6 x7 x8 x9 x10 x11 x12 x13 x14 x15 x16
        obtain ⟨x0, x1, x2, x3, x4, x5, x6, x7, x8, x9, x10, x11, x12, x13, x14, x15, x16⟩ := HX.out.keep hb1
        clear h13 hb1
        by_cases hm1 : n + r1 ≤ M
        · have f1 : decide (n + r1 ≤ (M : Int)) = true := decide_eq_true hm1
          go_wp2_with fail
          refine (weigh_any l[k].v _ _ _ _ (HQ.out.2.1.keep HB1.out) (by omega) (by omega) (by omega) (by omega)).mono ?_
          rintro e w2 ⟨r2, rfl, h21, h22, h23, hb2⟩
          have HR2 := Lib.hid h23
          have HB2 := Lib.hid (below_call HB1.out hb2 HB1.out.size)
          clear x0 x1 x2 x3 x4 x5 x6 x7 x8 x9 x10 x11 x12 x13 x14 x15 x16
          obtain ⟨x0, x1, x2, x3, x4, x5, x6, x7, x8, x9, x10, x11, x12, x13, x14, x15, x16⟩ := HX.out.keep HB2.out
          clear h23 hb2
          by_cases hm2 : n + r1 + r2 ≤ M
          · have f2 : decide (n + r1 + r2 ≤ (M : Int)) = true := decide_eq_true hm2
            go_wp2_with fail
            refine (weigh_any l[k].a _ _ _ _ (HQ.out.2.2.keep HB2.out) (by omega) (by omega) (by omega) (by omega)).mono ?_
            rintro e w3 ⟨r3, rfl, h31, h32, h33, hb3⟩
            have HR3 := Lib.hid h33
            have HB3 := Lib.hid (HB.out.trans (Below.mono (below_call HB2.out hb3 HB2.out.size) HB.out.size))
            clear h33 hb3 x0 x1 x2 x3 x4 x5 x6 x7 x8 x9 x10 x11 x12 x13 x14 x15 x16
            go_wp2_with fail
            go_roundw
            case rel =>
              refine ⟨k + 1, n + r1 + r2 + r3, by omega, by go_num, rfl, by omega, by omega, ?_, HB3.out⟩
              intro hle j hj hjk
              by_cases e : j = k
              · subst e
                have g1 := HR1.out (by omega)
                have g2 := HR2.out (by omega)
                have g3 := HR3.out (by omega)
                exact ⟨⟨by omega, by omega⟩, ⟨by omega, by omega⟩, ⟨by omega, by omega⟩⟩
              · exact hrel.out hnm j hj (by omega)
            case measure => simp [intOf]; omega
          · have f2 : decide (n + r1 + r2 ≤ (M : Int)) = false := decide_eq_false hm2
            have HB3 := Lib.hid (HB.out.trans (Below.mono HB2.out HB.out.size))
            clear x0 x1 x2 x3 x4 x5 x6 x7 x8 x9 x10 x11 x12 x13 x14 x15 x16
            go_wp2_with fail
            go_roundw
            case rel => exact ⟨k + 1, n + r1 + r2, by omega, by go_num, rfl, by omega, by omega, fun h => absurd h (by omega), HB3.out⟩
            case measure => simp [intOf]; omega
        · have f1 : decide (n + r1 ≤ (M : Int)) = false := decide_eq_false hm1
          have HB3 := Lib.hid (HB.out.trans (Below.mono HB1.out HB.out.size))
          clear x0 x1 x2 x3 x4 x5 x6 x7 x8 x9 x10 x11 x12 x13 x14 x15 x16
          go_wp2_with fail
          go_roundw
          case rel => exact ⟨k + 1, n + r1, by omega, by go_num, rfl, by omega, by omega, fun h => absurd h (by omega), HB3.out⟩
          case measure => simp [intOf]; omega
      · go_wp2
        go_ret
        exact ⟨_, rfl, fun h => absurd h (by simp <;> omega), hb⟩
    · have : k = l.length := by omega
      subst this
      go_wp2
      all_goals go_ret
      all_goals
        refine ⟨_, rfl, fun h => ⟨by omega, fun u hu => ?_⟩, hb⟩
        have hle : n ≤ M := by simpa using h
        obtain ⟨j, hj, rfl⟩ := List.getElem_of_mem hu
        exact hrel.out hle j hj hj
end Go.Proofs.Ytjlppnmckobcfaa

namespace Go.Proofs.Ytjlppnmckobcfaa
open Go.RowKit

/-- A test that may be true; what it says if it is not. -/
def GivesG (p : Prop) (w : World) (e : Ending) (w' : World) : Prop := ∃ g : Bool, e = .returned (.bool g) ∧ (g = false → p) ∧ Kept w w'

end Go.Proofs.Ytjlppnmckobcfaa

namespace Go.Proofs.Ytjlppnmckobcfaa
open Go.RowKit

theorem sort_fineW {t : Tm} {i : Int} (h : t = Tm.mk 1 i 0 0 []) (hi : I64 i) : t.fine := by rw [h]; exact mk_fine (by unfold I64; decide) hi (by unfold I64; decide) (by unfold I64; decide)
/-- A judgment and a bool are handed back. -/
def GivesJT (P : Nat → Prop) (j : Jd) (b : Bool) (w : World) (e : Ending) (w' : World) : Prop := ∃ su sv sa : Value, e = .returned (.tuple #[jv j su sv sa, .bool b]) ∧ (LiesQ w' (fun b => P b ∨ w.heap.size ≤ b) j.u.kids su ∧ LiesQ w' (fun b => P b ∨ w.heap.size ≤ b) j.v.kids sv ∧ LiesQ w' (fun b => P b ∨ w.heap.size ≤ b) j.a.kids sa) ∧ Kept w w'
theorem wk_p3 : (Tm.mk 1 3 0 0 []).pureB = true := by unfold Tm.pureB; rw [Tm.markedB_eq]; rfl
theorem wk_p4 : (Tm.mk 1 4 0 0 []).pureB = true := by unfold Tm.pureB; rw [Tm.markedB_eq]; rfl
theorem prem_wk : premB [] 3 1 ((⟨false, Tm.mk 1 3 0 0 [], Tm.zero, Tm.mk 1 4 0 0 [], 5⟩ : Jd) :: []) = ([(⟨Tm.mk 1 3 0 0 [], 4⟩ : En)], true) := by
  have h1 : (purC [] && (decide ((0 : Int) ≤ 1) && decide ((1 : Int) < Dv.dkidsN 3))) = true := by decide
  have h2 : Dv.innerB 3 1 = true := by decide
  have h3 : rightJ (⟨false, Tm.mk 1 3 0 0 [], Tm.zero, Tm.mk 1 4 0 0 [], 5⟩ : Jd) ((List.length ([] : List En) : Nat) : Int) = true := by
    unfold rightJ jfitB
    simp only [wk_p3, wk_p4, sameB_self]
    decide
  have h4 : entB 3 (⟨false, Tm.mk 1 3 0 0 [], Tm.zero, Tm.mk 1 4 0 0 [], 5⟩ : Jd) = (⟨Tm.mk 1 3 0 0 [], 4⟩, true) := by
    rw [entB_0 _ (show rcls 3 = 0 by decide)]
    rfl
  rw [premB_all h1 h2 h3 (by rw [h4]), h4]
  rfl
theorem enode_blk {w : World} {b o : Nat} {x : En} {s : Value} (h : ENode w b o x s) : ∃ (C : Array Value) (T : TypeId) (fr : Nat × Nat), w.heap[b]? = some (.cells C T fr) ∧
    (C.toList.drop o).take 6 = [.int .i64 x.a.k, .int .i64 x.a.i, .int .i64 x.a.j, .int .i64 x.a.n, s, .int .i64 x.i] := by
  obtain ⟨x0, x1, x2, x3, x4, x5⟩ := h
  have hb : ∃ (C : Array Value) (T : TypeId) (fr : Nat × Nat), w.heap[b]? = some (.cells C T fr) := by
    have h0 := x0
    unfold World.cell? at h0
    cases e : w.heap[b]? with
    | none => simp [e] at h0
    | some ob =>
      cases ob with
      | cells C T fr => exact ⟨C, T, fr, rfl⟩
      | _ => simp [e] at h0
  obtain ⟨C, T, fr, hC⟩ := hb
  refine ⟨C, T, fr, hC, ?_⟩
  have cell : ∀ q v, w.cell? ⟨b, o + q, none⟩ = some v → C.toList[o + q]? = some v := fun q v h => by rw [cell_of_row w b _ C T fr hC] at h; rw [Array.getElem?_toList]; exact h
  apply List.ext_getElem?
  intro q
  by_cases hq : q < 6
  · rw [List.getElem?_take_of_lt hq, List.getElem?_drop]
    match q, hq with
    | 0, _ => exact cell 0 _ x0
    | 1, _ => exact cell 1 _ x1
    | 2, _ => exact cell 2 _ x2
    | 3, _ => exact cell 3 _ x3
    | 4, _ => exact cell 4 _ x4
    | 5, _ => exact cell 5 _ x5
    | n + 6, h => exact absurd h (by omega)
  · rw [List.getElem?_eq_none (by simp; omega), List.getElem?_eq_none (by simp; omega)]
theorem liesE_one {w : World} {x : En} {s : Value} (h : LiesE w [x] s) : ∃ (b o cap : Nat) (C : Array Value) (T : TypeId) (fr : Nat × Nat) (sx : Value), s = .slice (some ⟨b, o, none⟩) 1 cap ∧ w.heap[b]? = some (.cells C T fr) ∧
    (C.toList.drop o).take 6 = [.int .i64 x.a.k, .int .i64 x.a.i, .int .i64 x.a.j, .int .i64 x.a.n, sx, .int .i64 x.i] := by
  obtain ⟨a, cap, S, rfl, hc, hm, hf, hn, hk⟩ := h.out
  obtain ⟨b, o, rfl, hx⟩ := hn 0 (Nat.zero_lt_succ _)
  rw [Nat.zero_mul, Nat.add_zero] at hx
  obtain ⟨C, T, fr, h1, h2⟩ := enode_blk hx
  exact ⟨b, o, cap, C, T, fr, S 0, rfl, h1, h2⟩
theorem smallJ_size {M : Nat} {j : Jd} (h : smallJ M j) : j.u.size ≤ M ∧ j.v.size ≤ M ∧ j.a.size ≤ M := by
  unfold smallJ at h
  omega

set_option maxRecDepth 20000 in
set_option maxHeartbeats 4000000 in
theorem lheavy15_any (c : List En) (on : List Jd) (w : World) (sc : Value) (son : Value) (hlc : LiesE w c sc) (hlon : LiesJ w on son) : Calls Try.prog 7 #[sc, son] w (GivesG ((c.length ≤ 60 ∧ ∀ e ∈ c, e.a.size ≤ 60) ∧ on.length ≤ 180 ∧ ∀ j ∈ on, j.u.size ≤ 180 ∧ j.v.size ≤ 180 ∧ j.a.size ≤ 180) w) := by
  have HEc := Lib.hid hlc
  obtain ⟨ac, cc, Sc, rfl, -⟩ := hlc.out
  clear hlc
  have HEon := Lib.hid hlon
  obtain ⟨aon, con, Son, rfl, -⟩ := hlon.out
  clear hlon
  go_enter Try.func7, Try.ntmps7
  go_upto_region 1 with fail
  refine at_code (fun V0 hV0 => ?_)
  have k1 : Kept w V0 := by rw [← hV0]; exact kept_refl _
  have Z0 : Hid (V0.heap.size = w.heap.size + 0) := by show _ = _; rw [← hV0]; rfl
  clear hV0
  have Kk3 := Lib.hid k1
  clear k1
  have kvV0 : SeesN V0 V0.heap.size V0 := seesN_kept _ (kept_refl _)
  go_wp2_with fail
  clear kvV0
  refine (greatctx_any c 60 _ _ (HEc.out.keep Kk3.out) (by decide)).mono ?_
  rintro e w4 ⟨gb6, rfl, hg7, k5⟩
  have Hhg7 := Lib.hid hg7
  clear hg7
  have Kk8 := Lib.hid k5
  clear k5
  cases gb6 with
  | false =>
    have HIhg7 := Lib.hid (Hhg7.out rfl)
    have kvV0 : SeesN V0 V0.heap.size w4 := seesN_kept _ Kk8.out
    go_wp2_with fail
    clear kvV0
    refine (greatjudgs_any on 180 _ _ (HEon.out.keep (kept_trans Kk3.out Kk8.out)) (by decide)).mono ?_
    rintro e w9 ⟨gb11, rfl, hg12, k10⟩
    have Hhg12 := Lib.hid hg12
    clear hg12
    have Kk13 := Lib.hid k10
    clear k10
    cases gb11 with
    | false =>
      have HIhg12 := Lib.hid (Hhg12.out rfl)
      have kvV0 : SeesN V0 V0.heap.size w9 := seesN_kept _ (kept_trans Kk8.out Kk13.out)
      by_cases c14 : 8 < (on.length : Int)
      · have ec14 : decide (8 < (on.length : Int)) = true := decide_eq_true c14
        have Ec14 := Lib.hid ec14
        have Hc14 := Lib.hid c14
        clear c14
        go_wp2
        go_ret
        exact ⟨true, rfl, (fun h => Bool.noConfusion h), (kept_trans Kk3.out (kept_trans Kk8.out Kk13.out))⟩
      · have ec14 : decide (8 < (on.length : Int)) = false := decide_eq_false c14
        have Ec14 := Lib.hid ec14
        have Hc14 := Lib.hid c14
        clear c14
        go_wp2
        go_ret
        exact ⟨false, rfl, (fun h => ⟨⟨HIhg7.out.1, fun e he => by have h := (HIhg7.out.2 e he).1; omega⟩, by have h := HIhg12.out.1; omega, fun j hj => smallJ_size (HIhg12.out.2 j hj)⟩), (kept_trans Kk3.out (kept_trans Kk8.out Kk13.out))⟩
    | true =>
      have kvV0 : SeesN V0 V0.heap.size w9 := seesN_kept _ (kept_trans Kk8.out Kk13.out)
      go_wp2
      go_ret
      exact ⟨true, rfl, (fun h => Bool.noConfusion h), (kept_trans Kk3.out (kept_trans Kk8.out Kk13.out))⟩
  | true =>
    have kvV0 : SeesN V0 V0.heap.size w4 := seesN_kept _ Kk8.out
    go_wp2
    go_ret
    exact ⟨true, rfl, (fun h => Bool.noConfusion h), (kept_trans Kk3.out Kk8.out)⟩

set_option maxRecDepth 20000 in
set_option maxHeartbeats 4000000 in
theorem conc3_any (P : Nat → Prop) (w : World) (U3 A4 : Tm) (hU3 : U3 = Tm.mk 1 3 0 0 []) (hA4 : A4 = Tm.mk 1 4 0 0 []) : Calls Try.prog 34 #[.slice none 0 0, .int .i64 1, .int .i64 3, .slice none 0 0] w (GivesJT P ⟨false, U3, Tm.zero, A4, 5⟩ true w) := by
  have HU3 := Lib.hid hU3
  have HA4 := Lib.hid hA4
  have fk3 : (U3.k == 0) = false := by rw [hU3]; rfl
  have fk4 : (A4.k == 0) = false := by rw [hA4]; rfl
  clear hU3 hA4
  obtain ⟨dj, dj1, dj2⟩ := under_of 34 (by kernel_rfl)
  obtain ⟨du, hu1, hu2⟩ := under_term
  go_enter Try.func34, Try.ntmps34
  go_upto_region 1 with fail
  refine at_code (fun V0 hV0 => ?_)
  obtain ⟨k2, x1, z3⟩ := alloc1 hV0
  have Kk4 := Lib.hid k2
  clear k2
  have Hx1 := Lib.hid x1
  have Z0 := Lib.hid z3
  clear z3 x1 hV0
  have kvV0 : Sees V0 (w.heap.size) V0 := sees_kept _ (kept_refl _)
  go_wp2_with fail
  clear kvV0
  have hq7 := rsortJ_any 3 (Par w V0.heap.size [] P) V0 (show I64 3 from by unfold I64; decide)
  rw [show Tm.mk 1 3 0 0 [] = U3 from HU3.out.symm] at hq7
  refine hq7.mono ?_
  clear hq7
  rintro e w5 ⟨s8, rfl, hl9, k6⟩
  obtain ⟨a10, c11, S12, rfl, -⟩ := hl9.out
  have Kk13 := Lib.hid k6
  clear k6
  have Hhl9 : Hid (LiesQ w5 (Par w V0.heap.size [] P) U3.kids _) := par_give hl9 (Nat.le_refl _) (xlt_nil _)
  clear hl9
  have kvV0 : Sees V0 (w.heap.size) w5 := sees_kept _ Kk13.out
  go_wp2_with fail
  clear kvV0
  have hq16 := rsortJ_any 4 (Par w V0.heap.size [] P) w5 (show I64 4 from by unfold I64; decide)
  rw [show Tm.mk 1 4 0 0 [] = A4 from HA4.out.symm] at hq16
  refine hq16.mono ?_
  clear hq16
  rintro e w14 ⟨s17, rfl, hl18, k15⟩
  obtain ⟨a19, c20, S21, rfl, -⟩ := hl18.out
  have Kk22 := Lib.hid k15
  clear k15
  have Hhl18 : Hid (LiesQ w14 (Par w V0.heap.size [] P) A4.kids _) := par_give hl18 (Below.size Kk13.out) (xlt_nil _)
  clear hl18
  have kvV0 : Sees V0 (w.heap.size) w14 := sees_kept _ (kept_trans Kk13.out Kk22.out)
  go_wp2_with fail
  clear kvV0
  refine (rof_any 5 U3 A4 (Par w V0.heap.size [] P) _ ((.slice a10 U3.kids.length c11)) ((.slice a19 A4.kids.length c20)) (sort_fineW HU3.out (by unfold I64; decide)) (Hhl9.out.later Kk22.out) (sort_fineW HA4.out (by unfold I64; decide)) Hhl18.out (show I64 5 from by unfold I64; decide)).mono ?_
  rintro e w23 ⟨s25, s26, s27, rfl, ⟨hl28, hl29, hl30⟩, k24⟩
  obtain ⟨a31, c32, S33, rfl, -⟩ := hl28.out
  obtain ⟨a34, c35, S36, rfl, -⟩ := hl29.out
  obtain ⟨a37, c38, S39, rfl, -⟩ := hl30.out
  have Kk40 := Lib.hid k24
  clear k24
  have Hhl28 : Hid (LiesQ w23 (Par w V0.heap.size [] P) U3.kids _) := par_give hl28 (Below.size (kept_trans Kk13.out Kk22.out)) (xlt_nil _)
  have Hhl29 : Hid (LiesQ w23 (Par w V0.heap.size [] P) Tm.zero.kids _) := par_give hl29 (Below.size (kept_trans Kk13.out Kk22.out)) (xlt_nil _)
  have Hhl30 : Hid (LiesQ w23 (Par w V0.heap.size [] P) A4.kids _) := par_give hl30 (Below.size (kept_trans Kk13.out Kk22.out)) (xlt_nil _)
  clear hl28 hl29 hl30
  have kvV0 : Sees V0 (w.heap.size) w23 := sees_kept _ (kept_trans Kk13.out (kept_trans Kk22.out Kk40.out))
  go_wp2_with (refine stop_store 34 (.tmp 8) (.tmp 34) rfl ?_)
  intro _
  refine wpList_store_part_n (by rfl) 34 (.tmp 8) (.tmp 34) rfl (w.heap.size) 0 #[.bool false, .int .i64 U3.k, .int .i64 U3.i, .int .i64 U3.j, .int .i64 U3.n, (.slice a31 U3.kids.length c32), .int .i64 Tm.zero.k, .int .i64 Tm.zero.i, .int .i64 Tm.zero.j, .int .i64 Tm.zero.n, (.slice a34 Tm.zero.kids.length c35), .int .i64 A4.k, .int .i64 A4.i, .int .i64 A4.j, .int .i64 A4.n, (.slice a37 A4.kids.length c38), .int .i64 5] (by rfl) (by rfl) 34 (by kernel_rfl) (row_ok rfl) ?_
  intro W41 hW41
  clear kvV0
  subst hW41
  refine ⟨_, #[.bool false, .int .i64 U3.k, .int .i64 U3.i, .int .i64 U3.j, .int .i64 U3.n, (.slice a31 U3.kids.length c32), .int .i64 Tm.zero.k, .int .i64 Tm.zero.i, .int .i64 Tm.zero.j, .int .i64 Tm.zero.n, (.slice a34 Tm.zero.kids.length c35), .int .i64 A4.k, .int .i64 A4.i, .int .i64 A4.j, .int .i64 A4.n, (.slice a37 A4.kids.length c38), .int .i64 5], (blk_at Hx1.out (kept_trans Kk13.out (kept_trans Kk22.out Kk40.out))), rfl, Nat.le_of_ble_eq_true rfl, ?_⟩
  intro W42 hW42
  go_wp2_with fail
  (try simp only [Exit.inBlock, Exit.then])
  refine bodyPost_ret (results_cell_tmp rfl _ _ (w.heap.size) 34 _ _ dj rfl (blk_same (blk_at Hx1.out (kept_trans Kk13.out (kept_trans Kk22.out Kk40.out))) hW42) dj1 (by cases dj <;> first | rfl | exact dj2) (by kernel_rfl)) rfl ?_
  exact ⟨_, _, _, rfl, ⟨par_end (par_row' Hhl28.out hW42 (by omega) (by have := Z0.out; omega)) (by have := Z0.out; omega), par_end (par_row' Hhl29.out hW42 (by omega) (by have := Z0.out; omega)) (by have := Z0.out; omega), par_end (par_row' Hhl30.out hW42 (by omega) (by have := Z0.out; omega)) (by have := Z0.out; omega)⟩, kept_set (kept_trans Kk4.out (kept_trans Kk13.out (kept_trans Kk22.out Kk40.out))) hW42 (by omega)⟩

def of3r15_0 : Oper := { dst := some 84, op := Go.Op.fieldAddr 34 (Go.Operand.tmp 13) 1, type := 0, pos := "rule.go:48", after := #[], guard := none }
def of3r15_1 : Oper := { dst := some 85, op := Go.Op.load 32 (Go.Operand.tmp 84), type := 32, pos := "rule.go:48", after := #[{ on := 0, ground := Go.Ground.data }], guard := none }
def of3r15_2 : Oper := { dst := some 86, op := Go.Op.call { callee := Go.Callee.value (Go.Operand.func 35), args := #[Go.Operand.tmp 85], argTypes := #[32] }, type := 32, pos := "rule.go:48", after := #[{ on := 1, ground := Go.Ground.data }], guard := none }
def of3r15_3 : Oper := { dst := some 87, op := Go.Op.fieldAddr 34 (Go.Operand.tmp 13) 2, type := 0, pos := "rule.go:48", after := #[], guard := none }
def of3r15_4 : Oper := { dst := some 88, op := Go.Op.load 32 (Go.Operand.tmp 87), type := 32, pos := "rule.go:48", after := #[{ on := 3, ground := Go.Ground.data }], guard := none }
def of3r15_5 : Oper := { dst := some 89, op := Go.Op.call { callee := Go.Callee.value (Go.Operand.func 35), args := #[Go.Operand.tmp 88], argTypes := #[32] }, type := 32, pos := "rule.go:48", after := #[{ on := 4, ground := Go.Ground.data }, { on := 2, ground := Go.Ground.chain }], guard := none }
def of3r15_6 : Oper := { dst := some 90, op := Go.Op.fieldAddr 34 (Go.Operand.tmp 13) 3, type := 0, pos := "rule.go:48", after := #[], guard := none }
def of3r15_7 : Oper := { dst := some 91, op := Go.Op.load 32 (Go.Operand.tmp 90), type := 32, pos := "rule.go:48", after := #[{ on := 6, ground := Go.Ground.data }], guard := none }
def of3r15_8 : Oper := { dst := some 92, op := Go.Op.call { callee := Go.Callee.value (Go.Operand.func 35), args := #[Go.Operand.tmp 91], argTypes := #[32] }, type := 32, pos := "rule.go:48", after := #[{ on := 7, ground := Go.Ground.data }, { on := 5, ground := Go.Ground.chain }], guard := none }
def of3r15_9 : Oper := { dst := some 93, op := Go.Op.fieldAddr 34 (Go.Operand.tmp 13) 1, type := 0, pos := "rule.go:48", after := #[{ on := 0, ground := Go.Ground.phase }, { on := 1, ground := Go.Ground.phase }, { on := 2, ground := Go.Ground.phase }, { on := 3, ground := Go.Ground.phase }, { on := 4, ground := Go.Ground.phase }, { on := 5, ground := Go.Ground.textOnly Go.Departure.lateStoresUnsure }, { on := 6, ground := Go.Ground.phase }, { on := 7, ground := Go.Ground.phase }, { on := 8, ground := Go.Ground.textOnly Go.Departure.lateStoresUnsure }], guard := none }
def of3r15_10 : Oper := { dst := none, op := Go.Op.store 32 (Go.Operand.tmp 93) (Go.Operand.tmp 86), type := 0, pos := "rule.go:48", after := #[{ on := 9, ground := Go.Ground.data }, { on := 2, ground := Go.Ground.data }, { on := 8, ground := Go.Ground.chain }, { on := 0, ground := Go.Ground.phase }, { on := 1, ground := Go.Ground.phase }, { on := 2, ground := Go.Ground.phase }, { on := 3, ground := Go.Ground.phase }, { on := 4, ground := Go.Ground.phase }, { on := 5, ground := Go.Ground.textOnly Go.Departure.lateStoresUnsure }, { on := 6, ground := Go.Ground.phase }, { on := 7, ground := Go.Ground.phase }, { on := 8, ground := Go.Ground.textOnly Go.Departure.lateStoresUnsure }], guard := none }
def of3r15_11 : Oper := { dst := some 94, op := Go.Op.fieldAddr 34 (Go.Operand.tmp 13) 2, type := 0, pos := "rule.go:48", after := #[{ on := 0, ground := Go.Ground.phase }, { on := 1, ground := Go.Ground.phase }, { on := 2, ground := Go.Ground.phase }, { on := 3, ground := Go.Ground.phase }, { on := 4, ground := Go.Ground.phase }, { on := 5, ground := Go.Ground.phase }, { on := 6, ground := Go.Ground.phase }, { on := 7, ground := Go.Ground.phase }, { on := 8, ground := Go.Ground.textOnly Go.Departure.lateStoresUnsure }, { on := 9, ground := Go.Ground.phase }, { on := 10, ground := Go.Ground.phase }], guard := none }
def of3r15_12 : Oper := { dst := none, op := Go.Op.store 32 (Go.Operand.tmp 94) (Go.Operand.tmp 89), type := 0, pos := "rule.go:48", after := #[{ on := 11, ground := Go.Ground.data }, { on := 5, ground := Go.Ground.data }, { on := 10, ground := Go.Ground.chain }, { on := 0, ground := Go.Ground.phase }, { on := 1, ground := Go.Ground.phase }, { on := 2, ground := Go.Ground.phase }, { on := 3, ground := Go.Ground.phase }, { on := 4, ground := Go.Ground.phase }, { on := 5, ground := Go.Ground.phase }, { on := 6, ground := Go.Ground.phase }, { on := 7, ground := Go.Ground.phase }, { on := 8, ground := Go.Ground.textOnly Go.Departure.lateStoresUnsure }, { on := 9, ground := Go.Ground.phase }, { on := 10, ground := Go.Ground.phase }], guard := none }
def of3r15_13 : Oper := { dst := some 95, op := Go.Op.fieldAddr 34 (Go.Operand.tmp 13) 3, type := 0, pos := "rule.go:48", after := #[{ on := 0, ground := Go.Ground.phase }, { on := 1, ground := Go.Ground.phase }, { on := 2, ground := Go.Ground.phase }, { on := 3, ground := Go.Ground.phase }, { on := 4, ground := Go.Ground.phase }, { on := 5, ground := Go.Ground.phase }, { on := 6, ground := Go.Ground.phase }, { on := 7, ground := Go.Ground.phase }, { on := 8, ground := Go.Ground.phase }, { on := 9, ground := Go.Ground.phase }, { on := 10, ground := Go.Ground.phase }, { on := 11, ground := Go.Ground.phase }, { on := 12, ground := Go.Ground.phase }], guard := none }
def of3r15_14 : Oper := { dst := none, op := Go.Op.store 32 (Go.Operand.tmp 95) (Go.Operand.tmp 92), type := 0, pos := "rule.go:48", after := #[{ on := 13, ground := Go.Ground.data }, { on := 8, ground := Go.Ground.data }, { on := 12, ground := Go.Ground.chain }, { on := 0, ground := Go.Ground.phase }, { on := 1, ground := Go.Ground.phase }, { on := 2, ground := Go.Ground.phase }, { on := 3, ground := Go.Ground.phase }, { on := 4, ground := Go.Ground.phase }, { on := 5, ground := Go.Ground.phase }, { on := 6, ground := Go.Ground.phase }, { on := 7, ground := Go.Ground.phase }, { on := 8, ground := Go.Ground.phase }, { on := 9, ground := Go.Ground.phase }, { on := 10, ground := Go.Ground.phase }, { on := 11, ground := Go.Ground.phase }, { on := 12, ground := Go.Ground.phase }], guard := none }
set_option maxRecDepth 20000 in
set_option maxHeartbeats 4000000 in
theorem of3_any (P : Nat → Prop) (w : World) (U3 A4 : Tm) (hU3 : U3 = Tm.mk 1 3 0 0 []) (hA4 : A4 = Tm.mk 1 4 0 0 []) : Calls Try.prog 12 #[.slice none 0 0, .int .i64 1, .int .i64 3, .slice none 0 0] w (GivesJT P ⟨false, U3, Tm.zero, A4, 5⟩ true w) := by
  have HU3 := Lib.hid hU3
  have HA4 := Lib.hid hA4
  have fk3 : (U3.k == 0) = false := by rw [hU3]; rfl
  have fk4 : (A4.k == 0) = false := by rw [hA4]; rfl
  clear hU3 hA4
  obtain ⟨dj, dj1, dj2⟩ := under_of 34 (by kernel_rfl)
  obtain ⟨du, hu1, hu2⟩ := under_term
  go_enter Try.func12, Try.ntmps12
  go_upto_region 1 with fail
  refine at_code (fun V0 hV0 => ?_)
  obtain ⟨k2, x1, z3⟩ := alloc1 hV0
  have Kk4 := Lib.hid k2
  clear k2
  have Hx1 := Lib.hid x1
  have Z0 := Lib.hid z3
  clear z3 x1 hV0
  have kvV0 : Sees V0 (w.heap.size) V0 := sees_kept _ (kept_refl _)
  go_wp2_with fail
  clear kvV0
  have hq7 := kidsK 1 V0
  rw [show Dv.dkidsN 1 = 0 from by decide] at hq7
  refine hq7.mono ?_
  clear hq7
  rintro e w5 ⟨rfl, k6⟩
  have Kk8 := Lib.hid k6
  clear k6
  have kvV0 : Sees V0 (w.heap.size) w5 := sees_kept _ Kk8.out
  go_wp2_with fail
  clear kvV0
  have hq11 := rulepure_any [] w5 _ (liesE_nil _)
  rw [show purC [] = true from rfl] at hq11
  refine hq11.mono ?_
  clear hq11
  rintro e w9 ⟨rfl, k10⟩
  have Kk12 := Lib.hid k10
  clear k10
  have kvV0 : Sees V0 (w.heap.size) w9 := sees_kept _ (kept_trans Kk8.out Kk12.out)
  go_wp2_with fail
  clear kvV0
  go_loopw [28] (fun iv wr => ∃ i : Int, 0 ≤ i ∧ i ≤ 0 ∧ iv = .int .i64 i ∧ Hid (True) ∧ Kept w9 wr) (fun iv _ => 0 - (intOf iv).toNat)
  case atStart => exact ⟨0, by decide, by decide, rfl, trivial, kept_refl _⟩
  case round =>
    obtain ⟨i, hi0, hi1, rfl, hv14, k13⟩ := hrel
    have Kk15 := Lib.hid k13
    clear k13
    have HVhv14 := Lib.hid hv14.out
    clear hv14
    obtain rfl : i = 0 := by omega
    · clear hi0 hi1
      have kvV0 : Sees V0 (w.heap.size) wr := sees_kept _ (kept_trans Kk8.out (kept_trans Kk12.out Kk15.out))
      go_wp2_with fail
      clear kvV0
      refine (conc3_any (Par w V0.heap.size [] P) wr U3 A4 HU3.out HA4.out).mono ?_
      rintro e w16 ⟨s18, s19, s20, rfl, ⟨hl21, hl22, hl23⟩, k17⟩
      obtain ⟨a24, c25, S26, rfl, -⟩ := hl21.out
      obtain ⟨a27, c28, S29, rfl, -⟩ := hl22.out
      obtain ⟨a30, c31, S32, rfl, -⟩ := hl23.out
      have Kk33 := Lib.hid k17
      clear k17
      have Hhl21 : Hid (LiesQ w16 (Par w V0.heap.size [] P) U3.kids _) := par_give hl21 (Below.size (kept_trans Kk8.out (kept_trans Kk12.out Kk15.out))) (xlt_nil _)
      have Hhl22 : Hid (LiesQ w16 (Par w V0.heap.size [] P) Tm.zero.kids _) := par_give hl22 (Below.size (kept_trans Kk8.out (kept_trans Kk12.out Kk15.out))) (xlt_nil _)
      have Hhl23 : Hid (LiesQ w16 (Par w V0.heap.size [] P) A4.kids _) := par_give hl23 (Below.size (kept_trans Kk8.out (kept_trans Kk12.out Kk15.out))) (xlt_nil _)
      clear hl21 hl22 hl23
      have kvV0 : Sees V0 (w.heap.size) w16 := sees_kept _ (kept_trans Kk8.out (kept_trans Kk12.out (kept_trans Kk15.out Kk33.out)))
      go_wp2_with (refine stop_store 34 (.tmp 13) (.tmp 52) rfl ?_)
      intro _
      refine wpList_store_part_n (by rfl) 34 (.tmp 13) (.tmp 52) rfl (w16.heap.size) 0 #[.bool false, .int .i64 U3.k, .int .i64 U3.i, .int .i64 U3.j, .int .i64 U3.n, (.slice a24 U3.kids.length c25), .int .i64 Tm.zero.k, .int .i64 Tm.zero.i, .int .i64 Tm.zero.j, .int .i64 Tm.zero.n, (.slice a27 Tm.zero.kids.length c28), .int .i64 A4.k, .int .i64 A4.i, .int .i64 A4.j, .int .i64 A4.n, (.slice a30 A4.kids.length c31), .int .i64 5] (by rfl) (by rfl) 34 (by kernel_rfl) (row_ok rfl) ?_
      intro W34 hW34
      clear kvV0
      obtain ⟨k37, x36, z38⟩ := alloc1 hW34
      have Kk39 := Lib.hid k37
      clear k37
      have Hx36 := Lib.hid x36
      have Hz38 := Lib.hid z38
      clear x36 z38 hW34
      have HG40 : Hid (V0.heap.size ≤ w16.heap.size) := (Below.size (kept_trans Kk8.out (kept_trans Kk12.out (kept_trans Kk15.out Kk33.out))))
      have XL41 : Hid (XLt (w16.heap.size :: []) W34) := (xlt_more (xlt_nil _) Kk39.out (by have := Hz38.out; omega))
      refine ⟨_, #[.bool false, .int .i64 U3.k, .int .i64 U3.i, .int .i64 U3.j, .int .i64 U3.n, (.slice a24 U3.kids.length c25), .int .i64 Tm.zero.k, .int .i64 Tm.zero.i, .int .i64 Tm.zero.j, .int .i64 Tm.zero.n, (.slice a27 Tm.zero.kids.length c28), .int .i64 A4.k, .int .i64 A4.i, .int .i64 A4.j, .int .i64 A4.n, (.slice a30 A4.kids.length c31), .int .i64 5], Hx36.out, rfl, Nat.le_of_ble_eq_true rfl, ?_⟩
      intro W35 hW35
      have KB42 := Lib.hid (kept_set (kept_trans Kk4.out (kept_trans Kk8.out (kept_trans Kk12.out (kept_trans Kk15.out (kept_trans Kk33.out Kk39.out))))) hW35 (by have := HG40.out; have := Z0.out; omega))
      have KB43 := Lib.hid (kept_set (kept_trans Kk8.out (kept_trans Kk12.out (kept_trans Kk15.out (kept_trans Kk33.out Kk39.out)))) hW35 HG40.out)
      have HL44 : Hid (LiesQ W35 (Par w V0.heap.size (w16.heap.size :: []) P) U3.kids _) := par_set (par_grow Hhl21.out Kk39.out (List.forall_mem_cons.2 ⟨(Or.inr (Nat.le_refl w16.heap.size)), (fun _ h => nomatch h)⟩)) hW35 (List.mem_cons_self ..) (by have := HG40.out; have := Z0.out; omega)
      have HL45 : Hid (LiesQ W35 (Par w V0.heap.size (w16.heap.size :: []) P) Tm.zero.kids _) := par_set (par_grow Hhl22.out Kk39.out (List.forall_mem_cons.2 ⟨(Or.inr (Nat.le_refl w16.heap.size)), (fun _ h => nomatch h)⟩)) hW35 (List.mem_cons_self ..) (by have := HG40.out; have := Z0.out; omega)
      have HL46 : Hid (LiesQ W35 (Par w V0.heap.size (w16.heap.size :: []) P) A4.kids _) := par_set (par_grow Hhl23.out Kk39.out (List.forall_mem_cons.2 ⟨(Or.inr (Nat.le_refl w16.heap.size)), (fun _ h => nomatch h)⟩)) hW35 (List.mem_cons_self ..) (by have := HG40.out; have := Z0.out; omega)
      have XL47 := Lib.hid (xlt_set XL41.out hW35)
      have HX48 := Lib.hid (blk_same Hx36.out hW35)
      clear hW35
      have ld49 := part_cell (r := (w.heap.size)) HX48.out (by have := HG40.out; have := Z0.out; omega) 0 (.bool false) rfl
      have ld50 := part_cell (r := (w.heap.size)) HX48.out (by have := HG40.out; have := Z0.out; omega) 1 (.int .i64 U3.k) rfl
      have ld51 := part_cell (r := (w.heap.size)) HX48.out (by have := HG40.out; have := Z0.out; omega) 6 (.int .i64 Tm.zero.k) rfl
      have ld52 := part_cell (r := (w.heap.size)) HX48.out (by have := HG40.out; have := Z0.out; omega) 11 (.int .i64 A4.k) rfl
      have ld53 := part_cell (r := (w.heap.size)) HX48.out (by have := HG40.out; have := Z0.out; omega) 16 (.int .i64 5) rfl
      have kvV0 : Sees V0 (w.heap.size) W35 := sees_kept _ KB43.out
      have kvW35 : Sees W35 (w.heap.size) W35 := sees_kept _ (kept_refl _)
      go_wp2_with fail
      clear kvV0
      clear kvW35
      obtain ⟨W54, h55⟩ : ∃ x, World.drew W35 = x := ⟨_, rfl⟩
      have k56 : Kept W35 W54 := by rw [← h55]; exact kept_drew (kept_refl _)
      have Kk57 := Lib.hid k56
      clear k56
      refine wp_region_X (S := Sees W54 (w.heap.size)) 10 (by kernel_rfl) ?_ (fun hHeld => ?_)
      · (try dsimp only)
        rw [h55]
        exact sees_kept _ (kept_refl _)
      rw [h55] at hHeld ⊢
      clear h55
      refine takeX_any 0 84 of3r15_0 (v := ?_) (Or.inl ⟨by rfl, ?_⟩) ?_ (fun _ => hHeld)
      rotate_left 1
      · ((intro w hSw; (try dsimp only at hSw); unfold of3r15_0; go_simp) <;> with_reducible rfl)
      (try simp only [Act.put, List.setIfInBounds_toArray, List.set_cons_zero, List.set_cons_succ])
      refine takeX_at 1 85 of3r15_1 (yields_part (w16.heap.size) (1) 32 (.tmp 84) #[.int .i64 U3.k, .int .i64 U3.i, .int .i64 U3.j, .int .i64 U3.n, (.slice a24 U3.kids.length c25)] du (fun _ h => sees_blk HX48.out (by have := HG40.out; have := Z0.out; omega) (sees_of Kk57.out h)) (by rfl) rfl (by rfl) (by rfl) hu1 (by cases du <;> first | rfl | exact hu2) size_term) ?_
      (try simp only [Act.put, List.setIfInBounds_toArray, List.set_cons_zero, List.set_cons_succ])
      refine takeX_any 3 87 of3r15_3 (v := ?_) (Or.inl ⟨by rfl, ?_⟩) ?_ (fun _ => hHeld)
      rotate_left 1
      · ((intro w hSw; (try dsimp only at hSw); unfold of3r15_3; go_simp) <;> with_reducible rfl)
      (try simp only [Act.put, List.setIfInBounds_toArray, List.set_cons_zero, List.set_cons_succ])
      refine takeX_at 4 88 of3r15_4 (yields_part (w16.heap.size) (6) 32 (.tmp 87) #[.int .i64 Tm.zero.k, .int .i64 Tm.zero.i, .int .i64 Tm.zero.j, .int .i64 Tm.zero.n, (.slice a27 Tm.zero.kids.length c28)] du (fun _ h => sees_blk HX48.out (by have := HG40.out; have := Z0.out; omega) (sees_of Kk57.out h)) (by rfl) rfl (by rfl) (by rfl) hu1 (by cases du <;> first | rfl | exact hu2) size_term) ?_
      (try simp only [Act.put, List.setIfInBounds_toArray, List.set_cons_zero, List.set_cons_succ])
      refine takeX_any 6 90 of3r15_6 (v := ?_) (Or.inl ⟨by rfl, ?_⟩) ?_ (fun _ => hHeld)
      rotate_left 1
      · ((intro w hSw; (try dsimp only at hSw); unfold of3r15_6; go_simp) <;> with_reducible rfl)
      (try simp only [Act.put, List.setIfInBounds_toArray, List.set_cons_zero, List.set_cons_succ])
      refine takeX_at 7 91 of3r15_7 (yields_part (w16.heap.size) (11) 32 (.tmp 90) #[.int .i64 A4.k, .int .i64 A4.i, .int .i64 A4.j, .int .i64 A4.n, (.slice a30 A4.kids.length c31)] du (fun _ h => sees_blk HX48.out (by have := HG40.out; have := Z0.out; omega) (sees_of Kk57.out h)) (by rfl) rfl (by rfl) (by rfl) hu1 (by cases du <;> first | rfl | exact hu2) size_term) ?_
      (try simp only [Act.put, List.setIfInBounds_toArray, List.set_cons_zero, List.set_cons_succ])
      refine wpAnyX_ready (rs := [2]) (by kernel_rfl) (by simp) ?_
      refine AllReadyX.cons (o := of3r15_2) rfl (fun K hK => ?_) ?_
      · unfold of3r15_2
        go_simp
        refine ((copy_any U3 _ ((.slice a24 U3.kids.length c25)) (HL44.out.later Kk57.out).lies (by rw [HU3.out]; decide)).mono (fun _ _ h => h.givesP (P := (Par w V0.heap.size (w16.heap.size :: []) P)))).mono ?_
        rintro e w58 ⟨s60, rfl, hl61, k59⟩
        obtain ⟨a62, c63, S64, rfl, -⟩ := hl61.out
        have Kk65 := Lib.hid k59
        clear k59
        have Hhl61 : Hid (LiesQ w58 (Par w V0.heap.size (w16.heap.size :: []) P) U3.kids _) := par_give hl61 (Below.size (kept_trans KB43.out Kk57.out)) (xlt_later XL47.out Kk57.out)
        clear hl61
        clear hHeld
        refine hK.out _ _ (fun _ => sees_kept _ Kk65.out) (fun hHeld => ?_)
        replace hHeld := hHeld (by kernel_rfl)
        clear hK K
        (try simp only [Act.put, List.setIfInBounds_toArray, List.set_cons_zero, List.set_cons_succ])
        refine takeX_any 9 93 of3r15_9 (v := ?_) (Or.inl ⟨by rfl, ?_⟩) ?_ (fun _ => hHeld)
        rotate_left 1
        · ((intro w hSw; (try dsimp only at hSw); unfold of3r15_9; go_simp) <;> with_reducible rfl)
        (try simp only [Act.put, List.setIfInBounds_toArray, List.set_cons_zero, List.set_cons_succ])
        refine wpAnyX_ready (rs := [5]) (by kernel_rfl) (by simp) ?_
        refine AllReadyX.cons (o := of3r15_5) rfl (fun K hK => ?_) ?_
        · unfold of3r15_5
          go_simp
          refine ((copy_any Tm.zero _ ((.slice a27 Tm.zero.kids.length c28)) (HL45.out.later (kept_trans Kk57.out Kk65.out)).lies (by decide)).mono (fun _ _ h => h.givesP (P := (Par w V0.heap.size (w16.heap.size :: []) P)))).mono ?_
          rintro e w66 ⟨s68, rfl, hl69, k67⟩
          obtain ⟨a70, c71, S72, rfl, -⟩ := hl69.out
          have Kk73 := Lib.hid k67
          clear k67
          have Hhl69 : Hid (LiesQ w66 (Par w V0.heap.size (w16.heap.size :: []) P) Tm.zero.kids _) := par_give hl69 (Below.size (kept_trans KB43.out (kept_trans Kk57.out Kk65.out))) (xlt_later XL47.out (kept_trans Kk57.out Kk65.out))
          clear hl69
          clear hHeld
          refine hK.out _ _ (fun _ => sees_kept _ (kept_trans Kk65.out Kk73.out)) (fun hHeld => ?_)
          replace hHeld := hHeld (by kernel_rfl)
          clear hK K
          (try simp only [Act.put, List.setIfInBounds_toArray, List.set_cons_zero, List.set_cons_succ])
          refine wpAnyX_ready (rs := [8]) (by kernel_rfl) (by simp) ?_
          refine AllReadyX.cons (o := of3r15_8) rfl (fun K hK => ?_) ?_
          · unfold of3r15_8
            go_simp
            refine ((copy_any A4 _ ((.slice a30 A4.kids.length c31)) (HL46.out.later (kept_trans Kk57.out (kept_trans Kk65.out Kk73.out))).lies (by rw [HA4.out]; decide)).mono (fun _ _ h => h.givesP (P := (Par w V0.heap.size (w16.heap.size :: []) P)))).mono ?_
            rintro e w74 ⟨s76, rfl, hl77, k75⟩
            obtain ⟨a78, c79, S80, rfl, -⟩ := hl77.out
            have Kk81 := Lib.hid k75
            clear k75
            have Hhl77 : Hid (LiesQ w74 (Par w V0.heap.size (w16.heap.size :: []) P) A4.kids _) := par_give hl77 (Below.size (kept_trans KB43.out (kept_trans Kk57.out (kept_trans Kk65.out Kk73.out)))) (xlt_later XL47.out (kept_trans Kk57.out (kept_trans Kk65.out Kk73.out)))
            clear hl77
            clear hHeld
            refine hK.out _ _ (fun _ => sees_kept _ (kept_trans Kk65.out (kept_trans Kk73.out Kk81.out))) (fun hHeld => ?_)
            replace hHeld := hHeld (by kernel_rfl)
            clear hK K
            (try simp only [Act.put, List.setIfInBounds_toArray, List.set_cons_zero, List.set_cons_succ])
            refine wpAnyX_ready (rs := [10]) (by kernel_rfl) (by simp) ?_
            refine AllReadyX.cons (o := of3r15_10) rfl (fun K hK => ?_) ?_
            · unfold of3r15_10
              refine step_store_part rfl 32 (.tmp 93) (.tmp 86) rfl (w16.heap.size) 1 #[.int .i64 U3.k, .int .i64 U3.i, .int .i64 U3.j, .int .i64 U3.n, (.slice a62 U3.kids.length c63)] rfl rfl 34 size_term (row_ok rfl) _ #[.bool false, .int .i64 U3.k, .int .i64 U3.i, .int .i64 U3.j, .int .i64 U3.n, (.slice a62 U3.kids.length c63), .int .i64 Tm.zero.k, .int .i64 Tm.zero.i, .int .i64 Tm.zero.j, .int .i64 Tm.zero.n, (.slice a27 Tm.zero.kids.length c28), .int .i64 A4.k, .int .i64 A4.i, .int .i64 A4.j, .int .i64 A4.n, (.slice a30 A4.kids.length c31), .int .i64 5] (blk_at HX48.out (kept_trans Kk57.out (kept_trans Kk65.out (kept_trans Kk73.out Kk81.out)))) rfl (Nat.le_of_ble_eq_true rfl) ?_
              intro W82 hW82
              have KB83 := Lib.hid (kept_set (kept_trans KB42.out (kept_trans Kk57.out (kept_trans Kk65.out (kept_trans Kk73.out Kk81.out)))) hW82 (by have := HG40.out; have := Z0.out; omega))
              have KB84 := Lib.hid (kept_set (kept_trans KB43.out (kept_trans Kk57.out (kept_trans Kk65.out (kept_trans Kk73.out Kk81.out)))) hW82 HG40.out)
              have HL85 : Hid (LiesQ W82 (Par w V0.heap.size (w16.heap.size :: []) P) U3.kids _) := par_set (HL44.out.later (kept_trans Kk57.out (kept_trans Kk65.out (kept_trans Kk73.out Kk81.out)))) hW82 (List.mem_cons_self ..) (by have := HG40.out; have := Z0.out; omega)
              have HL86 : Hid (LiesQ W82 (Par w V0.heap.size (w16.heap.size :: []) P) Tm.zero.kids _) := par_set (HL45.out.later (kept_trans Kk57.out (kept_trans Kk65.out (kept_trans Kk73.out Kk81.out)))) hW82 (List.mem_cons_self ..) (by have := HG40.out; have := Z0.out; omega)
              have HL87 : Hid (LiesQ W82 (Par w V0.heap.size (w16.heap.size :: []) P) A4.kids _) := par_set (HL46.out.later (kept_trans Kk57.out (kept_trans Kk65.out (kept_trans Kk73.out Kk81.out)))) hW82 (List.mem_cons_self ..) (by have := HG40.out; have := Z0.out; omega)
              have HL88 : Hid (LiesQ W82 (Par w V0.heap.size (w16.heap.size :: []) P) U3.kids _) := par_set (Hhl61.out.later (kept_trans Kk73.out Kk81.out)) hW82 (List.mem_cons_self ..) (by have := HG40.out; have := Z0.out; omega)
              have HL89 : Hid (LiesQ W82 (Par w V0.heap.size (w16.heap.size :: []) P) Tm.zero.kids _) := par_set (Hhl69.out.later Kk81.out) hW82 (List.mem_cons_self ..) (by have := HG40.out; have := Z0.out; omega)
              have HL90 : Hid (LiesQ W82 (Par w V0.heap.size (w16.heap.size :: []) P) A4.kids _) := par_set Hhl77.out hW82 (List.mem_cons_self ..) (by have := HG40.out; have := Z0.out; omega)
              have XL91 := Lib.hid (xlt_set (xlt_later XL47.out (kept_trans Kk57.out (kept_trans Kk65.out (kept_trans Kk73.out Kk81.out)))) hW82)
              have HX92 := Lib.hid (blk_same (blk_at HX48.out (kept_trans Kk57.out (kept_trans Kk65.out (kept_trans Kk73.out Kk81.out)))) hW82)
              (try clear ld49)
              (try clear ld50)
              (try clear ld51)
              (try clear ld52)
              (try clear ld53)
              clear hW82
              have ld93 := part_cell (r := (w.heap.size)) HX92.out (by have := HG40.out; have := Z0.out; omega) 0 (.bool false) rfl
              have ld94 := part_cell (r := (w.heap.size)) HX92.out (by have := HG40.out; have := Z0.out; omega) 1 (.int .i64 U3.k) rfl
              have ld95 := part_cell (r := (w.heap.size)) HX92.out (by have := HG40.out; have := Z0.out; omega) 6 (.int .i64 Tm.zero.k) rfl
              have ld96 := part_cell (r := (w.heap.size)) HX92.out (by have := HG40.out; have := Z0.out; omega) 11 (.int .i64 A4.k) rfl
              have ld97 := part_cell (r := (w.heap.size)) HX92.out (by have := HG40.out; have := Z0.out; omega) 16 (.int .i64 5) rfl
              clear hHeld
              refine hK.out _ _ (fun h => Bool.noConfusion (show true = false from h)) (fun _ => ?_)
              clear hK K
              (try simp only [Act.put])
              refine takeX_any 11 94 of3r15_11 (v := ?_) (Or.inl ⟨by rfl, ?_⟩) ?_ (fun h => Bool.noConfusion (show true = false from h))
              rotate_left 1
              · ((intro w hSw; (try dsimp only at hSw); unfold of3r15_11; go_simp) <;> with_reducible rfl)
              (try simp only [Act.put, List.setIfInBounds_toArray, List.set_cons_zero, List.set_cons_succ])
              refine wpAnyX_ready (rs := [12]) (by kernel_rfl) (by simp) ?_
              refine AllReadyX.cons (o := of3r15_12) rfl (fun K hK => ?_) ?_
              · unfold of3r15_12
                refine step_store_part rfl 32 (.tmp 94) (.tmp 89) rfl (w16.heap.size) 6 #[.int .i64 Tm.zero.k, .int .i64 Tm.zero.i, .int .i64 Tm.zero.j, .int .i64 Tm.zero.n, (.slice a70 Tm.zero.kids.length c71)] rfl rfl 34 size_term (row_ok rfl) _ #[.bool false, .int .i64 U3.k, .int .i64 U3.i, .int .i64 U3.j, .int .i64 U3.n, (.slice a62 U3.kids.length c63), .int .i64 Tm.zero.k, .int .i64 Tm.zero.i, .int .i64 Tm.zero.j, .int .i64 Tm.zero.n, (.slice a70 Tm.zero.kids.length c71), .int .i64 A4.k, .int .i64 A4.i, .int .i64 A4.j, .int .i64 A4.n, (.slice a30 A4.kids.length c31), .int .i64 5] HX92.out rfl (Nat.le_of_ble_eq_true rfl) ?_
                intro W98 hW98
                have KB99 := Lib.hid (kept_set KB83.out hW98 (by have := HG40.out; have := Z0.out; omega))
                have KB100 := Lib.hid (kept_set KB84.out hW98 HG40.out)
                have HL101 : Hid (LiesQ W98 (Par w V0.heap.size (w16.heap.size :: []) P) U3.kids _) := par_set HL85.out hW98 (List.mem_cons_self ..) (by have := HG40.out; have := Z0.out; omega)
                have HL102 : Hid (LiesQ W98 (Par w V0.heap.size (w16.heap.size :: []) P) Tm.zero.kids _) := par_set HL86.out hW98 (List.mem_cons_self ..) (by have := HG40.out; have := Z0.out; omega)
                have HL103 : Hid (LiesQ W98 (Par w V0.heap.size (w16.heap.size :: []) P) A4.kids _) := par_set HL87.out hW98 (List.mem_cons_self ..) (by have := HG40.out; have := Z0.out; omega)
                have HL104 : Hid (LiesQ W98 (Par w V0.heap.size (w16.heap.size :: []) P) U3.kids _) := par_set HL88.out hW98 (List.mem_cons_self ..) (by have := HG40.out; have := Z0.out; omega)
                have HL105 : Hid (LiesQ W98 (Par w V0.heap.size (w16.heap.size :: []) P) Tm.zero.kids _) := par_set HL89.out hW98 (List.mem_cons_self ..) (by have := HG40.out; have := Z0.out; omega)
                have HL106 : Hid (LiesQ W98 (Par w V0.heap.size (w16.heap.size :: []) P) A4.kids _) := par_set HL90.out hW98 (List.mem_cons_self ..) (by have := HG40.out; have := Z0.out; omega)
                have XL107 := Lib.hid (xlt_set XL91.out hW98)
                have HX108 := Lib.hid (blk_same HX92.out hW98)
                (try clear ld93)
                (try clear ld94)
                (try clear ld95)
                (try clear ld96)
                (try clear ld97)
                clear hW98
                have ld109 := part_cell (r := (w.heap.size)) HX108.out (by have := HG40.out; have := Z0.out; omega) 0 (.bool false) rfl
                have ld110 := part_cell (r := (w.heap.size)) HX108.out (by have := HG40.out; have := Z0.out; omega) 1 (.int .i64 U3.k) rfl
                have ld111 := part_cell (r := (w.heap.size)) HX108.out (by have := HG40.out; have := Z0.out; omega) 6 (.int .i64 Tm.zero.k) rfl
                have ld112 := part_cell (r := (w.heap.size)) HX108.out (by have := HG40.out; have := Z0.out; omega) 11 (.int .i64 A4.k) rfl
                have ld113 := part_cell (r := (w.heap.size)) HX108.out (by have := HG40.out; have := Z0.out; omega) 16 (.int .i64 5) rfl
                refine hK.out _ _ (fun h => Bool.noConfusion (show true = false from h)) (fun _ => ?_)
                clear hK K
                (try simp only [Act.put])
                refine takeX_any 13 95 of3r15_13 (v := ?_) (Or.inl ⟨by rfl, ?_⟩) ?_ (fun h => Bool.noConfusion (show true = false from h))
                rotate_left 1
                · ((intro w hSw; (try dsimp only at hSw); unfold of3r15_13; go_simp) <;> with_reducible rfl)
                (try simp only [Act.put, List.setIfInBounds_toArray, List.set_cons_zero, List.set_cons_succ])
                refine wpAnyX_ready (rs := [14]) (by kernel_rfl) (by simp) ?_
                refine AllReadyX.cons (o := of3r15_14) rfl (fun K hK => ?_) ?_
                · unfold of3r15_14
                  refine step_store_part rfl 32 (.tmp 95) (.tmp 92) rfl (w16.heap.size) 11 #[.int .i64 A4.k, .int .i64 A4.i, .int .i64 A4.j, .int .i64 A4.n, (.slice a78 A4.kids.length c79)] rfl rfl 34 size_term (row_ok rfl) _ #[.bool false, .int .i64 U3.k, .int .i64 U3.i, .int .i64 U3.j, .int .i64 U3.n, (.slice a62 U3.kids.length c63), .int .i64 Tm.zero.k, .int .i64 Tm.zero.i, .int .i64 Tm.zero.j, .int .i64 Tm.zero.n, (.slice a70 Tm.zero.kids.length c71), .int .i64 A4.k, .int .i64 A4.i, .int .i64 A4.j, .int .i64 A4.n, (.slice a78 A4.kids.length c79), .int .i64 5] HX108.out rfl (Nat.le_of_ble_eq_true rfl) ?_
                  intro W114 hW114
                  have KB115 := Lib.hid (kept_set KB99.out hW114 (by have := HG40.out; have := Z0.out; omega))
                  have KB116 := Lib.hid (kept_set KB100.out hW114 HG40.out)
                  have HL117 : Hid (LiesQ W114 (Par w V0.heap.size (w16.heap.size :: []) P) U3.kids _) := par_set HL101.out hW114 (List.mem_cons_self ..) (by have := HG40.out; have := Z0.out; omega)
                  have HL118 : Hid (LiesQ W114 (Par w V0.heap.size (w16.heap.size :: []) P) Tm.zero.kids _) := par_set HL102.out hW114 (List.mem_cons_self ..) (by have := HG40.out; have := Z0.out; omega)
                  have HL119 : Hid (LiesQ W114 (Par w V0.heap.size (w16.heap.size :: []) P) A4.kids _) := par_set HL103.out hW114 (List.mem_cons_self ..) (by have := HG40.out; have := Z0.out; omega)
                  have HL120 : Hid (LiesQ W114 (Par w V0.heap.size (w16.heap.size :: []) P) U3.kids _) := par_set HL104.out hW114 (List.mem_cons_self ..) (by have := HG40.out; have := Z0.out; omega)
                  have HL121 : Hid (LiesQ W114 (Par w V0.heap.size (w16.heap.size :: []) P) Tm.zero.kids _) := par_set HL105.out hW114 (List.mem_cons_self ..) (by have := HG40.out; have := Z0.out; omega)
                  have HL122 : Hid (LiesQ W114 (Par w V0.heap.size (w16.heap.size :: []) P) A4.kids _) := par_set HL106.out hW114 (List.mem_cons_self ..) (by have := HG40.out; have := Z0.out; omega)
                  have XL123 := Lib.hid (xlt_set XL107.out hW114)
                  have HX124 := Lib.hid (blk_same HX108.out hW114)
                  (try clear ld109)
                  (try clear ld110)
                  (try clear ld111)
                  (try clear ld112)
                  (try clear ld113)
                  clear hW114
                  have ld125 := part_cell (r := (w.heap.size)) HX124.out (by have := HG40.out; have := Z0.out; omega) 0 (.bool false) rfl
                  have ld126 := part_cell (r := (w.heap.size)) HX124.out (by have := HG40.out; have := Z0.out; omega) 1 (.int .i64 U3.k) rfl
                  have ld127 := part_cell (r := (w.heap.size)) HX124.out (by have := HG40.out; have := Z0.out; omega) 6 (.int .i64 Tm.zero.k) rfl
                  have ld128 := part_cell (r := (w.heap.size)) HX124.out (by have := HG40.out; have := Z0.out; omega) 11 (.int .i64 A4.k) rfl
                  have ld129 := part_cell (r := (w.heap.size)) HX124.out (by have := HG40.out; have := Z0.out; omega) 16 (.int .i64 5) rfl
                  refine hK.out _ _ (fun h => Bool.noConfusion (show true = false from h)) (fun _ => ?_)
                  clear hK K
                  (try simp only [Act.put])
                  refine wpAnyX_done (by kernel_rfl) ?_ _
                  have kvV0 : Sees V0 (w.heap.size) W114 := sees_kept _ KB116.out
                  have kvW114 : Sees W114 (w.heap.size) W114 := sees_kept _ (kept_refl _)
                  go_wp2_with (refine stop_load 34 (.tmp 13) rfl ?_)
                  intro _
                  refine wpList_load_part (w16.heap.size) (0) 34 (.tmp 13) #[.bool false, .int .i64 U3.k, .int .i64 U3.i, .int .i64 U3.j, .int .i64 U3.n, (.slice a62 U3.kids.length c63), .int .i64 Tm.zero.k, .int .i64 Tm.zero.i, .int .i64 Tm.zero.j, .int .i64 Tm.zero.n, (.slice a70 Tm.zero.kids.length c71), .int .i64 A4.k, .int .i64 A4.i, .int .i64 A4.j, .int .i64 A4.n, (.slice a78 A4.kids.length c79), .int .i64 5] dj HX124.out (by rfl) rfl (by rfl) (by rfl) dj1 (by cases dj <;> first | rfl | exact dj2) (by kernel_rfl) ?_
                  go_wp2_with (refine stop_store 34 (.tmp 8) (.tmp 96) rfl ?_)
                  intro _
                  refine wpList_store_part_n (by rfl) 34 (.tmp 8) (.tmp 96) rfl (w.heap.size) 0 #[.bool false, .int .i64 U3.k, .int .i64 U3.i, .int .i64 U3.j, .int .i64 U3.n, (.slice a62 U3.kids.length c63), .int .i64 Tm.zero.k, .int .i64 Tm.zero.i, .int .i64 Tm.zero.j, .int .i64 Tm.zero.n, (.slice a70 Tm.zero.kids.length c71), .int .i64 A4.k, .int .i64 A4.i, .int .i64 A4.j, .int .i64 A4.n, (.slice a78 A4.kids.length c79), .int .i64 5] (by rfl) (by rfl) 34 (by kernel_rfl) (row_ok rfl) ?_
                  intro W130 hW130
                  clear kvV0
                  clear kvW114
                  subst hW130
                  refine ⟨_, #[.bool false, .int .i64 U3.k, .int .i64 U3.i, .int .i64 U3.j, .int .i64 U3.n, (.slice a62 U3.kids.length c63), .int .i64 Tm.zero.k, .int .i64 Tm.zero.i, .int .i64 Tm.zero.j, .int .i64 Tm.zero.n, (.slice a70 Tm.zero.kids.length c71), .int .i64 A4.k, .int .i64 A4.i, .int .i64 A4.j, .int .i64 A4.n, (.slice a78 A4.kids.length c79), .int .i64 5], (blk_at Hx1.out KB116.out), rfl, Nat.le_of_ble_eq_true rfl, ?_⟩
                  intro W131 hW131
                  go_wp2_with fail
                  (try simp only [Exit.inBlock, Exit.then])
                  refine bodyPost_ret (results_cell_tmp rfl _ _ (w.heap.size) 34 _ _ dj rfl (blk_same (blk_at Hx1.out KB116.out) hW131) dj1 (by cases dj <;> first | rfl | exact dj2) (by kernel_rfl)) rfl ?_
                  exact ⟨_, _, _, rfl, ⟨par_end (par_row' HL120.out hW131 (by omega) (by have := Z0.out; omega)) (by have := Z0.out; omega), par_end (par_row' HL121.out hW131 (by omega) (by have := Z0.out; omega)) (by have := Z0.out; omega), par_end (par_row' HL122.out hW131 (by omega) (by have := Z0.out; omega)) (by have := Z0.out; omega)⟩, kept_set KB115.out hW131 (by omega)⟩
                exact AllReadyX.nil
              exact AllReadyX.nil
            exact AllReadyX.nil
          exact AllReadyX.nil
        exact AllReadyX.nil
      exact AllReadyX.nil

set_option maxRecDepth 20000 in
set_option maxHeartbeats 4000000 in
theorem conc901_any (P : Nat → Prop) (w : World) (U3 A4 : Tm) (hU3 : U3 = Tm.mk 1 901 0 0 []) (hA4 : A4 = Tm.mk 1 902 0 0 []) : Calls Try.prog 34 #[.slice none 0 0, .int .i64 1, .int .i64 901, .slice none 0 0] w (GivesJT P ⟨false, U3, Tm.zero, A4, 903⟩ false w) := by
  have HU3 := Lib.hid hU3
  have HA4 := Lib.hid hA4
  have fk3 : (U3.k == 0) = false := by rw [hU3]; rfl
  have fk4 : (A4.k == 0) = false := by rw [hA4]; rfl
  clear hU3 hA4
  obtain ⟨dj, dj1, dj2⟩ := under_of 34 (by kernel_rfl)
  obtain ⟨du, hu1, hu2⟩ := under_term
  go_enter Try.func34, Try.ntmps34
  go_upto_region 1 with fail
  refine at_code (fun V0 hV0 => ?_)
  obtain ⟨k2, x1, z3⟩ := alloc1 hV0
  have Kk4 := Lib.hid k2
  clear k2
  have Hx1 := Lib.hid x1
  have Z0 := Lib.hid z3
  clear z3 x1 hV0
  have kvV0 : Sees V0 (w.heap.size) V0 := sees_kept _ (kept_refl _)
  go_wp2_with fail
  clear kvV0
  have hq7 := rsortJ_any 901 (Par w V0.heap.size [] P) V0 (show I64 901 from by unfold I64; decide)
  rw [show Tm.mk 1 901 0 0 [] = U3 from HU3.out.symm] at hq7
  refine hq7.mono ?_
  clear hq7
  rintro e w5 ⟨s8, rfl, hl9, k6⟩
  obtain ⟨a10, c11, S12, rfl, -⟩ := hl9.out
  have Kk13 := Lib.hid k6
  clear k6
  have Hhl9 : Hid (LiesQ w5 (Par w V0.heap.size [] P) U3.kids _) := par_give hl9 (Nat.le_refl _) (xlt_nil _)
  clear hl9
  have kvV0 : Sees V0 (w.heap.size) w5 := sees_kept _ Kk13.out
  go_wp2_with fail
  clear kvV0
  have hq16 := rsortJ_any 902 (Par w V0.heap.size [] P) w5 (show I64 902 from by unfold I64; decide)
  rw [show Tm.mk 1 902 0 0 [] = A4 from HA4.out.symm] at hq16
  refine hq16.mono ?_
  clear hq16
  rintro e w14 ⟨s17, rfl, hl18, k15⟩
  obtain ⟨a19, c20, S21, rfl, -⟩ := hl18.out
  have Kk22 := Lib.hid k15
  clear k15
  have Hhl18 : Hid (LiesQ w14 (Par w V0.heap.size [] P) A4.kids _) := par_give hl18 (Below.size Kk13.out) (xlt_nil _)
  clear hl18
  have kvV0 : Sees V0 (w.heap.size) w14 := sees_kept _ (kept_trans Kk13.out Kk22.out)
  go_wp2_with fail
  clear kvV0
  refine (rof_any 903 U3 A4 (Par w V0.heap.size [] P) _ ((.slice a10 U3.kids.length c11)) ((.slice a19 A4.kids.length c20)) (sort_fineW HU3.out (by unfold I64; decide)) (Hhl9.out.later Kk22.out) (sort_fineW HA4.out (by unfold I64; decide)) Hhl18.out (show I64 903 from by unfold I64; decide)).mono ?_
  rintro e w23 ⟨s25, s26, s27, rfl, ⟨hl28, hl29, hl30⟩, k24⟩
  obtain ⟨a31, c32, S33, rfl, -⟩ := hl28.out
  obtain ⟨a34, c35, S36, rfl, -⟩ := hl29.out
  obtain ⟨a37, c38, S39, rfl, -⟩ := hl30.out
  have Kk40 := Lib.hid k24
  clear k24
  have Hhl28 : Hid (LiesQ w23 (Par w V0.heap.size [] P) U3.kids _) := par_give hl28 (Below.size (kept_trans Kk13.out Kk22.out)) (xlt_nil _)
  have Hhl29 : Hid (LiesQ w23 (Par w V0.heap.size [] P) Tm.zero.kids _) := par_give hl29 (Below.size (kept_trans Kk13.out Kk22.out)) (xlt_nil _)
  have Hhl30 : Hid (LiesQ w23 (Par w V0.heap.size [] P) A4.kids _) := par_give hl30 (Below.size (kept_trans Kk13.out Kk22.out)) (xlt_nil _)
  clear hl28 hl29 hl30
  have kvV0 : Sees V0 (w.heap.size) w23 := sees_kept _ (kept_trans Kk13.out (kept_trans Kk22.out Kk40.out))
  go_wp2_with (refine stop_store 34 (.tmp 8) (.tmp 34) rfl ?_)
  intro _
  refine wpList_store_part_n (by rfl) 34 (.tmp 8) (.tmp 34) rfl (w.heap.size) 0 #[.bool false, .int .i64 U3.k, .int .i64 U3.i, .int .i64 U3.j, .int .i64 U3.n, (.slice a31 U3.kids.length c32), .int .i64 Tm.zero.k, .int .i64 Tm.zero.i, .int .i64 Tm.zero.j, .int .i64 Tm.zero.n, (.slice a34 Tm.zero.kids.length c35), .int .i64 A4.k, .int .i64 A4.i, .int .i64 A4.j, .int .i64 A4.n, (.slice a37 A4.kids.length c38), .int .i64 903] (by rfl) (by rfl) 34 (by kernel_rfl) (row_ok rfl) ?_
  intro W41 hW41
  clear kvV0
  subst hW41
  refine ⟨_, #[.bool false, .int .i64 U3.k, .int .i64 U3.i, .int .i64 U3.j, .int .i64 U3.n, (.slice a31 U3.kids.length c32), .int .i64 Tm.zero.k, .int .i64 Tm.zero.i, .int .i64 Tm.zero.j, .int .i64 Tm.zero.n, (.slice a34 Tm.zero.kids.length c35), .int .i64 A4.k, .int .i64 A4.i, .int .i64 A4.j, .int .i64 A4.n, (.slice a37 A4.kids.length c38), .int .i64 903], (blk_at Hx1.out (kept_trans Kk13.out (kept_trans Kk22.out Kk40.out))), rfl, Nat.le_of_ble_eq_true rfl, ?_⟩
  intro W42 hW42
  go_wp2_with fail
  (try simp only [Exit.inBlock, Exit.then])
  refine bodyPost_ret (results_cell_tmp rfl _ _ (w.heap.size) 34 _ _ dj rfl (blk_same (blk_at Hx1.out (kept_trans Kk13.out (kept_trans Kk22.out Kk40.out))) hW42) dj1 (by cases dj <;> first | rfl | exact dj2) (by kernel_rfl)) rfl ?_
  exact ⟨_, _, _, rfl, ⟨par_end (par_row' Hhl28.out hW42 (by omega) (by have := Z0.out; omega)) (by have := Z0.out; omega), par_end (par_row' Hhl29.out hW42 (by omega) (by have := Z0.out; omega)) (by have := Z0.out; omega), par_end (par_row' Hhl30.out hW42 (by omega) (by have := Z0.out; omega)) (by have := Z0.out; omega)⟩, kept_set (kept_trans Kk4.out (kept_trans Kk13.out (kept_trans Kk22.out Kk40.out))) hW42 (by omega)⟩

set_option maxRecDepth 20000 in
set_option maxHeartbeats 4000000 in
theorem of901_any (P : Nat → Prop) (w : World) (U3 A4 : Tm) (hU3 : U3 = Tm.mk 1 901 0 0 []) (hA4 : A4 = Tm.mk 1 902 0 0 []) : Calls Try.prog 12 #[.slice none 0 0, .int .i64 1, .int .i64 901, .slice none 0 0] w (GivesJT P ⟨false, Tm.zero, Tm.zero, Tm.zero, 0⟩ false w) := by
  have HU3 := Lib.hid hU3
  have HA4 := Lib.hid hA4
  have fk3 : (U3.k == 0) = false := by rw [hU3]; rfl
  have fk4 : (A4.k == 0) = false := by rw [hA4]; rfl
  clear hU3 hA4
  obtain ⟨dj, dj1, dj2⟩ := under_of 34 (by kernel_rfl)
  obtain ⟨du, hu1, hu2⟩ := under_term
  go_enter Try.func12, Try.ntmps12
  go_upto_region 1 with fail
  refine at_code (fun V0 hV0 => ?_)
  obtain ⟨k2, x1, z3⟩ := alloc1 hV0
  have Kk4 := Lib.hid k2
  clear k2
  have Hx1 := Lib.hid x1
  have Z0 := Lib.hid z3
  clear z3 x1 hV0
  have kvV0 : Sees V0 (w.heap.size) V0 := sees_kept _ (kept_refl _)
  go_wp2_with fail
  clear kvV0
  have hq7 := kidsK 1 V0
  rw [show Dv.dkidsN 1 = 0 from by decide] at hq7
  refine hq7.mono ?_
  clear hq7
  rintro e w5 ⟨rfl, k6⟩
  have Kk8 := Lib.hid k6
  clear k6
  have kvV0 : Sees V0 (w.heap.size) w5 := sees_kept _ Kk8.out
  go_wp2_with fail
  clear kvV0
  have hq11 := rulepure_any [] w5 _ (liesE_nil _)
  rw [show purC [] = true from rfl] at hq11
  refine hq11.mono ?_
  clear hq11
  rintro e w9 ⟨rfl, k10⟩
  have Kk12 := Lib.hid k10
  clear k10
  have kvV0 : Sees V0 (w.heap.size) w9 := sees_kept _ (kept_trans Kk8.out Kk12.out)
  go_wp2_with fail
  clear kvV0
  go_loopw [28] (fun iv wr => ∃ i : Int, 0 ≤ i ∧ i ≤ 0 ∧ iv = .int .i64 i ∧ Hid (True) ∧ Kept w9 wr) (fun iv _ => 0 - (intOf iv).toNat)
  case atStart => exact ⟨0, by decide, by decide, rfl, trivial, kept_refl _⟩
  case round =>
    obtain ⟨i, hi0, hi1, rfl, hv14, k13⟩ := hrel
    have Kk15 := Lib.hid k13
    clear k13
    have HVhv14 := Lib.hid hv14.out
    clear hv14
    obtain rfl : i = 0 := by omega
    · clear hi0 hi1
      have kvV0 : Sees V0 (w.heap.size) wr := sees_kept _ (kept_trans Kk8.out (kept_trans Kk12.out Kk15.out))
      go_wp2_with fail
      clear kvV0
      refine (conc901_any (Par w V0.heap.size [] P) wr U3 A4 HU3.out HA4.out).mono ?_
      rintro e w16 ⟨s18, s19, s20, rfl, ⟨hl21, hl22, hl23⟩, k17⟩
      obtain ⟨a24, c25, S26, rfl, -⟩ := hl21.out
      obtain ⟨a27, c28, S29, rfl, -⟩ := hl22.out
      obtain ⟨a30, c31, S32, rfl, -⟩ := hl23.out
      have Kk33 := Lib.hid k17
      clear k17
      have Hhl21 : Hid (LiesQ w16 (Par w V0.heap.size [] P) U3.kids _) := par_give hl21 (Below.size (kept_trans Kk8.out (kept_trans Kk12.out Kk15.out))) (xlt_nil _)
      have Hhl22 : Hid (LiesQ w16 (Par w V0.heap.size [] P) Tm.zero.kids _) := par_give hl22 (Below.size (kept_trans Kk8.out (kept_trans Kk12.out Kk15.out))) (xlt_nil _)
      have Hhl23 : Hid (LiesQ w16 (Par w V0.heap.size [] P) A4.kids _) := par_give hl23 (Below.size (kept_trans Kk8.out (kept_trans Kk12.out Kk15.out))) (xlt_nil _)
      clear hl21 hl22 hl23
      have kvV0 : Sees V0 (w.heap.size) w16 := sees_kept _ (kept_trans Kk8.out (kept_trans Kk12.out (kept_trans Kk15.out Kk33.out)))
      go_wp2_with (refine stop_store 34 (.tmp 13) (.tmp 52) rfl ?_)
      intro _
      refine wpList_store_part_n (by rfl) 34 (.tmp 13) (.tmp 52) rfl (w16.heap.size) 0 #[.bool false, .int .i64 U3.k, .int .i64 U3.i, .int .i64 U3.j, .int .i64 U3.n, (.slice a24 U3.kids.length c25), .int .i64 Tm.zero.k, .int .i64 Tm.zero.i, .int .i64 Tm.zero.j, .int .i64 Tm.zero.n, (.slice a27 Tm.zero.kids.length c28), .int .i64 A4.k, .int .i64 A4.i, .int .i64 A4.j, .int .i64 A4.n, (.slice a30 A4.kids.length c31), .int .i64 903] (by rfl) (by rfl) 34 (by kernel_rfl) (row_ok rfl) ?_
      intro W34 hW34
      clear kvV0
      obtain ⟨k37, x36, z38⟩ := alloc1 hW34
      have Kk39 := Lib.hid k37
      clear k37
      have Hx36 := Lib.hid x36
      have Hz38 := Lib.hid z38
      clear x36 z38 hW34
      have HG40 : Hid (V0.heap.size ≤ w16.heap.size) := (Below.size (kept_trans Kk8.out (kept_trans Kk12.out (kept_trans Kk15.out Kk33.out))))
      have XL41 : Hid (XLt (w16.heap.size :: []) W34) := (xlt_more (xlt_nil _) Kk39.out (by have := Hz38.out; omega))
      refine ⟨_, #[.bool false, .int .i64 U3.k, .int .i64 U3.i, .int .i64 U3.j, .int .i64 U3.n, (.slice a24 U3.kids.length c25), .int .i64 Tm.zero.k, .int .i64 Tm.zero.i, .int .i64 Tm.zero.j, .int .i64 Tm.zero.n, (.slice a27 Tm.zero.kids.length c28), .int .i64 A4.k, .int .i64 A4.i, .int .i64 A4.j, .int .i64 A4.n, (.slice a30 A4.kids.length c31), .int .i64 903], Hx36.out, rfl, Nat.le_of_ble_eq_true rfl, ?_⟩
      intro W35 hW35
      have KB42 := Lib.hid (kept_set (kept_trans Kk4.out (kept_trans Kk8.out (kept_trans Kk12.out (kept_trans Kk15.out (kept_trans Kk33.out Kk39.out))))) hW35 (by have := HG40.out; have := Z0.out; omega))
      have KB43 := Lib.hid (kept_set (kept_trans Kk8.out (kept_trans Kk12.out (kept_trans Kk15.out (kept_trans Kk33.out Kk39.out)))) hW35 HG40.out)
      have HL44 : Hid (LiesQ W35 (Par w V0.heap.size (w16.heap.size :: []) P) U3.kids _) := par_set (par_grow Hhl21.out Kk39.out (List.forall_mem_cons.2 ⟨(Or.inr (Nat.le_refl w16.heap.size)), (fun _ h => nomatch h)⟩)) hW35 (List.mem_cons_self ..) (by have := HG40.out; have := Z0.out; omega)
      have HL45 : Hid (LiesQ W35 (Par w V0.heap.size (w16.heap.size :: []) P) Tm.zero.kids _) := par_set (par_grow Hhl22.out Kk39.out (List.forall_mem_cons.2 ⟨(Or.inr (Nat.le_refl w16.heap.size)), (fun _ h => nomatch h)⟩)) hW35 (List.mem_cons_self ..) (by have := HG40.out; have := Z0.out; omega)
      have HL46 : Hid (LiesQ W35 (Par w V0.heap.size (w16.heap.size :: []) P) A4.kids _) := par_set (par_grow Hhl23.out Kk39.out (List.forall_mem_cons.2 ⟨(Or.inr (Nat.le_refl w16.heap.size)), (fun _ h => nomatch h)⟩)) hW35 (List.mem_cons_self ..) (by have := HG40.out; have := Z0.out; omega)
      have XL47 := Lib.hid (xlt_set XL41.out hW35)
      have HX48 := Lib.hid (blk_same Hx36.out hW35)
      clear hW35
      have ld49 := part_cell (r := (w.heap.size)) HX48.out (by have := HG40.out; have := Z0.out; omega) 0 (.bool false) rfl
      have ld50 := part_cell (r := (w.heap.size)) HX48.out (by have := HG40.out; have := Z0.out; omega) 1 (.int .i64 U3.k) rfl
      have ld51 := part_cell (r := (w.heap.size)) HX48.out (by have := HG40.out; have := Z0.out; omega) 6 (.int .i64 Tm.zero.k) rfl
      have ld52 := part_cell (r := (w.heap.size)) HX48.out (by have := HG40.out; have := Z0.out; omega) 11 (.int .i64 A4.k) rfl
      have ld53 := part_cell (r := (w.heap.size)) HX48.out (by have := HG40.out; have := Z0.out; omega) 16 (.int .i64 903) rfl
      have kvV0 : Sees V0 (w.heap.size) W35 := sees_kept _ KB43.out
      have kvW35 : Sees W35 (w.heap.size) W35 := sees_kept _ (kept_refl _)
      go_upto_region 14 with fail
      go_wp2_with (refine stop_store 34 (.tmp 8) (.tmp 83) rfl ?_)
      intro _
      refine wpList_store_part_n (by rfl) 34 (.tmp 8) (.tmp 83) rfl (w.heap.size) 0 #[.bool false, .int .i64 0, .int .i64 0, .int .i64 0, .int .i64 0, .slice none 0 0, .int .i64 0, .int .i64 0, .int .i64 0, .int .i64 0, .slice none 0 0, .int .i64 0, .int .i64 0, .int .i64 0, .int .i64 0, .slice none 0 0, .int .i64 0] (by rfl) (by rfl) 34 (by kernel_rfl) (row_ok rfl) ?_
      intro W54 hW54
      clear kvV0
      clear kvW35
      subst hW54
      refine ⟨_, #[.bool false, .int .i64 0, .int .i64 0, .int .i64 0, .int .i64 0, .slice none 0 0, .int .i64 0, .int .i64 0, .int .i64 0, .int .i64 0, .slice none 0 0, .int .i64 0, .int .i64 0, .int .i64 0, .int .i64 0, .slice none 0 0, .int .i64 0], (blk_at Hx1.out KB43.out), rfl, Nat.le_of_ble_eq_true rfl, ?_⟩
      intro W55 hW55
      go_wp2_with fail
      (try simp only [Exit.inBlock, Exit.then])
      refine bodyPost_ret (results_cell_tmp rfl _ _ (w.heap.size) 34 _ _ dj rfl (blk_same (blk_at Hx1.out KB43.out) hW55) dj1 (by cases dj <;> first | rfl | exact dj2) (by kernel_rfl)) rfl ?_
      exact ⟨_, _, _, rfl, ⟨par_end (par_row' (liesQ_nil W35 (Par w V0.heap.size (w16.heap.size :: []) P)) hW55 (by omega) (by have := Z0.out; omega)) (by have := Z0.out; omega), par_end (par_row' (liesQ_nil W35 (Par w V0.heap.size (w16.heap.size :: []) P)) hW55 (by omega) (by have := Z0.out; omega)) (by have := Z0.out; omega), par_end (par_row' (liesQ_nil W35 (Par w V0.heap.size (w16.heap.size :: []) P)) hW55 (by omega) (by have := Z0.out; omega)) (by have := Z0.out; omega)⟩, kept_set KB42.out hW55 (by omega)⟩

set_option maxRecDepth 20000 in
set_option maxHeartbeats 4000000 in
theorem wakes15_any (w : World) : Calls Try.prog 11 #[] w fun e w' => e = .returned (.bool true) ∧ Kept w w' := by
  obtain ⟨U3, hU3⟩ : ∃ U3, U3 = Tm.mk 1 3 0 0 [] := ⟨_, rfl⟩
  obtain ⟨A4, hA4⟩ : ∃ A4, A4 = Tm.mk 1 4 0 0 [] := ⟨_, rfl⟩
  obtain ⟨U9, hU9⟩ : ∃ U9, U9 = Tm.mk 1 901 0 0 [] := ⟨_, rfl⟩
  obtain ⟨A9, hA9⟩ : ∃ A9, A9 = Tm.mk 1 902 0 0 [] := ⟨_, rfl⟩
  have HU3 := Lib.hid hU3
  have HA4 := Lib.hid hA4
  have HU9 := Lib.hid hU9
  have HA9 := Lib.hid hA9
  clear hU3 hA4 hU9 hA9
  obtain ⟨dj, dj1, dj2⟩ := under_of 34 (by kernel_rfl)
  go_enter Try.func11, Try.ntmps11
  go_upto_region 1 with fail
  refine at_code (fun V0 hV0 => ?_)
  have k1 : Kept w V0 := by rw [← hV0]; exact kept_refl _
  have Z0 : Hid (V0.heap.size = w.heap.size + 0) := by show _ = _; rw [← hV0]; rfl
  clear hV0
  have Kk3 := Lib.hid k1
  clear k1
  have kvV0 : SeesN V0 V0.heap.size V0 := seesN_kept _ (kept_refl _)
  go_wp2_with fail
  clear kvV0
  refine (of3_any (Par w V0.heap.size [] (fun _ => False)) V0 U3 A4 HU3.out HA4.out).mono ?_
  rintro e w4 ⟨s6, s7, s8, rfl, ⟨hl9, hl10, hl11⟩, k5⟩
  obtain ⟨a12, c13, S14, rfl, -⟩ := hl9.out
  obtain ⟨a15, c16, S17, rfl, -⟩ := hl10.out
  obtain ⟨a18, c19, S20, rfl, -⟩ := hl11.out
  have Kk21 := Lib.hid k5
  clear k5
  have Hhl9 : Hid (LiesQ w4 (Par w V0.heap.size [] (fun _ => False)) U3.kids _) := par_give hl9 (Nat.le_refl _) (xlt_nil _)
  have Hhl10 : Hid (LiesQ w4 (Par w V0.heap.size [] (fun _ => False)) Tm.zero.kids _) := par_give hl10 (Nat.le_refl _) (xlt_nil _)
  have Hhl11 : Hid (LiesQ w4 (Par w V0.heap.size [] (fun _ => False)) A4.kids _) := par_give hl11 (Nat.le_refl _) (xlt_nil _)
  clear hl9 hl10 hl11
  have kf22 : (U3.k == 1) = true := by rw [HU3.out]; rfl
  have kf23 : (U3.i == 3) = true := by rw [HU3.out]; rfl
  have kf24 : (A4.i == 4) = true := by rw [HA4.out]; rfl
  have kvV0 : SeesN V0 V0.heap.size w4 := seesN_kept _ Kk21.out
  go_wp2_with (refine stop_store 34 (.tmp 1) (.tmp 9) rfl ?_)
  intro _
  refine wpList_store_part_n (by rfl) 34 (.tmp 1) (.tmp 9) rfl (w4.heap.size) 0 #[.bool false, .int .i64 U3.k, .int .i64 U3.i, .int .i64 U3.j, .int .i64 U3.n, (.slice a12 U3.kids.length c13), .int .i64 Tm.zero.k, .int .i64 Tm.zero.i, .int .i64 Tm.zero.j, .int .i64 Tm.zero.n, (.slice a15 Tm.zero.kids.length c16), .int .i64 A4.k, .int .i64 A4.i, .int .i64 A4.j, .int .i64 A4.n, (.slice a18 A4.kids.length c19), .int .i64 5] (by rfl) (by rfl) 34 (by kernel_rfl) (row_ok rfl) ?_
  intro W25 hW25
  clear kvV0
  obtain ⟨k28, x27, z29⟩ := alloc1 hW25
  have Kk30 := Lib.hid k28
  clear k28
  have Hx27 := Lib.hid x27
  have Hz29 := Lib.hid z29
  clear x27 z29 hW25
  have HG31 : Hid (V0.heap.size ≤ w4.heap.size) := (Below.size Kk21.out)
  have XL32 : Hid (XLt (w4.heap.size :: []) W25) := (xlt_more (xlt_nil _) Kk30.out (by have := Hz29.out; omega))
  refine ⟨_, #[.bool false, .int .i64 U3.k, .int .i64 U3.i, .int .i64 U3.j, .int .i64 U3.n, (.slice a12 U3.kids.length c13), .int .i64 Tm.zero.k, .int .i64 Tm.zero.i, .int .i64 Tm.zero.j, .int .i64 Tm.zero.n, (.slice a15 Tm.zero.kids.length c16), .int .i64 A4.k, .int .i64 A4.i, .int .i64 A4.j, .int .i64 A4.n, (.slice a18 A4.kids.length c19), .int .i64 5], Hx27.out, rfl, Nat.le_of_ble_eq_true rfl, ?_⟩
  intro W26 hW26
  have KB33 := Lib.hid (kept_set (kept_trans Kk3.out (kept_trans Kk21.out Kk30.out)) hW26 (by have := HG31.out; have := Z0.out; omega))
  have KB34 := Lib.hid (kept_set (kept_trans Kk21.out Kk30.out) hW26 HG31.out)
  have HL35 : Hid (LiesQ W26 (Par w V0.heap.size (w4.heap.size :: []) (fun _ => False)) U3.kids _) := par_set (par_grow Hhl9.out Kk30.out (List.forall_mem_cons.2 ⟨(Or.inr (Nat.le_refl w4.heap.size)), (fun _ h => nomatch h)⟩)) hW26 (List.mem_cons_self ..) (by have := HG31.out; have := Z0.out; omega)
  have HL36 : Hid (LiesQ W26 (Par w V0.heap.size (w4.heap.size :: []) (fun _ => False)) Tm.zero.kids _) := par_set (par_grow Hhl10.out Kk30.out (List.forall_mem_cons.2 ⟨(Or.inr (Nat.le_refl w4.heap.size)), (fun _ h => nomatch h)⟩)) hW26 (List.mem_cons_self ..) (by have := HG31.out; have := Z0.out; omega)
  have HL37 : Hid (LiesQ W26 (Par w V0.heap.size (w4.heap.size :: []) (fun _ => False)) A4.kids _) := par_set (par_grow Hhl11.out Kk30.out (List.forall_mem_cons.2 ⟨(Or.inr (Nat.le_refl w4.heap.size)), (fun _ h => nomatch h)⟩)) hW26 (List.mem_cons_self ..) (by have := HG31.out; have := Z0.out; omega)
  have XL38 := Lib.hid (xlt_set XL32.out hW26)
  have HX39 := Lib.hid (blk_same Hx27.out hW26)
  clear hW26
  have ld40 := partN_cell (r := V0.heap.size) HX39.out trivial 1 (.int .i64 U3.k) rfl
  have ld41 := partN_cell (r := V0.heap.size) HX39.out trivial 2 (.int .i64 U3.i) rfl
  have ld42 := partN_cell (r := V0.heap.size) HX39.out trivial 12 (.int .i64 A4.i) rfl
  have ld43 := partN_cell (r := V0.heap.size) HX39.out trivial 16 (.int .i64 5) rfl
  have kvV0 : SeesN V0 V0.heap.size W26 := seesN_kept _ KB34.out
  have kvW26 : SeesN W26 V0.heap.size W26 := seesN_kept _ (kept_refl _)
  go_wp2_with (refine stop_load 34 (.tmp 1) rfl ?_)
  intro _
  refine wpList_load_part (w4.heap.size) (0) 34 (.tmp 1) #[.bool false, .int .i64 U3.k, .int .i64 U3.i, .int .i64 U3.j, .int .i64 U3.n, (.slice a12 U3.kids.length c13), .int .i64 Tm.zero.k, .int .i64 Tm.zero.i, .int .i64 Tm.zero.j, .int .i64 Tm.zero.n, (.slice a15 Tm.zero.kids.length c16), .int .i64 A4.k, .int .i64 A4.i, .int .i64 A4.j, .int .i64 A4.n, (.slice a18 A4.kids.length c19), .int .i64 5] dj HX39.out (by rfl) rfl (by rfl) (by rfl) dj1 (by cases dj <;> first | rfl | exact dj2) (by kernel_rfl) ?_
  go_wp2_with fail
  refine at_world (fun W45 hW45 => ?_)
  clear kvV0
  clear kvW26
  obtain ⟨k47, x46, z48⟩ := alloc1 hW45
  have Kk49 := Lib.hid k47
  clear k47
  have Hx46 := Lib.hid x46
  have Hz48 := Lib.hid z48
  clear x46 z48 hW45
  have hq52 := premise0_any 3 1 5 [] U3 Tm.zero A4 (Par w V0.heap.size (w4.heap.size :: []) (fun _ => False)) W45 (.slice none 0 0) W26.heap.size 0 1 1 _ _ _ ((.slice a12 U3.kids.length c13)) ((.slice a15 Tm.zero.kids.length c16)) ((.slice a18 A4.kids.length c19)) (liesE_nil _) (by unfold I64; decide) (by unfold I64; decide) (sort_fineW HU3.out (by unfold I64; decide)) (HL35.out.later Kk49.out) zero_fine (HL36.out.later Kk49.out) (sort_fineW HA4.out (by unfold I64; decide)) (HL37.out.later Kk49.out) (show I64 5 from by unfold I64; decide) Hx46.out rfl (by decide) (by decide) (fun _ h => nomatch h) [] (by rw [HU3.out]; decide) (by rw [HA4.out]; decide)
  rw [show premB [] 3 1 ((⟨false, U3, Tm.zero, A4, 5⟩ : Jd) :: []) = ([(⟨U3, 4⟩ : En)], true) from by rw [HU3.out, HA4.out]; exact prem_wk] at hq52
  refine hq52.mono ?_
  clear hq52
  rintro e w50 ⟨s53, rfl, hl54, k51⟩
  obtain ⟨b55, o56, c57, C58, T59, fr60, sx61, rfl, hb62, hs63⟩ := liesE_one hl54
  have Hhb62 := Lib.hid hb62
  have Hhs63 := Lib.hid hs63
  clear hb62 hs63 hl54
  have Kk64 := Lib.hid k51
  clear k51
  have ld65 := partN_cell (r := V0.heap.size) Hhb62.out trivial (o56 + 5) (.int .i64 4) (row_cellW Hhs63.out 5 (by decide))
  have kvV0 : SeesN V0 V0.heap.size w50 := seesN_kept _ (kept_trans KB34.out (kept_trans Kk49.out Kk64.out))
  have kvW26 : SeesN W26 V0.heap.size w50 := seesN_kept _ (kept_trans Kk49.out Kk64.out)
  have kvw50 : SeesN w50 V0.heap.size w50 := seesN_kept _ (kept_refl _)
  go_wp2_with fail
  clear kvV0
  clear kvW26
  clear kvw50
  refine (of901_any (Par w V0.heap.size (w4.heap.size :: []) (fun _ => False)) w50 U9 A9 HU9.out HA9.out).mono ?_
  rintro e w66 ⟨s68, s69, s70, rfl, ⟨hl71, hl72, hl73⟩, k67⟩
  obtain ⟨a74, c75, S76, rfl, -⟩ := hl71.out
  obtain ⟨a77, c78, S79, rfl, -⟩ := hl72.out
  obtain ⟨a80, c81, S82, rfl, -⟩ := hl73.out
  have Kk83 := Lib.hid k67
  clear k67
  have Hhl71 : Hid (LiesQ w66 (Par w V0.heap.size (w4.heap.size :: []) (fun _ => False)) Tm.zero.kids _) := par_give hl71 (Below.size (kept_trans KB34.out (kept_trans Kk49.out Kk64.out))) (xlt_later XL38.out (kept_trans Kk49.out Kk64.out))
  have Hhl72 : Hid (LiesQ w66 (Par w V0.heap.size (w4.heap.size :: []) (fun _ => False)) Tm.zero.kids _) := par_give hl72 (Below.size (kept_trans KB34.out (kept_trans Kk49.out Kk64.out))) (xlt_later XL38.out (kept_trans Kk49.out Kk64.out))
  have Hhl73 : Hid (LiesQ w66 (Par w V0.heap.size (w4.heap.size :: []) (fun _ => False)) Tm.zero.kids _) := par_give hl73 (Below.size (kept_trans KB34.out (kept_trans Kk49.out Kk64.out))) (xlt_later XL38.out (kept_trans Kk49.out Kk64.out))
  clear hl71 hl72 hl73
  have kvV0 : SeesN V0 V0.heap.size w66 := seesN_kept _ (kept_trans KB34.out (kept_trans Kk49.out (kept_trans Kk64.out Kk83.out)))
  have kvW26 : SeesN W26 V0.heap.size w66 := seesN_kept _ (kept_trans Kk49.out (kept_trans Kk64.out Kk83.out))
  have kvw50 : SeesN w50 V0.heap.size w66 := seesN_kept _ Kk83.out
  go_wp2_with (refine stop_store 34 (.tmp 5) (.tmp 19) rfl ?_)
  intro _
  refine wpList_store_part_n (by rfl) 34 (.tmp 5) (.tmp 19) rfl (w66.heap.size) 0 #[.bool false, .int .i64 Tm.zero.k, .int .i64 Tm.zero.i, .int .i64 Tm.zero.j, .int .i64 Tm.zero.n, (.slice a74 Tm.zero.kids.length c75), .int .i64 Tm.zero.k, .int .i64 Tm.zero.i, .int .i64 Tm.zero.j, .int .i64 Tm.zero.n, (.slice a77 Tm.zero.kids.length c78), .int .i64 Tm.zero.k, .int .i64 Tm.zero.i, .int .i64 Tm.zero.j, .int .i64 Tm.zero.n, (.slice a80 Tm.zero.kids.length c81), .int .i64 0] (by rfl) (by rfl) 34 (by kernel_rfl) (row_ok rfl) ?_
  intro W84 hW84
  clear kvV0
  clear kvW26
  clear kvw50
  obtain ⟨k87, x86, z88⟩ := alloc1 hW84
  have Kk89 := Lib.hid k87
  clear k87
  have Hx86 := Lib.hid x86
  have Hz88 := Lib.hid z88
  clear x86 z88 hW84
  have HG90 : Hid (V0.heap.size ≤ w66.heap.size) := (Below.size (kept_trans KB34.out (kept_trans Kk49.out (kept_trans Kk64.out Kk83.out))))
  have AP91 : Hid (w4.heap.size < w66.heap.size) := block_lt (blk_at HX39.out (kept_trans Kk49.out (kept_trans Kk64.out Kk83.out)))
  have AP92 : Hid (b55 < w66.heap.size) := block_lt (blk_at Hhb62.out Kk83.out)
  have XL93 : Hid (XLt (w66.heap.size :: (w4.heap.size :: [])) W84) := (xlt_more (xlt_later XL38.out (kept_trans Kk49.out (kept_trans Kk64.out Kk83.out))) Kk89.out (by have := Hz88.out; omega))
  refine ⟨_, #[.bool false, .int .i64 Tm.zero.k, .int .i64 Tm.zero.i, .int .i64 Tm.zero.j, .int .i64 Tm.zero.n, (.slice a74 Tm.zero.kids.length c75), .int .i64 Tm.zero.k, .int .i64 Tm.zero.i, .int .i64 Tm.zero.j, .int .i64 Tm.zero.n, (.slice a77 Tm.zero.kids.length c78), .int .i64 Tm.zero.k, .int .i64 Tm.zero.i, .int .i64 Tm.zero.j, .int .i64 Tm.zero.n, (.slice a80 Tm.zero.kids.length c81), .int .i64 0], Hx86.out, rfl, Nat.le_of_ble_eq_true rfl, ?_⟩
  intro W85 hW85
  have KB94 := Lib.hid (kept_set (kept_trans KB33.out (kept_trans Kk49.out (kept_trans Kk64.out (kept_trans Kk83.out Kk89.out)))) hW85 (by have := HG90.out; have := Z0.out; omega))
  have KB95 := Lib.hid (kept_set (kept_trans KB34.out (kept_trans Kk49.out (kept_trans Kk64.out (kept_trans Kk83.out Kk89.out)))) hW85 HG90.out)
  have HL96 : Hid (LiesQ W85 (Par w V0.heap.size (w66.heap.size :: (w4.heap.size :: [])) (fun _ => False)) U3.kids _) := par_set (par_grow HL35.out (kept_trans Kk49.out (kept_trans Kk64.out (kept_trans Kk83.out Kk89.out))) (List.forall_mem_cons.2 ⟨(Or.inr (Nat.le_trans (Below.size (kept_trans Kk49.out (kept_trans Kk64.out Kk83.out))) (Nat.le_refl w66.heap.size))), (List.forall_mem_cons.2 ⟨(Or.inl (List.mem_cons_self ..)), (fun _ h => nomatch h)⟩)⟩)) hW85 (List.mem_cons_self ..) (by have := HG90.out; have := Z0.out; omega)
  have HL97 : Hid (LiesQ W85 (Par w V0.heap.size (w66.heap.size :: (w4.heap.size :: [])) (fun _ => False)) Tm.zero.kids _) := par_set (par_grow HL36.out (kept_trans Kk49.out (kept_trans Kk64.out (kept_trans Kk83.out Kk89.out))) (List.forall_mem_cons.2 ⟨(Or.inr (Nat.le_trans (Below.size (kept_trans Kk49.out (kept_trans Kk64.out Kk83.out))) (Nat.le_refl w66.heap.size))), (List.forall_mem_cons.2 ⟨(Or.inl (List.mem_cons_self ..)), (fun _ h => nomatch h)⟩)⟩)) hW85 (List.mem_cons_self ..) (by have := HG90.out; have := Z0.out; omega)
  have HL98 : Hid (LiesQ W85 (Par w V0.heap.size (w66.heap.size :: (w4.heap.size :: [])) (fun _ => False)) A4.kids _) := par_set (par_grow HL37.out (kept_trans Kk49.out (kept_trans Kk64.out (kept_trans Kk83.out Kk89.out))) (List.forall_mem_cons.2 ⟨(Or.inr (Nat.le_trans (Below.size (kept_trans Kk49.out (kept_trans Kk64.out Kk83.out))) (Nat.le_refl w66.heap.size))), (List.forall_mem_cons.2 ⟨(Or.inl (List.mem_cons_self ..)), (fun _ h => nomatch h)⟩)⟩)) hW85 (List.mem_cons_self ..) (by have := HG90.out; have := Z0.out; omega)
  have HL99 : Hid (LiesQ W85 (Par w V0.heap.size (w66.heap.size :: (w4.heap.size :: [])) (fun _ => False)) Tm.zero.kids _) := par_set (par_grow Hhl71.out Kk89.out (List.forall_mem_cons.2 ⟨(Or.inr (Nat.le_refl w66.heap.size)), (List.forall_mem_cons.2 ⟨(Or.inl (List.mem_cons_self ..)), (fun _ h => nomatch h)⟩)⟩)) hW85 (List.mem_cons_self ..) (by have := HG90.out; have := Z0.out; omega)
  have HL100 : Hid (LiesQ W85 (Par w V0.heap.size (w66.heap.size :: (w4.heap.size :: [])) (fun _ => False)) Tm.zero.kids _) := par_set (par_grow Hhl72.out Kk89.out (List.forall_mem_cons.2 ⟨(Or.inr (Nat.le_refl w66.heap.size)), (List.forall_mem_cons.2 ⟨(Or.inl (List.mem_cons_self ..)), (fun _ h => nomatch h)⟩)⟩)) hW85 (List.mem_cons_self ..) (by have := HG90.out; have := Z0.out; omega)
  have HL101 : Hid (LiesQ W85 (Par w V0.heap.size (w66.heap.size :: (w4.heap.size :: [])) (fun _ => False)) Tm.zero.kids _) := par_set (par_grow Hhl73.out Kk89.out (List.forall_mem_cons.2 ⟨(Or.inr (Nat.le_refl w66.heap.size)), (List.forall_mem_cons.2 ⟨(Or.inl (List.mem_cons_self ..)), (fun _ h => nomatch h)⟩)⟩)) hW85 (List.mem_cons_self ..) (by have := HG90.out; have := Z0.out; omega)
  have XL102 := Lib.hid (xlt_set XL93.out hW85)
  have HX103 := Lib.hid (blk_other (blk_at HX39.out (kept_trans Kk49.out (kept_trans Kk64.out (kept_trans Kk83.out Kk89.out)))) hW85 (by have := AP91.out; omega))
  have HX104 := Lib.hid (blk_other (blk_at Hhb62.out (kept_trans Kk83.out Kk89.out)) hW85 (by have := AP92.out; omega))
  have HX105 := Lib.hid (blk_same Hx86.out hW85)
  (try clear ld40)
  (try clear ld41)
  (try clear ld42)
  (try clear ld43)
  (try clear ld65)
  clear hW85
  have ld106 := partN_cell (r := V0.heap.size) HX103.out trivial 1 (.int .i64 U3.k) rfl
  have ld107 := partN_cell (r := V0.heap.size) HX103.out trivial 2 (.int .i64 U3.i) rfl
  have ld108 := partN_cell (r := V0.heap.size) HX103.out trivial 12 (.int .i64 A4.i) rfl
  have ld109 := partN_cell (r := V0.heap.size) HX103.out trivial 16 (.int .i64 5) rfl
  have ld110 := partN_cell (r := V0.heap.size) HX104.out trivial (o56 + 5) (.int .i64 4) (row_cellW Hhs63.out 5 (by decide))
  have kvV0 : SeesN V0 V0.heap.size W85 := seesN_kept _ KB95.out
  have kvW85 : SeesN W85 V0.heap.size W85 := seesN_kept _ (kept_refl _)
  go_wp2
  go_ret
  exact ⟨rfl, KB94.out⟩

end Go.Proofs.Ytjlppnmckobcfaa

namespace Go.Proofs.Ytjlppnmckobcfaa
open Go.RowKit

/-- A row of entries that the call appends to; the types lie anywhere else. -/
structure MadeS (B : Nat) (w : World) (v : Value) (ps : List (En × Value)) : Prop where
  own : w.ownsRow B 52 6 v ps.length (cells6 ps)
  fine : ∀ p ∈ ps, p.1.fine
  kids : ∀ p ∈ ps, LiesQ w (fun b => v.ownBlock ≠ some b) p.1.a.kids p.2
end Go.Proofs.Ytjlppnmckobcfaa

namespace Go.Proofs.Ytjlppnmckobcfaa
open Go.RowKit

theorem kind_not {t : Tm} (h : t.pureB = true) : (t.k == 0) = false := by
  have h1 := pure_marked h
  rw [Tm.markedB_eq, Bool.and_eq_true, Bool.and_eq_true] at h1
  have := of_decide_eq_true h1.1.1
  exact beq_eq_false_iff_ne.2 (by omega)
theorem rightJ_u {j : Jd} {n : Int} (h : rightJ j n = true) : j.u.pureB = true := by
  unfold rightJ jfitB at h
  simp only [Bool.and_eq_true] at h
  exact h.2.1.1.1
theorem rightJ_v {j : Jd} {n : Int} (h : rightJ j n = true) (he : j.eq = true := by rfl) : j.v.pureB = true := by
  unfold rightJ jfitB at h
  rw [if_pos he] at h
  simp only [Bool.and_eq_true] at h
  exact h.2.2.1
theorem rightJ_iT {j : Jd} {n : Int} (h : rightJ j n = true) : j.i ≤ 1000 := by
  unfold rightJ at h
  simp only [Bool.and_eq_true, decide_eq_true_eq] at h
  exact h.1.2
end Go.Proofs.Ytjlppnmckobcfaa
