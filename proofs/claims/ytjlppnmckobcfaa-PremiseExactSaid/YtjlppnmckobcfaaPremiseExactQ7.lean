/-
  PremiseExact holds: for every input the call returns true, and the arguments read as before. No condition.
-/
import Derived.Test.YtjlppnmckobcfaaRows
import Derived.WalkKit
import Derived.Lib.Hide
import Derived.KernelRfl
import Derived.Deep.RegionWith
import Derived.Deep.RegionHeld3
import Derived.Deep.AppendLies
import Derived.Laws.Rows
import Derived.Laws.IdiomCopy
import Derived.Deep.Slices
import Derived.Deep.QuietTactic
import Derived.BigQuiet
import Derived.Lib.QuietBelow
import Derived.StillTailTactics
import Derived.IntWalk
import Derived.OwnWalk
import Derived.OrdersHeld
import Derived.Deep.DeepCutAuto
import Derived.Deep.RegionLaw
import Derived.Deep.LoopGhost
import Derived.Deep.MidRow
import Derived.Laws.Tables
import Derived.Laws.CopyOwn
import Derived.Laws.CopyRow
import Derived.Deep.RegionHeld
import Derived.ProofKit
import Derived.OpenShut
import Derived.Carry
import Derived.ChangeSlices
import Derived.JoinedOf
import Derived.Test.YtjlppnmckobcfaaPremiseExactQ6
namespace Go.Proofs.Ytjlppnmckobcfaa
open Go.RowKit
set_option maxRecDepth 20000 in
set_option maxHeartbeats 4000000 in
theorem refright1_any (n : Int) (i : Int) (u : Tm) (v : Tm) (x : Tm) (P : Nat → Prop) (w : World) (su : Value) (sv : Value) (sx : Value) (hrn : I64 n) (hfu : u.fine) (hlu : LiesQ w P u.kids su) (hfv : v.fine) (hlv : LiesQ w P v.kids sv) (hfx : x.fine) (hlx : LiesQ w P x.kids sx) (hri : I64 i) (hzu : u.size ≤ 1000000000000) (hzv : v.size ≤ 1000000000000) (hzx : x.size ≤ 1000000000000) : Calls Try.prog 32 #[.int .i64 n, .agg #[.bool true, .int .i64 u.k, .int .i64 u.i, .int .i64 u.j, .int .i64 u.n, su, .int .i64 v.k, .int .i64 v.i, .int .i64 v.j, .int .i64 v.n, sv, .int .i64 x.k, .int .i64 x.i, .int .i64 x.j, .int .i64 x.n, sx, .int .i64 i]] w fun e w' => e = .returned (.bool (rightJ ⟨true, u, v, x, i⟩ n)) ∧ Kept w w' := by
  have Rn := Lib.hid hrn
  clear hrn
  have Gu := Lib.hid hfu
  clear hfu
  obtain ⟨au, cu, Su, rfl, -⟩ := hlu.out
  have Gv := Lib.hid hfv
  clear hfv
  obtain ⟨av, cv, Sv, rfl, -⟩ := hlv.out
  have Gx := Lib.hid hfx
  clear hfx
  obtain ⟨ax, cx, Sx, rfl, -⟩ := hlx.out
  have Ri := Lib.hid hri
  clear hri
  have HZU := Lib.hid hzu
  have HZV := Lib.hid hzv
  have HZX := Lib.hid hzx
  clear hzu hzv hzx
  obtain ⟨dj, dj1, dj2⟩ := under_of 34 (by kernel_rfl)
  obtain ⟨du, hu1, hu2⟩ := under_term
  go_enter Try.func32, Try.ntmps32
  go_upto_region 1 with fail
  refine at_code (fun V0 hV0 => ?_)
  obtain ⟨k2, x1, z3⟩ := alloc1 hV0
  have Kk4 := Lib.hid k2
  clear k2
  have Hx1 := Lib.hid x1
  have Z0 := Lib.hid z3
  clear z3 x1 hV0
  have HLu : Hid (LiesQ V0 (Par w V0.heap.size [] P) u.kids _) := (par_in _ _ hlu).later Kk4.out
  clear hlu
  have HLv : Hid (LiesQ V0 (Par w V0.heap.size [] P) v.kids _) := (par_in _ _ hlv).later Kk4.out
  clear hlv
  have HLx : Hid (LiesQ V0 (Par w V0.heap.size [] P) x.kids _) := (par_in _ _ hlx).later Kk4.out
  clear hlx
  have ld5 := partN_cell (r := V0.heap.size) Hx1.out trivial 0 (.bool true) rfl
  have ld6 := partN_cell (r := V0.heap.size) Hx1.out trivial 16 (.int .i64 i) rfl
  have kvV0 : SeesN V0 V0.heap.size V0 := seesN_kept _ (kept_refl _)
  go_wp2_with fail
  clear kvV0
  refine (level11K i _).mono ?_
  obtain ⟨rb10, hb9⟩ : ∃ qb, (lvB i) = qb := ⟨_, rfl⟩
  rw [hb9]
  have Hhb9 := Lib.hid hb9
  clear hb9
  rintro e w7 ⟨rfl, k8⟩
  have Kk11 := Lib.hid k8
  clear k8
  cases rb10 with
  | false =>
    have kvV0 : SeesN V0 V0.heap.size w7 := seesN_kept _ Kk11.out
    go_wp2
    go_ret
    exact ⟨ret_bool (Eq.symm (show rightJ ⟨true, u, v, x, i⟩ n = false from by unfold rightJ jfitB; (try simp only []); rw [show (decide (0 ≤ i) && decide (i ≤ 1000)) = false from Hhb9.out]; (try first | rfl | simp))), (kept_trans Kk4.out Kk11.out)⟩
  | true =>
    have kvV0 : SeesN V0 V0.heap.size w7 := seesN_kept _ Kk11.out
    go_wp2_with (refine stop_load 32 (.tmp 10) rfl ?_)
    intro _
    refine wpList_load_part (w.heap.size) (1) 32 (.tmp 10) #[.int .i64 u.k, .int .i64 u.i, .int .i64 u.j, .int .i64 u.n, (.slice au u.kids.length cu)] du (blk_at Hx1.out Kk11.out) (by rfl) rfl (by rfl) (by rfl) hu1 (by cases du <;> first | rfl | exact hu2) size_term ?_
    go_wp2_with fail
    clear kvV0
    refine (refpure_any u _ ((.slice au u.kids.length cu)) (HLu.out.later Kk11.out).lies HZU.out).mono ?_
    obtain ⟨rb15, hb14⟩ : ∃ qb, (u.pureB) = qb := ⟨_, rfl⟩
    rw [hb14]
    have Hhb14 := Lib.hid hb14
    clear hb14
    rintro e w12 ⟨rfl, k13⟩
    have Kk16 := Lib.hid k13
    clear k13
    cases rb15 with
    | false =>
      have kvV0 : SeesN V0 V0.heap.size w12 := seesN_kept _ (kept_trans Kk11.out Kk16.out)
      go_wp2
      go_ret
      exact ⟨ret_bool (Eq.symm (show rightJ ⟨true, u, v, x, i⟩ n = false from by unfold rightJ jfitB; (try simp only []); rw [show (decide (0 ≤ i) && decide (i ≤ 1000)) = true from Hhb9.out, Hhb14.out]; (try first | rfl | simp))), (kept_trans Kk4.out (kept_trans Kk11.out Kk16.out))⟩
    | true =>
      have kvV0 : SeesN V0 V0.heap.size w12 := seesN_kept _ (kept_trans Kk11.out Kk16.out)
      go_wp2_with (refine stop_load 32 (.tmp 16) rfl ?_)
      intro _
      refine wpList_load_part (w.heap.size) (11) 32 (.tmp 16) #[.int .i64 x.k, .int .i64 x.i, .int .i64 x.j, .int .i64 x.n, (.slice ax x.kids.length cx)] du (blk_at Hx1.out (kept_trans Kk11.out Kk16.out)) (by rfl) rfl (by rfl) (by rfl) hu1 (by cases du <;> first | rfl | exact hu2) size_term ?_
      go_wp2_with fail
      clear kvV0
      refine (refpure_any x _ ((.slice ax x.kids.length cx)) (HLx.out.later (kept_trans Kk11.out Kk16.out)).lies HZX.out).mono ?_
      obtain ⟨rb20, hb19⟩ : ∃ qb, (x.pureB) = qb := ⟨_, rfl⟩
      rw [hb19]
      have Hhb19 := Lib.hid hb19
      clear hb19
      rintro e w17 ⟨rfl, k18⟩
      have Kk21 := Lib.hid k18
      clear k18
      cases rb20 with
      | false =>
        have kvV0 : SeesN V0 V0.heap.size w17 := seesN_kept _ (kept_trans Kk11.out (kept_trans Kk16.out Kk21.out))
        go_wp2
        go_ret
        exact ⟨ret_bool (Eq.symm (show rightJ ⟨true, u, v, x, i⟩ n = false from by unfold rightJ jfitB; (try simp only []); rw [show (decide (0 ≤ i) && decide (i ≤ 1000)) = true from Hhb9.out, Hhb14.out, Hhb19.out]; (try first | rfl | simp))), (kept_trans Kk4.out (kept_trans Kk11.out (kept_trans Kk16.out Kk21.out)))⟩
      | true =>
        have kvV0 : SeesN V0 V0.heap.size w17 := seesN_kept _ (kept_trans Kk11.out (kept_trans Kk16.out Kk21.out))
        go_wp2_with (refine stop_load 32 (.tmp 22) rfl ?_)
        intro _
        refine wpList_load_part (w.heap.size) (1) 32 (.tmp 22) #[.int .i64 u.k, .int .i64 u.i, .int .i64 u.j, .int .i64 u.n, (.slice au u.kids.length cu)] du (blk_at Hx1.out (kept_trans Kk11.out (kept_trans Kk16.out Kk21.out))) (by rfl) rfl (by rfl) (by rfl) hu1 (by cases du <;> first | rfl | exact hu2) size_term ?_
        go_wp2_with fail
        clear kvV0
        refine (refFree_any u _ ((.slice au u.kids.length cu)) (HLu.out.later (kept_trans Kk11.out (kept_trans Kk16.out Kk21.out))).lies).mono ?_
        rintro e w22 ⟨rfl, k23⟩
        have Kk24 := Lib.hid k23
        clear k23
        have kvV0 : SeesN V0 V0.heap.size w22 := seesN_kept _ (kept_trans Kk11.out (kept_trans Kk16.out (kept_trans Kk21.out Kk24.out)))
        by_cases c25 : n < u.freeB
        · have ec25 : decide (n < u.freeB) = true := decide_eq_true c25
          have Ec25 := Lib.hid ec25
          have Hc25 := Lib.hid c25
          clear c25
          go_wp2
          go_ret
          exact ⟨ret_bool (Eq.symm (show rightJ ⟨true, u, v, x, i⟩ n = false from by unfold rightJ jfitB; (try simp only []); rw [show (decide (0 ≤ i) && decide (i ≤ 1000)) = true from Hhb9.out, Hhb14.out, Hhb19.out, show decide (u.freeB ≤ n) = false from decide_eq_false (by have := of_decide_eq_true Ec25.out; omega)]; (try first | rfl | simp))), (kept_trans Kk4.out (kept_trans Kk11.out (kept_trans Kk16.out (kept_trans Kk21.out Kk24.out))))⟩
        · have ec25 : decide (n < u.freeB) = false := decide_eq_false c25
          have Ec25 := Lib.hid ec25
          have Hc25 := Lib.hid c25
          clear c25
          go_wp2_with (refine stop_load 32 (.tmp 29) rfl ?_)
          intro _
          refine wpList_load_part (w.heap.size) (11) 32 (.tmp 29) #[.int .i64 x.k, .int .i64 x.i, .int .i64 x.j, .int .i64 x.n, (.slice ax x.kids.length cx)] du (blk_at Hx1.out (kept_trans Kk11.out (kept_trans Kk16.out (kept_trans Kk21.out Kk24.out)))) (by rfl) rfl (by rfl) (by rfl) hu1 (by cases du <;> first | rfl | exact hu2) size_term ?_
          go_wp2_with fail
          clear kvV0
          refine (refFree_any x _ ((.slice ax x.kids.length cx)) (HLx.out.later (kept_trans Kk11.out (kept_trans Kk16.out (kept_trans Kk21.out Kk24.out)))).lies).mono ?_
          rintro e w26 ⟨rfl, k27⟩
          have Kk28 := Lib.hid k27
          clear k27
          have kvV0 : SeesN V0 V0.heap.size w26 := seesN_kept _ (kept_trans Kk11.out (kept_trans Kk16.out (kept_trans Kk21.out (kept_trans Kk24.out Kk28.out))))
          by_cases c29 : n < x.freeB
          · have ec29 : decide (n < x.freeB) = true := decide_eq_true c29
            have Ec29 := Lib.hid ec29
            have Hc29 := Lib.hid c29
            clear c29
            go_wp2
            go_ret
            exact ⟨ret_bool (Eq.symm (show rightJ ⟨true, u, v, x, i⟩ n = false from by unfold rightJ jfitB; (try simp only []); rw [show (decide (0 ≤ i) && decide (i ≤ 1000)) = true from Hhb9.out, Hhb14.out, Hhb19.out, show decide (u.freeB ≤ n) = true from decide_eq_true (by have := of_decide_eq_false Ec25.out; omega), show decide (x.freeB ≤ n) = false from decide_eq_false (by have := of_decide_eq_true Ec29.out; omega)]; (try first | rfl | simp))), (kept_trans Kk4.out (kept_trans Kk11.out (kept_trans Kk16.out (kept_trans Kk21.out (kept_trans Kk24.out Kk28.out)))))⟩
          · have ec29 : decide (n < x.freeB) = false := decide_eq_false c29
            have Ec29 := Lib.hid ec29
            have Hc29 := Lib.hid c29
            clear c29
            go_wp2_with (refine stop_load 32 (.tmp 41) rfl ?_)
            intro _
            refine wpList_load_part (w.heap.size) (6) 32 (.tmp 41) #[.int .i64 v.k, .int .i64 v.i, .int .i64 v.j, .int .i64 v.n, (.slice av v.kids.length cv)] du (blk_at Hx1.out (kept_trans Kk11.out (kept_trans Kk16.out (kept_trans Kk21.out (kept_trans Kk24.out Kk28.out))))) (by rfl) rfl (by rfl) (by rfl) hu1 (by cases du <;> first | rfl | exact hu2) size_term ?_
            go_wp2_with fail
            clear kvV0
            refine (refpure_any v _ ((.slice av v.kids.length cv)) (HLv.out.later (kept_trans Kk11.out (kept_trans Kk16.out (kept_trans Kk21.out (kept_trans Kk24.out Kk28.out))))).lies HZV.out).mono ?_
            obtain ⟨rb33, hb32⟩ : ∃ qb, (v.pureB) = qb := ⟨_, rfl⟩
            rw [hb32]
            have Hhb32 := Lib.hid hb32
            clear hb32
            rintro e w30 ⟨rfl, k31⟩
            have Kk34 := Lib.hid k31
            clear k31
            cases rb33 with
            | false =>
              have kvV0 : SeesN V0 V0.heap.size w30 := seesN_kept _ (kept_trans Kk11.out (kept_trans Kk16.out (kept_trans Kk21.out (kept_trans Kk24.out (kept_trans Kk28.out Kk34.out)))))
              go_wp2
              go_ret
              exact ⟨ret_bool (Eq.symm (show rightJ ⟨true, u, v, x, i⟩ n = false from by unfold rightJ jfitB; (try simp only []); rw [show (decide (0 ≤ i) && decide (i ≤ 1000)) = true from Hhb9.out, Hhb14.out, Hhb19.out, show decide (u.freeB ≤ n) = true from decide_eq_true (by have := of_decide_eq_false Ec25.out; omega), show decide (x.freeB ≤ n) = true from decide_eq_true (by have := of_decide_eq_false Ec29.out; omega), Hhb32.out]; (try first | rfl | simp))), (kept_trans Kk4.out (kept_trans Kk11.out (kept_trans Kk16.out (kept_trans Kk21.out (kept_trans Kk24.out (kept_trans Kk28.out Kk34.out))))))⟩
            | true =>
              have kvV0 : SeesN V0 V0.heap.size w30 := seesN_kept _ (kept_trans Kk11.out (kept_trans Kk16.out (kept_trans Kk21.out (kept_trans Kk24.out (kept_trans Kk28.out Kk34.out)))))
              go_wp2_with (refine stop_load 32 (.tmp 45) rfl ?_)
              intro _
              refine wpList_load_part (w.heap.size) (6) 32 (.tmp 45) #[.int .i64 v.k, .int .i64 v.i, .int .i64 v.j, .int .i64 v.n, (.slice av v.kids.length cv)] du (blk_at Hx1.out (kept_trans Kk11.out (kept_trans Kk16.out (kept_trans Kk21.out (kept_trans Kk24.out (kept_trans Kk28.out Kk34.out)))))) (by rfl) rfl (by rfl) (by rfl) hu1 (by cases du <;> first | rfl | exact hu2) size_term ?_
              go_wp2_with fail
              clear kvV0
              refine (refFree_any v _ ((.slice av v.kids.length cv)) (HLv.out.later (kept_trans Kk11.out (kept_trans Kk16.out (kept_trans Kk21.out (kept_trans Kk24.out (kept_trans Kk28.out Kk34.out)))))).lies).mono ?_
              rintro e w35 ⟨rfl, k36⟩
              have Kk37 := Lib.hid k36
              clear k36
              have kvV0 : SeesN V0 V0.heap.size w35 := seesN_kept _ (kept_trans Kk11.out (kept_trans Kk16.out (kept_trans Kk21.out (kept_trans Kk24.out (kept_trans Kk28.out (kept_trans Kk34.out Kk37.out))))))
              by_cases c38 : v.freeB ≤ n
              · have ec38 : decide (v.freeB ≤ n) = true := decide_eq_true c38
                have Ec38 := Lib.hid ec38
                have Hc38 := Lib.hid c38
                clear c38
                go_wp2
                go_ret
                exact ⟨ret_bool (Eq.symm (show rightJ ⟨true, u, v, x, i⟩ n = true from by unfold rightJ jfitB; (try simp only []); rw [show (decide (0 ≤ i) && decide (i ≤ 1000)) = true from Hhb9.out, Hhb14.out, Hhb19.out, show decide (u.freeB ≤ n) = true from decide_eq_true (by have := of_decide_eq_false Ec25.out; omega), show decide (x.freeB ≤ n) = true from decide_eq_true (by have := of_decide_eq_false Ec29.out; omega), Hhb32.out, Ec38.out]; (try first | rfl | simp))), (kept_trans Kk4.out (kept_trans Kk11.out (kept_trans Kk16.out (kept_trans Kk21.out (kept_trans Kk24.out (kept_trans Kk28.out (kept_trans Kk34.out Kk37.out)))))))⟩
              · have ec38 : decide (v.freeB ≤ n) = false := decide_eq_false c38
                have Ec38 := Lib.hid ec38
                have Hc38 := Lib.hid c38
                clear c38
                go_wp2
                go_ret
                exact ⟨ret_bool (Eq.symm (show rightJ ⟨true, u, v, x, i⟩ n = false from by unfold rightJ jfitB; (try simp only []); rw [show (decide (0 ≤ i) && decide (i ≤ 1000)) = true from Hhb9.out, Hhb14.out, Hhb19.out, show decide (u.freeB ≤ n) = true from decide_eq_true (by have := of_decide_eq_false Ec25.out; omega), show decide (x.freeB ≤ n) = true from decide_eq_true (by have := of_decide_eq_false Ec29.out; omega), Hhb32.out, Ec38.out]; (try first | rfl | simp))), (kept_trans Kk4.out (kept_trans Kk11.out (kept_trans Kk16.out (kept_trans Kk21.out (kept_trans Kk24.out (kept_trans Kk28.out (kept_trans Kk34.out Kk37.out)))))))⟩

end Go.Proofs.Ytjlppnmckobcfaa

namespace Go.Proofs.Ytjlppnmckobcfaa
open Go.RowKit

theorem rinnerK (r k : Int) (w : World) : Calls Try.prog 30 #[.int .i64 r, .int .i64 k] w fun e w' => e = .returned (.bool (Dv.innerB r k)) ∧ Kept w w' := (Dv.refinner_any r k w).mono (fun _ _ h => ⟨h.1, by rw [h.2]; exact kept_refl _⟩)
theorem liesE_cap {w : World} {l : List En} {x : En} {a : Option Addr} {n cap : Nat} (h : LiesE w (l ++ [x]) (.slice a n cap)) : l.length ≤ cap := by
  obtain ⟨a', cap', S, hs, hc, hm, hf, hn, hk⟩ := h.out
  simp only [Value.slice.injEq] at hs
  simp only [List.length_append, List.length_singleton] at hc
  omega
theorem rightJ_i {j : Jd} {n : Int} (h : rightJ j n = true) : 0 ≤ j.i ∧ j.i ≤ 1000 := by
  unfold rightJ at h
  simp only [Bool.and_eq_true, decide_eq_true_eq] at h
  exact h.1
theorem os_i {x : Tm} {i : Int} (h : osB x i = true) : i - 1 = x.i := by
  unfold osB at h
  simp only [Bool.and_eq_true, beq_iff_eq] at h
  omega

set_option maxRecDepth 20000 in
set_option maxHeartbeats 4000000 in
theorem rpremiseN_any (r : Int) (kid : Int) (c : List En) (w : World) (sc : Value) (ja : Option Addr) (jc : Nat) (hlc : LiesE w c sc) (hrr : I64 r) (hrkid : I64 kid) (hlen : c.length ≤ 100000) (hsz : ∀ e ∈ c, e.a.size ≤ 1000000) : Calls Try.prog 9 #[sc, .int .i64 r, .int .i64 kid, .slice ja 0 jc] w (GivesPr (premB c r kid []) w) := by
  have HEc := Lib.hid hlc
  obtain ⟨ac, cc, Sc, rfl, -⟩ := hlc.out
  clear hlc
  have Rr := Lib.hid hrr
  clear hrr
  have Rkid := Lib.hid hrkid
  clear hrkid
  have HLEN := Lib.hid hlen
  have HSZ := Lib.hid hsz
  have HRN := Lib.hid (show I64 (c.length : Int) by unfold I64; omega)
  clear hsz
  obtain ⟨dj, dj1, dj2⟩ := under_of 34 (by kernel_rfl)
  obtain ⟨du, hu1, hu2⟩ := under_term
  go_enter Try.func9, Try.ntmps9
  go_upto_region 1 with fail
  refine at_code (fun V0 hV0 => ?_)
  have k1 : Kept w V0 := by rw [← hV0]; exact kept_refl _
  have Z0 : Hid (V0.heap.size = w.heap.size + 0) := by show _ = _; rw [← hV0]; rfl
  clear hV0
  have Kk3 := Lib.hid k1
  clear k1
  have kvV0 : SeesN V0 V0.heap.size V0 := seesN_kept _ (kept_refl _)
  go_wp2_with fail
  clear kvV0
  refine (refpurectx_any c _ _ (HEc.out.keep Kk3.out) HSZ.out).mono ?_
  obtain ⟨rb7, hb6⟩ : ∃ qb, (purC c) = qb := ⟨_, rfl⟩
  rw [hb6]
  have Hhb6 := Lib.hid hb6
  clear hb6
  rintro e w4 ⟨rfl, k5⟩
  have Kk8 := Lib.hid k5
  clear k5
  cases rb7 with
  | false =>
    have kvV0 : SeesN V0 V0.heap.size w4 := seesN_kept _ Kk8.out
    go_wp2
    go_ret2
    rw [premB_pure Hhb6.out]
    exact ⟨_, rfl, liesE_nil _, (kept_trans Kk3.out Kk8.out)⟩
  | true =>
    have kvV0 : SeesN V0 V0.heap.size w4 := seesN_kept _ Kk8.out
    by_cases c9 : kid < 0
    · have ec9 : decide (kid < 0) = true := decide_eq_true c9
      have Ec9 := Lib.hid ec9
      have Hc9 := Lib.hid c9
      clear c9
      go_wp2
      go_ret2
      rw [premB_kid0 Ec9.out]
      exact ⟨_, rfl, liesE_nil _, (kept_trans Kk3.out Kk8.out)⟩
    · have ec9 : decide (kid < 0) = false := decide_eq_false c9
      have Ec9 := Lib.hid ec9
      have Hc9 := Lib.hid c9
      clear c9
      go_wp2_with fail
      clear kvV0
      refine (Dv.drefkids_any r _).mono ?_
      rintro e w10 ⟨rfl, k11⟩
      have Kk12 := Lib.hid k11
      clear k11
      have kvV0 : SeesN V0 V0.heap.size w10 := seesN_kept _ (kept_trans Kk8.out Kk12.out)
      by_cases c13 : (Dv.dkidsN r) ≤ kid
      · have ec13 : decide ((Dv.dkidsN r) ≤ kid) = true := decide_eq_true c13
        have Ec13 := Lib.hid ec13
        have Hc13 := Lib.hid c13
        clear c13
        go_wp2
        go_ret2
        rw [premB_kid1 Ec13.out]
        exact ⟨_, rfl, liesE_nil _, (kept_trans Kk3.out (kept_trans Kk8.out Kk12.out))⟩
      · have ec13 : decide ((Dv.dkidsN r) ≤ kid) = false := decide_eq_false c13
        have Ec13 := Lib.hid ec13
        have Hc13 := Lib.hid c13
        clear c13
        go_wp2_with fail
        clear kvV0
        refine (rinnerK r kid _).mono ?_
        obtain ⟨rb17, hb16⟩ : ∃ qb, (Dv.innerB r kid) = qb := ⟨_, rfl⟩
        rw [hb16]
        have Hhb16 := Lib.hid hb16
        clear hb16
        rintro e w14 ⟨rfl, k15⟩
        have Kk18 := Lib.hid k15
        clear k15
        cases rb17 with
        | false =>
          have kvV0 : SeesN V0 V0.heap.size w14 := seesN_kept _ (kept_trans Kk8.out (kept_trans Kk12.out Kk18.out))
          go_wp2_with fail
          clear kvV0
          refine (refadd_any c Tm.zero 0 _ _ (.slice none 0 0) (HEc.out.keep (kept_trans Kk3.out (kept_trans Kk8.out (kept_trans Kk12.out Kk18.out)))) (liesQ_nil w14 (Par w V0.heap.size [] (fun _ => False))).lies ⟨(mk_fine (show I64 0 from by unfold I64; decide) (show I64 0 from by unfold I64; decide) (show I64 0 from by unfold I64; decide) (show I64 0 from by unfold I64; decide)), (show I64 0 from by unfold I64; decide)⟩ HLEN.out).mono ?_
          rintro e w19 ⟨g21, c22, rfl, hl23, k20⟩
          have hc24 := liesE_cap hl23
          have Hhl23 := Lib.hid hl23
          clear hl23
          have Kk25 := Lib.hid k20
          clear k20
          have kvV0 : SeesN V0 V0.heap.size w19 := seesN_kept _ (kept_trans Kk8.out (kept_trans Kk12.out (kept_trans Kk18.out Kk25.out)))
          go_wp2
          go_ret2
          rw [premB_outer (premB_in Ec9.out Ec13.out Hhb6.out) Hhb16.out]
          exact ⟨_, rfl, liesE_front (Hhl23.out.keep (kept_refl _)), (kept_trans Kk3.out (kept_trans Kk8.out (kept_trans Kk12.out (kept_trans Kk18.out Kk25.out))))⟩
        | true =>
          have kvV0 : SeesN V0 V0.heap.size w14 := seesN_kept _ (kept_trans Kk8.out (kept_trans Kk12.out Kk18.out))
          go_wp2
          go_ret2
          rw [premB_nil Hhb16.out]
          exact ⟨_, rfl, liesE_nil _, (kept_trans Kk3.out (kept_trans Kk8.out (kept_trans Kk12.out Kk18.out)))⟩

set_option maxRecDepth 20000 in
set_option maxHeartbeats 4000000 in
theorem rpremise0_any (r : Int) (kid : Int) (i : Int) (c : List En) (u : Tm) (v : Tm) (x : Tm) (P : Nat → Prop) (w : World) (sc : Value) (b0 o0 N0 cap0 : Nat) (C0 : Array Value) (T0 : TypeId) (fr0 : Nat × Nat) (su : Value) (sv : Value) (sx : Value) (hlc : LiesE w c sc) (hrr : I64 r) (hrkid : I64 kid) (hfu : u.fine) (hlu : LiesQ w P u.kids su) (hfv : v.fine) (hlv : LiesQ w P v.kids sv) (hfx : x.fine) (hlx : LiesQ w P x.kids sx) (hri : I64 i) (hb0 : w.heap[b0]? = some (.cells C0 T0 fr0)) (hs0 : (C0.toList.drop o0).take 17 = [.bool false, .int .i64 u.k, .int .i64 u.i, .int .i64 u.j, .int .i64 u.n, su, .int .i64 v.k, .int .i64 v.i, .int .i64 v.j, .int .i64 v.n, sv, .int .i64 x.k, .int .i64 x.i, .int .i64 x.j, .int .i64 x.n, sx, .int .i64 i]) (hN0 : 0 < N0) (hlen : c.length ≤ 100000) (hsz : ∀ e ∈ c, e.a.size ≤ 1000000) (rest : List Jd) (hzu : u.size ≤ 1000000) (hzv : v.size ≤ 1000000) (hza : x.size ≤ 1000000) : Calls Try.prog 9 #[sc, .int .i64 r, .int .i64 kid, .slice (some ⟨b0, o0, none⟩) N0 cap0] w (GivesPr (premB c r kid ((⟨false, u, v, x, i⟩ : Jd) :: rest)) w) := by
  have HEc := Lib.hid hlc
  obtain ⟨ac, cc, Sc, rfl, -⟩ := hlc.out
  clear hlc
  have Rr := Lib.hid hrr
  clear hrr
  have Rkid := Lib.hid hrkid
  clear hrkid
  have Gu := Lib.hid hfu
  clear hfu
  obtain ⟨au, cu, Su, rfl, -⟩ := hlu.out
  have Gv := Lib.hid hfv
  clear hfv
  obtain ⟨av, cv, Sv, rfl, -⟩ := hlv.out
  have Gx := Lib.hid hfx
  clear hfx
  obtain ⟨ax, cx, Sx, rfl, -⟩ := hlx.out
  have Ri := Lib.hid hri
  clear hri
  have HB0 := Lib.hid hb0
  have HS0 := Lib.hid hs0
  have en0 : ((N0 : Int) == 0) = false := by simp; omega
  have en1 : (N0 == 0) = false := by simp; omega
  have en2 : decide ((N0 : Int) < 1) = false := decide_eq_false (by omega)
  have en3 : decide (N0 < 1) = false := decide_eq_false (by omega)
  clear hb0 hs0
  have HLEN := Lib.hid hlen
  have HSZ := Lib.hid hsz
  have HRN := Lib.hid (show I64 (c.length : Int) by unfold I64; omega)
  clear hsz
  have HZU := Lib.hid hzu
  have HZV := Lib.hid hzv
  have HZA := Lib.hid hza
  clear hzu hzv hza
  obtain ⟨dj, dj1, dj2⟩ := under_of 34 (by kernel_rfl)
  obtain ⟨du, hu1, hu2⟩ := under_term
  go_enter Try.func9, Try.ntmps9
  go_upto_region 1 with fail
  refine at_code (fun V0 hV0 => ?_)
  have k1 : Kept w V0 := by rw [← hV0]; exact kept_refl _
  have Z0 : Hid (V0.heap.size = w.heap.size + 0) := by show _ = _; rw [← hV0]; rfl
  clear hV0
  have Kk3 := Lib.hid k1
  clear k1
  have HLu : Hid (LiesQ V0 (Par w V0.heap.size [] P) u.kids _) := (par_in _ _ hlu).later Kk3.out
  clear hlu
  have HLv : Hid (LiesQ V0 (Par w V0.heap.size [] P) v.kids _) := (par_in _ _ hlv).later Kk3.out
  clear hlv
  have HLx : Hid (LiesQ V0 (Par w V0.heap.size [] P) x.kids _) := (par_in _ _ hlx).later Kk3.out
  clear hlx
  have kvV0 : SeesN V0 V0.heap.size V0 := seesN_kept _ (kept_refl _)
  go_wp2_with fail
  clear kvV0
  refine (refpurectx_any c _ _ (HEc.out.keep Kk3.out) HSZ.out).mono ?_
  obtain ⟨rb7, hb6⟩ : ∃ qb, (purC c) = qb := ⟨_, rfl⟩
  rw [hb6]
  have Hhb6 := Lib.hid hb6
  clear hb6
  rintro e w4 ⟨rfl, k5⟩
  have Kk8 := Lib.hid k5
  clear k5
  cases rb7 with
  | false =>
    have kvV0 : SeesN V0 V0.heap.size w4 := seesN_kept _ Kk8.out
    go_wp2
    go_ret2
    rw [premB_pure Hhb6.out]
    exact ⟨_, rfl, liesE_nil _, (kept_trans Kk3.out Kk8.out)⟩
  | true =>
    have kvV0 : SeesN V0 V0.heap.size w4 := seesN_kept _ Kk8.out
    by_cases c9 : kid < 0
    · have ec9 : decide (kid < 0) = true := decide_eq_true c9
      have Ec9 := Lib.hid ec9
      have Hc9 := Lib.hid c9
      clear c9
      go_wp2
      go_ret2
      rw [premB_kid0 Ec9.out]
      exact ⟨_, rfl, liesE_nil _, (kept_trans Kk3.out Kk8.out)⟩
    · have ec9 : decide (kid < 0) = false := decide_eq_false c9
      have Ec9 := Lib.hid ec9
      have Hc9 := Lib.hid c9
      clear c9
      go_wp2_with fail
      clear kvV0
      refine (Dv.drefkids_any r _).mono ?_
      rintro e w10 ⟨rfl, k11⟩
      have Kk12 := Lib.hid k11
      clear k11
      have kvV0 : SeesN V0 V0.heap.size w10 := seesN_kept _ (kept_trans Kk8.out Kk12.out)
      by_cases c13 : (Dv.dkidsN r) ≤ kid
      · have ec13 : decide ((Dv.dkidsN r) ≤ kid) = true := decide_eq_true c13
        have Ec13 := Lib.hid ec13
        have Hc13 := Lib.hid c13
        clear c13
        go_wp2
        go_ret2
        rw [premB_kid1 Ec13.out]
        exact ⟨_, rfl, liesE_nil _, (kept_trans Kk3.out (kept_trans Kk8.out Kk12.out))⟩
      · have ec13 : decide ((Dv.dkidsN r) ≤ kid) = false := decide_eq_false c13
        have Ec13 := Lib.hid ec13
        have Hc13 := Lib.hid c13
        clear c13
        go_wp2_with fail
        clear kvV0
        refine (rinnerK r kid _).mono ?_
        obtain ⟨rb17, hb16⟩ : ∃ qb, (Dv.innerB r kid) = qb := ⟨_, rfl⟩
        rw [hb16]
        have Hhb16 := Lib.hid hb16
        clear hb16
        rintro e w14 ⟨rfl, k15⟩
        have Kk18 := Lib.hid k15
        clear k15
        cases rb17 with
        | false =>
          have kvV0 : SeesN V0 V0.heap.size w14 := seesN_kept _ (kept_trans Kk8.out (kept_trans Kk12.out Kk18.out))
          go_wp2_with fail
          clear kvV0
          refine (refadd_any c Tm.zero 0 _ _ (.slice none 0 0) (HEc.out.keep (kept_trans Kk3.out (kept_trans Kk8.out (kept_trans Kk12.out Kk18.out)))) (liesQ_nil w14 (Par w V0.heap.size [] P)).lies ⟨(mk_fine (show I64 0 from by unfold I64; decide) (show I64 0 from by unfold I64; decide) (show I64 0 from by unfold I64; decide) (show I64 0 from by unfold I64; decide)), (show I64 0 from by unfold I64; decide)⟩ HLEN.out).mono ?_
          rintro e w19 ⟨g21, c22, rfl, hl23, k20⟩
          have hc24 := liesE_cap hl23
          have Hhl23 := Lib.hid hl23
          clear hl23
          have Kk25 := Lib.hid k20
          clear k20
          have kvV0 : SeesN V0 V0.heap.size w19 := seesN_kept _ (kept_trans Kk8.out (kept_trans Kk12.out (kept_trans Kk18.out Kk25.out)))
          go_wp2
          go_ret2
          rw [premB_outer (premB_in Ec9.out Ec13.out Hhb6.out) Hhb16.out]
          exact ⟨_, rfl, liesE_front (Hhl23.out.keep (kept_refl _)), (kept_trans Kk3.out (kept_trans Kk8.out (kept_trans Kk12.out (kept_trans Kk18.out Kk25.out))))⟩
        | true =>
          have kvV0 : SeesN V0 V0.heap.size w14 := seesN_kept _ (kept_trans Kk8.out (kept_trans Kk12.out Kk18.out))
          go_wp2_with (refine stop_load 34 (.tmp 45) rfl ?_)
          intro _
          refine wpList_load_part (b0) (o0) 34 (.tmp 45) #[.bool false, .int .i64 u.k, .int .i64 u.i, .int .i64 u.j, .int .i64 u.n, (.slice au u.kids.length cu), .int .i64 v.k, .int .i64 v.i, .int .i64 v.j, .int .i64 v.n, (.slice av v.kids.length cv), .int .i64 x.k, .int .i64 x.i, .int .i64 x.j, .int .i64 x.n, (.slice ax x.kids.length cx), .int .i64 i] dj (blk_at HB0.out (kept_trans Kk3.out (kept_trans Kk8.out (kept_trans Kk12.out Kk18.out)))) (by rfl) rfl (by rfl) (row_subW HS0.out 0 17 (by decide)) dj1 (by cases dj <;> first | rfl | exact dj2) (by kernel_rfl) ?_
          go_wp2_with fail
          clear kvV0
          refine (refright0_any (c.length : Int) i u v x (Par w V0.heap.size [] P) w14 ((.slice au u.kids.length cu)) ((.slice av v.kids.length cv)) ((.slice ax x.kids.length cx)) HRN.out Gu.out (HLu.out.later (kept_trans Kk8.out (kept_trans Kk12.out Kk18.out))) Gv.out (HLv.out.later (kept_trans Kk8.out (kept_trans Kk12.out Kk18.out))) Gx.out (HLx.out.later (kept_trans Kk8.out (kept_trans Kk12.out Kk18.out))) Ri.out (Nat.le_trans HZU.out (by decide)) (Nat.le_trans HZV.out (by decide)) (Nat.le_trans HZA.out (by decide))).mono ?_
          obtain ⟨rb29, hb28⟩ : ∃ qb, (rightJ (⟨false, u, v, x, i⟩ : Jd) (c.length : Int)) = qb := ⟨_, rfl⟩
          rw [hb28]
          have Hhb28 := Lib.hid hb28
          clear hb28
          rintro e w26 ⟨rfl, k27⟩
          have Kk30 := Lib.hid k27
          clear k27
          cases rb29 with
          | false =>
            have kvV0 : SeesN V0 V0.heap.size w26 := seesN_kept _ (kept_trans Kk8.out (kept_trans Kk12.out (kept_trans Kk18.out Kk30.out)))
            go_wp2
            go_ret2
            rw [premB_right Hhb16.out Hhb28.out]
            exact ⟨_, rfl, liesE_nil _, (kept_trans Kk3.out (kept_trans Kk8.out (kept_trans Kk12.out (kept_trans Kk18.out Kk30.out))))⟩
          | true =>
            have HPX : Hid (x.pureB = true) := rightJ_pure Hhb28.out
            have HI0 : Hid (0 ≤ i) := (rightJ_i Hhb28.out).1
            have HI1 : Hid (i ≤ 1000) := (rightJ_i Hhb28.out).2
            have HR1 := Lib.hid (show I64 (i - 1) by have := HI0.out; have := HI1.out; unfold I64; omega)
            have kvV0 : SeesN V0 V0.heap.size w26 := seesN_kept _ (kept_trans Kk8.out (kept_trans Kk12.out (kept_trans Kk18.out Kk30.out)))
            go_wp2_with (refine stop_load 34 (.tmp 51) rfl ?_)
            intro _
            refine wpList_load_part (b0) (o0) 34 (.tmp 51) #[.bool false, .int .i64 u.k, .int .i64 u.i, .int .i64 u.j, .int .i64 u.n, (.slice au u.kids.length cu), .int .i64 v.k, .int .i64 v.i, .int .i64 v.j, .int .i64 v.n, (.slice av v.kids.length cv), .int .i64 x.k, .int .i64 x.i, .int .i64 x.j, .int .i64 x.n, (.slice ax x.kids.length cx), .int .i64 i] dj (blk_at HB0.out (kept_trans Kk3.out (kept_trans Kk8.out (kept_trans Kk12.out (kept_trans Kk18.out Kk30.out))))) (by rfl) rfl (by rfl) (row_subW HS0.out 0 17 (by decide)) dj1 (by cases dj <;> first | rfl | exact dj2) (by kernel_rfl) ?_
            go_wp2_with (refine stop_store 34 (.tmp 10) (.tmp 52) rfl ?_)
            intro _
            refine wpList_store_part_n (by rfl) 34 (.tmp 10) (.tmp 52) rfl (w26.heap.size) 0 #[.bool false, .int .i64 u.k, .int .i64 u.i, .int .i64 u.j, .int .i64 u.n, (.slice au u.kids.length cu), .int .i64 v.k, .int .i64 v.i, .int .i64 v.j, .int .i64 v.n, (.slice av v.kids.length cv), .int .i64 x.k, .int .i64 x.i, .int .i64 x.j, .int .i64 x.n, (.slice ax x.kids.length cx), .int .i64 i] (by rfl) (by rfl) 34 (by kernel_rfl) (row_ok rfl) ?_
            intro W31 hW31
            clear kvV0
            obtain ⟨k34, x33, z35⟩ := alloc1 hW31
            have Kk36 := Lib.hid k34
            clear k34
            have Hx33 := Lib.hid x33
            have Hz35 := Lib.hid z35
            clear x33 z35 hW31
            have HG37 : Hid (V0.heap.size ≤ w26.heap.size) := (Below.size (kept_trans Kk8.out (kept_trans Kk12.out (kept_trans Kk18.out Kk30.out))))
            have XL38 : Hid (XLt (w26.heap.size :: []) W31) := (xlt_more (xlt_nil _) Kk36.out (by have := Hz35.out; omega))
            refine ⟨_, #[.bool false, .int .i64 u.k, .int .i64 u.i, .int .i64 u.j, .int .i64 u.n, (.slice au u.kids.length cu), .int .i64 v.k, .int .i64 v.i, .int .i64 v.j, .int .i64 v.n, (.slice av v.kids.length cv), .int .i64 x.k, .int .i64 x.i, .int .i64 x.j, .int .i64 x.n, (.slice ax x.kids.length cx), .int .i64 i], Hx33.out, rfl, Nat.le_of_ble_eq_true rfl, ?_⟩
            intro W32 hW32
            have KB39 := Lib.hid (kept_set (kept_trans Kk3.out (kept_trans Kk8.out (kept_trans Kk12.out (kept_trans Kk18.out (kept_trans Kk30.out Kk36.out))))) hW32 (by have := HG37.out; have := Z0.out; omega))
            have KB40 := Lib.hid (kept_set (kept_trans Kk8.out (kept_trans Kk12.out (kept_trans Kk18.out (kept_trans Kk30.out Kk36.out)))) hW32 HG37.out)
            have HL41 : Hid (LiesQ W32 (Par w V0.heap.size (w26.heap.size :: []) P) u.kids _) := par_set (par_grow HLu.out (kept_trans Kk8.out (kept_trans Kk12.out (kept_trans Kk18.out (kept_trans Kk30.out Kk36.out)))) (List.forall_mem_cons.2 ⟨(Or.inr (Nat.le_trans (Below.size (kept_trans Kk8.out (kept_trans Kk12.out (kept_trans Kk18.out Kk30.out)))) (Nat.le_refl w26.heap.size))), (fun _ h => nomatch h)⟩)) hW32 (List.mem_cons_self ..) (by have := HG37.out; have := Z0.out; omega)
            have HL42 : Hid (LiesQ W32 (Par w V0.heap.size (w26.heap.size :: []) P) v.kids _) := par_set (par_grow HLv.out (kept_trans Kk8.out (kept_trans Kk12.out (kept_trans Kk18.out (kept_trans Kk30.out Kk36.out)))) (List.forall_mem_cons.2 ⟨(Or.inr (Nat.le_trans (Below.size (kept_trans Kk8.out (kept_trans Kk12.out (kept_trans Kk18.out Kk30.out)))) (Nat.le_refl w26.heap.size))), (fun _ h => nomatch h)⟩)) hW32 (List.mem_cons_self ..) (by have := HG37.out; have := Z0.out; omega)
            have HL43 : Hid (LiesQ W32 (Par w V0.heap.size (w26.heap.size :: []) P) x.kids _) := par_set (par_grow HLx.out (kept_trans Kk8.out (kept_trans Kk12.out (kept_trans Kk18.out (kept_trans Kk30.out Kk36.out)))) (List.forall_mem_cons.2 ⟨(Or.inr (Nat.le_trans (Below.size (kept_trans Kk8.out (kept_trans Kk12.out (kept_trans Kk18.out Kk30.out)))) (Nat.le_refl w26.heap.size))), (fun _ h => nomatch h)⟩)) hW32 (List.mem_cons_self ..) (by have := HG37.out; have := Z0.out; omega)
            have XL44 := Lib.hid (xlt_set XL38.out hW32)
            have HX45 := Lib.hid (blk_same Hx33.out hW32)
            clear hW32
            have ld46 := partN_cell (r := V0.heap.size) HX45.out trivial 0 (.bool false) rfl
            have ld47 := partN_cell (r := V0.heap.size) HX45.out trivial 16 (.int .i64 i) rfl
            have kvV0 : SeesN V0 V0.heap.size W32 := seesN_kept _ KB40.out
            have kvW32 : SeesN W32 V0.heap.size W32 := seesN_kept _ (kept_refl _)
            by_cases c48 : r = 3
            · have ec48 : (r == 3) = true := beq_iff_eq.2 c48
              have fc48 : (r != 3) = false := by rw [bne, ec48]; rfl
              have Ec48 := Lib.hid ec48
              have Hc48 := Lib.hid c48
              clear c48
              go_wp2_with (refine stop_load 34 (.tmp 10) rfl ?_)
              intro _
              refine wpList_load_part (w26.heap.size) (0) 34 (.tmp 10) #[.bool false, .int .i64 u.k, .int .i64 u.i, .int .i64 u.j, .int .i64 u.n, (.slice au u.kids.length cu), .int .i64 v.k, .int .i64 v.i, .int .i64 v.j, .int .i64 v.n, (.slice av v.kids.length cv), .int .i64 x.k, .int .i64 x.i, .int .i64 x.j, .int .i64 x.n, (.slice ax x.kids.length cx), .int .i64 i] dj HX45.out (by rfl) rfl (by rfl) (by rfl) dj1 (by cases dj <;> first | rfl | exact dj2) (by kernel_rfl) ?_
              go_wp2_with fail
              clear kvV0
              clear kvW32
              refine (ty0_any i u v x (Par w V0.heap.size (w26.heap.size :: []) P) W32 ((.slice au u.kids.length cu)) ((.slice av v.kids.length cv)) ((.slice ax x.kids.length cx)) Gu.out HL41.out Gv.out HL42.out Gx.out HL43.out Ri.out HI0.out HI1.out HPX.out).mono ?_
              obtain ⟨rb52, hb51⟩ : ∃ qb, (osB x i) = qb := ⟨_, rfl⟩
              rw [hb51]
              have Hhb51 := Lib.hid hb51
              clear hb51
              rintro e w49 ⟨rfl, k50⟩
              have Kk53 := Lib.hid k50
              clear k50
              cases rb52 with
              | false =>
                have kvV0 : SeesN V0 V0.heap.size w49 := seesN_kept _ (kept_trans KB40.out Kk53.out)
                have kvW32 : SeesN W32 V0.heap.size w49 := seesN_kept _ Kk53.out
                go_wp2
                go_ret2
                have hcl : rcls r = 0 := by unfold rcls; rw [Ec48.out]; rfl
                have he2 : (entB r (⟨false, u, v, x, i⟩ : Jd)).2 = false := by rw [entB_0 _ hcl]; exact Hhb51.out
                rw [premB_ent Hhb16.out he2]
                exact ⟨_, rfl, liesE_nil _, (kept_trans KB39.out Kk53.out)⟩
              | true =>
                have kvV0 : SeesN V0 V0.heap.size w49 := seesN_kept _ (kept_trans KB40.out Kk53.out)
                have kvW32 : SeesN W32 V0.heap.size w49 := seesN_kept _ Kk53.out
                go_wp2_with (refine stop_load 32 (.tmp 66) rfl ?_)
                intro _
                refine wpList_load_part (w26.heap.size) (1) 32 (.tmp 66) #[.int .i64 u.k, .int .i64 u.i, .int .i64 u.j, .int .i64 u.n, (.slice au u.kids.length cu)] du (blk_at HX45.out Kk53.out) (by rfl) rfl (by rfl) (by rfl) hu1 (by cases du <;> first | rfl | exact hu2) size_term ?_
                go_wp2_with fail
                clear kvV0
                clear kvW32
                refine (refadd_any c u (i - 1) _ _ ((.slice au u.kids.length cu)) (HEc.out.keep (kept_trans KB39.out Kk53.out)) (HL41.out.later Kk53.out).lies ⟨Gu.out, HR1.out⟩ HLEN.out).mono ?_
                rintro e w54 ⟨g56, c57, rfl, hl58, k55⟩
                have hc59 := liesE_cap hl58
                have Hhl58 := Lib.hid hl58
                clear hl58
                have Kk60 := Lib.hid k55
                clear k55
                have kvV0 : SeesN V0 V0.heap.size w54 := seesN_kept _ (kept_trans KB40.out (kept_trans Kk53.out Kk60.out))
                have kvW32 : SeesN W32 V0.heap.size w54 := seesN_kept _ (kept_trans Kk53.out Kk60.out)
                go_wp2
                go_ret2
                have hcl : rcls r = 0 := by unfold rcls; rw [Ec48.out]; rfl
                have he2 : (entB r (⟨false, u, v, x, i⟩ : Jd)).2 = true := by rw [entB_0 _ hcl]; exact Hhb51.out
                rw [premB_all (premB_in Ec9.out Ec13.out Hhb6.out) Hhb16.out Hhb28.out he2]
                rw [show (entB r (⟨false, u, v, x, i⟩ : Jd)).1 = (⟨u, i - 1⟩ : En) from by rw [entB_0 _ hcl]; show (⟨u, x.i⟩ : En) = _; rw [os_i Hhb51.out]]
                exact ⟨_, rfl, (by have h := (Hhl58.out.keep (kept_refl _)); rw [List.length_append] at h; exact h), (kept_trans KB39.out (kept_trans Kk53.out Kk60.out))⟩
            · have ec48 : (r == 3) = false := beq_eq_false_iff_ne.2 c48
              have fc48 : (r != 3) = true := by rw [bne, ec48]; rfl
              have Ec48 := Lib.hid ec48
              have Hc48 := Lib.hid c48
              clear c48
              by_cases c61 : r = 6
              · have ec61 : (r == 6) = true := beq_iff_eq.2 c61
                have fc61 : (r != 6) = false := by rw [bne, ec61]; rfl
                have Ec61 := Lib.hid ec61
                have Hc61 := Lib.hid c61
                clear c61
                go_wp2_with (refine stop_load 34 (.tmp 10) rfl ?_)
                intro _
                refine wpList_load_part (w26.heap.size) (0) 34 (.tmp 10) #[.bool false, .int .i64 u.k, .int .i64 u.i, .int .i64 u.j, .int .i64 u.n, (.slice au u.kids.length cu), .int .i64 v.k, .int .i64 v.i, .int .i64 v.j, .int .i64 v.n, (.slice av v.kids.length cv), .int .i64 x.k, .int .i64 x.i, .int .i64 x.j, .int .i64 x.n, (.slice ax x.kids.length cx), .int .i64 i] dj HX45.out (by rfl) rfl (by rfl) (by rfl) dj1 (by cases dj <;> first | rfl | exact dj2) (by kernel_rfl) ?_
                go_wp2_with fail
                clear kvV0
                clear kvW32
                refine (ty0_any i u v x (Par w V0.heap.size (w26.heap.size :: []) P) W32 ((.slice au u.kids.length cu)) ((.slice av v.kids.length cv)) ((.slice ax x.kids.length cx)) Gu.out HL41.out Gv.out HL42.out Gx.out HL43.out Ri.out HI0.out HI1.out HPX.out).mono ?_
                obtain ⟨rb65, hb64⟩ : ∃ qb, (osB x i) = qb := ⟨_, rfl⟩
                rw [hb64]
                have Hhb64 := Lib.hid hb64
                clear hb64
                rintro e w62 ⟨rfl, k63⟩
                have Kk66 := Lib.hid k63
                clear k63
                cases rb65 with
                | false =>
                  have kvV0 : SeesN V0 V0.heap.size w62 := seesN_kept _ (kept_trans KB40.out Kk66.out)
                  have kvW32 : SeesN W32 V0.heap.size w62 := seesN_kept _ Kk66.out
                  go_wp2
                  go_ret2
                  have hcl : rcls r = 0 := by unfold rcls; rw [Ec48.out, Ec61.out]; rfl
                  have he2 : (entB r (⟨false, u, v, x, i⟩ : Jd)).2 = false := by rw [entB_0 _ hcl]; exact Hhb64.out
                  rw [premB_ent Hhb16.out he2]
                  exact ⟨_, rfl, liesE_nil _, (kept_trans KB39.out Kk66.out)⟩
                | true =>
                  have kvV0 : SeesN V0 V0.heap.size w62 := seesN_kept _ (kept_trans KB40.out Kk66.out)
                  have kvW32 : SeesN W32 V0.heap.size w62 := seesN_kept _ Kk66.out
                  go_wp2_with (refine stop_load 32 (.tmp 66) rfl ?_)
                  intro _
                  refine wpList_load_part (w26.heap.size) (1) 32 (.tmp 66) #[.int .i64 u.k, .int .i64 u.i, .int .i64 u.j, .int .i64 u.n, (.slice au u.kids.length cu)] du (blk_at HX45.out Kk66.out) (by rfl) rfl (by rfl) (by rfl) hu1 (by cases du <;> first | rfl | exact hu2) size_term ?_
                  go_wp2_with fail
                  clear kvV0
                  clear kvW32
                  refine (refadd_any c u (i - 1) _ _ ((.slice au u.kids.length cu)) (HEc.out.keep (kept_trans KB39.out Kk66.out)) (HL41.out.later Kk66.out).lies ⟨Gu.out, HR1.out⟩ HLEN.out).mono ?_
                  rintro e w67 ⟨g69, c70, rfl, hl71, k68⟩
                  have hc72 := liesE_cap hl71
                  have Hhl71 := Lib.hid hl71
                  clear hl71
                  have Kk73 := Lib.hid k68
                  clear k68
                  have kvV0 : SeesN V0 V0.heap.size w67 := seesN_kept _ (kept_trans KB40.out (kept_trans Kk66.out Kk73.out))
                  have kvW32 : SeesN W32 V0.heap.size w67 := seesN_kept _ (kept_trans Kk66.out Kk73.out)
                  go_wp2
                  go_ret2
                  have hcl : rcls r = 0 := by unfold rcls; rw [Ec48.out, Ec61.out]; rfl
                  have he2 : (entB r (⟨false, u, v, x, i⟩ : Jd)).2 = true := by rw [entB_0 _ hcl]; exact Hhb64.out
                  rw [premB_all (premB_in Ec9.out Ec13.out Hhb6.out) Hhb16.out Hhb28.out he2]
                  rw [show (entB r (⟨false, u, v, x, i⟩ : Jd)).1 = (⟨u, i - 1⟩ : En) from by rw [entB_0 _ hcl]; show (⟨u, x.i⟩ : En) = _; rw [os_i Hhb64.out]]
                  exact ⟨_, rfl, (by have h := (Hhl71.out.keep (kept_refl _)); rw [List.length_append] at h; exact h), (kept_trans KB39.out (kept_trans Kk66.out Kk73.out))⟩
              · have ec61 : (r == 6) = false := beq_eq_false_iff_ne.2 c61
                have fc61 : (r != 6) = true := by rw [bne, ec61]; rfl
                have Ec61 := Lib.hid ec61
                have Hc61 := Lib.hid c61
                clear c61
                by_cases c74 : r = 4
                · have ec74 : (r == 4) = true := beq_iff_eq.2 c74
                  have fc74 : (r != 4) = false := by rw [bne, ec74]; rfl
                  have Ec74 := Lib.hid ec74
                  have Hc74 := Lib.hid c74
                  clear c74
                  go_wp2_with (refine stop_load 34 (.tmp 10) rfl ?_)
                  intro _
                  refine wpList_load_part (w26.heap.size) (0) 34 (.tmp 10) #[.bool false, .int .i64 u.k, .int .i64 u.i, .int .i64 u.j, .int .i64 u.n, (.slice au u.kids.length cu), .int .i64 v.k, .int .i64 v.i, .int .i64 v.j, .int .i64 v.n, (.slice av v.kids.length cv), .int .i64 x.k, .int .i64 x.i, .int .i64 x.j, .int .i64 x.n, (.slice ax x.kids.length cx), .int .i64 i] dj HX45.out (by rfl) rfl (by rfl) (by rfl) dj1 (by cases dj <;> first | rfl | exact dj2) (by kernel_rfl) ?_
                  go_wp2_with fail
                  clear kvV0
                  clear kvW32
                  refine (ty0_any i u v x (Par w V0.heap.size (w26.heap.size :: []) P) W32 ((.slice au u.kids.length cu)) ((.slice av v.kids.length cv)) ((.slice ax x.kids.length cx)) Gu.out HL41.out Gv.out HL42.out Gx.out HL43.out Ri.out HI0.out HI1.out HPX.out).mono ?_
                  obtain ⟨rb78, hb77⟩ : ∃ qb, (osB x i) = qb := ⟨_, rfl⟩
                  rw [hb77]
                  have Hhb77 := Lib.hid hb77
                  clear hb77
                  rintro e w75 ⟨rfl, k76⟩
                  have Kk79 := Lib.hid k76
                  clear k76
                  cases rb78 with
                  | false =>
                    have kvV0 : SeesN V0 V0.heap.size w75 := seesN_kept _ (kept_trans KB40.out Kk79.out)
                    have kvW32 : SeesN W32 V0.heap.size w75 := seesN_kept _ Kk79.out
                    go_wp2
                    go_ret2
                    have hcl : rcls r = 0 := by unfold rcls; rw [Ec48.out, Ec61.out, Ec74.out]; rfl
                    have he2 : (entB r (⟨false, u, v, x, i⟩ : Jd)).2 = false := by rw [entB_0 _ hcl]; exact Hhb77.out
                    rw [premB_ent Hhb16.out he2]
                    exact ⟨_, rfl, liesE_nil _, (kept_trans KB39.out Kk79.out)⟩
                  | true =>
                    have kvV0 : SeesN V0 V0.heap.size w75 := seesN_kept _ (kept_trans KB40.out Kk79.out)
                    have kvW32 : SeesN W32 V0.heap.size w75 := seesN_kept _ Kk79.out
                    go_wp2_with (refine stop_load 32 (.tmp 66) rfl ?_)
                    intro _
                    refine wpList_load_part (w26.heap.size) (1) 32 (.tmp 66) #[.int .i64 u.k, .int .i64 u.i, .int .i64 u.j, .int .i64 u.n, (.slice au u.kids.length cu)] du (blk_at HX45.out Kk79.out) (by rfl) rfl (by rfl) (by rfl) hu1 (by cases du <;> first | rfl | exact hu2) size_term ?_
                    go_wp2_with fail
                    clear kvV0
                    clear kvW32
                    refine (refadd_any c u (i - 1) _ _ ((.slice au u.kids.length cu)) (HEc.out.keep (kept_trans KB39.out Kk79.out)) (HL41.out.later Kk79.out).lies ⟨Gu.out, HR1.out⟩ HLEN.out).mono ?_
                    rintro e w80 ⟨g82, c83, rfl, hl84, k81⟩
                    have hc85 := liesE_cap hl84
                    have Hhl84 := Lib.hid hl84
                    clear hl84
                    have Kk86 := Lib.hid k81
                    clear k81
                    have kvV0 : SeesN V0 V0.heap.size w80 := seesN_kept _ (kept_trans KB40.out (kept_trans Kk79.out Kk86.out))
                    have kvW32 : SeesN W32 V0.heap.size w80 := seesN_kept _ (kept_trans Kk79.out Kk86.out)
                    go_wp2
                    go_ret2
                    have hcl : rcls r = 0 := by unfold rcls; rw [Ec48.out, Ec61.out, Ec74.out]; rfl
                    have he2 : (entB r (⟨false, u, v, x, i⟩ : Jd)).2 = true := by rw [entB_0 _ hcl]; exact Hhb77.out
                    rw [premB_all (premB_in Ec9.out Ec13.out Hhb6.out) Hhb16.out Hhb28.out he2]
                    rw [show (entB r (⟨false, u, v, x, i⟩ : Jd)).1 = (⟨u, i - 1⟩ : En) from by rw [entB_0 _ hcl]; show (⟨u, x.i⟩ : En) = _; rw [os_i Hhb77.out]]
                    exact ⟨_, rfl, (by have h := (Hhl84.out.keep (kept_refl _)); rw [List.length_append] at h; exact h), (kept_trans KB39.out (kept_trans Kk79.out Kk86.out))⟩
                · have ec74 : (r == 4) = false := beq_eq_false_iff_ne.2 c74
                  have fc74 : (r != 4) = true := by rw [bne, ec74]; rfl
                  have Ec74 := Lib.hid ec74
                  have Hc74 := Lib.hid c74
                  clear c74
                  by_cases c87 : r = 25
                  · have ec87 : (r == 25) = true := beq_iff_eq.2 c87
                    have fc87 : (r != 25) = false := by rw [bne, ec87]; rfl
                    have Ec87 := Lib.hid ec87
                    have Hc87 := Lib.hid c87
                    clear c87
                    go_wp2_with (refine stop_load 34 (.tmp 10) rfl ?_)
                    intro _
                    refine wpList_load_part (w26.heap.size) (0) 34 (.tmp 10) #[.bool false, .int .i64 u.k, .int .i64 u.i, .int .i64 u.j, .int .i64 u.n, (.slice au u.kids.length cu), .int .i64 v.k, .int .i64 v.i, .int .i64 v.j, .int .i64 v.n, (.slice av v.kids.length cv), .int .i64 x.k, .int .i64 x.i, .int .i64 x.j, .int .i64 x.n, (.slice ax x.kids.length cx), .int .i64 i] dj HX45.out (by rfl) rfl (by rfl) (by rfl) dj1 (by cases dj <;> first | rfl | exact dj2) (by kernel_rfl) ?_
                    go_wp2_with fail
                    clear kvV0
                    clear kvW32
                    refine (tyN0_any i u v x (Par w V0.heap.size (w26.heap.size :: []) P) W32 ((.slice au u.kids.length cu)) ((.slice av v.kids.length cv)) ((.slice ax x.kids.length cx)) Gu.out HL41.out Gv.out HL42.out Gx.out HL43.out Ri.out HI0.out HI1.out).mono ?_
                    rintro e w88 ⟨rfl, k89⟩
                    have Kk90 := Lib.hid k89
                    clear k89
                    have kvV0 : SeesN V0 V0.heap.size w88 := seesN_kept _ (kept_trans KB40.out Kk90.out)
                    have kvW32 : SeesN W32 V0.heap.size w88 := seesN_kept _ Kk90.out
                    go_wp2
                    go_ret2
                    have hcl : rcls r = 1 := by unfold rcls; rw [Ec48.out, Ec61.out, Ec74.out, Ec87.out]; rfl
                    have he2 : (entB r (⟨false, u, v, x, i⟩ : Jd)).2 = false := by rw [entB_1 _ hcl]; rfl
                    rw [premB_ent Hhb16.out he2]
                    exact ⟨_, rfl, liesE_nil _, (kept_trans KB39.out Kk90.out)⟩
                  · have ec87 : (r == 25) = false := beq_eq_false_iff_ne.2 c87
                    have fc87 : (r != 25) = true := by rw [bne, ec87]; rfl
                    have Ec87 := Lib.hid ec87
                    have Hc87 := Lib.hid c87
                    clear c87
                    by_cases c91 : r = 26
                    · have ec91 : (r == 26) = true := beq_iff_eq.2 c91
                      have fc91 : (r != 26) = false := by rw [bne, ec91]; rfl
                      have Ec91 := Lib.hid ec91
                      have Hc91 := Lib.hid c91
                      clear c91
                      go_wp2_with (refine stop_load 34 (.tmp 10) rfl ?_)
                      intro _
                      refine wpList_load_part (w26.heap.size) (0) 34 (.tmp 10) #[.bool false, .int .i64 u.k, .int .i64 u.i, .int .i64 u.j, .int .i64 u.n, (.slice au u.kids.length cu), .int .i64 v.k, .int .i64 v.i, .int .i64 v.j, .int .i64 v.n, (.slice av v.kids.length cv), .int .i64 x.k, .int .i64 x.i, .int .i64 x.j, .int .i64 x.n, (.slice ax x.kids.length cx), .int .i64 i] dj HX45.out (by rfl) rfl (by rfl) (by rfl) dj1 (by cases dj <;> first | rfl | exact dj2) (by kernel_rfl) ?_
                      go_wp2_with fail
                      clear kvV0
                      clear kvW32
                      refine (tyN0_any i u v x (Par w V0.heap.size (w26.heap.size :: []) P) W32 ((.slice au u.kids.length cu)) ((.slice av v.kids.length cv)) ((.slice ax x.kids.length cx)) Gu.out HL41.out Gv.out HL42.out Gx.out HL43.out Ri.out HI0.out HI1.out).mono ?_
                      rintro e w92 ⟨rfl, k93⟩
                      have Kk94 := Lib.hid k93
                      clear k93
                      have kvV0 : SeesN V0 V0.heap.size w92 := seesN_kept _ (kept_trans KB40.out Kk94.out)
                      have kvW32 : SeesN W32 V0.heap.size w92 := seesN_kept _ Kk94.out
                      go_wp2
                      go_ret2
                      have hcl : rcls r = 1 := by unfold rcls; rw [Ec48.out, Ec61.out, Ec74.out, Ec87.out, Ec91.out]; rfl
                      have he2 : (entB r (⟨false, u, v, x, i⟩ : Jd)).2 = false := by rw [entB_1 _ hcl]; rfl
                      rw [premB_ent Hhb16.out he2]
                      exact ⟨_, rfl, liesE_nil _, (kept_trans KB39.out Kk94.out)⟩
                    · have ec91 : (r == 26) = false := beq_eq_false_iff_ne.2 c91
                      have fc91 : (r != 26) = true := by rw [bne, ec91]; rfl
                      have Ec91 := Lib.hid ec91
                      have Hc91 := Lib.hid c91
                      clear c91
                      by_cases c95 : r = 27
                      · have ec95 : (r == 27) = true := beq_iff_eq.2 c95
                        have fc95 : (r != 27) = false := by rw [bne, ec95]; rfl
                        have Ec95 := Lib.hid ec95
                        have Hc95 := Lib.hid c95
                        clear c95
                        go_wp2_with (refine stop_load 34 (.tmp 10) rfl ?_)
                        intro _
                        refine wpList_load_part (w26.heap.size) (0) 34 (.tmp 10) #[.bool false, .int .i64 u.k, .int .i64 u.i, .int .i64 u.j, .int .i64 u.n, (.slice au u.kids.length cu), .int .i64 v.k, .int .i64 v.i, .int .i64 v.j, .int .i64 v.n, (.slice av v.kids.length cv), .int .i64 x.k, .int .i64 x.i, .int .i64 x.j, .int .i64 x.n, (.slice ax x.kids.length cx), .int .i64 i] dj HX45.out (by rfl) rfl (by rfl) (by rfl) dj1 (by cases dj <;> first | rfl | exact dj2) (by kernel_rfl) ?_
                        go_wp2_with fail
                        clear kvV0
                        clear kvW32
                        refine (tyN0_any i u v x (Par w V0.heap.size (w26.heap.size :: []) P) W32 ((.slice au u.kids.length cu)) ((.slice av v.kids.length cv)) ((.slice ax x.kids.length cx)) Gu.out HL41.out Gv.out HL42.out Gx.out HL43.out Ri.out HI0.out HI1.out).mono ?_
                        rintro e w96 ⟨rfl, k97⟩
                        have Kk98 := Lib.hid k97
                        clear k97
                        have kvV0 : SeesN V0 V0.heap.size w96 := seesN_kept _ (kept_trans KB40.out Kk98.out)
                        have kvW32 : SeesN W32 V0.heap.size w96 := seesN_kept _ Kk98.out
                        go_wp2
                        go_ret2
                        have hcl : rcls r = 1 := by unfold rcls; rw [Ec48.out, Ec61.out, Ec74.out, Ec87.out, Ec91.out, Ec95.out]; rfl
                        have he2 : (entB r (⟨false, u, v, x, i⟩ : Jd)).2 = false := by rw [entB_1 _ hcl]; rfl
                        rw [premB_ent Hhb16.out he2]
                        exact ⟨_, rfl, liesE_nil _, (kept_trans KB39.out Kk98.out)⟩
                      · have ec95 : (r == 27) = false := beq_eq_false_iff_ne.2 c95
                        have fc95 : (r != 27) = true := by rw [bne, ec95]; rfl
                        have Ec95 := Lib.hid ec95
                        have Hc95 := Lib.hid c95
                        clear c95
                        by_cases c99 : r = 28
                        · have ec99 : (r == 28) = true := beq_iff_eq.2 c99
                          have fc99 : (r != 28) = false := by rw [bne, ec99]; rfl
                          have Ec99 := Lib.hid ec99
                          have Hc99 := Lib.hid c99
                          clear c99
                          go_wp2_with (refine stop_load 34 (.tmp 10) rfl ?_)
                          intro _
                          refine wpList_load_part (w26.heap.size) (0) 34 (.tmp 10) #[.bool false, .int .i64 u.k, .int .i64 u.i, .int .i64 u.j, .int .i64 u.n, (.slice au u.kids.length cu), .int .i64 v.k, .int .i64 v.i, .int .i64 v.j, .int .i64 v.n, (.slice av v.kids.length cv), .int .i64 x.k, .int .i64 x.i, .int .i64 x.j, .int .i64 x.n, (.slice ax x.kids.length cx), .int .i64 i] dj HX45.out (by rfl) rfl (by rfl) (by rfl) dj1 (by cases dj <;> first | rfl | exact dj2) (by kernel_rfl) ?_
                          go_wp2_with fail
                          clear kvV0
                          clear kvW32
                          refine (tyN0_any i u v x (Par w V0.heap.size (w26.heap.size :: []) P) W32 ((.slice au u.kids.length cu)) ((.slice av v.kids.length cv)) ((.slice ax x.kids.length cx)) Gu.out HL41.out Gv.out HL42.out Gx.out HL43.out Ri.out HI0.out HI1.out).mono ?_
                          rintro e w100 ⟨rfl, k101⟩
                          have Kk102 := Lib.hid k101
                          clear k101
                          have kvV0 : SeesN V0 V0.heap.size w100 := seesN_kept _ (kept_trans KB40.out Kk102.out)
                          have kvW32 : SeesN W32 V0.heap.size w100 := seesN_kept _ Kk102.out
                          go_wp2
                          go_ret2
                          have hcl : rcls r = 1 := by unfold rcls; rw [Ec48.out, Ec61.out, Ec74.out, Ec87.out, Ec91.out, Ec95.out, Ec99.out]; rfl
                          have he2 : (entB r (⟨false, u, v, x, i⟩ : Jd)).2 = false := by rw [entB_1 _ hcl]; rfl
                          rw [premB_ent Hhb16.out he2]
                          exact ⟨_, rfl, liesE_nil _, (kept_trans KB39.out Kk102.out)⟩
                        · have ec99 : (r == 28) = false := beq_eq_false_iff_ne.2 c99
                          have fc99 : (r != 28) = true := by rw [bne, ec99]; rfl
                          have Ec99 := Lib.hid ec99
                          have Hc99 := Lib.hid c99
                          clear c99
                          by_cases c103 : r = 23
                          · have ec103 : (r == 23) = true := beq_iff_eq.2 c103
                            have fc103 : (r != 23) = false := by rw [bne, ec103]; rfl
                            have Ec103 := Lib.hid ec103
                            have Hc103 := Lib.hid c103
                            clear c103
                            go_wp2
                            go_ret2
                            have hcl : rcls r = 2 := by unfold rcls; rw [Ec48.out, Ec61.out, Ec74.out, Ec87.out, Ec91.out, Ec95.out, Ec99.out]; rfl
                            have he2 : (entB r (⟨false, u, v, x, i⟩ : Jd)).2 = false := by rw [entB_2 _ hcl]; (try simp only []); rw [Ec103.out]; rfl
                            rw [premB_ent Hhb16.out he2]
                            exact ⟨_, rfl, liesE_nil _, KB39.out⟩
                          · have ec103 : (r == 23) = false := beq_eq_false_iff_ne.2 c103
                            have fc103 : (r != 23) = true := by rw [bne, ec103]; rfl
                            have Ec103 := Lib.hid ec103
                            have Hc103 := Lib.hid c103
                            clear c103
                            go_wp2_with (refine stop_load 32 (.tmp 93) rfl ?_)
                            intro _
                            refine wpList_load_part (w26.heap.size) (11) 32 (.tmp 93) #[.int .i64 x.k, .int .i64 x.i, .int .i64 x.j, .int .i64 x.n, (.slice ax x.kids.length cx)] du HX45.out (by rfl) rfl (by rfl) (by rfl) hu1 (by cases du <;> first | rfl | exact hu2) size_term ?_
                            go_wp2_with fail
                            clear kvV0
                            clear kvW32
                            refine (refadd_any c x i _ _ ((.slice ax x.kids.length cx)) (HEc.out.keep KB39.out) HL43.out.lies ⟨Gx.out, Ri.out⟩ HLEN.out).mono ?_
                            rintro e w104 ⟨g106, c107, rfl, hl108, k105⟩
                            have hc109 := liesE_cap hl108
                            have Hhl108 := Lib.hid hl108
                            clear hl108
                            have Kk110 := Lib.hid k105
                            clear k105
                            have kvV0 : SeesN V0 V0.heap.size w104 := seesN_kept _ (kept_trans KB40.out Kk110.out)
                            have kvW32 : SeesN W32 V0.heap.size w104 := seesN_kept _ Kk110.out
                            go_wp2
                            go_ret2
                            have hcl : rcls r = 2 := by unfold rcls; rw [Ec48.out, Ec61.out, Ec74.out, Ec87.out, Ec91.out, Ec95.out, Ec99.out]; rfl
                            have he2 : (entB r (⟨false, u, v, x, i⟩ : Jd)).2 = true := by rw [entB_2 _ hcl]; (try simp only []); rw [Ec103.out]; rfl
                            rw [premB_all (premB_in Ec9.out Ec13.out Hhb6.out) Hhb16.out Hhb28.out he2]
                            rw [show (entB r (⟨false, u, v, x, i⟩ : Jd)).1 = (⟨x, i⟩ : En) from by rw [entB_2 _ hcl]]
                            exact ⟨_, rfl, (by have h := (Hhl108.out.keep (kept_refl _)); rw [List.length_append] at h; exact h), (kept_trans KB39.out Kk110.out)⟩

set_option maxRecDepth 20000 in
set_option maxHeartbeats 4000000 in
theorem rpremise1_any (r : Int) (kid : Int) (i : Int) (c : List En) (u : Tm) (v : Tm) (x : Tm) (P : Nat → Prop) (w : World) (sc : Value) (b0 o0 N0 cap0 : Nat) (C0 : Array Value) (T0 : TypeId) (fr0 : Nat × Nat) (su : Value) (sv : Value) (sx : Value) (hlc : LiesE w c sc) (hrr : I64 r) (hrkid : I64 kid) (hfu : u.fine) (hlu : LiesQ w P u.kids su) (hfv : v.fine) (hlv : LiesQ w P v.kids sv) (hfx : x.fine) (hlx : LiesQ w P x.kids sx) (hri : I64 i) (hb0 : w.heap[b0]? = some (.cells C0 T0 fr0)) (hs0 : (C0.toList.drop o0).take 17 = [.bool true, .int .i64 u.k, .int .i64 u.i, .int .i64 u.j, .int .i64 u.n, su, .int .i64 v.k, .int .i64 v.i, .int .i64 v.j, .int .i64 v.n, sv, .int .i64 x.k, .int .i64 x.i, .int .i64 x.j, .int .i64 x.n, sx, .int .i64 i]) (hN0 : 0 < N0) (hlen : c.length ≤ 100000) (hsz : ∀ e ∈ c, e.a.size ≤ 1000000) (rest : List Jd) (hzu : u.size ≤ 1000000) (hzv : v.size ≤ 1000000) (hza : x.size ≤ 1000000) : Calls Try.prog 9 #[sc, .int .i64 r, .int .i64 kid, .slice (some ⟨b0, o0, none⟩) N0 cap0] w (GivesPr (premB c r kid ((⟨true, u, v, x, i⟩ : Jd) :: rest)) w) := by
  have HEc := Lib.hid hlc
  obtain ⟨ac, cc, Sc, rfl, -⟩ := hlc.out
  clear hlc
  have Rr := Lib.hid hrr
  clear hrr
  have Rkid := Lib.hid hrkid
  clear hrkid
  have Gu := Lib.hid hfu
  clear hfu
  obtain ⟨au, cu, Su, rfl, -⟩ := hlu.out
  have Gv := Lib.hid hfv
  clear hfv
  obtain ⟨av, cv, Sv, rfl, -⟩ := hlv.out
  have Gx := Lib.hid hfx
  clear hfx
  obtain ⟨ax, cx, Sx, rfl, -⟩ := hlx.out
  have Ri := Lib.hid hri
  clear hri
  have HB0 := Lib.hid hb0
  have HS0 := Lib.hid hs0
  have en0 : ((N0 : Int) == 0) = false := by simp; omega
  have en1 : (N0 == 0) = false := by simp; omega
  have en2 : decide ((N0 : Int) < 1) = false := decide_eq_false (by omega)
  have en3 : decide (N0 < 1) = false := decide_eq_false (by omega)
  clear hb0 hs0
  have HLEN := Lib.hid hlen
  have HSZ := Lib.hid hsz
  have HRN := Lib.hid (show I64 (c.length : Int) by unfold I64; omega)
  clear hsz
  have HZU := Lib.hid hzu
  have HZV := Lib.hid hzv
  have HZA := Lib.hid hza
  clear hzu hzv hza
  obtain ⟨dj, dj1, dj2⟩ := under_of 34 (by kernel_rfl)
  obtain ⟨du, hu1, hu2⟩ := under_term
  go_enter Try.func9, Try.ntmps9
  go_upto_region 1 with fail
  refine at_code (fun V0 hV0 => ?_)
  have k1 : Kept w V0 := by rw [← hV0]; exact kept_refl _
  have Z0 : Hid (V0.heap.size = w.heap.size + 0) := by show _ = _; rw [← hV0]; rfl
  clear hV0
  have Kk3 := Lib.hid k1
  clear k1
  have HLu : Hid (LiesQ V0 (Par w V0.heap.size [] P) u.kids _) := (par_in _ _ hlu).later Kk3.out
  clear hlu
  have HLv : Hid (LiesQ V0 (Par w V0.heap.size [] P) v.kids _) := (par_in _ _ hlv).later Kk3.out
  clear hlv
  have HLx : Hid (LiesQ V0 (Par w V0.heap.size [] P) x.kids _) := (par_in _ _ hlx).later Kk3.out
  clear hlx
  have kvV0 : SeesN V0 V0.heap.size V0 := seesN_kept _ (kept_refl _)
  go_wp2_with fail
  clear kvV0
  refine (refpurectx_any c _ _ (HEc.out.keep Kk3.out) HSZ.out).mono ?_
  obtain ⟨rb7, hb6⟩ : ∃ qb, (purC c) = qb := ⟨_, rfl⟩
  rw [hb6]
  have Hhb6 := Lib.hid hb6
  clear hb6
  rintro e w4 ⟨rfl, k5⟩
  have Kk8 := Lib.hid k5
  clear k5
  cases rb7 with
  | false =>
    have kvV0 : SeesN V0 V0.heap.size w4 := seesN_kept _ Kk8.out
    go_wp2
    go_ret2
    rw [premB_pure Hhb6.out]
    exact ⟨_, rfl, liesE_nil _, (kept_trans Kk3.out Kk8.out)⟩
  | true =>
    have kvV0 : SeesN V0 V0.heap.size w4 := seesN_kept _ Kk8.out
    by_cases c9 : kid < 0
    · have ec9 : decide (kid < 0) = true := decide_eq_true c9
      have Ec9 := Lib.hid ec9
      have Hc9 := Lib.hid c9
      clear c9
      go_wp2
      go_ret2
      rw [premB_kid0 Ec9.out]
      exact ⟨_, rfl, liesE_nil _, (kept_trans Kk3.out Kk8.out)⟩
    · have ec9 : decide (kid < 0) = false := decide_eq_false c9
      have Ec9 := Lib.hid ec9
      have Hc9 := Lib.hid c9
      clear c9
      go_wp2_with fail
      clear kvV0
      refine (Dv.drefkids_any r _).mono ?_
      rintro e w10 ⟨rfl, k11⟩
      have Kk12 := Lib.hid k11
      clear k11
      have kvV0 : SeesN V0 V0.heap.size w10 := seesN_kept _ (kept_trans Kk8.out Kk12.out)
      by_cases c13 : (Dv.dkidsN r) ≤ kid
      · have ec13 : decide ((Dv.dkidsN r) ≤ kid) = true := decide_eq_true c13
        have Ec13 := Lib.hid ec13
        have Hc13 := Lib.hid c13
        clear c13
        go_wp2
        go_ret2
        rw [premB_kid1 Ec13.out]
        exact ⟨_, rfl, liesE_nil _, (kept_trans Kk3.out (kept_trans Kk8.out Kk12.out))⟩
      · have ec13 : decide ((Dv.dkidsN r) ≤ kid) = false := decide_eq_false c13
        have Ec13 := Lib.hid ec13
        have Hc13 := Lib.hid c13
        clear c13
        go_wp2_with fail
        clear kvV0
        refine (rinnerK r kid _).mono ?_
        obtain ⟨rb17, hb16⟩ : ∃ qb, (Dv.innerB r kid) = qb := ⟨_, rfl⟩
        rw [hb16]
        have Hhb16 := Lib.hid hb16
        clear hb16
        rintro e w14 ⟨rfl, k15⟩
        have Kk18 := Lib.hid k15
        clear k15
        cases rb17 with
        | false =>
          have kvV0 : SeesN V0 V0.heap.size w14 := seesN_kept _ (kept_trans Kk8.out (kept_trans Kk12.out Kk18.out))
          go_wp2_with fail
          clear kvV0
          refine (refadd_any c Tm.zero 0 _ _ (.slice none 0 0) (HEc.out.keep (kept_trans Kk3.out (kept_trans Kk8.out (kept_trans Kk12.out Kk18.out)))) (liesQ_nil w14 (Par w V0.heap.size [] P)).lies ⟨(mk_fine (show I64 0 from by unfold I64; decide) (show I64 0 from by unfold I64; decide) (show I64 0 from by unfold I64; decide) (show I64 0 from by unfold I64; decide)), (show I64 0 from by unfold I64; decide)⟩ HLEN.out).mono ?_
          rintro e w19 ⟨g21, c22, rfl, hl23, k20⟩
          have hc24 := liesE_cap hl23
          have Hhl23 := Lib.hid hl23
          clear hl23
          have Kk25 := Lib.hid k20
          clear k20
          have kvV0 : SeesN V0 V0.heap.size w19 := seesN_kept _ (kept_trans Kk8.out (kept_trans Kk12.out (kept_trans Kk18.out Kk25.out)))
          go_wp2
          go_ret2
          rw [premB_outer (premB_in Ec9.out Ec13.out Hhb6.out) Hhb16.out]
          exact ⟨_, rfl, liesE_front (Hhl23.out.keep (kept_refl _)), (kept_trans Kk3.out (kept_trans Kk8.out (kept_trans Kk12.out (kept_trans Kk18.out Kk25.out))))⟩
        | true =>
          have kvV0 : SeesN V0 V0.heap.size w14 := seesN_kept _ (kept_trans Kk8.out (kept_trans Kk12.out Kk18.out))
          go_wp2_with (refine stop_load 34 (.tmp 45) rfl ?_)
          intro _
          refine wpList_load_part (b0) (o0) 34 (.tmp 45) #[.bool true, .int .i64 u.k, .int .i64 u.i, .int .i64 u.j, .int .i64 u.n, (.slice au u.kids.length cu), .int .i64 v.k, .int .i64 v.i, .int .i64 v.j, .int .i64 v.n, (.slice av v.kids.length cv), .int .i64 x.k, .int .i64 x.i, .int .i64 x.j, .int .i64 x.n, (.slice ax x.kids.length cx), .int .i64 i] dj (blk_at HB0.out (kept_trans Kk3.out (kept_trans Kk8.out (kept_trans Kk12.out Kk18.out)))) (by rfl) rfl (by rfl) (row_subW HS0.out 0 17 (by decide)) dj1 (by cases dj <;> first | rfl | exact dj2) (by kernel_rfl) ?_
          go_wp2_with fail
          clear kvV0
          refine (refright1_any (c.length : Int) i u v x (Par w V0.heap.size [] P) w14 ((.slice au u.kids.length cu)) ((.slice av v.kids.length cv)) ((.slice ax x.kids.length cx)) HRN.out Gu.out (HLu.out.later (kept_trans Kk8.out (kept_trans Kk12.out Kk18.out))) Gv.out (HLv.out.later (kept_trans Kk8.out (kept_trans Kk12.out Kk18.out))) Gx.out (HLx.out.later (kept_trans Kk8.out (kept_trans Kk12.out Kk18.out))) Ri.out (Nat.le_trans HZU.out (by decide)) (Nat.le_trans HZV.out (by decide)) (Nat.le_trans HZA.out (by decide))).mono ?_
          obtain ⟨rb29, hb28⟩ : ∃ qb, (rightJ (⟨true, u, v, x, i⟩ : Jd) (c.length : Int)) = qb := ⟨_, rfl⟩
          rw [hb28]
          have Hhb28 := Lib.hid hb28
          clear hb28
          rintro e w26 ⟨rfl, k27⟩
          have Kk30 := Lib.hid k27
          clear k27
          cases rb29 with
          | false =>
            have kvV0 : SeesN V0 V0.heap.size w26 := seesN_kept _ (kept_trans Kk8.out (kept_trans Kk12.out (kept_trans Kk18.out Kk30.out)))
            go_wp2
            go_ret2
            rw [premB_right Hhb16.out Hhb28.out]
            exact ⟨_, rfl, liesE_nil _, (kept_trans Kk3.out (kept_trans Kk8.out (kept_trans Kk12.out (kept_trans Kk18.out Kk30.out))))⟩
          | true =>
            have HPX : Hid (x.pureB = true) := rightJ_pure Hhb28.out
            have HI0 : Hid (0 ≤ i) := (rightJ_i Hhb28.out).1
            have HI1 : Hid (i ≤ 1000) := (rightJ_i Hhb28.out).2
            have HR1 := Lib.hid (show I64 (i - 1) by have := HI0.out; have := HI1.out; unfold I64; omega)
            have kvV0 : SeesN V0 V0.heap.size w26 := seesN_kept _ (kept_trans Kk8.out (kept_trans Kk12.out (kept_trans Kk18.out Kk30.out)))
            go_wp2_with (refine stop_load 34 (.tmp 51) rfl ?_)
            intro _
            refine wpList_load_part (b0) (o0) 34 (.tmp 51) #[.bool true, .int .i64 u.k, .int .i64 u.i, .int .i64 u.j, .int .i64 u.n, (.slice au u.kids.length cu), .int .i64 v.k, .int .i64 v.i, .int .i64 v.j, .int .i64 v.n, (.slice av v.kids.length cv), .int .i64 x.k, .int .i64 x.i, .int .i64 x.j, .int .i64 x.n, (.slice ax x.kids.length cx), .int .i64 i] dj (blk_at HB0.out (kept_trans Kk3.out (kept_trans Kk8.out (kept_trans Kk12.out (kept_trans Kk18.out Kk30.out))))) (by rfl) rfl (by rfl) (row_subW HS0.out 0 17 (by decide)) dj1 (by cases dj <;> first | rfl | exact dj2) (by kernel_rfl) ?_
            go_wp2_with (refine stop_store 34 (.tmp 10) (.tmp 52) rfl ?_)
            intro _
            refine wpList_store_part_n (by rfl) 34 (.tmp 10) (.tmp 52) rfl (w26.heap.size) 0 #[.bool true, .int .i64 u.k, .int .i64 u.i, .int .i64 u.j, .int .i64 u.n, (.slice au u.kids.length cu), .int .i64 v.k, .int .i64 v.i, .int .i64 v.j, .int .i64 v.n, (.slice av v.kids.length cv), .int .i64 x.k, .int .i64 x.i, .int .i64 x.j, .int .i64 x.n, (.slice ax x.kids.length cx), .int .i64 i] (by rfl) (by rfl) 34 (by kernel_rfl) (row_ok rfl) ?_
            intro W31 hW31
            clear kvV0
            obtain ⟨k34, x33, z35⟩ := alloc1 hW31
            have Kk36 := Lib.hid k34
            clear k34
            have Hx33 := Lib.hid x33
            have Hz35 := Lib.hid z35
            clear x33 z35 hW31
            have HG37 : Hid (V0.heap.size ≤ w26.heap.size) := (Below.size (kept_trans Kk8.out (kept_trans Kk12.out (kept_trans Kk18.out Kk30.out))))
            have XL38 : Hid (XLt (w26.heap.size :: []) W31) := (xlt_more (xlt_nil _) Kk36.out (by have := Hz35.out; omega))
            refine ⟨_, #[.bool true, .int .i64 u.k, .int .i64 u.i, .int .i64 u.j, .int .i64 u.n, (.slice au u.kids.length cu), .int .i64 v.k, .int .i64 v.i, .int .i64 v.j, .int .i64 v.n, (.slice av v.kids.length cv), .int .i64 x.k, .int .i64 x.i, .int .i64 x.j, .int .i64 x.n, (.slice ax x.kids.length cx), .int .i64 i], Hx33.out, rfl, Nat.le_of_ble_eq_true rfl, ?_⟩
            intro W32 hW32
            have KB39 := Lib.hid (kept_set (kept_trans Kk3.out (kept_trans Kk8.out (kept_trans Kk12.out (kept_trans Kk18.out (kept_trans Kk30.out Kk36.out))))) hW32 (by have := HG37.out; have := Z0.out; omega))
            have KB40 := Lib.hid (kept_set (kept_trans Kk8.out (kept_trans Kk12.out (kept_trans Kk18.out (kept_trans Kk30.out Kk36.out)))) hW32 HG37.out)
            have HL41 : Hid (LiesQ W32 (Par w V0.heap.size (w26.heap.size :: []) P) u.kids _) := par_set (par_grow HLu.out (kept_trans Kk8.out (kept_trans Kk12.out (kept_trans Kk18.out (kept_trans Kk30.out Kk36.out)))) (List.forall_mem_cons.2 ⟨(Or.inr (Nat.le_trans (Below.size (kept_trans Kk8.out (kept_trans Kk12.out (kept_trans Kk18.out Kk30.out)))) (Nat.le_refl w26.heap.size))), (fun _ h => nomatch h)⟩)) hW32 (List.mem_cons_self ..) (by have := HG37.out; have := Z0.out; omega)
            have HL42 : Hid (LiesQ W32 (Par w V0.heap.size (w26.heap.size :: []) P) v.kids _) := par_set (par_grow HLv.out (kept_trans Kk8.out (kept_trans Kk12.out (kept_trans Kk18.out (kept_trans Kk30.out Kk36.out)))) (List.forall_mem_cons.2 ⟨(Or.inr (Nat.le_trans (Below.size (kept_trans Kk8.out (kept_trans Kk12.out (kept_trans Kk18.out Kk30.out)))) (Nat.le_refl w26.heap.size))), (fun _ h => nomatch h)⟩)) hW32 (List.mem_cons_self ..) (by have := HG37.out; have := Z0.out; omega)
            have HL43 : Hid (LiesQ W32 (Par w V0.heap.size (w26.heap.size :: []) P) x.kids _) := par_set (par_grow HLx.out (kept_trans Kk8.out (kept_trans Kk12.out (kept_trans Kk18.out (kept_trans Kk30.out Kk36.out)))) (List.forall_mem_cons.2 ⟨(Or.inr (Nat.le_trans (Below.size (kept_trans Kk8.out (kept_trans Kk12.out (kept_trans Kk18.out Kk30.out)))) (Nat.le_refl w26.heap.size))), (fun _ h => nomatch h)⟩)) hW32 (List.mem_cons_self ..) (by have := HG37.out; have := Z0.out; omega)
            have XL44 := Lib.hid (xlt_set XL38.out hW32)
            have HX45 := Lib.hid (blk_same Hx33.out hW32)
            clear hW32
            have ld46 := partN_cell (r := V0.heap.size) HX45.out trivial 0 (.bool true) rfl
            have ld47 := partN_cell (r := V0.heap.size) HX45.out trivial 16 (.int .i64 i) rfl
            have kvV0 : SeesN V0 V0.heap.size W32 := seesN_kept _ KB40.out
            have kvW32 : SeesN W32 V0.heap.size W32 := seesN_kept _ (kept_refl _)
            by_cases c48 : r = 3
            · have ec48 : (r == 3) = true := beq_iff_eq.2 c48
              have fc48 : (r != 3) = false := by rw [bne, ec48]; rfl
              have Ec48 := Lib.hid ec48
              have Hc48 := Lib.hid c48
              clear c48
              go_wp2_with (refine stop_load 34 (.tmp 10) rfl ?_)
              intro _
              refine wpList_load_part (w26.heap.size) (0) 34 (.tmp 10) #[.bool true, .int .i64 u.k, .int .i64 u.i, .int .i64 u.j, .int .i64 u.n, (.slice au u.kids.length cu), .int .i64 v.k, .int .i64 v.i, .int .i64 v.j, .int .i64 v.n, (.slice av v.kids.length cv), .int .i64 x.k, .int .i64 x.i, .int .i64 x.j, .int .i64 x.n, (.slice ax x.kids.length cx), .int .i64 i] dj HX45.out (by rfl) rfl (by rfl) (by rfl) dj1 (by cases dj <;> first | rfl | exact dj2) (by kernel_rfl) ?_
              go_wp2_with fail
              clear kvV0
              clear kvW32
              refine (tyN1_any i u v x (Par w V0.heap.size (w26.heap.size :: []) P) W32 ((.slice au u.kids.length cu)) ((.slice av v.kids.length cv)) ((.slice ax x.kids.length cx)) Gu.out HL41.out Gv.out HL42.out Gx.out HL43.out Ri.out HI0.out HI1.out).mono ?_
              rintro e w49 ⟨rfl, k50⟩
              have Kk51 := Lib.hid k50
              clear k50
              have kvV0 : SeesN V0 V0.heap.size w49 := seesN_kept _ (kept_trans KB40.out Kk51.out)
              have kvW32 : SeesN W32 V0.heap.size w49 := seesN_kept _ Kk51.out
              go_wp2
              go_ret2
              have hcl : rcls r = 0 := by unfold rcls; rw [Ec48.out]; rfl
              have he2 : (entB r (⟨true, u, v, x, i⟩ : Jd)).2 = false := by rw [entB_0 _ hcl]; rfl
              rw [premB_ent Hhb16.out he2]
              exact ⟨_, rfl, liesE_nil _, (kept_trans KB39.out Kk51.out)⟩
            · have ec48 : (r == 3) = false := beq_eq_false_iff_ne.2 c48
              have fc48 : (r != 3) = true := by rw [bne, ec48]; rfl
              have Ec48 := Lib.hid ec48
              have Hc48 := Lib.hid c48
              clear c48
              by_cases c52 : r = 6
              · have ec52 : (r == 6) = true := beq_iff_eq.2 c52
                have fc52 : (r != 6) = false := by rw [bne, ec52]; rfl
                have Ec52 := Lib.hid ec52
                have Hc52 := Lib.hid c52
                clear c52
                go_wp2_with (refine stop_load 34 (.tmp 10) rfl ?_)
                intro _
                refine wpList_load_part (w26.heap.size) (0) 34 (.tmp 10) #[.bool true, .int .i64 u.k, .int .i64 u.i, .int .i64 u.j, .int .i64 u.n, (.slice au u.kids.length cu), .int .i64 v.k, .int .i64 v.i, .int .i64 v.j, .int .i64 v.n, (.slice av v.kids.length cv), .int .i64 x.k, .int .i64 x.i, .int .i64 x.j, .int .i64 x.n, (.slice ax x.kids.length cx), .int .i64 i] dj HX45.out (by rfl) rfl (by rfl) (by rfl) dj1 (by cases dj <;> first | rfl | exact dj2) (by kernel_rfl) ?_
                go_wp2_with fail
                clear kvV0
                clear kvW32
                refine (tyN1_any i u v x (Par w V0.heap.size (w26.heap.size :: []) P) W32 ((.slice au u.kids.length cu)) ((.slice av v.kids.length cv)) ((.slice ax x.kids.length cx)) Gu.out HL41.out Gv.out HL42.out Gx.out HL43.out Ri.out HI0.out HI1.out).mono ?_
                rintro e w53 ⟨rfl, k54⟩
                have Kk55 := Lib.hid k54
                clear k54
                have kvV0 : SeesN V0 V0.heap.size w53 := seesN_kept _ (kept_trans KB40.out Kk55.out)
                have kvW32 : SeesN W32 V0.heap.size w53 := seesN_kept _ Kk55.out
                go_wp2
                go_ret2
                have hcl : rcls r = 0 := by unfold rcls; rw [Ec48.out, Ec52.out]; rfl
                have he2 : (entB r (⟨true, u, v, x, i⟩ : Jd)).2 = false := by rw [entB_0 _ hcl]; rfl
                rw [premB_ent Hhb16.out he2]
                exact ⟨_, rfl, liesE_nil _, (kept_trans KB39.out Kk55.out)⟩
              · have ec52 : (r == 6) = false := beq_eq_false_iff_ne.2 c52
                have fc52 : (r != 6) = true := by rw [bne, ec52]; rfl
                have Ec52 := Lib.hid ec52
                have Hc52 := Lib.hid c52
                clear c52
                by_cases c56 : r = 4
                · have ec56 : (r == 4) = true := beq_iff_eq.2 c56
                  have fc56 : (r != 4) = false := by rw [bne, ec56]; rfl
                  have Ec56 := Lib.hid ec56
                  have Hc56 := Lib.hid c56
                  clear c56
                  go_wp2_with (refine stop_load 34 (.tmp 10) rfl ?_)
                  intro _
                  refine wpList_load_part (w26.heap.size) (0) 34 (.tmp 10) #[.bool true, .int .i64 u.k, .int .i64 u.i, .int .i64 u.j, .int .i64 u.n, (.slice au u.kids.length cu), .int .i64 v.k, .int .i64 v.i, .int .i64 v.j, .int .i64 v.n, (.slice av v.kids.length cv), .int .i64 x.k, .int .i64 x.i, .int .i64 x.j, .int .i64 x.n, (.slice ax x.kids.length cx), .int .i64 i] dj HX45.out (by rfl) rfl (by rfl) (by rfl) dj1 (by cases dj <;> first | rfl | exact dj2) (by kernel_rfl) ?_
                  go_wp2_with fail
                  clear kvV0
                  clear kvW32
                  refine (tyN1_any i u v x (Par w V0.heap.size (w26.heap.size :: []) P) W32 ((.slice au u.kids.length cu)) ((.slice av v.kids.length cv)) ((.slice ax x.kids.length cx)) Gu.out HL41.out Gv.out HL42.out Gx.out HL43.out Ri.out HI0.out HI1.out).mono ?_
                  rintro e w57 ⟨rfl, k58⟩
                  have Kk59 := Lib.hid k58
                  clear k58
                  have kvV0 : SeesN V0 V0.heap.size w57 := seesN_kept _ (kept_trans KB40.out Kk59.out)
                  have kvW32 : SeesN W32 V0.heap.size w57 := seesN_kept _ Kk59.out
                  go_wp2
                  go_ret2
                  have hcl : rcls r = 0 := by unfold rcls; rw [Ec48.out, Ec52.out, Ec56.out]; rfl
                  have he2 : (entB r (⟨true, u, v, x, i⟩ : Jd)).2 = false := by rw [entB_0 _ hcl]; rfl
                  rw [premB_ent Hhb16.out he2]
                  exact ⟨_, rfl, liesE_nil _, (kept_trans KB39.out Kk59.out)⟩
                · have ec56 : (r == 4) = false := beq_eq_false_iff_ne.2 c56
                  have fc56 : (r != 4) = true := by rw [bne, ec56]; rfl
                  have Ec56 := Lib.hid ec56
                  have Hc56 := Lib.hid c56
                  clear c56
                  by_cases c60 : r = 25
                  · have ec60 : (r == 25) = true := beq_iff_eq.2 c60
                    have fc60 : (r != 25) = false := by rw [bne, ec60]; rfl
                    have Ec60 := Lib.hid ec60
                    have Hc60 := Lib.hid c60
                    clear c60
                    go_wp2_with (refine stop_load 34 (.tmp 10) rfl ?_)
                    intro _
                    refine wpList_load_part (w26.heap.size) (0) 34 (.tmp 10) #[.bool true, .int .i64 u.k, .int .i64 u.i, .int .i64 u.j, .int .i64 u.n, (.slice au u.kids.length cu), .int .i64 v.k, .int .i64 v.i, .int .i64 v.j, .int .i64 v.n, (.slice av v.kids.length cv), .int .i64 x.k, .int .i64 x.i, .int .i64 x.j, .int .i64 x.n, (.slice ax x.kids.length cx), .int .i64 i] dj HX45.out (by rfl) rfl (by rfl) (by rfl) dj1 (by cases dj <;> first | rfl | exact dj2) (by kernel_rfl) ?_
                    go_wp2_with fail
                    clear kvV0
                    clear kvW32
                    refine (ty1_any i u v x (Par w V0.heap.size (w26.heap.size :: []) P) W32 ((.slice au u.kids.length cu)) ((.slice av v.kids.length cv)) ((.slice ax x.kids.length cx)) Gu.out HL41.out Gv.out HL42.out Gx.out HL43.out Ri.out HI0.out HI1.out HPX.out).mono ?_
                    obtain ⟨rb64, hb63⟩ : ∃ qb, (osB x i) = qb := ⟨_, rfl⟩
                    rw [hb63]
                    have Hhb63 := Lib.hid hb63
                    clear hb63
                    rintro e w61 ⟨rfl, k62⟩
                    have Kk65 := Lib.hid k62
                    clear k62
                    cases rb64 with
                    | false =>
                      have kvV0 : SeesN V0 V0.heap.size w61 := seesN_kept _ (kept_trans KB40.out Kk65.out)
                      have kvW32 : SeesN W32 V0.heap.size w61 := seesN_kept _ Kk65.out
                      go_wp2
                      go_ret2
                      have hcl : rcls r = 1 := by unfold rcls; rw [Ec48.out, Ec52.out, Ec56.out, Ec60.out]; rfl
                      have he2 : (entB r (⟨true, u, v, x, i⟩ : Jd)).2 = false := by rw [entB_1 _ hcl]; exact Hhb63.out
                      rw [premB_ent Hhb16.out he2]
                      exact ⟨_, rfl, liesE_nil _, (kept_trans KB39.out Kk65.out)⟩
                    | true =>
                      have kvV0 : SeesN V0 V0.heap.size w61 := seesN_kept _ (kept_trans KB40.out Kk65.out)
                      have kvW32 : SeesN W32 V0.heap.size w61 := seesN_kept _ Kk65.out
                      go_wp2_with (refine stop_load 32 (.tmp 83) rfl ?_)
                      intro _
                      refine wpList_load_part (w26.heap.size) (1) 32 (.tmp 83) #[.int .i64 u.k, .int .i64 u.i, .int .i64 u.j, .int .i64 u.n, (.slice au u.kids.length cu)] du (blk_at HX45.out Kk65.out) (by rfl) rfl (by rfl) (by rfl) hu1 (by cases du <;> first | rfl | exact hu2) size_term ?_
                      go_wp2_with fail
                      clear kvV0
                      clear kvW32
                      refine (refadd_any c u (i - 1) _ _ ((.slice au u.kids.length cu)) (HEc.out.keep (kept_trans KB39.out Kk65.out)) (HL41.out.later Kk65.out).lies ⟨Gu.out, HR1.out⟩ HLEN.out).mono ?_
                      rintro e w66 ⟨g68, c69, rfl, hl70, k67⟩
                      have hc71 := liesE_cap hl70
                      have Hhl70 := Lib.hid hl70
                      clear hl70
                      have Kk72 := Lib.hid k67
                      clear k67
                      have kvV0 : SeesN V0 V0.heap.size w66 := seesN_kept _ (kept_trans KB40.out (kept_trans Kk65.out Kk72.out))
                      have kvW32 : SeesN W32 V0.heap.size w66 := seesN_kept _ (kept_trans Kk65.out Kk72.out)
                      go_wp2
                      go_ret2
                      have hcl : rcls r = 1 := by unfold rcls; rw [Ec48.out, Ec52.out, Ec56.out, Ec60.out]; rfl
                      have he2 : (entB r (⟨true, u, v, x, i⟩ : Jd)).2 = true := by rw [entB_1 _ hcl]; exact Hhb63.out
                      rw [premB_all (premB_in Ec9.out Ec13.out Hhb6.out) Hhb16.out Hhb28.out he2]
                      rw [show (entB r (⟨true, u, v, x, i⟩ : Jd)).1 = (⟨u, i - 1⟩ : En) from by rw [entB_1 _ hcl]; show (⟨u, x.i⟩ : En) = _; rw [os_i Hhb63.out]]
                      exact ⟨_, rfl, (by have h := (Hhl70.out.keep (kept_refl _)); rw [List.length_append] at h; exact h), (kept_trans KB39.out (kept_trans Kk65.out Kk72.out))⟩
                  · have ec60 : (r == 25) = false := beq_eq_false_iff_ne.2 c60
                    have fc60 : (r != 25) = true := by rw [bne, ec60]; rfl
                    have Ec60 := Lib.hid ec60
                    have Hc60 := Lib.hid c60
                    clear c60
                    by_cases c73 : r = 26
                    · have ec73 : (r == 26) = true := beq_iff_eq.2 c73
                      have fc73 : (r != 26) = false := by rw [bne, ec73]; rfl
                      have Ec73 := Lib.hid ec73
                      have Hc73 := Lib.hid c73
                      clear c73
                      go_wp2_with (refine stop_load 34 (.tmp 10) rfl ?_)
                      intro _
                      refine wpList_load_part (w26.heap.size) (0) 34 (.tmp 10) #[.bool true, .int .i64 u.k, .int .i64 u.i, .int .i64 u.j, .int .i64 u.n, (.slice au u.kids.length cu), .int .i64 v.k, .int .i64 v.i, .int .i64 v.j, .int .i64 v.n, (.slice av v.kids.length cv), .int .i64 x.k, .int .i64 x.i, .int .i64 x.j, .int .i64 x.n, (.slice ax x.kids.length cx), .int .i64 i] dj HX45.out (by rfl) rfl (by rfl) (by rfl) dj1 (by cases dj <;> first | rfl | exact dj2) (by kernel_rfl) ?_
                      go_wp2_with fail
                      clear kvV0
                      clear kvW32
                      refine (ty1_any i u v x (Par w V0.heap.size (w26.heap.size :: []) P) W32 ((.slice au u.kids.length cu)) ((.slice av v.kids.length cv)) ((.slice ax x.kids.length cx)) Gu.out HL41.out Gv.out HL42.out Gx.out HL43.out Ri.out HI0.out HI1.out HPX.out).mono ?_
                      obtain ⟨rb77, hb76⟩ : ∃ qb, (osB x i) = qb := ⟨_, rfl⟩
                      rw [hb76]
                      have Hhb76 := Lib.hid hb76
                      clear hb76
                      rintro e w74 ⟨rfl, k75⟩
                      have Kk78 := Lib.hid k75
                      clear k75
                      cases rb77 with
                      | false =>
                        have kvV0 : SeesN V0 V0.heap.size w74 := seesN_kept _ (kept_trans KB40.out Kk78.out)
                        have kvW32 : SeesN W32 V0.heap.size w74 := seesN_kept _ Kk78.out
                        go_wp2
                        go_ret2
                        have hcl : rcls r = 1 := by unfold rcls; rw [Ec48.out, Ec52.out, Ec56.out, Ec60.out, Ec73.out]; rfl
                        have he2 : (entB r (⟨true, u, v, x, i⟩ : Jd)).2 = false := by rw [entB_1 _ hcl]; exact Hhb76.out
                        rw [premB_ent Hhb16.out he2]
                        exact ⟨_, rfl, liesE_nil _, (kept_trans KB39.out Kk78.out)⟩
                      | true =>
                        have kvV0 : SeesN V0 V0.heap.size w74 := seesN_kept _ (kept_trans KB40.out Kk78.out)
                        have kvW32 : SeesN W32 V0.heap.size w74 := seesN_kept _ Kk78.out
                        go_wp2_with (refine stop_load 32 (.tmp 83) rfl ?_)
                        intro _
                        refine wpList_load_part (w26.heap.size) (1) 32 (.tmp 83) #[.int .i64 u.k, .int .i64 u.i, .int .i64 u.j, .int .i64 u.n, (.slice au u.kids.length cu)] du (blk_at HX45.out Kk78.out) (by rfl) rfl (by rfl) (by rfl) hu1 (by cases du <;> first | rfl | exact hu2) size_term ?_
                        go_wp2_with fail
                        clear kvV0
                        clear kvW32
                        refine (refadd_any c u (i - 1) _ _ ((.slice au u.kids.length cu)) (HEc.out.keep (kept_trans KB39.out Kk78.out)) (HL41.out.later Kk78.out).lies ⟨Gu.out, HR1.out⟩ HLEN.out).mono ?_
                        rintro e w79 ⟨g81, c82, rfl, hl83, k80⟩
                        have hc84 := liesE_cap hl83
                        have Hhl83 := Lib.hid hl83
                        clear hl83
                        have Kk85 := Lib.hid k80
                        clear k80
                        have kvV0 : SeesN V0 V0.heap.size w79 := seesN_kept _ (kept_trans KB40.out (kept_trans Kk78.out Kk85.out))
                        have kvW32 : SeesN W32 V0.heap.size w79 := seesN_kept _ (kept_trans Kk78.out Kk85.out)
                        go_wp2
                        go_ret2
                        have hcl : rcls r = 1 := by unfold rcls; rw [Ec48.out, Ec52.out, Ec56.out, Ec60.out, Ec73.out]; rfl
                        have he2 : (entB r (⟨true, u, v, x, i⟩ : Jd)).2 = true := by rw [entB_1 _ hcl]; exact Hhb76.out
                        rw [premB_all (premB_in Ec9.out Ec13.out Hhb6.out) Hhb16.out Hhb28.out he2]
                        rw [show (entB r (⟨true, u, v, x, i⟩ : Jd)).1 = (⟨u, i - 1⟩ : En) from by rw [entB_1 _ hcl]; show (⟨u, x.i⟩ : En) = _; rw [os_i Hhb76.out]]
                        exact ⟨_, rfl, (by have h := (Hhl83.out.keep (kept_refl _)); rw [List.length_append] at h; exact h), (kept_trans KB39.out (kept_trans Kk78.out Kk85.out))⟩
                    · have ec73 : (r == 26) = false := beq_eq_false_iff_ne.2 c73
                      have fc73 : (r != 26) = true := by rw [bne, ec73]; rfl
                      have Ec73 := Lib.hid ec73
                      have Hc73 := Lib.hid c73
                      clear c73
                      by_cases c86 : r = 27
                      · have ec86 : (r == 27) = true := beq_iff_eq.2 c86
                        have fc86 : (r != 27) = false := by rw [bne, ec86]; rfl
                        have Ec86 := Lib.hid ec86
                        have Hc86 := Lib.hid c86
                        clear c86
                        go_wp2_with (refine stop_load 34 (.tmp 10) rfl ?_)
                        intro _
                        refine wpList_load_part (w26.heap.size) (0) 34 (.tmp 10) #[.bool true, .int .i64 u.k, .int .i64 u.i, .int .i64 u.j, .int .i64 u.n, (.slice au u.kids.length cu), .int .i64 v.k, .int .i64 v.i, .int .i64 v.j, .int .i64 v.n, (.slice av v.kids.length cv), .int .i64 x.k, .int .i64 x.i, .int .i64 x.j, .int .i64 x.n, (.slice ax x.kids.length cx), .int .i64 i] dj HX45.out (by rfl) rfl (by rfl) (by rfl) dj1 (by cases dj <;> first | rfl | exact dj2) (by kernel_rfl) ?_
                        go_wp2_with fail
                        clear kvV0
                        clear kvW32
                        refine (ty1_any i u v x (Par w V0.heap.size (w26.heap.size :: []) P) W32 ((.slice au u.kids.length cu)) ((.slice av v.kids.length cv)) ((.slice ax x.kids.length cx)) Gu.out HL41.out Gv.out HL42.out Gx.out HL43.out Ri.out HI0.out HI1.out HPX.out).mono ?_
                        obtain ⟨rb90, hb89⟩ : ∃ qb, (osB x i) = qb := ⟨_, rfl⟩
                        rw [hb89]
                        have Hhb89 := Lib.hid hb89
                        clear hb89
                        rintro e w87 ⟨rfl, k88⟩
                        have Kk91 := Lib.hid k88
                        clear k88
                        cases rb90 with
                        | false =>
                          have kvV0 : SeesN V0 V0.heap.size w87 := seesN_kept _ (kept_trans KB40.out Kk91.out)
                          have kvW32 : SeesN W32 V0.heap.size w87 := seesN_kept _ Kk91.out
                          go_wp2
                          go_ret2
                          have hcl : rcls r = 1 := by unfold rcls; rw [Ec48.out, Ec52.out, Ec56.out, Ec60.out, Ec73.out, Ec86.out]; rfl
                          have he2 : (entB r (⟨true, u, v, x, i⟩ : Jd)).2 = false := by rw [entB_1 _ hcl]; exact Hhb89.out
                          rw [premB_ent Hhb16.out he2]
                          exact ⟨_, rfl, liesE_nil _, (kept_trans KB39.out Kk91.out)⟩
                        | true =>
                          have kvV0 : SeesN V0 V0.heap.size w87 := seesN_kept _ (kept_trans KB40.out Kk91.out)
                          have kvW32 : SeesN W32 V0.heap.size w87 := seesN_kept _ Kk91.out
                          go_wp2_with (refine stop_load 32 (.tmp 83) rfl ?_)
                          intro _
                          refine wpList_load_part (w26.heap.size) (1) 32 (.tmp 83) #[.int .i64 u.k, .int .i64 u.i, .int .i64 u.j, .int .i64 u.n, (.slice au u.kids.length cu)] du (blk_at HX45.out Kk91.out) (by rfl) rfl (by rfl) (by rfl) hu1 (by cases du <;> first | rfl | exact hu2) size_term ?_
                          go_wp2_with fail
                          clear kvV0
                          clear kvW32
                          refine (refadd_any c u (i - 1) _ _ ((.slice au u.kids.length cu)) (HEc.out.keep (kept_trans KB39.out Kk91.out)) (HL41.out.later Kk91.out).lies ⟨Gu.out, HR1.out⟩ HLEN.out).mono ?_
                          rintro e w92 ⟨g94, c95, rfl, hl96, k93⟩
                          have hc97 := liesE_cap hl96
                          have Hhl96 := Lib.hid hl96
                          clear hl96
                          have Kk98 := Lib.hid k93
                          clear k93
                          have kvV0 : SeesN V0 V0.heap.size w92 := seesN_kept _ (kept_trans KB40.out (kept_trans Kk91.out Kk98.out))
                          have kvW32 : SeesN W32 V0.heap.size w92 := seesN_kept _ (kept_trans Kk91.out Kk98.out)
                          go_wp2
                          go_ret2
                          have hcl : rcls r = 1 := by unfold rcls; rw [Ec48.out, Ec52.out, Ec56.out, Ec60.out, Ec73.out, Ec86.out]; rfl
                          have he2 : (entB r (⟨true, u, v, x, i⟩ : Jd)).2 = true := by rw [entB_1 _ hcl]; exact Hhb89.out
                          rw [premB_all (premB_in Ec9.out Ec13.out Hhb6.out) Hhb16.out Hhb28.out he2]
                          rw [show (entB r (⟨true, u, v, x, i⟩ : Jd)).1 = (⟨u, i - 1⟩ : En) from by rw [entB_1 _ hcl]; show (⟨u, x.i⟩ : En) = _; rw [os_i Hhb89.out]]
                          exact ⟨_, rfl, (by have h := (Hhl96.out.keep (kept_refl _)); rw [List.length_append] at h; exact h), (kept_trans KB39.out (kept_trans Kk91.out Kk98.out))⟩
                      · have ec86 : (r == 27) = false := beq_eq_false_iff_ne.2 c86
                        have fc86 : (r != 27) = true := by rw [bne, ec86]; rfl
                        have Ec86 := Lib.hid ec86
                        have Hc86 := Lib.hid c86
                        clear c86
                        by_cases c99 : r = 28
                        · have ec99 : (r == 28) = true := beq_iff_eq.2 c99
                          have fc99 : (r != 28) = false := by rw [bne, ec99]; rfl
                          have Ec99 := Lib.hid ec99
                          have Hc99 := Lib.hid c99
                          clear c99
                          go_wp2_with (refine stop_load 34 (.tmp 10) rfl ?_)
                          intro _
                          refine wpList_load_part (w26.heap.size) (0) 34 (.tmp 10) #[.bool true, .int .i64 u.k, .int .i64 u.i, .int .i64 u.j, .int .i64 u.n, (.slice au u.kids.length cu), .int .i64 v.k, .int .i64 v.i, .int .i64 v.j, .int .i64 v.n, (.slice av v.kids.length cv), .int .i64 x.k, .int .i64 x.i, .int .i64 x.j, .int .i64 x.n, (.slice ax x.kids.length cx), .int .i64 i] dj HX45.out (by rfl) rfl (by rfl) (by rfl) dj1 (by cases dj <;> first | rfl | exact dj2) (by kernel_rfl) ?_
                          go_wp2_with fail
                          clear kvV0
                          clear kvW32
                          refine (ty1_any i u v x (Par w V0.heap.size (w26.heap.size :: []) P) W32 ((.slice au u.kids.length cu)) ((.slice av v.kids.length cv)) ((.slice ax x.kids.length cx)) Gu.out HL41.out Gv.out HL42.out Gx.out HL43.out Ri.out HI0.out HI1.out HPX.out).mono ?_
                          obtain ⟨rb103, hb102⟩ : ∃ qb, (osB x i) = qb := ⟨_, rfl⟩
                          rw [hb102]
                          have Hhb102 := Lib.hid hb102
                          clear hb102
                          rintro e w100 ⟨rfl, k101⟩
                          have Kk104 := Lib.hid k101
                          clear k101
                          cases rb103 with
                          | false =>
                            have kvV0 : SeesN V0 V0.heap.size w100 := seesN_kept _ (kept_trans KB40.out Kk104.out)
                            have kvW32 : SeesN W32 V0.heap.size w100 := seesN_kept _ Kk104.out
                            go_wp2
                            go_ret2
                            have hcl : rcls r = 1 := by unfold rcls; rw [Ec48.out, Ec52.out, Ec56.out, Ec60.out, Ec73.out, Ec86.out, Ec99.out]; rfl
                            have he2 : (entB r (⟨true, u, v, x, i⟩ : Jd)).2 = false := by rw [entB_1 _ hcl]; exact Hhb102.out
                            rw [premB_ent Hhb16.out he2]
                            exact ⟨_, rfl, liesE_nil _, (kept_trans KB39.out Kk104.out)⟩
                          | true =>
                            have kvV0 : SeesN V0 V0.heap.size w100 := seesN_kept _ (kept_trans KB40.out Kk104.out)
                            have kvW32 : SeesN W32 V0.heap.size w100 := seesN_kept _ Kk104.out
                            go_wp2_with (refine stop_load 32 (.tmp 83) rfl ?_)
                            intro _
                            refine wpList_load_part (w26.heap.size) (1) 32 (.tmp 83) #[.int .i64 u.k, .int .i64 u.i, .int .i64 u.j, .int .i64 u.n, (.slice au u.kids.length cu)] du (blk_at HX45.out Kk104.out) (by rfl) rfl (by rfl) (by rfl) hu1 (by cases du <;> first | rfl | exact hu2) size_term ?_
                            go_wp2_with fail
                            clear kvV0
                            clear kvW32
                            refine (refadd_any c u (i - 1) _ _ ((.slice au u.kids.length cu)) (HEc.out.keep (kept_trans KB39.out Kk104.out)) (HL41.out.later Kk104.out).lies ⟨Gu.out, HR1.out⟩ HLEN.out).mono ?_
                            rintro e w105 ⟨g107, c108, rfl, hl109, k106⟩
                            have hc110 := liesE_cap hl109
                            have Hhl109 := Lib.hid hl109
                            clear hl109
                            have Kk111 := Lib.hid k106
                            clear k106
                            have kvV0 : SeesN V0 V0.heap.size w105 := seesN_kept _ (kept_trans KB40.out (kept_trans Kk104.out Kk111.out))
                            have kvW32 : SeesN W32 V0.heap.size w105 := seesN_kept _ (kept_trans Kk104.out Kk111.out)
                            go_wp2
                            go_ret2
                            have hcl : rcls r = 1 := by unfold rcls; rw [Ec48.out, Ec52.out, Ec56.out, Ec60.out, Ec73.out, Ec86.out, Ec99.out]; rfl
                            have he2 : (entB r (⟨true, u, v, x, i⟩ : Jd)).2 = true := by rw [entB_1 _ hcl]; exact Hhb102.out
                            rw [premB_all (premB_in Ec9.out Ec13.out Hhb6.out) Hhb16.out Hhb28.out he2]
                            rw [show (entB r (⟨true, u, v, x, i⟩ : Jd)).1 = (⟨u, i - 1⟩ : En) from by rw [entB_1 _ hcl]; show (⟨u, x.i⟩ : En) = _; rw [os_i Hhb102.out]]
                            exact ⟨_, rfl, (by have h := (Hhl109.out.keep (kept_refl _)); rw [List.length_append] at h; exact h), (kept_trans KB39.out (kept_trans Kk104.out Kk111.out))⟩
                        · have ec99 : (r == 28) = false := beq_eq_false_iff_ne.2 c99
                          have fc99 : (r != 28) = true := by rw [bne, ec99]; rfl
                          have Ec99 := Lib.hid ec99
                          have Hc99 := Lib.hid c99
                          clear c99
                          by_cases c112 : r = 23
                          · have ec112 : (r == 23) = true := beq_iff_eq.2 c112
                            have fc112 : (r != 23) = false := by rw [bne, ec112]; rfl
                            have Ec112 := Lib.hid ec112
                            have Hc112 := Lib.hid c112
                            clear c112
                            go_wp2_with (refine stop_load 32 (.tmp 93) rfl ?_)
                            intro _
                            refine wpList_load_part (w26.heap.size) (11) 32 (.tmp 93) #[.int .i64 x.k, .int .i64 x.i, .int .i64 x.j, .int .i64 x.n, (.slice ax x.kids.length cx)] du HX45.out (by rfl) rfl (by rfl) (by rfl) hu1 (by cases du <;> first | rfl | exact hu2) size_term ?_
                            go_wp2_with fail
                            clear kvV0
                            clear kvW32
                            refine (refadd_any c x i _ _ ((.slice ax x.kids.length cx)) (HEc.out.keep KB39.out) HL43.out.lies ⟨Gx.out, Ri.out⟩ HLEN.out).mono ?_
                            rintro e w113 ⟨g115, c116, rfl, hl117, k114⟩
                            have hc118 := liesE_cap hl117
                            have Hhl117 := Lib.hid hl117
                            clear hl117
                            have Kk119 := Lib.hid k114
                            clear k114
                            have kvV0 : SeesN V0 V0.heap.size w113 := seesN_kept _ (kept_trans KB40.out Kk119.out)
                            have kvW32 : SeesN W32 V0.heap.size w113 := seesN_kept _ Kk119.out
                            go_wp2
                            go_ret2
                            have hcl : rcls r = 2 := by unfold rcls; rw [Ec48.out, Ec52.out, Ec56.out, Ec60.out, Ec73.out, Ec86.out, Ec99.out]; rfl
                            have he2 : (entB r (⟨true, u, v, x, i⟩ : Jd)).2 = true := by rw [entB_2 _ hcl]; (try simp only []); rw [Ec112.out]; rfl
                            rw [premB_all (premB_in Ec9.out Ec13.out Hhb6.out) Hhb16.out Hhb28.out he2]
                            rw [show (entB r (⟨true, u, v, x, i⟩ : Jd)).1 = (⟨x, i⟩ : En) from by rw [entB_2 _ hcl]]
                            exact ⟨_, rfl, (by have h := (Hhl117.out.keep (kept_refl _)); rw [List.length_append] at h; exact h), (kept_trans KB39.out Kk119.out)⟩
                          · have ec112 : (r == 23) = false := beq_eq_false_iff_ne.2 c112
                            have fc112 : (r != 23) = true := by rw [bne, ec112]; rfl
                            have Ec112 := Lib.hid ec112
                            have Hc112 := Lib.hid c112
                            clear c112
                            go_wp2
                            go_ret2
                            have hcl : rcls r = 2 := by unfold rcls; rw [Ec48.out, Ec52.out, Ec56.out, Ec60.out, Ec73.out, Ec86.out, Ec99.out]; rfl
                            have he2 : (entB r (⟨true, u, v, x, i⟩ : Jd)).2 = false := by rw [entB_2 _ hcl]; (try simp only []); rw [Ec112.out]; rfl
                            rw [premB_ent Hhb16.out he2]
                            exact ⟨_, rfl, liesE_nil _, KB39.out⟩

theorem rpremise_any (c : List En) (on : List Jd) (r kid : Int) (w : World) (sc sj : Value) (hl : LiesE w c sc) (hj : LiesJ w on sj) (hrr : I64 r) (hrk : I64 kid) (hlen : c.length ≤ 100000) (hsz : ∀ e ∈ c, e.a.size ≤ 1000000) (hzj : ∀ j ∈ on, j.u.size ≤ 1000000 ∧ j.v.size ≤ 1000000 ∧ j.a.size ≤ 1000000) :
    Calls Try.prog 9 #[sc, .int .i64 r, .int .i64 kid, sj] w (GivesPr (premB c r kid on) w) := by
  obtain ⟨a, cap, S, rfl, hc, hm, hf, hn, hk⟩ := hj.out
  match on, hf, hn, hk, hzj with
  | [], _, _, _, _ => exact rpremiseN_any r kid c w sc a cap hl hrr hrk hlen hsz
  | ⟨eq, u, v, x, i⟩ :: rest, hf, hn, hk, hzj =>
    obtain ⟨b, o, rfl, hx⟩ := hn 0 (Nat.zero_lt_succ _)
    obtain ⟨C, T, fr, hC, hS⟩ := jnode_blk hx
    have hf0 := hf _ (List.mem_cons_self ..)
    have hk0 := hk 0 (Nat.zero_lt_succ _)
    have hz0 := hzj _ (List.mem_cons_self ..)
    rw [Nat.zero_mul, Nat.add_zero] at hS
    cases eq with
    | false => exact rpremise0_any r kid i c u v x (fun b => b < w.heap.size) w sc b o _ cap C T fr _ _ _ hl hrr hrk hf0.1 hk0.1.q hf0.2.1 hk0.2.1.q hf0.2.2.1 hk0.2.2.q hf0.2.2.2 hC hS (Nat.zero_lt_succ _) hlen hsz rest hz0.1 hz0.2.1 hz0.2.2
    | true => exact rpremise1_any r kid i c u v x (fun b => b < w.heap.size) w sc b o _ cap C T fr _ _ _ hl hrr hrk hf0.1 hk0.1.q hf0.2.1 hk0.2.1.q hf0.2.2.1 hk0.2.2.q hf0.2.2.2 hC hS (Nat.zero_lt_succ _) hlen hsz rest hz0.1 hz0.2.1 hz0.2.2
end Go.Proofs.Ytjlppnmckobcfaa

namespace Go.Proofs.Ytjlppnmckobcfaa
open Go.RowKit

set_option maxRecDepth 20000 in
set_option maxHeartbeats 4000000 in
theorem premiseExact_any (r : Int) (kid : Int) (c : List En) (on : List Jd) (w : World) (sc : Value) (son : Value) (hlc : LiesE w c sc) (hrr : I64 r) (hrkid : I64 kid) (hlon : LiesJ w on son) : Calls Try.prog 3 #[sc, .int .i64 r, .int .i64 kid, son] w fun e w' => e = .returned (.bool true) ∧ Kept w w' := by
  have HEc := Lib.hid hlc
  obtain ⟨ac, cc, Sc, rfl, -⟩ := hlc.out
  clear hlc
  have Rr := Lib.hid hrr
  clear hrr
  have Rkid := Lib.hid hrkid
  clear hrkid
  have HEon := Lib.hid hlon
  obtain ⟨aon, con, Son, rfl, -⟩ := hlon.out
  clear hlon
  obtain ⟨D, hD⟩ : ∃ D, premB c r kid on = D := ⟨_, rfl⟩
  have HD := Lib.hid hD
  clear hD
  go_enter Try.func3, Try.ntmps3
  go_upto_region 1 with fail
  refine at_code (fun V0 hV0 => ?_)
  have k1 : Kept w V0 := by rw [← hV0]; exact kept_refl _
  have Z0 : Hid (V0.heap.size = w.heap.size + 0) := by show _ = _; rw [← hV0]; rfl
  clear hV0
  have Kk3 := Lib.hid k1
  clear k1
  have kvV0 : SeesN V0 V0.heap.size V0 := seesN_kept _ (kept_refl _)
  go_wp2_with fail
  clear kvV0
  refine (lheavy15_any c on _ ((.slice ac c.length cc)) ((.slice aon on.length con)) (HEc.out.keep Kk3.out) (HEon.out.keep Kk3.out)).mono ?_
  rintro e w4 ⟨gb6, rfl, hg7, k5⟩
  have Hhg7 := Lib.hid hg7
  clear hg7
  have Kk8 := Lib.hid k5
  clear k5
  cases gb6 with
  | false =>
    have HIhg7 := Lib.hid (Hhg7.out rfl)
    have kvV0 : SeesN V0 V0.heap.size w4 := seesN_kept _ Kk8.out
    go_wp2_with fail
    clear kvV0
    have hq11 := premise_any c on r kid w4 _ _ (HEc.out.keep (kept_trans Kk3.out Kk8.out)) (HEon.out.keep (kept_trans Kk3.out Kk8.out)) Rr.out Rkid.out (Nat.le_trans HIhg7.out.1.1 (by decide)) (fun e he => Nat.le_trans (HIhg7.out.1.2 e he) (by decide)) (fun j hj => have h := HIhg7.out.2.2 j hj; ⟨Nat.le_trans h.1 (by decide), Nat.le_trans h.2.2 (by decide)⟩)
    rw [HD.out] at hq11
    refine hq11.mono ?_
    clear hq11
    rintro e w9 ⟨s12, rfl, hl13, k10⟩
    obtain ⟨a14, c15, S16, rfl, -⟩ := hl13.out
    have Hhl13 := Lib.hid hl13
    clear hl13
    have Kk17 := Lib.hid k10
    clear k10
    have kvV0 : SeesN V0 V0.heap.size w9 := seesN_kept _ (kept_trans Kk8.out Kk17.out)
    go_wp2_with fail
    clear kvV0
    have hq20 := rpremise_any c on r kid w9 _ _ (HEc.out.keep (kept_trans Kk3.out (kept_trans Kk8.out Kk17.out))) (HEon.out.keep (kept_trans Kk3.out (kept_trans Kk8.out Kk17.out))) Rr.out Rkid.out (Nat.le_trans HIhg7.out.1.1 (by decide)) (fun e he => Nat.le_trans (HIhg7.out.1.2 e he) (by decide)) (fun j hj => have h := HIhg7.out.2.2 j hj; ⟨Nat.le_trans h.1 (by decide), Nat.le_trans h.2.1 (by decide), Nat.le_trans h.2.2 (by decide)⟩)
    rw [HD.out] at hq20
    refine hq20.mono ?_
    clear hq20
    rintro e w18 ⟨s21, rfl, hl22, k19⟩
    obtain ⟨a23, c24, S25, rfl, -⟩ := hl22.out
    have Hhl22 := Lib.hid hl22
    clear hl22
    have Kk26 := Lib.hid k19
    clear k19
    have kvV0 : SeesN V0 V0.heap.size w18 := seesN_kept _ (kept_trans Kk8.out (kept_trans Kk17.out Kk26.out))
    go_wp2_with fail
    clear kvV0
    have hq29 := keepctx_any D.1 D.1 w18 _ _ (Hhl13.out.keep Kk26.out) (Hhl22.out.keep (kept_refl _))
    rw [ctxB_self D.1] at hq29
    refine hq29.mono ?_
    clear hq29
    rintro e w27 ⟨rfl, k28⟩
    have Kk30 := Lib.hid k28
    clear k28
    have kvV0 : SeesN V0 V0.heap.size w27 := seesN_kept _ (kept_trans Kk8.out (kept_trans Kk17.out (kept_trans Kk26.out Kk30.out)))
    go_wp2_with fail
    clear kvV0
    refine (wakes15_any _).mono ?_
    rintro e w31 ⟨rfl, k32⟩
    have Kk33 := Lib.hid k32
    clear k32
    have kvV0 : SeesN V0 V0.heap.size w31 := seesN_kept _ (kept_trans Kk8.out (kept_trans Kk17.out (kept_trans Kk26.out (kept_trans Kk30.out Kk33.out))))
    go_wp2
    go_ret
    exact ⟨rfl, (kept_trans Kk3.out (kept_trans Kk8.out (kept_trans Kk17.out (kept_trans Kk26.out (kept_trans Kk30.out Kk33.out)))))⟩
  | true =>
    have kvV0 : SeesN V0 V0.heap.size w4 := seesN_kept _ Kk8.out
    go_wp2
    go_ret
    exact ⟨rfl, (kept_trans Kk3.out Kk8.out)⟩

end Go.Proofs.Ytjlppnmckobcfaa

namespace Go.Proofs.Ytjlppnmckobcfaa
open Go.ChangeShapes Go.WideShapes Go.ChangeAt Go.RowKit

theorem own : ownKnob Try.prog.godebug = none := by kernel_rfl
theorem cells_int : Try.prog.cellsOf 3 = 1 := by kernel_rfl
theorem cells_kids : Try.prog.cellsOf 30 = 1 := by kernel_rfl
theorem cells_term : Try.prog.cellsOf 32 = 5 := by kernel_rfl
theorem laidOut : laidOutB Try.prog = true := by kernel_rfl

instance instOpenTm : Inhabited (Tm × Value) := ⟨(.mk 0 0 0 0 [], .nilIface)⟩

theorem list5 {α : Type} {l : List α} (h : l.length = 5) : ∃ a b c d e, l = [a, b, c, d, e] := by
  match l, h with
  | [a, b, c, d, e], _ => exact ⟨a, b, c, d, e, rfl⟩

theorem wf_I64 {x : Int} (h : (Lit.int .i64 x).wf = true) : I64 x := by
  simp [Lit.wf] at h
  have hm : IntKind.i64.min = -9223372036854775808 := by decide
  rw [hm] at h
  exact h

set_option maxRecDepth 100000 in
theorem open_term {H : Type} {enc : TypeId × Value → H} {w : World} {base : Nat} {sp : Nat → Bool} {hd : Bool} : ∀ (fuel : Nat) (cs : List Value) (x : DataW H × List MemPlace),
    DataW.trod enc Try.prog w base sp hd fuel 32 cs = some x → ∃ (t : Tm) (s : Value), cs = [.int .i64 t.k, .int .i64 t.i, .int .i64 t.j, .int .i64 t.n, s] ∧ t.fine ∧ Lies w t.kids s := by
  intro fuel
  induction fuel using Nat.strongRecOn with
  | _ fuel ih =>
    intro cs x h
    obtain ⟨xs, n, rfl, rfl, hl, hlen, hf⟩ := DataW.trod_struct Try.underlying32 h
    rw [cells_term] at hl
    obtain ⟨v0, v1, v2, v3, v4, rfl⟩ := list5 hl
    obtain ⟨y0, y1, y2, y3, y4, rfl⟩ := list5 hlen
    have g0 := hf 0 _ rfl
    have g1 := hf 1 _ rfl
    have g2 := hf 2 _ rfl
    have g3 := hf 3 _ rfl
    have g4 := hf 4 _ rfl
    simp [cells_int, cells_kids] at g0 g1 g2 g3 g4
    obtain ⟨k, e0, -, w0⟩ := DataW.trod_int Try.underlying3 g0
    obtain ⟨i, e1, -, w1⟩ := DataW.trod_int Try.underlying3 g1
    obtain ⟨j, e2, -, w2⟩ := DataW.trod_int Try.underlying3 g2
    obtain ⟨m, e3, -, w3⟩ := DataW.trod_int Try.underlying3 g3
    simp at e0 e1 e2 e3
    subst e0 e1 e2 e3
    rcases DataW.trod_slice Try.underlying30 g4 with ⟨e4, -⟩ | ⟨a, len, cap, elems, rest, n', rfl, e4, -, hb, hlc, hm, hlen', hel, -, -⟩
    · simp at e4
      subst e4
      exact ⟨.mk k i j m [], _, rfl, ⟨wf_I64 w0, wf_I64 w1, wf_I64 w2, wf_I64 w3⟩, .mk [] none 0 (fun _ => .nilIface) (Nat.le_refl _) (by decide) (fun _ h => by cases h) (fun _ h => by cases h) (fun _ h => by cases h)⟩
    · simp at e4
      subst e4
      have key : ∀ i, i < len → ∃ p : Tm × Value, p.1.fine ∧ Lies w p.1.kids p.2 ∧ ∃ b o, a = ⟨b, o, none⟩ ∧ Node w b (o + i * 5) p.1 p.2 := by
        intro i hi
        have h1 := hel i hi
        rw [cells_term, List.getElem?_eq_getElem (by omega)] at h1
        obtain ⟨cs', h2, h3⟩ := Option.bind_eq_some_iff.1 h1
        obtain ⟨t, s, rfl, hfine, hlies⟩ := ih n' (by omega) _ _ h3
        obtain ⟨-, -, hcell⟩ := World.cells?_some h2
        have hs0 : a.spot = none := by
          have h1 := hel 0 (by omega)
          rw [cells_term, List.getElem?_eq_getElem (by omega)] at h1
          obtain ⟨cs0, h2, -⟩ := Option.bind_eq_some_iff.1 h1
          obtain ⟨-, hl0, hc0⟩ := World.cells?_some h2
          have c0 := hc0 0 (by omega)
          rw [List.getElem?_eq_getElem (by omega)] at c0
          simpa [Addr.add] using World.cell?_spot c0
        obtain ⟨b, o, spot⟩ := a
        simp only at hs0
        subst hs0
        refine ⟨(t, s), hfine, hlies, b, o, rfl, ?_⟩
        have hc : ∀ q, q < 5 → w.cell? ⟨b, o + i * 5 + q, none⟩ = [Value.int .i64 t.k, .int .i64 t.i, .int .i64 t.j, .int .i64 t.n, s][q]? := fun q hq => by
          have := hcell q hq
          rwa [add_plain, add_plain] at this
        exact ⟨hc 0 (by omega), hc 1 (by omega), hc 2 (by omega), hc 3 (by omega), hc 4 (by omega)⟩
      obtain ⟨f, hf'⟩ := Go.Deep.choose_lt (α := Tm × Value) (p := fun i p => p.1.fine ∧ Lies w p.1.kids p.2 ∧ ∃ b o, a = ⟨b, o, none⟩ ∧ Node w b (o + i * 5) p.1 p.2) key
      have hl5 : ((List.range len).map fun i => (f i).1).length = len := by simp
      refine ⟨.mk k i j m ((List.range len).map fun i => (f i).1), _, rfl, ⟨wf_I64 w0, wf_I64 w1, wf_I64 w2, wf_I64 w3⟩, ?_⟩
      have := Lies.mk (w := w) ((List.range len).map fun i => (f i).1) (some a) cap (fun i => (f i).2) (by simpa using hlc) hm
        (fun x hx => by
          obtain ⟨i, hi, rfl⟩ := List.mem_map.1 hx
          exact (hf' i (List.mem_range.1 hi)).1)
        (fun i hi => by
          obtain ⟨b, o, ha, hn⟩ := (hf' i (by simpa using hi)).2.2
          exact ⟨b, o, by rw [ha], by simpa using hn⟩)
        (fun i hi => by simpa using (hf' i (by simpa using hi)).2.1)
      rwa [hl5] at this
end Go.Proofs.Ytjlppnmckobcfaa

namespace Go.Proofs.Ytjlppnmckobcfaa
open Go.ChangeShapes Go.WideShapes Go.ChangeAt Go.RowKit

theorem cells_entry : Try.prog.cellsOf 52 = 6 := by kernel_rfl
instance instOpenEn : Inhabited (En × Value) := ⟨(⟨.mk 0 0 0 0 [], 0⟩, .nilIface)⟩
theorem list6 {α : Type} {l : List α} (h : l.length = 6) : ∃ a b c d e f, l = [a, b, c, d, e, f] := by
  match l, h with
  | [a, b, c, d, e, f], _ => exact ⟨a, b, c, d, e, f, rfl⟩
theorem list2 {α : Type} {l : List α} (h : l.length = 2) : ∃ a b, l = [a, b] := by
  match l, h with
  | [a, b], _ => exact ⟨a, b, rfl⟩

set_option maxRecDepth 100000 in
theorem open_entry {H : Type} {enc : TypeId × Value → H} {w : World} {base : Nat} {sp : Nat → Bool} {hd : Bool} (fuel : Nat) (cs : List Value) (x : DataW H × List MemPlace)
    (h : DataW.trod enc Try.prog w base sp hd fuel 52 cs = some x) : ∃ (e : En) (s : Value), cs = [.int .i64 e.a.k, .int .i64 e.a.i, .int .i64 e.a.j, .int .i64 e.a.n, s, .int .i64 e.i] ∧ e.fine ∧ Lies w e.a.kids s := by
  obtain ⟨xs, n, rfl, rfl, hl, hlen, hf⟩ := DataW.trod_struct Try.underlying52 h
  rw [cells_entry] at hl
  obtain ⟨v0, v1, v2, v3, v4, v5, rfl⟩ := list6 hl
  obtain ⟨y0, y1, rfl⟩ := list2 hlen
  have g0 := hf 0 _ rfl
  have g1 := hf 1 _ rfl
  simp [cells_int, cells_term] at g0 g1
  obtain ⟨t, s, hcs, hfine, hlies⟩ := open_term n _ _ g0
  obtain ⟨i, e1, -, w1⟩ := DataW.trod_int Try.underlying3 g1
  simp at e1 hcs
  subst e1
  obtain ⟨rfl, rfl, rfl, rfl, rfl⟩ := hcs
  exact ⟨⟨t, i⟩, v4, rfl, ⟨hfine, wf_I64 w1⟩, hlies⟩

set_option maxRecDepth 100000 in
theorem open_argE {H : Type} {enc : TypeId × Value → H} {w : World} {r : Reach} {b0 base : Nat} {sp : Nat → Bool} {hd : Bool} {v : Value} {d : DataW H} {p : List MemPlace} (hv : Value.okWide Try.prog w r b0 22 v)
    (h : DataW.Trod enc Try.prog w base sp hd 22 v d p) : ∃ l : List En, LiesE w l v := by
  obtain ⟨a0, len0, cap0, rfl⟩ := okWide_slice Try.underlying22 hv
  obtain ⟨fuel, hf⟩ := h
  rcases DataW.trod_slice Try.underlying22 hf with ⟨e4, -⟩ | ⟨a, len, cap, elems, rest, n', rfl, e4, -, hb, hlc, hm, hlen', hel, -, -⟩
  · simp [Value.cells] at e4
    obtain ⟨rfl, rfl, rfl⟩ := e4
    exact ⟨[], liesE_nil _⟩
  · simp [Value.cells] at e4
    obtain ⟨rfl, rfl, rfl⟩ := e4
    have key : ∀ i, i < len0 → ∃ p : En × Value, p.1.fine ∧ Lies w p.1.a.kids p.2 ∧ ∃ b o, a = ⟨b, o, none⟩ ∧ ENode w b (o + i * 6) p.1 p.2 := by
      intro i hi
      have h1 := hel i hi
      rw [cells_entry, List.getElem?_eq_getElem (by omega)] at h1
      obtain ⟨cs', h2, h3⟩ := Option.bind_eq_some_iff.1 h1
      obtain ⟨t, s, rfl, hfine, hlies⟩ := open_entry n' _ _ h3
      obtain ⟨-, -, hcell⟩ := World.cells?_some h2
      have hs0 : a.spot = none := by
        have h1 := hel 0 (by omega)
        rw [cells_entry, List.getElem?_eq_getElem (by omega)] at h1
        obtain ⟨cs0, h2, -⟩ := Option.bind_eq_some_iff.1 h1
        obtain ⟨-, hl0, hc0⟩ := World.cells?_some h2
        have c0 := hc0 0 (by omega)
        rw [List.getElem?_eq_getElem (by omega)] at c0
        simpa [Addr.add] using World.cell?_spot c0
      obtain ⟨b, o, spot⟩ := a
      simp only at hs0
      subst hs0
      refine ⟨(t, s), hfine, hlies, b, o, rfl, ?_⟩
      have hc : ∀ q, q < 6 → w.cell? ⟨b, o + i * 6 + q, none⟩ = [Value.int .i64 t.a.k, .int .i64 t.a.i, .int .i64 t.a.j, .int .i64 t.a.n, s, .int .i64 t.i][q]? := fun q hq => by
        have := hcell q hq
        rwa [add_plain, add_plain] at this
      exact ⟨hc 0 (by omega), hc 1 (by omega), hc 2 (by omega), hc 3 (by omega), hc 4 (by omega), hc 5 (by omega)⟩
    obtain ⟨f, hf'⟩ := Go.Deep.choose_lt (α := En × Value) (p := fun i p => p.1.fine ∧ Lies w p.1.a.kids p.2 ∧ ∃ b o, a = ⟨b, o, none⟩ ∧ ENode w b (o + i * 6) p.1 p.2) key
    have hl5 : ((List.range len0).map fun i => (f i).1).length = len0 := by simp
    refine ⟨(List.range len0).map fun i => (f i).1, some a, cap0, (fun i => (f i).2), by rw [hl5], by simpa using hlc, hm, ?_, ?_, ?_⟩
    · intro x hx
      obtain ⟨i, hi, rfl⟩ := List.mem_map.1 hx
      exact (hf' i (List.mem_range.1 hi)).1
    · intro i hi
      obtain ⟨b, o, ha, hn⟩ := (hf' i (by simpa using hi)).2.2
      exact ⟨b, o, by rw [ha], by simpa using hn⟩
    · intro i hi
      simpa using (hf' i (by simpa using hi)).2.1
end Go.Proofs.Ytjlppnmckobcfaa

namespace Go.Proofs.Ytjlppnmckobcfaa
open Go.ChangeShapes Go.WideShapes Go.ChangeAt Go.RowKit

theorem cells_judg : Try.prog.cellsOf 34 = 17 := by kernel_rfl
theorem cells_bool : Try.prog.cellsOf 4 = 1 := by kernel_rfl
theorem list17 {α : Type} {l : List α} (h : l.length = 17) : ∃ v0 v1 v2 v3 v4 v5 v6 v7 v8 v9 v10 v11 v12 v13 v14 v15 v16, l = [v0, v1, v2, v3, v4, v5, v6, v7, v8, v9, v10, v11, v12, v13, v14, v15, v16] := by
  match l, h with
  | [v0, v1, v2, v3, v4, v5, v6, v7, v8, v9, v10, v11, v12, v13, v14, v15, v16], _ => exact ⟨v0, v1, v2, v3, v4, v5, v6, v7, v8, v9, v10, v11, v12, v13, v14, v15, v16, rfl⟩
set_option maxRecDepth 100000 in
theorem open_judg {H : Type} {enc : TypeId × Value → H} {w : World} {base : Nat} {sp : Nat → Bool} {hd : Bool} (fuel : Nat) (cs : List Value) (x : DataW H × List MemPlace)
    (h : DataW.trod enc Try.prog w base sp hd fuel 34 cs = some x) : ∃ (j : Jd) (su sv sa : Value), cs = [.bool j.eq, .int .i64 j.u.k, .int .i64 j.u.i, .int .i64 j.u.j, .int .i64 j.u.n, su, .int .i64 j.v.k, .int .i64 j.v.i, .int .i64 j.v.j, .int .i64 j.v.n, sv, .int .i64 j.a.k, .int .i64 j.a.i, .int .i64 j.a.j, .int .i64 j.a.n, sa, .int .i64 j.i] ∧ j.fine ∧ JLies w j su sv sa := by
  obtain ⟨xs, n, rfl, rfl, hl, hlen, hf⟩ := DataW.trod_struct Try.underlying34 h
  rw [cells_judg] at hl
  obtain ⟨v0, v1, v2, v3, v4, v5, v6, v7, v8, v9, v10, v11, v12, v13, v14, v15, v16, rfl⟩ := list17 hl
  obtain ⟨y0, y1, y2, y3, y4, rfl⟩ := list5 hlen
  have g0 := hf 0 _ rfl
  have g1 := hf 1 _ rfl
  have g2 := hf 2 _ rfl
  have g3 := hf 3 _ rfl
  have g4 := hf 4 _ rfl
  simp [cells_int, cells_term, cells_bool] at g0 g1 g2 g3 g4
  obtain ⟨e, he, -⟩ := DataW.trod_bool Try.underlying4 g0
  obtain ⟨tu, su, hcu, hfu, hlu⟩ := open_term n _ _ g1
  obtain ⟨tv, sv, hcv, hfv, hlv⟩ := open_term n _ _ g2
  obtain ⟨ta, sa, hca, hfa, hla⟩ := open_term n _ _ g3
  obtain ⟨i, ei, -, wi⟩ := DataW.trod_int Try.underlying3 g4
  simp at he ei hcu hcv hca
  subst he ei
  obtain ⟨rfl, rfl, rfl, rfl, rfl⟩ := hcu
  obtain ⟨rfl, rfl, rfl, rfl, rfl⟩ := hcv
  obtain ⟨rfl, rfl, rfl, rfl, rfl⟩ := hca
  exact ⟨⟨e, tu, tv, ta, i⟩, _, _, _, rfl, ⟨hfu, hfv, hfa, wf_I64 wi⟩, hlu, hlv, hla⟩
end Go.Proofs.Ytjlppnmckobcfaa

namespace Go.Proofs.Ytjlppnmckobcfaa
open Go.ChangeShapes Go.WideShapes Go.ChangeAt Go.RowKit

instance instOpenJd : Inhabited (Jd × (Value × Value × Value)) := ⟨(⟨false, .mk 0 0 0 0 [], .mk 0 0 0 0 [], .mk 0 0 0 0 [], 0⟩, (.nilIface, .nilIface, .nilIface))⟩
theorem liesJ_nil (w : World) : LiesJ w [] (.slice none 0 0) := ⟨none, 0, fun _ => (.nilIface, .nilIface, .nilIface), rfl, Nat.le_refl _, by decide, (fun _ h => by cases h), (fun _ h => by cases h), (fun _ h => by cases h)⟩
set_option maxRecDepth 100000 in
theorem open_argJs {H : Type} {enc : TypeId × Value → H} {w : World} {r : Reach} {b0 base : Nat} {sp : Nat → Bool} {hd : Bool} {v : Value} {d : DataW H} {p : List MemPlace} (hv : Value.okWide Try.prog w r b0 23 v)
    (h : DataW.Trod enc Try.prog w base sp hd 23 v d p) : ∃ l : List Jd, LiesJ w l v := by
  obtain ⟨a0, len0, cap0, rfl⟩ := okWide_slice Try.underlying23 hv
  obtain ⟨fuel, hf⟩ := h
  rcases DataW.trod_slice Try.underlying23 hf with ⟨e4, -⟩ | ⟨a, len, cap, elems, rest, n', rfl, e4, -, hb, hlc, hm, hlen', hel, -, -⟩
  · simp [Value.cells] at e4
    obtain ⟨rfl, rfl, rfl⟩ := e4
    exact ⟨[], liesJ_nil _⟩
  · simp [Value.cells] at e4
    obtain ⟨rfl, rfl, rfl⟩ := e4
    have key : ∀ i, i < len0 → ∃ p : Jd × (Value × Value × Value), p.1.fine ∧ JLies w p.1 p.2.1 p.2.2.1 p.2.2.2 ∧ ∃ b o, a = ⟨b, o, none⟩ ∧ JNode w b (o + i * 17) p.1 p.2.1 p.2.2.1 p.2.2.2 := by
      intro i hi
      have h1 := hel i hi
      rw [cells_judg, List.getElem?_eq_getElem (by omega)] at h1
      obtain ⟨cs', h2, h3⟩ := Option.bind_eq_some_iff.1 h1
      obtain ⟨t, su, sv, sa, rfl, hfine, hlies⟩ := open_judg n' _ _ h3
      obtain ⟨-, -, hcell⟩ := World.cells?_some h2
      have hs0 : a.spot = none := by
        have h1 := hel 0 (by omega)
        rw [cells_judg, List.getElem?_eq_getElem (by omega)] at h1
        obtain ⟨cs0, h2, -⟩ := Option.bind_eq_some_iff.1 h1
        obtain ⟨-, hl0, hc0⟩ := World.cells?_some h2
        have c0 := hc0 0 (by omega)
        rw [List.getElem?_eq_getElem (by omega)] at c0
        simpa [Addr.add] using World.cell?_spot c0
      obtain ⟨b, o, spot⟩ := a
      simp only at hs0
      subst hs0
      refine ⟨(t, (su, sv, sa)), hfine, hlies, b, o, rfl, ?_⟩
      have hc : ∀ q, q < 17 → w.cell? ⟨b, o + i * 17 + q, none⟩ = [Value.bool t.eq, .int .i64 t.u.k, .int .i64 t.u.i, .int .i64 t.u.j, .int .i64 t.u.n, su, .int .i64 t.v.k, .int .i64 t.v.i, .int .i64 t.v.j, .int .i64 t.v.n, sv, .int .i64 t.a.k, .int .i64 t.a.i, .int .i64 t.a.j, .int .i64 t.a.n, sa, .int .i64 t.i][q]? := fun q hq => by
        have := hcell q hq
        rwa [add_plain, add_plain] at this
      exact ⟨hc 0 (by omega), hc 1 (by omega), hc 2 (by omega), hc 3 (by omega), hc 4 (by omega), hc 5 (by omega), hc 6 (by omega), hc 7 (by omega), hc 8 (by omega), hc 9 (by omega), hc 10 (by omega), hc 11 (by omega), hc 12 (by omega), hc 13 (by omega), hc 14 (by omega), hc 15 (by omega), hc 16 (by omega)⟩
    obtain ⟨f, hf'⟩ := Go.Deep.choose_lt (α := Jd × (Value × Value × Value)) (p := fun i p => p.1.fine ∧ JLies w p.1 p.2.1 p.2.2.1 p.2.2.2 ∧ ∃ b o, a = ⟨b, o, none⟩ ∧ JNode w b (o + i * 17) p.1 p.2.1 p.2.2.1 p.2.2.2) key
    have hl5 : ((List.range len0).map fun i => (f i).1).length = len0 := by simp
    refine ⟨(List.range len0).map fun i => (f i).1, some a, cap0, (fun i => (f i).2), by rw [hl5], by simpa using hlc, hm, ?_, ?_, ?_⟩
    · intro x hx
      obtain ⟨i, hi, rfl⟩ := List.mem_map.1 hx
      exact (hf' i (List.mem_range.1 hi)).1
    · intro i hi
      obtain ⟨b, o, ha, hn⟩ := (hf' i (by simpa using hi)).2.2
      exact ⟨b, o, by rw [ha], by simpa using hn⟩
    · intro i hi
      simpa using (hf' i (by simpa using hi)).2.1
end Go.Proofs.Ytjlppnmckobcfaa

namespace Go.Proofs.Ytjlppnmckobcfaa
open Go.ChangeShapes Go.WideShapes

def code (l : List Nat) : List Char := l.map Char.ofNat
def joinN : List (List Nat) → List Nat
  | [] => []
  | [a] => a
  | a :: b :: r => a ++ 32 :: joinN (b :: r)

theorem words_one : ∀ a : List Nat, (a.all fun n => Char.ofNat n != Char.ofNat 32) = true → wordsSigns (code a) = [code a]
  | [], _ => rfl
  | n :: a, h => by
    simp only [List.all_cons, Bool.and_eq_true, bne_iff_ne] at h
    have ih := words_one a h.2
    show wordsSigns (Char.ofNat n :: code a) = _
    rw [wordsSigns]
    · rw [ih]; rfl
    · exact h.1
theorem words_more : ∀ (a : List Nat) (r : List Char), (a.all fun n => Char.ofNat n != Char.ofNat 32) = true → wordsSigns (code a ++ Char.ofNat 32 :: r) = code a :: wordsSigns r
  | [], r, _ => by
    show wordsSigns (Char.ofNat 32 :: r) = _
    rw [show Char.ofNat 32 = _ from rfl, wordsSigns]; rfl
  | n :: a, r, h => by
    simp only [List.all_cons, Bool.and_eq_true, bne_iff_ne] at h
    have ih := words_more a r h.2
    show wordsSigns (Char.ofNat n :: (code a ++ Char.ofNat 32 :: r)) = _
    rw [wordsSigns]
    · rw [ih]; rfl
    · exact h.1
theorem words_join : ∀ ws : List (List Nat), ws ≠ [] → (ws.all fun w => w.all fun n => Char.ofNat n != Char.ofNat 32) = true → wordsSigns (code (joinN ws)) = ws.map code
  | [], h, _ => absurd rfl h
  | [a], _, h => by simp only [List.all_cons, List.all_nil, Bool.and_true] at h; exact words_one a h
  | a :: b :: r, _, h => by
    have h' := h
    rw [List.all_cons, Bool.and_eq_true] at h'
    have ih := words_join (b :: r) (by simp) h'.2
    show wordsSigns (code (a ++ 32 :: joinN (b :: r))) = _
    rw [show code (a ++ 32 :: joinN (b :: r)) = code a ++ Char.ofNat 32 :: code (joinN (b :: r)) from by simp [code], words_more a _ h'.1, ih]; rfl

def cutWords : List (List Nat) := [[104, 97, 114, 110, 101, 115, 115],
  [53, 51, 99, 49, 102, 98, 57, 98, 51, 97, 52, 49, 101, 52, 53, 56, 97, 102, 52, 48, 48, 52, 56, 50, 53, 54, 51, 100, 99, 49, 99, 51, 53, 49, 50, 99, 57, 54, 97, 98, 49, 102, 50, 51, 99, 55, 102, 102, 97, 54, 49, 97, 97, 52, 99, 99, 52, 101, 100, 101, 50, 99, 101, 51],
  [99, 117, 116],
  [97, 116],
  [116, 114, 97, 110, 115, 104, 105, 112, 47, 116, 114, 97, 110, 115, 104, 105, 112, 108, 97, 119, 49, 53, 46, 80, 114, 101, 109, 105, 115, 101, 69, 120, 97, 99, 116],
  [116, 114, 97, 110, 115, 104, 105, 112, 47, 116, 114, 97, 110, 115, 104, 105, 112, 108, 97, 119, 49, 53, 46, 82, 117, 108, 101, 82, 105, 103, 104, 116],
  [116, 114, 97, 110, 115, 104, 105, 112, 47, 116, 114, 97, 110, 115, 104, 105, 112, 108, 97, 119, 49, 53, 46, 82, 117, 108, 101, 84, 117, 114, 110, 101, 100],
  [116, 114, 97, 110, 115, 104, 105, 112, 47, 116, 114, 97, 110, 115, 104, 105, 112, 108, 97, 119, 49, 53, 46, 82, 117, 108, 101, 76, 101, 118, 101, 108, 115]]

set_option maxRecDepth 100000 in
theorem cut_words : wordsSigns Try.prog.initOrder.toList = cutWords.map code := by
  have h : Try.prog.initOrder.toList = code (joinN cutWords) := by
    show (String.ofList (code (joinN cutWords))).toList = _
    exact String.toList_ofList
  rw [h]
  exact words_join cutWords (by simp [cutWords]) (by decide +kernel)

theorem cut_behind : behindMainWord (cutWords.map code) = code [99, 117, 116] :: cutWords.tail.tail.tail.map code := by kernel_rfl
theorem cut_lifts : stripLifts liftWords (code [99, 117, 116] :: cutWords.tail.tail.tail.map code) = ([], code [99, 117, 116] :: cutWords.tail.tail.tail.map code) := by kernel_rfl
theorem cut1 : (code [99, 117, 116] == "gc".toList) = false := by kernel_rfl
theorem cut2 : (code [99, 117, 116] == "spec".toList) = false := by kernel_rfl
theorem cut3 : (code [99, 117, 116] == "cut".toList) = true := by kernel_rfl
theorem cut_all : behindMainWord (wordsSigns Try.prog.initOrder.toList) = code [99, 117, 116] :: cutWords.tail.tail.tail.map code := by rw [cut_words, cut_behind]
theorem make_of (P : Program) {c : List Char} {rest : List (List Char)} (h : behindMainWord (wordsSigns P.initOrder.toList) = c :: rest) (h1 : (c == "gc".toList) = false) (h2 : (c == "spec".toList) = false) (h3 : (c == "cut".toList) = true) : P.make = some .cut := by
  unfold Program.make; rw [h]
  simp only [h1, h2, h3, Bool.or_self, Bool.false_eq_true, if_false, Bool.true_or, if_true]
theorem mayEnter_of (P : Program) {c : List Char} {rest : List (List Char)} (h : behindMainWord (wordsSigns P.initOrder.toList) = c :: rest) (h3 : ((stripLifts liftWords (c :: rest)).2.head? == some "cut".toList) = true)
    (h4 : (stripLifts liftWords (c :: rest)).1 = []) (h5 : P.laysLater = false) (h6 : P.bearsReflect = false) (h7 : P.doorFits [] = true) : P.mayEnter = true := by
  unfold Program.mayEnter; rw [h]
  refine Bool.or_eq_true_iff.2 (Or.inr ?_)
  rw [h3, h4, h5, h6, h7]; rfl
theorem row_make : Try.prog.make = some .cut := make_of Try.prog cut_all cut1 cut2 cut3
theorem row_mayEnter : Try.prog.mayEnter = true := mayEnter_of Try.prog cut_all (by rw [cut_lifts]; kernel_rfl) (by rw [cut_lifts]) (by kernel_rfl) (by kernel_rfl) (by kernel_rfl)
theorem row_lifts : Try.prog.liftsFinal = false := by unfold Program.liftsFinal Program.headLifts; rw [cut_all, cut_lifts]; kernel_rfl
end Go.Proofs.Ytjlppnmckobcfaa

namespace Go.Proofs.Ytjlppnmckobcfaa.lawPremiseExact
open Go.ChangeShapes Go.WideShapes Go.ChangeAt Go.RowKit

set_option maxRecDepth 100000 in
theorem lifted (os : Os) (started : os.Started) (H : Type) (enc : TypeId × Value → H) :
    ReturnsInHanded {} Try.checked os 3 .any (Rows.premiseExactSpec.pre6 enc Try.prog Try.f3 Rows.premiseExactRow.domain false) (Rows.premiseExactSpec.post enc Try.prog Try.f3 false true false false) := by
  refine returnsInHanded_of_change (C := Try.checked) own started (by kernel_rfl) Try.func3
    (ChangeSpec.witness6 (enc := enc) (C := Try.checked) false ⟨#[], #[.slice none 0 0, .int .i64 0, .int .i64 0, .slice none 0 0], []⟩ 8 (by kernel_rfl) (by kernel_rfl) (by kernel_rfl) (by kernel_rfl)) ?_
  intro W base args ds gs before hval0 hW hcnd _
  have hval : ∀ (j : Nat) t v, Try.f3.params[j]? = some t → args[j]? = some v → Value.okWide Try.prog W .any base t v := hval0
  have hW' := hW
  obtain ⟨p, q, hA0, hV, rfl, hfz, hnd⟩ := hW
  have hA : DataW.TrodAll enc Try.prog W 0 (fun _ => true) true Try.f3.params.toList args.toList ds p := hA0
  rw [Try.params3] at hA hval
  obtain ⟨v0, vs0, d0, ds0, p0, q0, hargs0, rfl, rfl, h0, r0⟩ := trodAll_cons hA
  obtain ⟨v1, vs1, d1, ds1, p1, q1, hargs1, rfl, rfl, h1, r1⟩ := trodAll_cons r0
  obtain ⟨v2, vs2, d2, ds2, p2, q2, hargs2, rfl, rfl, h2, r2⟩ := trodAll_cons r1
  obtain ⟨v3, vs3, d3, ds3, p3, q3, hargs3, rfl, rfl, h3, r3⟩ := trodAll_cons r2
  obtain ⟨rfl, rfl, rfl⟩ := trodAll_nil r3
  obtain rfl : args = #[v0, v1, v2, v3] := by cases args; simp_all
  obtain ⟨rfl, rfl⟩ := trodVars_none hV
  have h0k := h0
  have hlt0 : ∀ x ∈ p0, x.block < W.heap.size := fun x hx => by have := hW'.lt x (by simp [hx]); simpa using this
  obtain ⟨l0, hl0⟩ := open_argE (hval 0 22 v0 rfl rfl) h0
  obtain ⟨a1, rfl, rfl, rfl, w1⟩ := open_int Try.underlying3 (hval 1 3 v1 rfl rfl) h1
  obtain ⟨a2, rfl, rfl, rfl, w2⟩ := open_int Try.underlying3 (hval 2 3 v2 rfl rfl) h2
  have h3k := h3
  have hlt3 : ∀ x ∈ p3, x.block < W.heap.size := fun x hx => by have := hW'.lt x (by simp [hx]); simpa using this
  obtain ⟨l3, hl3⟩ := open_argJs (hval 3 23 v3 rfl rfl) h3
  clear hA0 hval0
  simp only [List.append_nil] at hW'
  refine (premiseExact_any a1 a2 l0 l3 W _ _ hl0 (wf_I64 w1) (wf_I64 w2) hl3).mono fun e W' ⟨he, hb⟩ => ?_
  subst he
  exact ⟨_, rfl, _, _, _, [], _, [], hW', trodAll_cons_mk (shut_bool Try.underlying4 _) trodAll_mk0, (trodAll_cons_mk (Below.trod laidOut (by kernel_rfl) (of_decide_eq_true (by kernel_rfl)) h0k hb hlt0) (trodAll_cons_mk (shut_int Try.underlying3 w1) (trodAll_cons_mk (shut_int Try.underlying3 w2) (trodAll_cons_mk (Below.trod laidOut (by kernel_rfl) (of_decide_eq_true (by kernel_rfl)) h3k hb hlt3) trodAll_mk0)))), rfl, hb.frame _, fun h => by cases h⟩

theorem closed : joinedFacts Try.prog 3 Try.f3 Rows.premiseExactSpec Rows.premiseExactRow = true := by
  unfold joinedFacts
  rw [row_mayEnter, row_lifts, row_make]
  kernel_rfl

theorem proved : Rows.PremiseExactSaid :=
  OpenClaim.holds_of_wide 3 Try.f3 rfl rfl rfl rfl rfl rfl rfl ⟨rfl, rfl, rfl, rfl, rfl⟩ rfl rfl rfl rfl rfl (by kernel_rfl) Try.func3 closed
    (of_decide_eq_true (by kernel_rfl)) (by unfold Func.isWrapper; first | (rw [if_pos (by decide +kernel)]; kernel_rfl) | (rw [if_neg (by decide +kernel)]; exact ⟨rfl, rfl⟩))
    (fun os started H enc _ => lifted os started H enc)
#print axioms proved
end Go.Proofs.Ytjlppnmckobcfaa.lawPremiseExact
