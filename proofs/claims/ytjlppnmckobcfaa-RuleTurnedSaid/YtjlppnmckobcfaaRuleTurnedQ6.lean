/-
  Facts and contracts that the proof of RuleTurned uses.
-/
import Derived.Test.YtjlppnmckobcfaaRows
import Derived.WalkKit
import Derived.Lib.Hide
import Derived.KernelRfl
import Derived.Deep.RegionWith
import Derived.Deep.RegionHeld3
import Derived.Deep.AppendLies
import Derived.Laws.Rows
import Derived.Laws.IdiomCopy
import Derived.Deep.Slices
import Derived.Deep.QuietTactic
import Derived.BigQuiet
import Derived.Lib.QuietBelow
import Derived.StillTailTactics
import Derived.IntWalk
import Derived.OwnWalk
import Derived.OrdersHeld
import Derived.Deep.DeepCutAuto
import Derived.Deep.RegionLaw
import Derived.Deep.LoopGhost
import Derived.Deep.MidRow
import Derived.Laws.Tables
import Derived.Laws.CopyOwn
import Derived.Laws.CopyRow
import Derived.Deep.RegionHeld
import Derived.ProofKit
import Derived.OpenShut
import Derived.Carry
import Derived.ChangeSlices
import Derived.JoinedOf
import Derived.Test.YtjlppnmckobcfaaRuleTurnedQ5
namespace Go.Proofs.Ytjlppnmckobcfaa
open Go.RowKit
set_option maxRecDepth 20000 in
set_option maxHeartbeats 4000000 in
theorem of14Trf_any (i : Int) (c : List En) (u : Tm) (v : Tm) (x : Tm) (P : Nat → Prop) (w : World) (sc : Value) (b0 : Nat) (su : Value) (sv : Value) (sx : Value) (hlc : LiesE w c sc) (hfu : u.fine) (hlu : LiesQ w P u.kids su) (hfv : v.fine) (hlv : LiesQ w P v.kids sv) (hfx : x.fine) (hlx : LiesQ w P x.kids sx) (hri : I64 i) (hb0 : w.heap[b0]? = some (.cells #[.bool true, .int .i64 u.k, .int .i64 u.i, .int .i64 u.j, .int .i64 u.n, su, .int .i64 v.k, .int .i64 v.i, .int .i64 v.j, .int .i64 v.n, sv, .int .i64 x.k, .int .i64 x.i, .int .i64 x.j, .int .i64 x.n, sx, .int .i64 i] 34 (0, 0))) (hlen : c.length ≤ 100000) (hzu : u.size ≤ 1000000) (hzv : v.size ≤ 1000000) (hzx : x.size ≤ 1000000) (hpc : purC c = true) (hrj : rightJ (⟨true, u, v, x, i⟩ : Jd) (c.length : Int) = false) : Calls Try.prog 12 #[sc, .int .i64 14, .int .i64 0, .slice (some ⟨b0, 0, none⟩) 1 1] w (GivesJT P ⟨false, .zero, .zero, .zero, 0⟩ false w) := by
  have HEc := Lib.hid hlc
  obtain ⟨ac, cc, Sc, rfl, -⟩ := hlc.out
  clear hlc
  have Gu := Lib.hid hfu
  clear hfu
  obtain ⟨au, cu, Su, rfl, -⟩ := hlu.out
  have Gv := Lib.hid hfv
  clear hfv
  obtain ⟨av, cv, Sv, rfl, -⟩ := hlv.out
  have Gx := Lib.hid hfx
  clear hfx
  obtain ⟨ax, cx, Sx, rfl, -⟩ := hlx.out
  have Ri := Lib.hid hri
  clear hri
  have HB0 := Lib.hid hb0
  clear hb0
  have HRN := Lib.hid (show I64 (c.length : Int) by unfold I64; omega)
  have HZU := Lib.hid hzu
  have HZV := Lib.hid hzv
  have HZX := Lib.hid hzx
  clear hzu hzv hzx
  have HPC := Lib.hid hpc
  clear hpc
  have HRJ := Lib.hid hrj
  clear hrj
  obtain ⟨dj, dj1, dj2⟩ := under_of 34 (by kernel_rfl)
  obtain ⟨du, hu1, hu2⟩ := under_term
  go_enter Try.func12, Try.ntmps12
  go_upto_region 1 with fail
  refine at_code (fun V0 hV0 => ?_)
  obtain ⟨k2, x1, z3⟩ := alloc1 hV0
  have Kk4 := Lib.hid k2
  clear k2
  have Hx1 := Lib.hid x1
  have Z0 := Lib.hid z3
  clear z3 x1 hV0
  have HLu : Hid (LiesQ V0 (Par w V0.heap.size [] P) u.kids _) := (par_in _ _ hlu).later Kk4.out
  clear hlu
  have HLv : Hid (LiesQ V0 (Par w V0.heap.size [] P) v.kids _) := (par_in _ _ hlv).later Kk4.out
  clear hlv
  have HLx : Hid (LiesQ V0 (Par w V0.heap.size [] P) x.kids _) := (par_in _ _ hlx).later Kk4.out
  clear hlx
  have kvV0 : Sees V0 (w.heap.size) V0 := sees_kept _ (kept_refl _)
  go_wp2_with fail
  clear kvV0
  have hq7 := kidsK 14 V0
  rw [show Dv.dkidsN 14 = 1 from by decide] at hq7
  refine hq7.mono ?_
  clear hq7
  rintro e w5 ⟨rfl, k6⟩
  have Kk8 := Lib.hid k6
  clear k6
  have kvV0 : Sees V0 (w.heap.size) w5 := sees_kept _ Kk8.out
  go_wp2_with fail
  clear kvV0
  have hq11 := rulepure_any c w5 _ (HEc.out.keep (kept_trans Kk4.out Kk8.out))
  rw [HPC.out] at hq11
  refine hq11.mono ?_
  clear hq11
  rintro e w9 ⟨rfl, k10⟩
  have Kk12 := Lib.hid k10
  clear k10
  have kvV0 : Sees V0 (w.heap.size) w9 := sees_kept _ (kept_trans Kk8.out Kk12.out)
  go_wp2_with fail
  clear kvV0
  go_loopw [28] (fun iv wr => ∃ i : Int, 0 ≤ i ∧ i ≤ 1 ∧ iv = .int .i64 i ∧ Hid (i = 0) ∧ Kept w9 wr) (fun iv _ => 1 - (intOf iv).toNat)
  case atStart => exact ⟨0, by decide, by decide, rfl, rfl, kept_refl _⟩
  case round =>
    obtain ⟨i, hi0, hi1, rfl, hv14, k13⟩ := hrel
    have Kk15 := Lib.hid k13
    clear k13
    have HVhv14 := Lib.hid hv14.out
    clear hv14
    obtain rfl | rfl : i = 0 ∨ i = 1 := by omega
    · clear hi0 hi1
      have kvV0 : Sees V0 (w.heap.size) wr := sees_kept _ (kept_trans Kk8.out (kept_trans Kk12.out Kk15.out))
      go_wp2_with (refine stop_load 34 (.tmp 31) rfl ?_)
      intro _
      refine wpList_load_part (b0) (0) 34 (.tmp 31) #[.bool true, .int .i64 u.k, .int .i64 u.i, .int .i64 u.j, .int .i64 u.n, (.slice au u.kids.length cu), .int .i64 v.k, .int .i64 v.i, .int .i64 v.j, .int .i64 v.n, (.slice av v.kids.length cv), .int .i64 x.k, .int .i64 x.i, .int .i64 x.j, .int .i64 x.n, (.slice ax x.kids.length cx), .int .i64 i] dj (blk_at HB0.out (kept_trans Kk4.out (kept_trans Kk8.out (kept_trans Kk12.out Kk15.out)))) (by rfl) rfl (by rfl) (by rfl) dj1 (by cases dj <;> first | rfl | exact dj2) (by kernel_rfl) ?_
      go_wp2_with (refine stop_store 34 (.tmp 11) (.tmp 32) rfl ?_)
      intro _
      refine wpList_store_part_n (by rfl) 34 (.tmp 11) (.tmp 32) rfl (wr.heap.size) 0 #[.bool true, .int .i64 u.k, .int .i64 u.i, .int .i64 u.j, .int .i64 u.n, (.slice au u.kids.length cu), .int .i64 v.k, .int .i64 v.i, .int .i64 v.j, .int .i64 v.n, (.slice av v.kids.length cv), .int .i64 x.k, .int .i64 x.i, .int .i64 x.j, .int .i64 x.n, (.slice ax x.kids.length cx), .int .i64 i] (by rfl) (by rfl) 34 (by kernel_rfl) (row_ok rfl) ?_
      intro W16 hW16
      clear kvV0
      obtain ⟨k19, x18, z20⟩ := alloc1 hW16
      have Kk21 := Lib.hid k19
      clear k19
      have Hx18 := Lib.hid x18
      have Hz20 := Lib.hid z20
      clear x18 z20 hW16
      have HG22 : Hid (V0.heap.size ≤ wr.heap.size) := (Below.size (kept_trans Kk8.out (kept_trans Kk12.out Kk15.out)))
      have XL23 : Hid (XLt (wr.heap.size :: []) W16) := (xlt_more (xlt_nil _) Kk21.out (by have := Hz20.out; omega))
      have HD24 : Hid (wr.heap.size ≤ wr.heap.size) := Below.size (kept_refl _)
      refine ⟨_, #[.bool true, .int .i64 u.k, .int .i64 u.i, .int .i64 u.j, .int .i64 u.n, (.slice au u.kids.length cu), .int .i64 v.k, .int .i64 v.i, .int .i64 v.j, .int .i64 v.n, (.slice av v.kids.length cv), .int .i64 x.k, .int .i64 x.i, .int .i64 x.j, .int .i64 x.n, (.slice ax x.kids.length cx), .int .i64 i], Hx18.out, rfl, Nat.le_of_ble_eq_true rfl, ?_⟩
      intro W17 hW17
      have KB25 := Lib.hid (kept_set (kept_trans Kk4.out (kept_trans Kk8.out (kept_trans Kk12.out (kept_trans Kk15.out Kk21.out)))) hW17 (by have := HG22.out; have := Z0.out; omega))
      have KB26 := Lib.hid (kept_set (kept_trans Kk8.out (kept_trans Kk12.out (kept_trans Kk15.out Kk21.out))) hW17 HG22.out)
      have KB27 := Lib.hid (kept_set Kk21.out hW17 HD24.out)
      have HL28 : Hid (LiesQ W17 (Par w V0.heap.size (wr.heap.size :: []) P) u.kids _) := par_set (par_grow HLu.out (kept_trans Kk8.out (kept_trans Kk12.out (kept_trans Kk15.out Kk21.out))) (List.forall_mem_cons.2 ⟨(Or.inr (Nat.le_trans (Below.size (kept_trans Kk8.out (kept_trans Kk12.out Kk15.out))) (Nat.le_refl wr.heap.size))), (fun _ h => nomatch h)⟩)) hW17 (List.mem_cons_self ..) (by have := HG22.out; have := Z0.out; omega)
      have HL29 : Hid (LiesQ W17 (Par w V0.heap.size (wr.heap.size :: []) P) v.kids _) := par_set (par_grow HLv.out (kept_trans Kk8.out (kept_trans Kk12.out (kept_trans Kk15.out Kk21.out))) (List.forall_mem_cons.2 ⟨(Or.inr (Nat.le_trans (Below.size (kept_trans Kk8.out (kept_trans Kk12.out Kk15.out))) (Nat.le_refl wr.heap.size))), (fun _ h => nomatch h)⟩)) hW17 (List.mem_cons_self ..) (by have := HG22.out; have := Z0.out; omega)
      have HL30 : Hid (LiesQ W17 (Par w V0.heap.size (wr.heap.size :: []) P) x.kids _) := par_set (par_grow HLx.out (kept_trans Kk8.out (kept_trans Kk12.out (kept_trans Kk15.out Kk21.out))) (List.forall_mem_cons.2 ⟨(Or.inr (Nat.le_trans (Below.size (kept_trans Kk8.out (kept_trans Kk12.out Kk15.out))) (Nat.le_refl wr.heap.size))), (fun _ h => nomatch h)⟩)) hW17 (List.mem_cons_self ..) (by have := HG22.out; have := Z0.out; omega)
      have XL31 := Lib.hid (xlt_set XL23.out hW17)
      have HX32 := Lib.hid (blk_same Hx18.out hW17)
      clear hW17
      have kvV0 : Sees V0 (w.heap.size) W17 := sees_kept _ KB26.out
      have kvW17 : Sees W17 (w.heap.size) W17 := sees_kept _ (kept_refl _)
      go_wp2_with fail
      clear kvV0
      clear kvW17
      have hq35 := innerK 14 0 W17
      rw [show Dv.innerB 14 0 = false from by decide] at hq35
      refine hq35.mono ?_
      clear hq35
      rintro e w33 ⟨rfl, k34⟩
      have Kk36 := Lib.hid k34
      clear k34
      have kvV0 : Sees V0 (w.heap.size) w33 := sees_kept _ (kept_trans KB26.out Kk36.out)
      have kvW17 : Sees W17 (w.heap.size) w33 := sees_kept _ Kk36.out
      go_wp2_with (refine stop_load 34 (.tmp 11) rfl ?_)
      intro _
      refine wpList_load_part (wr.heap.size) (0) 34 (.tmp 11) #[.bool true, .int .i64 u.k, .int .i64 u.i, .int .i64 u.j, .int .i64 u.n, (.slice au u.kids.length cu), .int .i64 v.k, .int .i64 v.i, .int .i64 v.j, .int .i64 v.n, (.slice av v.kids.length cv), .int .i64 x.k, .int .i64 x.i, .int .i64 x.j, .int .i64 x.n, (.slice ax x.kids.length cx), .int .i64 i] dj (blk_at HX32.out Kk36.out) (by rfl) rfl (by rfl) (by rfl) dj1 (by cases dj <;> first | rfl | exact dj2) (by kernel_rfl) ?_
      go_wp2_with fail
      clear kvV0
      clear kvW17
      have hq39 := rright1_any (c.length : Int) i u v x (Par w V0.heap.size (wr.heap.size :: []) P) w33 ((.slice au u.kids.length cu)) ((.slice av v.kids.length cv)) ((.slice ax x.kids.length cx)) Gu.out (HL28.out.later Kk36.out) Gv.out (HL29.out.later Kk36.out) Gx.out (HL30.out.later Kk36.out) Ri.out HRN.out
      rw [HRJ.out] at hq39
      refine hq39.mono ?_
      clear hq39
      rintro e w37 ⟨rfl, k38⟩
      have Kk40 := Lib.hid k38
      clear k38
      have kvV0 : Sees V0 (w.heap.size) w37 := sees_kept _ (kept_trans KB26.out (kept_trans Kk36.out Kk40.out))
      have kvW17 : Sees W17 (w.heap.size) w37 := sees_kept _ (kept_trans Kk36.out Kk40.out)
      go_upto_region 10 with fail
      go_wp2_with (refine stop_store 34 (.tmp 8) (.tmp 44) rfl ?_)
      intro _
      refine wpList_store_part_n (by rfl) 34 (.tmp 8) (.tmp 44) rfl (w.heap.size) 0 #[.bool false, .int .i64 0, .int .i64 0, .int .i64 0, .int .i64 0, .slice none 0 0, .int .i64 0, .int .i64 0, .int .i64 0, .int .i64 0, .slice none 0 0, .int .i64 0, .int .i64 0, .int .i64 0, .int .i64 0, .slice none 0 0, .int .i64 0] (by rfl) (by rfl) 34 (by kernel_rfl) (row_ok rfl) ?_
      intro W41 hW41
      clear kvV0
      clear kvW17
      subst hW41
      refine ⟨_, #[.bool false, .int .i64 0, .int .i64 0, .int .i64 0, .int .i64 0, .slice none 0 0, .int .i64 0, .int .i64 0, .int .i64 0, .int .i64 0, .slice none 0 0, .int .i64 0, .int .i64 0, .int .i64 0, .int .i64 0, .slice none 0 0, .int .i64 0], (blk_at Hx1.out (kept_trans KB26.out (kept_trans Kk36.out Kk40.out))), rfl, Nat.le_of_ble_eq_true rfl, ?_⟩
      intro W42 hW42
      go_wp2_with fail
      (try simp only [Exit.inBlock, Exit.then])
      refine bodyPost_ret (results_cell_tmp rfl _ _ (w.heap.size) 34 _ _ dj rfl (blk_same (blk_at Hx1.out (kept_trans KB26.out (kept_trans Kk36.out Kk40.out))) hW42) dj1 (by cases dj <;> first | rfl | exact dj2) (by kernel_rfl)) rfl ?_
      have jz46 := Z0.out
      have jq43 := par_end (par_row' (liesQ_nil w37 (Par w V0.heap.size (wr.heap.size :: []) P)) hW42 (by omega) (by omega)) (by omega)
      have jq44 := par_end (par_row' (liesQ_nil w37 (Par w V0.heap.size (wr.heap.size :: []) P)) hW42 (by omega) (by omega)) (by omega)
      have jq45 := par_end (par_row' (liesQ_nil w37 (Par w V0.heap.size (wr.heap.size :: []) P)) hW42 (by omega) (by omega)) (by omega)
      exact ⟨_, _, _, rfl, ⟨jq43, jq44, jq45⟩, kept_set (kept_trans KB25.out (kept_trans Kk36.out Kk40.out)) hW42 (by omega)⟩
    · exact absurd HVhv14.out (by decide)

set_option maxRecDepth 20000 in
set_option maxHeartbeats 4000000 in
theorem of14Nok_any (i : Int) (c : List En) (u : Tm) (v : Tm) (x : Tm) (P : Nat → Prop) (w : World) (sc : Value) (b0 : Nat) (su : Value) (sv : Value) (sx : Value) (hlc : LiesE w c sc) (hfu : u.fine) (hlu : LiesQ w P u.kids su) (hfv : v.fine) (hlv : LiesQ w P v.kids sv) (hfx : x.fine) (hlx : LiesQ w P x.kids sx) (hri : I64 i) (hb0 : w.heap[b0]? = some (.cells #[.bool false, .int .i64 u.k, .int .i64 u.i, .int .i64 u.j, .int .i64 u.n, su, .int .i64 v.k, .int .i64 v.i, .int .i64 v.j, .int .i64 v.n, sv, .int .i64 x.k, .int .i64 x.i, .int .i64 x.j, .int .i64 x.n, sx, .int .i64 i] 34 (0, 0))) (hlen : c.length ≤ 100000) (hzu : u.size ≤ 1000000) (hzv : v.size ≤ 1000000) (hzx : x.size ≤ 1000000) (hpc : purC c = true) (hrj : rightJ (⟨false, u, v, x, i⟩ : Jd) (c.length : Int) = true) : Calls Try.prog 12 #[sc, .int .i64 14, .int .i64 0, .slice (some ⟨b0, 0, none⟩) 1 1] w (GivesJT P ⟨false, .zero, .zero, .zero, 0⟩ false w) := by
  have HEc := Lib.hid hlc
  obtain ⟨ac, cc, Sc, rfl, -⟩ := hlc.out
  clear hlc
  have Gu := Lib.hid hfu
  clear hfu
  obtain ⟨au, cu, Su, rfl, -⟩ := hlu.out
  have Gv := Lib.hid hfv
  clear hfv
  obtain ⟨av, cv, Sv, rfl, -⟩ := hlv.out
  have Gx := Lib.hid hfx
  clear hfx
  obtain ⟨ax, cx, Sx, rfl, -⟩ := hlx.out
  have Ri := Lib.hid hri
  clear hri
  have HB0 := Lib.hid hb0
  clear hb0
  have HRN := Lib.hid (show I64 (c.length : Int) by unfold I64; omega)
  have HZU := Lib.hid hzu
  have HZV := Lib.hid hzv
  have HZX := Lib.hid hzx
  clear hzu hzv hzx
  have HPC := Lib.hid hpc
  clear hpc
  have HRJ := Lib.hid hrj
  clear hrj
  obtain ⟨dj, dj1, dj2⟩ := under_of 34 (by kernel_rfl)
  obtain ⟨du, hu1, hu2⟩ := under_term
  go_enter Try.func12, Try.ntmps12
  go_upto_region 1 with fail
  refine at_code (fun V0 hV0 => ?_)
  obtain ⟨k2, x1, z3⟩ := alloc1 hV0
  have Kk4 := Lib.hid k2
  clear k2
  have Hx1 := Lib.hid x1
  have Z0 := Lib.hid z3
  clear z3 x1 hV0
  have HLu : Hid (LiesQ V0 (Par w V0.heap.size [] P) u.kids _) := (par_in _ _ hlu).later Kk4.out
  clear hlu
  have HLv : Hid (LiesQ V0 (Par w V0.heap.size [] P) v.kids _) := (par_in _ _ hlv).later Kk4.out
  clear hlv
  have HLx : Hid (LiesQ V0 (Par w V0.heap.size [] P) x.kids _) := (par_in _ _ hlx).later Kk4.out
  clear hlx
  have kvV0 : Sees V0 (w.heap.size) V0 := sees_kept _ (kept_refl _)
  go_wp2_with fail
  clear kvV0
  have hq7 := kidsK 14 V0
  rw [show Dv.dkidsN 14 = 1 from by decide] at hq7
  refine hq7.mono ?_
  clear hq7
  rintro e w5 ⟨rfl, k6⟩
  have Kk8 := Lib.hid k6
  clear k6
  have kvV0 : Sees V0 (w.heap.size) w5 := sees_kept _ Kk8.out
  go_wp2_with fail
  clear kvV0
  have hq11 := rulepure_any c w5 _ (HEc.out.keep (kept_trans Kk4.out Kk8.out))
  rw [HPC.out] at hq11
  refine hq11.mono ?_
  clear hq11
  rintro e w9 ⟨rfl, k10⟩
  have Kk12 := Lib.hid k10
  clear k10
  have kvV0 : Sees V0 (w.heap.size) w9 := sees_kept _ (kept_trans Kk8.out Kk12.out)
  go_wp2_with fail
  clear kvV0
  go_loopw [28] (fun iv wr => ∃ i : Int, 0 ≤ i ∧ i ≤ 1 ∧ iv = .int .i64 i ∧ Hid (True) ∧ Kept w9 wr) (fun iv _ => 1 - (intOf iv).toNat)
  case atStart => exact ⟨0, by decide, by decide, rfl, trivial, kept_refl _⟩
  case round =>
    obtain ⟨i, hi0, hi1, rfl, hv14, k13⟩ := hrel
    have Kk15 := Lib.hid k13
    clear k13
    have HVhv14 := Lib.hid hv14.out
    clear hv14
    obtain rfl | rfl : i = 0 ∨ i = 1 := by omega
    · clear hi0 hi1
      have kvV0 : Sees V0 (w.heap.size) wr := sees_kept _ (kept_trans Kk8.out (kept_trans Kk12.out Kk15.out))
      go_wp2_with (refine stop_load 34 (.tmp 31) rfl ?_)
      intro _
      refine wpList_load_part (b0) (0) 34 (.tmp 31) #[.bool false, .int .i64 u.k, .int .i64 u.i, .int .i64 u.j, .int .i64 u.n, (.slice au u.kids.length cu), .int .i64 v.k, .int .i64 v.i, .int .i64 v.j, .int .i64 v.n, (.slice av v.kids.length cv), .int .i64 x.k, .int .i64 x.i, .int .i64 x.j, .int .i64 x.n, (.slice ax x.kids.length cx), .int .i64 i] dj (blk_at HB0.out (kept_trans Kk4.out (kept_trans Kk8.out (kept_trans Kk12.out Kk15.out)))) (by rfl) rfl (by rfl) (by rfl) dj1 (by cases dj <;> first | rfl | exact dj2) (by kernel_rfl) ?_
      go_wp2_with (refine stop_store 34 (.tmp 11) (.tmp 32) rfl ?_)
      intro _
      refine wpList_store_part_n (by rfl) 34 (.tmp 11) (.tmp 32) rfl (wr.heap.size) 0 #[.bool false, .int .i64 u.k, .int .i64 u.i, .int .i64 u.j, .int .i64 u.n, (.slice au u.kids.length cu), .int .i64 v.k, .int .i64 v.i, .int .i64 v.j, .int .i64 v.n, (.slice av v.kids.length cv), .int .i64 x.k, .int .i64 x.i, .int .i64 x.j, .int .i64 x.n, (.slice ax x.kids.length cx), .int .i64 i] (by rfl) (by rfl) 34 (by kernel_rfl) (row_ok rfl) ?_
      intro W16 hW16
      clear kvV0
      obtain ⟨k19, x18, z20⟩ := alloc1 hW16
      have Kk21 := Lib.hid k19
      clear k19
      have Hx18 := Lib.hid x18
      have Hz20 := Lib.hid z20
      clear x18 z20 hW16
      have HG22 : Hid (V0.heap.size ≤ wr.heap.size) := (Below.size (kept_trans Kk8.out (kept_trans Kk12.out Kk15.out)))
      have XL23 : Hid (XLt (wr.heap.size :: []) W16) := (xlt_more (xlt_nil _) Kk21.out (by have := Hz20.out; omega))
      have HD24 : Hid (wr.heap.size ≤ wr.heap.size) := Below.size (kept_refl _)
      refine ⟨_, #[.bool false, .int .i64 u.k, .int .i64 u.i, .int .i64 u.j, .int .i64 u.n, (.slice au u.kids.length cu), .int .i64 v.k, .int .i64 v.i, .int .i64 v.j, .int .i64 v.n, (.slice av v.kids.length cv), .int .i64 x.k, .int .i64 x.i, .int .i64 x.j, .int .i64 x.n, (.slice ax x.kids.length cx), .int .i64 i], Hx18.out, rfl, Nat.le_of_ble_eq_true rfl, ?_⟩
      intro W17 hW17
      have KB25 := Lib.hid (kept_set (kept_trans Kk4.out (kept_trans Kk8.out (kept_trans Kk12.out (kept_trans Kk15.out Kk21.out)))) hW17 (by have := HG22.out; have := Z0.out; omega))
      have KB26 := Lib.hid (kept_set (kept_trans Kk8.out (kept_trans Kk12.out (kept_trans Kk15.out Kk21.out))) hW17 HG22.out)
      have KB27 := Lib.hid (kept_set Kk21.out hW17 HD24.out)
      have HL28 : Hid (LiesQ W17 (Par w V0.heap.size (wr.heap.size :: []) P) u.kids _) := par_set (par_grow HLu.out (kept_trans Kk8.out (kept_trans Kk12.out (kept_trans Kk15.out Kk21.out))) (List.forall_mem_cons.2 ⟨(Or.inr (Nat.le_trans (Below.size (kept_trans Kk8.out (kept_trans Kk12.out Kk15.out))) (Nat.le_refl wr.heap.size))), (fun _ h => nomatch h)⟩)) hW17 (List.mem_cons_self ..) (by have := HG22.out; have := Z0.out; omega)
      have HL29 : Hid (LiesQ W17 (Par w V0.heap.size (wr.heap.size :: []) P) v.kids _) := par_set (par_grow HLv.out (kept_trans Kk8.out (kept_trans Kk12.out (kept_trans Kk15.out Kk21.out))) (List.forall_mem_cons.2 ⟨(Or.inr (Nat.le_trans (Below.size (kept_trans Kk8.out (kept_trans Kk12.out Kk15.out))) (Nat.le_refl wr.heap.size))), (fun _ h => nomatch h)⟩)) hW17 (List.mem_cons_self ..) (by have := HG22.out; have := Z0.out; omega)
      have HL30 : Hid (LiesQ W17 (Par w V0.heap.size (wr.heap.size :: []) P) x.kids _) := par_set (par_grow HLx.out (kept_trans Kk8.out (kept_trans Kk12.out (kept_trans Kk15.out Kk21.out))) (List.forall_mem_cons.2 ⟨(Or.inr (Nat.le_trans (Below.size (kept_trans Kk8.out (kept_trans Kk12.out Kk15.out))) (Nat.le_refl wr.heap.size))), (fun _ h => nomatch h)⟩)) hW17 (List.mem_cons_self ..) (by have := HG22.out; have := Z0.out; omega)
      have XL31 := Lib.hid (xlt_set XL23.out hW17)
      have HX32 := Lib.hid (blk_same Hx18.out hW17)
      clear hW17
      have kvV0 : Sees V0 (w.heap.size) W17 := sees_kept _ KB26.out
      have kvW17 : Sees W17 (w.heap.size) W17 := sees_kept _ (kept_refl _)
      go_wp2_with fail
      clear kvV0
      clear kvW17
      have hq35 := innerK 14 0 W17
      rw [show Dv.innerB 14 0 = false from by decide] at hq35
      refine hq35.mono ?_
      clear hq35
      rintro e w33 ⟨rfl, k34⟩
      have Kk36 := Lib.hid k34
      clear k34
      have kvV0 : Sees V0 (w.heap.size) w33 := sees_kept _ (kept_trans KB26.out Kk36.out)
      have kvW17 : Sees W17 (w.heap.size) w33 := sees_kept _ Kk36.out
      go_wp2_with (refine stop_load 34 (.tmp 11) rfl ?_)
      intro _
      refine wpList_load_part (wr.heap.size) (0) 34 (.tmp 11) #[.bool false, .int .i64 u.k, .int .i64 u.i, .int .i64 u.j, .int .i64 u.n, (.slice au u.kids.length cu), .int .i64 v.k, .int .i64 v.i, .int .i64 v.j, .int .i64 v.n, (.slice av v.kids.length cv), .int .i64 x.k, .int .i64 x.i, .int .i64 x.j, .int .i64 x.n, (.slice ax x.kids.length cx), .int .i64 i] dj (blk_at HX32.out Kk36.out) (by rfl) rfl (by rfl) (by rfl) dj1 (by cases dj <;> first | rfl | exact dj2) (by kernel_rfl) ?_
      go_wp2_with fail
      clear kvV0
      clear kvW17
      have hq39 := rright0_any (c.length : Int) i u v x (Par w V0.heap.size (wr.heap.size :: []) P) w33 ((.slice au u.kids.length cu)) ((.slice av v.kids.length cv)) ((.slice ax x.kids.length cx)) Gu.out (HL28.out.later Kk36.out) Gv.out (HL29.out.later Kk36.out) Gx.out (HL30.out.later Kk36.out) Ri.out HRN.out
      rw [HRJ.out] at hq39
      refine hq39.mono ?_
      clear hq39
      rintro e w37 ⟨rfl, k38⟩
      have Kk40 := Lib.hid k38
      clear k38
      have kvV0 : Sees V0 (w.heap.size) w37 := sees_kept _ (kept_trans KB26.out (kept_trans Kk36.out Kk40.out))
      have kvW17 : Sees W17 (w.heap.size) w37 := sees_kept _ (kept_trans Kk36.out Kk40.out)
      go_wp2
      go_roundw
      case rel => exact ⟨1, by decide, by decide, by go_num, trivial, (kept_trans Kk15.out (kept_trans KB27.out (kept_trans Kk36.out Kk40.out)))⟩
      case measure => simp [intOf]
    · clear hi0 hi1
      have kvV0 : Sees V0 (w.heap.size) wr := sees_kept _ (kept_trans Kk8.out (kept_trans Kk12.out Kk15.out))
      go_wp2_with fail
      clear kvV0
      refine (con14N_any i c u v x (Par w V0.heap.size [] P) wr ((.slice ac c.length cc)) b0 ((.slice au u.kids.length cu)) ((.slice av v.kids.length cv)) ((.slice ax x.kids.length cx)) (HEc.out.keep (kept_trans Kk4.out (kept_trans Kk8.out (kept_trans Kk12.out Kk15.out)))) Gu.out (HLu.out.later (kept_trans Kk8.out (kept_trans Kk12.out Kk15.out))) Gv.out (HLv.out.later (kept_trans Kk8.out (kept_trans Kk12.out Kk15.out))) Gx.out (HLx.out.later (kept_trans Kk8.out (kept_trans Kk12.out Kk15.out))) Ri.out (blk_at HB0.out (kept_trans Kk4.out (kept_trans Kk8.out (kept_trans Kk12.out Kk15.out))))).mono ?_
      rintro e w41 ⟨s43, s44, s45, rfl, ⟨hl46, hl47, hl48⟩, k42⟩
      obtain ⟨a49, c50, S51, rfl, -⟩ := hl46.out
      obtain ⟨a52, c53, S54, rfl, -⟩ := hl47.out
      obtain ⟨a55, c56, S57, rfl, -⟩ := hl48.out
      have Kk58 := Lib.hid k42
      clear k42
      have Hhl46 : Hid (LiesQ w41 (Par w V0.heap.size [] P) v.kids _) := par_give hl46 (Below.size (kept_trans Kk8.out (kept_trans Kk12.out Kk15.out))) (xlt_nil _)
      have Hhl47 : Hid (LiesQ w41 (Par w V0.heap.size [] P) u.kids _) := par_give hl47 (Below.size (kept_trans Kk8.out (kept_trans Kk12.out Kk15.out))) (xlt_nil _)
      have Hhl48 : Hid (LiesQ w41 (Par w V0.heap.size [] P) x.kids _) := par_give hl48 (Below.size (kept_trans Kk8.out (kept_trans Kk12.out Kk15.out))) (xlt_nil _)
      clear hl46 hl47 hl48
      have kvV0 : Sees V0 (w.heap.size) w41 := sees_kept _ (kept_trans Kk8.out (kept_trans Kk12.out (kept_trans Kk15.out Kk58.out)))
      go_wp2_with (refine stop_store 34 (.tmp 13) (.tmp 52) rfl ?_)
      intro _
      refine wpList_store_part_n (by rfl) 34 (.tmp 13) (.tmp 52) rfl (w41.heap.size) 0 #[.bool true, .int .i64 v.k, .int .i64 v.i, .int .i64 v.j, .int .i64 v.n, (.slice a49 v.kids.length c50), .int .i64 u.k, .int .i64 u.i, .int .i64 u.j, .int .i64 u.n, (.slice a52 u.kids.length c53), .int .i64 x.k, .int .i64 x.i, .int .i64 x.j, .int .i64 x.n, (.slice a55 x.kids.length c56), .int .i64 i] (by rfl) (by rfl) 34 (by kernel_rfl) (row_ok rfl) ?_
      intro W59 hW59
      clear kvV0
      obtain ⟨k62, x61, z63⟩ := alloc1 hW59
      have Kk64 := Lib.hid k62
      clear k62
      have Hx61 := Lib.hid x61
      have Hz63 := Lib.hid z63
      clear x61 z63 hW59
      have HG65 : Hid (V0.heap.size ≤ w41.heap.size) := (Below.size (kept_trans Kk8.out (kept_trans Kk12.out (kept_trans Kk15.out Kk58.out))))
      have XL66 : Hid (XLt (w41.heap.size :: []) W59) := (xlt_more (xlt_nil _) Kk64.out (by have := Hz63.out; omega))
      have HD67 : Hid (wr.heap.size ≤ w41.heap.size) := Below.size Kk58.out
      refine ⟨_, #[.bool true, .int .i64 v.k, .int .i64 v.i, .int .i64 v.j, .int .i64 v.n, (.slice a49 v.kids.length c50), .int .i64 u.k, .int .i64 u.i, .int .i64 u.j, .int .i64 u.n, (.slice a52 u.kids.length c53), .int .i64 x.k, .int .i64 x.i, .int .i64 x.j, .int .i64 x.n, (.slice a55 x.kids.length c56), .int .i64 i], Hx61.out, rfl, Nat.le_of_ble_eq_true rfl, ?_⟩
      intro W60 hW60
      have KB68 := Lib.hid (kept_set (kept_trans Kk4.out (kept_trans Kk8.out (kept_trans Kk12.out (kept_trans Kk15.out (kept_trans Kk58.out Kk64.out))))) hW60 (by have := HG65.out; have := Z0.out; omega))
      have KB69 := Lib.hid (kept_set (kept_trans Kk8.out (kept_trans Kk12.out (kept_trans Kk15.out (kept_trans Kk58.out Kk64.out)))) hW60 HG65.out)
      have KB70 := Lib.hid (kept_set (kept_trans Kk58.out Kk64.out) hW60 HD67.out)
      have HL71 : Hid (LiesQ W60 (Par w V0.heap.size (w41.heap.size :: []) P) v.kids _) := par_set (par_grow Hhl46.out Kk64.out (List.forall_mem_cons.2 ⟨(Or.inr (Nat.le_refl w41.heap.size)), (fun _ h => nomatch h)⟩)) hW60 (List.mem_cons_self ..) (by have := HG65.out; have := Z0.out; omega)
      have HL72 : Hid (LiesQ W60 (Par w V0.heap.size (w41.heap.size :: []) P) u.kids _) := par_set (par_grow Hhl47.out Kk64.out (List.forall_mem_cons.2 ⟨(Or.inr (Nat.le_refl w41.heap.size)), (fun _ h => nomatch h)⟩)) hW60 (List.mem_cons_self ..) (by have := HG65.out; have := Z0.out; omega)
      have HL73 : Hid (LiesQ W60 (Par w V0.heap.size (w41.heap.size :: []) P) x.kids _) := par_set (par_grow Hhl48.out Kk64.out (List.forall_mem_cons.2 ⟨(Or.inr (Nat.le_refl w41.heap.size)), (fun _ h => nomatch h)⟩)) hW60 (List.mem_cons_self ..) (by have := HG65.out; have := Z0.out; omega)
      have HL74 : Hid (LiesQ W60 (Par w V0.heap.size (w41.heap.size :: []) P) u.kids _) := par_set (par_grow HLu.out (kept_trans Kk8.out (kept_trans Kk12.out (kept_trans Kk15.out (kept_trans Kk58.out Kk64.out)))) (List.forall_mem_cons.2 ⟨(Or.inr (Nat.le_trans (Below.size (kept_trans Kk8.out (kept_trans Kk12.out (kept_trans Kk15.out Kk58.out)))) (Nat.le_refl w41.heap.size))), (fun _ h => nomatch h)⟩)) hW60 (List.mem_cons_self ..) (by have := HG65.out; have := Z0.out; omega)
      have HL75 : Hid (LiesQ W60 (Par w V0.heap.size (w41.heap.size :: []) P) v.kids _) := par_set (par_grow HLv.out (kept_trans Kk8.out (kept_trans Kk12.out (kept_trans Kk15.out (kept_trans Kk58.out Kk64.out)))) (List.forall_mem_cons.2 ⟨(Or.inr (Nat.le_trans (Below.size (kept_trans Kk8.out (kept_trans Kk12.out (kept_trans Kk15.out Kk58.out)))) (Nat.le_refl w41.heap.size))), (fun _ h => nomatch h)⟩)) hW60 (List.mem_cons_self ..) (by have := HG65.out; have := Z0.out; omega)
      have HL76 : Hid (LiesQ W60 (Par w V0.heap.size (w41.heap.size :: []) P) x.kids _) := par_set (par_grow HLx.out (kept_trans Kk8.out (kept_trans Kk12.out (kept_trans Kk15.out (kept_trans Kk58.out Kk64.out)))) (List.forall_mem_cons.2 ⟨(Or.inr (Nat.le_trans (Below.size (kept_trans Kk8.out (kept_trans Kk12.out (kept_trans Kk15.out Kk58.out)))) (Nat.le_refl w41.heap.size))), (fun _ h => nomatch h)⟩)) hW60 (List.mem_cons_self ..) (by have := HG65.out; have := Z0.out; omega)
      have XL77 := Lib.hid (xlt_set XL66.out hW60)
      have HX78 := Lib.hid (blk_same Hx61.out hW60)
      clear hW60
      have ld79 := part_cell (r := (w.heap.size)) HX78.out (by have := HG65.out; have := Z0.out; omega) 0 (.bool true) rfl
      have ld80 := part_cell (r := (w.heap.size)) HX78.out (by have := HG65.out; have := Z0.out; omega) 1 (.int .i64 v.k) rfl
      have ld81 := part_cell (r := (w.heap.size)) HX78.out (by have := HG65.out; have := Z0.out; omega) 6 (.int .i64 u.k) rfl
      have ld82 := part_cell (r := (w.heap.size)) HX78.out (by have := HG65.out; have := Z0.out; omega) 11 (.int .i64 x.k) rfl
      have ld83 := part_cell (r := (w.heap.size)) HX78.out (by have := HG65.out; have := Z0.out; omega) 16 (.int .i64 i) rfl
      have kvV0 : Sees V0 (w.heap.size) W60 := sees_kept _ KB69.out
      have kvW60 : Sees W60 (w.heap.size) W60 := sees_kept _ (kept_refl _)
      go_upto_region 14 with fail
      go_wp2_with (refine stop_store 34 (.tmp 8) (.tmp 83) rfl ?_)
      intro _
      refine wpList_store_part_n (by rfl) 34 (.tmp 8) (.tmp 83) rfl (w.heap.size) 0 #[.bool false, .int .i64 0, .int .i64 0, .int .i64 0, .int .i64 0, .slice none 0 0, .int .i64 0, .int .i64 0, .int .i64 0, .int .i64 0, .slice none 0 0, .int .i64 0, .int .i64 0, .int .i64 0, .int .i64 0, .slice none 0 0, .int .i64 0] (by rfl) (by rfl) 34 (by kernel_rfl) (row_ok rfl) ?_
      intro W84 hW84
      clear kvV0
      clear kvW60
      subst hW84
      refine ⟨_, #[.bool false, .int .i64 0, .int .i64 0, .int .i64 0, .int .i64 0, .slice none 0 0, .int .i64 0, .int .i64 0, .int .i64 0, .int .i64 0, .slice none 0 0, .int .i64 0, .int .i64 0, .int .i64 0, .int .i64 0, .slice none 0 0, .int .i64 0], (blk_at Hx1.out KB69.out), rfl, Nat.le_of_ble_eq_true rfl, ?_⟩
      intro W85 hW85
      go_wp2_with fail
      (try simp only [Exit.inBlock, Exit.then])
      refine bodyPost_ret (results_cell_tmp rfl _ _ (w.heap.size) 34 _ _ dj rfl (blk_same (blk_at Hx1.out KB69.out) hW85) dj1 (by cases dj <;> first | rfl | exact dj2) (by kernel_rfl)) rfl ?_
      have jz89 := Z0.out
      have jq86 := par_end (par_row' (liesQ_nil W60 (Par w V0.heap.size (w41.heap.size :: []) P)) hW85 (by omega) (by omega)) (by omega)
      have jq87 := par_end (par_row' (liesQ_nil W60 (Par w V0.heap.size (w41.heap.size :: []) P)) hW85 (by omega) (by omega)) (by omega)
      have jq88 := par_end (par_row' (liesQ_nil W60 (Par w V0.heap.size (w41.heap.size :: []) P)) hW85 (by omega) (by omega)) (by omega)
      exact ⟨_, _, _, rfl, ⟨jq86, jq87, jq88⟩, kept_set KB68.out hW85 (by omega)⟩

set_option maxRecDepth 20000 in
set_option maxHeartbeats 4000000 in
theorem of14Npf_any (i : Int) (c : List En) (u : Tm) (v : Tm) (x : Tm) (P : Nat → Prop) (w : World) (sc : Value) (b0 : Nat) (su : Value) (sv : Value) (sx : Value) (hlc : LiesE w c sc) (hfu : u.fine) (hlu : LiesQ w P u.kids su) (hfv : v.fine) (hlv : LiesQ w P v.kids sv) (hfx : x.fine) (hlx : LiesQ w P x.kids sx) (hri : I64 i) (hb0 : w.heap[b0]? = some (.cells #[.bool false, .int .i64 u.k, .int .i64 u.i, .int .i64 u.j, .int .i64 u.n, su, .int .i64 v.k, .int .i64 v.i, .int .i64 v.j, .int .i64 v.n, sv, .int .i64 x.k, .int .i64 x.i, .int .i64 x.j, .int .i64 x.n, sx, .int .i64 i] 34 (0, 0))) (hlen : c.length ≤ 100000) (hzu : u.size ≤ 1000000) (hzv : v.size ≤ 1000000) (hzx : x.size ≤ 1000000) (hpc : purC c = false) : Calls Try.prog 12 #[sc, .int .i64 14, .int .i64 0, .slice (some ⟨b0, 0, none⟩) 1 1] w (GivesJT P ⟨false, .zero, .zero, .zero, 0⟩ false w) := by
  have HEc := Lib.hid hlc
  obtain ⟨ac, cc, Sc, rfl, -⟩ := hlc.out
  clear hlc
  have Gu := Lib.hid hfu
  clear hfu
  obtain ⟨au, cu, Su, rfl, -⟩ := hlu.out
  have Gv := Lib.hid hfv
  clear hfv
  obtain ⟨av, cv, Sv, rfl, -⟩ := hlv.out
  have Gx := Lib.hid hfx
  clear hfx
  obtain ⟨ax, cx, Sx, rfl, -⟩ := hlx.out
  have Ri := Lib.hid hri
  clear hri
  have HB0 := Lib.hid hb0
  clear hb0
  have HRN := Lib.hid (show I64 (c.length : Int) by unfold I64; omega)
  have HZU := Lib.hid hzu
  have HZV := Lib.hid hzv
  have HZX := Lib.hid hzx
  clear hzu hzv hzx
  have HPC := Lib.hid hpc
  clear hpc
  obtain ⟨dj, dj1, dj2⟩ := under_of 34 (by kernel_rfl)
  obtain ⟨du, hu1, hu2⟩ := under_term
  go_enter Try.func12, Try.ntmps12
  go_upto_region 1 with fail
  refine at_code (fun V0 hV0 => ?_)
  obtain ⟨k2, x1, z3⟩ := alloc1 hV0
  have Kk4 := Lib.hid k2
  clear k2
  have Hx1 := Lib.hid x1
  have Z0 := Lib.hid z3
  clear z3 x1 hV0
  have HLu : Hid (LiesQ V0 (Par w V0.heap.size [] P) u.kids _) := (par_in _ _ hlu).later Kk4.out
  clear hlu
  have HLv : Hid (LiesQ V0 (Par w V0.heap.size [] P) v.kids _) := (par_in _ _ hlv).later Kk4.out
  clear hlv
  have HLx : Hid (LiesQ V0 (Par w V0.heap.size [] P) x.kids _) := (par_in _ _ hlx).later Kk4.out
  clear hlx
  have kvV0 : Sees V0 (w.heap.size) V0 := sees_kept _ (kept_refl _)
  go_wp2_with fail
  clear kvV0
  have hq7 := kidsK 14 V0
  rw [show Dv.dkidsN 14 = 1 from by decide] at hq7
  refine hq7.mono ?_
  clear hq7
  rintro e w5 ⟨rfl, k6⟩
  have Kk8 := Lib.hid k6
  clear k6
  have kvV0 : Sees V0 (w.heap.size) w5 := sees_kept _ Kk8.out
  go_wp2_with fail
  clear kvV0
  have hq11 := rulepure_any c w5 _ (HEc.out.keep (kept_trans Kk4.out Kk8.out))
  rw [HPC.out] at hq11
  refine hq11.mono ?_
  clear hq11
  rintro e w9 ⟨rfl, k10⟩
  have Kk12 := Lib.hid k10
  clear k10
  have kvV0 : Sees V0 (w.heap.size) w9 := sees_kept _ (kept_trans Kk8.out Kk12.out)
  go_upto_region 2 with fail
  go_wp2_with (refine stop_store 34 (.tmp 8) (.tmp 25) rfl ?_)
  intro _
  refine wpList_store_part_n (by rfl) 34 (.tmp 8) (.tmp 25) rfl (w.heap.size) 0 #[.bool false, .int .i64 0, .int .i64 0, .int .i64 0, .int .i64 0, .slice none 0 0, .int .i64 0, .int .i64 0, .int .i64 0, .int .i64 0, .slice none 0 0, .int .i64 0, .int .i64 0, .int .i64 0, .int .i64 0, .slice none 0 0, .int .i64 0] (by rfl) (by rfl) 34 (by kernel_rfl) (row_ok rfl) ?_
  intro W13 hW13
  clear kvV0
  subst hW13
  refine ⟨_, #[.bool false, .int .i64 0, .int .i64 0, .int .i64 0, .int .i64 0, .slice none 0 0, .int .i64 0, .int .i64 0, .int .i64 0, .int .i64 0, .slice none 0 0, .int .i64 0, .int .i64 0, .int .i64 0, .int .i64 0, .slice none 0 0, .int .i64 0], (blk_at Hx1.out (kept_trans Kk8.out Kk12.out)), rfl, Nat.le_of_ble_eq_true rfl, ?_⟩
  intro W14 hW14
  go_wp2_with fail
  (try simp only [Exit.inBlock, Exit.then])
  refine bodyPost_ret (results_cell_tmp rfl _ _ (w.heap.size) 34 _ _ dj rfl (blk_same (blk_at Hx1.out (kept_trans Kk8.out Kk12.out)) hW14) dj1 (by cases dj <;> first | rfl | exact dj2) (by kernel_rfl)) rfl ?_
  have jz18 := Z0.out
  have jq15 := par_end (par_row' (liesQ_nil w9 (Par w V0.heap.size [] P)) hW14 (by omega) (by omega)) (by omega)
  have jq16 := par_end (par_row' (liesQ_nil w9 (Par w V0.heap.size [] P)) hW14 (by omega) (by omega)) (by omega)
  have jq17 := par_end (par_row' (liesQ_nil w9 (Par w V0.heap.size [] P)) hW14 (by omega) (by omega)) (by omega)
  exact ⟨_, _, _, rfl, ⟨jq15, jq16, jq17⟩, kept_set (kept_trans Kk4.out (kept_trans Kk8.out Kk12.out)) hW14 (by omega)⟩

set_option maxRecDepth 20000 in
set_option maxHeartbeats 4000000 in
theorem of14Nrf_any (i : Int) (c : List En) (u : Tm) (v : Tm) (x : Tm) (P : Nat → Prop) (w : World) (sc : Value) (b0 : Nat) (su : Value) (sv : Value) (sx : Value) (hlc : LiesE w c sc) (hfu : u.fine) (hlu : LiesQ w P u.kids su) (hfv : v.fine) (hlv : LiesQ w P v.kids sv) (hfx : x.fine) (hlx : LiesQ w P x.kids sx) (hri : I64 i) (hb0 : w.heap[b0]? = some (.cells #[.bool false, .int .i64 u.k, .int .i64 u.i, .int .i64 u.j, .int .i64 u.n, su, .int .i64 v.k, .int .i64 v.i, .int .i64 v.j, .int .i64 v.n, sv, .int .i64 x.k, .int .i64 x.i, .int .i64 x.j, .int .i64 x.n, sx, .int .i64 i] 34 (0, 0))) (hlen : c.length ≤ 100000) (hzu : u.size ≤ 1000000) (hzv : v.size ≤ 1000000) (hzx : x.size ≤ 1000000) (hpc : purC c = true) (hrj : rightJ (⟨false, u, v, x, i⟩ : Jd) (c.length : Int) = false) : Calls Try.prog 12 #[sc, .int .i64 14, .int .i64 0, .slice (some ⟨b0, 0, none⟩) 1 1] w (GivesJT P ⟨false, .zero, .zero, .zero, 0⟩ false w) := by
  have HEc := Lib.hid hlc
  obtain ⟨ac, cc, Sc, rfl, -⟩ := hlc.out
  clear hlc
  have Gu := Lib.hid hfu
  clear hfu
  obtain ⟨au, cu, Su, rfl, -⟩ := hlu.out
  have Gv := Lib.hid hfv
  clear hfv
  obtain ⟨av, cv, Sv, rfl, -⟩ := hlv.out
  have Gx := Lib.hid hfx
  clear hfx
  obtain ⟨ax, cx, Sx, rfl, -⟩ := hlx.out
  have Ri := Lib.hid hri
  clear hri
  have HB0 := Lib.hid hb0
  clear hb0
  have HRN := Lib.hid (show I64 (c.length : Int) by unfold I64; omega)
  have HZU := Lib.hid hzu
  have HZV := Lib.hid hzv
  have HZX := Lib.hid hzx
  clear hzu hzv hzx
  have HPC := Lib.hid hpc
  clear hpc
  have HRJ := Lib.hid hrj
  clear hrj
  obtain ⟨dj, dj1, dj2⟩ := under_of 34 (by kernel_rfl)
  obtain ⟨du, hu1, hu2⟩ := under_term
  go_enter Try.func12, Try.ntmps12
  go_upto_region 1 with fail
  refine at_code (fun V0 hV0 => ?_)
  obtain ⟨k2, x1, z3⟩ := alloc1 hV0
  have Kk4 := Lib.hid k2
  clear k2
  have Hx1 := Lib.hid x1
  have Z0 := Lib.hid z3
  clear z3 x1 hV0
  have HLu : Hid (LiesQ V0 (Par w V0.heap.size [] P) u.kids _) := (par_in _ _ hlu).later Kk4.out
  clear hlu
  have HLv : Hid (LiesQ V0 (Par w V0.heap.size [] P) v.kids _) := (par_in _ _ hlv).later Kk4.out
  clear hlv
  have HLx : Hid (LiesQ V0 (Par w V0.heap.size [] P) x.kids _) := (par_in _ _ hlx).later Kk4.out
  clear hlx
  have kvV0 : Sees V0 (w.heap.size) V0 := sees_kept _ (kept_refl _)
  go_wp2_with fail
  clear kvV0
  have hq7 := kidsK 14 V0
  rw [show Dv.dkidsN 14 = 1 from by decide] at hq7
  refine hq7.mono ?_
  clear hq7
  rintro e w5 ⟨rfl, k6⟩
  have Kk8 := Lib.hid k6
  clear k6
  have kvV0 : Sees V0 (w.heap.size) w5 := sees_kept _ Kk8.out
  go_wp2_with fail
  clear kvV0
  have hq11 := rulepure_any c w5 _ (HEc.out.keep (kept_trans Kk4.out Kk8.out))
  rw [HPC.out] at hq11
  refine hq11.mono ?_
  clear hq11
  rintro e w9 ⟨rfl, k10⟩
  have Kk12 := Lib.hid k10
  clear k10
  have kvV0 : Sees V0 (w.heap.size) w9 := sees_kept _ (kept_trans Kk8.out Kk12.out)
  go_wp2_with fail
  clear kvV0
  go_loopw [28] (fun iv wr => ∃ i : Int, 0 ≤ i ∧ i ≤ 1 ∧ iv = .int .i64 i ∧ Hid (i = 0) ∧ Kept w9 wr) (fun iv _ => 1 - (intOf iv).toNat)
  case atStart => exact ⟨0, by decide, by decide, rfl, rfl, kept_refl _⟩
  case round =>
    obtain ⟨i, hi0, hi1, rfl, hv14, k13⟩ := hrel
    have Kk15 := Lib.hid k13
    clear k13
    have HVhv14 := Lib.hid hv14.out
    clear hv14
    obtain rfl | rfl : i = 0 ∨ i = 1 := by omega
    · clear hi0 hi1
      have kvV0 : Sees V0 (w.heap.size) wr := sees_kept _ (kept_trans Kk8.out (kept_trans Kk12.out Kk15.out))
      go_wp2_with (refine stop_load 34 (.tmp 31) rfl ?_)
      intro _
      refine wpList_load_part (b0) (0) 34 (.tmp 31) #[.bool false, .int .i64 u.k, .int .i64 u.i, .int .i64 u.j, .int .i64 u.n, (.slice au u.kids.length cu), .int .i64 v.k, .int .i64 v.i, .int .i64 v.j, .int .i64 v.n, (.slice av v.kids.length cv), .int .i64 x.k, .int .i64 x.i, .int .i64 x.j, .int .i64 x.n, (.slice ax x.kids.length cx), .int .i64 i] dj (blk_at HB0.out (kept_trans Kk4.out (kept_trans Kk8.out (kept_trans Kk12.out Kk15.out)))) (by rfl) rfl (by rfl) (by rfl) dj1 (by cases dj <;> first | rfl | exact dj2) (by kernel_rfl) ?_
      go_wp2_with (refine stop_store 34 (.tmp 11) (.tmp 32) rfl ?_)
      intro _
      refine wpList_store_part_n (by rfl) 34 (.tmp 11) (.tmp 32) rfl (wr.heap.size) 0 #[.bool false, .int .i64 u.k, .int .i64 u.i, .int .i64 u.j, .int .i64 u.n, (.slice au u.kids.length cu), .int .i64 v.k, .int .i64 v.i, .int .i64 v.j, .int .i64 v.n, (.slice av v.kids.length cv), .int .i64 x.k, .int .i64 x.i, .int .i64 x.j, .int .i64 x.n, (.slice ax x.kids.length cx), .int .i64 i] (by rfl) (by rfl) 34 (by kernel_rfl) (row_ok rfl) ?_
      intro W16 hW16
      clear kvV0
      obtain ⟨k19, x18, z20⟩ := alloc1 hW16
      have Kk21 := Lib.hid k19
      clear k19
      have Hx18 := Lib.hid x18
      have Hz20 := Lib.hid z20
      clear x18 z20 hW16
      have HG22 : Hid (V0.heap.size ≤ wr.heap.size) := (Below.size (kept_trans Kk8.out (kept_trans Kk12.out Kk15.out)))
      have XL23 : Hid (XLt (wr.heap.size :: []) W16) := (xlt_more (xlt_nil _) Kk21.out (by have := Hz20.out; omega))
      have HD24 : Hid (wr.heap.size ≤ wr.heap.size) := Below.size (kept_refl _)
      refine ⟨_, #[.bool false, .int .i64 u.k, .int .i64 u.i, .int .i64 u.j, .int .i64 u.n, (.slice au u.kids.length cu), .int .i64 v.k, .int .i64 v.i, .int .i64 v.j, .int .i64 v.n, (.slice av v.kids.length cv), .int .i64 x.k, .int .i64 x.i, .int .i64 x.j, .int .i64 x.n, (.slice ax x.kids.length cx), .int .i64 i], Hx18.out, rfl, Nat.le_of_ble_eq_true rfl, ?_⟩
      intro W17 hW17
      have KB25 := Lib.hid (kept_set (kept_trans Kk4.out (kept_trans Kk8.out (kept_trans Kk12.out (kept_trans Kk15.out Kk21.out)))) hW17 (by have := HG22.out; have := Z0.out; omega))
      have KB26 := Lib.hid (kept_set (kept_trans Kk8.out (kept_trans Kk12.out (kept_trans Kk15.out Kk21.out))) hW17 HG22.out)
      have KB27 := Lib.hid (kept_set Kk21.out hW17 HD24.out)
      have HL28 : Hid (LiesQ W17 (Par w V0.heap.size (wr.heap.size :: []) P) u.kids _) := par_set (par_grow HLu.out (kept_trans Kk8.out (kept_trans Kk12.out (kept_trans Kk15.out Kk21.out))) (List.forall_mem_cons.2 ⟨(Or.inr (Nat.le_trans (Below.size (kept_trans Kk8.out (kept_trans Kk12.out Kk15.out))) (Nat.le_refl wr.heap.size))), (fun _ h => nomatch h)⟩)) hW17 (List.mem_cons_self ..) (by have := HG22.out; have := Z0.out; omega)
      have HL29 : Hid (LiesQ W17 (Par w V0.heap.size (wr.heap.size :: []) P) v.kids _) := par_set (par_grow HLv.out (kept_trans Kk8.out (kept_trans Kk12.out (kept_trans Kk15.out Kk21.out))) (List.forall_mem_cons.2 ⟨(Or.inr (Nat.le_trans (Below.size (kept_trans Kk8.out (kept_trans Kk12.out Kk15.out))) (Nat.le_refl wr.heap.size))), (fun _ h => nomatch h)⟩)) hW17 (List.mem_cons_self ..) (by have := HG22.out; have := Z0.out; omega)
      have HL30 : Hid (LiesQ W17 (Par w V0.heap.size (wr.heap.size :: []) P) x.kids _) := par_set (par_grow HLx.out (kept_trans Kk8.out (kept_trans Kk12.out (kept_trans Kk15.out Kk21.out))) (List.forall_mem_cons.2 ⟨(Or.inr (Nat.le_trans (Below.size (kept_trans Kk8.out (kept_trans Kk12.out Kk15.out))) (Nat.le_refl wr.heap.size))), (fun _ h => nomatch h)⟩)) hW17 (List.mem_cons_self ..) (by have := HG22.out; have := Z0.out; omega)
      have XL31 := Lib.hid (xlt_set XL23.out hW17)
      have HX32 := Lib.hid (blk_same Hx18.out hW17)
      clear hW17
      have kvV0 : Sees V0 (w.heap.size) W17 := sees_kept _ KB26.out
      have kvW17 : Sees W17 (w.heap.size) W17 := sees_kept _ (kept_refl _)
      go_wp2_with fail
      clear kvV0
      clear kvW17
      have hq35 := innerK 14 0 W17
      rw [show Dv.innerB 14 0 = false from by decide] at hq35
      refine hq35.mono ?_
      clear hq35
      rintro e w33 ⟨rfl, k34⟩
      have Kk36 := Lib.hid k34
      clear k34
      have kvV0 : Sees V0 (w.heap.size) w33 := sees_kept _ (kept_trans KB26.out Kk36.out)
      have kvW17 : Sees W17 (w.heap.size) w33 := sees_kept _ Kk36.out
      go_wp2_with (refine stop_load 34 (.tmp 11) rfl ?_)
      intro _
      refine wpList_load_part (wr.heap.size) (0) 34 (.tmp 11) #[.bool false, .int .i64 u.k, .int .i64 u.i, .int .i64 u.j, .int .i64 u.n, (.slice au u.kids.length cu), .int .i64 v.k, .int .i64 v.i, .int .i64 v.j, .int .i64 v.n, (.slice av v.kids.length cv), .int .i64 x.k, .int .i64 x.i, .int .i64 x.j, .int .i64 x.n, (.slice ax x.kids.length cx), .int .i64 i] dj (blk_at HX32.out Kk36.out) (by rfl) rfl (by rfl) (by rfl) dj1 (by cases dj <;> first | rfl | exact dj2) (by kernel_rfl) ?_
      go_wp2_with fail
      clear kvV0
      clear kvW17
      have hq39 := rright0_any (c.length : Int) i u v x (Par w V0.heap.size (wr.heap.size :: []) P) w33 ((.slice au u.kids.length cu)) ((.slice av v.kids.length cv)) ((.slice ax x.kids.length cx)) Gu.out (HL28.out.later Kk36.out) Gv.out (HL29.out.later Kk36.out) Gx.out (HL30.out.later Kk36.out) Ri.out HRN.out
      rw [HRJ.out] at hq39
      refine hq39.mono ?_
      clear hq39
      rintro e w37 ⟨rfl, k38⟩
      have Kk40 := Lib.hid k38
      clear k38
      have kvV0 : Sees V0 (w.heap.size) w37 := sees_kept _ (kept_trans KB26.out (kept_trans Kk36.out Kk40.out))
      have kvW17 : Sees W17 (w.heap.size) w37 := sees_kept _ (kept_trans Kk36.out Kk40.out)
      go_upto_region 10 with fail
      go_wp2_with (refine stop_store 34 (.tmp 8) (.tmp 44) rfl ?_)
      intro _
      refine wpList_store_part_n (by rfl) 34 (.tmp 8) (.tmp 44) rfl (w.heap.size) 0 #[.bool false, .int .i64 0, .int .i64 0, .int .i64 0, .int .i64 0, .slice none 0 0, .int .i64 0, .int .i64 0, .int .i64 0, .int .i64 0, .slice none 0 0, .int .i64 0, .int .i64 0, .int .i64 0, .int .i64 0, .slice none 0 0, .int .i64 0] (by rfl) (by rfl) 34 (by kernel_rfl) (row_ok rfl) ?_
      intro W41 hW41
      clear kvV0
      clear kvW17
      subst hW41
      refine ⟨_, #[.bool false, .int .i64 0, .int .i64 0, .int .i64 0, .int .i64 0, .slice none 0 0, .int .i64 0, .int .i64 0, .int .i64 0, .int .i64 0, .slice none 0 0, .int .i64 0, .int .i64 0, .int .i64 0, .int .i64 0, .slice none 0 0, .int .i64 0], (blk_at Hx1.out (kept_trans KB26.out (kept_trans Kk36.out Kk40.out))), rfl, Nat.le_of_ble_eq_true rfl, ?_⟩
      intro W42 hW42
      go_wp2_with fail
      (try simp only [Exit.inBlock, Exit.then])
      refine bodyPost_ret (results_cell_tmp rfl _ _ (w.heap.size) 34 _ _ dj rfl (blk_same (blk_at Hx1.out (kept_trans KB26.out (kept_trans Kk36.out Kk40.out))) hW42) dj1 (by cases dj <;> first | rfl | exact dj2) (by kernel_rfl)) rfl ?_
      have jz46 := Z0.out
      have jq43 := par_end (par_row' (liesQ_nil w37 (Par w V0.heap.size (wr.heap.size :: []) P)) hW42 (by omega) (by omega)) (by omega)
      have jq44 := par_end (par_row' (liesQ_nil w37 (Par w V0.heap.size (wr.heap.size :: []) P)) hW42 (by omega) (by omega)) (by omega)
      have jq45 := par_end (par_row' (liesQ_nil w37 (Par w V0.heap.size (wr.heap.size :: []) P)) hW42 (by omega) (by omega)) (by omega)
      exact ⟨_, _, _, rfl, ⟨jq43, jq44, jq45⟩, kept_set (kept_trans KB25.out (kept_trans Kk36.out Kk40.out)) hW42 (by omega)⟩
    · exact absurd HVhv14.out (by decide)

def of15okr15_0 : Oper := { dst := some 84, op := Go.Op.fieldAddr 34 (Go.Operand.tmp 13) 1, type := 0, pos := "rule.go:48", after := #[], guard := none }
def of15okr15_1 : Oper := { dst := some 85, op := Go.Op.load 32 (Go.Operand.tmp 84), type := 32, pos := "rule.go:48", after := #[{ on := 0, ground := Go.Ground.data }], guard := none }
def of15okr15_2 : Oper := { dst := some 86, op := Go.Op.call { callee := Go.Callee.value (Go.Operand.func 35), args := #[Go.Operand.tmp 85], argTypes := #[32] }, type := 32, pos := "rule.go:48", after := #[{ on := 1, ground := Go.Ground.data }], guard := none }
def of15okr15_3 : Oper := { dst := some 87, op := Go.Op.fieldAddr 34 (Go.Operand.tmp 13) 2, type := 0, pos := "rule.go:48", after := #[], guard := none }
def of15okr15_4 : Oper := { dst := some 88, op := Go.Op.load 32 (Go.Operand.tmp 87), type := 32, pos := "rule.go:48", after := #[{ on := 3, ground := Go.Ground.data }], guard := none }
def of15okr15_5 : Oper := { dst := some 89, op := Go.Op.call { callee := Go.Callee.value (Go.Operand.func 35), args := #[Go.Operand.tmp 88], argTypes := #[32] }, type := 32, pos := "rule.go:48", after := #[{ on := 4, ground := Go.Ground.data }, { on := 2, ground := Go.Ground.chain }], guard := none }
def of15okr15_6 : Oper := { dst := some 90, op := Go.Op.fieldAddr 34 (Go.Operand.tmp 13) 3, type := 0, pos := "rule.go:48", after := #[], guard := none }
def of15okr15_7 : Oper := { dst := some 91, op := Go.Op.load 32 (Go.Operand.tmp 90), type := 32, pos := "rule.go:48", after := #[{ on := 6, ground := Go.Ground.data }], guard := none }
def of15okr15_8 : Oper := { dst := some 92, op := Go.Op.call { callee := Go.Callee.value (Go.Operand.func 35), args := #[Go.Operand.tmp 91], argTypes := #[32] }, type := 32, pos := "rule.go:48", after := #[{ on := 7, ground := Go.Ground.data }, { on := 5, ground := Go.Ground.chain }], guard := none }
def of15okr15_9 : Oper := { dst := some 93, op := Go.Op.fieldAddr 34 (Go.Operand.tmp 13) 1, type := 0, pos := "rule.go:48", after := #[{ on := 0, ground := Go.Ground.phase }, { on := 1, ground := Go.Ground.phase }, { on := 2, ground := Go.Ground.phase }, { on := 3, ground := Go.Ground.phase }, { on := 4, ground := Go.Ground.phase }, { on := 5, ground := Go.Ground.textOnly Go.Departure.lateStoresUnsure }, { on := 6, ground := Go.Ground.phase }, { on := 7, ground := Go.Ground.phase }, { on := 8, ground := Go.Ground.textOnly Go.Departure.lateStoresUnsure }], guard := none }
def of15okr15_10 : Oper := { dst := none, op := Go.Op.store 32 (Go.Operand.tmp 93) (Go.Operand.tmp 86), type := 0, pos := "rule.go:48", after := #[{ on := 9, ground := Go.Ground.data }, { on := 2, ground := Go.Ground.data }, { on := 8, ground := Go.Ground.chain }, { on := 0, ground := Go.Ground.phase }, { on := 1, ground := Go.Ground.phase }, { on := 2, ground := Go.Ground.phase }, { on := 3, ground := Go.Ground.phase }, { on := 4, ground := Go.Ground.phase }, { on := 5, ground := Go.Ground.textOnly Go.Departure.lateStoresUnsure }, { on := 6, ground := Go.Ground.phase }, { on := 7, ground := Go.Ground.phase }, { on := 8, ground := Go.Ground.textOnly Go.Departure.lateStoresUnsure }], guard := none }
def of15okr15_11 : Oper := { dst := some 94, op := Go.Op.fieldAddr 34 (Go.Operand.tmp 13) 2, type := 0, pos := "rule.go:48", after := #[{ on := 0, ground := Go.Ground.phase }, { on := 1, ground := Go.Ground.phase }, { on := 2, ground := Go.Ground.phase }, { on := 3, ground := Go.Ground.phase }, { on := 4, ground := Go.Ground.phase }, { on := 5, ground := Go.Ground.phase }, { on := 6, ground := Go.Ground.phase }, { on := 7, ground := Go.Ground.phase }, { on := 8, ground := Go.Ground.textOnly Go.Departure.lateStoresUnsure }, { on := 9, ground := Go.Ground.phase }, { on := 10, ground := Go.Ground.phase }], guard := none }
def of15okr15_12 : Oper := { dst := none, op := Go.Op.store 32 (Go.Operand.tmp 94) (Go.Operand.tmp 89), type := 0, pos := "rule.go:48", after := #[{ on := 11, ground := Go.Ground.data }, { on := 5, ground := Go.Ground.data }, { on := 10, ground := Go.Ground.chain }, { on := 0, ground := Go.Ground.phase }, { on := 1, ground := Go.Ground.phase }, { on := 2, ground := Go.Ground.phase }, { on := 3, ground := Go.Ground.phase }, { on := 4, ground := Go.Ground.phase }, { on := 5, ground := Go.Ground.phase }, { on := 6, ground := Go.Ground.phase }, { on := 7, ground := Go.Ground.phase }, { on := 8, ground := Go.Ground.textOnly Go.Departure.lateStoresUnsure }, { on := 9, ground := Go.Ground.phase }, { on := 10, ground := Go.Ground.phase }], guard := none }
def of15okr15_13 : Oper := { dst := some 95, op := Go.Op.fieldAddr 34 (Go.Operand.tmp 13) 3, type := 0, pos := "rule.go:48", after := #[{ on := 0, ground := Go.Ground.phase }, { on := 1, ground := Go.Ground.phase }, { on := 2, ground := Go.Ground.phase }, { on := 3, ground := Go.Ground.phase }, { on := 4, ground := Go.Ground.phase }, { on := 5, ground := Go.Ground.phase }, { on := 6, ground := Go.Ground.phase }, { on := 7, ground := Go.Ground.phase }, { on := 8, ground := Go.Ground.phase }, { on := 9, ground := Go.Ground.phase }, { on := 10, ground := Go.Ground.phase }, { on := 11, ground := Go.Ground.phase }, { on := 12, ground := Go.Ground.phase }], guard := none }
def of15okr15_14 : Oper := { dst := none, op := Go.Op.store 32 (Go.Operand.tmp 95) (Go.Operand.tmp 92), type := 0, pos := "rule.go:48", after := #[{ on := 13, ground := Go.Ground.data }, { on := 8, ground := Go.Ground.data }, { on := 12, ground := Go.Ground.chain }, { on := 0, ground := Go.Ground.phase }, { on := 1, ground := Go.Ground.phase }, { on := 2, ground := Go.Ground.phase }, { on := 3, ground := Go.Ground.phase }, { on := 4, ground := Go.Ground.phase }, { on := 5, ground := Go.Ground.phase }, { on := 6, ground := Go.Ground.phase }, { on := 7, ground := Go.Ground.phase }, { on := 8, ground := Go.Ground.phase }, { on := 9, ground := Go.Ground.phase }, { on := 10, ground := Go.Ground.phase }, { on := 11, ground := Go.Ground.phase }, { on := 12, ground := Go.Ground.phase }], guard := none }
set_option maxRecDepth 20000 in
set_option maxHeartbeats 4000000 in
theorem of15ok_any (i : Int) (c : List En) (u : Tm) (v : Tm) (x : Tm) (P : Nat → Prop) (w : World) (sc : Value) (b0 : Nat) (su : Value) (sv : Value) (sx : Value) (su2 : Value) (sv2 : Value) (sx2 : Value) (hlc : LiesE w c sc) (hfu : u.fine) (hlu : LiesQ w P u.kids su) (hfv : v.fine) (hlv : LiesQ w P v.kids sv) (hfx : x.fine) (hlx : LiesQ w P x.kids sx) (hri : I64 i) (hlu2 : LiesQ w P v.kids su2) (hlv2 : LiesQ w P u.kids sv2) (hlx2 : LiesQ w P x.kids sx2) (hb0 : w.heap[b0]? = some (.cells #[.bool true, .int .i64 u.k, .int .i64 u.i, .int .i64 u.j, .int .i64 u.n, su, .int .i64 v.k, .int .i64 v.i, .int .i64 v.j, .int .i64 v.n, sv, .int .i64 x.k, .int .i64 x.i, .int .i64 x.j, .int .i64 x.n, sx, .int .i64 i, .bool true, .int .i64 v.k, .int .i64 v.i, .int .i64 v.j, .int .i64 v.n, su2, .int .i64 u.k, .int .i64 u.i, .int .i64 u.j, .int .i64 u.n, sv2, .int .i64 x.k, .int .i64 x.i, .int .i64 x.j, .int .i64 x.n, sx2, .int .i64 i] 34 (0, 0))) (hlen : c.length ≤ 100000) (hzu : u.size ≤ 1000000) (hzv : v.size ≤ 1000000) (hzx : x.size ≤ 1000000) (hpc : purC c = true) (hrj : rightJ (⟨true, u, v, x, i⟩ : Jd) (c.length : Int) = true) (hrk : rightJ (⟨true, v, u, x, i⟩ : Jd) (c.length : Int) = true) : Calls Try.prog 12 #[sc, .int .i64 15, .int .i64 0, .slice (some ⟨b0, 0, none⟩) 2 2] w (GivesJT P ⟨true, u, u, x, i⟩ true w) := by
  have HEc := Lib.hid hlc
  obtain ⟨ac, cc, Sc, rfl, -⟩ := hlc.out
  clear hlc
  have Gu := Lib.hid hfu
  clear hfu
  obtain ⟨au, cu, Su, rfl, -⟩ := hlu.out
  have Gv := Lib.hid hfv
  clear hfv
  obtain ⟨av, cv, Sv, rfl, -⟩ := hlv.out
  have Gx := Lib.hid hfx
  clear hfx
  obtain ⟨ax, cx, Sx, rfl, -⟩ := hlx.out
  have Ri := Lib.hid hri
  clear hri
  obtain ⟨au2, cu2, Su2, rfl, -⟩ := hlu2.out
  obtain ⟨av2, cv2, Sv2, rfl, -⟩ := hlv2.out
  obtain ⟨ax2, cx2, Sx2, rfl, -⟩ := hlx2.out
  have HB0 := Lib.hid hb0
  clear hb0
  have HRN := Lib.hid (show I64 (c.length : Int) by unfold I64; omega)
  have HZU := Lib.hid hzu
  have HZV := Lib.hid hzv
  have HZX := Lib.hid hzx
  clear hzu hzv hzx
  have HPC := Lib.hid hpc
  clear hpc
  have HRJ := Lib.hid hrj
  clear hrj
  have HRK := Lib.hid hrk
  clear hrk
  have hxi := rightJ_iT HRJ.out
  have fk1 : (u.k == 0) = false := kind_not (rightJ_u HRJ.out)
  have fk2 : (x.k == 0) = false := kind_not (rightJ_pure HRJ.out)
  have fk4 : decide (1000 < i) = false := decide_eq_false (by have : i ≤ 1000 := hxi; omega)
  clear hxi
  have fk3 : (v.k == 0) = false := kind_not (rightJ_v HRJ.out)
  obtain ⟨dj, dj1, dj2⟩ := under_of 34 (by kernel_rfl)
  obtain ⟨du, hu1, hu2⟩ := under_term
  go_enter Try.func12, Try.ntmps12
  go_upto_region 1 with fail
  refine at_code (fun V0 hV0 => ?_)
  obtain ⟨k2, x1, z3⟩ := alloc1 hV0
  have Kk4 := Lib.hid k2
  clear k2
  have Hx1 := Lib.hid x1
  have Z0 := Lib.hid z3
  clear z3 x1 hV0
  have HLu : Hid (LiesQ V0 (Par w V0.heap.size [] P) u.kids _) := (par_in _ _ hlu).later Kk4.out
  clear hlu
  have HLv : Hid (LiesQ V0 (Par w V0.heap.size [] P) v.kids _) := (par_in _ _ hlv).later Kk4.out
  clear hlv
  have HLx : Hid (LiesQ V0 (Par w V0.heap.size [] P) x.kids _) := (par_in _ _ hlx).later Kk4.out
  clear hlx
  have HLu2 : Hid (LiesQ V0 (Par w V0.heap.size [] P) v.kids _) := (par_in _ _ hlu2).later Kk4.out
  clear hlu2
  have HLv2 : Hid (LiesQ V0 (Par w V0.heap.size [] P) u.kids _) := (par_in _ _ hlv2).later Kk4.out
  clear hlv2
  have HLx2 : Hid (LiesQ V0 (Par w V0.heap.size [] P) x.kids _) := (par_in _ _ hlx2).later Kk4.out
  clear hlx2
  have kvV0 : Sees V0 (w.heap.size) V0 := sees_kept _ (kept_refl _)
  go_wp2_with fail
  clear kvV0
  have hq7 := kidsK 15 V0
  rw [show Dv.dkidsN 15 = 2 from by decide] at hq7
  refine hq7.mono ?_
  clear hq7
  rintro e w5 ⟨rfl, k6⟩
  have Kk8 := Lib.hid k6
  clear k6
  have kvV0 : Sees V0 (w.heap.size) w5 := sees_kept _ Kk8.out
  go_wp2_with fail
  clear kvV0
  have hq11 := rulepure_any c w5 _ (HEc.out.keep (kept_trans Kk4.out Kk8.out))
  rw [HPC.out] at hq11
  refine hq11.mono ?_
  clear hq11
  rintro e w9 ⟨rfl, k10⟩
  have Kk12 := Lib.hid k10
  clear k10
  have kvV0 : Sees V0 (w.heap.size) w9 := sees_kept _ (kept_trans Kk8.out Kk12.out)
  go_wp2_with fail
  clear kvV0
  go_loopw [28] (fun iv wr => ∃ i : Int, 0 ≤ i ∧ i ≤ 2 ∧ iv = .int .i64 i ∧ Hid (True) ∧ Kept w9 wr) (fun iv _ => 2 - (intOf iv).toNat)
  case atStart => exact ⟨0, by decide, by decide, rfl, trivial, kept_refl _⟩
  case round =>
    obtain ⟨i, hi0, hi1, rfl, hv14, k13⟩ := hrel
    have Kk15 := Lib.hid k13
    clear k13
    have HVhv14 := Lib.hid hv14.out
    clear hv14
    obtain rfl | rfl | rfl : i = 0 ∨ i = 1 ∨ i = 2 := by omega
    · clear hi0 hi1
      have kvV0 : Sees V0 (w.heap.size) wr := sees_kept _ (kept_trans Kk8.out (kept_trans Kk12.out Kk15.out))
      go_wp2_with (refine stop_load 34 (.tmp 31) rfl ?_)
      intro _
      refine wpList_load_part (b0) (0) 34 (.tmp 31) #[.bool true, .int .i64 u.k, .int .i64 u.i, .int .i64 u.j, .int .i64 u.n, (.slice au u.kids.length cu), .int .i64 v.k, .int .i64 v.i, .int .i64 v.j, .int .i64 v.n, (.slice av v.kids.length cv), .int .i64 x.k, .int .i64 x.i, .int .i64 x.j, .int .i64 x.n, (.slice ax x.kids.length cx), .int .i64 i] dj (blk_at HB0.out (kept_trans Kk4.out (kept_trans Kk8.out (kept_trans Kk12.out Kk15.out)))) (by rfl) rfl (by rfl) (by rfl) dj1 (by cases dj <;> first | rfl | exact dj2) (by kernel_rfl) ?_
      go_wp2_with (refine stop_store 34 (.tmp 11) (.tmp 32) rfl ?_)
      intro _
      refine wpList_store_part_n (by rfl) 34 (.tmp 11) (.tmp 32) rfl (wr.heap.size) 0 #[.bool true, .int .i64 u.k, .int .i64 u.i, .int .i64 u.j, .int .i64 u.n, (.slice au u.kids.length cu), .int .i64 v.k, .int .i64 v.i, .int .i64 v.j, .int .i64 v.n, (.slice av v.kids.length cv), .int .i64 x.k, .int .i64 x.i, .int .i64 x.j, .int .i64 x.n, (.slice ax x.kids.length cx), .int .i64 i] (by rfl) (by rfl) 34 (by kernel_rfl) (row_ok rfl) ?_
      intro W16 hW16
      clear kvV0
      obtain ⟨k19, x18, z20⟩ := alloc1 hW16
      have Kk21 := Lib.hid k19
      clear k19
      have Hx18 := Lib.hid x18
      have Hz20 := Lib.hid z20
      clear x18 z20 hW16
      have HG22 : Hid (V0.heap.size ≤ wr.heap.size) := (Below.size (kept_trans Kk8.out (kept_trans Kk12.out Kk15.out)))
      have XL23 : Hid (XLt (wr.heap.size :: []) W16) := (xlt_more (xlt_nil _) Kk21.out (by have := Hz20.out; omega))
      have HD24 : Hid (wr.heap.size ≤ wr.heap.size) := Below.size (kept_refl _)
      refine ⟨_, #[.bool true, .int .i64 u.k, .int .i64 u.i, .int .i64 u.j, .int .i64 u.n, (.slice au u.kids.length cu), .int .i64 v.k, .int .i64 v.i, .int .i64 v.j, .int .i64 v.n, (.slice av v.kids.length cv), .int .i64 x.k, .int .i64 x.i, .int .i64 x.j, .int .i64 x.n, (.slice ax x.kids.length cx), .int .i64 i], Hx18.out, rfl, Nat.le_of_ble_eq_true rfl, ?_⟩
      intro W17 hW17
      have KB25 := Lib.hid (kept_set (kept_trans Kk4.out (kept_trans Kk8.out (kept_trans Kk12.out (kept_trans Kk15.out Kk21.out)))) hW17 (by have := HG22.out; have := Z0.out; omega))
      have KB26 := Lib.hid (kept_set (kept_trans Kk8.out (kept_trans Kk12.out (kept_trans Kk15.out Kk21.out))) hW17 HG22.out)
      have KB27 := Lib.hid (kept_set Kk21.out hW17 HD24.out)
      have HL28 : Hid (LiesQ W17 (Par w V0.heap.size (wr.heap.size :: []) P) u.kids _) := par_set (par_grow HLu.out (kept_trans Kk8.out (kept_trans Kk12.out (kept_trans Kk15.out Kk21.out))) (List.forall_mem_cons.2 ⟨(Or.inr (Nat.le_trans (Below.size (kept_trans Kk8.out (kept_trans Kk12.out Kk15.out))) (Nat.le_refl wr.heap.size))), (fun _ h => nomatch h)⟩)) hW17 (List.mem_cons_self ..) (by have := HG22.out; have := Z0.out; omega)
      have HL29 : Hid (LiesQ W17 (Par w V0.heap.size (wr.heap.size :: []) P) v.kids _) := par_set (par_grow HLv.out (kept_trans Kk8.out (kept_trans Kk12.out (kept_trans Kk15.out Kk21.out))) (List.forall_mem_cons.2 ⟨(Or.inr (Nat.le_trans (Below.size (kept_trans Kk8.out (kept_trans Kk12.out Kk15.out))) (Nat.le_refl wr.heap.size))), (fun _ h => nomatch h)⟩)) hW17 (List.mem_cons_self ..) (by have := HG22.out; have := Z0.out; omega)
      have HL30 : Hid (LiesQ W17 (Par w V0.heap.size (wr.heap.size :: []) P) x.kids _) := par_set (par_grow HLx.out (kept_trans Kk8.out (kept_trans Kk12.out (kept_trans Kk15.out Kk21.out))) (List.forall_mem_cons.2 ⟨(Or.inr (Nat.le_trans (Below.size (kept_trans Kk8.out (kept_trans Kk12.out Kk15.out))) (Nat.le_refl wr.heap.size))), (fun _ h => nomatch h)⟩)) hW17 (List.mem_cons_self ..) (by have := HG22.out; have := Z0.out; omega)
      have HL31 : Hid (LiesQ W17 (Par w V0.heap.size (wr.heap.size :: []) P) v.kids _) := par_set (par_grow HLu2.out (kept_trans Kk8.out (kept_trans Kk12.out (kept_trans Kk15.out Kk21.out))) (List.forall_mem_cons.2 ⟨(Or.inr (Nat.le_trans (Below.size (kept_trans Kk8.out (kept_trans Kk12.out Kk15.out))) (Nat.le_refl wr.heap.size))), (fun _ h => nomatch h)⟩)) hW17 (List.mem_cons_self ..) (by have := HG22.out; have := Z0.out; omega)
      have HL32 : Hid (LiesQ W17 (Par w V0.heap.size (wr.heap.size :: []) P) u.kids _) := par_set (par_grow HLv2.out (kept_trans Kk8.out (kept_trans Kk12.out (kept_trans Kk15.out Kk21.out))) (List.forall_mem_cons.2 ⟨(Or.inr (Nat.le_trans (Below.size (kept_trans Kk8.out (kept_trans Kk12.out Kk15.out))) (Nat.le_refl wr.heap.size))), (fun _ h => nomatch h)⟩)) hW17 (List.mem_cons_self ..) (by have := HG22.out; have := Z0.out; omega)
      have HL33 : Hid (LiesQ W17 (Par w V0.heap.size (wr.heap.size :: []) P) x.kids _) := par_set (par_grow HLx2.out (kept_trans Kk8.out (kept_trans Kk12.out (kept_trans Kk15.out Kk21.out))) (List.forall_mem_cons.2 ⟨(Or.inr (Nat.le_trans (Below.size (kept_trans Kk8.out (kept_trans Kk12.out Kk15.out))) (Nat.le_refl wr.heap.size))), (fun _ h => nomatch h)⟩)) hW17 (List.mem_cons_self ..) (by have := HG22.out; have := Z0.out; omega)
      have XL34 := Lib.hid (xlt_set XL23.out hW17)
      have HX35 := Lib.hid (blk_same Hx18.out hW17)
      clear hW17
      have kvV0 : Sees V0 (w.heap.size) W17 := sees_kept _ KB26.out
      have kvW17 : Sees W17 (w.heap.size) W17 := sees_kept _ (kept_refl _)
      go_wp2_with fail
      clear kvV0
      clear kvW17
      have hq38 := innerK 15 0 W17
      rw [show Dv.innerB 15 0 = false from by decide] at hq38
      refine hq38.mono ?_
      clear hq38
      rintro e w36 ⟨rfl, k37⟩
      have Kk39 := Lib.hid k37
      clear k37
      have kvV0 : Sees V0 (w.heap.size) w36 := sees_kept _ (kept_trans KB26.out Kk39.out)
      have kvW17 : Sees W17 (w.heap.size) w36 := sees_kept _ Kk39.out
      go_wp2_with (refine stop_load 34 (.tmp 11) rfl ?_)
      intro _
      refine wpList_load_part (wr.heap.size) (0) 34 (.tmp 11) #[.bool true, .int .i64 u.k, .int .i64 u.i, .int .i64 u.j, .int .i64 u.n, (.slice au u.kids.length cu), .int .i64 v.k, .int .i64 v.i, .int .i64 v.j, .int .i64 v.n, (.slice av v.kids.length cv), .int .i64 x.k, .int .i64 x.i, .int .i64 x.j, .int .i64 x.n, (.slice ax x.kids.length cx), .int .i64 i] dj (blk_at HX35.out Kk39.out) (by rfl) rfl (by rfl) (by rfl) dj1 (by cases dj <;> first | rfl | exact dj2) (by kernel_rfl) ?_
      go_wp2_with fail
      clear kvV0
      clear kvW17
      have hq42 := rright1_any (c.length : Int) i u v x (Par w V0.heap.size (wr.heap.size :: []) P) w36 ((.slice au u.kids.length cu)) ((.slice av v.kids.length cv)) ((.slice ax x.kids.length cx)) Gu.out (HL28.out.later Kk39.out) Gv.out (HL29.out.later Kk39.out) Gx.out (HL30.out.later Kk39.out) Ri.out HRN.out
      rw [HRJ.out] at hq42
      refine hq42.mono ?_
      clear hq42
      rintro e w40 ⟨rfl, k41⟩
      have Kk43 := Lib.hid k41
      clear k41
      have kvV0 : Sees V0 (w.heap.size) w40 := sees_kept _ (kept_trans KB26.out (kept_trans Kk39.out Kk43.out))
      have kvW17 : Sees W17 (w.heap.size) w40 := sees_kept _ (kept_trans Kk39.out Kk43.out)
      go_wp2
      go_roundw
      case rel => exact ⟨1, by decide, by decide, by go_num, trivial, (kept_trans Kk15.out (kept_trans KB27.out (kept_trans Kk39.out Kk43.out)))⟩
      case measure => simp [intOf]
    · clear hi0 hi1
      have kvV0 : Sees V0 (w.heap.size) wr := sees_kept _ (kept_trans Kk8.out (kept_trans Kk12.out Kk15.out))
      go_wp2_with (refine stop_load 34 (.tmp 31) rfl ?_)
      intro _
      refine wpList_load_part (b0) (17) 34 (.tmp 31) #[.bool true, .int .i64 v.k, .int .i64 v.i, .int .i64 v.j, .int .i64 v.n, (.slice au2 v.kids.length cu2), .int .i64 u.k, .int .i64 u.i, .int .i64 u.j, .int .i64 u.n, (.slice av2 u.kids.length cv2), .int .i64 x.k, .int .i64 x.i, .int .i64 x.j, .int .i64 x.n, (.slice ax2 x.kids.length cx2), .int .i64 i] dj (blk_at HB0.out (kept_trans Kk4.out (kept_trans Kk8.out (kept_trans Kk12.out Kk15.out)))) (by rfl) rfl (by rfl) (by rfl) dj1 (by cases dj <;> first | rfl | exact dj2) (by kernel_rfl) ?_
      go_wp2_with (refine stop_store 34 (.tmp 11) (.tmp 32) rfl ?_)
      intro _
      refine wpList_store_part_n (by rfl) 34 (.tmp 11) (.tmp 32) rfl (wr.heap.size) 0 #[.bool true, .int .i64 v.k, .int .i64 v.i, .int .i64 v.j, .int .i64 v.n, (.slice au2 v.kids.length cu2), .int .i64 u.k, .int .i64 u.i, .int .i64 u.j, .int .i64 u.n, (.slice av2 u.kids.length cv2), .int .i64 x.k, .int .i64 x.i, .int .i64 x.j, .int .i64 x.n, (.slice ax2 x.kids.length cx2), .int .i64 i] (by rfl) (by rfl) 34 (by kernel_rfl) (row_ok rfl) ?_
      intro W44 hW44
      clear kvV0
      obtain ⟨k47, x46, z48⟩ := alloc1 hW44
      have Kk49 := Lib.hid k47
      clear k47
      have Hx46 := Lib.hid x46
      have Hz48 := Lib.hid z48
      clear x46 z48 hW44
      have HG50 : Hid (V0.heap.size ≤ wr.heap.size) := (Below.size (kept_trans Kk8.out (kept_trans Kk12.out Kk15.out)))
      have XL51 : Hid (XLt (wr.heap.size :: []) W44) := (xlt_more (xlt_nil _) Kk49.out (by have := Hz48.out; omega))
      have HD52 : Hid (wr.heap.size ≤ wr.heap.size) := Below.size (kept_refl _)
      refine ⟨_, #[.bool true, .int .i64 v.k, .int .i64 v.i, .int .i64 v.j, .int .i64 v.n, (.slice au2 v.kids.length cu2), .int .i64 u.k, .int .i64 u.i, .int .i64 u.j, .int .i64 u.n, (.slice av2 u.kids.length cv2), .int .i64 x.k, .int .i64 x.i, .int .i64 x.j, .int .i64 x.n, (.slice ax2 x.kids.length cx2), .int .i64 i], Hx46.out, rfl, Nat.le_of_ble_eq_true rfl, ?_⟩
      intro W45 hW45
      have KB53 := Lib.hid (kept_set (kept_trans Kk4.out (kept_trans Kk8.out (kept_trans Kk12.out (kept_trans Kk15.out Kk49.out)))) hW45 (by have := HG50.out; have := Z0.out; omega))
      have KB54 := Lib.hid (kept_set (kept_trans Kk8.out (kept_trans Kk12.out (kept_trans Kk15.out Kk49.out))) hW45 HG50.out)
      have KB55 := Lib.hid (kept_set Kk49.out hW45 HD52.out)
      have HL56 : Hid (LiesQ W45 (Par w V0.heap.size (wr.heap.size :: []) P) v.kids _) := par_set (par_grow HLu2.out (kept_trans Kk8.out (kept_trans Kk12.out (kept_trans Kk15.out Kk49.out))) (List.forall_mem_cons.2 ⟨(Or.inr (Nat.le_trans (Below.size (kept_trans Kk8.out (kept_trans Kk12.out Kk15.out))) (Nat.le_refl wr.heap.size))), (fun _ h => nomatch h)⟩)) hW45 (List.mem_cons_self ..) (by have := HG50.out; have := Z0.out; omega)
      have HL57 : Hid (LiesQ W45 (Par w V0.heap.size (wr.heap.size :: []) P) u.kids _) := par_set (par_grow HLv2.out (kept_trans Kk8.out (kept_trans Kk12.out (kept_trans Kk15.out Kk49.out))) (List.forall_mem_cons.2 ⟨(Or.inr (Nat.le_trans (Below.size (kept_trans Kk8.out (kept_trans Kk12.out Kk15.out))) (Nat.le_refl wr.heap.size))), (fun _ h => nomatch h)⟩)) hW45 (List.mem_cons_self ..) (by have := HG50.out; have := Z0.out; omega)
      have HL58 : Hid (LiesQ W45 (Par w V0.heap.size (wr.heap.size :: []) P) x.kids _) := par_set (par_grow HLx2.out (kept_trans Kk8.out (kept_trans Kk12.out (kept_trans Kk15.out Kk49.out))) (List.forall_mem_cons.2 ⟨(Or.inr (Nat.le_trans (Below.size (kept_trans Kk8.out (kept_trans Kk12.out Kk15.out))) (Nat.le_refl wr.heap.size))), (fun _ h => nomatch h)⟩)) hW45 (List.mem_cons_self ..) (by have := HG50.out; have := Z0.out; omega)
      have HL59 : Hid (LiesQ W45 (Par w V0.heap.size (wr.heap.size :: []) P) u.kids _) := par_set (par_grow HLu.out (kept_trans Kk8.out (kept_trans Kk12.out (kept_trans Kk15.out Kk49.out))) (List.forall_mem_cons.2 ⟨(Or.inr (Nat.le_trans (Below.size (kept_trans Kk8.out (kept_trans Kk12.out Kk15.out))) (Nat.le_refl wr.heap.size))), (fun _ h => nomatch h)⟩)) hW45 (List.mem_cons_self ..) (by have := HG50.out; have := Z0.out; omega)
      have HL60 : Hid (LiesQ W45 (Par w V0.heap.size (wr.heap.size :: []) P) v.kids _) := par_set (par_grow HLv.out (kept_trans Kk8.out (kept_trans Kk12.out (kept_trans Kk15.out Kk49.out))) (List.forall_mem_cons.2 ⟨(Or.inr (Nat.le_trans (Below.size (kept_trans Kk8.out (kept_trans Kk12.out Kk15.out))) (Nat.le_refl wr.heap.size))), (fun _ h => nomatch h)⟩)) hW45 (List.mem_cons_self ..) (by have := HG50.out; have := Z0.out; omega)
      have HL61 : Hid (LiesQ W45 (Par w V0.heap.size (wr.heap.size :: []) P) x.kids _) := par_set (par_grow HLx.out (kept_trans Kk8.out (kept_trans Kk12.out (kept_trans Kk15.out Kk49.out))) (List.forall_mem_cons.2 ⟨(Or.inr (Nat.le_trans (Below.size (kept_trans Kk8.out (kept_trans Kk12.out Kk15.out))) (Nat.le_refl wr.heap.size))), (fun _ h => nomatch h)⟩)) hW45 (List.mem_cons_self ..) (by have := HG50.out; have := Z0.out; omega)
      have XL62 := Lib.hid (xlt_set XL51.out hW45)
      have HX63 := Lib.hid (blk_same Hx46.out hW45)
      clear hW45
      have kvV0 : Sees V0 (w.heap.size) W45 := sees_kept _ KB54.out
      have kvW45 : Sees W45 (w.heap.size) W45 := sees_kept _ (kept_refl _)
      go_wp2_with fail
      clear kvV0
      clear kvW45
      have hq66 := innerK 15 1 W45
      rw [show Dv.innerB 15 1 = false from by decide] at hq66
      refine hq66.mono ?_
      clear hq66
      rintro e w64 ⟨rfl, k65⟩
      have Kk67 := Lib.hid k65
      clear k65
      have kvV0 : Sees V0 (w.heap.size) w64 := sees_kept _ (kept_trans KB54.out Kk67.out)
      have kvW45 : Sees W45 (w.heap.size) w64 := sees_kept _ Kk67.out
      go_wp2_with (refine stop_load 34 (.tmp 11) rfl ?_)
      intro _
      refine wpList_load_part (wr.heap.size) (0) 34 (.tmp 11) #[.bool true, .int .i64 v.k, .int .i64 v.i, .int .i64 v.j, .int .i64 v.n, (.slice au2 v.kids.length cu2), .int .i64 u.k, .int .i64 u.i, .int .i64 u.j, .int .i64 u.n, (.slice av2 u.kids.length cv2), .int .i64 x.k, .int .i64 x.i, .int .i64 x.j, .int .i64 x.n, (.slice ax2 x.kids.length cx2), .int .i64 i] dj (blk_at HX63.out Kk67.out) (by rfl) rfl (by rfl) (by rfl) dj1 (by cases dj <;> first | rfl | exact dj2) (by kernel_rfl) ?_
      go_wp2_with fail
      clear kvV0
      clear kvW45
      have hq70 := rright1_any (c.length : Int) i v u x (Par w V0.heap.size (wr.heap.size :: []) P) w64 ((.slice au2 v.kids.length cu2)) ((.slice av2 u.kids.length cv2)) ((.slice ax2 x.kids.length cx2)) Gv.out (HL56.out.later Kk67.out) Gu.out (HL57.out.later Kk67.out) Gx.out (HL58.out.later Kk67.out) Ri.out HRN.out
      rw [HRK.out] at hq70
      refine hq70.mono ?_
      clear hq70
      rintro e w68 ⟨rfl, k69⟩
      have Kk71 := Lib.hid k69
      clear k69
      have kvV0 : Sees V0 (w.heap.size) w68 := sees_kept _ (kept_trans KB54.out (kept_trans Kk67.out Kk71.out))
      have kvW45 : Sees W45 (w.heap.size) w68 := sees_kept _ (kept_trans Kk67.out Kk71.out)
      go_wp2
      go_roundw
      case rel => exact ⟨2, by decide, by decide, by go_num, trivial, (kept_trans Kk15.out (kept_trans KB55.out (kept_trans Kk67.out Kk71.out)))⟩
      case measure => simp [intOf]
    · clear hi0 hi1
      have kvV0 : Sees V0 (w.heap.size) wr := sees_kept _ (kept_trans Kk8.out (kept_trans Kk12.out Kk15.out))
      go_wp2_with fail
      clear kvV0
      refine (con15_any i c u v x (Par w V0.heap.size [] P) wr ((.slice ac c.length cc)) b0 ((.slice au u.kids.length cu)) ((.slice av v.kids.length cv)) ((.slice ax x.kids.length cx)) ((.slice au2 v.kids.length cu2)) ((.slice av2 u.kids.length cv2)) ((.slice ax2 x.kids.length cx2)) (HEc.out.keep (kept_trans Kk4.out (kept_trans Kk8.out (kept_trans Kk12.out Kk15.out)))) Gu.out (HLu.out.later (kept_trans Kk8.out (kept_trans Kk12.out Kk15.out))) Gv.out (HLv.out.later (kept_trans Kk8.out (kept_trans Kk12.out Kk15.out))) Gx.out (HLx.out.later (kept_trans Kk8.out (kept_trans Kk12.out Kk15.out))) Ri.out (HLu2.out.later (kept_trans Kk8.out (kept_trans Kk12.out Kk15.out))) (HLv2.out.later (kept_trans Kk8.out (kept_trans Kk12.out Kk15.out))) (HLx2.out.later (kept_trans Kk8.out (kept_trans Kk12.out Kk15.out))) (blk_at HB0.out (kept_trans Kk4.out (kept_trans Kk8.out (kept_trans Kk12.out Kk15.out))))).mono ?_
      rintro e w72 ⟨s74, s75, s76, rfl, ⟨hl77, hl78, hl79⟩, k73⟩
      obtain ⟨a80, c81, S82, rfl, -⟩ := hl77.out
      obtain ⟨a83, c84, S85, rfl, -⟩ := hl78.out
      obtain ⟨a86, c87, S88, rfl, -⟩ := hl79.out
      have Kk89 := Lib.hid k73
      clear k73
      have Hhl77 : Hid (LiesQ w72 (Par w V0.heap.size [] P) u.kids _) := par_give hl77 (Below.size (kept_trans Kk8.out (kept_trans Kk12.out Kk15.out))) (xlt_nil _)
      have Hhl78 : Hid (LiesQ w72 (Par w V0.heap.size [] P) u.kids _) := par_give hl78 (Below.size (kept_trans Kk8.out (kept_trans Kk12.out Kk15.out))) (xlt_nil _)
      have Hhl79 : Hid (LiesQ w72 (Par w V0.heap.size [] P) x.kids _) := par_give hl79 (Below.size (kept_trans Kk8.out (kept_trans Kk12.out Kk15.out))) (xlt_nil _)
      clear hl77 hl78 hl79
      have kvV0 : Sees V0 (w.heap.size) w72 := sees_kept _ (kept_trans Kk8.out (kept_trans Kk12.out (kept_trans Kk15.out Kk89.out)))
      go_wp2_with (refine stop_store 34 (.tmp 13) (.tmp 52) rfl ?_)
      intro _
      refine wpList_store_part_n (by rfl) 34 (.tmp 13) (.tmp 52) rfl (w72.heap.size) 0 #[.bool true, .int .i64 u.k, .int .i64 u.i, .int .i64 u.j, .int .i64 u.n, (.slice a80 u.kids.length c81), .int .i64 u.k, .int .i64 u.i, .int .i64 u.j, .int .i64 u.n, (.slice a83 u.kids.length c84), .int .i64 x.k, .int .i64 x.i, .int .i64 x.j, .int .i64 x.n, (.slice a86 x.kids.length c87), .int .i64 i] (by rfl) (by rfl) 34 (by kernel_rfl) (row_ok rfl) ?_
      intro W90 hW90
      clear kvV0
      obtain ⟨k93, x92, z94⟩ := alloc1 hW90
      have Kk95 := Lib.hid k93
      clear k93
      have Hx92 := Lib.hid x92
      have Hz94 := Lib.hid z94
      clear x92 z94 hW90
      have HG96 : Hid (V0.heap.size ≤ w72.heap.size) := (Below.size (kept_trans Kk8.out (kept_trans Kk12.out (kept_trans Kk15.out Kk89.out))))
      have XL97 : Hid (XLt (w72.heap.size :: []) W90) := (xlt_more (xlt_nil _) Kk95.out (by have := Hz94.out; omega))
      have HD98 : Hid (wr.heap.size ≤ w72.heap.size) := Below.size Kk89.out
      refine ⟨_, #[.bool true, .int .i64 u.k, .int .i64 u.i, .int .i64 u.j, .int .i64 u.n, (.slice a80 u.kids.length c81), .int .i64 u.k, .int .i64 u.i, .int .i64 u.j, .int .i64 u.n, (.slice a83 u.kids.length c84), .int .i64 x.k, .int .i64 x.i, .int .i64 x.j, .int .i64 x.n, (.slice a86 x.kids.length c87), .int .i64 i], Hx92.out, rfl, Nat.le_of_ble_eq_true rfl, ?_⟩
      intro W91 hW91
      have KB99 := Lib.hid (kept_set (kept_trans Kk4.out (kept_trans Kk8.out (kept_trans Kk12.out (kept_trans Kk15.out (kept_trans Kk89.out Kk95.out))))) hW91 (by have := HG96.out; have := Z0.out; omega))
      have KB100 := Lib.hid (kept_set (kept_trans Kk8.out (kept_trans Kk12.out (kept_trans Kk15.out (kept_trans Kk89.out Kk95.out)))) hW91 HG96.out)
      have KB101 := Lib.hid (kept_set (kept_trans Kk89.out Kk95.out) hW91 HD98.out)
      have HL102 : Hid (LiesQ W91 (Par w V0.heap.size (w72.heap.size :: []) P) u.kids _) := par_set (par_grow Hhl77.out Kk95.out (List.forall_mem_cons.2 ⟨(Or.inr (Nat.le_refl w72.heap.size)), (fun _ h => nomatch h)⟩)) hW91 (List.mem_cons_self ..) (by have := HG96.out; have := Z0.out; omega)
      have HL103 : Hid (LiesQ W91 (Par w V0.heap.size (w72.heap.size :: []) P) u.kids _) := par_set (par_grow Hhl78.out Kk95.out (List.forall_mem_cons.2 ⟨(Or.inr (Nat.le_refl w72.heap.size)), (fun _ h => nomatch h)⟩)) hW91 (List.mem_cons_self ..) (by have := HG96.out; have := Z0.out; omega)
      have HL104 : Hid (LiesQ W91 (Par w V0.heap.size (w72.heap.size :: []) P) x.kids _) := par_set (par_grow Hhl79.out Kk95.out (List.forall_mem_cons.2 ⟨(Or.inr (Nat.le_refl w72.heap.size)), (fun _ h => nomatch h)⟩)) hW91 (List.mem_cons_self ..) (by have := HG96.out; have := Z0.out; omega)
      have HL105 : Hid (LiesQ W91 (Par w V0.heap.size (w72.heap.size :: []) P) u.kids _) := par_set (par_grow HLu.out (kept_trans Kk8.out (kept_trans Kk12.out (kept_trans Kk15.out (kept_trans Kk89.out Kk95.out)))) (List.forall_mem_cons.2 ⟨(Or.inr (Nat.le_trans (Below.size (kept_trans Kk8.out (kept_trans Kk12.out (kept_trans Kk15.out Kk89.out)))) (Nat.le_refl w72.heap.size))), (fun _ h => nomatch h)⟩)) hW91 (List.mem_cons_self ..) (by have := HG96.out; have := Z0.out; omega)
      have HL106 : Hid (LiesQ W91 (Par w V0.heap.size (w72.heap.size :: []) P) v.kids _) := par_set (par_grow HLv.out (kept_trans Kk8.out (kept_trans Kk12.out (kept_trans Kk15.out (kept_trans Kk89.out Kk95.out)))) (List.forall_mem_cons.2 ⟨(Or.inr (Nat.le_trans (Below.size (kept_trans Kk8.out (kept_trans Kk12.out (kept_trans Kk15.out Kk89.out)))) (Nat.le_refl w72.heap.size))), (fun _ h => nomatch h)⟩)) hW91 (List.mem_cons_self ..) (by have := HG96.out; have := Z0.out; omega)
      have HL107 : Hid (LiesQ W91 (Par w V0.heap.size (w72.heap.size :: []) P) x.kids _) := par_set (par_grow HLx.out (kept_trans Kk8.out (kept_trans Kk12.out (kept_trans Kk15.out (kept_trans Kk89.out Kk95.out)))) (List.forall_mem_cons.2 ⟨(Or.inr (Nat.le_trans (Below.size (kept_trans Kk8.out (kept_trans Kk12.out (kept_trans Kk15.out Kk89.out)))) (Nat.le_refl w72.heap.size))), (fun _ h => nomatch h)⟩)) hW91 (List.mem_cons_self ..) (by have := HG96.out; have := Z0.out; omega)
      have HL108 : Hid (LiesQ W91 (Par w V0.heap.size (w72.heap.size :: []) P) v.kids _) := par_set (par_grow HLu2.out (kept_trans Kk8.out (kept_trans Kk12.out (kept_trans Kk15.out (kept_trans Kk89.out Kk95.out)))) (List.forall_mem_cons.2 ⟨(Or.inr (Nat.le_trans (Below.size (kept_trans Kk8.out (kept_trans Kk12.out (kept_trans Kk15.out Kk89.out)))) (Nat.le_refl w72.heap.size))), (fun _ h => nomatch h)⟩)) hW91 (List.mem_cons_self ..) (by have := HG96.out; have := Z0.out; omega)
      have HL109 : Hid (LiesQ W91 (Par w V0.heap.size (w72.heap.size :: []) P) u.kids _) := par_set (par_grow HLv2.out (kept_trans Kk8.out (kept_trans Kk12.out (kept_trans Kk15.out (kept_trans Kk89.out Kk95.out)))) (List.forall_mem_cons.2 ⟨(Or.inr (Nat.le_trans (Below.size (kept_trans Kk8.out (kept_trans Kk12.out (kept_trans Kk15.out Kk89.out)))) (Nat.le_refl w72.heap.size))), (fun _ h => nomatch h)⟩)) hW91 (List.mem_cons_self ..) (by have := HG96.out; have := Z0.out; omega)
      have HL110 : Hid (LiesQ W91 (Par w V0.heap.size (w72.heap.size :: []) P) x.kids _) := par_set (par_grow HLx2.out (kept_trans Kk8.out (kept_trans Kk12.out (kept_trans Kk15.out (kept_trans Kk89.out Kk95.out)))) (List.forall_mem_cons.2 ⟨(Or.inr (Nat.le_trans (Below.size (kept_trans Kk8.out (kept_trans Kk12.out (kept_trans Kk15.out Kk89.out)))) (Nat.le_refl w72.heap.size))), (fun _ h => nomatch h)⟩)) hW91 (List.mem_cons_self ..) (by have := HG96.out; have := Z0.out; omega)
      have XL111 := Lib.hid (xlt_set XL97.out hW91)
      have HX112 := Lib.hid (blk_same Hx92.out hW91)
      clear hW91
      have ld113 := part_cell (r := (w.heap.size)) HX112.out (by have := HG96.out; have := Z0.out; omega) 0 (.bool true) rfl
      have ld114 := part_cell (r := (w.heap.size)) HX112.out (by have := HG96.out; have := Z0.out; omega) 1 (.int .i64 u.k) rfl
      have ld115 := part_cell (r := (w.heap.size)) HX112.out (by have := HG96.out; have := Z0.out; omega) 6 (.int .i64 u.k) rfl
      have ld116 := part_cell (r := (w.heap.size)) HX112.out (by have := HG96.out; have := Z0.out; omega) 11 (.int .i64 x.k) rfl
      have ld117 := part_cell (r := (w.heap.size)) HX112.out (by have := HG96.out; have := Z0.out; omega) 16 (.int .i64 i) rfl
      have kvV0 : Sees V0 (w.heap.size) W91 := sees_kept _ KB100.out
      have kvW91 : Sees W91 (w.heap.size) W91 := sees_kept _ (kept_refl _)
      go_wp2_with fail
      clear kvV0
      clear kvW91
      obtain ⟨W118, h119⟩ : ∃ x, World.drew W91 = x := ⟨_, rfl⟩
      have k120 : Kept W91 W118 := by rw [← h119]; exact kept_drew (kept_refl _)
      have Kk121 := Lib.hid k120
      clear k120
      refine wp_region_X (S := Sees W118 (w.heap.size)) 10 (by kernel_rfl) ?_ (fun hHeld => ?_)
      · (try dsimp only)
        rw [h119]
        exact sees_kept _ (kept_refl _)
      rw [h119] at hHeld ⊢
      clear h119
      refine takeX_any 0 84 of15okr15_0 (v := ?_) (Or.inl ⟨by rfl, ?_⟩) ?_ (fun _ => hHeld)
      rotate_left 1
      · ((intro w hSw; (try dsimp only at hSw); unfold of15okr15_0; go_simp) <;> with_reducible rfl)
      (try simp only [Act.put, List.setIfInBounds_toArray, List.set_cons_zero, List.set_cons_succ])
      refine takeX_at 1 85 of15okr15_1 (yields_part (w72.heap.size) (1) 32 (.tmp 84) #[.int .i64 u.k, .int .i64 u.i, .int .i64 u.j, .int .i64 u.n, (.slice a80 u.kids.length c81)] du (fun _ h => sees_blk HX112.out (by have := HG96.out; have := Z0.out; omega) (sees_of Kk121.out h)) (by rfl) rfl (by rfl) (by rfl) hu1 (by cases du <;> first | rfl | exact hu2) size_term) ?_
      (try simp only [Act.put, List.setIfInBounds_toArray, List.set_cons_zero, List.set_cons_succ])
      refine takeX_any 3 87 of15okr15_3 (v := ?_) (Or.inl ⟨by rfl, ?_⟩) ?_ (fun _ => hHeld)
      rotate_left 1
      · ((intro w hSw; (try dsimp only at hSw); unfold of15okr15_3; go_simp) <;> with_reducible rfl)
      (try simp only [Act.put, List.setIfInBounds_toArray, List.set_cons_zero, List.set_cons_succ])
      refine takeX_at 4 88 of15okr15_4 (yields_part (w72.heap.size) (6) 32 (.tmp 87) #[.int .i64 u.k, .int .i64 u.i, .int .i64 u.j, .int .i64 u.n, (.slice a83 u.kids.length c84)] du (fun _ h => sees_blk HX112.out (by have := HG96.out; have := Z0.out; omega) (sees_of Kk121.out h)) (by rfl) rfl (by rfl) (by rfl) hu1 (by cases du <;> first | rfl | exact hu2) size_term) ?_
      (try simp only [Act.put, List.setIfInBounds_toArray, List.set_cons_zero, List.set_cons_succ])
      refine takeX_any 6 90 of15okr15_6 (v := ?_) (Or.inl ⟨by rfl, ?_⟩) ?_ (fun _ => hHeld)
      rotate_left 1
      · ((intro w hSw; (try dsimp only at hSw); unfold of15okr15_6; go_simp) <;> with_reducible rfl)
      (try simp only [Act.put, List.setIfInBounds_toArray, List.set_cons_zero, List.set_cons_succ])
      refine takeX_at 7 91 of15okr15_7 (yields_part (w72.heap.size) (11) 32 (.tmp 90) #[.int .i64 x.k, .int .i64 x.i, .int .i64 x.j, .int .i64 x.n, (.slice a86 x.kids.length c87)] du (fun _ h => sees_blk HX112.out (by have := HG96.out; have := Z0.out; omega) (sees_of Kk121.out h)) (by rfl) rfl (by rfl) (by rfl) hu1 (by cases du <;> first | rfl | exact hu2) size_term) ?_
      (try simp only [Act.put, List.setIfInBounds_toArray, List.set_cons_zero, List.set_cons_succ])
      refine wpAnyX_ready (rs := [2]) (by kernel_rfl) (by simp) ?_
      refine AllReadyX.cons (o := of15okr15_2) rfl (fun K hK => ?_) ?_
      · unfold of15okr15_2
        go_simp
        refine ((copy_any u _ ((.slice a80 u.kids.length c81)) (HL102.out.later Kk121.out).lies HZU.out).mono (fun _ _ h => h.givesP (P := (Par w V0.heap.size (w72.heap.size :: []) P)))).mono ?_
        rintro e w122 ⟨s124, rfl, hl125, k123⟩
        obtain ⟨a126, c127, S128, rfl, -⟩ := hl125.out
        have Kk129 := Lib.hid k123
        clear k123
        have Hhl125 : Hid (LiesQ w122 (Par w V0.heap.size (w72.heap.size :: []) P) u.kids _) := par_give hl125 (Below.size (kept_trans KB100.out Kk121.out)) (xlt_later XL111.out Kk121.out)
        clear hl125
        clear hHeld
        refine hK.out _ _ (fun _ => sees_kept _ Kk129.out) (fun hHeld => ?_)
        replace hHeld := hHeld (by kernel_rfl)
        clear hK K
        (try simp only [Act.put, List.setIfInBounds_toArray, List.set_cons_zero, List.set_cons_succ])
        refine takeX_any 9 93 of15okr15_9 (v := ?_) (Or.inl ⟨by rfl, ?_⟩) ?_ (fun _ => hHeld)
        rotate_left 1
        · ((intro w hSw; (try dsimp only at hSw); unfold of15okr15_9; go_simp) <;> with_reducible rfl)
        (try simp only [Act.put, List.setIfInBounds_toArray, List.set_cons_zero, List.set_cons_succ])
        refine wpAnyX_ready (rs := [5]) (by kernel_rfl) (by simp) ?_
        refine AllReadyX.cons (o := of15okr15_5) rfl (fun K hK => ?_) ?_
        · unfold of15okr15_5
          go_simp
          refine ((copy_any u _ ((.slice a83 u.kids.length c84)) (HL103.out.later (kept_trans Kk121.out Kk129.out)).lies HZU.out).mono (fun _ _ h => h.givesP (P := (Par w V0.heap.size (w72.heap.size :: []) P)))).mono ?_
          rintro e w130 ⟨s132, rfl, hl133, k131⟩
          obtain ⟨a134, c135, S136, rfl, -⟩ := hl133.out
          have Kk137 := Lib.hid k131
          clear k131
          have Hhl133 : Hid (LiesQ w130 (Par w V0.heap.size (w72.heap.size :: []) P) u.kids _) := par_give hl133 (Below.size (kept_trans KB100.out (kept_trans Kk121.out Kk129.out))) (xlt_later XL111.out (kept_trans Kk121.out Kk129.out))
          clear hl133
          clear hHeld
          refine hK.out _ _ (fun _ => sees_kept _ (kept_trans Kk129.out Kk137.out)) (fun hHeld => ?_)
          replace hHeld := hHeld (by kernel_rfl)
          clear hK K
          (try simp only [Act.put, List.setIfInBounds_toArray, List.set_cons_zero, List.set_cons_succ])
          refine wpAnyX_ready (rs := [8]) (by kernel_rfl) (by simp) ?_
          refine AllReadyX.cons (o := of15okr15_8) rfl (fun K hK => ?_) ?_
          · unfold of15okr15_8
            go_simp
            refine ((copy_any x _ ((.slice a86 x.kids.length c87)) (HL104.out.later (kept_trans Kk121.out (kept_trans Kk129.out Kk137.out))).lies HZX.out).mono (fun _ _ h => h.givesP (P := (Par w V0.heap.size (w72.heap.size :: []) P)))).mono ?_
            rintro e w138 ⟨s140, rfl, hl141, k139⟩
            obtain ⟨a142, c143, S144, rfl, -⟩ := hl141.out
            have Kk145 := Lib.hid k139
            clear k139
            have Hhl141 : Hid (LiesQ w138 (Par w V0.heap.size (w72.heap.size :: []) P) x.kids _) := par_give hl141 (Below.size (kept_trans KB100.out (kept_trans Kk121.out (kept_trans Kk129.out Kk137.out)))) (xlt_later XL111.out (kept_trans Kk121.out (kept_trans Kk129.out Kk137.out)))
            clear hl141
            clear hHeld
            refine hK.out _ _ (fun _ => sees_kept _ (kept_trans Kk129.out (kept_trans Kk137.out Kk145.out))) (fun hHeld => ?_)
            replace hHeld := hHeld (by kernel_rfl)
            clear hK K
            (try simp only [Act.put, List.setIfInBounds_toArray, List.set_cons_zero, List.set_cons_succ])
            refine wpAnyX_ready (rs := [10]) (by kernel_rfl) (by simp) ?_
            refine AllReadyX.cons (o := of15okr15_10) rfl (fun K hK => ?_) ?_
            · unfold of15okr15_10
              refine step_store_part rfl 32 (.tmp 93) (.tmp 86) rfl (w72.heap.size) 1 #[.int .i64 u.k, .int .i64 u.i, .int .i64 u.j, .int .i64 u.n, (.slice a126 u.kids.length c127)] rfl rfl 34 size_term (row_ok rfl) _ #[.bool true, .int .i64 u.k, .int .i64 u.i, .int .i64 u.j, .int .i64 u.n, (.slice a126 u.kids.length c127), .int .i64 u.k, .int .i64 u.i, .int .i64 u.j, .int .i64 u.n, (.slice a83 u.kids.length c84), .int .i64 x.k, .int .i64 x.i, .int .i64 x.j, .int .i64 x.n, (.slice a86 x.kids.length c87), .int .i64 i] (blk_at HX112.out (kept_trans Kk121.out (kept_trans Kk129.out (kept_trans Kk137.out Kk145.out)))) rfl (Nat.le_of_ble_eq_true rfl) ?_
              intro W146 hW146
              have KB147 := Lib.hid (kept_set (kept_trans KB99.out (kept_trans Kk121.out (kept_trans Kk129.out (kept_trans Kk137.out Kk145.out)))) hW146 (by have := HG96.out; have := Z0.out; omega))
              have KB148 := Lib.hid (kept_set (kept_trans KB100.out (kept_trans Kk121.out (kept_trans Kk129.out (kept_trans Kk137.out Kk145.out)))) hW146 HG96.out)
              have HL149 : Hid (LiesQ W146 (Par w V0.heap.size (w72.heap.size :: []) P) u.kids _) := par_set (HL102.out.later (kept_trans Kk121.out (kept_trans Kk129.out (kept_trans Kk137.out Kk145.out)))) hW146 (List.mem_cons_self ..) (by have := HG96.out; have := Z0.out; omega)
              have HL150 : Hid (LiesQ W146 (Par w V0.heap.size (w72.heap.size :: []) P) u.kids _) := par_set (HL103.out.later (kept_trans Kk121.out (kept_trans Kk129.out (kept_trans Kk137.out Kk145.out)))) hW146 (List.mem_cons_self ..) (by have := HG96.out; have := Z0.out; omega)
              have HL151 : Hid (LiesQ W146 (Par w V0.heap.size (w72.heap.size :: []) P) x.kids _) := par_set (HL104.out.later (kept_trans Kk121.out (kept_trans Kk129.out (kept_trans Kk137.out Kk145.out)))) hW146 (List.mem_cons_self ..) (by have := HG96.out; have := Z0.out; omega)
              have HL152 : Hid (LiesQ W146 (Par w V0.heap.size (w72.heap.size :: []) P) u.kids _) := par_set (Hhl125.out.later (kept_trans Kk137.out Kk145.out)) hW146 (List.mem_cons_self ..) (by have := HG96.out; have := Z0.out; omega)
              have HL153 : Hid (LiesQ W146 (Par w V0.heap.size (w72.heap.size :: []) P) u.kids _) := par_set (Hhl133.out.later Kk145.out) hW146 (List.mem_cons_self ..) (by have := HG96.out; have := Z0.out; omega)
              have HL154 : Hid (LiesQ W146 (Par w V0.heap.size (w72.heap.size :: []) P) x.kids _) := par_set Hhl141.out hW146 (List.mem_cons_self ..) (by have := HG96.out; have := Z0.out; omega)
              have HL155 : Hid (LiesQ W146 (Par w V0.heap.size (w72.heap.size :: []) P) u.kids _) := par_set (HL105.out.later (kept_trans Kk121.out (kept_trans Kk129.out (kept_trans Kk137.out Kk145.out)))) hW146 (List.mem_cons_self ..) (by have := HG96.out; have := Z0.out; omega)
              have HL156 : Hid (LiesQ W146 (Par w V0.heap.size (w72.heap.size :: []) P) v.kids _) := par_set (HL106.out.later (kept_trans Kk121.out (kept_trans Kk129.out (kept_trans Kk137.out Kk145.out)))) hW146 (List.mem_cons_self ..) (by have := HG96.out; have := Z0.out; omega)
              have HL157 : Hid (LiesQ W146 (Par w V0.heap.size (w72.heap.size :: []) P) x.kids _) := par_set (HL107.out.later (kept_trans Kk121.out (kept_trans Kk129.out (kept_trans Kk137.out Kk145.out)))) hW146 (List.mem_cons_self ..) (by have := HG96.out; have := Z0.out; omega)
              have HL158 : Hid (LiesQ W146 (Par w V0.heap.size (w72.heap.size :: []) P) v.kids _) := par_set (HL108.out.later (kept_trans Kk121.out (kept_trans Kk129.out (kept_trans Kk137.out Kk145.out)))) hW146 (List.mem_cons_self ..) (by have := HG96.out; have := Z0.out; omega)
              have HL159 : Hid (LiesQ W146 (Par w V0.heap.size (w72.heap.size :: []) P) u.kids _) := par_set (HL109.out.later (kept_trans Kk121.out (kept_trans Kk129.out (kept_trans Kk137.out Kk145.out)))) hW146 (List.mem_cons_self ..) (by have := HG96.out; have := Z0.out; omega)
              have HL160 : Hid (LiesQ W146 (Par w V0.heap.size (w72.heap.size :: []) P) x.kids _) := par_set (HL110.out.later (kept_trans Kk121.out (kept_trans Kk129.out (kept_trans Kk137.out Kk145.out)))) hW146 (List.mem_cons_self ..) (by have := HG96.out; have := Z0.out; omega)
              have XL161 := Lib.hid (xlt_set (xlt_later XL111.out (kept_trans Kk121.out (kept_trans Kk129.out (kept_trans Kk137.out Kk145.out)))) hW146)
              have HX162 := Lib.hid (blk_same (blk_at HX112.out (kept_trans Kk121.out (kept_trans Kk129.out (kept_trans Kk137.out Kk145.out)))) hW146)
              (try clear ld113)
              (try clear ld114)
              (try clear ld115)
              (try clear ld116)
              (try clear ld117)
              clear hW146
              have ld163 := part_cell (r := (w.heap.size)) HX162.out (by have := HG96.out; have := Z0.out; omega) 0 (.bool true) rfl
              have ld164 := part_cell (r := (w.heap.size)) HX162.out (by have := HG96.out; have := Z0.out; omega) 1 (.int .i64 u.k) rfl
              have ld165 := part_cell (r := (w.heap.size)) HX162.out (by have := HG96.out; have := Z0.out; omega) 6 (.int .i64 u.k) rfl
              have ld166 := part_cell (r := (w.heap.size)) HX162.out (by have := HG96.out; have := Z0.out; omega) 11 (.int .i64 x.k) rfl
              have ld167 := part_cell (r := (w.heap.size)) HX162.out (by have := HG96.out; have := Z0.out; omega) 16 (.int .i64 i) rfl
              clear hHeld
              refine hK.out _ _ (fun h => Bool.noConfusion (show true = false from h)) (fun _ => ?_)
              clear hK K
              (try simp only [Act.put])
              refine takeX_any 11 94 of15okr15_11 (v := ?_) (Or.inl ⟨by rfl, ?_⟩) ?_ (fun h => Bool.noConfusion (show true = false from h))
              rotate_left 1
              · ((intro w hSw; (try dsimp only at hSw); unfold of15okr15_11; go_simp) <;> with_reducible rfl)
              (try simp only [Act.put, List.setIfInBounds_toArray, List.set_cons_zero, List.set_cons_succ])
              refine wpAnyX_ready (rs := [12]) (by kernel_rfl) (by simp) ?_
              refine AllReadyX.cons (o := of15okr15_12) rfl (fun K hK => ?_) ?_
              · unfold of15okr15_12
                refine step_store_part rfl 32 (.tmp 94) (.tmp 89) rfl (w72.heap.size) 6 #[.int .i64 u.k, .int .i64 u.i, .int .i64 u.j, .int .i64 u.n, (.slice a134 u.kids.length c135)] rfl rfl 34 size_term (row_ok rfl) _ #[.bool true, .int .i64 u.k, .int .i64 u.i, .int .i64 u.j, .int .i64 u.n, (.slice a126 u.kids.length c127), .int .i64 u.k, .int .i64 u.i, .int .i64 u.j, .int .i64 u.n, (.slice a134 u.kids.length c135), .int .i64 x.k, .int .i64 x.i, .int .i64 x.j, .int .i64 x.n, (.slice a86 x.kids.length c87), .int .i64 i] HX162.out rfl (Nat.le_of_ble_eq_true rfl) ?_
                intro W168 hW168
                have KB169 := Lib.hid (kept_set KB147.out hW168 (by have := HG96.out; have := Z0.out; omega))
                have KB170 := Lib.hid (kept_set KB148.out hW168 HG96.out)
                have HL171 : Hid (LiesQ W168 (Par w V0.heap.size (w72.heap.size :: []) P) u.kids _) := par_set HL149.out hW168 (List.mem_cons_self ..) (by have := HG96.out; have := Z0.out; omega)
                have HL172 : Hid (LiesQ W168 (Par w V0.heap.size (w72.heap.size :: []) P) u.kids _) := par_set HL150.out hW168 (List.mem_cons_self ..) (by have := HG96.out; have := Z0.out; omega)
                have HL173 : Hid (LiesQ W168 (Par w V0.heap.size (w72.heap.size :: []) P) x.kids _) := par_set HL151.out hW168 (List.mem_cons_self ..) (by have := HG96.out; have := Z0.out; omega)
                have HL174 : Hid (LiesQ W168 (Par w V0.heap.size (w72.heap.size :: []) P) u.kids _) := par_set HL152.out hW168 (List.mem_cons_self ..) (by have := HG96.out; have := Z0.out; omega)
                have HL175 : Hid (LiesQ W168 (Par w V0.heap.size (w72.heap.size :: []) P) u.kids _) := par_set HL153.out hW168 (List.mem_cons_self ..) (by have := HG96.out; have := Z0.out; omega)
                have HL176 : Hid (LiesQ W168 (Par w V0.heap.size (w72.heap.size :: []) P) x.kids _) := par_set HL154.out hW168 (List.mem_cons_self ..) (by have := HG96.out; have := Z0.out; omega)
                have HL177 : Hid (LiesQ W168 (Par w V0.heap.size (w72.heap.size :: []) P) u.kids _) := par_set HL155.out hW168 (List.mem_cons_self ..) (by have := HG96.out; have := Z0.out; omega)
                have HL178 : Hid (LiesQ W168 (Par w V0.heap.size (w72.heap.size :: []) P) v.kids _) := par_set HL156.out hW168 (List.mem_cons_self ..) (by have := HG96.out; have := Z0.out; omega)
                have HL179 : Hid (LiesQ W168 (Par w V0.heap.size (w72.heap.size :: []) P) x.kids _) := par_set HL157.out hW168 (List.mem_cons_self ..) (by have := HG96.out; have := Z0.out; omega)
                have HL180 : Hid (LiesQ W168 (Par w V0.heap.size (w72.heap.size :: []) P) v.kids _) := par_set HL158.out hW168 (List.mem_cons_self ..) (by have := HG96.out; have := Z0.out; omega)
                have HL181 : Hid (LiesQ W168 (Par w V0.heap.size (w72.heap.size :: []) P) u.kids _) := par_set HL159.out hW168 (List.mem_cons_self ..) (by have := HG96.out; have := Z0.out; omega)
                have HL182 : Hid (LiesQ W168 (Par w V0.heap.size (w72.heap.size :: []) P) x.kids _) := par_set HL160.out hW168 (List.mem_cons_self ..) (by have := HG96.out; have := Z0.out; omega)
                have XL183 := Lib.hid (xlt_set XL161.out hW168)
                have HX184 := Lib.hid (blk_same HX162.out hW168)
                (try clear ld163)
                (try clear ld164)
                (try clear ld165)
                (try clear ld166)
                (try clear ld167)
                clear hW168
                have ld185 := part_cell (r := (w.heap.size)) HX184.out (by have := HG96.out; have := Z0.out; omega) 0 (.bool true) rfl
                have ld186 := part_cell (r := (w.heap.size)) HX184.out (by have := HG96.out; have := Z0.out; omega) 1 (.int .i64 u.k) rfl
                have ld187 := part_cell (r := (w.heap.size)) HX184.out (by have := HG96.out; have := Z0.out; omega) 6 (.int .i64 u.k) rfl
                have ld188 := part_cell (r := (w.heap.size)) HX184.out (by have := HG96.out; have := Z0.out; omega) 11 (.int .i64 x.k) rfl
                have ld189 := part_cell (r := (w.heap.size)) HX184.out (by have := HG96.out; have := Z0.out; omega) 16 (.int .i64 i) rfl
                refine hK.out _ _ (fun h => Bool.noConfusion (show true = false from h)) (fun _ => ?_)
                clear hK K
                (try simp only [Act.put])
                refine takeX_any 13 95 of15okr15_13 (v := ?_) (Or.inl ⟨by rfl, ?_⟩) ?_ (fun h => Bool.noConfusion (show true = false from h))
                rotate_left 1
                · ((intro w hSw; (try dsimp only at hSw); unfold of15okr15_13; go_simp) <;> with_reducible rfl)
                (try simp only [Act.put, List.setIfInBounds_toArray, List.set_cons_zero, List.set_cons_succ])
                refine wpAnyX_ready (rs := [14]) (by kernel_rfl) (by simp) ?_
                refine AllReadyX.cons (o := of15okr15_14) rfl (fun K hK => ?_) ?_
                · unfold of15okr15_14
                  refine step_store_part rfl 32 (.tmp 95) (.tmp 92) rfl (w72.heap.size) 11 #[.int .i64 x.k, .int .i64 x.i, .int .i64 x.j, .int .i64 x.n, (.slice a142 x.kids.length c143)] rfl rfl 34 size_term (row_ok rfl) _ #[.bool true, .int .i64 u.k, .int .i64 u.i, .int .i64 u.j, .int .i64 u.n, (.slice a126 u.kids.length c127), .int .i64 u.k, .int .i64 u.i, .int .i64 u.j, .int .i64 u.n, (.slice a134 u.kids.length c135), .int .i64 x.k, .int .i64 x.i, .int .i64 x.j, .int .i64 x.n, (.slice a142 x.kids.length c143), .int .i64 i] HX184.out rfl (Nat.le_of_ble_eq_true rfl) ?_
                  intro W190 hW190
                  have KB191 := Lib.hid (kept_set KB169.out hW190 (by have := HG96.out; have := Z0.out; omega))
                  have KB192 := Lib.hid (kept_set KB170.out hW190 HG96.out)
                  have HL193 : Hid (LiesQ W190 (Par w V0.heap.size (w72.heap.size :: []) P) u.kids _) := par_set HL171.out hW190 (List.mem_cons_self ..) (by have := HG96.out; have := Z0.out; omega)
                  have HL194 : Hid (LiesQ W190 (Par w V0.heap.size (w72.heap.size :: []) P) u.kids _) := par_set HL172.out hW190 (List.mem_cons_self ..) (by have := HG96.out; have := Z0.out; omega)
                  have HL195 : Hid (LiesQ W190 (Par w V0.heap.size (w72.heap.size :: []) P) x.kids _) := par_set HL173.out hW190 (List.mem_cons_self ..) (by have := HG96.out; have := Z0.out; omega)
                  have HL196 : Hid (LiesQ W190 (Par w V0.heap.size (w72.heap.size :: []) P) u.kids _) := par_set HL174.out hW190 (List.mem_cons_self ..) (by have := HG96.out; have := Z0.out; omega)
                  have HL197 : Hid (LiesQ W190 (Par w V0.heap.size (w72.heap.size :: []) P) u.kids _) := par_set HL175.out hW190 (List.mem_cons_self ..) (by have := HG96.out; have := Z0.out; omega)
                  have HL198 : Hid (LiesQ W190 (Par w V0.heap.size (w72.heap.size :: []) P) x.kids _) := par_set HL176.out hW190 (List.mem_cons_self ..) (by have := HG96.out; have := Z0.out; omega)
                  have HL199 : Hid (LiesQ W190 (Par w V0.heap.size (w72.heap.size :: []) P) u.kids _) := par_set HL177.out hW190 (List.mem_cons_self ..) (by have := HG96.out; have := Z0.out; omega)
                  have HL200 : Hid (LiesQ W190 (Par w V0.heap.size (w72.heap.size :: []) P) v.kids _) := par_set HL178.out hW190 (List.mem_cons_self ..) (by have := HG96.out; have := Z0.out; omega)
                  have HL201 : Hid (LiesQ W190 (Par w V0.heap.size (w72.heap.size :: []) P) x.kids _) := par_set HL179.out hW190 (List.mem_cons_self ..) (by have := HG96.out; have := Z0.out; omega)
                  have HL202 : Hid (LiesQ W190 (Par w V0.heap.size (w72.heap.size :: []) P) v.kids _) := par_set HL180.out hW190 (List.mem_cons_self ..) (by have := HG96.out; have := Z0.out; omega)
                  have HL203 : Hid (LiesQ W190 (Par w V0.heap.size (w72.heap.size :: []) P) u.kids _) := par_set HL181.out hW190 (List.mem_cons_self ..) (by have := HG96.out; have := Z0.out; omega)
                  have HL204 : Hid (LiesQ W190 (Par w V0.heap.size (w72.heap.size :: []) P) x.kids _) := par_set HL182.out hW190 (List.mem_cons_self ..) (by have := HG96.out; have := Z0.out; omega)
                  have XL205 := Lib.hid (xlt_set XL183.out hW190)
                  have HX206 := Lib.hid (blk_same HX184.out hW190)
                  (try clear ld185)
                  (try clear ld186)
                  (try clear ld187)
                  (try clear ld188)
                  (try clear ld189)
                  clear hW190
                  have ld207 := part_cell (r := (w.heap.size)) HX206.out (by have := HG96.out; have := Z0.out; omega) 0 (.bool true) rfl
                  have ld208 := part_cell (r := (w.heap.size)) HX206.out (by have := HG96.out; have := Z0.out; omega) 1 (.int .i64 u.k) rfl
                  have ld209 := part_cell (r := (w.heap.size)) HX206.out (by have := HG96.out; have := Z0.out; omega) 6 (.int .i64 u.k) rfl
                  have ld210 := part_cell (r := (w.heap.size)) HX206.out (by have := HG96.out; have := Z0.out; omega) 11 (.int .i64 x.k) rfl
                  have ld211 := part_cell (r := (w.heap.size)) HX206.out (by have := HG96.out; have := Z0.out; omega) 16 (.int .i64 i) rfl
                  refine hK.out _ _ (fun h => Bool.noConfusion (show true = false from h)) (fun _ => ?_)
                  clear hK K
                  (try simp only [Act.put])
                  refine wpAnyX_done (by kernel_rfl) ?_ _
                  have kvV0 : Sees V0 (w.heap.size) W190 := sees_kept _ KB192.out
                  have kvW190 : Sees W190 (w.heap.size) W190 := sees_kept _ (kept_refl _)
                  go_wp2_with (refine stop_load 34 (.tmp 13) rfl ?_)
                  intro _
                  refine wpList_load_part (w72.heap.size) (0) 34 (.tmp 13) #[.bool true, .int .i64 u.k, .int .i64 u.i, .int .i64 u.j, .int .i64 u.n, (.slice a126 u.kids.length c127), .int .i64 u.k, .int .i64 u.i, .int .i64 u.j, .int .i64 u.n, (.slice a134 u.kids.length c135), .int .i64 x.k, .int .i64 x.i, .int .i64 x.j, .int .i64 x.n, (.slice a142 x.kids.length c143), .int .i64 i] dj HX206.out (by rfl) rfl (by rfl) (by rfl) dj1 (by cases dj <;> first | rfl | exact dj2) (by kernel_rfl) ?_
                  go_wp2_with (refine stop_store 34 (.tmp 8) (.tmp 96) rfl ?_)
                  intro _
                  refine wpList_store_part_n (by rfl) 34 (.tmp 8) (.tmp 96) rfl (w.heap.size) 0 #[.bool true, .int .i64 u.k, .int .i64 u.i, .int .i64 u.j, .int .i64 u.n, (.slice a126 u.kids.length c127), .int .i64 u.k, .int .i64 u.i, .int .i64 u.j, .int .i64 u.n, (.slice a134 u.kids.length c135), .int .i64 x.k, .int .i64 x.i, .int .i64 x.j, .int .i64 x.n, (.slice a142 x.kids.length c143), .int .i64 i] (by rfl) (by rfl) 34 (by kernel_rfl) (row_ok rfl) ?_
                  intro W212 hW212
                  clear kvV0
                  clear kvW190
                  subst hW212
                  refine ⟨_, #[.bool true, .int .i64 u.k, .int .i64 u.i, .int .i64 u.j, .int .i64 u.n, (.slice a126 u.kids.length c127), .int .i64 u.k, .int .i64 u.i, .int .i64 u.j, .int .i64 u.n, (.slice a134 u.kids.length c135), .int .i64 x.k, .int .i64 x.i, .int .i64 x.j, .int .i64 x.n, (.slice a142 x.kids.length c143), .int .i64 i], (blk_at Hx1.out KB192.out), rfl, Nat.le_of_ble_eq_true rfl, ?_⟩
                  intro W213 hW213
                  go_wp2_with fail
                  (try simp only [Exit.inBlock, Exit.then])
                  refine bodyPost_ret (results_cell_tmp rfl _ _ (w.heap.size) 34 _ _ dj rfl (blk_same (blk_at Hx1.out KB192.out) hW213) dj1 (by cases dj <;> first | rfl | exact dj2) (by kernel_rfl)) rfl ?_
                  have jz217 := Z0.out
                  have jq214 := par_end (par_row' HL196.out hW213 (by omega) (by omega)) (by omega)
                  have jq215 := par_end (par_row' HL197.out hW213 (by omega) (by omega)) (by omega)
                  have jq216 := par_end (par_row' HL198.out hW213 (by omega) (by omega)) (by omega)
                  exact ⟨_, _, _, rfl, ⟨jq214, jq215, jq216⟩, kept_set KB191.out hW213 (by omega)⟩
                exact AllReadyX.nil
              exact AllReadyX.nil
            exact AllReadyX.nil
          exact AllReadyX.nil
        exact AllReadyX.nil
      exact AllReadyX.nil

end Go.Proofs.Ytjlppnmckobcfaa
