/-
  Facts and contracts that the proof of RuleLevels uses.
-/
import Derived.Test.YtjlppnmckobcfaaRows
import Derived.WalkKit
import Derived.Lib.Hide
import Derived.KernelRfl
import Derived.Deep.RegionWith
import Derived.Deep.RegionHeld3
import Derived.Deep.AppendLies
import Derived.Laws.Rows
import Derived.Laws.IdiomCopy
import Derived.Deep.Slices
import Derived.Deep.QuietTactic
import Derived.BigQuiet
import Derived.Lib.QuietBelow
import Derived.StillTailTactics
import Derived.IntWalk
import Derived.OwnWalk
import Derived.OrdersHeld
import Derived.Deep.DeepCutAuto
import Derived.Deep.RegionLaw
import Derived.Deep.LoopGhost
import Derived.Deep.MidRow
import Derived.Laws.Tables
import Derived.Laws.CopyOwn
import Derived.Laws.CopyRow
import Derived.Deep.RegionHeld
import Derived.ProofKit
import Derived.OpenShut
import Derived.Carry
import Derived.ChangeSlices
import Derived.JoinedOf
import Derived.Test.YtjlppnmckobcfaaRuleLevelsQ6
namespace Go.Proofs.Ytjlppnmckobcfaa
open Go.RowKit
set_option maxRecDepth 20000 in
set_option maxHeartbeats 4000000 in
theorem of12tf_any (i : Int) (i2 : Int) (c : List En) (u : Tm) (v : Tm) (x : Tm) (u2 : Tm) (v2 : Tm) (x2 : Tm) (P : Nat → Prop) (w : World) (sc : Value) (bon oon capon : Nat) (Con : Array Value) (Ton : TypeId) (fron : Nat × Nat) (su : Value) (sv : Value) (sx : Value) (su2 : Value) (sv2 : Value) (sx2 : Value) (hlc : LiesE w c sc) (hfu : u.fine) (hlu : LiesQ w P u.kids su) (hfv : v.fine) (hlv : LiesQ w P v.kids sv) (hfx : x.fine) (hlx : LiesQ w P x.kids sx) (hri : I64 i) (hfu2 : u2.fine) (hlu2 : LiesQ w P u2.kids su2) (hfv2 : v2.fine) (hlv2 : LiesQ w P v2.kids sv2) (hfx2 : x2.fine) (hlx2 : LiesQ w P x2.kids sx2) (hri2 : I64 i2) (hbon : w.heap[bon]? = some (.cells Con Ton fron)) (hson0 : (Con.toList.drop oon).take 17 = [.bool true, .int .i64 u.k, .int .i64 u.i, .int .i64 u.j, .int .i64 u.n, su, .int .i64 v.k, .int .i64 v.i, .int .i64 v.j, .int .i64 v.n, sv, .int .i64 x.k, .int .i64 x.i, .int .i64 x.j, .int .i64 x.n, sx, .int .i64 i]) (hson1 : (Con.toList.drop (oon + 17)).take 17 = [.bool false, .int .i64 u2.k, .int .i64 u2.i, .int .i64 u2.j, .int .i64 u2.n, su2, .int .i64 v2.k, .int .i64 v2.i, .int .i64 v2.j, .int .i64 v2.n, sv2, .int .i64 x2.k, .int .i64 x2.i, .int .i64 x2.j, .int .i64 x2.n, sx2, .int .i64 i2]) (hlen : c.length ≤ 100000) (hzu : u.size ≤ 1000000) (hzv : v2.size ≤ 1000000) : Calls Try.prog 12 #[sc, .int .i64 12, .int .i64 0, .slice (some ⟨bon, oon, none⟩) 2 capon] w (GivesOn P ⟨false, u, .zero, v2, i⟩ w) := by
  have HEc := Lib.hid hlc
  obtain ⟨ac, cc, Sc, rfl, -⟩ := hlc.out
  clear hlc
  have Gu := Lib.hid hfu
  clear hfu
  obtain ⟨au, cu, Su, rfl, -⟩ := hlu.out
  have Gv := Lib.hid hfv
  clear hfv
  obtain ⟨av, cv, Sv, rfl, -⟩ := hlv.out
  have Gx := Lib.hid hfx
  clear hfx
  obtain ⟨ax, cx, Sx, rfl, -⟩ := hlx.out
  have Ri := Lib.hid hri
  clear hri
  have Gu2 := Lib.hid hfu2
  clear hfu2
  obtain ⟨au2, cu2, Su2, rfl, -⟩ := hlu2.out
  have Gv2 := Lib.hid hfv2
  clear hfv2
  obtain ⟨av2, cv2, Sv2, rfl, -⟩ := hlv2.out
  have Gx2 := Lib.hid hfx2
  clear hfx2
  obtain ⟨ax2, cx2, Sx2, rfl, -⟩ := hlx2.out
  have Ri2 := Lib.hid hri2
  clear hri2
  have HNon : Hid (bon < w.heap.size) := block_lt hbon
  have HBon := Lib.hid hbon
  have HSon0 := Lib.hid hson0
  have HSon1 := Lib.hid hson1
  clear hbon hson0 hson1
  have HRN := Lib.hid (show I64 (c.length : Int) by unfold I64; omega)
  have HZU := Lib.hid hzu
  have HZV := Lib.hid hzv
  clear hzu hzv
  obtain ⟨dj, dj1, dj2⟩ := under_of 34 (by kernel_rfl)
  obtain ⟨du, hu1, hu2⟩ := under_term
  go_enter Try.func12, Try.ntmps12
  go_upto_region 1 with fail
  refine at_code (fun V0 hV0 => ?_)
  obtain ⟨k2, x1, z3⟩ := alloc1 hV0
  have Kk4 := Lib.hid k2
  clear k2
  have Hx1 := Lib.hid x1
  have Z0 := Lib.hid z3
  clear z3 x1 hV0
  have HLu : Hid (LiesQ V0 (Par w V0.heap.size [] P) u.kids _) := (par_in _ _ hlu).later Kk4.out
  clear hlu
  have HLv : Hid (LiesQ V0 (Par w V0.heap.size [] P) v.kids _) := (par_in _ _ hlv).later Kk4.out
  clear hlv
  have HLx : Hid (LiesQ V0 (Par w V0.heap.size [] P) x.kids _) := (par_in _ _ hlx).later Kk4.out
  clear hlx
  have HLu2 : Hid (LiesQ V0 (Par w V0.heap.size [] P) u2.kids _) := (par_in _ _ hlu2).later Kk4.out
  clear hlu2
  have HLv2 : Hid (LiesQ V0 (Par w V0.heap.size [] P) v2.kids _) := (par_in _ _ hlv2).later Kk4.out
  clear hlv2
  have HLx2 : Hid (LiesQ V0 (Par w V0.heap.size [] P) x2.kids _) := (par_in _ _ hlx2).later Kk4.out
  clear hlx2
  have HBon := Lib.hid (blk_at HBon.out Kk4.out)
  have ld5 := part_cell (r := (w.heap.size)) HBon.out (by have := HNon.out; have := Z0.out; omega) (oon) (.bool true) (row_cellW HSon0.out 0 (by decide))
  have ld6 := part_cell (r := (w.heap.size)) HBon.out (by have := HNon.out; have := Z0.out; omega) (oon + 16) (.int .i64 i) (row_cellW HSon0.out 16 (by decide))
  have ld7 := part_cell (r := (w.heap.size)) HBon.out (by have := HNon.out; have := Z0.out; omega) (oon + 17) (.bool false) (row_cellW HSon1.out 0 (by decide))
  have ld8 := part_cell (r := (w.heap.size)) HBon.out (by have := HNon.out; have := Z0.out; omega) (oon + 17 + 16) (.int .i64 i2) (row_cellW HSon1.out 16 (by decide))
  have kvV0 : Sees V0 (w.heap.size) V0 := sees_kept _ (kept_refl _)
  go_wp2_with fail
  clear kvV0
  have hq11 := kidsK 12 V0
  rw [show Dv.dkidsN 12 = 2 from by decide] at hq11
  refine hq11.mono ?_
  clear hq11
  rintro e w9 ⟨rfl, k10⟩
  have Kk12 := Lib.hid k10
  clear k10
  have kvV0 : Sees V0 (w.heap.size) w9 := sees_kept _ Kk12.out
  go_wp2_with fail
  clear kvV0
  refine (rulepure_any c w9 _ (HEc.out.keep (kept_trans Kk4.out Kk12.out))).mono ?_
  obtain ⟨rb16, hb15⟩ : ∃ qb, (purC c) = qb := ⟨_, rfl⟩
  rw [hb15]
  have Hhb15 := Lib.hid hb15
  clear hb15
  rintro e w13 ⟨rfl, k14⟩
  have Kk17 := Lib.hid k14
  clear k14
  cases rb16 with
  | false =>
    have kvV0 : Sees V0 (w.heap.size) w13 := sees_kept _ (kept_trans Kk12.out Kk17.out)
    go_upto_region 2 with fail
    go_wp2_with (refine stop_store 34 (.tmp 8) (.tmp 25) rfl ?_)
    intro _
    refine wpList_store_part_n (by rfl) 34 (.tmp 8) (.tmp 25) rfl (w.heap.size) 0 #[.bool false, .int .i64 0, .int .i64 0, .int .i64 0, .int .i64 0, .slice none 0 0, .int .i64 0, .int .i64 0, .int .i64 0, .int .i64 0, .slice none 0 0, .int .i64 0, .int .i64 0, .int .i64 0, .int .i64 0, .slice none 0 0, .int .i64 0] (by rfl) (by rfl) 34 (by kernel_rfl) (row_ok rfl) ?_
    intro W18 hW18
    clear kvV0
    subst hW18
    refine ⟨_, #[.bool false, .int .i64 0, .int .i64 0, .int .i64 0, .int .i64 0, .slice none 0 0, .int .i64 0, .int .i64 0, .int .i64 0, .int .i64 0, .slice none 0 0, .int .i64 0, .int .i64 0, .int .i64 0, .int .i64 0, .slice none 0 0, .int .i64 0], (blk_at Hx1.out (kept_trans Kk12.out Kk17.out)), rfl, Nat.le_of_ble_eq_true rfl, ?_⟩
    intro W19 hW19
    go_wp2_with fail
    (try simp only [Exit.inBlock, Exit.then])
    refine bodyPost_ret (results_cell_tmp rfl _ _ (w.heap.size) 34 _ _ dj rfl (blk_same (blk_at Hx1.out (kept_trans Kk12.out Kk17.out)) hW19) dj1 (by cases dj <;> first | rfl | exact dj2) (by kernel_rfl)) rfl ?_
    have jz23 := Z0.out
    have jq20 := par_end (par_row' (liesQ_nil w13 (Par w V0.heap.size [] P)) hW19 (by omega) (by omega)) (by omega)
    have jq21 := par_end (par_row' (liesQ_nil w13 (Par w V0.heap.size [] P)) hW19 (by omega) (by omega)) (by omega)
    have jq22 := par_end (par_row' (liesQ_nil w13 (Par w V0.heap.size [] P)) hW19 (by omega) (by omega)) (by omega)
    exact ⟨false, ⟨false, .zero, .zero, .zero, 0⟩, _, _, _, rfl, ⟨zero_fine, zero_fine, zero_fine, by show I64 0; unfold I64; decide⟩, ⟨jq20, jq21, jq22⟩, (fun h => nomatch h), kept_set (kept_trans Kk4.out (kept_trans Kk12.out Kk17.out)) hW19 (by omega)⟩
  | true =>
    have kvV0 : Sees V0 (w.heap.size) w13 := sees_kept _ (kept_trans Kk12.out Kk17.out)
    go_wp2_with fail
    clear kvV0
    go_loopw [28] (fun iv wr => ∃ qi : Int, 0 ≤ qi ∧ qi ≤ 2 ∧ iv = .int .i64 qi ∧ Hid ((1 ≤ qi → rightJ (⟨true, u, v, x, i⟩ : Jd) (c.length : Int) = true) ∧ (2 ≤ qi → rightJ (⟨false, u2, v2, x2, i2⟩ : Jd) (c.length : Int) = true)) ∧ Kept w13 wr) (fun iv _ => 2 - (intOf iv).toNat)
    case atStart => exact ⟨0, by decide, by decide, rfl, ⟨(fun h => absurd h (by decide)), (fun h => absurd h (by decide))⟩, kept_refl _⟩
    case round =>
      obtain ⟨qi, hi0, hi1, rfl, hv25, k24⟩ := hrel
      have Kk26 := Lib.hid k24
      clear k24
      have HVhv25 := Lib.hid hv25.out
      clear hv25
      obtain rfl | rfl | rfl : qi = 0 ∨ qi = 1 ∨ qi = 2 := by omega
      · clear hi0 hi1
        have kvV0 : Sees V0 (w.heap.size) wr := sees_kept _ (kept_trans Kk12.out (kept_trans Kk17.out Kk26.out))
        go_wp2_with (refine stop_load 34 (.tmp 31) rfl ?_)
        intro _
        refine wpList_load_part (bon) (oon) 34 (.tmp 31) #[.bool true, .int .i64 u.k, .int .i64 u.i, .int .i64 u.j, .int .i64 u.n, (.slice au u.kids.length cu), .int .i64 v.k, .int .i64 v.i, .int .i64 v.j, .int .i64 v.n, (.slice av v.kids.length cv), .int .i64 x.k, .int .i64 x.i, .int .i64 x.j, .int .i64 x.n, (.slice ax x.kids.length cx), .int .i64 i] dj (blk_at HBon.out (kept_trans Kk12.out (kept_trans Kk17.out Kk26.out))) (by rfl) rfl (by rfl) (row_subW HSon0.out 0 17 (by decide)) dj1 (by cases dj <;> first | rfl | exact dj2) (by kernel_rfl) ?_
        go_wp2_with (refine stop_store 34 (.tmp 11) (.tmp 32) rfl ?_)
        intro _
        refine wpList_store_part_n (by rfl) 34 (.tmp 11) (.tmp 32) rfl (wr.heap.size) 0 #[.bool true, .int .i64 u.k, .int .i64 u.i, .int .i64 u.j, .int .i64 u.n, (.slice au u.kids.length cu), .int .i64 v.k, .int .i64 v.i, .int .i64 v.j, .int .i64 v.n, (.slice av v.kids.length cv), .int .i64 x.k, .int .i64 x.i, .int .i64 x.j, .int .i64 x.n, (.slice ax x.kids.length cx), .int .i64 i] (by rfl) (by rfl) 34 (by kernel_rfl) (row_ok rfl) ?_
        intro W27 hW27
        clear kvV0
        obtain ⟨k30, x29, z31⟩ := alloc1 hW27
        have Kk32 := Lib.hid k30
        clear k30
        have Hx29 := Lib.hid x29
        have Hz31 := Lib.hid z31
        clear x29 z31 hW27
        have HG33 : Hid (V0.heap.size ≤ wr.heap.size) := (Below.size (kept_trans Kk12.out (kept_trans Kk17.out Kk26.out)))
        have XL34 : Hid (XLt (wr.heap.size :: []) W27) := (xlt_more (xlt_nil _) Kk32.out (by have := Hz31.out; omega))
        have HD35 : Hid (wr.heap.size ≤ wr.heap.size) := Below.size (kept_refl _)
        refine ⟨_, #[.bool true, .int .i64 u.k, .int .i64 u.i, .int .i64 u.j, .int .i64 u.n, (.slice au u.kids.length cu), .int .i64 v.k, .int .i64 v.i, .int .i64 v.j, .int .i64 v.n, (.slice av v.kids.length cv), .int .i64 x.k, .int .i64 x.i, .int .i64 x.j, .int .i64 x.n, (.slice ax x.kids.length cx), .int .i64 i], Hx29.out, rfl, Nat.le_of_ble_eq_true rfl, ?_⟩
        intro W28 hW28
        have KB36 := Lib.hid (kept_set (kept_trans Kk4.out (kept_trans Kk12.out (kept_trans Kk17.out (kept_trans Kk26.out Kk32.out)))) hW28 (by have := HG33.out; have := Z0.out; omega))
        have KB37 := Lib.hid (kept_set (kept_trans Kk12.out (kept_trans Kk17.out (kept_trans Kk26.out Kk32.out))) hW28 HG33.out)
        have KB38 := Lib.hid (kept_set Kk32.out hW28 HD35.out)
        have HL39 : Hid (LiesQ W28 (Par w V0.heap.size (wr.heap.size :: []) P) u.kids _) := par_set (par_grow HLu.out (kept_trans Kk12.out (kept_trans Kk17.out (kept_trans Kk26.out Kk32.out))) (List.forall_mem_cons.2 ⟨(Or.inr (Nat.le_trans (Below.size (kept_trans Kk12.out (kept_trans Kk17.out Kk26.out))) (Nat.le_refl wr.heap.size))), (fun _ h => nomatch h)⟩)) hW28 (List.mem_cons_self ..) (by have := HG33.out; have := Z0.out; omega)
        have HL40 : Hid (LiesQ W28 (Par w V0.heap.size (wr.heap.size :: []) P) v.kids _) := par_set (par_grow HLv.out (kept_trans Kk12.out (kept_trans Kk17.out (kept_trans Kk26.out Kk32.out))) (List.forall_mem_cons.2 ⟨(Or.inr (Nat.le_trans (Below.size (kept_trans Kk12.out (kept_trans Kk17.out Kk26.out))) (Nat.le_refl wr.heap.size))), (fun _ h => nomatch h)⟩)) hW28 (List.mem_cons_self ..) (by have := HG33.out; have := Z0.out; omega)
        have HL41 : Hid (LiesQ W28 (Par w V0.heap.size (wr.heap.size :: []) P) x.kids _) := par_set (par_grow HLx.out (kept_trans Kk12.out (kept_trans Kk17.out (kept_trans Kk26.out Kk32.out))) (List.forall_mem_cons.2 ⟨(Or.inr (Nat.le_trans (Below.size (kept_trans Kk12.out (kept_trans Kk17.out Kk26.out))) (Nat.le_refl wr.heap.size))), (fun _ h => nomatch h)⟩)) hW28 (List.mem_cons_self ..) (by have := HG33.out; have := Z0.out; omega)
        have HL42 : Hid (LiesQ W28 (Par w V0.heap.size (wr.heap.size :: []) P) u2.kids _) := par_set (par_grow HLu2.out (kept_trans Kk12.out (kept_trans Kk17.out (kept_trans Kk26.out Kk32.out))) (List.forall_mem_cons.2 ⟨(Or.inr (Nat.le_trans (Below.size (kept_trans Kk12.out (kept_trans Kk17.out Kk26.out))) (Nat.le_refl wr.heap.size))), (fun _ h => nomatch h)⟩)) hW28 (List.mem_cons_self ..) (by have := HG33.out; have := Z0.out; omega)
        have HL43 : Hid (LiesQ W28 (Par w V0.heap.size (wr.heap.size :: []) P) v2.kids _) := par_set (par_grow HLv2.out (kept_trans Kk12.out (kept_trans Kk17.out (kept_trans Kk26.out Kk32.out))) (List.forall_mem_cons.2 ⟨(Or.inr (Nat.le_trans (Below.size (kept_trans Kk12.out (kept_trans Kk17.out Kk26.out))) (Nat.le_refl wr.heap.size))), (fun _ h => nomatch h)⟩)) hW28 (List.mem_cons_self ..) (by have := HG33.out; have := Z0.out; omega)
        have HL44 : Hid (LiesQ W28 (Par w V0.heap.size (wr.heap.size :: []) P) x2.kids _) := par_set (par_grow HLx2.out (kept_trans Kk12.out (kept_trans Kk17.out (kept_trans Kk26.out Kk32.out))) (List.forall_mem_cons.2 ⟨(Or.inr (Nat.le_trans (Below.size (kept_trans Kk12.out (kept_trans Kk17.out Kk26.out))) (Nat.le_refl wr.heap.size))), (fun _ h => nomatch h)⟩)) hW28 (List.mem_cons_self ..) (by have := HG33.out; have := Z0.out; omega)
        have XL45 := Lib.hid (xlt_set XL34.out hW28)
        have HX46 := Lib.hid (blk_same Hx29.out hW28)
        clear hW28
        have kvV0 : Sees V0 (w.heap.size) W28 := sees_kept _ KB37.out
        have kvW28 : Sees W28 (w.heap.size) W28 := sees_kept _ (kept_refl _)
        go_wp2_with fail
        clear kvV0
        clear kvW28
        have hq49 := innerK 12 0 W28
        rw [show Dv.innerB 12 0 = false from by decide] at hq49
        refine hq49.mono ?_
        clear hq49
        rintro e w47 ⟨rfl, k48⟩
        have Kk50 := Lib.hid k48
        clear k48
        have kvV0 : Sees V0 (w.heap.size) w47 := sees_kept _ (kept_trans KB37.out Kk50.out)
        have kvW28 : Sees W28 (w.heap.size) w47 := sees_kept _ Kk50.out
        go_wp2_with (refine stop_load 34 (.tmp 11) rfl ?_)
        intro _
        refine wpList_load_part (wr.heap.size) (0) 34 (.tmp 11) #[.bool true, .int .i64 u.k, .int .i64 u.i, .int .i64 u.j, .int .i64 u.n, (.slice au u.kids.length cu), .int .i64 v.k, .int .i64 v.i, .int .i64 v.j, .int .i64 v.n, (.slice av v.kids.length cv), .int .i64 x.k, .int .i64 x.i, .int .i64 x.j, .int .i64 x.n, (.slice ax x.kids.length cx), .int .i64 i] dj (blk_at HX46.out Kk50.out) (by rfl) rfl (by rfl) (by rfl) dj1 (by cases dj <;> first | rfl | exact dj2) (by kernel_rfl) ?_
        go_wp2_with fail
        clear kvV0
        clear kvW28
        refine (rright1_any (c.length : Int) i u v x (Par w V0.heap.size (wr.heap.size :: []) P) w47 ((.slice au u.kids.length cu)) ((.slice av v.kids.length cv)) ((.slice ax x.kids.length cx)) Gu.out (HL39.out.later Kk50.out) Gv.out (HL40.out.later Kk50.out) Gx.out (HL41.out.later Kk50.out) Ri.out HRN.out).mono ?_
        obtain ⟨rb54, hb53⟩ : ∃ qb, (rightJ (⟨true, u, v, x, i⟩ : Jd) (c.length : Int)) = qb := ⟨_, rfl⟩
        rw [hb53]
        have Hhb53 := Lib.hid hb53
        clear hb53
        rintro e w51 ⟨rfl, k52⟩
        have Kk55 := Lib.hid k52
        clear k52
        cases rb54 with
        | false =>
          have kvV0 : Sees V0 (w.heap.size) w51 := sees_kept _ (kept_trans KB37.out (kept_trans Kk50.out Kk55.out))
          have kvW28 : Sees W28 (w.heap.size) w51 := sees_kept _ (kept_trans Kk50.out Kk55.out)
          go_upto_region 10 with fail
          go_wp2_with (refine stop_store 34 (.tmp 8) (.tmp 44) rfl ?_)
          intro _
          refine wpList_store_part_n (by rfl) 34 (.tmp 8) (.tmp 44) rfl (w.heap.size) 0 #[.bool false, .int .i64 0, .int .i64 0, .int .i64 0, .int .i64 0, .slice none 0 0, .int .i64 0, .int .i64 0, .int .i64 0, .int .i64 0, .slice none 0 0, .int .i64 0, .int .i64 0, .int .i64 0, .int .i64 0, .slice none 0 0, .int .i64 0] (by rfl) (by rfl) 34 (by kernel_rfl) (row_ok rfl) ?_
          intro W56 hW56
          clear kvV0
          clear kvW28
          subst hW56
          refine ⟨_, #[.bool false, .int .i64 0, .int .i64 0, .int .i64 0, .int .i64 0, .slice none 0 0, .int .i64 0, .int .i64 0, .int .i64 0, .int .i64 0, .slice none 0 0, .int .i64 0, .int .i64 0, .int .i64 0, .int .i64 0, .slice none 0 0, .int .i64 0], (blk_at Hx1.out (kept_trans KB37.out (kept_trans Kk50.out Kk55.out))), rfl, Nat.le_of_ble_eq_true rfl, ?_⟩
          intro W57 hW57
          go_wp2_with fail
          (try simp only [Exit.inBlock, Exit.then])
          refine bodyPost_ret (results_cell_tmp rfl _ _ (w.heap.size) 34 _ _ dj rfl (blk_same (blk_at Hx1.out (kept_trans KB37.out (kept_trans Kk50.out Kk55.out))) hW57) dj1 (by cases dj <;> first | rfl | exact dj2) (by kernel_rfl)) rfl ?_
          have jz61 := Z0.out
          have jq58 := par_end (par_row' (liesQ_nil w51 (Par w V0.heap.size (wr.heap.size :: []) P)) hW57 (by omega) (by omega)) (by omega)
          have jq59 := par_end (par_row' (liesQ_nil w51 (Par w V0.heap.size (wr.heap.size :: []) P)) hW57 (by omega) (by omega)) (by omega)
          have jq60 := par_end (par_row' (liesQ_nil w51 (Par w V0.heap.size (wr.heap.size :: []) P)) hW57 (by omega) (by omega)) (by omega)
          exact ⟨false, ⟨false, .zero, .zero, .zero, 0⟩, _, _, _, rfl, ⟨zero_fine, zero_fine, zero_fine, by show I64 0; unfold I64; decide⟩, ⟨jq58, jq59, jq60⟩, (fun h => nomatch h), kept_set (kept_trans KB36.out (kept_trans Kk50.out Kk55.out)) hW57 (by omega)⟩
        | true =>
          have kvV0 : Sees V0 (w.heap.size) w51 := sees_kept _ (kept_trans KB37.out (kept_trans Kk50.out Kk55.out))
          have kvW28 : Sees W28 (w.heap.size) w51 := sees_kept _ (kept_trans Kk50.out Kk55.out)
          go_wp2
          go_roundw
          case rel => exact ⟨1, by decide, by decide, by go_num, ⟨fun _ => Hhb53.out, (fun h => absurd h (by decide))⟩, (kept_trans Kk26.out (kept_trans KB38.out (kept_trans Kk50.out Kk55.out)))⟩
          case measure => simp [intOf]
      · clear hi0 hi1
        have kvV0 : Sees V0 (w.heap.size) wr := sees_kept _ (kept_trans Kk12.out (kept_trans Kk17.out Kk26.out))
        go_wp2_with (refine stop_load 34 (.tmp 31) rfl ?_)
        intro _
        refine wpList_load_part (bon) (oon + 17) 34 (.tmp 31) #[.bool false, .int .i64 u2.k, .int .i64 u2.i, .int .i64 u2.j, .int .i64 u2.n, (.slice au2 u2.kids.length cu2), .int .i64 v2.k, .int .i64 v2.i, .int .i64 v2.j, .int .i64 v2.n, (.slice av2 v2.kids.length cv2), .int .i64 x2.k, .int .i64 x2.i, .int .i64 x2.j, .int .i64 x2.n, (.slice ax2 x2.kids.length cx2), .int .i64 i2] dj (blk_at HBon.out (kept_trans Kk12.out (kept_trans Kk17.out Kk26.out))) (by rfl) rfl (by rfl) (row_subW HSon1.out 0 17 (by decide)) dj1 (by cases dj <;> first | rfl | exact dj2) (by kernel_rfl) ?_
        go_wp2_with (refine stop_store 34 (.tmp 11) (.tmp 32) rfl ?_)
        intro _
        refine wpList_store_part_n (by rfl) 34 (.tmp 11) (.tmp 32) rfl (wr.heap.size) 0 #[.bool false, .int .i64 u2.k, .int .i64 u2.i, .int .i64 u2.j, .int .i64 u2.n, (.slice au2 u2.kids.length cu2), .int .i64 v2.k, .int .i64 v2.i, .int .i64 v2.j, .int .i64 v2.n, (.slice av2 v2.kids.length cv2), .int .i64 x2.k, .int .i64 x2.i, .int .i64 x2.j, .int .i64 x2.n, (.slice ax2 x2.kids.length cx2), .int .i64 i2] (by rfl) (by rfl) 34 (by kernel_rfl) (row_ok rfl) ?_
        intro W62 hW62
        clear kvV0
        obtain ⟨k65, x64, z66⟩ := alloc1 hW62
        have Kk67 := Lib.hid k65
        clear k65
        have Hx64 := Lib.hid x64
        have Hz66 := Lib.hid z66
        clear x64 z66 hW62
        have HG68 : Hid (V0.heap.size ≤ wr.heap.size) := (Below.size (kept_trans Kk12.out (kept_trans Kk17.out Kk26.out)))
        have XL69 : Hid (XLt (wr.heap.size :: []) W62) := (xlt_more (xlt_nil _) Kk67.out (by have := Hz66.out; omega))
        have HD70 : Hid (wr.heap.size ≤ wr.heap.size) := Below.size (kept_refl _)
        refine ⟨_, #[.bool false, .int .i64 u2.k, .int .i64 u2.i, .int .i64 u2.j, .int .i64 u2.n, (.slice au2 u2.kids.length cu2), .int .i64 v2.k, .int .i64 v2.i, .int .i64 v2.j, .int .i64 v2.n, (.slice av2 v2.kids.length cv2), .int .i64 x2.k, .int .i64 x2.i, .int .i64 x2.j, .int .i64 x2.n, (.slice ax2 x2.kids.length cx2), .int .i64 i2], Hx64.out, rfl, Nat.le_of_ble_eq_true rfl, ?_⟩
        intro W63 hW63
        have KB71 := Lib.hid (kept_set (kept_trans Kk4.out (kept_trans Kk12.out (kept_trans Kk17.out (kept_trans Kk26.out Kk67.out)))) hW63 (by have := HG68.out; have := Z0.out; omega))
        have KB72 := Lib.hid (kept_set (kept_trans Kk12.out (kept_trans Kk17.out (kept_trans Kk26.out Kk67.out))) hW63 HG68.out)
        have KB73 := Lib.hid (kept_set Kk67.out hW63 HD70.out)
        have HL74 : Hid (LiesQ W63 (Par w V0.heap.size (wr.heap.size :: []) P) u2.kids _) := par_set (par_grow HLu2.out (kept_trans Kk12.out (kept_trans Kk17.out (kept_trans Kk26.out Kk67.out))) (List.forall_mem_cons.2 ⟨(Or.inr (Nat.le_trans (Below.size (kept_trans Kk12.out (kept_trans Kk17.out Kk26.out))) (Nat.le_refl wr.heap.size))), (fun _ h => nomatch h)⟩)) hW63 (List.mem_cons_self ..) (by have := HG68.out; have := Z0.out; omega)
        have HL75 : Hid (LiesQ W63 (Par w V0.heap.size (wr.heap.size :: []) P) v2.kids _) := par_set (par_grow HLv2.out (kept_trans Kk12.out (kept_trans Kk17.out (kept_trans Kk26.out Kk67.out))) (List.forall_mem_cons.2 ⟨(Or.inr (Nat.le_trans (Below.size (kept_trans Kk12.out (kept_trans Kk17.out Kk26.out))) (Nat.le_refl wr.heap.size))), (fun _ h => nomatch h)⟩)) hW63 (List.mem_cons_self ..) (by have := HG68.out; have := Z0.out; omega)
        have HL76 : Hid (LiesQ W63 (Par w V0.heap.size (wr.heap.size :: []) P) x2.kids _) := par_set (par_grow HLx2.out (kept_trans Kk12.out (kept_trans Kk17.out (kept_trans Kk26.out Kk67.out))) (List.forall_mem_cons.2 ⟨(Or.inr (Nat.le_trans (Below.size (kept_trans Kk12.out (kept_trans Kk17.out Kk26.out))) (Nat.le_refl wr.heap.size))), (fun _ h => nomatch h)⟩)) hW63 (List.mem_cons_self ..) (by have := HG68.out; have := Z0.out; omega)
        have HL77 : Hid (LiesQ W63 (Par w V0.heap.size (wr.heap.size :: []) P) u.kids _) := par_set (par_grow HLu.out (kept_trans Kk12.out (kept_trans Kk17.out (kept_trans Kk26.out Kk67.out))) (List.forall_mem_cons.2 ⟨(Or.inr (Nat.le_trans (Below.size (kept_trans Kk12.out (kept_trans Kk17.out Kk26.out))) (Nat.le_refl wr.heap.size))), (fun _ h => nomatch h)⟩)) hW63 (List.mem_cons_self ..) (by have := HG68.out; have := Z0.out; omega)
        have HL78 : Hid (LiesQ W63 (Par w V0.heap.size (wr.heap.size :: []) P) v.kids _) := par_set (par_grow HLv.out (kept_trans Kk12.out (kept_trans Kk17.out (kept_trans Kk26.out Kk67.out))) (List.forall_mem_cons.2 ⟨(Or.inr (Nat.le_trans (Below.size (kept_trans Kk12.out (kept_trans Kk17.out Kk26.out))) (Nat.le_refl wr.heap.size))), (fun _ h => nomatch h)⟩)) hW63 (List.mem_cons_self ..) (by have := HG68.out; have := Z0.out; omega)
        have HL79 : Hid (LiesQ W63 (Par w V0.heap.size (wr.heap.size :: []) P) x.kids _) := par_set (par_grow HLx.out (kept_trans Kk12.out (kept_trans Kk17.out (kept_trans Kk26.out Kk67.out))) (List.forall_mem_cons.2 ⟨(Or.inr (Nat.le_trans (Below.size (kept_trans Kk12.out (kept_trans Kk17.out Kk26.out))) (Nat.le_refl wr.heap.size))), (fun _ h => nomatch h)⟩)) hW63 (List.mem_cons_self ..) (by have := HG68.out; have := Z0.out; omega)
        have XL80 := Lib.hid (xlt_set XL69.out hW63)
        have HX81 := Lib.hid (blk_same Hx64.out hW63)
        clear hW63
        have kvV0 : Sees V0 (w.heap.size) W63 := sees_kept _ KB72.out
        have kvW63 : Sees W63 (w.heap.size) W63 := sees_kept _ (kept_refl _)
        go_wp2_with fail
        clear kvV0
        clear kvW63
        have hq84 := innerK 12 1 W63
        rw [show Dv.innerB 12 1 = false from by decide] at hq84
        refine hq84.mono ?_
        clear hq84
        rintro e w82 ⟨rfl, k83⟩
        have Kk85 := Lib.hid k83
        clear k83
        have kvV0 : Sees V0 (w.heap.size) w82 := sees_kept _ (kept_trans KB72.out Kk85.out)
        have kvW63 : Sees W63 (w.heap.size) w82 := sees_kept _ Kk85.out
        go_wp2_with (refine stop_load 34 (.tmp 11) rfl ?_)
        intro _
        refine wpList_load_part (wr.heap.size) (0) 34 (.tmp 11) #[.bool false, .int .i64 u2.k, .int .i64 u2.i, .int .i64 u2.j, .int .i64 u2.n, (.slice au2 u2.kids.length cu2), .int .i64 v2.k, .int .i64 v2.i, .int .i64 v2.j, .int .i64 v2.n, (.slice av2 v2.kids.length cv2), .int .i64 x2.k, .int .i64 x2.i, .int .i64 x2.j, .int .i64 x2.n, (.slice ax2 x2.kids.length cx2), .int .i64 i2] dj (blk_at HX81.out Kk85.out) (by rfl) rfl (by rfl) (by rfl) dj1 (by cases dj <;> first | rfl | exact dj2) (by kernel_rfl) ?_
        go_wp2_with fail
        clear kvV0
        clear kvW63
        refine (rright0_any (c.length : Int) i2 u2 v2 x2 (Par w V0.heap.size (wr.heap.size :: []) P) w82 ((.slice au2 u2.kids.length cu2)) ((.slice av2 v2.kids.length cv2)) ((.slice ax2 x2.kids.length cx2)) Gu2.out (HL74.out.later Kk85.out) Gv2.out (HL75.out.later Kk85.out) Gx2.out (HL76.out.later Kk85.out) Ri2.out HRN.out).mono ?_
        obtain ⟨rb89, hb88⟩ : ∃ qb, (rightJ (⟨false, u2, v2, x2, i2⟩ : Jd) (c.length : Int)) = qb := ⟨_, rfl⟩
        rw [hb88]
        have Hhb88 := Lib.hid hb88
        clear hb88
        rintro e w86 ⟨rfl, k87⟩
        have Kk90 := Lib.hid k87
        clear k87
        cases rb89 with
        | false =>
          have kvV0 : Sees V0 (w.heap.size) w86 := sees_kept _ (kept_trans KB72.out (kept_trans Kk85.out Kk90.out))
          have kvW63 : Sees W63 (w.heap.size) w86 := sees_kept _ (kept_trans Kk85.out Kk90.out)
          go_upto_region 10 with fail
          go_wp2_with (refine stop_store 34 (.tmp 8) (.tmp 44) rfl ?_)
          intro _
          refine wpList_store_part_n (by rfl) 34 (.tmp 8) (.tmp 44) rfl (w.heap.size) 0 #[.bool false, .int .i64 0, .int .i64 0, .int .i64 0, .int .i64 0, .slice none 0 0, .int .i64 0, .int .i64 0, .int .i64 0, .int .i64 0, .slice none 0 0, .int .i64 0, .int .i64 0, .int .i64 0, .int .i64 0, .slice none 0 0, .int .i64 0] (by rfl) (by rfl) 34 (by kernel_rfl) (row_ok rfl) ?_
          intro W91 hW91
          clear kvV0
          clear kvW63
          subst hW91
          refine ⟨_, #[.bool false, .int .i64 0, .int .i64 0, .int .i64 0, .int .i64 0, .slice none 0 0, .int .i64 0, .int .i64 0, .int .i64 0, .int .i64 0, .slice none 0 0, .int .i64 0, .int .i64 0, .int .i64 0, .int .i64 0, .slice none 0 0, .int .i64 0], (blk_at Hx1.out (kept_trans KB72.out (kept_trans Kk85.out Kk90.out))), rfl, Nat.le_of_ble_eq_true rfl, ?_⟩
          intro W92 hW92
          go_wp2_with fail
          (try simp only [Exit.inBlock, Exit.then])
          refine bodyPost_ret (results_cell_tmp rfl _ _ (w.heap.size) 34 _ _ dj rfl (blk_same (blk_at Hx1.out (kept_trans KB72.out (kept_trans Kk85.out Kk90.out))) hW92) dj1 (by cases dj <;> first | rfl | exact dj2) (by kernel_rfl)) rfl ?_
          have jz96 := Z0.out
          have jq93 := par_end (par_row' (liesQ_nil w86 (Par w V0.heap.size (wr.heap.size :: []) P)) hW92 (by omega) (by omega)) (by omega)
          have jq94 := par_end (par_row' (liesQ_nil w86 (Par w V0.heap.size (wr.heap.size :: []) P)) hW92 (by omega) (by omega)) (by omega)
          have jq95 := par_end (par_row' (liesQ_nil w86 (Par w V0.heap.size (wr.heap.size :: []) P)) hW92 (by omega) (by omega)) (by omega)
          exact ⟨false, ⟨false, .zero, .zero, .zero, 0⟩, _, _, _, rfl, ⟨zero_fine, zero_fine, zero_fine, by show I64 0; unfold I64; decide⟩, ⟨jq93, jq94, jq95⟩, (fun h => nomatch h), kept_set (kept_trans KB71.out (kept_trans Kk85.out Kk90.out)) hW92 (by omega)⟩
        | true =>
          have kvV0 : Sees V0 (w.heap.size) w86 := sees_kept _ (kept_trans KB72.out (kept_trans Kk85.out Kk90.out))
          have kvW63 : Sees W63 (w.heap.size) w86 := sees_kept _ (kept_trans Kk85.out Kk90.out)
          go_wp2
          go_roundw
          case rel => exact ⟨2, by decide, by decide, by go_num, ⟨fun _ => HVhv25.out.1 (by decide), fun _ => Hhb88.out⟩, (kept_trans Kk26.out (kept_trans KB73.out (kept_trans Kk85.out Kk90.out)))⟩
          case measure => simp [intOf]
      · clear hi0 hi1
        have kvV0 : Sees V0 (w.heap.size) wr := sees_kept _ (kept_trans Kk12.out (kept_trans Kk17.out Kk26.out))
        go_wp2_with fail
        clear kvV0
        refine ((con12tf_any i i2 c u v x u2 v2 x2 (Par w V0.heap.size [] P) wr ((.slice ac c.length cc)) bon oon capon _ _ _ ((.slice au u.kids.length cu)) ((.slice av v.kids.length cv)) ((.slice ax x.kids.length cx)) ((.slice au2 u2.kids.length cu2)) ((.slice av2 v2.kids.length cv2)) ((.slice ax2 x2.kids.length cx2)) (HEc.out.keep (kept_trans Kk4.out (kept_trans Kk12.out (kept_trans Kk17.out Kk26.out)))) Gu.out (HLu.out.later (kept_trans Kk12.out (kept_trans Kk17.out Kk26.out))) Gv.out (HLv.out.later (kept_trans Kk12.out (kept_trans Kk17.out Kk26.out))) Gx.out (HLx.out.later (kept_trans Kk12.out (kept_trans Kk17.out Kk26.out))) Ri.out Gu2.out (HLu2.out.later (kept_trans Kk12.out (kept_trans Kk17.out Kk26.out))) Gv2.out (HLv2.out.later (kept_trans Kk12.out (kept_trans Kk17.out Kk26.out))) Gx2.out (HLx2.out.later (kept_trans Kk12.out (kept_trans Kk17.out Kk26.out))) Ri2.out (blk_at HBon.out (kept_trans Kk12.out (kept_trans Kk17.out Kk26.out))) HSon0.out HSon1.out (pure_range (rightJ_pure (HVhv25.out.2 (by decide)))).1 (pure_range (rightJ_pure (HVhv25.out.2 (by decide)))).2)).mono ?_
        rintro e w97 ⟨s99, s100, s101, rfl, ⟨hl102, hl103, hl104⟩, k98⟩
        obtain ⟨a105, c106, S107, rfl, -⟩ := hl102.out
        obtain ⟨a108, c109, S110, rfl, -⟩ := hl103.out
        obtain ⟨a111, c112, S113, rfl, -⟩ := hl104.out
        have Kk114 := Lib.hid k98
        clear k98
        have Hhl102 : Hid (LiesQ w97 (Par w V0.heap.size [] P) u.kids _) := par_give hl102 (Below.size (kept_trans Kk12.out (kept_trans Kk17.out Kk26.out))) (xlt_nil _)
        have Hhl103 : Hid (LiesQ w97 (Par w V0.heap.size [] P) Tm.zero.kids _) := par_give hl103 (Below.size (kept_trans Kk12.out (kept_trans Kk17.out Kk26.out))) (xlt_nil _)
        have Hhl104 : Hid (LiesQ w97 (Par w V0.heap.size [] P) v2.kids _) := par_give hl104 (Below.size (kept_trans Kk12.out (kept_trans Kk17.out Kk26.out))) (xlt_nil _)
        clear hl102 hl103 hl104
        have kvV0 : Sees V0 (w.heap.size) w97 := sees_kept _ (kept_trans Kk12.out (kept_trans Kk17.out (kept_trans Kk26.out Kk114.out)))
        go_wp2_with (refine stop_store 34 (.tmp 13) (.tmp 52) rfl ?_)
        intro _
        refine wpList_store_part_n (by rfl) 34 (.tmp 13) (.tmp 52) rfl (w97.heap.size) 0 #[.bool false, .int .i64 u.k, .int .i64 u.i, .int .i64 u.j, .int .i64 u.n, (.slice a105 u.kids.length c106), .int .i64 Tm.zero.k, .int .i64 Tm.zero.i, .int .i64 Tm.zero.j, .int .i64 Tm.zero.n, (.slice a108 Tm.zero.kids.length c109), .int .i64 v2.k, .int .i64 v2.i, .int .i64 v2.j, .int .i64 v2.n, (.slice a111 v2.kids.length c112), .int .i64 i] (by rfl) (by rfl) 34 (by kernel_rfl) (row_ok rfl) ?_
        intro W115 hW115
        clear kvV0
        obtain ⟨k118, x117, z119⟩ := alloc1 hW115
        have Kk120 := Lib.hid k118
        clear k118
        have Hx117 := Lib.hid x117
        have Hz119 := Lib.hid z119
        clear x117 z119 hW115
        have HG121 : Hid (V0.heap.size ≤ w97.heap.size) := (Below.size (kept_trans Kk12.out (kept_trans Kk17.out (kept_trans Kk26.out Kk114.out))))
        have XL122 : Hid (XLt (w97.heap.size :: []) W115) := (xlt_more (xlt_nil _) Kk120.out (by have := Hz119.out; omega))
        have HD123 : Hid (wr.heap.size ≤ w97.heap.size) := Below.size Kk114.out
        refine ⟨_, #[.bool false, .int .i64 u.k, .int .i64 u.i, .int .i64 u.j, .int .i64 u.n, (.slice a105 u.kids.length c106), .int .i64 Tm.zero.k, .int .i64 Tm.zero.i, .int .i64 Tm.zero.j, .int .i64 Tm.zero.n, (.slice a108 Tm.zero.kids.length c109), .int .i64 v2.k, .int .i64 v2.i, .int .i64 v2.j, .int .i64 v2.n, (.slice a111 v2.kids.length c112), .int .i64 i], Hx117.out, rfl, Nat.le_of_ble_eq_true rfl, ?_⟩
        intro W116 hW116
        have KB124 := Lib.hid (kept_set (kept_trans Kk4.out (kept_trans Kk12.out (kept_trans Kk17.out (kept_trans Kk26.out (kept_trans Kk114.out Kk120.out))))) hW116 (by have := HG121.out; have := Z0.out; omega))
        have KB125 := Lib.hid (kept_set (kept_trans Kk12.out (kept_trans Kk17.out (kept_trans Kk26.out (kept_trans Kk114.out Kk120.out)))) hW116 HG121.out)
        have KB126 := Lib.hid (kept_set (kept_trans Kk114.out Kk120.out) hW116 HD123.out)
        have HL127 : Hid (LiesQ W116 (Par w V0.heap.size (w97.heap.size :: []) P) u.kids _) := par_set (par_grow Hhl102.out Kk120.out (List.forall_mem_cons.2 ⟨(Or.inr (Nat.le_refl w97.heap.size)), (fun _ h => nomatch h)⟩)) hW116 (List.mem_cons_self ..) (by have := HG121.out; have := Z0.out; omega)
        have HL128 : Hid (LiesQ W116 (Par w V0.heap.size (w97.heap.size :: []) P) Tm.zero.kids _) := par_set (par_grow Hhl103.out Kk120.out (List.forall_mem_cons.2 ⟨(Or.inr (Nat.le_refl w97.heap.size)), (fun _ h => nomatch h)⟩)) hW116 (List.mem_cons_self ..) (by have := HG121.out; have := Z0.out; omega)
        have HL129 : Hid (LiesQ W116 (Par w V0.heap.size (w97.heap.size :: []) P) v2.kids _) := par_set (par_grow Hhl104.out Kk120.out (List.forall_mem_cons.2 ⟨(Or.inr (Nat.le_refl w97.heap.size)), (fun _ h => nomatch h)⟩)) hW116 (List.mem_cons_self ..) (by have := HG121.out; have := Z0.out; omega)
        have HL130 : Hid (LiesQ W116 (Par w V0.heap.size (w97.heap.size :: []) P) u.kids _) := par_set (par_grow HLu.out (kept_trans Kk12.out (kept_trans Kk17.out (kept_trans Kk26.out (kept_trans Kk114.out Kk120.out)))) (List.forall_mem_cons.2 ⟨(Or.inr (Nat.le_trans (Below.size (kept_trans Kk12.out (kept_trans Kk17.out (kept_trans Kk26.out Kk114.out)))) (Nat.le_refl w97.heap.size))), (fun _ h => nomatch h)⟩)) hW116 (List.mem_cons_self ..) (by have := HG121.out; have := Z0.out; omega)
        have HL131 : Hid (LiesQ W116 (Par w V0.heap.size (w97.heap.size :: []) P) v.kids _) := par_set (par_grow HLv.out (kept_trans Kk12.out (kept_trans Kk17.out (kept_trans Kk26.out (kept_trans Kk114.out Kk120.out)))) (List.forall_mem_cons.2 ⟨(Or.inr (Nat.le_trans (Below.size (kept_trans Kk12.out (kept_trans Kk17.out (kept_trans Kk26.out Kk114.out)))) (Nat.le_refl w97.heap.size))), (fun _ h => nomatch h)⟩)) hW116 (List.mem_cons_self ..) (by have := HG121.out; have := Z0.out; omega)
        have HL132 : Hid (LiesQ W116 (Par w V0.heap.size (w97.heap.size :: []) P) x.kids _) := par_set (par_grow HLx.out (kept_trans Kk12.out (kept_trans Kk17.out (kept_trans Kk26.out (kept_trans Kk114.out Kk120.out)))) (List.forall_mem_cons.2 ⟨(Or.inr (Nat.le_trans (Below.size (kept_trans Kk12.out (kept_trans Kk17.out (kept_trans Kk26.out Kk114.out)))) (Nat.le_refl w97.heap.size))), (fun _ h => nomatch h)⟩)) hW116 (List.mem_cons_self ..) (by have := HG121.out; have := Z0.out; omega)
        have HL133 : Hid (LiesQ W116 (Par w V0.heap.size (w97.heap.size :: []) P) u2.kids _) := par_set (par_grow HLu2.out (kept_trans Kk12.out (kept_trans Kk17.out (kept_trans Kk26.out (kept_trans Kk114.out Kk120.out)))) (List.forall_mem_cons.2 ⟨(Or.inr (Nat.le_trans (Below.size (kept_trans Kk12.out (kept_trans Kk17.out (kept_trans Kk26.out Kk114.out)))) (Nat.le_refl w97.heap.size))), (fun _ h => nomatch h)⟩)) hW116 (List.mem_cons_self ..) (by have := HG121.out; have := Z0.out; omega)
        have HL134 : Hid (LiesQ W116 (Par w V0.heap.size (w97.heap.size :: []) P) v2.kids _) := par_set (par_grow HLv2.out (kept_trans Kk12.out (kept_trans Kk17.out (kept_trans Kk26.out (kept_trans Kk114.out Kk120.out)))) (List.forall_mem_cons.2 ⟨(Or.inr (Nat.le_trans (Below.size (kept_trans Kk12.out (kept_trans Kk17.out (kept_trans Kk26.out Kk114.out)))) (Nat.le_refl w97.heap.size))), (fun _ h => nomatch h)⟩)) hW116 (List.mem_cons_self ..) (by have := HG121.out; have := Z0.out; omega)
        have HL135 : Hid (LiesQ W116 (Par w V0.heap.size (w97.heap.size :: []) P) x2.kids _) := par_set (par_grow HLx2.out (kept_trans Kk12.out (kept_trans Kk17.out (kept_trans Kk26.out (kept_trans Kk114.out Kk120.out)))) (List.forall_mem_cons.2 ⟨(Or.inr (Nat.le_trans (Below.size (kept_trans Kk12.out (kept_trans Kk17.out (kept_trans Kk26.out Kk114.out)))) (Nat.le_refl w97.heap.size))), (fun _ h => nomatch h)⟩)) hW116 (List.mem_cons_self ..) (by have := HG121.out; have := Z0.out; omega)
        have XL136 := Lib.hid (xlt_set XL122.out hW116)
        have HX137 := Lib.hid (blk_same Hx117.out hW116)
        clear hW116
        have ld138 := part_cell (r := (w.heap.size)) HX137.out (by have := HG121.out; have := Z0.out; omega) 0 (.bool false) rfl
        have ld139 := part_cell (r := (w.heap.size)) HX137.out (by have := HG121.out; have := Z0.out; omega) 1 (.int .i64 u.k) rfl
        have ld140 := part_cell (r := (w.heap.size)) HX137.out (by have := HG121.out; have := Z0.out; omega) 6 (.int .i64 Tm.zero.k) rfl
        have ld141 := part_cell (r := (w.heap.size)) HX137.out (by have := HG121.out; have := Z0.out; omega) 11 (.int .i64 v2.k) rfl
        have ld142 := part_cell (r := (w.heap.size)) HX137.out (by have := HG121.out; have := Z0.out; omega) 16 (.int .i64 i) rfl
        have kvV0 : Sees V0 (w.heap.size) W116 := sees_kept _ KB125.out
        have kvW116 : Sees W116 (w.heap.size) W116 := sees_kept _ (kept_refl _)
        go_upto_region 14 with fail
        go_wp2_with (refine stop_store 34 (.tmp 8) (.tmp 83) rfl ?_)
        intro _
        refine wpList_store_part_n (by rfl) 34 (.tmp 8) (.tmp 83) rfl (w.heap.size) 0 #[.bool false, .int .i64 0, .int .i64 0, .int .i64 0, .int .i64 0, .slice none 0 0, .int .i64 0, .int .i64 0, .int .i64 0, .int .i64 0, .slice none 0 0, .int .i64 0, .int .i64 0, .int .i64 0, .int .i64 0, .slice none 0 0, .int .i64 0] (by rfl) (by rfl) 34 (by kernel_rfl) (row_ok rfl) ?_
        intro W143 hW143
        clear kvV0
        clear kvW116
        subst hW143
        refine ⟨_, #[.bool false, .int .i64 0, .int .i64 0, .int .i64 0, .int .i64 0, .slice none 0 0, .int .i64 0, .int .i64 0, .int .i64 0, .int .i64 0, .slice none 0 0, .int .i64 0, .int .i64 0, .int .i64 0, .int .i64 0, .slice none 0 0, .int .i64 0], (blk_at Hx1.out KB125.out), rfl, Nat.le_of_ble_eq_true rfl, ?_⟩
        intro W144 hW144
        go_wp2_with fail
        (try simp only [Exit.inBlock, Exit.then])
        refine bodyPost_ret (results_cell_tmp rfl _ _ (w.heap.size) 34 _ _ dj rfl (blk_same (blk_at Hx1.out KB125.out) hW144) dj1 (by cases dj <;> first | rfl | exact dj2) (by kernel_rfl)) rfl ?_
        have jz148 := Z0.out
        have jq145 := par_end (par_row' (liesQ_nil W116 (Par w V0.heap.size (w97.heap.size :: []) P)) hW144 (by omega) (by omega)) (by omega)
        have jq146 := par_end (par_row' (liesQ_nil W116 (Par w V0.heap.size (w97.heap.size :: []) P)) hW144 (by omega) (by omega)) (by omega)
        have jq147 := par_end (par_row' (liesQ_nil W116 (Par w V0.heap.size (w97.heap.size :: []) P)) hW144 (by omega) (by omega)) (by omega)
        exact ⟨false, ⟨false, .zero, .zero, .zero, 0⟩, _, _, _, rfl, ⟨zero_fine, zero_fine, zero_fine, by show I64 0; unfold I64; decide⟩, ⟨jq145, jq146, jq147⟩, (fun h => nomatch h), kept_set KB124.out hW144 (by omega)⟩

set_option maxRecDepth 20000 in
set_option maxHeartbeats 4000000 in
theorem of12tt_any (i : Int) (i2 : Int) (c : List En) (u : Tm) (v : Tm) (x : Tm) (u2 : Tm) (v2 : Tm) (x2 : Tm) (P : Nat → Prop) (w : World) (sc : Value) (bon oon capon : Nat) (Con : Array Value) (Ton : TypeId) (fron : Nat × Nat) (su : Value) (sv : Value) (sx : Value) (su2 : Value) (sv2 : Value) (sx2 : Value) (hlc : LiesE w c sc) (hfu : u.fine) (hlu : LiesQ w P u.kids su) (hfv : v.fine) (hlv : LiesQ w P v.kids sv) (hfx : x.fine) (hlx : LiesQ w P x.kids sx) (hri : I64 i) (hfu2 : u2.fine) (hlu2 : LiesQ w P u2.kids su2) (hfv2 : v2.fine) (hlv2 : LiesQ w P v2.kids sv2) (hfx2 : x2.fine) (hlx2 : LiesQ w P x2.kids sx2) (hri2 : I64 i2) (hbon : w.heap[bon]? = some (.cells Con Ton fron)) (hson0 : (Con.toList.drop oon).take 17 = [.bool true, .int .i64 u.k, .int .i64 u.i, .int .i64 u.j, .int .i64 u.n, su, .int .i64 v.k, .int .i64 v.i, .int .i64 v.j, .int .i64 v.n, sv, .int .i64 x.k, .int .i64 x.i, .int .i64 x.j, .int .i64 x.n, sx, .int .i64 i]) (hson1 : (Con.toList.drop (oon + 17)).take 17 = [.bool true, .int .i64 u2.k, .int .i64 u2.i, .int .i64 u2.j, .int .i64 u2.n, su2, .int .i64 v2.k, .int .i64 v2.i, .int .i64 v2.j, .int .i64 v2.n, sv2, .int .i64 x2.k, .int .i64 x2.i, .int .i64 x2.j, .int .i64 x2.n, sx2, .int .i64 i2]) (hlen : c.length ≤ 100000) (hzu : u.size ≤ 1000000) (hzv : v2.size ≤ 1000000) : Calls Try.prog 12 #[sc, .int .i64 12, .int .i64 0, .slice (some ⟨bon, oon, none⟩) 2 capon] w (GivesOn P ⟨false, u, .zero, v2, i⟩ w) := by
  have HEc := Lib.hid hlc
  obtain ⟨ac, cc, Sc, rfl, -⟩ := hlc.out
  clear hlc
  have Gu := Lib.hid hfu
  clear hfu
  obtain ⟨au, cu, Su, rfl, -⟩ := hlu.out
  have Gv := Lib.hid hfv
  clear hfv
  obtain ⟨av, cv, Sv, rfl, -⟩ := hlv.out
  have Gx := Lib.hid hfx
  clear hfx
  obtain ⟨ax, cx, Sx, rfl, -⟩ := hlx.out
  have Ri := Lib.hid hri
  clear hri
  have Gu2 := Lib.hid hfu2
  clear hfu2
  obtain ⟨au2, cu2, Su2, rfl, -⟩ := hlu2.out
  have Gv2 := Lib.hid hfv2
  clear hfv2
  obtain ⟨av2, cv2, Sv2, rfl, -⟩ := hlv2.out
  have Gx2 := Lib.hid hfx2
  clear hfx2
  obtain ⟨ax2, cx2, Sx2, rfl, -⟩ := hlx2.out
  have Ri2 := Lib.hid hri2
  clear hri2
  have HNon : Hid (bon < w.heap.size) := block_lt hbon
  have HBon := Lib.hid hbon
  have HSon0 := Lib.hid hson0
  have HSon1 := Lib.hid hson1
  clear hbon hson0 hson1
  have HRN := Lib.hid (show I64 (c.length : Int) by unfold I64; omega)
  have HZU := Lib.hid hzu
  have HZV := Lib.hid hzv
  clear hzu hzv
  obtain ⟨dj, dj1, dj2⟩ := under_of 34 (by kernel_rfl)
  obtain ⟨du, hu1, hu2⟩ := under_term
  go_enter Try.func12, Try.ntmps12
  go_upto_region 1 with fail
  refine at_code (fun V0 hV0 => ?_)
  obtain ⟨k2, x1, z3⟩ := alloc1 hV0
  have Kk4 := Lib.hid k2
  clear k2
  have Hx1 := Lib.hid x1
  have Z0 := Lib.hid z3
  clear z3 x1 hV0
  have HLu : Hid (LiesQ V0 (Par w V0.heap.size [] P) u.kids _) := (par_in _ _ hlu).later Kk4.out
  clear hlu
  have HLv : Hid (LiesQ V0 (Par w V0.heap.size [] P) v.kids _) := (par_in _ _ hlv).later Kk4.out
  clear hlv
  have HLx : Hid (LiesQ V0 (Par w V0.heap.size [] P) x.kids _) := (par_in _ _ hlx).later Kk4.out
  clear hlx
  have HLu2 : Hid (LiesQ V0 (Par w V0.heap.size [] P) u2.kids _) := (par_in _ _ hlu2).later Kk4.out
  clear hlu2
  have HLv2 : Hid (LiesQ V0 (Par w V0.heap.size [] P) v2.kids _) := (par_in _ _ hlv2).later Kk4.out
  clear hlv2
  have HLx2 : Hid (LiesQ V0 (Par w V0.heap.size [] P) x2.kids _) := (par_in _ _ hlx2).later Kk4.out
  clear hlx2
  have HBon := Lib.hid (blk_at HBon.out Kk4.out)
  have ld5 := part_cell (r := (w.heap.size)) HBon.out (by have := HNon.out; have := Z0.out; omega) (oon) (.bool true) (row_cellW HSon0.out 0 (by decide))
  have ld6 := part_cell (r := (w.heap.size)) HBon.out (by have := HNon.out; have := Z0.out; omega) (oon + 16) (.int .i64 i) (row_cellW HSon0.out 16 (by decide))
  have ld7 := part_cell (r := (w.heap.size)) HBon.out (by have := HNon.out; have := Z0.out; omega) (oon + 17) (.bool true) (row_cellW HSon1.out 0 (by decide))
  have ld8 := part_cell (r := (w.heap.size)) HBon.out (by have := HNon.out; have := Z0.out; omega) (oon + 17 + 16) (.int .i64 i2) (row_cellW HSon1.out 16 (by decide))
  have kvV0 : Sees V0 (w.heap.size) V0 := sees_kept _ (kept_refl _)
  go_wp2_with fail
  clear kvV0
  have hq11 := kidsK 12 V0
  rw [show Dv.dkidsN 12 = 2 from by decide] at hq11
  refine hq11.mono ?_
  clear hq11
  rintro e w9 ⟨rfl, k10⟩
  have Kk12 := Lib.hid k10
  clear k10
  have kvV0 : Sees V0 (w.heap.size) w9 := sees_kept _ Kk12.out
  go_wp2_with fail
  clear kvV0
  refine (rulepure_any c w9 _ (HEc.out.keep (kept_trans Kk4.out Kk12.out))).mono ?_
  obtain ⟨rb16, hb15⟩ : ∃ qb, (purC c) = qb := ⟨_, rfl⟩
  rw [hb15]
  have Hhb15 := Lib.hid hb15
  clear hb15
  rintro e w13 ⟨rfl, k14⟩
  have Kk17 := Lib.hid k14
  clear k14
  cases rb16 with
  | false =>
    have kvV0 : Sees V0 (w.heap.size) w13 := sees_kept _ (kept_trans Kk12.out Kk17.out)
    go_upto_region 2 with fail
    go_wp2_with (refine stop_store 34 (.tmp 8) (.tmp 25) rfl ?_)
    intro _
    refine wpList_store_part_n (by rfl) 34 (.tmp 8) (.tmp 25) rfl (w.heap.size) 0 #[.bool false, .int .i64 0, .int .i64 0, .int .i64 0, .int .i64 0, .slice none 0 0, .int .i64 0, .int .i64 0, .int .i64 0, .int .i64 0, .slice none 0 0, .int .i64 0, .int .i64 0, .int .i64 0, .int .i64 0, .slice none 0 0, .int .i64 0] (by rfl) (by rfl) 34 (by kernel_rfl) (row_ok rfl) ?_
    intro W18 hW18
    clear kvV0
    subst hW18
    refine ⟨_, #[.bool false, .int .i64 0, .int .i64 0, .int .i64 0, .int .i64 0, .slice none 0 0, .int .i64 0, .int .i64 0, .int .i64 0, .int .i64 0, .slice none 0 0, .int .i64 0, .int .i64 0, .int .i64 0, .int .i64 0, .slice none 0 0, .int .i64 0], (blk_at Hx1.out (kept_trans Kk12.out Kk17.out)), rfl, Nat.le_of_ble_eq_true rfl, ?_⟩
    intro W19 hW19
    go_wp2_with fail
    (try simp only [Exit.inBlock, Exit.then])
    refine bodyPost_ret (results_cell_tmp rfl _ _ (w.heap.size) 34 _ _ dj rfl (blk_same (blk_at Hx1.out (kept_trans Kk12.out Kk17.out)) hW19) dj1 (by cases dj <;> first | rfl | exact dj2) (by kernel_rfl)) rfl ?_
    have jz23 := Z0.out
    have jq20 := par_end (par_row' (liesQ_nil w13 (Par w V0.heap.size [] P)) hW19 (by omega) (by omega)) (by omega)
    have jq21 := par_end (par_row' (liesQ_nil w13 (Par w V0.heap.size [] P)) hW19 (by omega) (by omega)) (by omega)
    have jq22 := par_end (par_row' (liesQ_nil w13 (Par w V0.heap.size [] P)) hW19 (by omega) (by omega)) (by omega)
    exact ⟨false, ⟨false, .zero, .zero, .zero, 0⟩, _, _, _, rfl, ⟨zero_fine, zero_fine, zero_fine, by show I64 0; unfold I64; decide⟩, ⟨jq20, jq21, jq22⟩, (fun h => nomatch h), kept_set (kept_trans Kk4.out (kept_trans Kk12.out Kk17.out)) hW19 (by omega)⟩
  | true =>
    have kvV0 : Sees V0 (w.heap.size) w13 := sees_kept _ (kept_trans Kk12.out Kk17.out)
    go_wp2_with fail
    clear kvV0
    go_loopw [28] (fun iv wr => ∃ qi : Int, 0 ≤ qi ∧ qi ≤ 2 ∧ iv = .int .i64 qi ∧ Hid ((1 ≤ qi → rightJ (⟨true, u, v, x, i⟩ : Jd) (c.length : Int) = true) ∧ (2 ≤ qi → rightJ (⟨true, u2, v2, x2, i2⟩ : Jd) (c.length : Int) = true)) ∧ Kept w13 wr) (fun iv _ => 2 - (intOf iv).toNat)
    case atStart => exact ⟨0, by decide, by decide, rfl, ⟨(fun h => absurd h (by decide)), (fun h => absurd h (by decide))⟩, kept_refl _⟩
    case round =>
      obtain ⟨qi, hi0, hi1, rfl, hv25, k24⟩ := hrel
      have Kk26 := Lib.hid k24
      clear k24
      have HVhv25 := Lib.hid hv25.out
      clear hv25
      obtain rfl | rfl | rfl : qi = 0 ∨ qi = 1 ∨ qi = 2 := by omega
      · clear hi0 hi1
        have kvV0 : Sees V0 (w.heap.size) wr := sees_kept _ (kept_trans Kk12.out (kept_trans Kk17.out Kk26.out))
        go_wp2_with (refine stop_load 34 (.tmp 31) rfl ?_)
        intro _
        refine wpList_load_part (bon) (oon) 34 (.tmp 31) #[.bool true, .int .i64 u.k, .int .i64 u.i, .int .i64 u.j, .int .i64 u.n, (.slice au u.kids.length cu), .int .i64 v.k, .int .i64 v.i, .int .i64 v.j, .int .i64 v.n, (.slice av v.kids.length cv), .int .i64 x.k, .int .i64 x.i, .int .i64 x.j, .int .i64 x.n, (.slice ax x.kids.length cx), .int .i64 i] dj (blk_at HBon.out (kept_trans Kk12.out (kept_trans Kk17.out Kk26.out))) (by rfl) rfl (by rfl) (row_subW HSon0.out 0 17 (by decide)) dj1 (by cases dj <;> first | rfl | exact dj2) (by kernel_rfl) ?_
        go_wp2_with (refine stop_store 34 (.tmp 11) (.tmp 32) rfl ?_)
        intro _
        refine wpList_store_part_n (by rfl) 34 (.tmp 11) (.tmp 32) rfl (wr.heap.size) 0 #[.bool true, .int .i64 u.k, .int .i64 u.i, .int .i64 u.j, .int .i64 u.n, (.slice au u.kids.length cu), .int .i64 v.k, .int .i64 v.i, .int .i64 v.j, .int .i64 v.n, (.slice av v.kids.length cv), .int .i64 x.k, .int .i64 x.i, .int .i64 x.j, .int .i64 x.n, (.slice ax x.kids.length cx), .int .i64 i] (by rfl) (by rfl) 34 (by kernel_rfl) (row_ok rfl) ?_
        intro W27 hW27
        clear kvV0
        obtain ⟨k30, x29, z31⟩ := alloc1 hW27
        have Kk32 := Lib.hid k30
        clear k30
        have Hx29 := Lib.hid x29
        have Hz31 := Lib.hid z31
        clear x29 z31 hW27
        have HG33 : Hid (V0.heap.size ≤ wr.heap.size) := (Below.size (kept_trans Kk12.out (kept_trans Kk17.out Kk26.out)))
        have XL34 : Hid (XLt (wr.heap.size :: []) W27) := (xlt_more (xlt_nil _) Kk32.out (by have := Hz31.out; omega))
        have HD35 : Hid (wr.heap.size ≤ wr.heap.size) := Below.size (kept_refl _)
        refine ⟨_, #[.bool true, .int .i64 u.k, .int .i64 u.i, .int .i64 u.j, .int .i64 u.n, (.slice au u.kids.length cu), .int .i64 v.k, .int .i64 v.i, .int .i64 v.j, .int .i64 v.n, (.slice av v.kids.length cv), .int .i64 x.k, .int .i64 x.i, .int .i64 x.j, .int .i64 x.n, (.slice ax x.kids.length cx), .int .i64 i], Hx29.out, rfl, Nat.le_of_ble_eq_true rfl, ?_⟩
        intro W28 hW28
        have KB36 := Lib.hid (kept_set (kept_trans Kk4.out (kept_trans Kk12.out (kept_trans Kk17.out (kept_trans Kk26.out Kk32.out)))) hW28 (by have := HG33.out; have := Z0.out; omega))
        have KB37 := Lib.hid (kept_set (kept_trans Kk12.out (kept_trans Kk17.out (kept_trans Kk26.out Kk32.out))) hW28 HG33.out)
        have KB38 := Lib.hid (kept_set Kk32.out hW28 HD35.out)
        have HL39 : Hid (LiesQ W28 (Par w V0.heap.size (wr.heap.size :: []) P) u.kids _) := par_set (par_grow HLu.out (kept_trans Kk12.out (kept_trans Kk17.out (kept_trans Kk26.out Kk32.out))) (List.forall_mem_cons.2 ⟨(Or.inr (Nat.le_trans (Below.size (kept_trans Kk12.out (kept_trans Kk17.out Kk26.out))) (Nat.le_refl wr.heap.size))), (fun _ h => nomatch h)⟩)) hW28 (List.mem_cons_self ..) (by have := HG33.out; have := Z0.out; omega)
        have HL40 : Hid (LiesQ W28 (Par w V0.heap.size (wr.heap.size :: []) P) v.kids _) := par_set (par_grow HLv.out (kept_trans Kk12.out (kept_trans Kk17.out (kept_trans Kk26.out Kk32.out))) (List.forall_mem_cons.2 ⟨(Or.inr (Nat.le_trans (Below.size (kept_trans Kk12.out (kept_trans Kk17.out Kk26.out))) (Nat.le_refl wr.heap.size))), (fun _ h => nomatch h)⟩)) hW28 (List.mem_cons_self ..) (by have := HG33.out; have := Z0.out; omega)
        have HL41 : Hid (LiesQ W28 (Par w V0.heap.size (wr.heap.size :: []) P) x.kids _) := par_set (par_grow HLx.out (kept_trans Kk12.out (kept_trans Kk17.out (kept_trans Kk26.out Kk32.out))) (List.forall_mem_cons.2 ⟨(Or.inr (Nat.le_trans (Below.size (kept_trans Kk12.out (kept_trans Kk17.out Kk26.out))) (Nat.le_refl wr.heap.size))), (fun _ h => nomatch h)⟩)) hW28 (List.mem_cons_self ..) (by have := HG33.out; have := Z0.out; omega)
        have HL42 : Hid (LiesQ W28 (Par w V0.heap.size (wr.heap.size :: []) P) u2.kids _) := par_set (par_grow HLu2.out (kept_trans Kk12.out (kept_trans Kk17.out (kept_trans Kk26.out Kk32.out))) (List.forall_mem_cons.2 ⟨(Or.inr (Nat.le_trans (Below.size (kept_trans Kk12.out (kept_trans Kk17.out Kk26.out))) (Nat.le_refl wr.heap.size))), (fun _ h => nomatch h)⟩)) hW28 (List.mem_cons_self ..) (by have := HG33.out; have := Z0.out; omega)
        have HL43 : Hid (LiesQ W28 (Par w V0.heap.size (wr.heap.size :: []) P) v2.kids _) := par_set (par_grow HLv2.out (kept_trans Kk12.out (kept_trans Kk17.out (kept_trans Kk26.out Kk32.out))) (List.forall_mem_cons.2 ⟨(Or.inr (Nat.le_trans (Below.size (kept_trans Kk12.out (kept_trans Kk17.out Kk26.out))) (Nat.le_refl wr.heap.size))), (fun _ h => nomatch h)⟩)) hW28 (List.mem_cons_self ..) (by have := HG33.out; have := Z0.out; omega)
        have HL44 : Hid (LiesQ W28 (Par w V0.heap.size (wr.heap.size :: []) P) x2.kids _) := par_set (par_grow HLx2.out (kept_trans Kk12.out (kept_trans Kk17.out (kept_trans Kk26.out Kk32.out))) (List.forall_mem_cons.2 ⟨(Or.inr (Nat.le_trans (Below.size (kept_trans Kk12.out (kept_trans Kk17.out Kk26.out))) (Nat.le_refl wr.heap.size))), (fun _ h => nomatch h)⟩)) hW28 (List.mem_cons_self ..) (by have := HG33.out; have := Z0.out; omega)
        have XL45 := Lib.hid (xlt_set XL34.out hW28)
        have HX46 := Lib.hid (blk_same Hx29.out hW28)
        clear hW28
        have kvV0 : Sees V0 (w.heap.size) W28 := sees_kept _ KB37.out
        have kvW28 : Sees W28 (w.heap.size) W28 := sees_kept _ (kept_refl _)
        go_wp2_with fail
        clear kvV0
        clear kvW28
        have hq49 := innerK 12 0 W28
        rw [show Dv.innerB 12 0 = false from by decide] at hq49
        refine hq49.mono ?_
        clear hq49
        rintro e w47 ⟨rfl, k48⟩
        have Kk50 := Lib.hid k48
        clear k48
        have kvV0 : Sees V0 (w.heap.size) w47 := sees_kept _ (kept_trans KB37.out Kk50.out)
        have kvW28 : Sees W28 (w.heap.size) w47 := sees_kept _ Kk50.out
        go_wp2_with (refine stop_load 34 (.tmp 11) rfl ?_)
        intro _
        refine wpList_load_part (wr.heap.size) (0) 34 (.tmp 11) #[.bool true, .int .i64 u.k, .int .i64 u.i, .int .i64 u.j, .int .i64 u.n, (.slice au u.kids.length cu), .int .i64 v.k, .int .i64 v.i, .int .i64 v.j, .int .i64 v.n, (.slice av v.kids.length cv), .int .i64 x.k, .int .i64 x.i, .int .i64 x.j, .int .i64 x.n, (.slice ax x.kids.length cx), .int .i64 i] dj (blk_at HX46.out Kk50.out) (by rfl) rfl (by rfl) (by rfl) dj1 (by cases dj <;> first | rfl | exact dj2) (by kernel_rfl) ?_
        go_wp2_with fail
        clear kvV0
        clear kvW28
        refine (rright1_any (c.length : Int) i u v x (Par w V0.heap.size (wr.heap.size :: []) P) w47 ((.slice au u.kids.length cu)) ((.slice av v.kids.length cv)) ((.slice ax x.kids.length cx)) Gu.out (HL39.out.later Kk50.out) Gv.out (HL40.out.later Kk50.out) Gx.out (HL41.out.later Kk50.out) Ri.out HRN.out).mono ?_
        obtain ⟨rb54, hb53⟩ : ∃ qb, (rightJ (⟨true, u, v, x, i⟩ : Jd) (c.length : Int)) = qb := ⟨_, rfl⟩
        rw [hb53]
        have Hhb53 := Lib.hid hb53
        clear hb53
        rintro e w51 ⟨rfl, k52⟩
        have Kk55 := Lib.hid k52
        clear k52
        cases rb54 with
        | false =>
          have kvV0 : Sees V0 (w.heap.size) w51 := sees_kept _ (kept_trans KB37.out (kept_trans Kk50.out Kk55.out))
          have kvW28 : Sees W28 (w.heap.size) w51 := sees_kept _ (kept_trans Kk50.out Kk55.out)
          go_upto_region 10 with fail
          go_wp2_with (refine stop_store 34 (.tmp 8) (.tmp 44) rfl ?_)
          intro _
          refine wpList_store_part_n (by rfl) 34 (.tmp 8) (.tmp 44) rfl (w.heap.size) 0 #[.bool false, .int .i64 0, .int .i64 0, .int .i64 0, .int .i64 0, .slice none 0 0, .int .i64 0, .int .i64 0, .int .i64 0, .int .i64 0, .slice none 0 0, .int .i64 0, .int .i64 0, .int .i64 0, .int .i64 0, .slice none 0 0, .int .i64 0] (by rfl) (by rfl) 34 (by kernel_rfl) (row_ok rfl) ?_
          intro W56 hW56
          clear kvV0
          clear kvW28
          subst hW56
          refine ⟨_, #[.bool false, .int .i64 0, .int .i64 0, .int .i64 0, .int .i64 0, .slice none 0 0, .int .i64 0, .int .i64 0, .int .i64 0, .int .i64 0, .slice none 0 0, .int .i64 0, .int .i64 0, .int .i64 0, .int .i64 0, .slice none 0 0, .int .i64 0], (blk_at Hx1.out (kept_trans KB37.out (kept_trans Kk50.out Kk55.out))), rfl, Nat.le_of_ble_eq_true rfl, ?_⟩
          intro W57 hW57
          go_wp2_with fail
          (try simp only [Exit.inBlock, Exit.then])
          refine bodyPost_ret (results_cell_tmp rfl _ _ (w.heap.size) 34 _ _ dj rfl (blk_same (blk_at Hx1.out (kept_trans KB37.out (kept_trans Kk50.out Kk55.out))) hW57) dj1 (by cases dj <;> first | rfl | exact dj2) (by kernel_rfl)) rfl ?_
          have jz61 := Z0.out
          have jq58 := par_end (par_row' (liesQ_nil w51 (Par w V0.heap.size (wr.heap.size :: []) P)) hW57 (by omega) (by omega)) (by omega)
          have jq59 := par_end (par_row' (liesQ_nil w51 (Par w V0.heap.size (wr.heap.size :: []) P)) hW57 (by omega) (by omega)) (by omega)
          have jq60 := par_end (par_row' (liesQ_nil w51 (Par w V0.heap.size (wr.heap.size :: []) P)) hW57 (by omega) (by omega)) (by omega)
          exact ⟨false, ⟨false, .zero, .zero, .zero, 0⟩, _, _, _, rfl, ⟨zero_fine, zero_fine, zero_fine, by show I64 0; unfold I64; decide⟩, ⟨jq58, jq59, jq60⟩, (fun h => nomatch h), kept_set (kept_trans KB36.out (kept_trans Kk50.out Kk55.out)) hW57 (by omega)⟩
        | true =>
          have kvV0 : Sees V0 (w.heap.size) w51 := sees_kept _ (kept_trans KB37.out (kept_trans Kk50.out Kk55.out))
          have kvW28 : Sees W28 (w.heap.size) w51 := sees_kept _ (kept_trans Kk50.out Kk55.out)
          go_wp2
          go_roundw
          case rel => exact ⟨1, by decide, by decide, by go_num, ⟨fun _ => Hhb53.out, (fun h => absurd h (by decide))⟩, (kept_trans Kk26.out (kept_trans KB38.out (kept_trans Kk50.out Kk55.out)))⟩
          case measure => simp [intOf]
      · clear hi0 hi1
        have kvV0 : Sees V0 (w.heap.size) wr := sees_kept _ (kept_trans Kk12.out (kept_trans Kk17.out Kk26.out))
        go_wp2_with (refine stop_load 34 (.tmp 31) rfl ?_)
        intro _
        refine wpList_load_part (bon) (oon + 17) 34 (.tmp 31) #[.bool true, .int .i64 u2.k, .int .i64 u2.i, .int .i64 u2.j, .int .i64 u2.n, (.slice au2 u2.kids.length cu2), .int .i64 v2.k, .int .i64 v2.i, .int .i64 v2.j, .int .i64 v2.n, (.slice av2 v2.kids.length cv2), .int .i64 x2.k, .int .i64 x2.i, .int .i64 x2.j, .int .i64 x2.n, (.slice ax2 x2.kids.length cx2), .int .i64 i2] dj (blk_at HBon.out (kept_trans Kk12.out (kept_trans Kk17.out Kk26.out))) (by rfl) rfl (by rfl) (row_subW HSon1.out 0 17 (by decide)) dj1 (by cases dj <;> first | rfl | exact dj2) (by kernel_rfl) ?_
        go_wp2_with (refine stop_store 34 (.tmp 11) (.tmp 32) rfl ?_)
        intro _
        refine wpList_store_part_n (by rfl) 34 (.tmp 11) (.tmp 32) rfl (wr.heap.size) 0 #[.bool true, .int .i64 u2.k, .int .i64 u2.i, .int .i64 u2.j, .int .i64 u2.n, (.slice au2 u2.kids.length cu2), .int .i64 v2.k, .int .i64 v2.i, .int .i64 v2.j, .int .i64 v2.n, (.slice av2 v2.kids.length cv2), .int .i64 x2.k, .int .i64 x2.i, .int .i64 x2.j, .int .i64 x2.n, (.slice ax2 x2.kids.length cx2), .int .i64 i2] (by rfl) (by rfl) 34 (by kernel_rfl) (row_ok rfl) ?_
        intro W62 hW62
        clear kvV0
        obtain ⟨k65, x64, z66⟩ := alloc1 hW62
        have Kk67 := Lib.hid k65
        clear k65
        have Hx64 := Lib.hid x64
        have Hz66 := Lib.hid z66
        clear x64 z66 hW62
        have HG68 : Hid (V0.heap.size ≤ wr.heap.size) := (Below.size (kept_trans Kk12.out (kept_trans Kk17.out Kk26.out)))
        have XL69 : Hid (XLt (wr.heap.size :: []) W62) := (xlt_more (xlt_nil _) Kk67.out (by have := Hz66.out; omega))
        have HD70 : Hid (wr.heap.size ≤ wr.heap.size) := Below.size (kept_refl _)
        refine ⟨_, #[.bool true, .int .i64 u2.k, .int .i64 u2.i, .int .i64 u2.j, .int .i64 u2.n, (.slice au2 u2.kids.length cu2), .int .i64 v2.k, .int .i64 v2.i, .int .i64 v2.j, .int .i64 v2.n, (.slice av2 v2.kids.length cv2), .int .i64 x2.k, .int .i64 x2.i, .int .i64 x2.j, .int .i64 x2.n, (.slice ax2 x2.kids.length cx2), .int .i64 i2], Hx64.out, rfl, Nat.le_of_ble_eq_true rfl, ?_⟩
        intro W63 hW63
        have KB71 := Lib.hid (kept_set (kept_trans Kk4.out (kept_trans Kk12.out (kept_trans Kk17.out (kept_trans Kk26.out Kk67.out)))) hW63 (by have := HG68.out; have := Z0.out; omega))
        have KB72 := Lib.hid (kept_set (kept_trans Kk12.out (kept_trans Kk17.out (kept_trans Kk26.out Kk67.out))) hW63 HG68.out)
        have KB73 := Lib.hid (kept_set Kk67.out hW63 HD70.out)
        have HL74 : Hid (LiesQ W63 (Par w V0.heap.size (wr.heap.size :: []) P) u2.kids _) := par_set (par_grow HLu2.out (kept_trans Kk12.out (kept_trans Kk17.out (kept_trans Kk26.out Kk67.out))) (List.forall_mem_cons.2 ⟨(Or.inr (Nat.le_trans (Below.size (kept_trans Kk12.out (kept_trans Kk17.out Kk26.out))) (Nat.le_refl wr.heap.size))), (fun _ h => nomatch h)⟩)) hW63 (List.mem_cons_self ..) (by have := HG68.out; have := Z0.out; omega)
        have HL75 : Hid (LiesQ W63 (Par w V0.heap.size (wr.heap.size :: []) P) v2.kids _) := par_set (par_grow HLv2.out (kept_trans Kk12.out (kept_trans Kk17.out (kept_trans Kk26.out Kk67.out))) (List.forall_mem_cons.2 ⟨(Or.inr (Nat.le_trans (Below.size (kept_trans Kk12.out (kept_trans Kk17.out Kk26.out))) (Nat.le_refl wr.heap.size))), (fun _ h => nomatch h)⟩)) hW63 (List.mem_cons_self ..) (by have := HG68.out; have := Z0.out; omega)
        have HL76 : Hid (LiesQ W63 (Par w V0.heap.size (wr.heap.size :: []) P) x2.kids _) := par_set (par_grow HLx2.out (kept_trans Kk12.out (kept_trans Kk17.out (kept_trans Kk26.out Kk67.out))) (List.forall_mem_cons.2 ⟨(Or.inr (Nat.le_trans (Below.size (kept_trans Kk12.out (kept_trans Kk17.out Kk26.out))) (Nat.le_refl wr.heap.size))), (fun _ h => nomatch h)⟩)) hW63 (List.mem_cons_self ..) (by have := HG68.out; have := Z0.out; omega)
        have HL77 : Hid (LiesQ W63 (Par w V0.heap.size (wr.heap.size :: []) P) u.kids _) := par_set (par_grow HLu.out (kept_trans Kk12.out (kept_trans Kk17.out (kept_trans Kk26.out Kk67.out))) (List.forall_mem_cons.2 ⟨(Or.inr (Nat.le_trans (Below.size (kept_trans Kk12.out (kept_trans Kk17.out Kk26.out))) (Nat.le_refl wr.heap.size))), (fun _ h => nomatch h)⟩)) hW63 (List.mem_cons_self ..) (by have := HG68.out; have := Z0.out; omega)
        have HL78 : Hid (LiesQ W63 (Par w V0.heap.size (wr.heap.size :: []) P) v.kids _) := par_set (par_grow HLv.out (kept_trans Kk12.out (kept_trans Kk17.out (kept_trans Kk26.out Kk67.out))) (List.forall_mem_cons.2 ⟨(Or.inr (Nat.le_trans (Below.size (kept_trans Kk12.out (kept_trans Kk17.out Kk26.out))) (Nat.le_refl wr.heap.size))), (fun _ h => nomatch h)⟩)) hW63 (List.mem_cons_self ..) (by have := HG68.out; have := Z0.out; omega)
        have HL79 : Hid (LiesQ W63 (Par w V0.heap.size (wr.heap.size :: []) P) x.kids _) := par_set (par_grow HLx.out (kept_trans Kk12.out (kept_trans Kk17.out (kept_trans Kk26.out Kk67.out))) (List.forall_mem_cons.2 ⟨(Or.inr (Nat.le_trans (Below.size (kept_trans Kk12.out (kept_trans Kk17.out Kk26.out))) (Nat.le_refl wr.heap.size))), (fun _ h => nomatch h)⟩)) hW63 (List.mem_cons_self ..) (by have := HG68.out; have := Z0.out; omega)
        have XL80 := Lib.hid (xlt_set XL69.out hW63)
        have HX81 := Lib.hid (blk_same Hx64.out hW63)
        clear hW63
        have kvV0 : Sees V0 (w.heap.size) W63 := sees_kept _ KB72.out
        have kvW63 : Sees W63 (w.heap.size) W63 := sees_kept _ (kept_refl _)
        go_wp2_with fail
        clear kvV0
        clear kvW63
        have hq84 := innerK 12 1 W63
        rw [show Dv.innerB 12 1 = false from by decide] at hq84
        refine hq84.mono ?_
        clear hq84
        rintro e w82 ⟨rfl, k83⟩
        have Kk85 := Lib.hid k83
        clear k83
        have kvV0 : Sees V0 (w.heap.size) w82 := sees_kept _ (kept_trans KB72.out Kk85.out)
        have kvW63 : Sees W63 (w.heap.size) w82 := sees_kept _ Kk85.out
        go_wp2_with (refine stop_load 34 (.tmp 11) rfl ?_)
        intro _
        refine wpList_load_part (wr.heap.size) (0) 34 (.tmp 11) #[.bool true, .int .i64 u2.k, .int .i64 u2.i, .int .i64 u2.j, .int .i64 u2.n, (.slice au2 u2.kids.length cu2), .int .i64 v2.k, .int .i64 v2.i, .int .i64 v2.j, .int .i64 v2.n, (.slice av2 v2.kids.length cv2), .int .i64 x2.k, .int .i64 x2.i, .int .i64 x2.j, .int .i64 x2.n, (.slice ax2 x2.kids.length cx2), .int .i64 i2] dj (blk_at HX81.out Kk85.out) (by rfl) rfl (by rfl) (by rfl) dj1 (by cases dj <;> first | rfl | exact dj2) (by kernel_rfl) ?_
        go_wp2_with fail
        clear kvV0
        clear kvW63
        refine (rright1_any (c.length : Int) i2 u2 v2 x2 (Par w V0.heap.size (wr.heap.size :: []) P) w82 ((.slice au2 u2.kids.length cu2)) ((.slice av2 v2.kids.length cv2)) ((.slice ax2 x2.kids.length cx2)) Gu2.out (HL74.out.later Kk85.out) Gv2.out (HL75.out.later Kk85.out) Gx2.out (HL76.out.later Kk85.out) Ri2.out HRN.out).mono ?_
        obtain ⟨rb89, hb88⟩ : ∃ qb, (rightJ (⟨true, u2, v2, x2, i2⟩ : Jd) (c.length : Int)) = qb := ⟨_, rfl⟩
        rw [hb88]
        have Hhb88 := Lib.hid hb88
        clear hb88
        rintro e w86 ⟨rfl, k87⟩
        have Kk90 := Lib.hid k87
        clear k87
        cases rb89 with
        | false =>
          have kvV0 : Sees V0 (w.heap.size) w86 := sees_kept _ (kept_trans KB72.out (kept_trans Kk85.out Kk90.out))
          have kvW63 : Sees W63 (w.heap.size) w86 := sees_kept _ (kept_trans Kk85.out Kk90.out)
          go_upto_region 10 with fail
          go_wp2_with (refine stop_store 34 (.tmp 8) (.tmp 44) rfl ?_)
          intro _
          refine wpList_store_part_n (by rfl) 34 (.tmp 8) (.tmp 44) rfl (w.heap.size) 0 #[.bool false, .int .i64 0, .int .i64 0, .int .i64 0, .int .i64 0, .slice none 0 0, .int .i64 0, .int .i64 0, .int .i64 0, .int .i64 0, .slice none 0 0, .int .i64 0, .int .i64 0, .int .i64 0, .int .i64 0, .slice none 0 0, .int .i64 0] (by rfl) (by rfl) 34 (by kernel_rfl) (row_ok rfl) ?_
          intro W91 hW91
          clear kvV0
          clear kvW63
          subst hW91
          refine ⟨_, #[.bool false, .int .i64 0, .int .i64 0, .int .i64 0, .int .i64 0, .slice none 0 0, .int .i64 0, .int .i64 0, .int .i64 0, .int .i64 0, .slice none 0 0, .int .i64 0, .int .i64 0, .int .i64 0, .int .i64 0, .slice none 0 0, .int .i64 0], (blk_at Hx1.out (kept_trans KB72.out (kept_trans Kk85.out Kk90.out))), rfl, Nat.le_of_ble_eq_true rfl, ?_⟩
          intro W92 hW92
          go_wp2_with fail
          (try simp only [Exit.inBlock, Exit.then])
          refine bodyPost_ret (results_cell_tmp rfl _ _ (w.heap.size) 34 _ _ dj rfl (blk_same (blk_at Hx1.out (kept_trans KB72.out (kept_trans Kk85.out Kk90.out))) hW92) dj1 (by cases dj <;> first | rfl | exact dj2) (by kernel_rfl)) rfl ?_
          have jz96 := Z0.out
          have jq93 := par_end (par_row' (liesQ_nil w86 (Par w V0.heap.size (wr.heap.size :: []) P)) hW92 (by omega) (by omega)) (by omega)
          have jq94 := par_end (par_row' (liesQ_nil w86 (Par w V0.heap.size (wr.heap.size :: []) P)) hW92 (by omega) (by omega)) (by omega)
          have jq95 := par_end (par_row' (liesQ_nil w86 (Par w V0.heap.size (wr.heap.size :: []) P)) hW92 (by omega) (by omega)) (by omega)
          exact ⟨false, ⟨false, .zero, .zero, .zero, 0⟩, _, _, _, rfl, ⟨zero_fine, zero_fine, zero_fine, by show I64 0; unfold I64; decide⟩, ⟨jq93, jq94, jq95⟩, (fun h => nomatch h), kept_set (kept_trans KB71.out (kept_trans Kk85.out Kk90.out)) hW92 (by omega)⟩
        | true =>
          have kvV0 : Sees V0 (w.heap.size) w86 := sees_kept _ (kept_trans KB72.out (kept_trans Kk85.out Kk90.out))
          have kvW63 : Sees W63 (w.heap.size) w86 := sees_kept _ (kept_trans Kk85.out Kk90.out)
          go_wp2
          go_roundw
          case rel => exact ⟨2, by decide, by decide, by go_num, ⟨fun _ => HVhv25.out.1 (by decide), fun _ => Hhb88.out⟩, (kept_trans Kk26.out (kept_trans KB73.out (kept_trans Kk85.out Kk90.out)))⟩
          case measure => simp [intOf]
      · clear hi0 hi1
        have kvV0 : Sees V0 (w.heap.size) wr := sees_kept _ (kept_trans Kk12.out (kept_trans Kk17.out Kk26.out))
        go_wp2_with fail
        clear kvV0
        refine ((con12tt_any i i2 c u v x u2 v2 x2 (Par w V0.heap.size [] P) wr ((.slice ac c.length cc)) bon oon capon _ _ _ ((.slice au u.kids.length cu)) ((.slice av v.kids.length cv)) ((.slice ax x.kids.length cx)) ((.slice au2 u2.kids.length cu2)) ((.slice av2 v2.kids.length cv2)) ((.slice ax2 x2.kids.length cx2)) (HEc.out.keep (kept_trans Kk4.out (kept_trans Kk12.out (kept_trans Kk17.out Kk26.out)))) Gu.out (HLu.out.later (kept_trans Kk12.out (kept_trans Kk17.out Kk26.out))) Gv.out (HLv.out.later (kept_trans Kk12.out (kept_trans Kk17.out Kk26.out))) Gx.out (HLx.out.later (kept_trans Kk12.out (kept_trans Kk17.out Kk26.out))) Ri.out Gu2.out (HLu2.out.later (kept_trans Kk12.out (kept_trans Kk17.out Kk26.out))) Gv2.out (HLv2.out.later (kept_trans Kk12.out (kept_trans Kk17.out Kk26.out))) Gx2.out (HLx2.out.later (kept_trans Kk12.out (kept_trans Kk17.out Kk26.out))) Ri2.out (blk_at HBon.out (kept_trans Kk12.out (kept_trans Kk17.out Kk26.out))) HSon0.out HSon1.out (pure_range (rightJ_pure (HVhv25.out.2 (by decide)))).1 (pure_range (rightJ_pure (HVhv25.out.2 (by decide)))).2)).mono ?_
        rintro e w97 ⟨s99, s100, s101, rfl, ⟨hl102, hl103, hl104⟩, k98⟩
        obtain ⟨a105, c106, S107, rfl, -⟩ := hl102.out
        obtain ⟨a108, c109, S110, rfl, -⟩ := hl103.out
        obtain ⟨a111, c112, S113, rfl, -⟩ := hl104.out
        have Kk114 := Lib.hid k98
        clear k98
        have Hhl102 : Hid (LiesQ w97 (Par w V0.heap.size [] P) u.kids _) := par_give hl102 (Below.size (kept_trans Kk12.out (kept_trans Kk17.out Kk26.out))) (xlt_nil _)
        have Hhl103 : Hid (LiesQ w97 (Par w V0.heap.size [] P) Tm.zero.kids _) := par_give hl103 (Below.size (kept_trans Kk12.out (kept_trans Kk17.out Kk26.out))) (xlt_nil _)
        have Hhl104 : Hid (LiesQ w97 (Par w V0.heap.size [] P) v2.kids _) := par_give hl104 (Below.size (kept_trans Kk12.out (kept_trans Kk17.out Kk26.out))) (xlt_nil _)
        clear hl102 hl103 hl104
        have kvV0 : Sees V0 (w.heap.size) w97 := sees_kept _ (kept_trans Kk12.out (kept_trans Kk17.out (kept_trans Kk26.out Kk114.out)))
        go_wp2_with (refine stop_store 34 (.tmp 13) (.tmp 52) rfl ?_)
        intro _
        refine wpList_store_part_n (by rfl) 34 (.tmp 13) (.tmp 52) rfl (w97.heap.size) 0 #[.bool false, .int .i64 u.k, .int .i64 u.i, .int .i64 u.j, .int .i64 u.n, (.slice a105 u.kids.length c106), .int .i64 Tm.zero.k, .int .i64 Tm.zero.i, .int .i64 Tm.zero.j, .int .i64 Tm.zero.n, (.slice a108 Tm.zero.kids.length c109), .int .i64 v2.k, .int .i64 v2.i, .int .i64 v2.j, .int .i64 v2.n, (.slice a111 v2.kids.length c112), .int .i64 i] (by rfl) (by rfl) 34 (by kernel_rfl) (row_ok rfl) ?_
        intro W115 hW115
        clear kvV0
        obtain ⟨k118, x117, z119⟩ := alloc1 hW115
        have Kk120 := Lib.hid k118
        clear k118
        have Hx117 := Lib.hid x117
        have Hz119 := Lib.hid z119
        clear x117 z119 hW115
        have HG121 : Hid (V0.heap.size ≤ w97.heap.size) := (Below.size (kept_trans Kk12.out (kept_trans Kk17.out (kept_trans Kk26.out Kk114.out))))
        have XL122 : Hid (XLt (w97.heap.size :: []) W115) := (xlt_more (xlt_nil _) Kk120.out (by have := Hz119.out; omega))
        have HD123 : Hid (wr.heap.size ≤ w97.heap.size) := Below.size Kk114.out
        refine ⟨_, #[.bool false, .int .i64 u.k, .int .i64 u.i, .int .i64 u.j, .int .i64 u.n, (.slice a105 u.kids.length c106), .int .i64 Tm.zero.k, .int .i64 Tm.zero.i, .int .i64 Tm.zero.j, .int .i64 Tm.zero.n, (.slice a108 Tm.zero.kids.length c109), .int .i64 v2.k, .int .i64 v2.i, .int .i64 v2.j, .int .i64 v2.n, (.slice a111 v2.kids.length c112), .int .i64 i], Hx117.out, rfl, Nat.le_of_ble_eq_true rfl, ?_⟩
        intro W116 hW116
        have KB124 := Lib.hid (kept_set (kept_trans Kk4.out (kept_trans Kk12.out (kept_trans Kk17.out (kept_trans Kk26.out (kept_trans Kk114.out Kk120.out))))) hW116 (by have := HG121.out; have := Z0.out; omega))
        have KB125 := Lib.hid (kept_set (kept_trans Kk12.out (kept_trans Kk17.out (kept_trans Kk26.out (kept_trans Kk114.out Kk120.out)))) hW116 HG121.out)
        have KB126 := Lib.hid (kept_set (kept_trans Kk114.out Kk120.out) hW116 HD123.out)
        have HL127 : Hid (LiesQ W116 (Par w V0.heap.size (w97.heap.size :: []) P) u.kids _) := par_set (par_grow Hhl102.out Kk120.out (List.forall_mem_cons.2 ⟨(Or.inr (Nat.le_refl w97.heap.size)), (fun _ h => nomatch h)⟩)) hW116 (List.mem_cons_self ..) (by have := HG121.out; have := Z0.out; omega)
        have HL128 : Hid (LiesQ W116 (Par w V0.heap.size (w97.heap.size :: []) P) Tm.zero.kids _) := par_set (par_grow Hhl103.out Kk120.out (List.forall_mem_cons.2 ⟨(Or.inr (Nat.le_refl w97.heap.size)), (fun _ h => nomatch h)⟩)) hW116 (List.mem_cons_self ..) (by have := HG121.out; have := Z0.out; omega)
        have HL129 : Hid (LiesQ W116 (Par w V0.heap.size (w97.heap.size :: []) P) v2.kids _) := par_set (par_grow Hhl104.out Kk120.out (List.forall_mem_cons.2 ⟨(Or.inr (Nat.le_refl w97.heap.size)), (fun _ h => nomatch h)⟩)) hW116 (List.mem_cons_self ..) (by have := HG121.out; have := Z0.out; omega)
        have HL130 : Hid (LiesQ W116 (Par w V0.heap.size (w97.heap.size :: []) P) u.kids _) := par_set (par_grow HLu.out (kept_trans Kk12.out (kept_trans Kk17.out (kept_trans Kk26.out (kept_trans Kk114.out Kk120.out)))) (List.forall_mem_cons.2 ⟨(Or.inr (Nat.le_trans (Below.size (kept_trans Kk12.out (kept_trans Kk17.out (kept_trans Kk26.out Kk114.out)))) (Nat.le_refl w97.heap.size))), (fun _ h => nomatch h)⟩)) hW116 (List.mem_cons_self ..) (by have := HG121.out; have := Z0.out; omega)
        have HL131 : Hid (LiesQ W116 (Par w V0.heap.size (w97.heap.size :: []) P) v.kids _) := par_set (par_grow HLv.out (kept_trans Kk12.out (kept_trans Kk17.out (kept_trans Kk26.out (kept_trans Kk114.out Kk120.out)))) (List.forall_mem_cons.2 ⟨(Or.inr (Nat.le_trans (Below.size (kept_trans Kk12.out (kept_trans Kk17.out (kept_trans Kk26.out Kk114.out)))) (Nat.le_refl w97.heap.size))), (fun _ h => nomatch h)⟩)) hW116 (List.mem_cons_self ..) (by have := HG121.out; have := Z0.out; omega)
        have HL132 : Hid (LiesQ W116 (Par w V0.heap.size (w97.heap.size :: []) P) x.kids _) := par_set (par_grow HLx.out (kept_trans Kk12.out (kept_trans Kk17.out (kept_trans Kk26.out (kept_trans Kk114.out Kk120.out)))) (List.forall_mem_cons.2 ⟨(Or.inr (Nat.le_trans (Below.size (kept_trans Kk12.out (kept_trans Kk17.out (kept_trans Kk26.out Kk114.out)))) (Nat.le_refl w97.heap.size))), (fun _ h => nomatch h)⟩)) hW116 (List.mem_cons_self ..) (by have := HG121.out; have := Z0.out; omega)
        have HL133 : Hid (LiesQ W116 (Par w V0.heap.size (w97.heap.size :: []) P) u2.kids _) := par_set (par_grow HLu2.out (kept_trans Kk12.out (kept_trans Kk17.out (kept_trans Kk26.out (kept_trans Kk114.out Kk120.out)))) (List.forall_mem_cons.2 ⟨(Or.inr (Nat.le_trans (Below.size (kept_trans Kk12.out (kept_trans Kk17.out (kept_trans Kk26.out Kk114.out)))) (Nat.le_refl w97.heap.size))), (fun _ h => nomatch h)⟩)) hW116 (List.mem_cons_self ..) (by have := HG121.out; have := Z0.out; omega)
        have HL134 : Hid (LiesQ W116 (Par w V0.heap.size (w97.heap.size :: []) P) v2.kids _) := par_set (par_grow HLv2.out (kept_trans Kk12.out (kept_trans Kk17.out (kept_trans Kk26.out (kept_trans Kk114.out Kk120.out)))) (List.forall_mem_cons.2 ⟨(Or.inr (Nat.le_trans (Below.size (kept_trans Kk12.out (kept_trans Kk17.out (kept_trans Kk26.out Kk114.out)))) (Nat.le_refl w97.heap.size))), (fun _ h => nomatch h)⟩)) hW116 (List.mem_cons_self ..) (by have := HG121.out; have := Z0.out; omega)
        have HL135 : Hid (LiesQ W116 (Par w V0.heap.size (w97.heap.size :: []) P) x2.kids _) := par_set (par_grow HLx2.out (kept_trans Kk12.out (kept_trans Kk17.out (kept_trans Kk26.out (kept_trans Kk114.out Kk120.out)))) (List.forall_mem_cons.2 ⟨(Or.inr (Nat.le_trans (Below.size (kept_trans Kk12.out (kept_trans Kk17.out (kept_trans Kk26.out Kk114.out)))) (Nat.le_refl w97.heap.size))), (fun _ h => nomatch h)⟩)) hW116 (List.mem_cons_self ..) (by have := HG121.out; have := Z0.out; omega)
        have XL136 := Lib.hid (xlt_set XL122.out hW116)
        have HX137 := Lib.hid (blk_same Hx117.out hW116)
        clear hW116
        have ld138 := part_cell (r := (w.heap.size)) HX137.out (by have := HG121.out; have := Z0.out; omega) 0 (.bool false) rfl
        have ld139 := part_cell (r := (w.heap.size)) HX137.out (by have := HG121.out; have := Z0.out; omega) 1 (.int .i64 u.k) rfl
        have ld140 := part_cell (r := (w.heap.size)) HX137.out (by have := HG121.out; have := Z0.out; omega) 6 (.int .i64 Tm.zero.k) rfl
        have ld141 := part_cell (r := (w.heap.size)) HX137.out (by have := HG121.out; have := Z0.out; omega) 11 (.int .i64 v2.k) rfl
        have ld142 := part_cell (r := (w.heap.size)) HX137.out (by have := HG121.out; have := Z0.out; omega) 16 (.int .i64 i) rfl
        have kvV0 : Sees V0 (w.heap.size) W116 := sees_kept _ KB125.out
        have kvW116 : Sees W116 (w.heap.size) W116 := sees_kept _ (kept_refl _)
        go_upto_region 14 with fail
        go_wp2_with (refine stop_store 34 (.tmp 8) (.tmp 83) rfl ?_)
        intro _
        refine wpList_store_part_n (by rfl) 34 (.tmp 8) (.tmp 83) rfl (w.heap.size) 0 #[.bool false, .int .i64 0, .int .i64 0, .int .i64 0, .int .i64 0, .slice none 0 0, .int .i64 0, .int .i64 0, .int .i64 0, .int .i64 0, .slice none 0 0, .int .i64 0, .int .i64 0, .int .i64 0, .int .i64 0, .slice none 0 0, .int .i64 0] (by rfl) (by rfl) 34 (by kernel_rfl) (row_ok rfl) ?_
        intro W143 hW143
        clear kvV0
        clear kvW116
        subst hW143
        refine ⟨_, #[.bool false, .int .i64 0, .int .i64 0, .int .i64 0, .int .i64 0, .slice none 0 0, .int .i64 0, .int .i64 0, .int .i64 0, .int .i64 0, .slice none 0 0, .int .i64 0, .int .i64 0, .int .i64 0, .int .i64 0, .slice none 0 0, .int .i64 0], (blk_at Hx1.out KB125.out), rfl, Nat.le_of_ble_eq_true rfl, ?_⟩
        intro W144 hW144
        go_wp2_with fail
        (try simp only [Exit.inBlock, Exit.then])
        refine bodyPost_ret (results_cell_tmp rfl _ _ (w.heap.size) 34 _ _ dj rfl (blk_same (blk_at Hx1.out KB125.out) hW144) dj1 (by cases dj <;> first | rfl | exact dj2) (by kernel_rfl)) rfl ?_
        have jz148 := Z0.out
        have jq145 := par_end (par_row' (liesQ_nil W116 (Par w V0.heap.size (w97.heap.size :: []) P)) hW144 (by omega) (by omega)) (by omega)
        have jq146 := par_end (par_row' (liesQ_nil W116 (Par w V0.heap.size (w97.heap.size :: []) P)) hW144 (by omega) (by omega)) (by omega)
        have jq147 := par_end (par_row' (liesQ_nil W116 (Par w V0.heap.size (w97.heap.size :: []) P)) hW144 (by omega) (by omega)) (by omega)
        exact ⟨false, ⟨false, .zero, .zero, .zero, 0⟩, _, _, _, rfl, ⟨zero_fine, zero_fine, zero_fine, by show I64 0; unfold I64; decide⟩, ⟨jq145, jq146, jq147⟩, (fun h => nomatch h), kept_set KB124.out hW144 (by omega)⟩

set_option maxRecDepth 20000 in
set_option maxHeartbeats 4000000 in
theorem of12ne_any (c : List En) (on : List Jd) (P : Nat → Prop) (w : World) (sc : Value) (son : Value) (hlc : LiesE w c sc) (hlon : LiesJ w on son) (hne : on.length ≠ 2) : Calls Try.prog 12 #[sc, .int .i64 12, .int .i64 0, son] w (GivesJT P ⟨false, .zero, .zero, .zero, 0⟩ false w) := by
  have HEc := Lib.hid hlc
  obtain ⟨ac, cc, Sc, rfl, -⟩ := hlc.out
  clear hlc
  have HEon := Lib.hid hlon
  obtain ⟨aon, con, Son, rfl, -⟩ := hlon.out
  clear hlon
  have en0 : ((2 : Int) != (on.length : Int)) = true := bne_iff_ne.2 (by omega)
  clear hne
  obtain ⟨dj, dj1, dj2⟩ := under_of 34 (by kernel_rfl)
  obtain ⟨du, hu1, hu2⟩ := under_term
  go_enter Try.func12, Try.ntmps12
  go_upto_region 1 with fail
  refine at_code (fun V0 hV0 => ?_)
  obtain ⟨k2, x1, z3⟩ := alloc1 hV0
  have Kk4 := Lib.hid k2
  clear k2
  have Hx1 := Lib.hid x1
  have Z0 := Lib.hid z3
  clear z3 x1 hV0
  have kvV0 : Sees V0 (w.heap.size) V0 := sees_kept _ (kept_refl _)
  go_wp2_with fail
  clear kvV0
  have hq7 := kidsK 12 V0
  rw [show Dv.dkidsN 12 = 2 from by decide] at hq7
  refine hq7.mono ?_
  clear hq7
  rintro e w5 ⟨rfl, k6⟩
  have Kk8 := Lib.hid k6
  clear k6
  have kvV0 : Sees V0 (w.heap.size) w5 := sees_kept _ Kk8.out
  go_upto_region 2 with fail
  go_wp2_with (refine stop_store 34 (.tmp 8) (.tmp 25) rfl ?_)
  intro _
  refine wpList_store_part_n (by rfl) 34 (.tmp 8) (.tmp 25) rfl (w.heap.size) 0 #[.bool false, .int .i64 0, .int .i64 0, .int .i64 0, .int .i64 0, .slice none 0 0, .int .i64 0, .int .i64 0, .int .i64 0, .int .i64 0, .slice none 0 0, .int .i64 0, .int .i64 0, .int .i64 0, .int .i64 0, .slice none 0 0, .int .i64 0] (by rfl) (by rfl) 34 (by kernel_rfl) (row_ok rfl) ?_
  intro W9 hW9
  clear kvV0
  subst hW9
  refine ⟨_, #[.bool false, .int .i64 0, .int .i64 0, .int .i64 0, .int .i64 0, .slice none 0 0, .int .i64 0, .int .i64 0, .int .i64 0, .int .i64 0, .slice none 0 0, .int .i64 0, .int .i64 0, .int .i64 0, .int .i64 0, .slice none 0 0, .int .i64 0], (blk_at Hx1.out Kk8.out), rfl, Nat.le_of_ble_eq_true rfl, ?_⟩
  intro W10 hW10
  go_wp2_with fail
  (try simp only [Exit.inBlock, Exit.then])
  refine bodyPost_ret (results_cell_tmp rfl _ _ (w.heap.size) 34 _ _ dj rfl (blk_same (blk_at Hx1.out Kk8.out) hW10) dj1 (by cases dj <;> first | rfl | exact dj2) (by kernel_rfl)) rfl ?_
  have jz14 := Z0.out
  have jq11 := par_end (par_row' (liesQ_nil w5 (Par w V0.heap.size [] P)) hW10 (by omega) (by omega)) (by omega)
  have jq12 := par_end (par_row' (liesQ_nil w5 (Par w V0.heap.size [] P)) hW10 (by omega) (by omega)) (by omega)
  have jq13 := par_end (par_row' (liesQ_nil w5 (Par w V0.heap.size [] P)) hW10 (by omega) (by omega)) (by omega)
  exact ⟨_, _, _, rfl, ⟨jq11, jq12, jq13⟩, kept_set (kept_trans Kk4.out Kk8.out) hW10 (by omega)⟩

end Go.Proofs.Ytjlppnmckobcfaa
