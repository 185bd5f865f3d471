/-
  Facts and contracts that the proof of RuleLevels uses.
-/
import Derived.Test.YtjlppnmckobcfaaRows
import Derived.WalkKit
import Derived.Lib.Hide
import Derived.KernelRfl
import Derived.Deep.RegionWith
import Derived.Deep.RegionHeld3
import Derived.Deep.AppendLies
import Derived.Laws.Rows
import Derived.Laws.IdiomCopy
import Derived.Deep.Slices
import Derived.Deep.QuietTactic
import Derived.BigQuiet
import Derived.Lib.QuietBelow
import Derived.StillTailTactics
import Derived.IntWalk
import Derived.OwnWalk
import Derived.OrdersHeld
import Derived.Deep.DeepCutAuto
import Derived.Deep.RegionLaw
import Derived.Deep.LoopGhost
import Derived.Deep.MidRow
import Derived.Laws.Tables
import Derived.Laws.CopyOwn
import Derived.Laws.CopyRow
import Derived.Deep.RegionHeld
import Derived.ProofKit
import Derived.OpenShut
import Derived.Carry
import Derived.ChangeSlices
import Derived.JoinedOf
import Derived.Test.YtjlppnmckobcfaaRuleLevelsQ5
namespace Go.Proofs.Ytjlppnmckobcfaa
open Go.RowKit
set_option maxRecDepth 20000 in
set_option maxHeartbeats 4000000 in
theorem con12tt_any (i : Int) (i2 : Int) (c : List En) (u : Tm) (v : Tm) (x : Tm) (u2 : Tm) (v2 : Tm) (x2 : Tm) (P : Nat → Prop) (w : World) (sc : Value) (bon oon capon : Nat) (Con : Array Value) (Ton : TypeId) (fron : Nat × Nat) (su : Value) (sv : Value) (sx : Value) (su2 : Value) (sv2 : Value) (sx2 : Value) (hlc : LiesE w c sc) (hfu : u.fine) (hlu : LiesQ w P u.kids su) (hfv : v.fine) (hlv : LiesQ w P v.kids sv) (hfx : x.fine) (hlx : LiesQ w P x.kids sx) (hri : I64 i) (hfu2 : u2.fine) (hlu2 : LiesQ w P u2.kids su2) (hfv2 : v2.fine) (hlv2 : LiesQ w P v2.kids sv2) (hfx2 : x2.fine) (hlx2 : LiesQ w P x2.kids sx2) (hri2 : I64 i2) (hbon : w.heap[bon]? = some (.cells Con Ton fron)) (hson0 : (Con.toList.drop oon).take 17 = [.bool true, .int .i64 u.k, .int .i64 u.i, .int .i64 u.j, .int .i64 u.n, su, .int .i64 v.k, .int .i64 v.i, .int .i64 v.j, .int .i64 v.n, sv, .int .i64 x.k, .int .i64 x.i, .int .i64 x.j, .int .i64 x.n, sx, .int .i64 i]) (hson1 : (Con.toList.drop (oon + 17)).take 17 = [.bool true, .int .i64 u2.k, .int .i64 u2.i, .int .i64 u2.j, .int .i64 u2.n, su2, .int .i64 v2.k, .int .i64 v2.i, .int .i64 v2.j, .int .i64 v2.n, sv2, .int .i64 x2.k, .int .i64 x2.i, .int .i64 x2.j, .int .i64 x2.n, sx2, .int .i64 i2]) (hx0 : 0 ≤ x2.i) (hx1 : x2.i ≤ 2147483647) : Calls Try.prog 34 #[sc, .int .i64 12, .int .i64 0, .slice (some ⟨bon, oon, none⟩) 2 capon] w (GivesJT P ⟨false, u, .zero, v2, i⟩ false w) := by
  have HEc := Lib.hid hlc
  obtain ⟨ac, cc, Sc, rfl, -⟩ := hlc.out
  clear hlc
  have Gu := Lib.hid hfu
  clear hfu
  obtain ⟨au, cu, Su, rfl, -⟩ := hlu.out
  have Gv := Lib.hid hfv
  clear hfv
  obtain ⟨av, cv, Sv, rfl, -⟩ := hlv.out
  have Gx := Lib.hid hfx
  clear hfx
  obtain ⟨ax, cx, Sx, rfl, -⟩ := hlx.out
  have Ri := Lib.hid hri
  clear hri
  have Gu2 := Lib.hid hfu2
  clear hfu2
  obtain ⟨au2, cu2, Su2, rfl, -⟩ := hlu2.out
  have Gv2 := Lib.hid hfv2
  clear hfv2
  obtain ⟨av2, cv2, Sv2, rfl, -⟩ := hlv2.out
  have Gx2 := Lib.hid hfx2
  clear hfx2
  obtain ⟨ax2, cx2, Sx2, rfl, -⟩ := hlx2.out
  have Ri2 := Lib.hid hri2
  clear hri2
  have HNon : Hid (bon < w.heap.size) := block_lt hbon
  have HBon := Lib.hid hbon
  have HSon0 := Lib.hid hson0
  have HSon1 := Lib.hid hson1
  clear hbon hson0 hson1
  have HX0 := Lib.hid hx0
  have HX1 := Lib.hid hx1
  clear hx0 hx1
  obtain ⟨dj, dj1, dj2⟩ := under_of 34 (by kernel_rfl)
  obtain ⟨du, hu1, hu2⟩ := under_term
  go_enter Try.func34, Try.ntmps34
  go_upto_region 1 with fail
  refine at_code (fun V0 hV0 => ?_)
  obtain ⟨k2, x1, z3⟩ := alloc1 hV0
  have Kk4 := Lib.hid k2
  clear k2
  have Hx1 := Lib.hid x1
  have Z0 := Lib.hid z3
  clear z3 x1 hV0
  have HLu : Hid (LiesQ V0 (Par w V0.heap.size [] P) u.kids _) := (par_in _ _ hlu).later Kk4.out
  clear hlu
  have HLv : Hid (LiesQ V0 (Par w V0.heap.size [] P) v.kids _) := (par_in _ _ hlv).later Kk4.out
  clear hlv
  have HLx : Hid (LiesQ V0 (Par w V0.heap.size [] P) x.kids _) := (par_in _ _ hlx).later Kk4.out
  clear hlx
  have HLu2 : Hid (LiesQ V0 (Par w V0.heap.size [] P) u2.kids _) := (par_in _ _ hlu2).later Kk4.out
  clear hlu2
  have HLv2 : Hid (LiesQ V0 (Par w V0.heap.size [] P) v2.kids _) := (par_in _ _ hlv2).later Kk4.out
  clear hlv2
  have HLx2 : Hid (LiesQ V0 (Par w V0.heap.size [] P) x2.kids _) := (par_in _ _ hlx2).later Kk4.out
  clear hlx2
  have HBon := Lib.hid (blk_at HBon.out Kk4.out)
  have ld5 := part_cell (r := (w.heap.size)) HBon.out (by have := HNon.out; have := Z0.out; omega) (oon) (.bool true) (row_cellW HSon0.out 0 (by decide))
  have ld6 := part_cell (r := (w.heap.size)) HBon.out (by have := HNon.out; have := Z0.out; omega) (oon + 16) (.int .i64 i) (row_cellW HSon0.out 16 (by decide))
  have ld7 := part_cell (r := (w.heap.size)) HBon.out (by have := HNon.out; have := Z0.out; omega) (oon + 17) (.bool true) (row_cellW HSon1.out 0 (by decide))
  have ld8 := part_cell (r := (w.heap.size)) HBon.out (by have := HNon.out; have := Z0.out; omega) (oon + 17 + 16) (.int .i64 i2) (row_cellW HSon1.out 16 (by decide))
  have kvV0 : Sees V0 (w.heap.size) V0 := sees_kept _ (kept_refl _)
  go_wp2_with fail
  clear kvV0
  obtain ⟨W9, h10⟩ : ∃ x, World.drew V0 = x := ⟨_, rfl⟩
  have k11 : Kept V0 W9 := by rw [← h10]; exact kept_drew (kept_refl _)
  have Kk12 := Lib.hid k11
  clear k11
  refine wp_region_held_drew (S := Sees W9 (w.heap.size)) (by kernel_rfl) ?_ (fun hHeld => ?_)
  · (try dsimp only)
    rw [h10]
    exact sees_kept _ (kept_refl _)
  rw [h10] at hHeld ⊢
  clear h10
  refine take_at 0 238 con12ttr34_0 (v := ?_) (Or.inl ⟨by rfl, ?_⟩) ?_
  rotate_left 1
  · ((intro w hSw; (try dsimp only at hSw); unfold con12ttr34_0; go_simp) <;> with_reducible rfl)
  (try simp only [Act.put, List.setIfInBounds_toArray, List.set_cons_zero, List.set_cons_succ])
  refine take_at 1 239 con12ttr34_1 (v := ?_) (Or.inl ⟨by rfl, ?_⟩) ?_
  rotate_left 1
  · ((intro w hSw; (try dsimp only at hSw); unfold con12ttr34_1; go_simp) <;> with_reducible rfl)
  (try simp only [Act.put, List.setIfInBounds_toArray, List.set_cons_zero, List.set_cons_succ])
  refine take_at 2 240 con12ttr34_2 (v := ?_) (Or.inl ⟨by rfl, ?_⟩) ?_
  rotate_left 1
  · ((intro w hSw; (try dsimp only at hSw); unfold con12ttr34_2; go_simp) <;> with_reducible rfl)
  (try simp only [Act.put, List.setIfInBounds_toArray, List.set_cons_zero, List.set_cons_succ])
  refine take_at 3 241 con12ttr34_3 (yields_part (bon) (oon + 1) 32 (.tmp 240) #[.int .i64 u.k, .int .i64 u.i, .int .i64 u.j, .int .i64 u.n, (.slice au u.kids.length cu)] du (fun _ h => sees_blk HBon.out (by have := HNon.out; have := Z0.out; omega) (sees_of Kk12.out h)) (by rfl) rfl (by rfl) (row_subW HSon0.out 1 5 (by decide)) hu1 (by cases du <;> first | rfl | exact hu2) size_term) ?_
  (try simp only [Act.put, List.setIfInBounds_toArray, List.set_cons_zero, List.set_cons_succ])
  refine take_at 4 242 con12ttr34_4 (v := ?_) (Or.inl ⟨by rfl, ?_⟩) ?_
  rotate_left 1
  · ((intro w hSw; (try dsimp only at hSw); unfold con12ttr34_4; go_simp) <;> with_reducible rfl)
  (try simp only [Act.put, List.setIfInBounds_toArray, List.set_cons_zero, List.set_cons_succ])
  refine take_at 5 243 con12ttr34_5 (v := ?_) (Or.inl ⟨by rfl, ?_⟩) ?_
  rotate_left 1
  · ((intro w hSw; (try dsimp only at hSw); unfold con12ttr34_5; go_simp) <;> with_reducible rfl)
  (try simp only [Act.put, List.setIfInBounds_toArray, List.set_cons_zero, List.set_cons_succ])
  refine take_at 6 244 con12ttr34_6 (v := ?_) (Or.inl ⟨by rfl, ?_⟩) ?_
  rotate_left 1
  · ((intro w hSw; (try dsimp only at hSw); unfold con12ttr34_6; go_simp) <;> with_reducible rfl)
  (try simp only [Act.put, List.setIfInBounds_toArray, List.set_cons_zero, List.set_cons_succ])
  refine take_at 7 245 con12ttr34_7 (yields_part (bon) (oon + 17 + 6) 32 (.tmp 244) #[.int .i64 v2.k, .int .i64 v2.i, .int .i64 v2.j, .int .i64 v2.n, (.slice av2 v2.kids.length cv2)] du (fun _ h => sees_blk HBon.out (by have := HNon.out; have := Z0.out; omega) (sees_of Kk12.out h)) (by rfl) rfl (by rfl) (row_subW HSon1.out 6 5 (by decide)) hu1 (by cases du <;> first | rfl | exact hu2) size_term) ?_
  (try simp only [Act.put, List.setIfInBounds_toArray, List.set_cons_zero, List.set_cons_succ])
  refine take_at 8 246 con12ttr34_8 (v := ?_) (Or.inl ⟨by rfl, ?_⟩) ?_
  rotate_left 1
  · ((intro w hSw; (try dsimp only at hSw); unfold con12ttr34_8; go_simp) <;> with_reducible rfl)
  (try simp only [Act.put, List.setIfInBounds_toArray, List.set_cons_zero, List.set_cons_succ])
  refine take_at 9 247 con12ttr34_9 (v := ?_) (Or.inl ⟨by rfl, ?_⟩) ?_
  rotate_left 1
  · ((intro w hSw; (try dsimp only at hSw); unfold con12ttr34_9; go_simp) <;> with_reducible rfl)
  (try simp only [Act.put, List.setIfInBounds_toArray, List.set_cons_zero, List.set_cons_succ])
  refine take_at 10 248 con12ttr34_10 (v := ?_) (Or.inl ⟨by rfl, ?_⟩) ?_
  rotate_left 1
  · ((intro w hSw; (try dsimp only at hSw); unfold con12ttr34_10; go_simp) <;> with_reducible rfl)
  (try simp only [Act.put, List.setIfInBounds_toArray, List.set_cons_zero, List.set_cons_succ])
  refine take_at 11 249 con12ttr34_11 (v := ?_) (Or.inl ⟨by rfl, ?_⟩) ?_
  rotate_left 1
  · ((intro w hSw; (try dsimp only at hSw); have qV0 := sees_of Kk12.out hSw; unfold con12ttr34_11; go_simp) <;> with_reducible rfl)
  (try simp only [Act.put, List.setIfInBounds_toArray, List.set_cons_zero, List.set_cons_succ])
  refine take_at 13 251 con12ttr34_13 (v := ?_) (Or.inl ⟨by rfl, ?_⟩) ?_
  rotate_left 1
  · ((intro w hSw; (try dsimp only at hSw); unfold con12ttr34_13; go_simp) <;> with_reducible rfl)
  (try simp only [Act.put, List.setIfInBounds_toArray, List.set_cons_zero, List.set_cons_succ])
  refine take_at 14 252 con12ttr34_14 (v := ?_) (Or.inl ⟨by rfl, ?_⟩) ?_
  rotate_left 1
  · ((intro w hSw; (try dsimp only at hSw); unfold con12ttr34_14; go_simp) <;> with_reducible rfl)
  (try simp only [Act.put, List.setIfInBounds_toArray, List.set_cons_zero, List.set_cons_succ])
  refine take_at 15 253 con12ttr34_15 (v := ?_) (Or.inl ⟨by rfl, ?_⟩) ?_
  rotate_left 1
  · ((intro w hSw; (try dsimp only at hSw); unfold con12ttr34_15; go_simp) <;> with_reducible rfl)
  (try simp only [Act.put, List.setIfInBounds_toArray, List.set_cons_zero, List.set_cons_succ])
  refine take_at 16 254 con12ttr34_16 (v := ?_) (Or.inl ⟨by rfl, ?_⟩) ?_
  rotate_left 1
  · ((intro w hSw; (try dsimp only at hSw); have qV0 := sees_of Kk12.out hSw; unfold con12ttr34_16; go_simp) <;> with_reducible rfl)
  (try simp only [Act.put, List.setIfInBounds_toArray, List.set_cons_zero, List.set_cons_succ])
  refine take_at 17 255 con12ttr34_17 (v := ?_) (Or.inl ⟨by rfl, ?_⟩) ?_
  rotate_left 1
  · ((intro w hSw; (try dsimp only at hSw); unfold con12ttr34_17; go_simp) <;> with_reducible rfl)
  (try simp only [Act.put, List.setIfInBounds_toArray, List.set_cons_zero, List.set_cons_succ])
  refine wpAnyH_ready (rs := [12]) (by kernel_rfl) (by simp) ?_
  refine AllReadyH.cons (o := con12ttr34_12) rfl (fun K hK => ?_) ?_
  · unfold con12ttr34_12
    go_simp
    refine (rof_any i u v2 (Par w V0.heap.size [] P) _ ((.slice au u.kids.length cu)) ((.slice av2 v2.kids.length cv2)) Gu.out (HLu.out.later Kk12.out) Gv2.out (HLv2.out.later Kk12.out) Ri.out).mono ?_
    rintro e w13 ⟨s15, s16, s17, rfl, ⟨hl18, hl19, hl20⟩, k14⟩
    obtain ⟨a21, c22, S23, rfl, -⟩ := hl18.out
    obtain ⟨a24, c25, S26, rfl, -⟩ := hl19.out
    obtain ⟨a27, c28, S29, rfl, -⟩ := hl20.out
    have Kk30 := Lib.hid k14
    clear k14
    have Hhl18 : Hid (LiesQ w13 (Par w V0.heap.size [] P) u.kids _) := par_give hl18 (Below.size Kk12.out) (xlt_nil _)
    have Hhl19 : Hid (LiesQ w13 (Par w V0.heap.size [] P) Tm.zero.kids _) := par_give hl19 (Below.size Kk12.out) (xlt_nil _)
    have Hhl20 : Hid (LiesQ w13 (Par w V0.heap.size [] P) v2.kids _) := par_give hl20 (Below.size Kk12.out) (xlt_nil _)
    clear hl18 hl19 hl20
    clear hHeld
    refine hK.out _ _ (sees_kept _ Kk30.out) (fun hHeld => ?_)
    clear hK K
    (try simp only [])
    refine take_at 18 256 con12ttr34_18 (v := ?_) (Or.inl ⟨by rfl, ?_⟩) ?_
    rotate_left 1
    · ((intro w hSw; (try dsimp only at hSw); unfold con12ttr34_18; go_simp) <;> with_reducible rfl)
    (try simp only [Act.put, List.setIfInBounds_toArray, List.set_cons_zero, List.set_cons_succ])
    refine take_at 19 257 con12ttr34_19 (v := undef) (Or.inr ⟨by rfl, rfl⟩) ?_
    (try simp only [Act.put, List.setIfInBounds_toArray, List.set_cons_zero, List.set_cons_succ])
    refine take_at 20 258 con12ttr34_20 (v := undef) (Or.inr ⟨by rfl, rfl⟩) ?_
    (try simp only [Act.put, List.setIfInBounds_toArray, List.set_cons_zero, List.set_cons_succ])
    refine take_at 21 259 con12ttr34_21 (v := ?_) (Or.inl ⟨by rfl, ?_⟩) ?_
    rotate_left 1
    · ((intro w hSw; (try dsimp only at hSw); unfold con12ttr34_21; go_simp) <;> with_reducible rfl)
    (try simp only [])
    refine wpAnyH_ready (rs := [22]) (by kernel_rfl) (by simp) ?_
    refine AllReadyH.cons (o := con12ttr34_22) rfl (fun K hK => ?_) ?_
    · unfold con12ttr34_22
      refine step_store_part rfl 34 (.tmp 8) (.tmp 250) rfl (w.heap.size) 0 #[.bool false, .int .i64 u.k, .int .i64 u.i, .int .i64 u.j, .int .i64 u.n, (.slice a21 u.kids.length c22), .int .i64 Tm.zero.k, .int .i64 Tm.zero.i, .int .i64 Tm.zero.j, .int .i64 Tm.zero.n, (.slice a24 Tm.zero.kids.length c25), .int .i64 v2.k, .int .i64 v2.i, .int .i64 v2.j, .int .i64 v2.n, (.slice a27 v2.kids.length c28), .int .i64 i] rfl rfl 34 (by kernel_rfl) (row_ok rfl) _ #[.bool false, .int .i64 u.k, .int .i64 u.i, .int .i64 u.j, .int .i64 u.n, (.slice a21 u.kids.length c22), .int .i64 Tm.zero.k, .int .i64 Tm.zero.i, .int .i64 Tm.zero.j, .int .i64 Tm.zero.n, (.slice a24 Tm.zero.kids.length c25), .int .i64 v2.k, .int .i64 v2.i, .int .i64 v2.j, .int .i64 v2.n, (.slice a27 v2.kids.length c28), .int .i64 i] (blk_at Hx1.out (kept_trans Kk12.out Kk30.out)) rfl (Nat.le_of_ble_eq_true rfl) ?_
      intro W31 hW31
      clear hHeld
      refine hK.out _ _ (sees_set Kk30.out hW31) (fun hHeld => ?_)
      clear hK K
      (try simp only [Act.put])
      refine take_at 23 9 con12ttr34_23 (v := ?_) (Or.inl ⟨by rfl, ?_⟩) ?_
      rotate_left 1
      · ((intro w hSw; (try dsimp only at hSw); unfold con12ttr34_23; go_simp) <;> with_reducible rfl)
      (try simp only [Act.put, List.setIfInBounds_toArray, List.set_cons_zero, List.set_cons_succ])
      refine wpAnyH_done (by kernel_rfl) ?_ _
      clear hHeld
      go_wp2_with fail
      (try simp only [Exit.inBlock, Exit.then])
      refine bodyPost_ret (results_cell_tmp rfl _ _ (w.heap.size) 34 _ _ dj rfl (blk_same (blk_at Hx1.out (kept_trans Kk12.out Kk30.out)) hW31) dj1 (by cases dj <;> first | rfl | exact dj2) (by kernel_rfl)) rfl ?_
      have jz35 := Z0.out
      have jq32 := par_end (par_row' Hhl18.out hW31 (by omega) (by omega)) (by omega)
      have jq33 := par_end (par_row' Hhl19.out hW31 (by omega) (by omega)) (by omega)
      have jq34 := par_end (par_row' Hhl20.out hW31 (by omega) (by omega)) (by omega)
      exact ⟨_, _, _, rfl, ⟨jq32, jq33, jq34⟩, kept_set (kept_trans Kk4.out (kept_trans Kk12.out Kk30.out)) hW31 (by omega)⟩
    exact AllReadyH.nil
  exact AllReadyH.nil

end Go.Proofs.Ytjlppnmckobcfaa

namespace Go.Proofs.Ytjlppnmckobcfaa
open Go.RowKit

set_option maxRecDepth 20000 in
set_option maxHeartbeats 4000000 in
theorem of12ff_any (i : Int) (i2 : Int) (c : List En) (u : Tm) (v : Tm) (x : Tm) (u2 : Tm) (v2 : Tm) (x2 : Tm) (P : Nat → Prop) (w : World) (sc : Value) (bon oon capon : Nat) (Con : Array Value) (Ton : TypeId) (fron : Nat × Nat) (su : Value) (sv : Value) (sx : Value) (su2 : Value) (sv2 : Value) (sx2 : Value) (hlc : LiesE w c sc) (hfu : u.fine) (hlu : LiesQ w P u.kids su) (hfv : v.fine) (hlv : LiesQ w P v.kids sv) (hfx : x.fine) (hlx : LiesQ w P x.kids sx) (hri : I64 i) (hfu2 : u2.fine) (hlu2 : LiesQ w P u2.kids su2) (hfv2 : v2.fine) (hlv2 : LiesQ w P v2.kids sv2) (hfx2 : x2.fine) (hlx2 : LiesQ w P x2.kids sx2) (hri2 : I64 i2) (hbon : w.heap[bon]? = some (.cells Con Ton fron)) (hson0 : (Con.toList.drop oon).take 17 = [.bool false, .int .i64 u.k, .int .i64 u.i, .int .i64 u.j, .int .i64 u.n, su, .int .i64 v.k, .int .i64 v.i, .int .i64 v.j, .int .i64 v.n, sv, .int .i64 x.k, .int .i64 x.i, .int .i64 x.j, .int .i64 x.n, sx, .int .i64 i]) (hson1 : (Con.toList.drop (oon + 17)).take 17 = [.bool false, .int .i64 u2.k, .int .i64 u2.i, .int .i64 u2.j, .int .i64 u2.n, su2, .int .i64 v2.k, .int .i64 v2.i, .int .i64 v2.j, .int .i64 v2.n, sv2, .int .i64 x2.k, .int .i64 x2.i, .int .i64 x2.j, .int .i64 x2.n, sx2, .int .i64 i2]) (hlen : c.length ≤ 100000) (hzu : u.size ≤ 1000000) (hzv : v2.size ≤ 1000000) : Calls Try.prog 12 #[sc, .int .i64 12, .int .i64 0, .slice (some ⟨bon, oon, none⟩) 2 capon] w (GivesOn P ⟨false, u, .zero, v2, i⟩ w) := by
  have HEc := Lib.hid hlc
  obtain ⟨ac, cc, Sc, rfl, -⟩ := hlc.out
  clear hlc
  have Gu := Lib.hid hfu
  clear hfu
  obtain ⟨au, cu, Su, rfl, -⟩ := hlu.out
  have Gv := Lib.hid hfv
  clear hfv
  obtain ⟨av, cv, Sv, rfl, -⟩ := hlv.out
  have Gx := Lib.hid hfx
  clear hfx
  obtain ⟨ax, cx, Sx, rfl, -⟩ := hlx.out
  have Ri := Lib.hid hri
  clear hri
  have Gu2 := Lib.hid hfu2
  clear hfu2
  obtain ⟨au2, cu2, Su2, rfl, -⟩ := hlu2.out
  have Gv2 := Lib.hid hfv2
  clear hfv2
  obtain ⟨av2, cv2, Sv2, rfl, -⟩ := hlv2.out
  have Gx2 := Lib.hid hfx2
  clear hfx2
  obtain ⟨ax2, cx2, Sx2, rfl, -⟩ := hlx2.out
  have Ri2 := Lib.hid hri2
  clear hri2
  have HNon : Hid (bon < w.heap.size) := block_lt hbon
  have HBon := Lib.hid hbon
  have HSon0 := Lib.hid hson0
  have HSon1 := Lib.hid hson1
  clear hbon hson0 hson1
  have HRN := Lib.hid (show I64 (c.length : Int) by unfold I64; omega)
  have HZU := Lib.hid hzu
  have HZV := Lib.hid hzv
  clear hzu hzv
  obtain ⟨dj, dj1, dj2⟩ := under_of 34 (by kernel_rfl)
  obtain ⟨du, hu1, hu2⟩ := under_term
  go_enter Try.func12, Try.ntmps12
  go_upto_region 1 with fail
  refine at_code (fun V0 hV0 => ?_)
  obtain ⟨k2, x1, z3⟩ := alloc1 hV0
  have Kk4 := Lib.hid k2
  clear k2
  have Hx1 := Lib.hid x1
  have Z0 := Lib.hid z3
  clear z3 x1 hV0
  have HLu : Hid (LiesQ V0 (Par w V0.heap.size [] P) u.kids _) := (par_in _ _ hlu).later Kk4.out
  clear hlu
  have HLv : Hid (LiesQ V0 (Par w V0.heap.size [] P) v.kids _) := (par_in _ _ hlv).later Kk4.out
  clear hlv
  have HLx : Hid (LiesQ V0 (Par w V0.heap.size [] P) x.kids _) := (par_in _ _ hlx).later Kk4.out
  clear hlx
  have HLu2 : Hid (LiesQ V0 (Par w V0.heap.size [] P) u2.kids _) := (par_in _ _ hlu2).later Kk4.out
  clear hlu2
  have HLv2 : Hid (LiesQ V0 (Par w V0.heap.size [] P) v2.kids _) := (par_in _ _ hlv2).later Kk4.out
  clear hlv2
  have HLx2 : Hid (LiesQ V0 (Par w V0.heap.size [] P) x2.kids _) := (par_in _ _ hlx2).later Kk4.out
  clear hlx2
  have HBon := Lib.hid (blk_at HBon.out Kk4.out)
  have ld5 := part_cell (r := (w.heap.size)) HBon.out (by have := HNon.out; have := Z0.out; omega) (oon) (.bool false) (row_cellW HSon0.out 0 (by decide))
  have ld6 := part_cell (r := (w.heap.size)) HBon.out (by have := HNon.out; have := Z0.out; omega) (oon + 16) (.int .i64 i) (row_cellW HSon0.out 16 (by decide))
  have ld7 := part_cell (r := (w.heap.size)) HBon.out (by have := HNon.out; have := Z0.out; omega) (oon + 17) (.bool false) (row_cellW HSon1.out 0 (by decide))
  have ld8 := part_cell (r := (w.heap.size)) HBon.out (by have := HNon.out; have := Z0.out; omega) (oon + 17 + 16) (.int .i64 i2) (row_cellW HSon1.out 16 (by decide))
  have kvV0 : Sees V0 (w.heap.size) V0 := sees_kept _ (kept_refl _)
  go_wp2_with fail
  clear kvV0
  have hq11 := kidsK 12 V0
  rw [show Dv.dkidsN 12 = 2 from by decide] at hq11
  refine hq11.mono ?_
  clear hq11
  rintro e w9 ⟨rfl, k10⟩
  have Kk12 := Lib.hid k10
  clear k10
  have kvV0 : Sees V0 (w.heap.size) w9 := sees_kept _ Kk12.out
  go_wp2_with fail
  clear kvV0
  refine (rulepure_any c w9 _ (HEc.out.keep (kept_trans Kk4.out Kk12.out))).mono ?_
  obtain ⟨rb16, hb15⟩ : ∃ qb, (purC c) = qb := ⟨_, rfl⟩
  rw [hb15]
  have Hhb15 := Lib.hid hb15
  clear hb15
  rintro e w13 ⟨rfl, k14⟩
  have Kk17 := Lib.hid k14
  clear k14
  cases rb16 with
  | false =>
    have kvV0 : Sees V0 (w.heap.size) w13 := sees_kept _ (kept_trans Kk12.out Kk17.out)
    go_upto_region 2 with fail
    go_wp2_with (refine stop_store 34 (.tmp 8) (.tmp 25) rfl ?_)
    intro _
    refine wpList_store_part_n (by rfl) 34 (.tmp 8) (.tmp 25) rfl (w.heap.size) 0 #[.bool false, .int .i64 0, .int .i64 0, .int .i64 0, .int .i64 0, .slice none 0 0, .int .i64 0, .int .i64 0, .int .i64 0, .int .i64 0, .slice none 0 0, .int .i64 0, .int .i64 0, .int .i64 0, .int .i64 0, .slice none 0 0, .int .i64 0] (by rfl) (by rfl) 34 (by kernel_rfl) (row_ok rfl) ?_
    intro W18 hW18
    clear kvV0
    subst hW18
    refine ⟨_, #[.bool false, .int .i64 0, .int .i64 0, .int .i64 0, .int .i64 0, .slice none 0 0, .int .i64 0, .int .i64 0, .int .i64 0, .int .i64 0, .slice none 0 0, .int .i64 0, .int .i64 0, .int .i64 0, .int .i64 0, .slice none 0 0, .int .i64 0], (blk_at Hx1.out (kept_trans Kk12.out Kk17.out)), rfl, Nat.le_of_ble_eq_true rfl, ?_⟩
    intro W19 hW19
    go_wp2_with fail
    (try simp only [Exit.inBlock, Exit.then])
    refine bodyPost_ret (results_cell_tmp rfl _ _ (w.heap.size) 34 _ _ dj rfl (blk_same (blk_at Hx1.out (kept_trans Kk12.out Kk17.out)) hW19) dj1 (by cases dj <;> first | rfl | exact dj2) (by kernel_rfl)) rfl ?_
    have jz23 := Z0.out
    have jq20 := par_end (par_row' (liesQ_nil w13 (Par w V0.heap.size [] P)) hW19 (by omega) (by omega)) (by omega)
    have jq21 := par_end (par_row' (liesQ_nil w13 (Par w V0.heap.size [] P)) hW19 (by omega) (by omega)) (by omega)
    have jq22 := par_end (par_row' (liesQ_nil w13 (Par w V0.heap.size [] P)) hW19 (by omega) (by omega)) (by omega)
    exact ⟨false, ⟨false, .zero, .zero, .zero, 0⟩, _, _, _, rfl, ⟨zero_fine, zero_fine, zero_fine, by show I64 0; unfold I64; decide⟩, ⟨jq20, jq21, jq22⟩, (fun h => nomatch h), kept_set (kept_trans Kk4.out (kept_trans Kk12.out Kk17.out)) hW19 (by omega)⟩
  | true =>
    have kvV0 : Sees V0 (w.heap.size) w13 := sees_kept _ (kept_trans Kk12.out Kk17.out)
    go_wp2_with fail
    clear kvV0
    go_loopw [28] (fun iv wr => ∃ qi : Int, 0 ≤ qi ∧ qi ≤ 2 ∧ iv = .int .i64 qi ∧ Hid ((1 ≤ qi → rightJ (⟨false, u, v, x, i⟩ : Jd) (c.length : Int) = true) ∧ (2 ≤ qi → rightJ (⟨false, u2, v2, x2, i2⟩ : Jd) (c.length : Int) = true)) ∧ Kept w13 wr) (fun iv _ => 2 - (intOf iv).toNat)
    case atStart => exact ⟨0, by decide, by decide, rfl, ⟨(fun h => absurd h (by decide)), (fun h => absurd h (by decide))⟩, kept_refl _⟩
    case round =>
      obtain ⟨qi, hi0, hi1, rfl, hv25, k24⟩ := hrel
      have Kk26 := Lib.hid k24
      clear k24
      have HVhv25 := Lib.hid hv25.out
      clear hv25
      obtain rfl | rfl | rfl : qi = 0 ∨ qi = 1 ∨ qi = 2 := by omega
      · clear hi0 hi1
        have kvV0 : Sees V0 (w.heap.size) wr := sees_kept _ (kept_trans Kk12.out (kept_trans Kk17.out Kk26.out))
        go_wp2_with (refine stop_load 34 (.tmp 31) rfl ?_)
        intro _
        refine wpList_load_part (bon) (oon) 34 (.tmp 31) #[.bool false, .int .i64 u.k, .int .i64 u.i, .int .i64 u.j, .int .i64 u.n, (.slice au u.kids.length cu), .int .i64 v.k, .int .i64 v.i, .int .i64 v.j, .int .i64 v.n, (.slice av v.kids.length cv), .int .i64 x.k, .int .i64 x.i, .int .i64 x.j, .int .i64 x.n, (.slice ax x.kids.length cx), .int .i64 i] dj (blk_at HBon.out (kept_trans Kk12.out (kept_trans Kk17.out Kk26.out))) (by rfl) rfl (by rfl) (row_subW HSon0.out 0 17 (by decide)) dj1 (by cases dj <;> first | rfl | exact dj2) (by kernel_rfl) ?_
        go_wp2_with (refine stop_store 34 (.tmp 11) (.tmp 32) rfl ?_)
        intro _
        refine wpList_store_part_n (by rfl) 34 (.tmp 11) (.tmp 32) rfl (wr.heap.size) 0 #[.bool false, .int .i64 u.k, .int .i64 u.i, .int .i64 u.j, .int .i64 u.n, (.slice au u.kids.length cu), .int .i64 v.k, .int .i64 v.i, .int .i64 v.j, .int .i64 v.n, (.slice av v.kids.length cv), .int .i64 x.k, .int .i64 x.i, .int .i64 x.j, .int .i64 x.n, (.slice ax x.kids.length cx), .int .i64 i] (by rfl) (by rfl) 34 (by kernel_rfl) (row_ok rfl) ?_
        intro W27 hW27
        clear kvV0
        obtain ⟨k30, x29, z31⟩ := alloc1 hW27
        have Kk32 := Lib.hid k30
        clear k30
        have Hx29 := Lib.hid x29
        have Hz31 := Lib.hid z31
        clear x29 z31 hW27
        have HG33 : Hid (V0.heap.size ≤ wr.heap.size) := (Below.size (kept_trans Kk12.out (kept_trans Kk17.out Kk26.out)))
        have XL34 : Hid (XLt (wr.heap.size :: []) W27) := (xlt_more (xlt_nil _) Kk32.out (by have := Hz31.out; omega))
        have HD35 : Hid (wr.heap.size ≤ wr.heap.size) := Below.size (kept_refl _)
        refine ⟨_, #[.bool false, .int .i64 u.k, .int .i64 u.i, .int .i64 u.j, .int .i64 u.n, (.slice au u.kids.length cu), .int .i64 v.k, .int .i64 v.i, .int .i64 v.j, .int .i64 v.n, (.slice av v.kids.length cv), .int .i64 x.k, .int .i64 x.i, .int .i64 x.j, .int .i64 x.n, (.slice ax x.kids.length cx), .int .i64 i], Hx29.out, rfl, Nat.le_of_ble_eq_true rfl, ?_⟩
        intro W28 hW28
        have KB36 := Lib.hid (kept_set (kept_trans Kk4.out (kept_trans Kk12.out (kept_trans Kk17.out (kept_trans Kk26.out Kk32.out)))) hW28 (by have := HG33.out; have := Z0.out; omega))
        have KB37 := Lib.hid (kept_set (kept_trans Kk12.out (kept_trans Kk17.out (kept_trans Kk26.out Kk32.out))) hW28 HG33.out)
        have KB38 := Lib.hid (kept_set Kk32.out hW28 HD35.out)
        have HL39 : Hid (LiesQ W28 (Par w V0.heap.size (wr.heap.size :: []) P) u.kids _) := par_set (par_grow HLu.out (kept_trans Kk12.out (kept_trans Kk17.out (kept_trans Kk26.out Kk32.out))) (List.forall_mem_cons.2 ⟨(Or.inr (Nat.le_trans (Below.size (kept_trans Kk12.out (kept_trans Kk17.out Kk26.out))) (Nat.le_refl wr.heap.size))), (fun _ h => nomatch h)⟩)) hW28 (List.mem_cons_self ..) (by have := HG33.out; have := Z0.out; omega)
        have HL40 : Hid (LiesQ W28 (Par w V0.heap.size (wr.heap.size :: []) P) v.kids _) := par_set (par_grow HLv.out (kept_trans Kk12.out (kept_trans Kk17.out (kept_trans Kk26.out Kk32.out))) (List.forall_mem_cons.2 ⟨(Or.inr (Nat.le_trans (Below.size (kept_trans Kk12.out (kept_trans Kk17.out Kk26.out))) (Nat.le_refl wr.heap.size))), (fun _ h => nomatch h)⟩)) hW28 (List.mem_cons_self ..) (by have := HG33.out; have := Z0.out; omega)
        have HL41 : Hid (LiesQ W28 (Par w V0.heap.size (wr.heap.size :: []) P) x.kids _) := par_set (par_grow HLx.out (kept_trans Kk12.out (kept_trans Kk17.out (kept_trans Kk26.out Kk32.out))) (List.forall_mem_cons.2 ⟨(Or.inr (Nat.le_trans (Below.size (kept_trans Kk12.out (kept_trans Kk17.out Kk26.out))) (Nat.le_refl wr.heap.size))), (fun _ h => nomatch h)⟩)) hW28 (List.mem_cons_self ..) (by have := HG33.out; have := Z0.out; omega)
        have HL42 : Hid (LiesQ W28 (Par w V0.heap.size (wr.heap.size :: []) P) u2.kids _) := par_set (par_grow HLu2.out (kept_trans Kk12.out (kept_trans Kk17.out (kept_trans Kk26.out Kk32.out))) (List.forall_mem_cons.2 ⟨(Or.inr (Nat.le_trans (Below.size (kept_trans Kk12.out (kept_trans Kk17.out Kk26.out))) (Nat.le_refl wr.heap.size))), (fun _ h => nomatch h)⟩)) hW28 (List.mem_cons_self ..) (by have := HG33.out; have := Z0.out; omega)
        have HL43 : Hid (LiesQ W28 (Par w V0.heap.size (wr.heap.size :: []) P) v2.kids _) := par_set (par_grow HLv2.out (kept_trans Kk12.out (kept_trans Kk17.out (kept_trans Kk26.out Kk32.out))) (List.forall_mem_cons.2 ⟨(Or.inr (Nat.le_trans (Below.size (kept_trans Kk12.out (kept_trans Kk17.out Kk26.out))) (Nat.le_refl wr.heap.size))), (fun _ h => nomatch h)⟩)) hW28 (List.mem_cons_self ..) (by have := HG33.out; have := Z0.out; omega)
        have HL44 : Hid (LiesQ W28 (Par w V0.heap.size (wr.heap.size :: []) P) x2.kids _) := par_set (par_grow HLx2.out (kept_trans Kk12.out (kept_trans Kk17.out (kept_trans Kk26.out Kk32.out))) (List.forall_mem_cons.2 ⟨(Or.inr (Nat.le_trans (Below.size (kept_trans Kk12.out (kept_trans Kk17.out Kk26.out))) (Nat.le_refl wr.heap.size))), (fun _ h => nomatch h)⟩)) hW28 (List.mem_cons_self ..) (by have := HG33.out; have := Z0.out; omega)
        have XL45 := Lib.hid (xlt_set XL34.out hW28)
        have HX46 := Lib.hid (blk_same Hx29.out hW28)
        clear hW28
        have kvV0 : Sees V0 (w.heap.size) W28 := sees_kept _ KB37.out
        have kvW28 : Sees W28 (w.heap.size) W28 := sees_kept _ (kept_refl _)
        go_wp2_with fail
        clear kvV0
        clear kvW28
        have hq49 := innerK 12 0 W28
        rw [show Dv.innerB 12 0 = false from by decide] at hq49
        refine hq49.mono ?_
        clear hq49
        rintro e w47 ⟨rfl, k48⟩
        have Kk50 := Lib.hid k48
        clear k48
        have kvV0 : Sees V0 (w.heap.size) w47 := sees_kept _ (kept_trans KB37.out Kk50.out)
        have kvW28 : Sees W28 (w.heap.size) w47 := sees_kept _ Kk50.out
        go_wp2_with (refine stop_load 34 (.tmp 11) rfl ?_)
        intro _
        refine wpList_load_part (wr.heap.size) (0) 34 (.tmp 11) #[.bool false, .int .i64 u.k, .int .i64 u.i, .int .i64 u.j, .int .i64 u.n, (.slice au u.kids.length cu), .int .i64 v.k, .int .i64 v.i, .int .i64 v.j, .int .i64 v.n, (.slice av v.kids.length cv), .int .i64 x.k, .int .i64 x.i, .int .i64 x.j, .int .i64 x.n, (.slice ax x.kids.length cx), .int .i64 i] dj (blk_at HX46.out Kk50.out) (by rfl) rfl (by rfl) (by rfl) dj1 (by cases dj <;> first | rfl | exact dj2) (by kernel_rfl) ?_
        go_wp2_with fail
        clear kvV0
        clear kvW28
        refine (rright0_any (c.length : Int) i u v x (Par w V0.heap.size (wr.heap.size :: []) P) w47 ((.slice au u.kids.length cu)) ((.slice av v.kids.length cv)) ((.slice ax x.kids.length cx)) Gu.out (HL39.out.later Kk50.out) Gv.out (HL40.out.later Kk50.out) Gx.out (HL41.out.later Kk50.out) Ri.out HRN.out).mono ?_
        obtain ⟨rb54, hb53⟩ : ∃ qb, (rightJ (⟨false, u, v, x, i⟩ : Jd) (c.length : Int)) = qb := ⟨_, rfl⟩
        rw [hb53]
        have Hhb53 := Lib.hid hb53
        clear hb53
        rintro e w51 ⟨rfl, k52⟩
        have Kk55 := Lib.hid k52
        clear k52
        cases rb54 with
        | false =>
          have kvV0 : Sees V0 (w.heap.size) w51 := sees_kept _ (kept_trans KB37.out (kept_trans Kk50.out Kk55.out))
          have kvW28 : Sees W28 (w.heap.size) w51 := sees_kept _ (kept_trans Kk50.out Kk55.out)
          go_upto_region 10 with fail
          go_wp2_with (refine stop_store 34 (.tmp 8) (.tmp 44) rfl ?_)
          intro _
          refine wpList_store_part_n (by rfl) 34 (.tmp 8) (.tmp 44) rfl (w.heap.size) 0 #[.bool false, .int .i64 0, .int .i64 0, .int .i64 0, .int .i64 0, .slice none 0 0, .int .i64 0, .int .i64 0, .int .i64 0, .int .i64 0, .slice none 0 0, .int .i64 0, .int .i64 0, .int .i64 0, .int .i64 0, .slice none 0 0, .int .i64 0] (by rfl) (by rfl) 34 (by kernel_rfl) (row_ok rfl) ?_
          intro W56 hW56
          clear kvV0
          clear kvW28
          subst hW56
          refine ⟨_, #[.bool false, .int .i64 0, .int .i64 0, .int .i64 0, .int .i64 0, .slice none 0 0, .int .i64 0, .int .i64 0, .int .i64 0, .int .i64 0, .slice none 0 0, .int .i64 0, .int .i64 0, .int .i64 0, .int .i64 0, .slice none 0 0, .int .i64 0], (blk_at Hx1.out (kept_trans KB37.out (kept_trans Kk50.out Kk55.out))), rfl, Nat.le_of_ble_eq_true rfl, ?_⟩
          intro W57 hW57
          go_wp2_with fail
          (try simp only [Exit.inBlock, Exit.then])
          refine bodyPost_ret (results_cell_tmp rfl _ _ (w.heap.size) 34 _ _ dj rfl (blk_same (blk_at Hx1.out (kept_trans KB37.out (kept_trans Kk50.out Kk55.out))) hW57) dj1 (by cases dj <;> first | rfl | exact dj2) (by kernel_rfl)) rfl ?_
          have jz61 := Z0.out
          have jq58 := par_end (par_row' (liesQ_nil w51 (Par w V0.heap.size (wr.heap.size :: []) P)) hW57 (by omega) (by omega)) (by omega)
          have jq59 := par_end (par_row' (liesQ_nil w51 (Par w V0.heap.size (wr.heap.size :: []) P)) hW57 (by omega) (by omega)) (by omega)
          have jq60 := par_end (par_row' (liesQ_nil w51 (Par w V0.heap.size (wr.heap.size :: []) P)) hW57 (by omega) (by omega)) (by omega)
          exact ⟨false, ⟨false, .zero, .zero, .zero, 0⟩, _, _, _, rfl, ⟨zero_fine, zero_fine, zero_fine, by show I64 0; unfold I64; decide⟩, ⟨jq58, jq59, jq60⟩, (fun h => nomatch h), kept_set (kept_trans KB36.out (kept_trans Kk50.out Kk55.out)) hW57 (by omega)⟩
        | true =>
          have kvV0 : Sees V0 (w.heap.size) w51 := sees_kept _ (kept_trans KB37.out (kept_trans Kk50.out Kk55.out))
          have kvW28 : Sees W28 (w.heap.size) w51 := sees_kept _ (kept_trans Kk50.out Kk55.out)
          go_wp2
          go_roundw
          case rel => exact ⟨1, by decide, by decide, by go_num, ⟨fun _ => Hhb53.out, (fun h => absurd h (by decide))⟩, (kept_trans Kk26.out (kept_trans KB38.out (kept_trans Kk50.out Kk55.out)))⟩
          case measure => simp [intOf]
      · clear hi0 hi1
        have kvV0 : Sees V0 (w.heap.size) wr := sees_kept _ (kept_trans Kk12.out (kept_trans Kk17.out Kk26.out))
        go_wp2_with (refine stop_load 34 (.tmp 31) rfl ?_)
        intro _
        refine wpList_load_part (bon) (oon + 17) 34 (.tmp 31) #[.bool false, .int .i64 u2.k, .int .i64 u2.i, .int .i64 u2.j, .int .i64 u2.n, (.slice au2 u2.kids.length cu2), .int .i64 v2.k, .int .i64 v2.i, .int .i64 v2.j, .int .i64 v2.n, (.slice av2 v2.kids.length cv2), .int .i64 x2.k, .int .i64 x2.i, .int .i64 x2.j, .int .i64 x2.n, (.slice ax2 x2.kids.length cx2), .int .i64 i2] dj (blk_at HBon.out (kept_trans Kk12.out (kept_trans Kk17.out Kk26.out))) (by rfl) rfl (by rfl) (row_subW HSon1.out 0 17 (by decide)) dj1 (by cases dj <;> first | rfl | exact dj2) (by kernel_rfl) ?_
        go_wp2_with (refine stop_store 34 (.tmp 11) (.tmp 32) rfl ?_)
        intro _
        refine wpList_store_part_n (by rfl) 34 (.tmp 11) (.tmp 32) rfl (wr.heap.size) 0 #[.bool false, .int .i64 u2.k, .int .i64 u2.i, .int .i64 u2.j, .int .i64 u2.n, (.slice au2 u2.kids.length cu2), .int .i64 v2.k, .int .i64 v2.i, .int .i64 v2.j, .int .i64 v2.n, (.slice av2 v2.kids.length cv2), .int .i64 x2.k, .int .i64 x2.i, .int .i64 x2.j, .int .i64 x2.n, (.slice ax2 x2.kids.length cx2), .int .i64 i2] (by rfl) (by rfl) 34 (by kernel_rfl) (row_ok rfl) ?_
        intro W62 hW62
        clear kvV0
        obtain ⟨k65, x64, z66⟩ := alloc1 hW62
        have Kk67 := Lib.hid k65
        clear k65
        have Hx64 := Lib.hid x64
        have Hz66 := Lib.hid z66
        clear x64 z66 hW62
        have HG68 : Hid (V0.heap.size ≤ wr.heap.size) := (Below.size (kept_trans Kk12.out (kept_trans Kk17.out Kk26.out)))
        have XL69 : Hid (XLt (wr.heap.size :: []) W62) := (xlt_more (xlt_nil _) Kk67.out (by have := Hz66.out; omega))
        have HD70 : Hid (wr.heap.size ≤ wr.heap.size) := Below.size (kept_refl _)
        refine ⟨_, #[.bool false, .int .i64 u2.k, .int .i64 u2.i, .int .i64 u2.j, .int .i64 u2.n, (.slice au2 u2.kids.length cu2), .int .i64 v2.k, .int .i64 v2.i, .int .i64 v2.j, .int .i64 v2.n, (.slice av2 v2.kids.length cv2), .int .i64 x2.k, .int .i64 x2.i, .int .i64 x2.j, .int .i64 x2.n, (.slice ax2 x2.kids.length cx2), .int .i64 i2], Hx64.out, rfl, Nat.le_of_ble_eq_true rfl, ?_⟩
        intro W63 hW63
        have KB71 := Lib.hid (kept_set (kept_trans Kk4.out (kept_trans Kk12.out (kept_trans Kk17.out (kept_trans Kk26.out Kk67.out)))) hW63 (by have := HG68.out; have := Z0.out; omega))
        have KB72 := Lib.hid (kept_set (kept_trans Kk12.out (kept_trans Kk17.out (kept_trans Kk26.out Kk67.out))) hW63 HG68.out)
        have KB73 := Lib.hid (kept_set Kk67.out hW63 HD70.out)
        have HL74 : Hid (LiesQ W63 (Par w V0.heap.size (wr.heap.size :: []) P) u2.kids _) := par_set (par_grow HLu2.out (kept_trans Kk12.out (kept_trans Kk17.out (kept_trans Kk26.out Kk67.out))) (List.forall_mem_cons.2 ⟨(Or.inr (Nat.le_trans (Below.size (kept_trans Kk12.out (kept_trans Kk17.out Kk26.out))) (Nat.le_refl wr.heap.size))), (fun _ h => nomatch h)⟩)) hW63 (List.mem_cons_self ..) (by have := HG68.out; have := Z0.out; omega)
        have HL75 : Hid (LiesQ W63 (Par w V0.heap.size (wr.heap.size :: []) P) v2.kids _) := par_set (par_grow HLv2.out (kept_trans Kk12.out (kept_trans Kk17.out (kept_trans Kk26.out Kk67.out))) (List.forall_mem_cons.2 ⟨(Or.inr (Nat.le_trans (Below.size (kept_trans Kk12.out (kept_trans Kk17.out Kk26.out))) (Nat.le_refl wr.heap.size))), (fun _ h => nomatch h)⟩)) hW63 (List.mem_cons_self ..) (by have := HG68.out; have := Z0.out; omega)
        have HL76 : Hid (LiesQ W63 (Par w V0.heap.size (wr.heap.size :: []) P) x2.kids _) := par_set (par_grow HLx2.out (kept_trans Kk12.out (kept_trans Kk17.out (kept_trans Kk26.out Kk67.out))) (List.forall_mem_cons.2 ⟨(Or.inr (Nat.le_trans (Below.size (kept_trans Kk12.out (kept_trans Kk17.out Kk26.out))) (Nat.le_refl wr.heap.size))), (fun _ h => nomatch h)⟩)) hW63 (List.mem_cons_self ..) (by have := HG68.out; have := Z0.out; omega)
        have HL77 : Hid (LiesQ W63 (Par w V0.heap.size (wr.heap.size :: []) P) u.kids _) := par_set (par_grow HLu.out (kept_trans Kk12.out (kept_trans Kk17.out (kept_trans Kk26.out Kk67.out))) (List.forall_mem_cons.2 ⟨(Or.inr (Nat.le_trans (Below.size (kept_trans Kk12.out (kept_trans Kk17.out Kk26.out))) (Nat.le_refl wr.heap.size))), (fun _ h => nomatch h)⟩)) hW63 (List.mem_cons_self ..) (by have := HG68.out; have := Z0.out; omega)
        have HL78 : Hid (LiesQ W63 (Par w V0.heap.size (wr.heap.size :: []) P) v.kids _) := par_set (par_grow HLv.out (kept_trans Kk12.out (kept_trans Kk17.out (kept_trans Kk26.out Kk67.out))) (List.forall_mem_cons.2 ⟨(Or.inr (Nat.le_trans (Below.size (kept_trans Kk12.out (kept_trans Kk17.out Kk26.out))) (Nat.le_refl wr.heap.size))), (fun _ h => nomatch h)⟩)) hW63 (List.mem_cons_self ..) (by have := HG68.out; have := Z0.out; omega)
        have HL79 : Hid (LiesQ W63 (Par w V0.heap.size (wr.heap.size :: []) P) x.kids _) := par_set (par_grow HLx.out (kept_trans Kk12.out (kept_trans Kk17.out (kept_trans Kk26.out Kk67.out))) (List.forall_mem_cons.2 ⟨(Or.inr (Nat.le_trans (Below.size (kept_trans Kk12.out (kept_trans Kk17.out Kk26.out))) (Nat.le_refl wr.heap.size))), (fun _ h => nomatch h)⟩)) hW63 (List.mem_cons_self ..) (by have := HG68.out; have := Z0.out; omega)
        have XL80 := Lib.hid (xlt_set XL69.out hW63)
        have HX81 := Lib.hid (blk_same Hx64.out hW63)
        clear hW63
        have kvV0 : Sees V0 (w.heap.size) W63 := sees_kept _ KB72.out
        have kvW63 : Sees W63 (w.heap.size) W63 := sees_kept _ (kept_refl _)
        go_wp2_with fail
        clear kvV0
        clear kvW63
        have hq84 := innerK 12 1 W63
        rw [show Dv.innerB 12 1 = false from by decide] at hq84
        refine hq84.mono ?_
        clear hq84
        rintro e w82 ⟨rfl, k83⟩
        have Kk85 := Lib.hid k83
        clear k83
        have kvV0 : Sees V0 (w.heap.size) w82 := sees_kept _ (kept_trans KB72.out Kk85.out)
        have kvW63 : Sees W63 (w.heap.size) w82 := sees_kept _ Kk85.out
        go_wp2_with (refine stop_load 34 (.tmp 11) rfl ?_)
        intro _
        refine wpList_load_part (wr.heap.size) (0) 34 (.tmp 11) #[.bool false, .int .i64 u2.k, .int .i64 u2.i, .int .i64 u2.j, .int .i64 u2.n, (.slice au2 u2.kids.length cu2), .int .i64 v2.k, .int .i64 v2.i, .int .i64 v2.j, .int .i64 v2.n, (.slice av2 v2.kids.length cv2), .int .i64 x2.k, .int .i64 x2.i, .int .i64 x2.j, .int .i64 x2.n, (.slice ax2 x2.kids.length cx2), .int .i64 i2] dj (blk_at HX81.out Kk85.out) (by rfl) rfl (by rfl) (by rfl) dj1 (by cases dj <;> first | rfl | exact dj2) (by kernel_rfl) ?_
        go_wp2_with fail
        clear kvV0
        clear kvW63
        refine (rright0_any (c.length : Int) i2 u2 v2 x2 (Par w V0.heap.size (wr.heap.size :: []) P) w82 ((.slice au2 u2.kids.length cu2)) ((.slice av2 v2.kids.length cv2)) ((.slice ax2 x2.kids.length cx2)) Gu2.out (HL74.out.later Kk85.out) Gv2.out (HL75.out.later Kk85.out) Gx2.out (HL76.out.later Kk85.out) Ri2.out HRN.out).mono ?_
        obtain ⟨rb89, hb88⟩ : ∃ qb, (rightJ (⟨false, u2, v2, x2, i2⟩ : Jd) (c.length : Int)) = qb := ⟨_, rfl⟩
        rw [hb88]
        have Hhb88 := Lib.hid hb88
        clear hb88
        rintro e w86 ⟨rfl, k87⟩
        have Kk90 := Lib.hid k87
        clear k87
        cases rb89 with
        | false =>
          have kvV0 : Sees V0 (w.heap.size) w86 := sees_kept _ (kept_trans KB72.out (kept_trans Kk85.out Kk90.out))
          have kvW63 : Sees W63 (w.heap.size) w86 := sees_kept _ (kept_trans Kk85.out Kk90.out)
          go_upto_region 10 with fail
          go_wp2_with (refine stop_store 34 (.tmp 8) (.tmp 44) rfl ?_)
          intro _
          refine wpList_store_part_n (by rfl) 34 (.tmp 8) (.tmp 44) rfl (w.heap.size) 0 #[.bool false, .int .i64 0, .int .i64 0, .int .i64 0, .int .i64 0, .slice none 0 0, .int .i64 0, .int .i64 0, .int .i64 0, .int .i64 0, .slice none 0 0, .int .i64 0, .int .i64 0, .int .i64 0, .int .i64 0, .slice none 0 0, .int .i64 0] (by rfl) (by rfl) 34 (by kernel_rfl) (row_ok rfl) ?_
          intro W91 hW91
          clear kvV0
          clear kvW63
          subst hW91
          refine ⟨_, #[.bool false, .int .i64 0, .int .i64 0, .int .i64 0, .int .i64 0, .slice none 0 0, .int .i64 0, .int .i64 0, .int .i64 0, .int .i64 0, .slice none 0 0, .int .i64 0, .int .i64 0, .int .i64 0, .int .i64 0, .slice none 0 0, .int .i64 0], (blk_at Hx1.out (kept_trans KB72.out (kept_trans Kk85.out Kk90.out))), rfl, Nat.le_of_ble_eq_true rfl, ?_⟩
          intro W92 hW92
          go_wp2_with fail
          (try simp only [Exit.inBlock, Exit.then])
          refine bodyPost_ret (results_cell_tmp rfl _ _ (w.heap.size) 34 _ _ dj rfl (blk_same (blk_at Hx1.out (kept_trans KB72.out (kept_trans Kk85.out Kk90.out))) hW92) dj1 (by cases dj <;> first | rfl | exact dj2) (by kernel_rfl)) rfl ?_
          have jz96 := Z0.out
          have jq93 := par_end (par_row' (liesQ_nil w86 (Par w V0.heap.size (wr.heap.size :: []) P)) hW92 (by omega) (by omega)) (by omega)
          have jq94 := par_end (par_row' (liesQ_nil w86 (Par w V0.heap.size (wr.heap.size :: []) P)) hW92 (by omega) (by omega)) (by omega)
          have jq95 := par_end (par_row' (liesQ_nil w86 (Par w V0.heap.size (wr.heap.size :: []) P)) hW92 (by omega) (by omega)) (by omega)
          exact ⟨false, ⟨false, .zero, .zero, .zero, 0⟩, _, _, _, rfl, ⟨zero_fine, zero_fine, zero_fine, by show I64 0; unfold I64; decide⟩, ⟨jq93, jq94, jq95⟩, (fun h => nomatch h), kept_set (kept_trans KB71.out (kept_trans Kk85.out Kk90.out)) hW92 (by omega)⟩
        | true =>
          have kvV0 : Sees V0 (w.heap.size) w86 := sees_kept _ (kept_trans KB72.out (kept_trans Kk85.out Kk90.out))
          have kvW63 : Sees W63 (w.heap.size) w86 := sees_kept _ (kept_trans Kk85.out Kk90.out)
          go_wp2
          go_roundw
          case rel => exact ⟨2, by decide, by decide, by go_num, ⟨fun _ => HVhv25.out.1 (by decide), fun _ => Hhb88.out⟩, (kept_trans Kk26.out (kept_trans KB73.out (kept_trans Kk85.out Kk90.out)))⟩
          case measure => simp [intOf]
      · clear hi0 hi1
        have kvV0 : Sees V0 (w.heap.size) wr := sees_kept _ (kept_trans Kk12.out (kept_trans Kk17.out Kk26.out))
        go_wp2_with fail
        clear kvV0
        refine ((con12ff_any i i2 c u v x u2 v2 x2 (Par w V0.heap.size [] P) wr ((.slice ac c.length cc)) bon oon capon _ _ _ ((.slice au u.kids.length cu)) ((.slice av v.kids.length cv)) ((.slice ax x.kids.length cx)) ((.slice au2 u2.kids.length cu2)) ((.slice av2 v2.kids.length cv2)) ((.slice ax2 x2.kids.length cx2)) (HEc.out.keep (kept_trans Kk4.out (kept_trans Kk12.out (kept_trans Kk17.out Kk26.out)))) Gu.out (HLu.out.later (kept_trans Kk12.out (kept_trans Kk17.out Kk26.out))) Gv.out (HLv.out.later (kept_trans Kk12.out (kept_trans Kk17.out Kk26.out))) Gx.out (HLx.out.later (kept_trans Kk12.out (kept_trans Kk17.out Kk26.out))) Ri.out Gu2.out (HLu2.out.later (kept_trans Kk12.out (kept_trans Kk17.out Kk26.out))) Gv2.out (HLv2.out.later (kept_trans Kk12.out (kept_trans Kk17.out Kk26.out))) Gx2.out (HLx2.out.later (kept_trans Kk12.out (kept_trans Kk17.out Kk26.out))) Ri2.out (blk_at HBon.out (kept_trans Kk12.out (kept_trans Kk17.out Kk26.out))) HSon0.out HSon1.out (pure_range (rightJ_pure (HVhv25.out.2 (by decide)))).1 (pure_range (rightJ_pure (HVhv25.out.2 (by decide)))).2)).mono ?_
        rintro e w97 ⟨s99, s100, s101, rfl, ⟨hl102, hl103, hl104⟩, k98⟩
        obtain ⟨a105, c106, S107, rfl, -⟩ := hl102.out
        obtain ⟨a108, c109, S110, rfl, -⟩ := hl103.out
        obtain ⟨a111, c112, S113, rfl, -⟩ := hl104.out
        have Kk114 := Lib.hid k98
        clear k98
        have Hhl102 : Hid (LiesQ w97 (Par w V0.heap.size [] P) u.kids _) := par_give hl102 (Below.size (kept_trans Kk12.out (kept_trans Kk17.out Kk26.out))) (xlt_nil _)
        have Hhl103 : Hid (LiesQ w97 (Par w V0.heap.size [] P) Tm.zero.kids _) := par_give hl103 (Below.size (kept_trans Kk12.out (kept_trans Kk17.out Kk26.out))) (xlt_nil _)
        have Hhl104 : Hid (LiesQ w97 (Par w V0.heap.size [] P) v2.kids _) := par_give hl104 (Below.size (kept_trans Kk12.out (kept_trans Kk17.out Kk26.out))) (xlt_nil _)
        clear hl102 hl103 hl104
        have kvV0 : Sees V0 (w.heap.size) w97 := sees_kept _ (kept_trans Kk12.out (kept_trans Kk17.out (kept_trans Kk26.out Kk114.out)))
        go_wp2_with (refine stop_store 34 (.tmp 13) (.tmp 52) rfl ?_)
        intro _
        refine wpList_store_part_n (by rfl) 34 (.tmp 13) (.tmp 52) rfl (w97.heap.size) 0 #[.bool false, .int .i64 u.k, .int .i64 u.i, .int .i64 u.j, .int .i64 u.n, (.slice a105 u.kids.length c106), .int .i64 Tm.zero.k, .int .i64 Tm.zero.i, .int .i64 Tm.zero.j, .int .i64 Tm.zero.n, (.slice a108 Tm.zero.kids.length c109), .int .i64 v2.k, .int .i64 v2.i, .int .i64 v2.j, .int .i64 v2.n, (.slice a111 v2.kids.length c112), .int .i64 i] (by rfl) (by rfl) 34 (by kernel_rfl) (row_ok rfl) ?_
        intro W115 hW115
        clear kvV0
        obtain ⟨k118, x117, z119⟩ := alloc1 hW115
        have Kk120 := Lib.hid k118
        clear k118
        have Hx117 := Lib.hid x117
        have Hz119 := Lib.hid z119
        clear x117 z119 hW115
        have HG121 : Hid (V0.heap.size ≤ w97.heap.size) := (Below.size (kept_trans Kk12.out (kept_trans Kk17.out (kept_trans Kk26.out Kk114.out))))
        have XL122 : Hid (XLt (w97.heap.size :: []) W115) := (xlt_more (xlt_nil _) Kk120.out (by have := Hz119.out; omega))
        have HD123 : Hid (wr.heap.size ≤ w97.heap.size) := Below.size Kk114.out
        refine ⟨_, #[.bool false, .int .i64 u.k, .int .i64 u.i, .int .i64 u.j, .int .i64 u.n, (.slice a105 u.kids.length c106), .int .i64 Tm.zero.k, .int .i64 Tm.zero.i, .int .i64 Tm.zero.j, .int .i64 Tm.zero.n, (.slice a108 Tm.zero.kids.length c109), .int .i64 v2.k, .int .i64 v2.i, .int .i64 v2.j, .int .i64 v2.n, (.slice a111 v2.kids.length c112), .int .i64 i], Hx117.out, rfl, Nat.le_of_ble_eq_true rfl, ?_⟩
        intro W116 hW116
        have KB124 := Lib.hid (kept_set (kept_trans Kk4.out (kept_trans Kk12.out (kept_trans Kk17.out (kept_trans Kk26.out (kept_trans Kk114.out Kk120.out))))) hW116 (by have := HG121.out; have := Z0.out; omega))
        have KB125 := Lib.hid (kept_set (kept_trans Kk12.out (kept_trans Kk17.out (kept_trans Kk26.out (kept_trans Kk114.out Kk120.out)))) hW116 HG121.out)
        have KB126 := Lib.hid (kept_set (kept_trans Kk114.out Kk120.out) hW116 HD123.out)
        have HL127 : Hid (LiesQ W116 (Par w V0.heap.size (w97.heap.size :: []) P) u.kids _) := par_set (par_grow Hhl102.out Kk120.out (List.forall_mem_cons.2 ⟨(Or.inr (Nat.le_refl w97.heap.size)), (fun _ h => nomatch h)⟩)) hW116 (List.mem_cons_self ..) (by have := HG121.out; have := Z0.out; omega)
        have HL128 : Hid (LiesQ W116 (Par w V0.heap.size (w97.heap.size :: []) P) Tm.zero.kids _) := par_set (par_grow Hhl103.out Kk120.out (List.forall_mem_cons.2 ⟨(Or.inr (Nat.le_refl w97.heap.size)), (fun _ h => nomatch h)⟩)) hW116 (List.mem_cons_self ..) (by have := HG121.out; have := Z0.out; omega)
        have HL129 : Hid (LiesQ W116 (Par w V0.heap.size (w97.heap.size :: []) P) v2.kids _) := par_set (par_grow Hhl104.out Kk120.out (List.forall_mem_cons.2 ⟨(Or.inr (Nat.le_refl w97.heap.size)), (fun _ h => nomatch h)⟩)) hW116 (List.mem_cons_self ..) (by have := HG121.out; have := Z0.out; omega)
        have HL130 : Hid (LiesQ W116 (Par w V0.heap.size (w97.heap.size :: []) P) u.kids _) := par_set (par_grow HLu.out (kept_trans Kk12.out (kept_trans Kk17.out (kept_trans Kk26.out (kept_trans Kk114.out Kk120.out)))) (List.forall_mem_cons.2 ⟨(Or.inr (Nat.le_trans (Below.size (kept_trans Kk12.out (kept_trans Kk17.out (kept_trans Kk26.out Kk114.out)))) (Nat.le_refl w97.heap.size))), (fun _ h => nomatch h)⟩)) hW116 (List.mem_cons_self ..) (by have := HG121.out; have := Z0.out; omega)
        have HL131 : Hid (LiesQ W116 (Par w V0.heap.size (w97.heap.size :: []) P) v.kids _) := par_set (par_grow HLv.out (kept_trans Kk12.out (kept_trans Kk17.out (kept_trans Kk26.out (kept_trans Kk114.out Kk120.out)))) (List.forall_mem_cons.2 ⟨(Or.inr (Nat.le_trans (Below.size (kept_trans Kk12.out (kept_trans Kk17.out (kept_trans Kk26.out Kk114.out)))) (Nat.le_refl w97.heap.size))), (fun _ h => nomatch h)⟩)) hW116 (List.mem_cons_self ..) (by have := HG121.out; have := Z0.out; omega)
        have HL132 : Hid (LiesQ W116 (Par w V0.heap.size (w97.heap.size :: []) P) x.kids _) := par_set (par_grow HLx.out (kept_trans Kk12.out (kept_trans Kk17.out (kept_trans Kk26.out (kept_trans Kk114.out Kk120.out)))) (List.forall_mem_cons.2 ⟨(Or.inr (Nat.le_trans (Below.size (kept_trans Kk12.out (kept_trans Kk17.out (kept_trans Kk26.out Kk114.out)))) (Nat.le_refl w97.heap.size))), (fun _ h => nomatch h)⟩)) hW116 (List.mem_cons_self ..) (by have := HG121.out; have := Z0.out; omega)
        have HL133 : Hid (LiesQ W116 (Par w V0.heap.size (w97.heap.size :: []) P) u2.kids _) := par_set (par_grow HLu2.out (kept_trans Kk12.out (kept_trans Kk17.out (kept_trans Kk26.out (kept_trans Kk114.out Kk120.out)))) (List.forall_mem_cons.2 ⟨(Or.inr (Nat.le_trans (Below.size (kept_trans Kk12.out (kept_trans Kk17.out (kept_trans Kk26.out Kk114.out)))) (Nat.le_refl w97.heap.size))), (fun _ h => nomatch h)⟩)) hW116 (List.mem_cons_self ..) (by have := HG121.out; have := Z0.out; omega)
        have HL134 : Hid (LiesQ W116 (Par w V0.heap.size (w97.heap.size :: []) P) v2.kids _) := par_set (par_grow HLv2.out (kept_trans Kk12.out (kept_trans Kk17.out (kept_trans Kk26.out (kept_trans Kk114.out Kk120.out)))) (List.forall_mem_cons.2 ⟨(Or.inr (Nat.le_trans (Below.size (kept_trans Kk12.out (kept_trans Kk17.out (kept_trans Kk26.out Kk114.out)))) (Nat.le_refl w97.heap.size))), (fun _ h => nomatch h)⟩)) hW116 (List.mem_cons_self ..) (by have := HG121.out; have := Z0.out; omega)
        have HL135 : Hid (LiesQ W116 (Par w V0.heap.size (w97.heap.size :: []) P) x2.kids _) := par_set (par_grow HLx2.out (kept_trans Kk12.out (kept_trans Kk17.out (kept_trans Kk26.out (kept_trans Kk114.out Kk120.out)))) (List.forall_mem_cons.2 ⟨(Or.inr (Nat.le_trans (Below.size (kept_trans Kk12.out (kept_trans Kk17.out (kept_trans Kk26.out Kk114.out)))) (Nat.le_refl w97.heap.size))), (fun _ h => nomatch h)⟩)) hW116 (List.mem_cons_self ..) (by have := HG121.out; have := Z0.out; omega)
        have XL136 := Lib.hid (xlt_set XL122.out hW116)
        have HX137 := Lib.hid (blk_same Hx117.out hW116)
        clear hW116
        have ld138 := part_cell (r := (w.heap.size)) HX137.out (by have := HG121.out; have := Z0.out; omega) 0 (.bool false) rfl
        have ld139 := part_cell (r := (w.heap.size)) HX137.out (by have := HG121.out; have := Z0.out; omega) 1 (.int .i64 u.k) rfl
        have ld140 := part_cell (r := (w.heap.size)) HX137.out (by have := HG121.out; have := Z0.out; omega) 6 (.int .i64 Tm.zero.k) rfl
        have ld141 := part_cell (r := (w.heap.size)) HX137.out (by have := HG121.out; have := Z0.out; omega) 11 (.int .i64 v2.k) rfl
        have ld142 := part_cell (r := (w.heap.size)) HX137.out (by have := HG121.out; have := Z0.out; omega) 16 (.int .i64 i) rfl
        have kvV0 : Sees V0 (w.heap.size) W116 := sees_kept _ KB125.out
        have kvW116 : Sees W116 (w.heap.size) W116 := sees_kept _ (kept_refl _)
        go_upto_region 14 with fail
        go_wp2_with (refine stop_store 34 (.tmp 8) (.tmp 83) rfl ?_)
        intro _
        refine wpList_store_part_n (by rfl) 34 (.tmp 8) (.tmp 83) rfl (w.heap.size) 0 #[.bool false, .int .i64 0, .int .i64 0, .int .i64 0, .int .i64 0, .slice none 0 0, .int .i64 0, .int .i64 0, .int .i64 0, .int .i64 0, .slice none 0 0, .int .i64 0, .int .i64 0, .int .i64 0, .int .i64 0, .slice none 0 0, .int .i64 0] (by rfl) (by rfl) 34 (by kernel_rfl) (row_ok rfl) ?_
        intro W143 hW143
        clear kvV0
        clear kvW116
        subst hW143
        refine ⟨_, #[.bool false, .int .i64 0, .int .i64 0, .int .i64 0, .int .i64 0, .slice none 0 0, .int .i64 0, .int .i64 0, .int .i64 0, .int .i64 0, .slice none 0 0, .int .i64 0, .int .i64 0, .int .i64 0, .int .i64 0, .slice none 0 0, .int .i64 0], (blk_at Hx1.out KB125.out), rfl, Nat.le_of_ble_eq_true rfl, ?_⟩
        intro W144 hW144
        go_wp2_with fail
        (try simp only [Exit.inBlock, Exit.then])
        refine bodyPost_ret (results_cell_tmp rfl _ _ (w.heap.size) 34 _ _ dj rfl (blk_same (blk_at Hx1.out KB125.out) hW144) dj1 (by cases dj <;> first | rfl | exact dj2) (by kernel_rfl)) rfl ?_
        have jz148 := Z0.out
        have jq145 := par_end (par_row' (liesQ_nil W116 (Par w V0.heap.size (w97.heap.size :: []) P)) hW144 (by omega) (by omega)) (by omega)
        have jq146 := par_end (par_row' (liesQ_nil W116 (Par w V0.heap.size (w97.heap.size :: []) P)) hW144 (by omega) (by omega)) (by omega)
        have jq147 := par_end (par_row' (liesQ_nil W116 (Par w V0.heap.size (w97.heap.size :: []) P)) hW144 (by omega) (by omega)) (by omega)
        exact ⟨false, ⟨false, .zero, .zero, .zero, 0⟩, _, _, _, rfl, ⟨zero_fine, zero_fine, zero_fine, by show I64 0; unfold I64; decide⟩, ⟨jq145, jq146, jq147⟩, (fun h => nomatch h), kept_set KB124.out hW144 (by omega)⟩

def of12ftr15_0 : Oper := { dst := some 84, op := Go.Op.fieldAddr 34 (Go.Operand.tmp 13) 1, type := 0, pos := "rule.go:48", after := #[], guard := none }
def of12ftr15_1 : Oper := { dst := some 85, op := Go.Op.load 32 (Go.Operand.tmp 84), type := 32, pos := "rule.go:48", after := #[{ on := 0, ground := Go.Ground.data }], guard := none }
def of12ftr15_2 : Oper := { dst := some 86, op := Go.Op.call { callee := Go.Callee.value (Go.Operand.func 35), args := #[Go.Operand.tmp 85], argTypes := #[32] }, type := 32, pos := "rule.go:48", after := #[{ on := 1, ground := Go.Ground.data }], guard := none }
def of12ftr15_3 : Oper := { dst := some 87, op := Go.Op.fieldAddr 34 (Go.Operand.tmp 13) 2, type := 0, pos := "rule.go:48", after := #[], guard := none }
def of12ftr15_4 : Oper := { dst := some 88, op := Go.Op.load 32 (Go.Operand.tmp 87), type := 32, pos := "rule.go:48", after := #[{ on := 3, ground := Go.Ground.data }], guard := none }
def of12ftr15_5 : Oper := { dst := some 89, op := Go.Op.call { callee := Go.Callee.value (Go.Operand.func 35), args := #[Go.Operand.tmp 88], argTypes := #[32] }, type := 32, pos := "rule.go:48", after := #[{ on := 4, ground := Go.Ground.data }, { on := 2, ground := Go.Ground.chain }], guard := none }
def of12ftr15_6 : Oper := { dst := some 90, op := Go.Op.fieldAddr 34 (Go.Operand.tmp 13) 3, type := 0, pos := "rule.go:48", after := #[], guard := none }
def of12ftr15_7 : Oper := { dst := some 91, op := Go.Op.load 32 (Go.Operand.tmp 90), type := 32, pos := "rule.go:48", after := #[{ on := 6, ground := Go.Ground.data }], guard := none }
def of12ftr15_8 : Oper := { dst := some 92, op := Go.Op.call { callee := Go.Callee.value (Go.Operand.func 35), args := #[Go.Operand.tmp 91], argTypes := #[32] }, type := 32, pos := "rule.go:48", after := #[{ on := 7, ground := Go.Ground.data }, { on := 5, ground := Go.Ground.chain }], guard := none }
def of12ftr15_9 : Oper := { dst := some 93, op := Go.Op.fieldAddr 34 (Go.Operand.tmp 13) 1, type := 0, pos := "rule.go:48", after := #[{ on := 0, ground := Go.Ground.phase }, { on := 1, ground := Go.Ground.phase }, { on := 2, ground := Go.Ground.phase }, { on := 3, ground := Go.Ground.phase }, { on := 4, ground := Go.Ground.phase }, { on := 5, ground := Go.Ground.textOnly Go.Departure.lateStoresUnsure }, { on := 6, ground := Go.Ground.phase }, { on := 7, ground := Go.Ground.phase }, { on := 8, ground := Go.Ground.textOnly Go.Departure.lateStoresUnsure }], guard := none }
def of12ftr15_10 : Oper := { dst := none, op := Go.Op.store 32 (Go.Operand.tmp 93) (Go.Operand.tmp 86), type := 0, pos := "rule.go:48", after := #[{ on := 9, ground := Go.Ground.data }, { on := 2, ground := Go.Ground.data }, { on := 8, ground := Go.Ground.chain }, { on := 0, ground := Go.Ground.phase }, { on := 1, ground := Go.Ground.phase }, { on := 2, ground := Go.Ground.phase }, { on := 3, ground := Go.Ground.phase }, { on := 4, ground := Go.Ground.phase }, { on := 5, ground := Go.Ground.textOnly Go.Departure.lateStoresUnsure }, { on := 6, ground := Go.Ground.phase }, { on := 7, ground := Go.Ground.phase }, { on := 8, ground := Go.Ground.textOnly Go.Departure.lateStoresUnsure }], guard := none }
def of12ftr15_11 : Oper := { dst := some 94, op := Go.Op.fieldAddr 34 (Go.Operand.tmp 13) 2, type := 0, pos := "rule.go:48", after := #[{ on := 0, ground := Go.Ground.phase }, { on := 1, ground := Go.Ground.phase }, { on := 2, ground := Go.Ground.phase }, { on := 3, ground := Go.Ground.phase }, { on := 4, ground := Go.Ground.phase }, { on := 5, ground := Go.Ground.phase }, { on := 6, ground := Go.Ground.phase }, { on := 7, ground := Go.Ground.phase }, { on := 8, ground := Go.Ground.textOnly Go.Departure.lateStoresUnsure }, { on := 9, ground := Go.Ground.phase }, { on := 10, ground := Go.Ground.phase }], guard := none }
def of12ftr15_12 : Oper := { dst := none, op := Go.Op.store 32 (Go.Operand.tmp 94) (Go.Operand.tmp 89), type := 0, pos := "rule.go:48", after := #[{ on := 11, ground := Go.Ground.data }, { on := 5, ground := Go.Ground.data }, { on := 10, ground := Go.Ground.chain }, { on := 0, ground := Go.Ground.phase }, { on := 1, ground := Go.Ground.phase }, { on := 2, ground := Go.Ground.phase }, { on := 3, ground := Go.Ground.phase }, { on := 4, ground := Go.Ground.phase }, { on := 5, ground := Go.Ground.phase }, { on := 6, ground := Go.Ground.phase }, { on := 7, ground := Go.Ground.phase }, { on := 8, ground := Go.Ground.textOnly Go.Departure.lateStoresUnsure }, { on := 9, ground := Go.Ground.phase }, { on := 10, ground := Go.Ground.phase }], guard := none }
def of12ftr15_13 : Oper := { dst := some 95, op := Go.Op.fieldAddr 34 (Go.Operand.tmp 13) 3, type := 0, pos := "rule.go:48", after := #[{ on := 0, ground := Go.Ground.phase }, { on := 1, ground := Go.Ground.phase }, { on := 2, ground := Go.Ground.phase }, { on := 3, ground := Go.Ground.phase }, { on := 4, ground := Go.Ground.phase }, { on := 5, ground := Go.Ground.phase }, { on := 6, ground := Go.Ground.phase }, { on := 7, ground := Go.Ground.phase }, { on := 8, ground := Go.Ground.phase }, { on := 9, ground := Go.Ground.phase }, { on := 10, ground := Go.Ground.phase }, { on := 11, ground := Go.Ground.phase }, { on := 12, ground := Go.Ground.phase }], guard := none }
def of12ftr15_14 : Oper := { dst := none, op := Go.Op.store 32 (Go.Operand.tmp 95) (Go.Operand.tmp 92), type := 0, pos := "rule.go:48", after := #[{ on := 13, ground := Go.Ground.data }, { on := 8, ground := Go.Ground.data }, { on := 12, ground := Go.Ground.chain }, { on := 0, ground := Go.Ground.phase }, { on := 1, ground := Go.Ground.phase }, { on := 2, ground := Go.Ground.phase }, { on := 3, ground := Go.Ground.phase }, { on := 4, ground := Go.Ground.phase }, { on := 5, ground := Go.Ground.phase }, { on := 6, ground := Go.Ground.phase }, { on := 7, ground := Go.Ground.phase }, { on := 8, ground := Go.Ground.phase }, { on := 9, ground := Go.Ground.phase }, { on := 10, ground := Go.Ground.phase }, { on := 11, ground := Go.Ground.phase }, { on := 12, ground := Go.Ground.phase }], guard := none }
set_option maxRecDepth 20000 in
set_option maxHeartbeats 4000000 in
theorem of12ft_any (i : Int) (i2 : Int) (c : List En) (u : Tm) (v : Tm) (x : Tm) (u2 : Tm) (v2 : Tm) (x2 : Tm) (P : Nat → Prop) (w : World) (sc : Value) (bon oon capon : Nat) (Con : Array Value) (Ton : TypeId) (fron : Nat × Nat) (su : Value) (sv : Value) (sx : Value) (su2 : Value) (sv2 : Value) (sx2 : Value) (hlc : LiesE w c sc) (hfu : u.fine) (hlu : LiesQ w P u.kids su) (hfv : v.fine) (hlv : LiesQ w P v.kids sv) (hfx : x.fine) (hlx : LiesQ w P x.kids sx) (hri : I64 i) (hfu2 : u2.fine) (hlu2 : LiesQ w P u2.kids su2) (hfv2 : v2.fine) (hlv2 : LiesQ w P v2.kids sv2) (hfx2 : x2.fine) (hlx2 : LiesQ w P x2.kids sx2) (hri2 : I64 i2) (hbon : w.heap[bon]? = some (.cells Con Ton fron)) (hson0 : (Con.toList.drop oon).take 17 = [.bool false, .int .i64 u.k, .int .i64 u.i, .int .i64 u.j, .int .i64 u.n, su, .int .i64 v.k, .int .i64 v.i, .int .i64 v.j, .int .i64 v.n, sv, .int .i64 x.k, .int .i64 x.i, .int .i64 x.j, .int .i64 x.n, sx, .int .i64 i]) (hson1 : (Con.toList.drop (oon + 17)).take 17 = [.bool true, .int .i64 u2.k, .int .i64 u2.i, .int .i64 u2.j, .int .i64 u2.n, su2, .int .i64 v2.k, .int .i64 v2.i, .int .i64 v2.j, .int .i64 v2.n, sv2, .int .i64 x2.k, .int .i64 x2.i, .int .i64 x2.j, .int .i64 x2.n, sx2, .int .i64 i2]) (hlen : c.length ≤ 100000) (hzu : u.size ≤ 1000000) (hzv : v2.size ≤ 1000000) : Calls Try.prog 12 #[sc, .int .i64 12, .int .i64 0, .slice (some ⟨bon, oon, none⟩) 2 capon] w (GivesOn P ⟨false, u, .zero, v2, i⟩ w) := by
  have HEc := Lib.hid hlc
  obtain ⟨ac, cc, Sc, rfl, -⟩ := hlc.out
  clear hlc
  have Gu := Lib.hid hfu
  clear hfu
  obtain ⟨au, cu, Su, rfl, -⟩ := hlu.out
  have Gv := Lib.hid hfv
  clear hfv
  obtain ⟨av, cv, Sv, rfl, -⟩ := hlv.out
  have Gx := Lib.hid hfx
  clear hfx
  obtain ⟨ax, cx, Sx, rfl, -⟩ := hlx.out
  have Ri := Lib.hid hri
  clear hri
  have Gu2 := Lib.hid hfu2
  clear hfu2
  obtain ⟨au2, cu2, Su2, rfl, -⟩ := hlu2.out
  have Gv2 := Lib.hid hfv2
  clear hfv2
  obtain ⟨av2, cv2, Sv2, rfl, -⟩ := hlv2.out
  have Gx2 := Lib.hid hfx2
  clear hfx2
  obtain ⟨ax2, cx2, Sx2, rfl, -⟩ := hlx2.out
  have Ri2 := Lib.hid hri2
  clear hri2
  have HNon : Hid (bon < w.heap.size) := block_lt hbon
  have HBon := Lib.hid hbon
  have HSon0 := Lib.hid hson0
  have HSon1 := Lib.hid hson1
  clear hbon hson0 hson1
  have HRN := Lib.hid (show I64 (c.length : Int) by unfold I64; omega)
  have HZU := Lib.hid hzu
  have HZV := Lib.hid hzv
  clear hzu hzv
  obtain ⟨dj, dj1, dj2⟩ := under_of 34 (by kernel_rfl)
  obtain ⟨du, hu1, hu2⟩ := under_term
  go_enter Try.func12, Try.ntmps12
  go_upto_region 1 with fail
  refine at_code (fun V0 hV0 => ?_)
  obtain ⟨k2, x1, z3⟩ := alloc1 hV0
  have Kk4 := Lib.hid k2
  clear k2
  have Hx1 := Lib.hid x1
  have Z0 := Lib.hid z3
  clear z3 x1 hV0
  have HLu : Hid (LiesQ V0 (Par w V0.heap.size [] P) u.kids _) := (par_in _ _ hlu).later Kk4.out
  clear hlu
  have HLv : Hid (LiesQ V0 (Par w V0.heap.size [] P) v.kids _) := (par_in _ _ hlv).later Kk4.out
  clear hlv
  have HLx : Hid (LiesQ V0 (Par w V0.heap.size [] P) x.kids _) := (par_in _ _ hlx).later Kk4.out
  clear hlx
  have HLu2 : Hid (LiesQ V0 (Par w V0.heap.size [] P) u2.kids _) := (par_in _ _ hlu2).later Kk4.out
  clear hlu2
  have HLv2 : Hid (LiesQ V0 (Par w V0.heap.size [] P) v2.kids _) := (par_in _ _ hlv2).later Kk4.out
  clear hlv2
  have HLx2 : Hid (LiesQ V0 (Par w V0.heap.size [] P) x2.kids _) := (par_in _ _ hlx2).later Kk4.out
  clear hlx2
  have HBon := Lib.hid (blk_at HBon.out Kk4.out)
  have ld5 := part_cell (r := (w.heap.size)) HBon.out (by have := HNon.out; have := Z0.out; omega) (oon) (.bool false) (row_cellW HSon0.out 0 (by decide))
  have ld6 := part_cell (r := (w.heap.size)) HBon.out (by have := HNon.out; have := Z0.out; omega) (oon + 16) (.int .i64 i) (row_cellW HSon0.out 16 (by decide))
  have ld7 := part_cell (r := (w.heap.size)) HBon.out (by have := HNon.out; have := Z0.out; omega) (oon + 17) (.bool true) (row_cellW HSon1.out 0 (by decide))
  have ld8 := part_cell (r := (w.heap.size)) HBon.out (by have := HNon.out; have := Z0.out; omega) (oon + 17 + 16) (.int .i64 i2) (row_cellW HSon1.out 16 (by decide))
  have kvV0 : Sees V0 (w.heap.size) V0 := sees_kept _ (kept_refl _)
  go_wp2_with fail
  clear kvV0
  have hq11 := kidsK 12 V0
  rw [show Dv.dkidsN 12 = 2 from by decide] at hq11
  refine hq11.mono ?_
  clear hq11
  rintro e w9 ⟨rfl, k10⟩
  have Kk12 := Lib.hid k10
  clear k10
  have kvV0 : Sees V0 (w.heap.size) w9 := sees_kept _ Kk12.out
  go_wp2_with fail
  clear kvV0
  refine (rulepure_any c w9 _ (HEc.out.keep (kept_trans Kk4.out Kk12.out))).mono ?_
  obtain ⟨rb16, hb15⟩ : ∃ qb, (purC c) = qb := ⟨_, rfl⟩
  rw [hb15]
  have Hhb15 := Lib.hid hb15
  clear hb15
  rintro e w13 ⟨rfl, k14⟩
  have Kk17 := Lib.hid k14
  clear k14
  cases rb16 with
  | false =>
    have kvV0 : Sees V0 (w.heap.size) w13 := sees_kept _ (kept_trans Kk12.out Kk17.out)
    go_upto_region 2 with fail
    go_wp2_with (refine stop_store 34 (.tmp 8) (.tmp 25) rfl ?_)
    intro _
    refine wpList_store_part_n (by rfl) 34 (.tmp 8) (.tmp 25) rfl (w.heap.size) 0 #[.bool false, .int .i64 0, .int .i64 0, .int .i64 0, .int .i64 0, .slice none 0 0, .int .i64 0, .int .i64 0, .int .i64 0, .int .i64 0, .slice none 0 0, .int .i64 0, .int .i64 0, .int .i64 0, .int .i64 0, .slice none 0 0, .int .i64 0] (by rfl) (by rfl) 34 (by kernel_rfl) (row_ok rfl) ?_
    intro W18 hW18
    clear kvV0
    subst hW18
    refine ⟨_, #[.bool false, .int .i64 0, .int .i64 0, .int .i64 0, .int .i64 0, .slice none 0 0, .int .i64 0, .int .i64 0, .int .i64 0, .int .i64 0, .slice none 0 0, .int .i64 0, .int .i64 0, .int .i64 0, .int .i64 0, .slice none 0 0, .int .i64 0], (blk_at Hx1.out (kept_trans Kk12.out Kk17.out)), rfl, Nat.le_of_ble_eq_true rfl, ?_⟩
    intro W19 hW19
    go_wp2_with fail
    (try simp only [Exit.inBlock, Exit.then])
    refine bodyPost_ret (results_cell_tmp rfl _ _ (w.heap.size) 34 _ _ dj rfl (blk_same (blk_at Hx1.out (kept_trans Kk12.out Kk17.out)) hW19) dj1 (by cases dj <;> first | rfl | exact dj2) (by kernel_rfl)) rfl ?_
    have jz23 := Z0.out
    have jq20 := par_end (par_row' (liesQ_nil w13 (Par w V0.heap.size [] P)) hW19 (by omega) (by omega)) (by omega)
    have jq21 := par_end (par_row' (liesQ_nil w13 (Par w V0.heap.size [] P)) hW19 (by omega) (by omega)) (by omega)
    have jq22 := par_end (par_row' (liesQ_nil w13 (Par w V0.heap.size [] P)) hW19 (by omega) (by omega)) (by omega)
    exact ⟨false, ⟨false, .zero, .zero, .zero, 0⟩, _, _, _, rfl, ⟨zero_fine, zero_fine, zero_fine, by show I64 0; unfold I64; decide⟩, ⟨jq20, jq21, jq22⟩, (fun h => nomatch h), kept_set (kept_trans Kk4.out (kept_trans Kk12.out Kk17.out)) hW19 (by omega)⟩
  | true =>
    have kvV0 : Sees V0 (w.heap.size) w13 := sees_kept _ (kept_trans Kk12.out Kk17.out)
    go_wp2_with fail
    clear kvV0
    go_loopw [28] (fun iv wr => ∃ qi : Int, 0 ≤ qi ∧ qi ≤ 2 ∧ iv = .int .i64 qi ∧ Hid ((1 ≤ qi → rightJ (⟨false, u, v, x, i⟩ : Jd) (c.length : Int) = true) ∧ (2 ≤ qi → rightJ (⟨true, u2, v2, x2, i2⟩ : Jd) (c.length : Int) = true)) ∧ Kept w13 wr) (fun iv _ => 2 - (intOf iv).toNat)
    case atStart => exact ⟨0, by decide, by decide, rfl, ⟨(fun h => absurd h (by decide)), (fun h => absurd h (by decide))⟩, kept_refl _⟩
    case round =>
      obtain ⟨qi, hi0, hi1, rfl, hv25, k24⟩ := hrel
      have Kk26 := Lib.hid k24
      clear k24
      have HVhv25 := Lib.hid hv25.out
      clear hv25
      obtain rfl | rfl | rfl : qi = 0 ∨ qi = 1 ∨ qi = 2 := by omega
      · clear hi0 hi1
        have kvV0 : Sees V0 (w.heap.size) wr := sees_kept _ (kept_trans Kk12.out (kept_trans Kk17.out Kk26.out))
        go_wp2_with (refine stop_load 34 (.tmp 31) rfl ?_)
        intro _
        refine wpList_load_part (bon) (oon) 34 (.tmp 31) #[.bool false, .int .i64 u.k, .int .i64 u.i, .int .i64 u.j, .int .i64 u.n, (.slice au u.kids.length cu), .int .i64 v.k, .int .i64 v.i, .int .i64 v.j, .int .i64 v.n, (.slice av v.kids.length cv), .int .i64 x.k, .int .i64 x.i, .int .i64 x.j, .int .i64 x.n, (.slice ax x.kids.length cx), .int .i64 i] dj (blk_at HBon.out (kept_trans Kk12.out (kept_trans Kk17.out Kk26.out))) (by rfl) rfl (by rfl) (row_subW HSon0.out 0 17 (by decide)) dj1 (by cases dj <;> first | rfl | exact dj2) (by kernel_rfl) ?_
        go_wp2_with (refine stop_store 34 (.tmp 11) (.tmp 32) rfl ?_)
        intro _
        refine wpList_store_part_n (by rfl) 34 (.tmp 11) (.tmp 32) rfl (wr.heap.size) 0 #[.bool false, .int .i64 u.k, .int .i64 u.i, .int .i64 u.j, .int .i64 u.n, (.slice au u.kids.length cu), .int .i64 v.k, .int .i64 v.i, .int .i64 v.j, .int .i64 v.n, (.slice av v.kids.length cv), .int .i64 x.k, .int .i64 x.i, .int .i64 x.j, .int .i64 x.n, (.slice ax x.kids.length cx), .int .i64 i] (by rfl) (by rfl) 34 (by kernel_rfl) (row_ok rfl) ?_
        intro W27 hW27
        clear kvV0
        obtain ⟨k30, x29, z31⟩ := alloc1 hW27
        have Kk32 := Lib.hid k30
        clear k30
        have Hx29 := Lib.hid x29
        have Hz31 := Lib.hid z31
        clear x29 z31 hW27
        have HG33 : Hid (V0.heap.size ≤ wr.heap.size) := (Below.size (kept_trans Kk12.out (kept_trans Kk17.out Kk26.out)))
        have XL34 : Hid (XLt (wr.heap.size :: []) W27) := (xlt_more (xlt_nil _) Kk32.out (by have := Hz31.out; omega))
        have HD35 : Hid (wr.heap.size ≤ wr.heap.size) := Below.size (kept_refl _)
        refine ⟨_, #[.bool false, .int .i64 u.k, .int .i64 u.i, .int .i64 u.j, .int .i64 u.n, (.slice au u.kids.length cu), .int .i64 v.k, .int .i64 v.i, .int .i64 v.j, .int .i64 v.n, (.slice av v.kids.length cv), .int .i64 x.k, .int .i64 x.i, .int .i64 x.j, .int .i64 x.n, (.slice ax x.kids.length cx), .int .i64 i], Hx29.out, rfl, Nat.le_of_ble_eq_true rfl, ?_⟩
        intro W28 hW28
        have KB36 := Lib.hid (kept_set (kept_trans Kk4.out (kept_trans Kk12.out (kept_trans Kk17.out (kept_trans Kk26.out Kk32.out)))) hW28 (by have := HG33.out; have := Z0.out; omega))
        have KB37 := Lib.hid (kept_set (kept_trans Kk12.out (kept_trans Kk17.out (kept_trans Kk26.out Kk32.out))) hW28 HG33.out)
        have KB38 := Lib.hid (kept_set Kk32.out hW28 HD35.out)
        have HL39 : Hid (LiesQ W28 (Par w V0.heap.size (wr.heap.size :: []) P) u.kids _) := par_set (par_grow HLu.out (kept_trans Kk12.out (kept_trans Kk17.out (kept_trans Kk26.out Kk32.out))) (List.forall_mem_cons.2 ⟨(Or.inr (Nat.le_trans (Below.size (kept_trans Kk12.out (kept_trans Kk17.out Kk26.out))) (Nat.le_refl wr.heap.size))), (fun _ h => nomatch h)⟩)) hW28 (List.mem_cons_self ..) (by have := HG33.out; have := Z0.out; omega)
        have HL40 : Hid (LiesQ W28 (Par w V0.heap.size (wr.heap.size :: []) P) v.kids _) := par_set (par_grow HLv.out (kept_trans Kk12.out (kept_trans Kk17.out (kept_trans Kk26.out Kk32.out))) (List.forall_mem_cons.2 ⟨(Or.inr (Nat.le_trans (Below.size (kept_trans Kk12.out (kept_trans Kk17.out Kk26.out))) (Nat.le_refl wr.heap.size))), (fun _ h => nomatch h)⟩)) hW28 (List.mem_cons_self ..) (by have := HG33.out; have := Z0.out; omega)
        have HL41 : Hid (LiesQ W28 (Par w V0.heap.size (wr.heap.size :: []) P) x.kids _) := par_set (par_grow HLx.out (kept_trans Kk12.out (kept_trans Kk17.out (kept_trans Kk26.out Kk32.out))) (List.forall_mem_cons.2 ⟨(Or.inr (Nat.le_trans (Below.size (kept_trans Kk12.out (kept_trans Kk17.out Kk26.out))) (Nat.le_refl wr.heap.size))), (fun _ h => nomatch h)⟩)) hW28 (List.mem_cons_self ..) (by have := HG33.out; have := Z0.out; omega)
        have HL42 : Hid (LiesQ W28 (Par w V0.heap.size (wr.heap.size :: []) P) u2.kids _) := par_set (par_grow HLu2.out (kept_trans Kk12.out (kept_trans Kk17.out (kept_trans Kk26.out Kk32.out))) (List.forall_mem_cons.2 ⟨(Or.inr (Nat.le_trans (Below.size (kept_trans Kk12.out (kept_trans Kk17.out Kk26.out))) (Nat.le_refl wr.heap.size))), (fun _ h => nomatch h)⟩)) hW28 (List.mem_cons_self ..) (by have := HG33.out; have := Z0.out; omega)
        have HL43 : Hid (LiesQ W28 (Par w V0.heap.size (wr.heap.size :: []) P) v2.kids _) := par_set (par_grow HLv2.out (kept_trans Kk12.out (kept_trans Kk17.out (kept_trans Kk26.out Kk32.out))) (List.forall_mem_cons.2 ⟨(Or.inr (Nat.le_trans (Below.size (kept_trans Kk12.out (kept_trans Kk17.out Kk26.out))) (Nat.le_refl wr.heap.size))), (fun _ h => nomatch h)⟩)) hW28 (List.mem_cons_self ..) (by have := HG33.out; have := Z0.out; omega)
        have HL44 : Hid (LiesQ W28 (Par w V0.heap.size (wr.heap.size :: []) P) x2.kids _) := par_set (par_grow HLx2.out (kept_trans Kk12.out (kept_trans Kk17.out (kept_trans Kk26.out Kk32.out))) (List.forall_mem_cons.2 ⟨(Or.inr (Nat.le_trans (Below.size (kept_trans Kk12.out (kept_trans Kk17.out Kk26.out))) (Nat.le_refl wr.heap.size))), (fun _ h => nomatch h)⟩)) hW28 (List.mem_cons_self ..) (by have := HG33.out; have := Z0.out; omega)
        have XL45 := Lib.hid (xlt_set XL34.out hW28)
        have HX46 := Lib.hid (blk_same Hx29.out hW28)
        clear hW28
        have kvV0 : Sees V0 (w.heap.size) W28 := sees_kept _ KB37.out
        have kvW28 : Sees W28 (w.heap.size) W28 := sees_kept _ (kept_refl _)
        go_wp2_with fail
        clear kvV0
        clear kvW28
        have hq49 := innerK 12 0 W28
        rw [show Dv.innerB 12 0 = false from by decide] at hq49
        refine hq49.mono ?_
        clear hq49
        rintro e w47 ⟨rfl, k48⟩
        have Kk50 := Lib.hid k48
        clear k48
        have kvV0 : Sees V0 (w.heap.size) w47 := sees_kept _ (kept_trans KB37.out Kk50.out)
        have kvW28 : Sees W28 (w.heap.size) w47 := sees_kept _ Kk50.out
        go_wp2_with (refine stop_load 34 (.tmp 11) rfl ?_)
        intro _
        refine wpList_load_part (wr.heap.size) (0) 34 (.tmp 11) #[.bool false, .int .i64 u.k, .int .i64 u.i, .int .i64 u.j, .int .i64 u.n, (.slice au u.kids.length cu), .int .i64 v.k, .int .i64 v.i, .int .i64 v.j, .int .i64 v.n, (.slice av v.kids.length cv), .int .i64 x.k, .int .i64 x.i, .int .i64 x.j, .int .i64 x.n, (.slice ax x.kids.length cx), .int .i64 i] dj (blk_at HX46.out Kk50.out) (by rfl) rfl (by rfl) (by rfl) dj1 (by cases dj <;> first | rfl | exact dj2) (by kernel_rfl) ?_
        go_wp2_with fail
        clear kvV0
        clear kvW28
        refine (rright0_any (c.length : Int) i u v x (Par w V0.heap.size (wr.heap.size :: []) P) w47 ((.slice au u.kids.length cu)) ((.slice av v.kids.length cv)) ((.slice ax x.kids.length cx)) Gu.out (HL39.out.later Kk50.out) Gv.out (HL40.out.later Kk50.out) Gx.out (HL41.out.later Kk50.out) Ri.out HRN.out).mono ?_
        obtain ⟨rb54, hb53⟩ : ∃ qb, (rightJ (⟨false, u, v, x, i⟩ : Jd) (c.length : Int)) = qb := ⟨_, rfl⟩
        rw [hb53]
        have Hhb53 := Lib.hid hb53
        clear hb53
        rintro e w51 ⟨rfl, k52⟩
        have Kk55 := Lib.hid k52
        clear k52
        cases rb54 with
        | false =>
          have kvV0 : Sees V0 (w.heap.size) w51 := sees_kept _ (kept_trans KB37.out (kept_trans Kk50.out Kk55.out))
          have kvW28 : Sees W28 (w.heap.size) w51 := sees_kept _ (kept_trans Kk50.out Kk55.out)
          go_upto_region 10 with fail
          go_wp2_with (refine stop_store 34 (.tmp 8) (.tmp 44) rfl ?_)
          intro _
          refine wpList_store_part_n (by rfl) 34 (.tmp 8) (.tmp 44) rfl (w.heap.size) 0 #[.bool false, .int .i64 0, .int .i64 0, .int .i64 0, .int .i64 0, .slice none 0 0, .int .i64 0, .int .i64 0, .int .i64 0, .int .i64 0, .slice none 0 0, .int .i64 0, .int .i64 0, .int .i64 0, .int .i64 0, .slice none 0 0, .int .i64 0] (by rfl) (by rfl) 34 (by kernel_rfl) (row_ok rfl) ?_
          intro W56 hW56
          clear kvV0
          clear kvW28
          subst hW56
          refine ⟨_, #[.bool false, .int .i64 0, .int .i64 0, .int .i64 0, .int .i64 0, .slice none 0 0, .int .i64 0, .int .i64 0, .int .i64 0, .int .i64 0, .slice none 0 0, .int .i64 0, .int .i64 0, .int .i64 0, .int .i64 0, .slice none 0 0, .int .i64 0], (blk_at Hx1.out (kept_trans KB37.out (kept_trans Kk50.out Kk55.out))), rfl, Nat.le_of_ble_eq_true rfl, ?_⟩
          intro W57 hW57
          go_wp2_with fail
          (try simp only [Exit.inBlock, Exit.then])
          refine bodyPost_ret (results_cell_tmp rfl _ _ (w.heap.size) 34 _ _ dj rfl (blk_same (blk_at Hx1.out (kept_trans KB37.out (kept_trans Kk50.out Kk55.out))) hW57) dj1 (by cases dj <;> first | rfl | exact dj2) (by kernel_rfl)) rfl ?_
          have jz61 := Z0.out
          have jq58 := par_end (par_row' (liesQ_nil w51 (Par w V0.heap.size (wr.heap.size :: []) P)) hW57 (by omega) (by omega)) (by omega)
          have jq59 := par_end (par_row' (liesQ_nil w51 (Par w V0.heap.size (wr.heap.size :: []) P)) hW57 (by omega) (by omega)) (by omega)
          have jq60 := par_end (par_row' (liesQ_nil w51 (Par w V0.heap.size (wr.heap.size :: []) P)) hW57 (by omega) (by omega)) (by omega)
          exact ⟨false, ⟨false, .zero, .zero, .zero, 0⟩, _, _, _, rfl, ⟨zero_fine, zero_fine, zero_fine, by show I64 0; unfold I64; decide⟩, ⟨jq58, jq59, jq60⟩, (fun h => nomatch h), kept_set (kept_trans KB36.out (kept_trans Kk50.out Kk55.out)) hW57 (by omega)⟩
        | true =>
          have kvV0 : Sees V0 (w.heap.size) w51 := sees_kept _ (kept_trans KB37.out (kept_trans Kk50.out Kk55.out))
          have kvW28 : Sees W28 (w.heap.size) w51 := sees_kept _ (kept_trans Kk50.out Kk55.out)
          go_wp2
          go_roundw
          case rel => exact ⟨1, by decide, by decide, by go_num, ⟨fun _ => Hhb53.out, (fun h => absurd h (by decide))⟩, (kept_trans Kk26.out (kept_trans KB38.out (kept_trans Kk50.out Kk55.out)))⟩
          case measure => simp [intOf]
      · clear hi0 hi1
        have kvV0 : Sees V0 (w.heap.size) wr := sees_kept _ (kept_trans Kk12.out (kept_trans Kk17.out Kk26.out))
        go_wp2_with (refine stop_load 34 (.tmp 31) rfl ?_)
        intro _
        refine wpList_load_part (bon) (oon + 17) 34 (.tmp 31) #[.bool true, .int .i64 u2.k, .int .i64 u2.i, .int .i64 u2.j, .int .i64 u2.n, (.slice au2 u2.kids.length cu2), .int .i64 v2.k, .int .i64 v2.i, .int .i64 v2.j, .int .i64 v2.n, (.slice av2 v2.kids.length cv2), .int .i64 x2.k, .int .i64 x2.i, .int .i64 x2.j, .int .i64 x2.n, (.slice ax2 x2.kids.length cx2), .int .i64 i2] dj (blk_at HBon.out (kept_trans Kk12.out (kept_trans Kk17.out Kk26.out))) (by rfl) rfl (by rfl) (row_subW HSon1.out 0 17 (by decide)) dj1 (by cases dj <;> first | rfl | exact dj2) (by kernel_rfl) ?_
        go_wp2_with (refine stop_store 34 (.tmp 11) (.tmp 32) rfl ?_)
        intro _
        refine wpList_store_part_n (by rfl) 34 (.tmp 11) (.tmp 32) rfl (wr.heap.size) 0 #[.bool true, .int .i64 u2.k, .int .i64 u2.i, .int .i64 u2.j, .int .i64 u2.n, (.slice au2 u2.kids.length cu2), .int .i64 v2.k, .int .i64 v2.i, .int .i64 v2.j, .int .i64 v2.n, (.slice av2 v2.kids.length cv2), .int .i64 x2.k, .int .i64 x2.i, .int .i64 x2.j, .int .i64 x2.n, (.slice ax2 x2.kids.length cx2), .int .i64 i2] (by rfl) (by rfl) 34 (by kernel_rfl) (row_ok rfl) ?_
        intro W62 hW62
        clear kvV0
        obtain ⟨k65, x64, z66⟩ := alloc1 hW62
        have Kk67 := Lib.hid k65
        clear k65
        have Hx64 := Lib.hid x64
        have Hz66 := Lib.hid z66
        clear x64 z66 hW62
        have HG68 : Hid (V0.heap.size ≤ wr.heap.size) := (Below.size (kept_trans Kk12.out (kept_trans Kk17.out Kk26.out)))
        have XL69 : Hid (XLt (wr.heap.size :: []) W62) := (xlt_more (xlt_nil _) Kk67.out (by have := Hz66.out; omega))
        have HD70 : Hid (wr.heap.size ≤ wr.heap.size) := Below.size (kept_refl _)
        refine ⟨_, #[.bool true, .int .i64 u2.k, .int .i64 u2.i, .int .i64 u2.j, .int .i64 u2.n, (.slice au2 u2.kids.length cu2), .int .i64 v2.k, .int .i64 v2.i, .int .i64 v2.j, .int .i64 v2.n, (.slice av2 v2.kids.length cv2), .int .i64 x2.k, .int .i64 x2.i, .int .i64 x2.j, .int .i64 x2.n, (.slice ax2 x2.kids.length cx2), .int .i64 i2], Hx64.out, rfl, Nat.le_of_ble_eq_true rfl, ?_⟩
        intro W63 hW63
        have KB71 := Lib.hid (kept_set (kept_trans Kk4.out (kept_trans Kk12.out (kept_trans Kk17.out (kept_trans Kk26.out Kk67.out)))) hW63 (by have := HG68.out; have := Z0.out; omega))
        have KB72 := Lib.hid (kept_set (kept_trans Kk12.out (kept_trans Kk17.out (kept_trans Kk26.out Kk67.out))) hW63 HG68.out)
        have KB73 := Lib.hid (kept_set Kk67.out hW63 HD70.out)
        have HL74 : Hid (LiesQ W63 (Par w V0.heap.size (wr.heap.size :: []) P) u2.kids _) := par_set (par_grow HLu2.out (kept_trans Kk12.out (kept_trans Kk17.out (kept_trans Kk26.out Kk67.out))) (List.forall_mem_cons.2 ⟨(Or.inr (Nat.le_trans (Below.size (kept_trans Kk12.out (kept_trans Kk17.out Kk26.out))) (Nat.le_refl wr.heap.size))), (fun _ h => nomatch h)⟩)) hW63 (List.mem_cons_self ..) (by have := HG68.out; have := Z0.out; omega)
        have HL75 : Hid (LiesQ W63 (Par w V0.heap.size (wr.heap.size :: []) P) v2.kids _) := par_set (par_grow HLv2.out (kept_trans Kk12.out (kept_trans Kk17.out (kept_trans Kk26.out Kk67.out))) (List.forall_mem_cons.2 ⟨(Or.inr (Nat.le_trans (Below.size (kept_trans Kk12.out (kept_trans Kk17.out Kk26.out))) (Nat.le_refl wr.heap.size))), (fun _ h => nomatch h)⟩)) hW63 (List.mem_cons_self ..) (by have := HG68.out; have := Z0.out; omega)
        have HL76 : Hid (LiesQ W63 (Par w V0.heap.size (wr.heap.size :: []) P) x2.kids _) := par_set (par_grow HLx2.out (kept_trans Kk12.out (kept_trans Kk17.out (kept_trans Kk26.out Kk67.out))) (List.forall_mem_cons.2 ⟨(Or.inr (Nat.le_trans (Below.size (kept_trans Kk12.out (kept_trans Kk17.out Kk26.out))) (Nat.le_refl wr.heap.size))), (fun _ h => nomatch h)⟩)) hW63 (List.mem_cons_self ..) (by have := HG68.out; have := Z0.out; omega)
        have HL77 : Hid (LiesQ W63 (Par w V0.heap.size (wr.heap.size :: []) P) u.kids _) := par_set (par_grow HLu.out (kept_trans Kk12.out (kept_trans Kk17.out (kept_trans Kk26.out Kk67.out))) (List.forall_mem_cons.2 ⟨(Or.inr (Nat.le_trans (Below.size (kept_trans Kk12.out (kept_trans Kk17.out Kk26.out))) (Nat.le_refl wr.heap.size))), (fun _ h => nomatch h)⟩)) hW63 (List.mem_cons_self ..) (by have := HG68.out; have := Z0.out; omega)
        have HL78 : Hid (LiesQ W63 (Par w V0.heap.size (wr.heap.size :: []) P) v.kids _) := par_set (par_grow HLv.out (kept_trans Kk12.out (kept_trans Kk17.out (kept_trans Kk26.out Kk67.out))) (List.forall_mem_cons.2 ⟨(Or.inr (Nat.le_trans (Below.size (kept_trans Kk12.out (kept_trans Kk17.out Kk26.out))) (Nat.le_refl wr.heap.size))), (fun _ h => nomatch h)⟩)) hW63 (List.mem_cons_self ..) (by have := HG68.out; have := Z0.out; omega)
        have HL79 : Hid (LiesQ W63 (Par w V0.heap.size (wr.heap.size :: []) P) x.kids _) := par_set (par_grow HLx.out (kept_trans Kk12.out (kept_trans Kk17.out (kept_trans Kk26.out Kk67.out))) (List.forall_mem_cons.2 ⟨(Or.inr (Nat.le_trans (Below.size (kept_trans Kk12.out (kept_trans Kk17.out Kk26.out))) (Nat.le_refl wr.heap.size))), (fun _ h => nomatch h)⟩)) hW63 (List.mem_cons_self ..) (by have := HG68.out; have := Z0.out; omega)
        have XL80 := Lib.hid (xlt_set XL69.out hW63)
        have HX81 := Lib.hid (blk_same Hx64.out hW63)
        clear hW63
        have kvV0 : Sees V0 (w.heap.size) W63 := sees_kept _ KB72.out
        have kvW63 : Sees W63 (w.heap.size) W63 := sees_kept _ (kept_refl _)
        go_wp2_with fail
        clear kvV0
        clear kvW63
        have hq84 := innerK 12 1 W63
        rw [show Dv.innerB 12 1 = false from by decide] at hq84
        refine hq84.mono ?_
        clear hq84
        rintro e w82 ⟨rfl, k83⟩
        have Kk85 := Lib.hid k83
        clear k83
        have kvV0 : Sees V0 (w.heap.size) w82 := sees_kept _ (kept_trans KB72.out Kk85.out)
        have kvW63 : Sees W63 (w.heap.size) w82 := sees_kept _ Kk85.out
        go_wp2_with (refine stop_load 34 (.tmp 11) rfl ?_)
        intro _
        refine wpList_load_part (wr.heap.size) (0) 34 (.tmp 11) #[.bool true, .int .i64 u2.k, .int .i64 u2.i, .int .i64 u2.j, .int .i64 u2.n, (.slice au2 u2.kids.length cu2), .int .i64 v2.k, .int .i64 v2.i, .int .i64 v2.j, .int .i64 v2.n, (.slice av2 v2.kids.length cv2), .int .i64 x2.k, .int .i64 x2.i, .int .i64 x2.j, .int .i64 x2.n, (.slice ax2 x2.kids.length cx2), .int .i64 i2] dj (blk_at HX81.out Kk85.out) (by rfl) rfl (by rfl) (by rfl) dj1 (by cases dj <;> first | rfl | exact dj2) (by kernel_rfl) ?_
        go_wp2_with fail
        clear kvV0
        clear kvW63
        refine (rright1_any (c.length : Int) i2 u2 v2 x2 (Par w V0.heap.size (wr.heap.size :: []) P) w82 ((.slice au2 u2.kids.length cu2)) ((.slice av2 v2.kids.length cv2)) ((.slice ax2 x2.kids.length cx2)) Gu2.out (HL74.out.later Kk85.out) Gv2.out (HL75.out.later Kk85.out) Gx2.out (HL76.out.later Kk85.out) Ri2.out HRN.out).mono ?_
        obtain ⟨rb89, hb88⟩ : ∃ qb, (rightJ (⟨true, u2, v2, x2, i2⟩ : Jd) (c.length : Int)) = qb := ⟨_, rfl⟩
        rw [hb88]
        have Hhb88 := Lib.hid hb88
        clear hb88
        rintro e w86 ⟨rfl, k87⟩
        have Kk90 := Lib.hid k87
        clear k87
        cases rb89 with
        | false =>
          have kvV0 : Sees V0 (w.heap.size) w86 := sees_kept _ (kept_trans KB72.out (kept_trans Kk85.out Kk90.out))
          have kvW63 : Sees W63 (w.heap.size) w86 := sees_kept _ (kept_trans Kk85.out Kk90.out)
          go_upto_region 10 with fail
          go_wp2_with (refine stop_store 34 (.tmp 8) (.tmp 44) rfl ?_)
          intro _
          refine wpList_store_part_n (by rfl) 34 (.tmp 8) (.tmp 44) rfl (w.heap.size) 0 #[.bool false, .int .i64 0, .int .i64 0, .int .i64 0, .int .i64 0, .slice none 0 0, .int .i64 0, .int .i64 0, .int .i64 0, .int .i64 0, .slice none 0 0, .int .i64 0, .int .i64 0, .int .i64 0, .int .i64 0, .slice none 0 0, .int .i64 0] (by rfl) (by rfl) 34 (by kernel_rfl) (row_ok rfl) ?_
          intro W91 hW91
          clear kvV0
          clear kvW63
          subst hW91
          refine ⟨_, #[.bool false, .int .i64 0, .int .i64 0, .int .i64 0, .int .i64 0, .slice none 0 0, .int .i64 0, .int .i64 0, .int .i64 0, .int .i64 0, .slice none 0 0, .int .i64 0, .int .i64 0, .int .i64 0, .int .i64 0, .slice none 0 0, .int .i64 0], (blk_at Hx1.out (kept_trans KB72.out (kept_trans Kk85.out Kk90.out))), rfl, Nat.le_of_ble_eq_true rfl, ?_⟩
          intro W92 hW92
          go_wp2_with fail
          (try simp only [Exit.inBlock, Exit.then])
          refine bodyPost_ret (results_cell_tmp rfl _ _ (w.heap.size) 34 _ _ dj rfl (blk_same (blk_at Hx1.out (kept_trans KB72.out (kept_trans Kk85.out Kk90.out))) hW92) dj1 (by cases dj <;> first | rfl | exact dj2) (by kernel_rfl)) rfl ?_
          have jz96 := Z0.out
          have jq93 := par_end (par_row' (liesQ_nil w86 (Par w V0.heap.size (wr.heap.size :: []) P)) hW92 (by omega) (by omega)) (by omega)
          have jq94 := par_end (par_row' (liesQ_nil w86 (Par w V0.heap.size (wr.heap.size :: []) P)) hW92 (by omega) (by omega)) (by omega)
          have jq95 := par_end (par_row' (liesQ_nil w86 (Par w V0.heap.size (wr.heap.size :: []) P)) hW92 (by omega) (by omega)) (by omega)
          exact ⟨false, ⟨false, .zero, .zero, .zero, 0⟩, _, _, _, rfl, ⟨zero_fine, zero_fine, zero_fine, by show I64 0; unfold I64; decide⟩, ⟨jq93, jq94, jq95⟩, (fun h => nomatch h), kept_set (kept_trans KB71.out (kept_trans Kk85.out Kk90.out)) hW92 (by omega)⟩
        | true =>
          have kvV0 : Sees V0 (w.heap.size) w86 := sees_kept _ (kept_trans KB72.out (kept_trans Kk85.out Kk90.out))
          have kvW63 : Sees W63 (w.heap.size) w86 := sees_kept _ (kept_trans Kk85.out Kk90.out)
          go_wp2
          go_roundw
          case rel => exact ⟨2, by decide, by decide, by go_num, ⟨fun _ => HVhv25.out.1 (by decide), fun _ => Hhb88.out⟩, (kept_trans Kk26.out (kept_trans KB73.out (kept_trans Kk85.out Kk90.out)))⟩
          case measure => simp [intOf]
      · clear hi0 hi1
        have kvV0 : Sees V0 (w.heap.size) wr := sees_kept _ (kept_trans Kk12.out (kept_trans Kk17.out Kk26.out))
        go_wp2_with fail
        clear kvV0
        refine ((con12ft_any i i2 c u v x u2 v2 x2 (Par w V0.heap.size [] P) wr ((.slice ac c.length cc)) bon oon capon _ _ _ ((.slice au u.kids.length cu)) ((.slice av v.kids.length cv)) ((.slice ax x.kids.length cx)) ((.slice au2 u2.kids.length cu2)) ((.slice av2 v2.kids.length cv2)) ((.slice ax2 x2.kids.length cx2)) (HEc.out.keep (kept_trans Kk4.out (kept_trans Kk12.out (kept_trans Kk17.out Kk26.out)))) Gu.out (HLu.out.later (kept_trans Kk12.out (kept_trans Kk17.out Kk26.out))) Gv.out (HLv.out.later (kept_trans Kk12.out (kept_trans Kk17.out Kk26.out))) Gx.out (HLx.out.later (kept_trans Kk12.out (kept_trans Kk17.out Kk26.out))) Ri.out Gu2.out (HLu2.out.later (kept_trans Kk12.out (kept_trans Kk17.out Kk26.out))) Gv2.out (HLv2.out.later (kept_trans Kk12.out (kept_trans Kk17.out Kk26.out))) Gx2.out (HLx2.out.later (kept_trans Kk12.out (kept_trans Kk17.out Kk26.out))) Ri2.out (blk_at HBon.out (kept_trans Kk12.out (kept_trans Kk17.out Kk26.out))) HSon0.out HSon1.out (pure_range (rightJ_pure (HVhv25.out.2 (by decide)))).1 (pure_range (rightJ_pure (HVhv25.out.2 (by decide)))).2)).mono ?_
        obtain ⟨rb100, hb99⟩ : ∃ qb, (cvB i x u2 x2 i2) = qb := ⟨_, rfl⟩
        rw [hb99]
        have Hhb99 := Lib.hid hb99
        clear hb99
        rintro e w97 ⟨s101, s102, s103, rfl, ⟨hl104, hl105, hl106⟩, k98⟩
        obtain ⟨a107, c108, S109, rfl, -⟩ := hl104.out
        obtain ⟨a110, c111, S112, rfl, -⟩ := hl105.out
        obtain ⟨a113, c114, S115, rfl, -⟩ := hl106.out
        have Kk116 := Lib.hid k98
        clear k98
        have Hhl104 : Hid (LiesQ w97 (Par w V0.heap.size [] P) u.kids _) := par_give hl104 (Below.size (kept_trans Kk12.out (kept_trans Kk17.out Kk26.out))) (xlt_nil _)
        have Hhl105 : Hid (LiesQ w97 (Par w V0.heap.size [] P) Tm.zero.kids _) := par_give hl105 (Below.size (kept_trans Kk12.out (kept_trans Kk17.out Kk26.out))) (xlt_nil _)
        have Hhl106 : Hid (LiesQ w97 (Par w V0.heap.size [] P) v2.kids _) := par_give hl106 (Below.size (kept_trans Kk12.out (kept_trans Kk17.out Kk26.out))) (xlt_nil _)
        clear hl104 hl105 hl106
        cases rb100 with
        | false =>
          have kvV0 : Sees V0 (w.heap.size) w97 := sees_kept _ (kept_trans Kk12.out (kept_trans Kk17.out (kept_trans Kk26.out Kk116.out)))
          go_wp2_with (refine stop_store 34 (.tmp 13) (.tmp 52) rfl ?_)
          intro _
          refine wpList_store_part_n (by rfl) 34 (.tmp 13) (.tmp 52) rfl (w97.heap.size) 0 #[.bool false, .int .i64 u.k, .int .i64 u.i, .int .i64 u.j, .int .i64 u.n, (.slice a107 u.kids.length c108), .int .i64 Tm.zero.k, .int .i64 Tm.zero.i, .int .i64 Tm.zero.j, .int .i64 Tm.zero.n, (.slice a110 Tm.zero.kids.length c111), .int .i64 v2.k, .int .i64 v2.i, .int .i64 v2.j, .int .i64 v2.n, (.slice a113 v2.kids.length c114), .int .i64 i] (by rfl) (by rfl) 34 (by kernel_rfl) (row_ok rfl) ?_
          intro W117 hW117
          clear kvV0
          obtain ⟨k120, x119, z121⟩ := alloc1 hW117
          have Kk122 := Lib.hid k120
          clear k120
          have Hx119 := Lib.hid x119
          have Hz121 := Lib.hid z121
          clear x119 z121 hW117
          have HG123 : Hid (V0.heap.size ≤ w97.heap.size) := (Below.size (kept_trans Kk12.out (kept_trans Kk17.out (kept_trans Kk26.out Kk116.out))))
          have XL124 : Hid (XLt (w97.heap.size :: []) W117) := (xlt_more (xlt_nil _) Kk122.out (by have := Hz121.out; omega))
          have HD125 : Hid (wr.heap.size ≤ w97.heap.size) := Below.size Kk116.out
          refine ⟨_, #[.bool false, .int .i64 u.k, .int .i64 u.i, .int .i64 u.j, .int .i64 u.n, (.slice a107 u.kids.length c108), .int .i64 Tm.zero.k, .int .i64 Tm.zero.i, .int .i64 Tm.zero.j, .int .i64 Tm.zero.n, (.slice a110 Tm.zero.kids.length c111), .int .i64 v2.k, .int .i64 v2.i, .int .i64 v2.j, .int .i64 v2.n, (.slice a113 v2.kids.length c114), .int .i64 i], Hx119.out, rfl, Nat.le_of_ble_eq_true rfl, ?_⟩
          intro W118 hW118
          have KB126 := Lib.hid (kept_set (kept_trans Kk4.out (kept_trans Kk12.out (kept_trans Kk17.out (kept_trans Kk26.out (kept_trans Kk116.out Kk122.out))))) hW118 (by have := HG123.out; have := Z0.out; omega))
          have KB127 := Lib.hid (kept_set (kept_trans Kk12.out (kept_trans Kk17.out (kept_trans Kk26.out (kept_trans Kk116.out Kk122.out)))) hW118 HG123.out)
          have KB128 := Lib.hid (kept_set (kept_trans Kk116.out Kk122.out) hW118 HD125.out)
          have HL129 : Hid (LiesQ W118 (Par w V0.heap.size (w97.heap.size :: []) P) u.kids _) := par_set (par_grow Hhl104.out Kk122.out (List.forall_mem_cons.2 ⟨(Or.inr (Nat.le_refl w97.heap.size)), (fun _ h => nomatch h)⟩)) hW118 (List.mem_cons_self ..) (by have := HG123.out; have := Z0.out; omega)
          have HL130 : Hid (LiesQ W118 (Par w V0.heap.size (w97.heap.size :: []) P) Tm.zero.kids _) := par_set (par_grow Hhl105.out Kk122.out (List.forall_mem_cons.2 ⟨(Or.inr (Nat.le_refl w97.heap.size)), (fun _ h => nomatch h)⟩)) hW118 (List.mem_cons_self ..) (by have := HG123.out; have := Z0.out; omega)
          have HL131 : Hid (LiesQ W118 (Par w V0.heap.size (w97.heap.size :: []) P) v2.kids _) := par_set (par_grow Hhl106.out Kk122.out (List.forall_mem_cons.2 ⟨(Or.inr (Nat.le_refl w97.heap.size)), (fun _ h => nomatch h)⟩)) hW118 (List.mem_cons_self ..) (by have := HG123.out; have := Z0.out; omega)
          have HL132 : Hid (LiesQ W118 (Par w V0.heap.size (w97.heap.size :: []) P) u.kids _) := par_set (par_grow HLu.out (kept_trans Kk12.out (kept_trans Kk17.out (kept_trans Kk26.out (kept_trans Kk116.out Kk122.out)))) (List.forall_mem_cons.2 ⟨(Or.inr (Nat.le_trans (Below.size (kept_trans Kk12.out (kept_trans Kk17.out (kept_trans Kk26.out Kk116.out)))) (Nat.le_refl w97.heap.size))), (fun _ h => nomatch h)⟩)) hW118 (List.mem_cons_self ..) (by have := HG123.out; have := Z0.out; omega)
          have HL133 : Hid (LiesQ W118 (Par w V0.heap.size (w97.heap.size :: []) P) v.kids _) := par_set (par_grow HLv.out (kept_trans Kk12.out (kept_trans Kk17.out (kept_trans Kk26.out (kept_trans Kk116.out Kk122.out)))) (List.forall_mem_cons.2 ⟨(Or.inr (Nat.le_trans (Below.size (kept_trans Kk12.out (kept_trans Kk17.out (kept_trans Kk26.out Kk116.out)))) (Nat.le_refl w97.heap.size))), (fun _ h => nomatch h)⟩)) hW118 (List.mem_cons_self ..) (by have := HG123.out; have := Z0.out; omega)
          have HL134 : Hid (LiesQ W118 (Par w V0.heap.size (w97.heap.size :: []) P) x.kids _) := par_set (par_grow HLx.out (kept_trans Kk12.out (kept_trans Kk17.out (kept_trans Kk26.out (kept_trans Kk116.out Kk122.out)))) (List.forall_mem_cons.2 ⟨(Or.inr (Nat.le_trans (Below.size (kept_trans Kk12.out (kept_trans Kk17.out (kept_trans Kk26.out Kk116.out)))) (Nat.le_refl w97.heap.size))), (fun _ h => nomatch h)⟩)) hW118 (List.mem_cons_self ..) (by have := HG123.out; have := Z0.out; omega)
          have HL135 : Hid (LiesQ W118 (Par w V0.heap.size (w97.heap.size :: []) P) u2.kids _) := par_set (par_grow HLu2.out (kept_trans Kk12.out (kept_trans Kk17.out (kept_trans Kk26.out (kept_trans Kk116.out Kk122.out)))) (List.forall_mem_cons.2 ⟨(Or.inr (Nat.le_trans (Below.size (kept_trans Kk12.out (kept_trans Kk17.out (kept_trans Kk26.out Kk116.out)))) (Nat.le_refl w97.heap.size))), (fun _ h => nomatch h)⟩)) hW118 (List.mem_cons_self ..) (by have := HG123.out; have := Z0.out; omega)
          have HL136 : Hid (LiesQ W118 (Par w V0.heap.size (w97.heap.size :: []) P) v2.kids _) := par_set (par_grow HLv2.out (kept_trans Kk12.out (kept_trans Kk17.out (kept_trans Kk26.out (kept_trans Kk116.out Kk122.out)))) (List.forall_mem_cons.2 ⟨(Or.inr (Nat.le_trans (Below.size (kept_trans Kk12.out (kept_trans Kk17.out (kept_trans Kk26.out Kk116.out)))) (Nat.le_refl w97.heap.size))), (fun _ h => nomatch h)⟩)) hW118 (List.mem_cons_self ..) (by have := HG123.out; have := Z0.out; omega)
          have HL137 : Hid (LiesQ W118 (Par w V0.heap.size (w97.heap.size :: []) P) x2.kids _) := par_set (par_grow HLx2.out (kept_trans Kk12.out (kept_trans Kk17.out (kept_trans Kk26.out (kept_trans Kk116.out Kk122.out)))) (List.forall_mem_cons.2 ⟨(Or.inr (Nat.le_trans (Below.size (kept_trans Kk12.out (kept_trans Kk17.out (kept_trans Kk26.out Kk116.out)))) (Nat.le_refl w97.heap.size))), (fun _ h => nomatch h)⟩)) hW118 (List.mem_cons_self ..) (by have := HG123.out; have := Z0.out; omega)
          have XL138 := Lib.hid (xlt_set XL124.out hW118)
          have HX139 := Lib.hid (blk_same Hx119.out hW118)
          clear hW118
          have ld140 := part_cell (r := (w.heap.size)) HX139.out (by have := HG123.out; have := Z0.out; omega) 0 (.bool false) rfl
          have ld141 := part_cell (r := (w.heap.size)) HX139.out (by have := HG123.out; have := Z0.out; omega) 1 (.int .i64 u.k) rfl
          have ld142 := part_cell (r := (w.heap.size)) HX139.out (by have := HG123.out; have := Z0.out; omega) 6 (.int .i64 Tm.zero.k) rfl
          have ld143 := part_cell (r := (w.heap.size)) HX139.out (by have := HG123.out; have := Z0.out; omega) 11 (.int .i64 v2.k) rfl
          have ld144 := part_cell (r := (w.heap.size)) HX139.out (by have := HG123.out; have := Z0.out; omega) 16 (.int .i64 i) rfl
          have kvV0 : Sees V0 (w.heap.size) W118 := sees_kept _ KB127.out
          have kvW118 : Sees W118 (w.heap.size) W118 := sees_kept _ (kept_refl _)
          go_upto_region 14 with fail
          go_wp2_with (refine stop_store 34 (.tmp 8) (.tmp 83) rfl ?_)
          intro _
          refine wpList_store_part_n (by rfl) 34 (.tmp 8) (.tmp 83) rfl (w.heap.size) 0 #[.bool false, .int .i64 0, .int .i64 0, .int .i64 0, .int .i64 0, .slice none 0 0, .int .i64 0, .int .i64 0, .int .i64 0, .int .i64 0, .slice none 0 0, .int .i64 0, .int .i64 0, .int .i64 0, .int .i64 0, .slice none 0 0, .int .i64 0] (by rfl) (by rfl) 34 (by kernel_rfl) (row_ok rfl) ?_
          intro W145 hW145
          clear kvV0
          clear kvW118
          subst hW145
          refine ⟨_, #[.bool false, .int .i64 0, .int .i64 0, .int .i64 0, .int .i64 0, .slice none 0 0, .int .i64 0, .int .i64 0, .int .i64 0, .int .i64 0, .slice none 0 0, .int .i64 0, .int .i64 0, .int .i64 0, .int .i64 0, .slice none 0 0, .int .i64 0], (blk_at Hx1.out KB127.out), rfl, Nat.le_of_ble_eq_true rfl, ?_⟩
          intro W146 hW146
          go_wp2_with fail
          (try simp only [Exit.inBlock, Exit.then])
          refine bodyPost_ret (results_cell_tmp rfl _ _ (w.heap.size) 34 _ _ dj rfl (blk_same (blk_at Hx1.out KB127.out) hW146) dj1 (by cases dj <;> first | rfl | exact dj2) (by kernel_rfl)) rfl ?_
          have jz150 := Z0.out
          have jq147 := par_end (par_row' (liesQ_nil W118 (Par w V0.heap.size (w97.heap.size :: []) P)) hW146 (by omega) (by omega)) (by omega)
          have jq148 := par_end (par_row' (liesQ_nil W118 (Par w V0.heap.size (w97.heap.size :: []) P)) hW146 (by omega) (by omega)) (by omega)
          have jq149 := par_end (par_row' (liesQ_nil W118 (Par w V0.heap.size (w97.heap.size :: []) P)) hW146 (by omega) (by omega)) (by omega)
          exact ⟨false, ⟨false, .zero, .zero, .zero, 0⟩, _, _, _, rfl, ⟨zero_fine, zero_fine, zero_fine, by show I64 0; unfold I64; decide⟩, ⟨jq147, jq148, jq149⟩, (fun h => nomatch h), kept_set KB126.out hW146 (by omega)⟩
        | true =>
          have fk1 : (u.k == 0) = false := kind_not (rightJ_u (HVhv25.out.1 (by decide)))
          have fk2 : (v2.k == 0) = false := kind_not (rightJ_v (HVhv25.out.2 (by decide)))
          have fk3 : decide (1000 < i) = false := decide_eq_false (by have : i ≤ 1000 := rightJ_iT (HVhv25.out.1 (by decide)); omega)
          have kvV0 : Sees V0 (w.heap.size) w97 := sees_kept _ (kept_trans Kk12.out (kept_trans Kk17.out (kept_trans Kk26.out Kk116.out)))
          go_wp2_with (refine stop_store 34 (.tmp 13) (.tmp 52) rfl ?_)
          intro _
          refine wpList_store_part_n (by rfl) 34 (.tmp 13) (.tmp 52) rfl (w97.heap.size) 0 #[.bool false, .int .i64 u.k, .int .i64 u.i, .int .i64 u.j, .int .i64 u.n, (.slice a107 u.kids.length c108), .int .i64 Tm.zero.k, .int .i64 Tm.zero.i, .int .i64 Tm.zero.j, .int .i64 Tm.zero.n, (.slice a110 Tm.zero.kids.length c111), .int .i64 v2.k, .int .i64 v2.i, .int .i64 v2.j, .int .i64 v2.n, (.slice a113 v2.kids.length c114), .int .i64 i] (by rfl) (by rfl) 34 (by kernel_rfl) (row_ok rfl) ?_
          intro W151 hW151
          clear kvV0
          obtain ⟨k154, x153, z155⟩ := alloc1 hW151
          have Kk156 := Lib.hid k154
          clear k154
          have Hx153 := Lib.hid x153
          have Hz155 := Lib.hid z155
          clear x153 z155 hW151
          have HG157 : Hid (V0.heap.size ≤ w97.heap.size) := (Below.size (kept_trans Kk12.out (kept_trans Kk17.out (kept_trans Kk26.out Kk116.out))))
          have XL158 : Hid (XLt (w97.heap.size :: []) W151) := (xlt_more (xlt_nil _) Kk156.out (by have := Hz155.out; omega))
          have HD159 : Hid (wr.heap.size ≤ w97.heap.size) := Below.size Kk116.out
          refine ⟨_, #[.bool false, .int .i64 u.k, .int .i64 u.i, .int .i64 u.j, .int .i64 u.n, (.slice a107 u.kids.length c108), .int .i64 Tm.zero.k, .int .i64 Tm.zero.i, .int .i64 Tm.zero.j, .int .i64 Tm.zero.n, (.slice a110 Tm.zero.kids.length c111), .int .i64 v2.k, .int .i64 v2.i, .int .i64 v2.j, .int .i64 v2.n, (.slice a113 v2.kids.length c114), .int .i64 i], Hx153.out, rfl, Nat.le_of_ble_eq_true rfl, ?_⟩
          intro W152 hW152
          have KB160 := Lib.hid (kept_set (kept_trans Kk4.out (kept_trans Kk12.out (kept_trans Kk17.out (kept_trans Kk26.out (kept_trans Kk116.out Kk156.out))))) hW152 (by have := HG157.out; have := Z0.out; omega))
          have KB161 := Lib.hid (kept_set (kept_trans Kk12.out (kept_trans Kk17.out (kept_trans Kk26.out (kept_trans Kk116.out Kk156.out)))) hW152 HG157.out)
          have KB162 := Lib.hid (kept_set (kept_trans Kk116.out Kk156.out) hW152 HD159.out)
          have HL163 : Hid (LiesQ W152 (Par w V0.heap.size (w97.heap.size :: []) P) u.kids _) := par_set (par_grow Hhl104.out Kk156.out (List.forall_mem_cons.2 ⟨(Or.inr (Nat.le_refl w97.heap.size)), (fun _ h => nomatch h)⟩)) hW152 (List.mem_cons_self ..) (by have := HG157.out; have := Z0.out; omega)
          have HL164 : Hid (LiesQ W152 (Par w V0.heap.size (w97.heap.size :: []) P) Tm.zero.kids _) := par_set (par_grow Hhl105.out Kk156.out (List.forall_mem_cons.2 ⟨(Or.inr (Nat.le_refl w97.heap.size)), (fun _ h => nomatch h)⟩)) hW152 (List.mem_cons_self ..) (by have := HG157.out; have := Z0.out; omega)
          have HL165 : Hid (LiesQ W152 (Par w V0.heap.size (w97.heap.size :: []) P) v2.kids _) := par_set (par_grow Hhl106.out Kk156.out (List.forall_mem_cons.2 ⟨(Or.inr (Nat.le_refl w97.heap.size)), (fun _ h => nomatch h)⟩)) hW152 (List.mem_cons_self ..) (by have := HG157.out; have := Z0.out; omega)
          have HL166 : Hid (LiesQ W152 (Par w V0.heap.size (w97.heap.size :: []) P) u.kids _) := par_set (par_grow HLu.out (kept_trans Kk12.out (kept_trans Kk17.out (kept_trans Kk26.out (kept_trans Kk116.out Kk156.out)))) (List.forall_mem_cons.2 ⟨(Or.inr (Nat.le_trans (Below.size (kept_trans Kk12.out (kept_trans Kk17.out (kept_trans Kk26.out Kk116.out)))) (Nat.le_refl w97.heap.size))), (fun _ h => nomatch h)⟩)) hW152 (List.mem_cons_self ..) (by have := HG157.out; have := Z0.out; omega)
          have HL167 : Hid (LiesQ W152 (Par w V0.heap.size (w97.heap.size :: []) P) v.kids _) := par_set (par_grow HLv.out (kept_trans Kk12.out (kept_trans Kk17.out (kept_trans Kk26.out (kept_trans Kk116.out Kk156.out)))) (List.forall_mem_cons.2 ⟨(Or.inr (Nat.le_trans (Below.size (kept_trans Kk12.out (kept_trans Kk17.out (kept_trans Kk26.out Kk116.out)))) (Nat.le_refl w97.heap.size))), (fun _ h => nomatch h)⟩)) hW152 (List.mem_cons_self ..) (by have := HG157.out; have := Z0.out; omega)
          have HL168 : Hid (LiesQ W152 (Par w V0.heap.size (w97.heap.size :: []) P) x.kids _) := par_set (par_grow HLx.out (kept_trans Kk12.out (kept_trans Kk17.out (kept_trans Kk26.out (kept_trans Kk116.out Kk156.out)))) (List.forall_mem_cons.2 ⟨(Or.inr (Nat.le_trans (Below.size (kept_trans Kk12.out (kept_trans Kk17.out (kept_trans Kk26.out Kk116.out)))) (Nat.le_refl w97.heap.size))), (fun _ h => nomatch h)⟩)) hW152 (List.mem_cons_self ..) (by have := HG157.out; have := Z0.out; omega)
          have HL169 : Hid (LiesQ W152 (Par w V0.heap.size (w97.heap.size :: []) P) u2.kids _) := par_set (par_grow HLu2.out (kept_trans Kk12.out (kept_trans Kk17.out (kept_trans Kk26.out (kept_trans Kk116.out Kk156.out)))) (List.forall_mem_cons.2 ⟨(Or.inr (Nat.le_trans (Below.size (kept_trans Kk12.out (kept_trans Kk17.out (kept_trans Kk26.out Kk116.out)))) (Nat.le_refl w97.heap.size))), (fun _ h => nomatch h)⟩)) hW152 (List.mem_cons_self ..) (by have := HG157.out; have := Z0.out; omega)
          have HL170 : Hid (LiesQ W152 (Par w V0.heap.size (w97.heap.size :: []) P) v2.kids _) := par_set (par_grow HLv2.out (kept_trans Kk12.out (kept_trans Kk17.out (kept_trans Kk26.out (kept_trans Kk116.out Kk156.out)))) (List.forall_mem_cons.2 ⟨(Or.inr (Nat.le_trans (Below.size (kept_trans Kk12.out (kept_trans Kk17.out (kept_trans Kk26.out Kk116.out)))) (Nat.le_refl w97.heap.size))), (fun _ h => nomatch h)⟩)) hW152 (List.mem_cons_self ..) (by have := HG157.out; have := Z0.out; omega)
          have HL171 : Hid (LiesQ W152 (Par w V0.heap.size (w97.heap.size :: []) P) x2.kids _) := par_set (par_grow HLx2.out (kept_trans Kk12.out (kept_trans Kk17.out (kept_trans Kk26.out (kept_trans Kk116.out Kk156.out)))) (List.forall_mem_cons.2 ⟨(Or.inr (Nat.le_trans (Below.size (kept_trans Kk12.out (kept_trans Kk17.out (kept_trans Kk26.out Kk116.out)))) (Nat.le_refl w97.heap.size))), (fun _ h => nomatch h)⟩)) hW152 (List.mem_cons_self ..) (by have := HG157.out; have := Z0.out; omega)
          have XL172 := Lib.hid (xlt_set XL158.out hW152)
          have HX173 := Lib.hid (blk_same Hx153.out hW152)
          clear hW152
          have ld174 := part_cell (r := (w.heap.size)) HX173.out (by have := HG157.out; have := Z0.out; omega) 0 (.bool false) rfl
          have ld175 := part_cell (r := (w.heap.size)) HX173.out (by have := HG157.out; have := Z0.out; omega) 1 (.int .i64 u.k) rfl
          have ld176 := part_cell (r := (w.heap.size)) HX173.out (by have := HG157.out; have := Z0.out; omega) 6 (.int .i64 Tm.zero.k) rfl
          have ld177 := part_cell (r := (w.heap.size)) HX173.out (by have := HG157.out; have := Z0.out; omega) 11 (.int .i64 v2.k) rfl
          have ld178 := part_cell (r := (w.heap.size)) HX173.out (by have := HG157.out; have := Z0.out; omega) 16 (.int .i64 i) rfl
          have kvV0 : Sees V0 (w.heap.size) W152 := sees_kept _ KB161.out
          have kvW152 : Sees W152 (w.heap.size) W152 := sees_kept _ (kept_refl _)
          go_wp2_with fail
          clear kvV0
          clear kvW152
          obtain ⟨W179, h180⟩ : ∃ x, World.drew W152 = x := ⟨_, rfl⟩
          have k181 : Kept W152 W179 := by rw [← h180]; exact kept_drew (kept_refl _)
          have Kk182 := Lib.hid k181
          clear k181
          refine wp_region_X (S := Sees W179 (w.heap.size)) 10 (by kernel_rfl) ?_ (fun hHeld => ?_)
          · (try dsimp only)
            rw [h180]
            exact sees_kept _ (kept_refl _)
          rw [h180] at hHeld ⊢
          clear h180
          refine takeX_any 0 84 of12ftr15_0 (v := ?_) (Or.inl ⟨by rfl, ?_⟩) ?_ (fun _ => hHeld)
          rotate_left 1
          · ((intro w hSw; (try dsimp only at hSw); unfold of12ftr15_0; go_simp) <;> with_reducible rfl)
          (try simp only [Act.put, List.setIfInBounds_toArray, List.set_cons_zero, List.set_cons_succ])
          refine takeX_at 1 85 of12ftr15_1 (yields_part (w97.heap.size) (1) 32 (.tmp 84) #[.int .i64 u.k, .int .i64 u.i, .int .i64 u.j, .int .i64 u.n, (.slice a107 u.kids.length c108)] du (fun _ h => sees_blk HX173.out (by have := HG157.out; have := Z0.out; omega) (sees_of Kk182.out h)) (by rfl) rfl (by rfl) (by rfl) hu1 (by cases du <;> first | rfl | exact hu2) size_term) ?_
          (try simp only [Act.put, List.setIfInBounds_toArray, List.set_cons_zero, List.set_cons_succ])
          refine takeX_any 3 87 of12ftr15_3 (v := ?_) (Or.inl ⟨by rfl, ?_⟩) ?_ (fun _ => hHeld)
          rotate_left 1
          · ((intro w hSw; (try dsimp only at hSw); unfold of12ftr15_3; go_simp) <;> with_reducible rfl)
          (try simp only [Act.put, List.setIfInBounds_toArray, List.set_cons_zero, List.set_cons_succ])
          refine takeX_at 4 88 of12ftr15_4 (yields_part (w97.heap.size) (6) 32 (.tmp 87) #[.int .i64 Tm.zero.k, .int .i64 Tm.zero.i, .int .i64 Tm.zero.j, .int .i64 Tm.zero.n, (.slice a110 Tm.zero.kids.length c111)] du (fun _ h => sees_blk HX173.out (by have := HG157.out; have := Z0.out; omega) (sees_of Kk182.out h)) (by rfl) rfl (by rfl) (by rfl) hu1 (by cases du <;> first | rfl | exact hu2) size_term) ?_
          (try simp only [Act.put, List.setIfInBounds_toArray, List.set_cons_zero, List.set_cons_succ])
          refine takeX_any 6 90 of12ftr15_6 (v := ?_) (Or.inl ⟨by rfl, ?_⟩) ?_ (fun _ => hHeld)
          rotate_left 1
          · ((intro w hSw; (try dsimp only at hSw); unfold of12ftr15_6; go_simp) <;> with_reducible rfl)
          (try simp only [Act.put, List.setIfInBounds_toArray, List.set_cons_zero, List.set_cons_succ])
          refine takeX_at 7 91 of12ftr15_7 (yields_part (w97.heap.size) (11) 32 (.tmp 90) #[.int .i64 v2.k, .int .i64 v2.i, .int .i64 v2.j, .int .i64 v2.n, (.slice a113 v2.kids.length c114)] du (fun _ h => sees_blk HX173.out (by have := HG157.out; have := Z0.out; omega) (sees_of Kk182.out h)) (by rfl) rfl (by rfl) (by rfl) hu1 (by cases du <;> first | rfl | exact hu2) size_term) ?_
          (try simp only [Act.put, List.setIfInBounds_toArray, List.set_cons_zero, List.set_cons_succ])
          refine wpAnyX_ready (rs := [2]) (by kernel_rfl) (by simp) ?_
          refine AllReadyX.cons (o := of12ftr15_2) rfl (fun K hK => ?_) ?_
          · unfold of12ftr15_2
            go_simp
            refine ((copy_any u _ ((.slice a107 u.kids.length c108)) (HL163.out.later Kk182.out).lies HZU.out).mono (fun _ _ h => h.givesP (P := (Par w V0.heap.size (w97.heap.size :: []) P)))).mono ?_
            rintro e w183 ⟨s185, rfl, hl186, k184⟩
            obtain ⟨a187, c188, S189, rfl, -⟩ := hl186.out
            have Kk190 := Lib.hid k184
            clear k184
            have Hhl186 : Hid (LiesQ w183 (Par w V0.heap.size (w97.heap.size :: []) P) u.kids _) := par_give hl186 (Below.size (kept_trans KB161.out Kk182.out)) (xlt_later XL172.out Kk182.out)
            clear hl186
            clear hHeld
            refine hK.out _ _ (fun _ => sees_kept _ Kk190.out) (fun hHeld => ?_)
            replace hHeld := hHeld (by kernel_rfl)
            clear hK K
            (try simp only [Act.put, List.setIfInBounds_toArray, List.set_cons_zero, List.set_cons_succ])
            refine takeX_any 9 93 of12ftr15_9 (v := ?_) (Or.inl ⟨by rfl, ?_⟩) ?_ (fun _ => hHeld)
            rotate_left 1
            · ((intro w hSw; (try dsimp only at hSw); unfold of12ftr15_9; go_simp) <;> with_reducible rfl)
            (try simp only [Act.put, List.setIfInBounds_toArray, List.set_cons_zero, List.set_cons_succ])
            refine wpAnyX_ready (rs := [5]) (by kernel_rfl) (by simp) ?_
            refine AllReadyX.cons (o := of12ftr15_5) rfl (fun K hK => ?_) ?_
            · unfold of12ftr15_5
              go_simp
              refine ((copy_any Tm.zero _ ((.slice a110 Tm.zero.kids.length c111)) (HL164.out.later (kept_trans Kk182.out Kk190.out)).lies (by decide)).mono (fun _ _ h => h.givesP (P := (Par w V0.heap.size (w97.heap.size :: []) P)))).mono ?_
              rintro e w191 ⟨s193, rfl, hl194, k192⟩
              obtain ⟨a195, c196, S197, rfl, -⟩ := hl194.out
              have Kk198 := Lib.hid k192
              clear k192
              have Hhl194 : Hid (LiesQ w191 (Par w V0.heap.size (w97.heap.size :: []) P) Tm.zero.kids _) := par_give hl194 (Below.size (kept_trans KB161.out (kept_trans Kk182.out Kk190.out))) (xlt_later XL172.out (kept_trans Kk182.out Kk190.out))
              clear hl194
              clear hHeld
              refine hK.out _ _ (fun _ => sees_kept _ (kept_trans Kk190.out Kk198.out)) (fun hHeld => ?_)
              replace hHeld := hHeld (by kernel_rfl)
              clear hK K
              (try simp only [Act.put, List.setIfInBounds_toArray, List.set_cons_zero, List.set_cons_succ])
              refine wpAnyX_ready (rs := [8]) (by kernel_rfl) (by simp) ?_
              refine AllReadyX.cons (o := of12ftr15_8) rfl (fun K hK => ?_) ?_
              · unfold of12ftr15_8
                go_simp
                refine ((copy_any v2 _ ((.slice a113 v2.kids.length c114)) (HL165.out.later (kept_trans Kk182.out (kept_trans Kk190.out Kk198.out))).lies HZV.out).mono (fun _ _ h => h.givesP (P := (Par w V0.heap.size (w97.heap.size :: []) P)))).mono ?_
                rintro e w199 ⟨s201, rfl, hl202, k200⟩
                obtain ⟨a203, c204, S205, rfl, -⟩ := hl202.out
                have Kk206 := Lib.hid k200
                clear k200
                have Hhl202 : Hid (LiesQ w199 (Par w V0.heap.size (w97.heap.size :: []) P) v2.kids _) := par_give hl202 (Below.size (kept_trans KB161.out (kept_trans Kk182.out (kept_trans Kk190.out Kk198.out)))) (xlt_later XL172.out (kept_trans Kk182.out (kept_trans Kk190.out Kk198.out)))
                clear hl202
                clear hHeld
                refine hK.out _ _ (fun _ => sees_kept _ (kept_trans Kk190.out (kept_trans Kk198.out Kk206.out))) (fun hHeld => ?_)
                replace hHeld := hHeld (by kernel_rfl)
                clear hK K
                (try simp only [Act.put, List.setIfInBounds_toArray, List.set_cons_zero, List.set_cons_succ])
                refine wpAnyX_ready (rs := [10]) (by kernel_rfl) (by simp) ?_
                refine AllReadyX.cons (o := of12ftr15_10) rfl (fun K hK => ?_) ?_
                · unfold of12ftr15_10
                  refine step_store_part rfl 32 (.tmp 93) (.tmp 86) rfl (w97.heap.size) 1 #[.int .i64 u.k, .int .i64 u.i, .int .i64 u.j, .int .i64 u.n, (.slice a187 u.kids.length c188)] rfl rfl 34 size_term (row_ok rfl) _ #[.bool false, .int .i64 u.k, .int .i64 u.i, .int .i64 u.j, .int .i64 u.n, (.slice a187 u.kids.length c188), .int .i64 Tm.zero.k, .int .i64 Tm.zero.i, .int .i64 Tm.zero.j, .int .i64 Tm.zero.n, (.slice a110 Tm.zero.kids.length c111), .int .i64 v2.k, .int .i64 v2.i, .int .i64 v2.j, .int .i64 v2.n, (.slice a113 v2.kids.length c114), .int .i64 i] (blk_at HX173.out (kept_trans Kk182.out (kept_trans Kk190.out (kept_trans Kk198.out Kk206.out)))) rfl (Nat.le_of_ble_eq_true rfl) ?_
                  intro W207 hW207
                  have KB208 := Lib.hid (kept_set (kept_trans KB160.out (kept_trans Kk182.out (kept_trans Kk190.out (kept_trans Kk198.out Kk206.out)))) hW207 (by have := HG157.out; have := Z0.out; omega))
                  have KB209 := Lib.hid (kept_set (kept_trans KB161.out (kept_trans Kk182.out (kept_trans Kk190.out (kept_trans Kk198.out Kk206.out)))) hW207 HG157.out)
                  have HL210 : Hid (LiesQ W207 (Par w V0.heap.size (w97.heap.size :: []) P) u.kids _) := par_set (HL163.out.later (kept_trans Kk182.out (kept_trans Kk190.out (kept_trans Kk198.out Kk206.out)))) hW207 (List.mem_cons_self ..) (by have := HG157.out; have := Z0.out; omega)
                  have HL211 : Hid (LiesQ W207 (Par w V0.heap.size (w97.heap.size :: []) P) Tm.zero.kids _) := par_set (HL164.out.later (kept_trans Kk182.out (kept_trans Kk190.out (kept_trans Kk198.out Kk206.out)))) hW207 (List.mem_cons_self ..) (by have := HG157.out; have := Z0.out; omega)
                  have HL212 : Hid (LiesQ W207 (Par w V0.heap.size (w97.heap.size :: []) P) v2.kids _) := par_set (HL165.out.later (kept_trans Kk182.out (kept_trans Kk190.out (kept_trans Kk198.out Kk206.out)))) hW207 (List.mem_cons_self ..) (by have := HG157.out; have := Z0.out; omega)
                  have HL213 : Hid (LiesQ W207 (Par w V0.heap.size (w97.heap.size :: []) P) u.kids _) := par_set (Hhl186.out.later (kept_trans Kk198.out Kk206.out)) hW207 (List.mem_cons_self ..) (by have := HG157.out; have := Z0.out; omega)
                  have HL214 : Hid (LiesQ W207 (Par w V0.heap.size (w97.heap.size :: []) P) Tm.zero.kids _) := par_set (Hhl194.out.later Kk206.out) hW207 (List.mem_cons_self ..) (by have := HG157.out; have := Z0.out; omega)
                  have HL215 : Hid (LiesQ W207 (Par w V0.heap.size (w97.heap.size :: []) P) v2.kids _) := par_set Hhl202.out hW207 (List.mem_cons_self ..) (by have := HG157.out; have := Z0.out; omega)
                  have HL216 : Hid (LiesQ W207 (Par w V0.heap.size (w97.heap.size :: []) P) u.kids _) := par_set (HL166.out.later (kept_trans Kk182.out (kept_trans Kk190.out (kept_trans Kk198.out Kk206.out)))) hW207 (List.mem_cons_self ..) (by have := HG157.out; have := Z0.out; omega)
                  have HL217 : Hid (LiesQ W207 (Par w V0.heap.size (w97.heap.size :: []) P) v.kids _) := par_set (HL167.out.later (kept_trans Kk182.out (kept_trans Kk190.out (kept_trans Kk198.out Kk206.out)))) hW207 (List.mem_cons_self ..) (by have := HG157.out; have := Z0.out; omega)
                  have HL218 : Hid (LiesQ W207 (Par w V0.heap.size (w97.heap.size :: []) P) x.kids _) := par_set (HL168.out.later (kept_trans Kk182.out (kept_trans Kk190.out (kept_trans Kk198.out Kk206.out)))) hW207 (List.mem_cons_self ..) (by have := HG157.out; have := Z0.out; omega)
                  have HL219 : Hid (LiesQ W207 (Par w V0.heap.size (w97.heap.size :: []) P) u2.kids _) := par_set (HL169.out.later (kept_trans Kk182.out (kept_trans Kk190.out (kept_trans Kk198.out Kk206.out)))) hW207 (List.mem_cons_self ..) (by have := HG157.out; have := Z0.out; omega)
                  have HL220 : Hid (LiesQ W207 (Par w V0.heap.size (w97.heap.size :: []) P) v2.kids _) := par_set (HL170.out.later (kept_trans Kk182.out (kept_trans Kk190.out (kept_trans Kk198.out Kk206.out)))) hW207 (List.mem_cons_self ..) (by have := HG157.out; have := Z0.out; omega)
                  have HL221 : Hid (LiesQ W207 (Par w V0.heap.size (w97.heap.size :: []) P) x2.kids _) := par_set (HL171.out.later (kept_trans Kk182.out (kept_trans Kk190.out (kept_trans Kk198.out Kk206.out)))) hW207 (List.mem_cons_self ..) (by have := HG157.out; have := Z0.out; omega)
                  have XL222 := Lib.hid (xlt_set (xlt_later XL172.out (kept_trans Kk182.out (kept_trans Kk190.out (kept_trans Kk198.out Kk206.out)))) hW207)
                  have HX223 := Lib.hid (blk_same (blk_at HX173.out (kept_trans Kk182.out (kept_trans Kk190.out (kept_trans Kk198.out Kk206.out)))) hW207)
                  (try clear ld174)
                  (try clear ld175)
                  (try clear ld176)
                  (try clear ld177)
                  (try clear ld178)
                  clear hW207
                  have ld224 := part_cell (r := (w.heap.size)) HX223.out (by have := HG157.out; have := Z0.out; omega) 0 (.bool false) rfl
                  have ld225 := part_cell (r := (w.heap.size)) HX223.out (by have := HG157.out; have := Z0.out; omega) 1 (.int .i64 u.k) rfl
                  have ld226 := part_cell (r := (w.heap.size)) HX223.out (by have := HG157.out; have := Z0.out; omega) 6 (.int .i64 Tm.zero.k) rfl
                  have ld227 := part_cell (r := (w.heap.size)) HX223.out (by have := HG157.out; have := Z0.out; omega) 11 (.int .i64 v2.k) rfl
                  have ld228 := part_cell (r := (w.heap.size)) HX223.out (by have := HG157.out; have := Z0.out; omega) 16 (.int .i64 i) rfl
                  clear hHeld
                  refine hK.out _ _ (fun h => Bool.noConfusion (show true = false from h)) (fun _ => ?_)
                  clear hK K
                  (try simp only [Act.put])
                  refine takeX_any 11 94 of12ftr15_11 (v := ?_) (Or.inl ⟨by rfl, ?_⟩) ?_ (fun h => Bool.noConfusion (show true = false from h))
                  rotate_left 1
                  · ((intro w hSw; (try dsimp only at hSw); unfold of12ftr15_11; go_simp) <;> with_reducible rfl)
                  (try simp only [Act.put, List.setIfInBounds_toArray, List.set_cons_zero, List.set_cons_succ])
                  refine wpAnyX_ready (rs := [12]) (by kernel_rfl) (by simp) ?_
                  refine AllReadyX.cons (o := of12ftr15_12) rfl (fun K hK => ?_) ?_
                  · unfold of12ftr15_12
                    refine step_store_part rfl 32 (.tmp 94) (.tmp 89) rfl (w97.heap.size) 6 #[.int .i64 Tm.zero.k, .int .i64 Tm.zero.i, .int .i64 Tm.zero.j, .int .i64 Tm.zero.n, (.slice a195 Tm.zero.kids.length c196)] rfl rfl 34 size_term (row_ok rfl) _ #[.bool false, .int .i64 u.k, .int .i64 u.i, .int .i64 u.j, .int .i64 u.n, (.slice a187 u.kids.length c188), .int .i64 Tm.zero.k, .int .i64 Tm.zero.i, .int .i64 Tm.zero.j, .int .i64 Tm.zero.n, (.slice a195 Tm.zero.kids.length c196), .int .i64 v2.k, .int .i64 v2.i, .int .i64 v2.j, .int .i64 v2.n, (.slice a113 v2.kids.length c114), .int .i64 i] HX223.out rfl (Nat.le_of_ble_eq_true rfl) ?_
                    intro W229 hW229
                    have KB230 := Lib.hid (kept_set KB208.out hW229 (by have := HG157.out; have := Z0.out; omega))
                    have KB231 := Lib.hid (kept_set KB209.out hW229 HG157.out)
                    have HL232 : Hid (LiesQ W229 (Par w V0.heap.size (w97.heap.size :: []) P) u.kids _) := par_set HL210.out hW229 (List.mem_cons_self ..) (by have := HG157.out; have := Z0.out; omega)
                    have HL233 : Hid (LiesQ W229 (Par w V0.heap.size (w97.heap.size :: []) P) Tm.zero.kids _) := par_set HL211.out hW229 (List.mem_cons_self ..) (by have := HG157.out; have := Z0.out; omega)
                    have HL234 : Hid (LiesQ W229 (Par w V0.heap.size (w97.heap.size :: []) P) v2.kids _) := par_set HL212.out hW229 (List.mem_cons_self ..) (by have := HG157.out; have := Z0.out; omega)
                    have HL235 : Hid (LiesQ W229 (Par w V0.heap.size (w97.heap.size :: []) P) u.kids _) := par_set HL213.out hW229 (List.mem_cons_self ..) (by have := HG157.out; have := Z0.out; omega)
                    have HL236 : Hid (LiesQ W229 (Par w V0.heap.size (w97.heap.size :: []) P) Tm.zero.kids _) := par_set HL214.out hW229 (List.mem_cons_self ..) (by have := HG157.out; have := Z0.out; omega)
                    have HL237 : Hid (LiesQ W229 (Par w V0.heap.size (w97.heap.size :: []) P) v2.kids _) := par_set HL215.out hW229 (List.mem_cons_self ..) (by have := HG157.out; have := Z0.out; omega)
                    have HL238 : Hid (LiesQ W229 (Par w V0.heap.size (w97.heap.size :: []) P) u.kids _) := par_set HL216.out hW229 (List.mem_cons_self ..) (by have := HG157.out; have := Z0.out; omega)
                    have HL239 : Hid (LiesQ W229 (Par w V0.heap.size (w97.heap.size :: []) P) v.kids _) := par_set HL217.out hW229 (List.mem_cons_self ..) (by have := HG157.out; have := Z0.out; omega)
                    have HL240 : Hid (LiesQ W229 (Par w V0.heap.size (w97.heap.size :: []) P) x.kids _) := par_set HL218.out hW229 (List.mem_cons_self ..) (by have := HG157.out; have := Z0.out; omega)
                    have HL241 : Hid (LiesQ W229 (Par w V0.heap.size (w97.heap.size :: []) P) u2.kids _) := par_set HL219.out hW229 (List.mem_cons_self ..) (by have := HG157.out; have := Z0.out; omega)
                    have HL242 : Hid (LiesQ W229 (Par w V0.heap.size (w97.heap.size :: []) P) v2.kids _) := par_set HL220.out hW229 (List.mem_cons_self ..) (by have := HG157.out; have := Z0.out; omega)
                    have HL243 : Hid (LiesQ W229 (Par w V0.heap.size (w97.heap.size :: []) P) x2.kids _) := par_set HL221.out hW229 (List.mem_cons_self ..) (by have := HG157.out; have := Z0.out; omega)
                    have XL244 := Lib.hid (xlt_set XL222.out hW229)
                    have HX245 := Lib.hid (blk_same HX223.out hW229)
                    (try clear ld224)
                    (try clear ld225)
                    (try clear ld226)
                    (try clear ld227)
                    (try clear ld228)
                    clear hW229
                    have ld246 := part_cell (r := (w.heap.size)) HX245.out (by have := HG157.out; have := Z0.out; omega) 0 (.bool false) rfl
                    have ld247 := part_cell (r := (w.heap.size)) HX245.out (by have := HG157.out; have := Z0.out; omega) 1 (.int .i64 u.k) rfl
                    have ld248 := part_cell (r := (w.heap.size)) HX245.out (by have := HG157.out; have := Z0.out; omega) 6 (.int .i64 Tm.zero.k) rfl
                    have ld249 := part_cell (r := (w.heap.size)) HX245.out (by have := HG157.out; have := Z0.out; omega) 11 (.int .i64 v2.k) rfl
                    have ld250 := part_cell (r := (w.heap.size)) HX245.out (by have := HG157.out; have := Z0.out; omega) 16 (.int .i64 i) rfl
                    refine hK.out _ _ (fun h => Bool.noConfusion (show true = false from h)) (fun _ => ?_)
                    clear hK K
                    (try simp only [Act.put])
                    refine takeX_any 13 95 of12ftr15_13 (v := ?_) (Or.inl ⟨by rfl, ?_⟩) ?_ (fun h => Bool.noConfusion (show true = false from h))
                    rotate_left 1
                    · ((intro w hSw; (try dsimp only at hSw); unfold of12ftr15_13; go_simp) <;> with_reducible rfl)
                    (try simp only [Act.put, List.setIfInBounds_toArray, List.set_cons_zero, List.set_cons_succ])
                    refine wpAnyX_ready (rs := [14]) (by kernel_rfl) (by simp) ?_
                    refine AllReadyX.cons (o := of12ftr15_14) rfl (fun K hK => ?_) ?_
                    · unfold of12ftr15_14
                      refine step_store_part rfl 32 (.tmp 95) (.tmp 92) rfl (w97.heap.size) 11 #[.int .i64 v2.k, .int .i64 v2.i, .int .i64 v2.j, .int .i64 v2.n, (.slice a203 v2.kids.length c204)] rfl rfl 34 size_term (row_ok rfl) _ #[.bool false, .int .i64 u.k, .int .i64 u.i, .int .i64 u.j, .int .i64 u.n, (.slice a187 u.kids.length c188), .int .i64 Tm.zero.k, .int .i64 Tm.zero.i, .int .i64 Tm.zero.j, .int .i64 Tm.zero.n, (.slice a195 Tm.zero.kids.length c196), .int .i64 v2.k, .int .i64 v2.i, .int .i64 v2.j, .int .i64 v2.n, (.slice a203 v2.kids.length c204), .int .i64 i] HX245.out rfl (Nat.le_of_ble_eq_true rfl) ?_
                      intro W251 hW251
                      have KB252 := Lib.hid (kept_set KB230.out hW251 (by have := HG157.out; have := Z0.out; omega))
                      have KB253 := Lib.hid (kept_set KB231.out hW251 HG157.out)
                      have HL254 : Hid (LiesQ W251 (Par w V0.heap.size (w97.heap.size :: []) P) u.kids _) := par_set HL232.out hW251 (List.mem_cons_self ..) (by have := HG157.out; have := Z0.out; omega)
                      have HL255 : Hid (LiesQ W251 (Par w V0.heap.size (w97.heap.size :: []) P) Tm.zero.kids _) := par_set HL233.out hW251 (List.mem_cons_self ..) (by have := HG157.out; have := Z0.out; omega)
                      have HL256 : Hid (LiesQ W251 (Par w V0.heap.size (w97.heap.size :: []) P) v2.kids _) := par_set HL234.out hW251 (List.mem_cons_self ..) (by have := HG157.out; have := Z0.out; omega)
                      have HL257 : Hid (LiesQ W251 (Par w V0.heap.size (w97.heap.size :: []) P) u.kids _) := par_set HL235.out hW251 (List.mem_cons_self ..) (by have := HG157.out; have := Z0.out; omega)
                      have HL258 : Hid (LiesQ W251 (Par w V0.heap.size (w97.heap.size :: []) P) Tm.zero.kids _) := par_set HL236.out hW251 (List.mem_cons_self ..) (by have := HG157.out; have := Z0.out; omega)
                      have HL259 : Hid (LiesQ W251 (Par w V0.heap.size (w97.heap.size :: []) P) v2.kids _) := par_set HL237.out hW251 (List.mem_cons_self ..) (by have := HG157.out; have := Z0.out; omega)
                      have HL260 : Hid (LiesQ W251 (Par w V0.heap.size (w97.heap.size :: []) P) u.kids _) := par_set HL238.out hW251 (List.mem_cons_self ..) (by have := HG157.out; have := Z0.out; omega)
                      have HL261 : Hid (LiesQ W251 (Par w V0.heap.size (w97.heap.size :: []) P) v.kids _) := par_set HL239.out hW251 (List.mem_cons_self ..) (by have := HG157.out; have := Z0.out; omega)
                      have HL262 : Hid (LiesQ W251 (Par w V0.heap.size (w97.heap.size :: []) P) x.kids _) := par_set HL240.out hW251 (List.mem_cons_self ..) (by have := HG157.out; have := Z0.out; omega)
                      have HL263 : Hid (LiesQ W251 (Par w V0.heap.size (w97.heap.size :: []) P) u2.kids _) := par_set HL241.out hW251 (List.mem_cons_self ..) (by have := HG157.out; have := Z0.out; omega)
                      have HL264 : Hid (LiesQ W251 (Par w V0.heap.size (w97.heap.size :: []) P) v2.kids _) := par_set HL242.out hW251 (List.mem_cons_self ..) (by have := HG157.out; have := Z0.out; omega)
                      have HL265 : Hid (LiesQ W251 (Par w V0.heap.size (w97.heap.size :: []) P) x2.kids _) := par_set HL243.out hW251 (List.mem_cons_self ..) (by have := HG157.out; have := Z0.out; omega)
                      have XL266 := Lib.hid (xlt_set XL244.out hW251)
                      have HX267 := Lib.hid (blk_same HX245.out hW251)
                      (try clear ld246)
                      (try clear ld247)
                      (try clear ld248)
                      (try clear ld249)
                      (try clear ld250)
                      clear hW251
                      have ld268 := part_cell (r := (w.heap.size)) HX267.out (by have := HG157.out; have := Z0.out; omega) 0 (.bool false) rfl
                      have ld269 := part_cell (r := (w.heap.size)) HX267.out (by have := HG157.out; have := Z0.out; omega) 1 (.int .i64 u.k) rfl
                      have ld270 := part_cell (r := (w.heap.size)) HX267.out (by have := HG157.out; have := Z0.out; omega) 6 (.int .i64 Tm.zero.k) rfl
                      have ld271 := part_cell (r := (w.heap.size)) HX267.out (by have := HG157.out; have := Z0.out; omega) 11 (.int .i64 v2.k) rfl
                      have ld272 := part_cell (r := (w.heap.size)) HX267.out (by have := HG157.out; have := Z0.out; omega) 16 (.int .i64 i) rfl
                      refine hK.out _ _ (fun h => Bool.noConfusion (show true = false from h)) (fun _ => ?_)
                      clear hK K
                      (try simp only [Act.put])
                      refine wpAnyX_done (by kernel_rfl) ?_ _
                      have kvV0 : Sees V0 (w.heap.size) W251 := sees_kept _ KB253.out
                      have kvW251 : Sees W251 (w.heap.size) W251 := sees_kept _ (kept_refl _)
                      go_wp2_with (refine stop_load 34 (.tmp 13) rfl ?_)
                      intro _
                      refine wpList_load_part (w97.heap.size) (0) 34 (.tmp 13) #[.bool false, .int .i64 u.k, .int .i64 u.i, .int .i64 u.j, .int .i64 u.n, (.slice a187 u.kids.length c188), .int .i64 Tm.zero.k, .int .i64 Tm.zero.i, .int .i64 Tm.zero.j, .int .i64 Tm.zero.n, (.slice a195 Tm.zero.kids.length c196), .int .i64 v2.k, .int .i64 v2.i, .int .i64 v2.j, .int .i64 v2.n, (.slice a203 v2.kids.length c204), .int .i64 i] dj HX267.out (by rfl) rfl (by rfl) (by rfl) dj1 (by cases dj <;> first | rfl | exact dj2) (by kernel_rfl) ?_
                      go_wp2_with (refine stop_store 34 (.tmp 8) (.tmp 96) rfl ?_)
                      intro _
                      refine wpList_store_part_n (by rfl) 34 (.tmp 8) (.tmp 96) rfl (w.heap.size) 0 #[.bool false, .int .i64 u.k, .int .i64 u.i, .int .i64 u.j, .int .i64 u.n, (.slice a187 u.kids.length c188), .int .i64 Tm.zero.k, .int .i64 Tm.zero.i, .int .i64 Tm.zero.j, .int .i64 Tm.zero.n, (.slice a195 Tm.zero.kids.length c196), .int .i64 v2.k, .int .i64 v2.i, .int .i64 v2.j, .int .i64 v2.n, (.slice a203 v2.kids.length c204), .int .i64 i] (by rfl) (by rfl) 34 (by kernel_rfl) (row_ok rfl) ?_
                      intro W273 hW273
                      clear kvV0
                      clear kvW251
                      subst hW273
                      refine ⟨_, #[.bool false, .int .i64 u.k, .int .i64 u.i, .int .i64 u.j, .int .i64 u.n, (.slice a187 u.kids.length c188), .int .i64 Tm.zero.k, .int .i64 Tm.zero.i, .int .i64 Tm.zero.j, .int .i64 Tm.zero.n, (.slice a195 Tm.zero.kids.length c196), .int .i64 v2.k, .int .i64 v2.i, .int .i64 v2.j, .int .i64 v2.n, (.slice a203 v2.kids.length c204), .int .i64 i], (blk_at Hx1.out KB253.out), rfl, Nat.le_of_ble_eq_true rfl, ?_⟩
                      intro W274 hW274
                      go_wp2_with fail
                      (try simp only [Exit.inBlock, Exit.then])
                      refine bodyPost_ret (results_cell_tmp rfl _ _ (w.heap.size) 34 _ _ dj rfl (blk_same (blk_at Hx1.out KB253.out) hW274) dj1 (by cases dj <;> first | rfl | exact dj2) (by kernel_rfl)) rfl ?_
                      have jz278 := Z0.out
                      have jq275 := par_end (par_row' HL257.out hW274 (by omega) (by omega)) (by omega)
                      have jq276 := par_end (par_row' HL258.out hW274 (by omega) (by omega)) (by omega)
                      have jq277 := par_end (par_row' HL259.out hW274 (by omega) (by omega)) (by omega)
                      exact ⟨true, ⟨false, u, .zero, v2, i⟩, _, _, _, rfl, ⟨Gu.out, zero_fine, Gv2.out, Ri.out⟩, ⟨jq275, jq276, jq277⟩, (fun _ => rfl), kept_set KB252.out hW274 (by omega)⟩
                    exact AllReadyX.nil
                  exact AllReadyX.nil
                exact AllReadyX.nil
              exact AllReadyX.nil
            exact AllReadyX.nil
          exact AllReadyX.nil

end Go.Proofs.Ytjlppnmckobcfaa
