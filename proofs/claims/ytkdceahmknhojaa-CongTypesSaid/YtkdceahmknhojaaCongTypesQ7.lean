/-
  Facts and contracts that the proof of CongTypes uses.
-/
import Derived.Test.YtkdceahmknhojaaRows
import Derived.WalkKit
import Derived.Lib.Hide
import Derived.KernelRfl
import Derived.Deep.RegionWith
import Derived.Deep.RegionHeld3
import Derived.Deep.AppendLies
import Derived.Laws.Rows
import Derived.Laws.IdiomCopy
import Derived.Deep.Slices
import Derived.Lib.QuietBelow
import Derived.StillTailTactics
import Derived.BigQuiet
import Derived.IntWalk
import Derived.OwnWalk
import Derived.Deep.RegionLaw
import Derived.Deep.QuietTactic
import Derived.Deep.LoopGhost
import Derived.Deep.DeepCutAuto
import Derived.Deep.MidRow
import Derived.OrdersHeld
import Derived.Laws.Tables
import Derived.Laws.CopyOwn
import Derived.Laws.CopyRow
import Derived.Deep.Upon
import Derived.ArgAppend
import Derived.Deep.RegionHeld
import Derived.Lib.MinMax
import Derived.ProofKit
import Derived.OpenShut
import Derived.Carry
import Derived.ChangeSlices
import Derived.JoinedOf
import Derived.Test.YtkdceahmknhojaaCongTypesQ6
namespace Go.Proofs.Ytkdceahmknhojaa
open Go.RowKit
set_option maxRecDepth 20000 in
set_option maxHeartbeats 4000000 in
theorem rcLam_any (x : Tm) (y : Tm) (z : Tm) (g : Fm) (P : Nat → Prop) (w : World) (sga : Value) (sgc : Value) (sgb : Value) (sgd : Value) (sge : Value) (sgf : Value) (sx : Value) (sy : Value) (sz : Value) (hfg : g.fine) (hlg : FQ w P g sga sgc sgb sgd sge sgf) (hfx : x.fine) (hlx : LiesQ w P x.kids sx) (hfy : y.fine) (hly : LiesQ w P y.kids sy) (hfz : z.fine) (hlz : LiesQ w P z.kids sz) : Calls Try.prog 61 #[fv g sga sgc sgb sgd sge sgf, tv x sx, tv y sy, tv z sz] w (GivesHP P (cgLam g x y z) w) := by
  have Gg := Lib.hid hfg
  clear hfg
  obtain ⟨hlga, hlgc, hlgb, hlgd, hlge, hlgf⟩ := hlg
  obtain ⟨aga, cga, Sga, rfl, -⟩ := hlga.out
  obtain ⟨agc, cgc, Sgc, rfl, -⟩ := hlgc.out
  obtain ⟨agb, cgb, Sgb, rfl, -⟩ := hlgb.out
  obtain ⟨agd, cgd, Sgd, rfl, -⟩ := hlgd.out
  obtain ⟨age, cge, Sge, rfl, -⟩ := hlge.out
  obtain ⟨agf, cgf, Sgf, rfl, -⟩ := hlgf.out
  have Gx := Lib.hid hfx
  clear hfx
  obtain ⟨ax, cx, Sx, rfl, -⟩ := hlx.out
  have Gy := Lib.hid hfy
  clear hfy
  obtain ⟨ay, cy, Sy, rfl, -⟩ := hly.out
  have Gz := Lib.hid hfz
  clear hfz
  obtain ⟨az, cz, Sz, rfl, -⟩ := hlz.out
  obtain ⟨du, hu1, hu2⟩ := under_term
  obtain ⟨dq, dq1, dq2⟩ := under_of 69 (by kernel_rfl)
  obtain ⟨dr, dr1, dr2⟩ := under_of 45 (by kernel_rfl)
  unfold fv
  unfold tv
  go_enter Try.func61, Try.ntmps61
  go_upto_region 1 with fail
  refine at_code (fun V0 hV0 => ?_)
  obtain ⟨k6, x1, x2, x3, x4, x5, z7⟩ := alloc5 hV0
  have Kk8 := Lib.hid k6
  clear k6
  have Hx1 := Lib.hid x1
  have Hx2 := Lib.hid x2
  have Hx3 := Lib.hid x3
  have Hx4 := Lib.hid x4
  have Hx5 := Lib.hid x5
  have Z0 := Lib.hid z7
  clear z7 x1 x2 x3 x4 x5 hV0
  have HLga : Hid (LiesQ V0 (Par w V0.heap.size [] P) g.a.kids _) := (par_in _ _ hlga).later Kk8.out
  clear hlga
  have HLgc : Hid (LiesQ V0 (Par w V0.heap.size [] P) g.c.kids _) := (par_in _ _ hlgc).later Kk8.out
  clear hlgc
  have HLgb : Hid (LiesQ V0 (Par w V0.heap.size [] P) g.b.kids _) := (par_in _ _ hlgb).later Kk8.out
  clear hlgb
  have HLgd : Hid (LiesQ V0 (Par w V0.heap.size [] P) g.d.kids _) := (par_in _ _ hlgd).later Kk8.out
  clear hlgd
  have HLge : Hid (LiesQ V0 (Par w V0.heap.size [] P) g.e.kids _) := (par_in _ _ hlge).later Kk8.out
  clear hlge
  have HLgf : Hid (LiesQ V0 (Par w V0.heap.size [] P) g.f.kids _) := (par_in _ _ hlgf).later Kk8.out
  clear hlgf
  have HLx : Hid (LiesQ V0 (Par w V0.heap.size [] P) x.kids _) := (par_in _ _ hlx).later Kk8.out
  clear hlx
  have HLy : Hid (LiesQ V0 (Par w V0.heap.size [] P) y.kids _) := (par_in _ _ hly).later Kk8.out
  clear hly
  have HLz : Hid (LiesQ V0 (Par w V0.heap.size [] P) z.kids _) := (par_in _ _ hlz).later Kk8.out
  clear hlz
  have ld9 := part_cell (r := (w.heap.size + 4)) Hx1.out (by have := Z0.out; omega) 0 (.int .i64 g.i) rfl
  have ld10 := part_cell (r := (w.heap.size + 4)) Hx1.out (by have := Z0.out; omega) 1 (.int .i64 g.j) rfl
  have kvV0 : Sees V0 (w.heap.size + 4) V0 := sees_kept _ (kept_refl _)
  go_wp2_with (refine stop_load 69 (.tmp 4) rfl ?_)
  intro _
  refine wpList_load_part (w.heap.size) 0 69 (.tmp 4) #[.int .i64 g.i, .int .i64 g.j, .int .i64 g.a.k, .int .i64 g.a.i, .int .i64 g.a.j, .int .i64 g.a.n, (.slice aga g.a.kids.length cga), .int .i64 g.c.k, .int .i64 g.c.i, .int .i64 g.c.j, .int .i64 g.c.n, (.slice agc g.c.kids.length cgc), .int .i64 g.b.k, .int .i64 g.b.i, .int .i64 g.b.j, .int .i64 g.b.n, (.slice agb g.b.kids.length cgb), .int .i64 g.d.k, .int .i64 g.d.i, .int .i64 g.d.j, .int .i64 g.d.n, (.slice agd g.d.kids.length cgd), .int .i64 g.e.k, .int .i64 g.e.i, .int .i64 g.e.j, .int .i64 g.e.n, (.slice age g.e.kids.length cge), .int .i64 g.f.k, .int .i64 g.f.i, .int .i64 g.f.j, .int .i64 g.f.n, (.slice agf g.f.kids.length cgf)] dq Hx1.out (by rfl) rfl (by rfl) (by rfl) dq1 (by cases dq <;> first | rfl | exact dq2) (by kernel_rfl) ?_
  go_wp2_with fail
  clear kvV0
  refine (rfright_any g (Par w V0.heap.size [] P) _ (.slice aga g.a.kids.length cga) (.slice agc g.c.kids.length cgc) (.slice agb g.b.kids.length cgb) (.slice agd g.d.kids.length cgd) (.slice age g.e.kids.length cge) (.slice agf g.f.kids.length cgf) (show Fm.fine g from ⟨Gg.out.1, Gg.out.2.1, Gg.out.2.2.1, Gg.out.2.2.2.1, Gg.out.2.2.2.2.1, Gg.out.2.2.2.2.2.1, Gg.out.2.2.2.2.2.2.1, Gg.out.2.2.2.2.2.2.2⟩) ⟨HLga.out, HLgc.out, HLgb.out, HLgd.out, HLge.out, HLgf.out⟩).mono ?_
  obtain ⟨rb14, hb13⟩ : ∃ qb, (fmR g) = qb := ⟨_, rfl⟩
  rw [hb13]
  have Hhb13 := Lib.hid hb13
  clear hb13
  rintro e w11 ⟨rfl, k12⟩
  have Kk15 := Lib.hid k12
  clear k12
  cases rb14 with
  | false =>
    have kvV0 : Sees V0 (w.heap.size + 4) w11 := sees_kept _ Kk15.out
    go_wp2_with (refine stop_store 45 (.tmp 8) (.tmp 22) rfl ?_)
    intro _
    refine wpList_store_part_n (by rfl) 45 (.tmp 8) (.tmp 22) rfl (w.heap.size + 4) 0 #[.int .i64 0, .int .i64 0, .int .i64 0, .int .i64 0, .int .i64 0, .slice none 0 0, .int .i64 0, .int .i64 0, .int .i64 0, .int .i64 0, .slice none 0 0, .int .i64 0, .int .i64 0, .int .i64 0, .int .i64 0, .slice none 0 0, .int .i64 0, .int .i64 0, .int .i64 0, .int .i64 0, .slice none 0 0, .int .i64 0, .int .i64 0, .int .i64 0, .int .i64 0, .slice none 0 0] (by rfl) (by rfl) 45 (by kernel_rfl) (row_ok rfl) ?_
    intro W16 hW16
    clear kvV0
    subst hW16
    refine ⟨_, #[.int .i64 0, .int .i64 0, .int .i64 0, .int .i64 0, .int .i64 0, .slice none 0 0, .int .i64 0, .int .i64 0, .int .i64 0, .int .i64 0, .slice none 0 0, .int .i64 0, .int .i64 0, .int .i64 0, .int .i64 0, .slice none 0 0, .int .i64 0, .int .i64 0, .int .i64 0, .int .i64 0, .slice none 0 0, .int .i64 0, .int .i64 0, .int .i64 0, .int .i64 0, .slice none 0 0], (blk_at Hx5.out Kk15.out), rfl, Nat.le_of_ble_eq_true rfl, ?_⟩
    intro W17 hW17
    go_wp2_with fail
    refine bodyPost_ret (results_cell_row rfl _ _ (w.heap.size + 4) 45 _ _ dr rfl (blk_same (blk_at Hx5.out Kk15.out) hW17) dr1 (by cases dr <;> first | rfl | exact dr2) (by kernel_rfl)) rfl ?_
    rw [show cgLam g x y z = (⟨0, (.mk 0 0 0 0 []), (.mk 0 0 0 0 []), (.mk 0 0 0 0 []), (.mk 0 0 0 0 []), (.mk 0 0 0 0 [])⟩ : He) from by unfold cgLam; rw [Hhb13.out]; (try first | rfl | simp)]
    exact ⟨_, _, _, _, _, rfl, ⟨par_end (par_row' (liesQ_nil w11 (Par w V0.heap.size [] P)) hW17 (by omega) (by have := Z0.out; omega)) (by have := Z0.out; omega), par_end (par_row' (liesQ_nil w11 (Par w V0.heap.size [] P)) hW17 (by omega) (by have := Z0.out; omega)) (by have := Z0.out; omega), par_end (par_row' (liesQ_nil w11 (Par w V0.heap.size [] P)) hW17 (by omega) (by have := Z0.out; omega)) (by have := Z0.out; omega), par_end (par_row' (liesQ_nil w11 (Par w V0.heap.size [] P)) hW17 (by omega) (by have := Z0.out; omega)) (by have := Z0.out; omega), par_end (par_row' (liesQ_nil w11 (Par w V0.heap.size [] P)) hW17 (by omega) (by have := Z0.out; omega)) (by have := Z0.out; omega)⟩, kept_set (kept_trans Kk8.out Kk15.out) hW17 (by omega)⟩
  | true =>
    have kvV0 : Sees V0 (w.heap.size + 4) w11 := sees_kept _ Kk15.out
    go_wp2_with (refine stop_load 32 (.tmp 5) rfl ?_)
    intro _
    refine wpList_load_part (w.heap.size + 1) 0 32 (.tmp 5) #[.int .i64 x.k, .int .i64 x.i, .int .i64 x.j, .int .i64 x.n, (.slice ax x.kids.length cx)] du (blk_at Hx2.out Kk15.out) (by rfl) rfl (by rfl) (by rfl) hu1 (by cases du <;> first | rfl | exact hu2) size_term ?_
    go_wp2_with (refine stop_load 32 (.tmp 6) rfl ?_)
    intro _
    refine wpList_load_part (w.heap.size + 2) 0 32 (.tmp 6) #[.int .i64 y.k, .int .i64 y.i, .int .i64 y.j, .int .i64 y.n, (.slice ay y.kids.length cy)] du (blk_at Hx3.out Kk15.out) (by rfl) rfl (by rfl) (by rfl) hu1 (by cases du <;> first | rfl | exact hu2) size_term ?_
    go_wp2_with (refine stop_load 32 (.tmp 7) rfl ?_)
    intro _
    refine wpList_load_part (w.heap.size + 3) 0 32 (.tmp 7) #[.int .i64 z.k, .int .i64 z.i, .int .i64 z.j, .int .i64 z.n, (.slice az z.kids.length cz)] du (blk_at Hx4.out Kk15.out) (by rfl) rfl (by rfl) (by rfl) hu1 (by cases du <;> first | rfl | exact hu2) size_term ?_
    go_wp2_with fail
    refine at_world (fun W19 hW19 => ?_)
    clear kvV0
    obtain ⟨k21, x20, z22⟩ := alloc1 hW19
    have Kk23 := Lib.hid k21
    clear k21
    have Hx20 := Lib.hid x20
    have Hz22 := Lib.hid z22
    clear x20 z22 hW19
    have kq25 := (kept_trans Kk15.out Kk23.out)
    have HR24 := Lib.hid (q_row3 Hx20.out Gx.out (HLx.out.later kq25) Gy.out (HLy.out.later kq25) Gz.out (HLz.out.later kq25) (par_new (Below.size Kk15.out) (xlt_nil _) (Nat.le_refl _)))
    clear kq25
    refine (rplain_any [x, y, z] _ _ HR24.out.lies).mono ?_
    obtain ⟨rb29, hb28⟩ : ∃ qb, (plainL [x, y, z]) = qb := ⟨_, rfl⟩
    rw [hb28]
    have Hhb28 := Lib.hid hb28
    clear hb28
    rintro e w26 ⟨rfl, k27⟩
    have Kk30 := Lib.hid k27
    clear k27
    cases rb29 with
    | false =>
      have kvV0 : Sees V0 (w.heap.size + 4) w26 := sees_kept _ (kept_trans Kk15.out (kept_trans Kk23.out Kk30.out))
      go_wp2_with (refine stop_store 45 (.tmp 8) (.tmp 22) rfl ?_)
      intro _
      refine wpList_store_part_n (by rfl) 45 (.tmp 8) (.tmp 22) rfl (w.heap.size + 4) 0 #[.int .i64 0, .int .i64 0, .int .i64 0, .int .i64 0, .int .i64 0, .slice none 0 0, .int .i64 0, .int .i64 0, .int .i64 0, .int .i64 0, .slice none 0 0, .int .i64 0, .int .i64 0, .int .i64 0, .int .i64 0, .slice none 0 0, .int .i64 0, .int .i64 0, .int .i64 0, .int .i64 0, .slice none 0 0, .int .i64 0, .int .i64 0, .int .i64 0, .int .i64 0, .slice none 0 0] (by rfl) (by rfl) 45 (by kernel_rfl) (row_ok rfl) ?_
      intro W31 hW31
      clear kvV0
      subst hW31
      refine ⟨_, #[.int .i64 0, .int .i64 0, .int .i64 0, .int .i64 0, .int .i64 0, .slice none 0 0, .int .i64 0, .int .i64 0, .int .i64 0, .int .i64 0, .slice none 0 0, .int .i64 0, .int .i64 0, .int .i64 0, .int .i64 0, .slice none 0 0, .int .i64 0, .int .i64 0, .int .i64 0, .int .i64 0, .slice none 0 0, .int .i64 0, .int .i64 0, .int .i64 0, .int .i64 0, .slice none 0 0], (blk_at Hx5.out (kept_trans Kk15.out (kept_trans Kk23.out Kk30.out))), rfl, Nat.le_of_ble_eq_true rfl, ?_⟩
      intro W32 hW32
      go_wp2_with fail
      refine bodyPost_ret (results_cell_row rfl _ _ (w.heap.size + 4) 45 _ _ dr rfl (blk_same (blk_at Hx5.out (kept_trans Kk15.out (kept_trans Kk23.out Kk30.out))) hW32) dr1 (by cases dr <;> first | rfl | exact dr2) (by kernel_rfl)) rfl ?_
      rw [show cgLam g x y z = (⟨0, (.mk 0 0 0 0 []), (.mk 0 0 0 0 []), (.mk 0 0 0 0 []), (.mk 0 0 0 0 []), (.mk 0 0 0 0 [])⟩ : He) from by unfold cgLam; rw [Hhb13.out, Hhb28.out]; (try first | rfl | simp)]
      exact ⟨_, _, _, _, _, rfl, ⟨par_end (par_row' (liesQ_nil w26 (Par w V0.heap.size [] P)) hW32 (by omega) (by have := Z0.out; omega)) (by have := Z0.out; omega), par_end (par_row' (liesQ_nil w26 (Par w V0.heap.size [] P)) hW32 (by omega) (by have := Z0.out; omega)) (by have := Z0.out; omega), par_end (par_row' (liesQ_nil w26 (Par w V0.heap.size [] P)) hW32 (by omega) (by have := Z0.out; omega)) (by have := Z0.out; omega), par_end (par_row' (liesQ_nil w26 (Par w V0.heap.size [] P)) hW32 (by omega) (by have := Z0.out; omega)) (by have := Z0.out; omega), par_end (par_row' (liesQ_nil w26 (Par w V0.heap.size [] P)) hW32 (by omega) (by have := Z0.out; omega)) (by have := Z0.out; omega)⟩, kept_set (kept_trans Kk8.out (kept_trans Kk15.out (kept_trans Kk23.out Kk30.out))) hW32 (by omega)⟩
    | true =>
      have kvV0 : Sees V0 (w.heap.size + 4) w26 := sees_kept _ (kept_trans Kk15.out (kept_trans Kk23.out Kk30.out))
      go_wp2_with fail
      clear kvV0
      obtain ⟨W33, h34⟩ : ∃ x, World.drew w26 = x := ⟨_, rfl⟩
      have k35 : Kept w26 W33 := by rw [← h34]; exact kept_drew (kept_refl _)
      have Kk36 := Lib.hid k35
      clear k35
      refine wp_region_held_drew (S := Sees W33 (w.heap.size + 4)) (by kernel_rfl) ?_ (fun hHeld => ?_)
      · (try dsimp only)
        rw [h34]
        exact sees_kept _ (kept_refl _)
      rw [h34] at hHeld ⊢
      clear h34
      refine take_at 0 23 rcLamr3_0 (v := ?_) (Or.inl ⟨by rfl, ?_⟩) ?_
      rotate_left 1
      · ((intro w hSw; (try dsimp only at hSw); unfold rcLamr3_0; go_simp) <;> with_reducible rfl)
      (try simp only [Act.put, List.setIfInBounds_toArray, List.set_cons_zero, List.set_cons_succ])
      refine take_at 1 24 rcLamr3_1 (yields_part (w.heap.size) 2 32 (.tmp 23) #[.int .i64 g.a.k, .int .i64 g.a.i, .int .i64 g.a.j, .int .i64 g.a.n, (.slice aga g.a.kids.length cga)] du (fun _ h => sees_blk Hx1.out (by have := Z0.out; omega) (sees_of (kept_trans Kk15.out (kept_trans Kk23.out (kept_trans Kk30.out Kk36.out))) h)) (by rfl) rfl (by rfl) (by rfl) hu1 (by cases du <;> first | rfl | exact hu2) size_term) ?_
      (try simp only [Act.put, List.setIfInBounds_toArray, List.set_cons_zero, List.set_cons_succ])
      refine take_at 2 25 rcLamr3_2 (yields_part (w.heap.size + 1) 0 32 (.tmp 5) #[.int .i64 x.k, .int .i64 x.i, .int .i64 x.j, .int .i64 x.n, (.slice ax x.kids.length cx)] du (fun _ h => sees_blk Hx2.out (by have := Z0.out; omega) (sees_of (kept_trans Kk15.out (kept_trans Kk23.out (kept_trans Kk30.out Kk36.out))) h)) (by rfl) rfl (by rfl) (by rfl) hu1 (by cases du <;> first | rfl | exact hu2) size_term) ?_
      (try simp only [Act.put, List.setIfInBounds_toArray, List.set_cons_zero, List.set_cons_succ])
      refine take_at 5 28 rcLamr3_5 (v := ?_) (Or.inl ⟨by rfl, ?_⟩) ?_
      rotate_left 1
      · ((intro w hSw; (try dsimp only at hSw); unfold rcLamr3_5; go_simp) <;> with_reducible rfl)
      (try simp only [Act.put, List.setIfInBounds_toArray, List.set_cons_zero, List.set_cons_succ])
      refine take_at 6 29 rcLamr3_6 (yields_part (w.heap.size) 7 32 (.tmp 28) #[.int .i64 g.c.k, .int .i64 g.c.i, .int .i64 g.c.j, .int .i64 g.c.n, (.slice agc g.c.kids.length cgc)] du (fun _ h => sees_blk Hx1.out (by have := Z0.out; omega) (sees_of (kept_trans Kk15.out (kept_trans Kk23.out (kept_trans Kk30.out Kk36.out))) h)) (by rfl) rfl (by rfl) (by rfl) hu1 (by cases du <;> first | rfl | exact hu2) size_term) ?_
      (try simp only [Act.put, List.setIfInBounds_toArray, List.set_cons_zero, List.set_cons_succ])
      refine take_at 7 30 rcLamr3_7 (yields_part (w.heap.size + 2) 0 32 (.tmp 6) #[.int .i64 y.k, .int .i64 y.i, .int .i64 y.j, .int .i64 y.n, (.slice ay y.kids.length cy)] du (fun _ h => sees_blk Hx3.out (by have := Z0.out; omega) (sees_of (kept_trans Kk15.out (kept_trans Kk23.out (kept_trans Kk30.out Kk36.out))) h)) (by rfl) rfl (by rfl) (by rfl) hu1 (by cases du <;> first | rfl | exact hu2) size_term) ?_
      (try simp only [Act.put, List.setIfInBounds_toArray, List.set_cons_zero, List.set_cons_succ])
      apply (via_joinCTACCTACCC (K := fun w1054 g63 U902 a899 c900 g590 U1061 a1058 c1059 g324 g140 => (Kept W33 w1054) ∧ (nodeT 14 [g.a, x] = U902) ∧ (nodeT 14 [g.c, y] = U1061) ∧ (LiesQ w1054 (Par w V0.heap.size (g140 :: (g324 :: [])) P) U902.kids (.slice a899 U902.kids.length c900)) ∧ (LiesQ w1054 (Par w V0.heap.size (g140 :: (g324 :: [])) P) U1061.kids (.slice a1058 U1061.kids.length c1059)) ∧ (w1054.heap[g324]? = some (.cells #[.int .i64 0, .int .i64 0, .int .i64 0, .int .i64 0, .slice none 0 0] 32 (0, 0))) ∧ (w1054.heap[g140]? = some (.cells #[.int .i64 0, .int .i64 0, .int .i64 0, .int .i64 0, .slice none 0 0] 32 (0, 0))) ∧ (V0.heap.size ≤ g324) ∧ (W33.heap.size ≤ g324) ∧ (W33.heap.size ≤ g324) ∧ (V0.heap.size ≤ g140) ∧ (W33.heap.size ≤ g140) ∧ (W33.heap.size ≤ g140) ∧ (g324 ≠ g140) ∧ (XLt (g140 :: (g324 :: [])) w1054)))
      intro HJj57
      apply (via_joinCTACCTACC (K := fun W813 g63 U75 a72 c73 g82 U811 a808 c809 g817 => (Kept W33 W813) ∧ (nodeT 14 [g.a, x] = U75) ∧ (nodeT 14 [g.c, y] = U811) ∧ (LiesQ W813 (Par w V0.heap.size (g817 :: []) P) U75.kids (.slice a72 U75.kids.length c73)) ∧ (LiesQ W813 (Par w V0.heap.size (g817 :: []) P) U811.kids (.slice a808 U811.kids.length c809)) ∧ (W813.heap[g817]? = some (.cells #[.int .i64 0, .int .i64 0, .int .i64 0, .int .i64 0, .slice none 0 0] 32 (0, 0))) ∧ (V0.heap.size ≤ g817) ∧ (W33.heap.size ≤ g817) ∧ (W33.heap.size ≤ g817) ∧ (XLt (g817 :: []) W813)))
      intro HJj56
      apply (via_joinCTACCTACC (K := fun W827 g63 U75 a72 c73 g82 U811 a808 c809 g831 => (Kept W33 W827) ∧ (nodeT 14 [g.a, x] = U75) ∧ (nodeT 14 [g.c, y] = U811) ∧ (LiesQ W827 (Par w V0.heap.size (g831 :: []) P) U75.kids (.slice a72 U75.kids.length c73)) ∧ (LiesQ W827 (Par w V0.heap.size (g831 :: []) P) U811.kids (.slice a808 U811.kids.length c809)) ∧ (W827.heap[g831]? = some (.cells #[.int .i64 0, .int .i64 0, .int .i64 0, .int .i64 0, .slice none 0 0] 32 (0, 0))) ∧ (V0.heap.size ≤ g831) ∧ (W33.heap.size ≤ g831) ∧ (W33.heap.size ≤ g831) ∧ (XLt (g831 :: []) W827)))
      intro HJj55
      apply (via_joinCTACCCC (K := fun w895 g63 U902 a899 c900 g590 g324 g140 => (Kept W33 w895) ∧ (nodeT 14 [g.a, x] = U902) ∧ (LiesQ w895 (Par w V0.heap.size (g140 :: (g324 :: [])) P) U902.kids (.slice a899 U902.kids.length c900)) ∧ (LiesQ w895 (Par w V0.heap.size (g140 :: (g324 :: [])) P) ([g.c, y]) (.slice (some ⟨g590, 0, none⟩) 2 2)) ∧ (w895.heap[g324]? = some (.cells #[.int .i64 0, .int .i64 0, .int .i64 0, .int .i64 0, .slice none 0 0] 32 (0, 0))) ∧ (w895.heap[g140]? = some (.cells #[.int .i64 0, .int .i64 0, .int .i64 0, .int .i64 0, .slice none 0 0] 32 (0, 0))) ∧ (V0.heap.size ≤ g324) ∧ (W33.heap.size ≤ g324) ∧ (W33.heap.size ≤ g324) ∧ (V0.heap.size ≤ g140) ∧ (W33.heap.size ≤ g140) ∧ (W33.heap.size ≤ g140) ∧ (g324 ≠ g140) ∧ (XLt (g140 :: (g324 :: [])) w895)))
      intro HJj54
      apply (via_joinCTACCC (K := fun w731 g63 U738 a735 c736 g448 g127 => (Kept W33 w731) ∧ (nodeT 14 [g.a, x] = U738) ∧ (LiesQ w731 (Par w V0.heap.size (g127 :: []) P) U738.kids (.slice a735 U738.kids.length c736)) ∧ (LiesQ w731 (Par w V0.heap.size (g127 :: []) P) ([g.c, y]) (.slice (some ⟨g448, 0, none⟩) 2 2)) ∧ (w731.heap[g127]? = some (.cells #[.int .i64 0, .int .i64 0, .int .i64 0, .int .i64 0, .slice none 0 0] 32 (0, 0))) ∧ (V0.heap.size ≤ g127) ∧ (W33.heap.size ≤ g127) ∧ (W33.heap.size ≤ g127) ∧ (XLt (g127 :: []) w731)))
      intro HJj53
      apply (via_joinCTACCC (K := fun w649 g63 U656 a653 c654 g315 g140 => (Kept W33 w649) ∧ (nodeT 14 [g.a, x] = U656) ∧ (LiesQ w649 (Par w V0.heap.size (g140 :: []) P) U656.kids (.slice a653 U656.kids.length c654)) ∧ (LiesQ w649 (Par w V0.heap.size (g140 :: []) P) ([g.c, y]) (.slice (some ⟨g315, 0, none⟩) 2 2)) ∧ (w649.heap[g140]? = some (.cells #[.int .i64 0, .int .i64 0, .int .i64 0, .int .i64 0, .slice none 0 0] 32 (0, 0))) ∧ (V0.heap.size ≤ g140) ∧ (W33.heap.size ≤ g140) ∧ (W33.heap.size ≤ g140) ∧ (XLt (g140 :: []) w649)))
      intro HJj52
      apply (via_joinCTACCC (K := fun w576 g63 U583 a580 c581 g324 g140 => (Kept W33 w576) ∧ (nodeT 14 [g.a, x] = U583) ∧ (LiesQ w576 (Par w V0.heap.size (g140 :: (g324 :: [])) P) U583.kids (.slice a580 U583.kids.length c581)) ∧ (w576.heap[g324]? = some (.cells #[.int .i64 0, .int .i64 0, .int .i64 0, .int .i64 0, .slice none 0 0] 32 (0, 0))) ∧ (w576.heap[g140]? = some (.cells #[.int .i64 0, .int .i64 0, .int .i64 0, .int .i64 0, .slice none 0 0] 32 (0, 0))) ∧ (V0.heap.size ≤ g324) ∧ (W33.heap.size ≤ g324) ∧ (W33.heap.size ≤ g324) ∧ (V0.heap.size ≤ g140) ∧ (W33.heap.size ≤ g140) ∧ (W33.heap.size ≤ g140) ∧ (g324 ≠ g140) ∧ (XLt (g140 :: (g324 :: [])) w576)))
      intro HJj51
      apply (via_joinCCCC (K := fun W586 g63 g590 g324 g140 => (Kept W33 W586) ∧ (LiesQ W586 (Par w V0.heap.size (g140 :: (g324 :: [])) P) ([g.a, x]) (.slice (some ⟨g63, 0, none⟩) 2 2)) ∧ (LiesQ W586 (Par w V0.heap.size (g140 :: (g324 :: [])) P) ([g.c, y]) (.slice (some ⟨g590, 0, none⟩) 2 2)) ∧ (W586.heap[g324]? = some (.cells #[.int .i64 0, .int .i64 0, .int .i64 0, .int .i64 0, .slice none 0 0] 32 (0, 0))) ∧ (W586.heap[g140]? = some (.cells #[.int .i64 0, .int .i64 0, .int .i64 0, .int .i64 0, .slice none 0 0] 32 (0, 0))) ∧ (V0.heap.size ≤ g324) ∧ (W33.heap.size ≤ g324) ∧ (W33.heap.size ≤ g324) ∧ (V0.heap.size ≤ g140) ∧ (W33.heap.size ≤ g140) ∧ (W33.heap.size ≤ g140) ∧ (g324 ≠ g140) ∧ (XLt (g140 :: (g324 :: [])) W586)))
      intro HJj50
      apply (via_joinCTACC (K := fun W78 g63 U75 a72 c73 g82 => (Kept W33 W78) ∧ (nodeT 14 [g.a, x] = U75) ∧ (LiesQ W78 (Par w V0.heap.size [] P) U75.kids (.slice a72 U75.kids.length c73)) ∧ (LiesQ W78 (Par w V0.heap.size [] P) ([g.c, y]) (.slice (some ⟨g82, 0, none⟩) 2 2))))
      intro HJj49
      apply (via_joinCTACC (K := fun W87 g63 U75 a72 c73 g91 => (Kept W33 W87) ∧ (nodeT 14 [g.a, x] = U75) ∧ (LiesQ W87 (Par w V0.heap.size (g91 :: []) P) U75.kids (.slice a72 U75.kids.length c73)) ∧ (W87.heap[g91]? = some (.cells #[.int .i64 0, .int .i64 0, .int .i64 0, .int .i64 0, .slice none 0 0] 32 (0, 0))) ∧ (V0.heap.size ≤ g91) ∧ (W33.heap.size ≤ g91) ∧ (W33.heap.size ≤ g91) ∧ (XLt (g91 :: []) W87)))
      intro HJj48
      apply (via_joinCCC (K := fun W444 g63 g448 g127 => (Kept W33 W444) ∧ (LiesQ W444 (Par w V0.heap.size (g127 :: []) P) ([g.a, x]) (.slice (some ⟨g63, 0, none⟩) 2 2)) ∧ (LiesQ W444 (Par w V0.heap.size (g127 :: []) P) ([g.c, y]) (.slice (some ⟨g448, 0, none⟩) 2 2)) ∧ (W444.heap[g127]? = some (.cells #[.int .i64 0, .int .i64 0, .int .i64 0, .int .i64 0, .slice none 0 0] 32 (0, 0))) ∧ (V0.heap.size ≤ g127) ∧ (W33.heap.size ≤ g127) ∧ (W33.heap.size ≤ g127) ∧ (XLt (g127 :: []) W444)))
      intro HJj47
      apply (via_joinCTACC (K := fun W100 g63 U75 a72 c73 g104 => (Kept W33 W100) ∧ (nodeT 14 [g.a, x] = U75) ∧ (LiesQ W100 (Par w V0.heap.size (g104 :: []) P) U75.kids (.slice a72 U75.kids.length c73)) ∧ (W100.heap[g104]? = some (.cells #[.int .i64 0, .int .i64 0, .int .i64 0, .int .i64 0, .slice none 0 0] 32 (0, 0))) ∧ (V0.heap.size ≤ g104) ∧ (W33.heap.size ≤ g104) ∧ (W33.heap.size ≤ g104) ∧ (XLt (g104 :: []) W100)))
      intro HJj46
      apply (via_joinCCC (K := fun W311 g63 g315 g140 => (Kept W33 W311) ∧ (LiesQ W311 (Par w V0.heap.size (g140 :: []) P) ([g.a, x]) (.slice (some ⟨g63, 0, none⟩) 2 2)) ∧ (LiesQ W311 (Par w V0.heap.size (g140 :: []) P) ([g.c, y]) (.slice (some ⟨g315, 0, none⟩) 2 2)) ∧ (W311.heap[g140]? = some (.cells #[.int .i64 0, .int .i64 0, .int .i64 0, .int .i64 0, .slice none 0 0] 32 (0, 0))) ∧ (V0.heap.size ≤ g140) ∧ (W33.heap.size ≤ g140) ∧ (W33.heap.size ≤ g140) ∧ (XLt (g140 :: []) W311)))
      intro HJj45
      apply (via_joinCCC (K := fun W360 g154 g364 g186 => (Kept W33 W360) ∧ (LiesQ W360 (Par w V0.heap.size (g186 :: (g364 :: [])) P) ([g.c, y]) (.slice (some ⟨g154, 0, none⟩) 2 2)) ∧ (W360.heap[g364]? = some (.cells #[.int .i64 0, .int .i64 0, .int .i64 0, .int .i64 0, .slice none 0 0] 32 (0, 0))) ∧ (W360.heap[g186]? = some (.cells #[.int .i64 0, .int .i64 0, .int .i64 0, .int .i64 0, .slice none 0 0] 32 (0, 0))) ∧ (V0.heap.size ≤ g364) ∧ (W33.heap.size ≤ g364) ∧ (W33.heap.size ≤ g364) ∧ (V0.heap.size ≤ g186) ∧ (W33.heap.size ≤ g186) ∧ (W33.heap.size ≤ g186) ∧ (g364 ≠ g186) ∧ (XLt (g186 :: (g364 :: [])) W360)))
      intro HJj44
      apply (via_joinCCC (K := fun W320 g63 g324 g140 => (Kept W33 W320) ∧ (LiesQ W320 (Par w V0.heap.size (g140 :: (g324 :: [])) P) ([g.a, x]) (.slice (some ⟨g63, 0, none⟩) 2 2)) ∧ (W320.heap[g324]? = some (.cells #[.int .i64 0, .int .i64 0, .int .i64 0, .int .i64 0, .slice none 0 0] 32 (0, 0))) ∧ (W320.heap[g140]? = some (.cells #[.int .i64 0, .int .i64 0, .int .i64 0, .int .i64 0, .slice none 0 0] 32 (0, 0))) ∧ (V0.heap.size ≤ g324) ∧ (W33.heap.size ≤ g324) ∧ (W33.heap.size ≤ g324) ∧ (V0.heap.size ≤ g140) ∧ (W33.heap.size ≤ g140) ∧ (W33.heap.size ≤ g140) ∧ (g324 ≠ g140) ∧ (XLt (g140 :: (g324 :: [])) W320)))
      intro HJj43
      apply (via_joinCC (K := fun W114 g63 g118 => (Kept W33 W114) ∧ (LiesQ W114 (Par w V0.heap.size [] P) ([g.a, x]) (.slice (some ⟨g63, 0, none⟩) 2 2)) ∧ (LiesQ W114 (Par w V0.heap.size [] P) ([g.c, y]) (.slice (some ⟨g118, 0, none⟩) 2 2))))
      intro HJj42
      apply (via_joinCC (K := fun W169 g154 g173 => (Kept W33 W169) ∧ (LiesQ W169 (Par w V0.heap.size (g173 :: []) P) ([g.c, y]) (.slice (some ⟨g154, 0, none⟩) 2 2)) ∧ (W169.heap[g173]? = some (.cells #[.int .i64 0, .int .i64 0, .int .i64 0, .int .i64 0, .slice none 0 0] 32 (0, 0))) ∧ (V0.heap.size ≤ g173) ∧ (W33.heap.size ≤ g173) ∧ (W33.heap.size ≤ g173) ∧ (XLt (g173 :: []) W169)))
      intro HJj41
      apply (via_joinCC (K := fun W123 g63 g127 => (Kept W33 W123) ∧ (LiesQ W123 (Par w V0.heap.size (g127 :: []) P) ([g.a, x]) (.slice (some ⟨g63, 0, none⟩) 2 2)) ∧ (W123.heap[g127]? = some (.cells #[.int .i64 0, .int .i64 0, .int .i64 0, .int .i64 0, .slice none 0 0] 32 (0, 0))) ∧ (V0.heap.size ≤ g127) ∧ (W33.heap.size ≤ g127) ∧ (W33.heap.size ≤ g127) ∧ (XLt (g127 :: []) W123)))
      intro HJj40
      apply (via_joinCC (K := fun W227 g199 g231 => (Kept W33 W227) ∧ (W227.heap[g199]? = some (.cells #[.int .i64 0, .int .i64 0, .int .i64 0, .int .i64 0, .slice none 0 0] 32 (0, 0))) ∧ (W227.heap[g231]? = some (.cells #[.int .i64 0, .int .i64 0, .int .i64 0, .int .i64 0, .slice none 0 0] 32 (0, 0))) ∧ (V0.heap.size ≤ g199) ∧ (W33.heap.size ≤ g199) ∧ (W33.heap.size ≤ g199) ∧ (V0.heap.size ≤ g231) ∧ (W33.heap.size ≤ g231) ∧ (W33.heap.size ≤ g231) ∧ (g199 ≠ g231) ∧ (XLt (g231 :: (g199 :: [])) W227)))
      intro HJj39
      apply (via_joinCC (K := fun W182 g154 g186 => (Kept W33 W182) ∧ (LiesQ W182 (Par w V0.heap.size (g186 :: []) P) ([g.c, y]) (.slice (some ⟨g154, 0, none⟩) 2 2)) ∧ (W182.heap[g186]? = some (.cells #[.int .i64 0, .int .i64 0, .int .i64 0, .int .i64 0, .slice none 0 0] 32 (0, 0))) ∧ (V0.heap.size ≤ g186) ∧ (W33.heap.size ≤ g186) ∧ (W33.heap.size ≤ g186) ∧ (XLt (g186 :: []) W182)))
      intro HJj38
      apply (via_joinCC (K := fun W136 g63 g140 => (Kept W33 W136) ∧ (LiesQ W136 (Par w V0.heap.size (g140 :: []) P) ([g.a, x]) (.slice (some ⟨g63, 0, none⟩) 2 2)) ∧ (W136.heap[g140]? = some (.cells #[.int .i64 0, .int .i64 0, .int .i64 0, .int .i64 0, .slice none 0 0] 32 (0, 0))) ∧ (V0.heap.size ≤ g140) ∧ (W33.heap.size ≤ g140) ∧ (W33.heap.size ≤ g140) ∧ (XLt (g140 :: []) W136)))
      intro HJj37
      · refine wpAnyH_ready (rs := [3, 8, 10, 11]) (by kernel_rfl) (by simp) ?_
        refine AllReadyH.cons (o := rcLamr3_3) rfl (fun K hK => ?_) ?_
        · unfold rcLamr3_3
          go_simp
          refine at_K (fun W59 hW59 => ?_)
          obtain ⟨g63, hg64, Kk61, Hx60, Hz62, KV65, HN66⟩ := alloc1v (kept_trans Kk15.out (kept_trans Kk23.out (kept_trans Kk30.out Kk36.out))) hW59
          rw [hg64]
          clear hW59
          have HR67 := Lib.hid (q_row2 Hx60.out Gg.out.2.2.1 (HLga.out.later KV65.out) Gx.out (HLx.out.later KV65.out) (par_newg HN66.out (fun h => nomatch h)))
          clear hg64
          (try clear hHeld)
          refine hK.out _ _ (sees_kept _ Kk61.out) (fun hHeld => ?_)
          clear hK K
          (try simp only [Act.put, List.setIfInBounds_toArray, List.set_cons_zero, List.set_cons_succ])
          refine wpAnyH_ready (rs := [4, 8, 10, 11]) (by kernel_rfl) (by simp) ?_
          refine AllReadyH.cons (o := rcLamr3_4) rfl (fun K hK => ?_) ?_
          · unfold rcLamr3_4
            go_simp
            refine (rnode_any 14 [g.a, x] (Par w V0.heap.size [] P) _ _ (show I64 14 from by unfold I64; decide) HR67.out (Nat.le_of_ble_eq_true rfl)).mono ?_
            obtain ⟨U75, hU75⟩ : ∃ qu, nodeT 14 [g.a, x] = qu := ⟨_, rfl⟩
            rw [hU75]
            have HU75 := Lib.hid hU75
            clear hU75
            rintro e w68 ⟨s70, rfl, hl71, k69⟩
            obtain ⟨a72, c73, S74, rfl, -⟩ := hl71.out
            have Kk76 := Lib.hid k69
            clear k69
            have Hhl71 : Hid (LiesQ w68 (Par w V0.heap.size [] P) U75.kids _) := par_give hl71 (Below.size KV65.out) (xlt_nil _)
            clear hl71
            (try clear hHeld)
            refine hK.out _ _ (sees_kept _ (kept_trans Kk61.out Kk76.out)) (fun hHeld => ?_)
            clear hK K
            (try simp only [Act.put, List.setIfInBounds_toArray, List.set_cons_zero, List.set_cons_succ])
            refine wpAnyH_ready (rs := [8, 10, 11]) (by kernel_rfl) (by simp) ?_
            refine AllReadyH.cons (o := rcLamr3_8) rfl (fun K hK => ?_) ?_
            · unfold rcLamr3_8
              go_simp
              refine at_K (fun W78 hW78 => ?_)
              obtain ⟨g82, hg83, Kk80, Hx79, Hz81, KV84, HN85⟩ := alloc1v (kept_trans Kk15.out (kept_trans Kk23.out (kept_trans Kk30.out (kept_trans Kk36.out (kept_trans Kk61.out Kk76.out))))) hW78
              rw [hg83]
              clear hW78
              have HR86 := Lib.hid (q_row2 Hx79.out Gg.out.2.2.2.1 (HLgc.out.later KV84.out) Gy.out (HLy.out.later KV84.out) (par_newg HN85.out (fun h => nomatch h)))
              clear hg83
              (try clear hHeld)
              refine hK.out _ _ (sees_kept _ (kept_trans Kk61.out (kept_trans Kk76.out Kk80.out))) (fun hHeld => ?_)
              clear hK K
              (try simp only [Act.put, List.setIfInBounds_toArray, List.set_cons_zero, List.set_cons_succ])
              exact HJj49 W78 g63 U75 a72 c73 g82 ⟨(kept_trans Kk61.out (kept_trans Kk76.out Kk80.out)), HU75.out, (Hhl71.out.later Kk80.out), HR86.out⟩
            refine AllReadyH.cons (o := rcLamr3_10) rfl (fun K hK => ?_) ?_
            · unfold rcLamr3_10
              go_simp
              refine at_K (fun W87 hW87 => ?_)
              obtain ⟨g91, hg92, Kk89, Hx88, Hz90, KV93, HN94⟩ := alloc1v (kept_trans Kk15.out (kept_trans Kk23.out (kept_trans Kk30.out (kept_trans Kk36.out (kept_trans Kk61.out Kk76.out))))) hW87
              rw [hg92]
              clear hW87
              have HG95 : Hid (V0.heap.size ≤ g91) := (by show _ ≤ _; rw [← hg92]; exact (Below.size (kept_trans Kk15.out (kept_trans Kk23.out (kept_trans Kk30.out (kept_trans Kk36.out (kept_trans Kk61.out Kk76.out)))))))
              have XL96 : Hid (XLt (g91 :: []) W87) := (by show XLt _ _; rw [← hg92]; exact xlt_more (xlt_nil _) Kk89.out (by have := Hz90.out; omega))
              have HP97 : Hid (w68.heap.size ≤ g91) := (by show _ ≤ _; rw [← hg92]; exact Nat.le_refl _)
              have HD98 : Hid (W33.heap.size ≤ g91) := (by show _ ≤ _; rw [← hg92]; exact Below.size (kept_trans Kk61.out Kk76.out))
              clear hg92
              (try clear hHeld)
              refine hK.out _ _ (sees_kept _ (kept_trans Kk61.out (kept_trans Kk76.out Kk89.out))) (fun hHeld => ?_)
              clear hK K
              (try simp only [Act.put, List.setIfInBounds_toArray, List.set_cons_zero, List.set_cons_succ])
              have pg99 : ∀ (l : List Tm) (s : Value), LiesQ w68 (Par w V0.heap.size [] P) l s → LiesQ W87 (Par w V0.heap.size (g91 :: []) P) l s := fun _ _ h => par_grow h Kk89.out (List.forall_mem_cons.2 ⟨(Or.inr HP97.out), (fun _ h => nomatch h)⟩)
              exact HJj48 W87 g63 U75 a72 c73 g91 ⟨(kept_trans Kk61.out (kept_trans Kk76.out Kk89.out)), HU75.out, (pg99 _ _ Hhl71.out), Hx88.out, HG95.out, (Nat.le_trans (Below.size (kept_trans Kk61.out Kk76.out)) HP97.out), HD98.out, XL96.out⟩
            refine AllReadyH.cons (o := rcLamr3_11) rfl (fun K hK => ?_) ?_
            · unfold rcLamr3_11
              go_simp
              refine at_K (fun W100 hW100 => ?_)
              obtain ⟨g104, hg105, Kk102, Hx101, Hz103, KV106, HN107⟩ := alloc1v (kept_trans Kk15.out (kept_trans Kk23.out (kept_trans Kk30.out (kept_trans Kk36.out (kept_trans Kk61.out Kk76.out))))) hW100
              rw [hg105]
              clear hW100
              have HG108 : Hid (V0.heap.size ≤ g104) := (by show _ ≤ _; rw [← hg105]; exact (Below.size (kept_trans Kk15.out (kept_trans Kk23.out (kept_trans Kk30.out (kept_trans Kk36.out (kept_trans Kk61.out Kk76.out)))))))
              have XL109 : Hid (XLt (g104 :: []) W100) := (by show XLt _ _; rw [← hg105]; exact xlt_more (xlt_nil _) Kk102.out (by have := Hz103.out; omega))
              have HP110 : Hid (w68.heap.size ≤ g104) := (by show _ ≤ _; rw [← hg105]; exact Nat.le_refl _)
              have HD111 : Hid (W33.heap.size ≤ g104) := (by show _ ≤ _; rw [← hg105]; exact Below.size (kept_trans Kk61.out Kk76.out))
              clear hg105
              (try clear hHeld)
              refine hK.out _ _ (sees_kept _ (kept_trans Kk61.out (kept_trans Kk76.out Kk102.out))) (fun hHeld => ?_)
              clear hK K
              (try simp only [Act.put, List.setIfInBounds_toArray, List.set_cons_zero, List.set_cons_succ])
              have pg112 : ∀ (l : List Tm) (s : Value), LiesQ w68 (Par w V0.heap.size [] P) l s → LiesQ W100 (Par w V0.heap.size (g104 :: []) P) l s := fun _ _ h => par_grow h Kk102.out (List.forall_mem_cons.2 ⟨(Or.inr HP110.out), (fun _ h => nomatch h)⟩)
              exact HJj46 W100 g63 U75 a72 c73 g104 ⟨(kept_trans Kk61.out (kept_trans Kk76.out Kk102.out)), HU75.out, (pg112 _ _ Hhl71.out), Hx101.out, HG108.out, (Nat.le_trans (Below.size (kept_trans Kk61.out Kk76.out)) HP110.out), HD111.out, XL109.out⟩
            exact AllReadyH.nil
          refine AllReadyH.cons (o := rcLamr3_8) rfl (fun K hK => ?_) ?_
          · unfold rcLamr3_8
            go_simp
            refine at_K (fun W114 hW114 => ?_)
            obtain ⟨g118, hg119, Kk116, Hx115, Hz117, KV120, HN121⟩ := alloc1v KV65.out hW114
            rw [hg119]
            clear hW114
            have HR122 := Lib.hid (q_row2 Hx115.out Gg.out.2.2.2.1 (HLgc.out.later KV120.out) Gy.out (HLy.out.later KV120.out) (par_newg HN121.out (fun h => nomatch h)))
            clear hg119
            (try clear hHeld)
            refine hK.out _ _ (sees_kept _ (kept_trans Kk61.out Kk116.out)) (fun hHeld => ?_)
            clear hK K
            (try simp only [Act.put, List.setIfInBounds_toArray, List.set_cons_zero, List.set_cons_succ])
            exact HJj42 W114 g63 g118 ⟨(kept_trans Kk61.out Kk116.out), (HR67.out.later Kk116.out), HR122.out⟩
          refine AllReadyH.cons (o := rcLamr3_10) rfl (fun K hK => ?_) ?_
          · unfold rcLamr3_10
            go_simp
            refine at_K (fun W123 hW123 => ?_)
            obtain ⟨g127, hg128, Kk125, Hx124, Hz126, KV129, HN130⟩ := alloc1v KV65.out hW123
            rw [hg128]
            clear hW123
            have HG131 : Hid (V0.heap.size ≤ g127) := (by show _ ≤ _; rw [← hg128]; exact (Below.size KV65.out))
            have XL132 : Hid (XLt (g127 :: []) W123) := (by show XLt _ _; rw [← hg128]; exact xlt_more (xlt_nil _) Kk125.out (by have := Hz126.out; omega))
            have HP133 : Hid (W59.heap.size ≤ g127) := (by show _ ≤ _; rw [← hg128]; exact Nat.le_refl _)
            have HD134 : Hid (W33.heap.size ≤ g127) := (by show _ ≤ _; rw [← hg128]; exact Below.size Kk61.out)
            clear hg128
            (try clear hHeld)
            refine hK.out _ _ (sees_kept _ (kept_trans Kk61.out Kk125.out)) (fun hHeld => ?_)
            clear hK K
            (try simp only [Act.put, List.setIfInBounds_toArray, List.set_cons_zero, List.set_cons_succ])
            have pg135 : ∀ (l : List Tm) (s : Value), LiesQ W59 (Par w V0.heap.size [] P) l s → LiesQ W123 (Par w V0.heap.size (g127 :: []) P) l s := fun _ _ h => par_grow h Kk125.out (List.forall_mem_cons.2 ⟨(Or.inr HP133.out), (fun _ h => nomatch h)⟩)
            exact HJj40 W123 g63 g127 ⟨(kept_trans Kk61.out Kk125.out), (pg135 _ _ HR67.out), Hx124.out, HG131.out, (Nat.le_trans (Below.size Kk61.out) HP133.out), HD134.out, XL132.out⟩
          refine AllReadyH.cons (o := rcLamr3_11) rfl (fun K hK => ?_) ?_
          · unfold rcLamr3_11
            go_simp
            refine at_K (fun W136 hW136 => ?_)
            obtain ⟨g140, hg141, Kk138, Hx137, Hz139, KV142, HN143⟩ := alloc1v KV65.out hW136
            rw [hg141]
            clear hW136
            have HG144 : Hid (V0.heap.size ≤ g140) := (by show _ ≤ _; rw [← hg141]; exact (Below.size KV65.out))
            have XL145 : Hid (XLt (g140 :: []) W136) := (by show XLt _ _; rw [← hg141]; exact xlt_more (xlt_nil _) Kk138.out (by have := Hz139.out; omega))
            have HP146 : Hid (W59.heap.size ≤ g140) := (by show _ ≤ _; rw [← hg141]; exact Nat.le_refl _)
            have HD147 : Hid (W33.heap.size ≤ g140) := (by show _ ≤ _; rw [← hg141]; exact Below.size Kk61.out)
            clear hg141
            (try clear hHeld)
            refine hK.out _ _ (sees_kept _ (kept_trans Kk61.out Kk138.out)) (fun hHeld => ?_)
            clear hK K
            (try simp only [Act.put, List.setIfInBounds_toArray, List.set_cons_zero, List.set_cons_succ])
            have pg148 : ∀ (l : List Tm) (s : Value), LiesQ W59 (Par w V0.heap.size [] P) l s → LiesQ W136 (Par w V0.heap.size (g140 :: []) P) l s := fun _ _ h => par_grow h Kk138.out (List.forall_mem_cons.2 ⟨(Or.inr HP146.out), (fun _ h => nomatch h)⟩)
            exact HJj37 W136 g63 g140 ⟨(kept_trans Kk61.out Kk138.out), (pg148 _ _ HR67.out), Hx137.out, HG144.out, (Nat.le_trans (Below.size Kk61.out) HP146.out), HD147.out, XL145.out⟩
          exact AllReadyH.nil
        refine AllReadyH.cons (o := rcLamr3_8) rfl (fun K hK => ?_) ?_
        · unfold rcLamr3_8
          go_simp
          refine at_K (fun W150 hW150 => ?_)
          obtain ⟨g154, hg155, Kk152, Hx151, Hz153, KV156, HN157⟩ := alloc1v (kept_trans Kk15.out (kept_trans Kk23.out (kept_trans Kk30.out Kk36.out))) hW150
          rw [hg155]
          clear hW150
          have HR158 := Lib.hid (q_row2 Hx151.out Gg.out.2.2.2.1 (HLgc.out.later KV156.out) Gy.out (HLy.out.later KV156.out) (par_newg HN157.out (fun h => nomatch h)))
          clear hg155
          (try clear hHeld)
          refine hK.out _ _ (sees_kept _ Kk152.out) (fun hHeld => ?_)
          clear hK K
          (try simp only [Act.put, List.setIfInBounds_toArray, List.set_cons_zero, List.set_cons_succ])
          refine wpAnyH_ready (rs := [3, 10, 11]) (by kernel_rfl) (by simp) ?_
          refine AllReadyH.cons (o := rcLamr3_3) rfl (fun K hK => ?_) ?_
          · unfold rcLamr3_3
            go_simp
            refine at_K (fun W160 hW160 => ?_)
            obtain ⟨g164, hg165, Kk162, Hx161, Hz163, KV166, HN167⟩ := alloc1v KV156.out hW160
            rw [hg165]
            clear hW160
            have HR168 := Lib.hid (q_row2 Hx161.out Gg.out.2.2.1 (HLga.out.later KV166.out) Gx.out (HLx.out.later KV166.out) (par_newg HN167.out (fun h => nomatch h)))
            clear hg165
            (try clear hHeld)
            refine hK.out _ _ (sees_kept _ (kept_trans Kk152.out Kk162.out)) (fun hHeld => ?_)
            clear hK K
            (try simp only [Act.put, List.setIfInBounds_toArray, List.set_cons_zero, List.set_cons_succ])
            exact HJj42 W160 g164 g154 ⟨(kept_trans Kk152.out Kk162.out), HR168.out, (HR158.out.later Kk162.out)⟩
          refine AllReadyH.cons (o := rcLamr3_10) rfl (fun K hK => ?_) ?_
          · unfold rcLamr3_10
            go_simp
            refine at_K (fun W169 hW169 => ?_)
            obtain ⟨g173, hg174, Kk171, Hx170, Hz172, KV175, HN176⟩ := alloc1v KV156.out hW169
            rw [hg174]
            clear hW169
            have HG177 : Hid (V0.heap.size ≤ g173) := (by show _ ≤ _; rw [← hg174]; exact (Below.size KV156.out))
            have XL178 : Hid (XLt (g173 :: []) W169) := (by show XLt _ _; rw [← hg174]; exact xlt_more (xlt_nil _) Kk171.out (by have := Hz172.out; omega))
            have HP179 : Hid (W150.heap.size ≤ g173) := (by show _ ≤ _; rw [← hg174]; exact Nat.le_refl _)
            have HD180 : Hid (W33.heap.size ≤ g173) := (by show _ ≤ _; rw [← hg174]; exact Below.size Kk152.out)
            clear hg174
            (try clear hHeld)
            refine hK.out _ _ (sees_kept _ (kept_trans Kk152.out Kk171.out)) (fun hHeld => ?_)
            clear hK K
            (try simp only [Act.put, List.setIfInBounds_toArray, List.set_cons_zero, List.set_cons_succ])
            have pg181 : ∀ (l : List Tm) (s : Value), LiesQ W150 (Par w V0.heap.size [] P) l s → LiesQ W169 (Par w V0.heap.size (g173 :: []) P) l s := fun _ _ h => par_grow h Kk171.out (List.forall_mem_cons.2 ⟨(Or.inr HP179.out), (fun _ h => nomatch h)⟩)
            exact HJj41 W169 g154 g173 ⟨(kept_trans Kk152.out Kk171.out), (pg181 _ _ HR158.out), Hx170.out, HG177.out, (Nat.le_trans (Below.size Kk152.out) HP179.out), HD180.out, XL178.out⟩
          refine AllReadyH.cons (o := rcLamr3_11) rfl (fun K hK => ?_) ?_
          · unfold rcLamr3_11
            go_simp
            refine at_K (fun W182 hW182 => ?_)
            obtain ⟨g186, hg187, Kk184, Hx183, Hz185, KV188, HN189⟩ := alloc1v KV156.out hW182
            rw [hg187]
            clear hW182
            have HG190 : Hid (V0.heap.size ≤ g186) := (by show _ ≤ _; rw [← hg187]; exact (Below.size KV156.out))
            have XL191 : Hid (XLt (g186 :: []) W182) := (by show XLt _ _; rw [← hg187]; exact xlt_more (xlt_nil _) Kk184.out (by have := Hz185.out; omega))
            have HP192 : Hid (W150.heap.size ≤ g186) := (by show _ ≤ _; rw [← hg187]; exact Nat.le_refl _)
            have HD193 : Hid (W33.heap.size ≤ g186) := (by show _ ≤ _; rw [← hg187]; exact Below.size Kk152.out)
            clear hg187
            (try clear hHeld)
            refine hK.out _ _ (sees_kept _ (kept_trans Kk152.out Kk184.out)) (fun hHeld => ?_)
            clear hK K
            (try simp only [Act.put, List.setIfInBounds_toArray, List.set_cons_zero, List.set_cons_succ])
            have pg194 : ∀ (l : List Tm) (s : Value), LiesQ W150 (Par w V0.heap.size [] P) l s → LiesQ W182 (Par w V0.heap.size (g186 :: []) P) l s := fun _ _ h => par_grow h Kk184.out (List.forall_mem_cons.2 ⟨(Or.inr HP192.out), (fun _ h => nomatch h)⟩)
            exact HJj38 W182 g154 g186 ⟨(kept_trans Kk152.out Kk184.out), (pg194 _ _ HR158.out), Hx183.out, HG190.out, (Nat.le_trans (Below.size Kk152.out) HP192.out), HD193.out, XL191.out⟩
          exact AllReadyH.nil
        refine AllReadyH.cons (o := rcLamr3_10) rfl (fun K hK => ?_) ?_
        · unfold rcLamr3_10
          go_simp
          refine at_K (fun W195 hW195 => ?_)
          obtain ⟨g199, hg200, Kk197, Hx196, Hz198, KV201, HN202⟩ := alloc1v (kept_trans Kk15.out (kept_trans Kk23.out (kept_trans Kk30.out Kk36.out))) hW195
          rw [hg200]
          clear hW195
          have HG203 : Hid (V0.heap.size ≤ g199) := (by show _ ≤ _; rw [← hg200]; exact (Below.size (kept_trans Kk15.out (kept_trans Kk23.out (kept_trans Kk30.out Kk36.out)))))
          have XL204 : Hid (XLt (g199 :: []) W195) := (by show XLt _ _; rw [← hg200]; exact xlt_more (xlt_nil _) Kk197.out (by have := Hz198.out; omega))
          have HP205 : Hid (W33.heap.size ≤ g199) := (by show _ ≤ _; rw [← hg200]; exact Nat.le_refl _)
          have HD206 : Hid (W33.heap.size ≤ g199) := (by show _ ≤ _; rw [← hg200]; exact Below.size (kept_refl _))
          clear hg200
          (try clear hHeld)
          refine hK.out _ _ (sees_kept _ Kk197.out) (fun hHeld => ?_)
          clear hK K
          (try simp only [Act.put, List.setIfInBounds_toArray, List.set_cons_zero, List.set_cons_succ])
          refine wpAnyH_ready (rs := [3, 8, 11]) (by kernel_rfl) (by simp) ?_
          refine AllReadyH.cons (o := rcLamr3_3) rfl (fun K hK => ?_) ?_
          · unfold rcLamr3_3
            go_simp
            refine at_K (fun W208 hW208 => ?_)
            obtain ⟨g212, hg213, Kk210, Hx209, Hz211, KV214, HN215⟩ := alloc1v KV201.out hW208
            rw [hg213]
            clear hW208
            have HR216 := Lib.hid (q_row2 (Q := (Par w V0.heap.size (g199 :: []) P)) Hx209.out Gg.out.2.2.1 (par_grow HLga.out KV214.out (List.forall_mem_cons.2 ⟨(Or.inr (Nat.le_trans (Below.size (kept_trans Kk15.out (kept_trans Kk23.out (kept_trans Kk30.out Kk36.out)))) HP205.out)), (fun _ h => nomatch h)⟩)) Gx.out (par_grow HLx.out KV214.out (List.forall_mem_cons.2 ⟨(Or.inr (Nat.le_trans (Below.size (kept_trans Kk15.out (kept_trans Kk23.out (kept_trans Kk30.out Kk36.out)))) HP205.out)), (fun _ h => nomatch h)⟩)) (par_newg HN215.out (fun h => Nat.lt_irrefl _ (Nat.lt_of_lt_of_le (XL204.out _ h) (Nat.le_of_eq hg213)))))
            clear hg213
            (try clear hHeld)
            refine hK.out _ _ (sees_kept _ (kept_trans Kk197.out Kk210.out)) (fun hHeld => ?_)
            clear hK K
            (try simp only [Act.put, List.setIfInBounds_toArray, List.set_cons_zero, List.set_cons_succ])
            exact HJj40 W208 g212 g199 ⟨(kept_trans Kk197.out Kk210.out), HR216.out, (blk_at Hx196.out Kk210.out), HG203.out, (Nat.le_trans (Below.size (kept_refl _)) HP205.out), HD206.out, (xlt_later XL204.out Kk210.out)⟩
          refine AllReadyH.cons (o := rcLamr3_8) rfl (fun K hK => ?_) ?_
          · unfold rcLamr3_8
            go_simp
            refine at_K (fun W218 hW218 => ?_)
            obtain ⟨g222, hg223, Kk220, Hx219, Hz221, KV224, HN225⟩ := alloc1v KV201.out hW218
            rw [hg223]
            clear hW218
            have HR226 := Lib.hid (q_row2 (Q := (Par w V0.heap.size (g199 :: []) P)) Hx219.out Gg.out.2.2.2.1 (par_grow HLgc.out KV224.out (List.forall_mem_cons.2 ⟨(Or.inr (Nat.le_trans (Below.size (kept_trans Kk15.out (kept_trans Kk23.out (kept_trans Kk30.out Kk36.out)))) HP205.out)), (fun _ h => nomatch h)⟩)) Gy.out (par_grow HLy.out KV224.out (List.forall_mem_cons.2 ⟨(Or.inr (Nat.le_trans (Below.size (kept_trans Kk15.out (kept_trans Kk23.out (kept_trans Kk30.out Kk36.out)))) HP205.out)), (fun _ h => nomatch h)⟩)) (par_newg HN225.out (fun h => Nat.lt_irrefl _ (Nat.lt_of_lt_of_le (XL204.out _ h) (Nat.le_of_eq hg223)))))
            clear hg223
            (try clear hHeld)
            refine hK.out _ _ (sees_kept _ (kept_trans Kk197.out Kk220.out)) (fun hHeld => ?_)
            clear hK K
            (try simp only [Act.put, List.setIfInBounds_toArray, List.set_cons_zero, List.set_cons_succ])
            exact HJj41 W218 g222 g199 ⟨(kept_trans Kk197.out Kk220.out), HR226.out, (blk_at Hx196.out Kk220.out), HG203.out, (Nat.le_trans (Below.size (kept_refl _)) HP205.out), HD206.out, (xlt_later XL204.out Kk220.out)⟩
          refine AllReadyH.cons (o := rcLamr3_11) rfl (fun K hK => ?_) ?_
          · unfold rcLamr3_11
            go_simp
            refine at_K (fun W227 hW227 => ?_)
            obtain ⟨g231, hg232, Kk229, Hx228, Hz230, KV233, HN234⟩ := alloc1v KV201.out hW227
            rw [hg232]
            clear hW227
            have HG235 : Hid (V0.heap.size ≤ g231) := (by show _ ≤ _; rw [← hg232]; exact (Below.size KV201.out))
            have AP236 : Hid (g199 < g231) := (by show _ < _; rw [← hg232]; exact block_lt Hx196.out)
            have XL237 : Hid (XLt (g231 :: (g199 :: [])) W227) := (by show XLt _ _; rw [← hg232]; exact xlt_more XL204.out Kk229.out (by have := Hz230.out; omega))
            have HP238 : Hid (W195.heap.size ≤ g231) := (by show _ ≤ _; rw [← hg232]; exact Nat.le_refl _)
            have HD239 : Hid (W33.heap.size ≤ g231) := (by show _ ≤ _; rw [← hg232]; exact Below.size Kk197.out)
            clear hg232
            (try clear hHeld)
            refine hK.out _ _ (sees_kept _ (kept_trans Kk197.out Kk229.out)) (fun hHeld => ?_)
            clear hK K
            (try simp only [Act.put, List.setIfInBounds_toArray, List.set_cons_zero, List.set_cons_succ])
            exact HJj39 W227 g199 g231 ⟨(kept_trans Kk197.out Kk229.out), (blk_at Hx196.out Kk229.out), Hx228.out, HG203.out, (Nat.le_trans (Below.size (kept_refl _)) HP205.out), HD206.out, HG235.out, (Nat.le_trans (Below.size Kk197.out) HP238.out), HD239.out, (by have := AP236.out; omega), XL237.out⟩
          exact AllReadyH.nil
        refine AllReadyH.cons (o := rcLamr3_11) rfl (fun K hK => ?_) ?_
        · unfold rcLamr3_11
          go_simp
          refine at_K (fun W240 hW240 => ?_)
          obtain ⟨g244, hg245, Kk242, Hx241, Hz243, KV246, HN247⟩ := alloc1v (kept_trans Kk15.out (kept_trans Kk23.out (kept_trans Kk30.out Kk36.out))) hW240
          rw [hg245]
          clear hW240
          have HG248 : Hid (V0.heap.size ≤ g244) := (by show _ ≤ _; rw [← hg245]; exact (Below.size (kept_trans Kk15.out (kept_trans Kk23.out (kept_trans Kk30.out Kk36.out)))))
          have XL249 : Hid (XLt (g244 :: []) W240) := (by show XLt _ _; rw [← hg245]; exact xlt_more (xlt_nil _) Kk242.out (by have := Hz243.out; omega))
          have HP250 : Hid (W33.heap.size ≤ g244) := (by show _ ≤ _; rw [← hg245]; exact Nat.le_refl _)
          have HD251 : Hid (W33.heap.size ≤ g244) := (by show _ ≤ _; rw [← hg245]; exact Below.size (kept_refl _))
          clear hg245
          (try clear hHeld)
          refine hK.out _ _ (sees_kept _ Kk242.out) (fun hHeld => ?_)
          clear hK K
          (try simp only [Act.put, List.setIfInBounds_toArray, List.set_cons_zero, List.set_cons_succ])
          refine wpAnyH_ready (rs := [3, 8, 10]) (by kernel_rfl) (by simp) ?_
          refine AllReadyH.cons (o := rcLamr3_3) rfl (fun K hK => ?_) ?_
          · unfold rcLamr3_3
            go_simp
            refine at_K (fun W253 hW253 => ?_)
            obtain ⟨g257, hg258, Kk255, Hx254, Hz256, KV259, HN260⟩ := alloc1v KV246.out hW253
            rw [hg258]
            clear hW253
            have HR261 := Lib.hid (q_row2 (Q := (Par w V0.heap.size (g244 :: []) P)) Hx254.out Gg.out.2.2.1 (par_grow HLga.out KV259.out (List.forall_mem_cons.2 ⟨(Or.inr (Nat.le_trans (Below.size (kept_trans Kk15.out (kept_trans Kk23.out (kept_trans Kk30.out Kk36.out)))) HP250.out)), (fun _ h => nomatch h)⟩)) Gx.out (par_grow HLx.out KV259.out (List.forall_mem_cons.2 ⟨(Or.inr (Nat.le_trans (Below.size (kept_trans Kk15.out (kept_trans Kk23.out (kept_trans Kk30.out Kk36.out)))) HP250.out)), (fun _ h => nomatch h)⟩)) (par_newg HN260.out (fun h => Nat.lt_irrefl _ (Nat.lt_of_lt_of_le (XL249.out _ h) (Nat.le_of_eq hg258)))))
            clear hg258
            (try clear hHeld)
            refine hK.out _ _ (sees_kept _ (kept_trans Kk242.out Kk255.out)) (fun hHeld => ?_)
            clear hK K
            (try simp only [Act.put, List.setIfInBounds_toArray, List.set_cons_zero, List.set_cons_succ])
            exact HJj37 W253 g257 g244 ⟨(kept_trans Kk242.out Kk255.out), HR261.out, (blk_at Hx241.out Kk255.out), HG248.out, (Nat.le_trans (Below.size (kept_refl _)) HP250.out), HD251.out, (xlt_later XL249.out Kk255.out)⟩
          refine AllReadyH.cons (o := rcLamr3_8) rfl (fun K hK => ?_) ?_
          · unfold rcLamr3_8
            go_simp
            refine at_K (fun W263 hW263 => ?_)
            obtain ⟨g267, hg268, Kk265, Hx264, Hz266, KV269, HN270⟩ := alloc1v KV246.out hW263
            rw [hg268]
            clear hW263
            have HR271 := Lib.hid (q_row2 (Q := (Par w V0.heap.size (g244 :: []) P)) Hx264.out Gg.out.2.2.2.1 (par_grow HLgc.out KV269.out (List.forall_mem_cons.2 ⟨(Or.inr (Nat.le_trans (Below.size (kept_trans Kk15.out (kept_trans Kk23.out (kept_trans Kk30.out Kk36.out)))) HP250.out)), (fun _ h => nomatch h)⟩)) Gy.out (par_grow HLy.out KV269.out (List.forall_mem_cons.2 ⟨(Or.inr (Nat.le_trans (Below.size (kept_trans Kk15.out (kept_trans Kk23.out (kept_trans Kk30.out Kk36.out)))) HP250.out)), (fun _ h => nomatch h)⟩)) (par_newg HN270.out (fun h => Nat.lt_irrefl _ (Nat.lt_of_lt_of_le (XL249.out _ h) (Nat.le_of_eq hg268)))))
            clear hg268
            (try clear hHeld)
            refine hK.out _ _ (sees_kept _ (kept_trans Kk242.out Kk265.out)) (fun hHeld => ?_)
            clear hK K
            (try simp only [Act.put, List.setIfInBounds_toArray, List.set_cons_zero, List.set_cons_succ])
            exact HJj38 W263 g267 g244 ⟨(kept_trans Kk242.out Kk265.out), HR271.out, (blk_at Hx241.out Kk265.out), HG248.out, (Nat.le_trans (Below.size (kept_refl _)) HP250.out), HD251.out, (xlt_later XL249.out Kk265.out)⟩
          refine AllReadyH.cons (o := rcLamr3_10) rfl (fun K hK => ?_) ?_
          · unfold rcLamr3_10
            go_simp
            refine at_K (fun W272 hW272 => ?_)
            obtain ⟨g276, hg277, Kk274, Hx273, Hz275, KV278, HN279⟩ := alloc1v KV246.out hW272
            rw [hg277]
            clear hW272
            have HG280 : Hid (V0.heap.size ≤ g276) := (by show _ ≤ _; rw [← hg277]; exact (Below.size KV246.out))
            have AP281 : Hid (g244 < g276) := (by show _ < _; rw [← hg277]; exact block_lt Hx241.out)
            have XL282 : Hid (XLt (g276 :: (g244 :: [])) W272) := (by show XLt _ _; rw [← hg277]; exact xlt_more XL249.out Kk274.out (by have := Hz275.out; omega))
            have HP283 : Hid (W240.heap.size ≤ g276) := (by show _ ≤ _; rw [← hg277]; exact Nat.le_refl _)
            have HD284 : Hid (W33.heap.size ≤ g276) := (by show _ ≤ _; rw [← hg277]; exact Below.size Kk242.out)
            clear hg277
            (try clear hHeld)
            refine hK.out _ _ (sees_kept _ (kept_trans Kk242.out Kk274.out)) (fun hHeld => ?_)
            clear hK K
            (try simp only [Act.put, List.setIfInBounds_toArray, List.set_cons_zero, List.set_cons_succ])
            exact HJj39 W272 g276 g244 ⟨(kept_trans Kk242.out Kk274.out), Hx273.out, (blk_at Hx241.out Kk274.out), HG280.out, (Nat.le_trans (Below.size Kk242.out) HP283.out), HD284.out, HG248.out, (Nat.le_trans (Below.size (kept_refl _)) HP250.out), HD251.out, (by have := AP281.out; omega), (xlt_x XL282.out (List.forall_mem_cons.2 ⟨(List.mem_cons_of_mem _ (List.mem_cons_self ..)), (List.forall_mem_cons.2 ⟨(List.mem_cons_self ..), (fun _ h => nomatch h)⟩)⟩))⟩
          exact AllReadyH.nil
        exact AllReadyH.nil
      · intro W136 g63 g140 k285
        obtain ⟨q286, q287, q288, q289, q290, q291, q292⟩ := k285
        have Kk293 := Lib.hid q286
        have KV294 := Lib.hid (kept_trans (kept_trans Kk15.out (kept_trans Kk23.out (kept_trans Kk30.out Kk36.out))) Kk293.out)
        have HL295 := Lib.hid q287
        have HX296 := Lib.hid q288
        have HG297 := Lib.hid q289
        have HP298 := Lib.hid q290
        have HD299 := Lib.hid q291
        have XL300 := Lib.hid q292
        clear q286 q287 q288 q289 q290 q291 q292
        have hHeld : Sees W33 (w.heap.size + 4) W136 := sees_kept _ Kk293.out
        refine wpAnyH_ready (rs := [4, 8, 10]) (by kernel_rfl) (by simp) ?_
        refine AllReadyH.cons (o := rcLamr3_4) rfl (fun K hK => ?_) ?_
        · unfold rcLamr3_4
          go_simp
          refine (rnode_any 14 [g.a, x] (Par w V0.heap.size (g140 :: []) P) _ _ (show I64 14 from by unfold I64; decide) HL295.out (Nat.le_of_ble_eq_true rfl)).mono ?_
          obtain ⟨U308, hU308⟩ : ∃ qu, nodeT 14 [g.a, x] = qu := ⟨_, rfl⟩
          rw [hU308]
          have HU308 := Lib.hid hU308
          clear hU308
          rintro e w301 ⟨s303, rfl, hl304, k302⟩
          obtain ⟨a305, c306, S307, rfl, -⟩ := hl304.out
          have Kk309 := Lib.hid k302
          clear k302
          have Hhl304 : Hid (LiesQ w301 (Par w V0.heap.size (g140 :: []) P) U308.kids _) := par_give hl304 (Below.size KV294.out) XL300.out
          clear hl304
          (try clear hHeld)
          refine hK.out _ _ (sees_kept _ (kept_trans Kk293.out Kk309.out)) (fun hHeld => ?_)
          clear hK K
          (try simp only [Act.put, List.setIfInBounds_toArray, List.set_cons_zero, List.set_cons_succ])
          exact HJj46 w301 g63 U308 a305 c306 g140 ⟨(kept_trans Kk293.out Kk309.out), HU308.out, Hhl304.out, (blk_at HX296.out Kk309.out), HG297.out, (Nat.le_trans (Below.size (kept_refl _)) HP298.out), HD299.out, (xlt_later XL300.out Kk309.out)⟩
        refine AllReadyH.cons (o := rcLamr3_8) rfl (fun K hK => ?_) ?_
        · unfold rcLamr3_8
          go_simp
          refine at_K (fun W311 hW311 => ?_)
          obtain ⟨g315, hg316, Kk313, Hx312, Hz314, KV317, HN318⟩ := alloc1v KV294.out hW311
          rw [hg316]
          clear hW311
          have HR319 := Lib.hid (q_row2 (Q := (Par w V0.heap.size (g140 :: []) P)) Hx312.out Gg.out.2.2.2.1 (par_grow HLgc.out KV317.out (List.forall_mem_cons.2 ⟨(Or.inr (Nat.le_trans (Below.size (kept_trans Kk15.out (kept_trans Kk23.out (kept_trans Kk30.out Kk36.out)))) HP298.out)), (fun _ h => nomatch h)⟩)) Gy.out (par_grow HLy.out KV317.out (List.forall_mem_cons.2 ⟨(Or.inr (Nat.le_trans (Below.size (kept_trans Kk15.out (kept_trans Kk23.out (kept_trans Kk30.out Kk36.out)))) HP298.out)), (fun _ h => nomatch h)⟩)) (par_newg HN318.out (fun h => Nat.lt_irrefl _ (Nat.lt_of_lt_of_le (XL300.out _ h) (Nat.le_of_eq hg316)))))
          clear hg316
          (try clear hHeld)
          refine hK.out _ _ (sees_kept _ (kept_trans Kk293.out Kk313.out)) (fun hHeld => ?_)
          clear hK K
          (try simp only [Act.put, List.setIfInBounds_toArray, List.set_cons_zero, List.set_cons_succ])
          exact HJj45 W311 g63 g315 g140 ⟨(kept_trans Kk293.out Kk313.out), (HL295.out.later Kk313.out), HR319.out, (blk_at HX296.out Kk313.out), HG297.out, (Nat.le_trans (Below.size (kept_refl _)) HP298.out), HD299.out, (xlt_later XL300.out Kk313.out)⟩
        refine AllReadyH.cons (o := rcLamr3_10) rfl (fun K hK => ?_) ?_
        · unfold rcLamr3_10
          go_simp
          refine at_K (fun W320 hW320 => ?_)
          obtain ⟨g324, hg325, Kk322, Hx321, Hz323, KV326, HN327⟩ := alloc1v KV294.out hW320
          rw [hg325]
          clear hW320
          have HG328 : Hid (V0.heap.size ≤ g324) := (by show _ ≤ _; rw [← hg325]; exact (Below.size KV294.out))
          have AP329 : Hid (g140 < g324) := (by show _ < _; rw [← hg325]; exact block_lt HX296.out)
          have XL330 : Hid (XLt (g324 :: (g140 :: [])) W320) := (by show XLt _ _; rw [← hg325]; exact xlt_more XL300.out Kk322.out (by have := Hz323.out; omega))
          have HP331 : Hid (W136.heap.size ≤ g324) := (by show _ ≤ _; rw [← hg325]; exact Nat.le_refl _)
          have HD332 : Hid (W33.heap.size ≤ g324) := (by show _ ≤ _; rw [← hg325]; exact Below.size Kk293.out)
          clear hg325
          (try clear hHeld)
          refine hK.out _ _ (sees_kept _ (kept_trans Kk293.out Kk322.out)) (fun hHeld => ?_)
          clear hK K
          (try simp only [Act.put, List.setIfInBounds_toArray, List.set_cons_zero, List.set_cons_succ])
          have pg333 : ∀ (l : List Tm) (s : Value), LiesQ W136 (Par w V0.heap.size (g140 :: []) P) l s → LiesQ W320 (Par w V0.heap.size (g140 :: (g324 :: [])) P) l s := fun _ _ h => par_grow h Kk322.out (List.forall_mem_cons.2 ⟨(Or.inl (List.mem_cons_self ..)), (List.forall_mem_cons.2 ⟨(Or.inr HP331.out), (fun _ h => nomatch h)⟩)⟩)
          exact HJj43 W320 g63 g324 g140 ⟨(kept_trans Kk293.out Kk322.out), (pg333 _ _ HL295.out), Hx321.out, (blk_at HX296.out Kk322.out), HG328.out, (Nat.le_trans (Below.size Kk293.out) HP331.out), HD332.out, HG297.out, (Nat.le_trans (Below.size (kept_refl _)) HP298.out), HD299.out, (by have := AP329.out; omega), (xlt_x XL330.out (List.forall_mem_cons.2 ⟨(List.mem_cons_of_mem _ (List.mem_cons_self ..)), (List.forall_mem_cons.2 ⟨(List.mem_cons_self ..), (fun _ h => nomatch h)⟩)⟩))⟩
        exact AllReadyH.nil
      · intro W182 g154 g186 k334
        obtain ⟨q335, q336, q337, q338, q339, q340, q341⟩ := k334
        have Kk342 := Lib.hid q335
        have KV343 := Lib.hid (kept_trans (kept_trans Kk15.out (kept_trans Kk23.out (kept_trans Kk30.out Kk36.out))) Kk342.out)
        have HL344 := Lib.hid q336
        have HX345 := Lib.hid q337
        have HG346 := Lib.hid q338
        have HP347 := Lib.hid q339
        have HD348 := Lib.hid q340
        have XL349 := Lib.hid q341
        clear q335 q336 q337 q338 q339 q340 q341
        have hHeld : Sees W33 (w.heap.size + 4) W182 := sees_kept _ Kk342.out
        refine wpAnyH_ready (rs := [3, 10]) (by kernel_rfl) (by simp) ?_
        refine AllReadyH.cons (o := rcLamr3_3) rfl (fun K hK => ?_) ?_
        · unfold rcLamr3_3
          go_simp
          refine at_K (fun W351 hW351 => ?_)
          obtain ⟨g355, hg356, Kk353, Hx352, Hz354, KV357, HN358⟩ := alloc1v KV343.out hW351
          rw [hg356]
          clear hW351
          have HR359 := Lib.hid (q_row2 (Q := (Par w V0.heap.size (g186 :: []) P)) Hx352.out Gg.out.2.2.1 (par_grow HLga.out KV357.out (List.forall_mem_cons.2 ⟨(Or.inr (Nat.le_trans (Below.size (kept_trans Kk15.out (kept_trans Kk23.out (kept_trans Kk30.out Kk36.out)))) HP347.out)), (fun _ h => nomatch h)⟩)) Gx.out (par_grow HLx.out KV357.out (List.forall_mem_cons.2 ⟨(Or.inr (Nat.le_trans (Below.size (kept_trans Kk15.out (kept_trans Kk23.out (kept_trans Kk30.out Kk36.out)))) HP347.out)), (fun _ h => nomatch h)⟩)) (par_newg HN358.out (fun h => Nat.lt_irrefl _ (Nat.lt_of_lt_of_le (XL349.out _ h) (Nat.le_of_eq hg356)))))
          clear hg356
          (try clear hHeld)
          refine hK.out _ _ (sees_kept _ (kept_trans Kk342.out Kk353.out)) (fun hHeld => ?_)
          clear hK K
          (try simp only [Act.put, List.setIfInBounds_toArray, List.set_cons_zero, List.set_cons_succ])
          exact HJj45 W351 g355 g154 g186 ⟨(kept_trans Kk342.out Kk353.out), HR359.out, (HL344.out.later Kk353.out), (blk_at HX345.out Kk353.out), HG346.out, (Nat.le_trans (Below.size (kept_refl _)) HP347.out), HD348.out, (xlt_later XL349.out Kk353.out)⟩
        refine AllReadyH.cons (o := rcLamr3_10) rfl (fun K hK => ?_) ?_
        · unfold rcLamr3_10
          go_simp
          refine at_K (fun W360 hW360 => ?_)
          obtain ⟨g364, hg365, Kk362, Hx361, Hz363, KV366, HN367⟩ := alloc1v KV343.out hW360
          rw [hg365]
          clear hW360
          have HG368 : Hid (V0.heap.size ≤ g364) := (by show _ ≤ _; rw [← hg365]; exact (Below.size KV343.out))
          have AP369 : Hid (g186 < g364) := (by show _ < _; rw [← hg365]; exact block_lt HX345.out)
          have XL370 : Hid (XLt (g364 :: (g186 :: [])) W360) := (by show XLt _ _; rw [← hg365]; exact xlt_more XL349.out Kk362.out (by have := Hz363.out; omega))
          have HP371 : Hid (W182.heap.size ≤ g364) := (by show _ ≤ _; rw [← hg365]; exact Nat.le_refl _)
          have HD372 : Hid (W33.heap.size ≤ g364) := (by show _ ≤ _; rw [← hg365]; exact Below.size Kk342.out)
          clear hg365
          (try clear hHeld)
          refine hK.out _ _ (sees_kept _ (kept_trans Kk342.out Kk362.out)) (fun hHeld => ?_)
          clear hK K
          (try simp only [Act.put, List.setIfInBounds_toArray, List.set_cons_zero, List.set_cons_succ])
          have pg373 : ∀ (l : List Tm) (s : Value), LiesQ W182 (Par w V0.heap.size (g186 :: []) P) l s → LiesQ W360 (Par w V0.heap.size (g186 :: (g364 :: [])) P) l s := fun _ _ h => par_grow h Kk362.out (List.forall_mem_cons.2 ⟨(Or.inl (List.mem_cons_self ..)), (List.forall_mem_cons.2 ⟨(Or.inr HP371.out), (fun _ h => nomatch h)⟩)⟩)
          exact HJj44 W360 g154 g364 g186 ⟨(kept_trans Kk342.out Kk362.out), (pg373 _ _ HL344.out), Hx361.out, (blk_at HX345.out Kk362.out), HG368.out, (Nat.le_trans (Below.size Kk342.out) HP371.out), HD372.out, HG346.out, (Nat.le_trans (Below.size (kept_refl _)) HP347.out), HD348.out, (by have := AP369.out; omega), (xlt_x XL370.out (List.forall_mem_cons.2 ⟨(List.mem_cons_of_mem _ (List.mem_cons_self ..)), (List.forall_mem_cons.2 ⟨(List.mem_cons_self ..), (fun _ h => nomatch h)⟩)⟩))⟩
        exact AllReadyH.nil
      · intro W227 g199 g231 k374
        obtain ⟨q375, q376, q377, q378, q379, q380, q381, q382, q383, q384, q385⟩ := k374
        have Kk386 := Lib.hid q375
        have KV387 := Lib.hid (kept_trans (kept_trans Kk15.out (kept_trans Kk23.out (kept_trans Kk30.out Kk36.out))) Kk386.out)
        have HX388 := Lib.hid q376
        have HX389 := Lib.hid q377
        have HG390 := Lib.hid q378
        have HP391 := Lib.hid q379
        have HD392 := Lib.hid q380
        have HG393 := Lib.hid q381
        have HP394 := Lib.hid q382
        have HD395 := Lib.hid q383
        have AP396 := Lib.hid q384
        have XL397 := Lib.hid q385
        clear q375 q376 q377 q378 q379 q380 q381 q382 q383 q384 q385
        have hHeld : Sees W33 (w.heap.size + 4) W227 := sees_kept _ Kk386.out
        refine wpAnyH_ready (rs := [3, 8]) (by kernel_rfl) (by simp) ?_
        refine AllReadyH.cons (o := rcLamr3_3) rfl (fun K hK => ?_) ?_
        · unfold rcLamr3_3
          go_simp
          refine at_K (fun W399 hW399 => ?_)
          obtain ⟨g403, hg404, Kk401, Hx400, Hz402, KV405, HN406⟩ := alloc1v KV387.out hW399
          rw [hg404]
          clear hW399
          have HR407 := Lib.hid (q_row2 (Q := (Par w V0.heap.size (g231 :: (g199 :: [])) P)) Hx400.out Gg.out.2.2.1 (par_grow HLga.out KV405.out (List.forall_mem_cons.2 ⟨(Or.inr (Nat.le_trans (Below.size (kept_trans Kk15.out (kept_trans Kk23.out (kept_trans Kk30.out Kk36.out)))) HP394.out)), (List.forall_mem_cons.2 ⟨(Or.inr (Nat.le_trans (Below.size (kept_trans Kk15.out (kept_trans Kk23.out (kept_trans Kk30.out Kk36.out)))) HP391.out)), (fun _ h => nomatch h)⟩)⟩)) Gx.out (par_grow HLx.out KV405.out (List.forall_mem_cons.2 ⟨(Or.inr (Nat.le_trans (Below.size (kept_trans Kk15.out (kept_trans Kk23.out (kept_trans Kk30.out Kk36.out)))) HP394.out)), (List.forall_mem_cons.2 ⟨(Or.inr (Nat.le_trans (Below.size (kept_trans Kk15.out (kept_trans Kk23.out (kept_trans Kk30.out Kk36.out)))) HP391.out)), (fun _ h => nomatch h)⟩)⟩)) (par_newg HN406.out (fun h => Nat.lt_irrefl _ (Nat.lt_of_lt_of_le (XL397.out _ h) (Nat.le_of_eq hg404)))))
          clear hg404
          (try clear hHeld)
          refine hK.out _ _ (sees_kept _ (kept_trans Kk386.out Kk401.out)) (fun hHeld => ?_)
          clear hK K
          (try simp only [Act.put, List.setIfInBounds_toArray, List.set_cons_zero, List.set_cons_succ])
          exact HJj43 W399 g403 g199 g231 ⟨(kept_trans Kk386.out Kk401.out), HR407.out, (blk_at HX388.out Kk401.out), (blk_at HX389.out Kk401.out), HG390.out, (Nat.le_trans (Below.size (kept_refl _)) HP391.out), HD392.out, HG393.out, (Nat.le_trans (Below.size (kept_refl _)) HP394.out), HD395.out, (by have := AP396.out; omega), (xlt_later XL397.out Kk401.out)⟩
        refine AllReadyH.cons (o := rcLamr3_8) rfl (fun K hK => ?_) ?_
        · unfold rcLamr3_8
          go_simp
          refine at_K (fun W409 hW409 => ?_)
          obtain ⟨g413, hg414, Kk411, Hx410, Hz412, KV415, HN416⟩ := alloc1v KV387.out hW409
          rw [hg414]
          clear hW409
          have HR417 := Lib.hid (q_row2 (Q := (Par w V0.heap.size (g231 :: (g199 :: [])) P)) Hx410.out Gg.out.2.2.2.1 (par_grow HLgc.out KV415.out (List.forall_mem_cons.2 ⟨(Or.inr (Nat.le_trans (Below.size (kept_trans Kk15.out (kept_trans Kk23.out (kept_trans Kk30.out Kk36.out)))) HP394.out)), (List.forall_mem_cons.2 ⟨(Or.inr (Nat.le_trans (Below.size (kept_trans Kk15.out (kept_trans Kk23.out (kept_trans Kk30.out Kk36.out)))) HP391.out)), (fun _ h => nomatch h)⟩)⟩)) Gy.out (par_grow HLy.out KV415.out (List.forall_mem_cons.2 ⟨(Or.inr (Nat.le_trans (Below.size (kept_trans Kk15.out (kept_trans Kk23.out (kept_trans Kk30.out Kk36.out)))) HP394.out)), (List.forall_mem_cons.2 ⟨(Or.inr (Nat.le_trans (Below.size (kept_trans Kk15.out (kept_trans Kk23.out (kept_trans Kk30.out Kk36.out)))) HP391.out)), (fun _ h => nomatch h)⟩)⟩)) (par_newg HN416.out (fun h => Nat.lt_irrefl _ (Nat.lt_of_lt_of_le (XL397.out _ h) (Nat.le_of_eq hg414)))))
          clear hg414
          (try clear hHeld)
          refine hK.out _ _ (sees_kept _ (kept_trans Kk386.out Kk411.out)) (fun hHeld => ?_)
          clear hK K
          (try simp only [Act.put, List.setIfInBounds_toArray, List.set_cons_zero, List.set_cons_succ])
          exact HJj44 W409 g413 g199 g231 ⟨(kept_trans Kk386.out Kk411.out), HR417.out, (blk_at HX388.out Kk411.out), (blk_at HX389.out Kk411.out), HG390.out, (Nat.le_trans (Below.size (kept_refl _)) HP391.out), HD392.out, HG393.out, (Nat.le_trans (Below.size (kept_refl _)) HP394.out), HD395.out, (by have := AP396.out; omega), (xlt_later XL397.out Kk411.out)⟩
        exact AllReadyH.nil
      · intro W123 g63 g127 k418
        obtain ⟨q419, q420, q421, q422, q423, q424, q425⟩ := k418
        have Kk426 := Lib.hid q419
        have KV427 := Lib.hid (kept_trans (kept_trans Kk15.out (kept_trans Kk23.out (kept_trans Kk30.out Kk36.out))) Kk426.out)
        have HL428 := Lib.hid q420
        have HX429 := Lib.hid q421
        have HG430 := Lib.hid q422
        have HP431 := Lib.hid q423
        have HD432 := Lib.hid q424
        have XL433 := Lib.hid q425
        clear q419 q420 q421 q422 q423 q424 q425
        have hHeld : Sees W33 (w.heap.size + 4) W123 := sees_kept _ Kk426.out
        refine wpAnyH_ready (rs := [4, 8, 11]) (by kernel_rfl) (by simp) ?_
        refine AllReadyH.cons (o := rcLamr3_4) rfl (fun K hK => ?_) ?_
        · unfold rcLamr3_4
          go_simp
          refine (rnode_any 14 [g.a, x] (Par w V0.heap.size (g127 :: []) P) _ _ (show I64 14 from by unfold I64; decide) HL428.out (Nat.le_of_ble_eq_true rfl)).mono ?_
          obtain ⟨U441, hU441⟩ : ∃ qu, nodeT 14 [g.a, x] = qu := ⟨_, rfl⟩
          rw [hU441]
          have HU441 := Lib.hid hU441
          clear hU441
          rintro e w434 ⟨s436, rfl, hl437, k435⟩
          obtain ⟨a438, c439, S440, rfl, -⟩ := hl437.out
          have Kk442 := Lib.hid k435
          clear k435
          have Hhl437 : Hid (LiesQ w434 (Par w V0.heap.size (g127 :: []) P) U441.kids _) := par_give hl437 (Below.size KV427.out) XL433.out
          clear hl437
          (try clear hHeld)
          refine hK.out _ _ (sees_kept _ (kept_trans Kk426.out Kk442.out)) (fun hHeld => ?_)
          clear hK K
          (try simp only [Act.put, List.setIfInBounds_toArray, List.set_cons_zero, List.set_cons_succ])
          exact HJj48 w434 g63 U441 a438 c439 g127 ⟨(kept_trans Kk426.out Kk442.out), HU441.out, Hhl437.out, (blk_at HX429.out Kk442.out), HG430.out, (Nat.le_trans (Below.size (kept_refl _)) HP431.out), HD432.out, (xlt_later XL433.out Kk442.out)⟩
        refine AllReadyH.cons (o := rcLamr3_8) rfl (fun K hK => ?_) ?_
        · unfold rcLamr3_8
          go_simp
          refine at_K (fun W444 hW444 => ?_)
          obtain ⟨g448, hg449, Kk446, Hx445, Hz447, KV450, HN451⟩ := alloc1v KV427.out hW444
          rw [hg449]
          clear hW444
          have HR452 := Lib.hid (q_row2 (Q := (Par w V0.heap.size (g127 :: []) P)) Hx445.out Gg.out.2.2.2.1 (par_grow HLgc.out KV450.out (List.forall_mem_cons.2 ⟨(Or.inr (Nat.le_trans (Below.size (kept_trans Kk15.out (kept_trans Kk23.out (kept_trans Kk30.out Kk36.out)))) HP431.out)), (fun _ h => nomatch h)⟩)) Gy.out (par_grow HLy.out KV450.out (List.forall_mem_cons.2 ⟨(Or.inr (Nat.le_trans (Below.size (kept_trans Kk15.out (kept_trans Kk23.out (kept_trans Kk30.out Kk36.out)))) HP431.out)), (fun _ h => nomatch h)⟩)) (par_newg HN451.out (fun h => Nat.lt_irrefl _ (Nat.lt_of_lt_of_le (XL433.out _ h) (Nat.le_of_eq hg449)))))
          clear hg449
          (try clear hHeld)
          refine hK.out _ _ (sees_kept _ (kept_trans Kk426.out Kk446.out)) (fun hHeld => ?_)
          clear hK K
          (try simp only [Act.put, List.setIfInBounds_toArray, List.set_cons_zero, List.set_cons_succ])
          exact HJj47 W444 g63 g448 g127 ⟨(kept_trans Kk426.out Kk446.out), (HL428.out.later Kk446.out), HR452.out, (blk_at HX429.out Kk446.out), HG430.out, (Nat.le_trans (Below.size (kept_refl _)) HP431.out), HD432.out, (xlt_later XL433.out Kk446.out)⟩
        refine AllReadyH.cons (o := rcLamr3_11) rfl (fun K hK => ?_) ?_
        · unfold rcLamr3_11
          go_simp
          refine at_K (fun W453 hW453 => ?_)
          obtain ⟨g457, hg458, Kk455, Hx454, Hz456, KV459, HN460⟩ := alloc1v KV427.out hW453
          rw [hg458]
          clear hW453
          have HG461 : Hid (V0.heap.size ≤ g457) := (by show _ ≤ _; rw [← hg458]; exact (Below.size KV427.out))
          have AP462 : Hid (g127 < g457) := (by show _ < _; rw [← hg458]; exact block_lt HX429.out)
          have XL463 : Hid (XLt (g457 :: (g127 :: [])) W453) := (by show XLt _ _; rw [← hg458]; exact xlt_more XL433.out Kk455.out (by have := Hz456.out; omega))
          have HP464 : Hid (W123.heap.size ≤ g457) := (by show _ ≤ _; rw [← hg458]; exact Nat.le_refl _)
          have HD465 : Hid (W33.heap.size ≤ g457) := (by show _ ≤ _; rw [← hg458]; exact Below.size Kk426.out)
          clear hg458
          (try clear hHeld)
          refine hK.out _ _ (sees_kept _ (kept_trans Kk426.out Kk455.out)) (fun hHeld => ?_)
          clear hK K
          (try simp only [Act.put, List.setIfInBounds_toArray, List.set_cons_zero, List.set_cons_succ])
          have pg466 : ∀ (l : List Tm) (s : Value), LiesQ W123 (Par w V0.heap.size (g127 :: []) P) l s → LiesQ W453 (Par w V0.heap.size (g457 :: (g127 :: [])) P) l s := fun _ _ h => par_grow h Kk455.out (List.forall_mem_cons.2 ⟨(Or.inr HP464.out), (List.forall_mem_cons.2 ⟨(Or.inl (List.mem_cons_self ..)), (fun _ h => nomatch h)⟩)⟩)
          exact HJj43 W453 g63 g127 g457 ⟨(kept_trans Kk426.out Kk455.out), (pg466 _ _ HL428.out), (blk_at HX429.out Kk455.out), Hx454.out, HG430.out, (Nat.le_trans (Below.size (kept_refl _)) HP431.out), HD432.out, HG461.out, (Nat.le_trans (Below.size Kk426.out) HP464.out), HD465.out, (by have := AP462.out; omega), XL463.out⟩
        exact AllReadyH.nil
      · intro W169 g154 g173 k467
        obtain ⟨q468, q469, q470, q471, q472, q473, q474⟩ := k467
        have Kk475 := Lib.hid q468
        have KV476 := Lib.hid (kept_trans (kept_trans Kk15.out (kept_trans Kk23.out (kept_trans Kk30.out Kk36.out))) Kk475.out)
        have HL477 := Lib.hid q469
        have HX478 := Lib.hid q470
        have HG479 := Lib.hid q471
        have HP480 := Lib.hid q472
        have HD481 := Lib.hid q473
        have XL482 := Lib.hid q474
        clear q468 q469 q470 q471 q472 q473 q474
        have hHeld : Sees W33 (w.heap.size + 4) W169 := sees_kept _ Kk475.out
        refine wpAnyH_ready (rs := [3, 11]) (by kernel_rfl) (by simp) ?_
        refine AllReadyH.cons (o := rcLamr3_3) rfl (fun K hK => ?_) ?_
        · unfold rcLamr3_3
          go_simp
          refine at_K (fun W484 hW484 => ?_)
          obtain ⟨g488, hg489, Kk486, Hx485, Hz487, KV490, HN491⟩ := alloc1v KV476.out hW484
          rw [hg489]
          clear hW484
          have HR492 := Lib.hid (q_row2 (Q := (Par w V0.heap.size (g173 :: []) P)) Hx485.out Gg.out.2.2.1 (par_grow HLga.out KV490.out (List.forall_mem_cons.2 ⟨(Or.inr (Nat.le_trans (Below.size (kept_trans Kk15.out (kept_trans Kk23.out (kept_trans Kk30.out Kk36.out)))) HP480.out)), (fun _ h => nomatch h)⟩)) Gx.out (par_grow HLx.out KV490.out (List.forall_mem_cons.2 ⟨(Or.inr (Nat.le_trans (Below.size (kept_trans Kk15.out (kept_trans Kk23.out (kept_trans Kk30.out Kk36.out)))) HP480.out)), (fun _ h => nomatch h)⟩)) (par_newg HN491.out (fun h => Nat.lt_irrefl _ (Nat.lt_of_lt_of_le (XL482.out _ h) (Nat.le_of_eq hg489)))))
          clear hg489
          (try clear hHeld)
          refine hK.out _ _ (sees_kept _ (kept_trans Kk475.out Kk486.out)) (fun hHeld => ?_)
          clear hK K
          (try simp only [Act.put, List.setIfInBounds_toArray, List.set_cons_zero, List.set_cons_succ])
          exact HJj47 W484 g488 g154 g173 ⟨(kept_trans Kk475.out Kk486.out), HR492.out, (HL477.out.later Kk486.out), (blk_at HX478.out Kk486.out), HG479.out, (Nat.le_trans (Below.size (kept_refl _)) HP480.out), HD481.out, (xlt_later XL482.out Kk486.out)⟩
        refine AllReadyH.cons (o := rcLamr3_11) rfl (fun K hK => ?_) ?_
        · unfold rcLamr3_11
          go_simp
          refine at_K (fun W493 hW493 => ?_)
          obtain ⟨g497, hg498, Kk495, Hx494, Hz496, KV499, HN500⟩ := alloc1v KV476.out hW493
          rw [hg498]
          clear hW493
          have HG501 : Hid (V0.heap.size ≤ g497) := (by show _ ≤ _; rw [← hg498]; exact (Below.size KV476.out))
          have AP502 : Hid (g173 < g497) := (by show _ < _; rw [← hg498]; exact block_lt HX478.out)
          have XL503 : Hid (XLt (g497 :: (g173 :: [])) W493) := (by show XLt _ _; rw [← hg498]; exact xlt_more XL482.out Kk495.out (by have := Hz496.out; omega))
          have HP504 : Hid (W169.heap.size ≤ g497) := (by show _ ≤ _; rw [← hg498]; exact Nat.le_refl _)
          have HD505 : Hid (W33.heap.size ≤ g497) := (by show _ ≤ _; rw [← hg498]; exact Below.size Kk475.out)
          clear hg498
          (try clear hHeld)
          refine hK.out _ _ (sees_kept _ (kept_trans Kk475.out Kk495.out)) (fun hHeld => ?_)
          clear hK K
          (try simp only [Act.put, List.setIfInBounds_toArray, List.set_cons_zero, List.set_cons_succ])
          have pg506 : ∀ (l : List Tm) (s : Value), LiesQ W169 (Par w V0.heap.size (g173 :: []) P) l s → LiesQ W493 (Par w V0.heap.size (g497 :: (g173 :: [])) P) l s := fun _ _ h => par_grow h Kk495.out (List.forall_mem_cons.2 ⟨(Or.inr HP504.out), (List.forall_mem_cons.2 ⟨(Or.inl (List.mem_cons_self ..)), (fun _ h => nomatch h)⟩)⟩)
          exact HJj44 W493 g154 g173 g497 ⟨(kept_trans Kk475.out Kk495.out), (pg506 _ _ HL477.out), (blk_at HX478.out Kk495.out), Hx494.out, HG479.out, (Nat.le_trans (Below.size (kept_refl _)) HP480.out), HD481.out, HG501.out, (Nat.le_trans (Below.size Kk475.out) HP504.out), HD505.out, (by have := AP502.out; omega), XL503.out⟩
        exact AllReadyH.nil
      · intro W114 g63 g118 k507
        obtain ⟨q508, q509, q510⟩ := k507
        have Kk511 := Lib.hid q508
        have KV512 := Lib.hid (kept_trans (kept_trans Kk15.out (kept_trans Kk23.out (kept_trans Kk30.out Kk36.out))) Kk511.out)
        have HL513 := Lib.hid q509
        have HL514 := Lib.hid q510
        clear q508 q509 q510
        have hHeld : Sees W33 (w.heap.size + 4) W114 := sees_kept _ Kk511.out
        refine wpAnyH_ready (rs := [4, 10, 11]) (by kernel_rfl) (by simp) ?_
        refine AllReadyH.cons (o := rcLamr3_4) rfl (fun K hK => ?_) ?_
        · unfold rcLamr3_4
          go_simp
          refine (rnode_any 14 [g.a, x] (Par w V0.heap.size [] P) _ _ (show I64 14 from by unfold I64; decide) HL513.out (Nat.le_of_ble_eq_true rfl)).mono ?_
          obtain ⟨U522, hU522⟩ : ∃ qu, nodeT 14 [g.a, x] = qu := ⟨_, rfl⟩
          rw [hU522]
          have HU522 := Lib.hid hU522
          clear hU522
          rintro e w515 ⟨s517, rfl, hl518, k516⟩
          obtain ⟨a519, c520, S521, rfl, -⟩ := hl518.out
          have Kk523 := Lib.hid k516
          clear k516
          have Hhl518 : Hid (LiesQ w515 (Par w V0.heap.size [] P) U522.kids _) := par_give hl518 (Below.size KV512.out) (xlt_nil _)
          clear hl518
          (try clear hHeld)
          refine hK.out _ _ (sees_kept _ (kept_trans Kk511.out Kk523.out)) (fun hHeld => ?_)
          clear hK K
          (try simp only [Act.put, List.setIfInBounds_toArray, List.set_cons_zero, List.set_cons_succ])
          exact HJj49 w515 g63 U522 a519 c520 g118 ⟨(kept_trans Kk511.out Kk523.out), HU522.out, Hhl518.out, (HL514.out.later Kk523.out)⟩
        refine AllReadyH.cons (o := rcLamr3_10) rfl (fun K hK => ?_) ?_
        · unfold rcLamr3_10
          go_simp
          refine at_K (fun W524 hW524 => ?_)
          obtain ⟨g528, hg529, Kk526, Hx525, Hz527, KV530, HN531⟩ := alloc1v KV512.out hW524
          rw [hg529]
          clear hW524
          have HG532 : Hid (V0.heap.size ≤ g528) := (by show _ ≤ _; rw [← hg529]; exact (Below.size KV512.out))
          have XL533 : Hid (XLt (g528 :: []) W524) := (by show XLt _ _; rw [← hg529]; exact xlt_more (xlt_nil _) Kk526.out (by have := Hz527.out; omega))
          have HP534 : Hid (W114.heap.size ≤ g528) := (by show _ ≤ _; rw [← hg529]; exact Nat.le_refl _)
          have HD535 : Hid (W33.heap.size ≤ g528) := (by show _ ≤ _; rw [← hg529]; exact Below.size Kk511.out)
          clear hg529
          (try clear hHeld)
          refine hK.out _ _ (sees_kept _ (kept_trans Kk511.out Kk526.out)) (fun hHeld => ?_)
          clear hK K
          (try simp only [Act.put, List.setIfInBounds_toArray, List.set_cons_zero, List.set_cons_succ])
          have pg536 : ∀ (l : List Tm) (s : Value), LiesQ W114 (Par w V0.heap.size [] P) l s → LiesQ W524 (Par w V0.heap.size (g528 :: []) P) l s := fun _ _ h => par_grow h Kk526.out (List.forall_mem_cons.2 ⟨(Or.inr HP534.out), (fun _ h => nomatch h)⟩)
          exact HJj47 W524 g63 g118 g528 ⟨(kept_trans Kk511.out Kk526.out), (pg536 _ _ HL513.out), (pg536 _ _ HL514.out), Hx525.out, HG532.out, (Nat.le_trans (Below.size Kk511.out) HP534.out), HD535.out, XL533.out⟩
        refine AllReadyH.cons (o := rcLamr3_11) rfl (fun K hK => ?_) ?_
        · unfold rcLamr3_11
          go_simp
          refine at_K (fun W537 hW537 => ?_)
          obtain ⟨g541, hg542, Kk539, Hx538, Hz540, KV543, HN544⟩ := alloc1v KV512.out hW537
          rw [hg542]
          clear hW537
          have HG545 : Hid (V0.heap.size ≤ g541) := (by show _ ≤ _; rw [← hg542]; exact (Below.size KV512.out))
          have XL546 : Hid (XLt (g541 :: []) W537) := (by show XLt _ _; rw [← hg542]; exact xlt_more (xlt_nil _) Kk539.out (by have := Hz540.out; omega))
          have HP547 : Hid (W114.heap.size ≤ g541) := (by show _ ≤ _; rw [← hg542]; exact Nat.le_refl _)
          have HD548 : Hid (W33.heap.size ≤ g541) := (by show _ ≤ _; rw [← hg542]; exact Below.size Kk511.out)
          clear hg542
          (try clear hHeld)
          refine hK.out _ _ (sees_kept _ (kept_trans Kk511.out Kk539.out)) (fun hHeld => ?_)
          clear hK K
          (try simp only [Act.put, List.setIfInBounds_toArray, List.set_cons_zero, List.set_cons_succ])
          have pg549 : ∀ (l : List Tm) (s : Value), LiesQ W114 (Par w V0.heap.size [] P) l s → LiesQ W537 (Par w V0.heap.size (g541 :: []) P) l s := fun _ _ h => par_grow h Kk539.out (List.forall_mem_cons.2 ⟨(Or.inr HP547.out), (fun _ h => nomatch h)⟩)
          exact HJj45 W537 g63 g118 g541 ⟨(kept_trans Kk511.out Kk539.out), (pg549 _ _ HL513.out), (pg549 _ _ HL514.out), Hx538.out, HG545.out, (Nat.le_trans (Below.size Kk511.out) HP547.out), HD548.out, XL546.out⟩
        exact AllReadyH.nil
      · intro W320 g63 g324 g140 k550
        obtain ⟨q551, q552, q553, q554, q555, q556, q557, q558, q559, q560, q561, q562⟩ := k550
        have Kk563 := Lib.hid q551
        have KV564 := Lib.hid (kept_trans (kept_trans Kk15.out (kept_trans Kk23.out (kept_trans Kk30.out Kk36.out))) Kk563.out)
        have HL565 := Lib.hid q552
        have HX566 := Lib.hid q553
        have HX567 := Lib.hid q554
        have HG568 := Lib.hid q555
        have HP569 := Lib.hid q556
        have HD570 := Lib.hid q557
        have HG571 := Lib.hid q558
        have HP572 := Lib.hid q559
        have HD573 := Lib.hid q560
        have AP574 := Lib.hid q561
        have XL575 := Lib.hid q562
        clear q551 q552 q553 q554 q555 q556 q557 q558 q559 q560 q561 q562
        have hHeld : Sees W33 (w.heap.size + 4) W320 := sees_kept _ Kk563.out
        refine wpAnyH_ready (rs := [4, 8]) (by kernel_rfl) (by simp) ?_
        refine AllReadyH.cons (o := rcLamr3_4) rfl (fun K hK => ?_) ?_
        · unfold rcLamr3_4
          go_simp
          refine (rnode_any 14 [g.a, x] (Par w V0.heap.size (g140 :: (g324 :: [])) P) _ _ (show I64 14 from by unfold I64; decide) HL565.out (Nat.le_of_ble_eq_true rfl)).mono ?_
          obtain ⟨U583, hU583⟩ : ∃ qu, nodeT 14 [g.a, x] = qu := ⟨_, rfl⟩
          rw [hU583]
          have HU583 := Lib.hid hU583
          clear hU583
          rintro e w576 ⟨s578, rfl, hl579, k577⟩
          obtain ⟨a580, c581, S582, rfl, -⟩ := hl579.out
          have Kk584 := Lib.hid k577
          clear k577
          have Hhl579 : Hid (LiesQ w576 (Par w V0.heap.size (g140 :: (g324 :: [])) P) U583.kids _) := par_give hl579 (Below.size KV564.out) XL575.out
          clear hl579
          (try clear hHeld)
          refine hK.out _ _ (sees_kept _ (kept_trans Kk563.out Kk584.out)) (fun hHeld => ?_)
          clear hK K
          (try simp only [Act.put, List.setIfInBounds_toArray, List.set_cons_zero, List.set_cons_succ])
          exact HJj51 w576 g63 U583 a580 c581 g324 g140 ⟨(kept_trans Kk563.out Kk584.out), HU583.out, Hhl579.out, (blk_at HX566.out Kk584.out), (blk_at HX567.out Kk584.out), HG568.out, (Nat.le_trans (Below.size (kept_refl _)) HP569.out), HD570.out, HG571.out, (Nat.le_trans (Below.size (kept_refl _)) HP572.out), HD573.out, (by have := AP574.out; omega), (xlt_later XL575.out Kk584.out)⟩
        refine AllReadyH.cons (o := rcLamr3_8) rfl (fun K hK => ?_) ?_
        · unfold rcLamr3_8
          go_simp
          refine at_K (fun W586 hW586 => ?_)
          obtain ⟨g590, hg591, Kk588, Hx587, Hz589, KV592, HN593⟩ := alloc1v KV564.out hW586
          rw [hg591]
          clear hW586
          have HR594 := Lib.hid (q_row2 (Q := (Par w V0.heap.size (g140 :: (g324 :: [])) P)) Hx587.out Gg.out.2.2.2.1 (par_grow HLgc.out KV592.out (List.forall_mem_cons.2 ⟨(Or.inr (Nat.le_trans (Below.size (kept_trans Kk15.out (kept_trans Kk23.out (kept_trans Kk30.out Kk36.out)))) HP572.out)), (List.forall_mem_cons.2 ⟨(Or.inr (Nat.le_trans (Below.size (kept_trans Kk15.out (kept_trans Kk23.out (kept_trans Kk30.out Kk36.out)))) HP569.out)), (fun _ h => nomatch h)⟩)⟩)) Gy.out (par_grow HLy.out KV592.out (List.forall_mem_cons.2 ⟨(Or.inr (Nat.le_trans (Below.size (kept_trans Kk15.out (kept_trans Kk23.out (kept_trans Kk30.out Kk36.out)))) HP572.out)), (List.forall_mem_cons.2 ⟨(Or.inr (Nat.le_trans (Below.size (kept_trans Kk15.out (kept_trans Kk23.out (kept_trans Kk30.out Kk36.out)))) HP569.out)), (fun _ h => nomatch h)⟩)⟩)) (par_newg HN593.out (fun h => Nat.lt_irrefl _ (Nat.lt_of_lt_of_le (XL575.out _ h) (Nat.le_of_eq hg591)))))
          clear hg591
          (try clear hHeld)
          refine hK.out _ _ (sees_kept _ (kept_trans Kk563.out Kk588.out)) (fun hHeld => ?_)
          clear hK K
          (try simp only [Act.put, List.setIfInBounds_toArray, List.set_cons_zero, List.set_cons_succ])
          exact HJj50 W586 g63 g590 g324 g140 ⟨(kept_trans Kk563.out Kk588.out), (HL565.out.later Kk588.out), HR594.out, (blk_at HX566.out Kk588.out), (blk_at HX567.out Kk588.out), HG568.out, (Nat.le_trans (Below.size (kept_refl _)) HP569.out), HD570.out, HG571.out, (Nat.le_trans (Below.size (kept_refl _)) HP572.out), HD573.out, (by have := AP574.out; omega), (xlt_later XL575.out Kk588.out)⟩
        exact AllReadyH.nil
      · intro W360 g154 g364 g186 k595
        obtain ⟨q596, q597, q598, q599, q600, q601, q602, q603, q604, q605, q606, q607⟩ := k595
        have Kk608 := Lib.hid q596
        have KV609 := Lib.hid (kept_trans (kept_trans Kk15.out (kept_trans Kk23.out (kept_trans Kk30.out Kk36.out))) Kk608.out)
        have HL610 := Lib.hid q597
        have HX611 := Lib.hid q598
        have HX612 := Lib.hid q599
        have HG613 := Lib.hid q600
        have HP614 := Lib.hid q601
        have HD615 := Lib.hid q602
        have HG616 := Lib.hid q603
        have HP617 := Lib.hid q604
        have HD618 := Lib.hid q605
        have AP619 := Lib.hid q606
        have XL620 := Lib.hid q607
        clear q596 q597 q598 q599 q600 q601 q602 q603 q604 q605 q606 q607
        have hHeld : Sees W33 (w.heap.size + 4) W360 := sees_kept _ Kk608.out
        refine wpAnyH_ready (rs := [3]) (by kernel_rfl) (by simp) ?_
        refine AllReadyH.cons (o := rcLamr3_3) rfl (fun K hK => ?_) ?_
        · unfold rcLamr3_3
          go_simp
          refine at_K (fun W622 hW622 => ?_)
          obtain ⟨g626, hg627, Kk624, Hx623, Hz625, KV628, HN629⟩ := alloc1v KV609.out hW622
          rw [hg627]
          clear hW622
          have HR630 := Lib.hid (q_row2 (Q := (Par w V0.heap.size (g186 :: (g364 :: [])) P)) Hx623.out Gg.out.2.2.1 (par_grow HLga.out KV628.out (List.forall_mem_cons.2 ⟨(Or.inr (Nat.le_trans (Below.size (kept_trans Kk15.out (kept_trans Kk23.out (kept_trans Kk30.out Kk36.out)))) HP617.out)), (List.forall_mem_cons.2 ⟨(Or.inr (Nat.le_trans (Below.size (kept_trans Kk15.out (kept_trans Kk23.out (kept_trans Kk30.out Kk36.out)))) HP614.out)), (fun _ h => nomatch h)⟩)⟩)) Gx.out (par_grow HLx.out KV628.out (List.forall_mem_cons.2 ⟨(Or.inr (Nat.le_trans (Below.size (kept_trans Kk15.out (kept_trans Kk23.out (kept_trans Kk30.out Kk36.out)))) HP617.out)), (List.forall_mem_cons.2 ⟨(Or.inr (Nat.le_trans (Below.size (kept_trans Kk15.out (kept_trans Kk23.out (kept_trans Kk30.out Kk36.out)))) HP614.out)), (fun _ h => nomatch h)⟩)⟩)) (par_newg HN629.out (fun h => Nat.lt_irrefl _ (Nat.lt_of_lt_of_le (XL620.out _ h) (Nat.le_of_eq hg627)))))
          clear hg627
          (try clear hHeld)
          refine hK.out _ _ (sees_kept _ (kept_trans Kk608.out Kk624.out)) (fun hHeld => ?_)
          clear hK K
          (try simp only [Act.put, List.setIfInBounds_toArray, List.set_cons_zero, List.set_cons_succ])
          exact HJj50 W622 g626 g154 g364 g186 ⟨(kept_trans Kk608.out Kk624.out), HR630.out, (HL610.out.later Kk624.out), (blk_at HX611.out Kk624.out), (blk_at HX612.out Kk624.out), HG613.out, (Nat.le_trans (Below.size (kept_refl _)) HP614.out), HD615.out, HG616.out, (Nat.le_trans (Below.size (kept_refl _)) HP617.out), HD618.out, (by have := AP619.out; omega), (xlt_later XL620.out Kk624.out)⟩
        exact AllReadyH.nil
      · intro W311 g63 g315 g140 k631
        obtain ⟨q632, q633, q634, q635, q636, q637, q638, q639⟩ := k631
        have Kk640 := Lib.hid q632
        have KV641 := Lib.hid (kept_trans (kept_trans Kk15.out (kept_trans Kk23.out (kept_trans Kk30.out Kk36.out))) Kk640.out)
        have HL642 := Lib.hid q633
        have HL643 := Lib.hid q634
        have HX644 := Lib.hid q635
        have HG645 := Lib.hid q636
        have HP646 := Lib.hid q637
        have HD647 := Lib.hid q638
        have XL648 := Lib.hid q639
        clear q632 q633 q634 q635 q636 q637 q638 q639
        have hHeld : Sees W33 (w.heap.size + 4) W311 := sees_kept _ Kk640.out
        refine wpAnyH_ready (rs := [4, 10]) (by kernel_rfl) (by simp) ?_
        refine AllReadyH.cons (o := rcLamr3_4) rfl (fun K hK => ?_) ?_
        · unfold rcLamr3_4
          go_simp
          refine (rnode_any 14 [g.a, x] (Par w V0.heap.size (g140 :: []) P) _ _ (show I64 14 from by unfold I64; decide) HL642.out (Nat.le_of_ble_eq_true rfl)).mono ?_
          obtain ⟨U656, hU656⟩ : ∃ qu, nodeT 14 [g.a, x] = qu := ⟨_, rfl⟩
          rw [hU656]
          have HU656 := Lib.hid hU656
          clear hU656
          rintro e w649 ⟨s651, rfl, hl652, k650⟩
          obtain ⟨a653, c654, S655, rfl, -⟩ := hl652.out
          have Kk657 := Lib.hid k650
          clear k650
          have Hhl652 : Hid (LiesQ w649 (Par w V0.heap.size (g140 :: []) P) U656.kids _) := par_give hl652 (Below.size KV641.out) XL648.out
          clear hl652
          (try clear hHeld)
          refine hK.out _ _ (sees_kept _ (kept_trans Kk640.out Kk657.out)) (fun hHeld => ?_)
          clear hK K
          (try simp only [Act.put, List.setIfInBounds_toArray, List.set_cons_zero, List.set_cons_succ])
          exact HJj52 w649 g63 U656 a653 c654 g315 g140 ⟨(kept_trans Kk640.out Kk657.out), HU656.out, Hhl652.out, (HL643.out.later Kk657.out), (blk_at HX644.out Kk657.out), HG645.out, (Nat.le_trans (Below.size (kept_refl _)) HP646.out), HD647.out, (xlt_later XL648.out Kk657.out)⟩
        refine AllReadyH.cons (o := rcLamr3_10) rfl (fun K hK => ?_) ?_
        · unfold rcLamr3_10
          go_simp
          refine at_K (fun W658 hW658 => ?_)
          obtain ⟨g662, hg663, Kk660, Hx659, Hz661, KV664, HN665⟩ := alloc1v KV641.out hW658
          rw [hg663]
          clear hW658
          have HG666 : Hid (V0.heap.size ≤ g662) := (by show _ ≤ _; rw [← hg663]; exact (Below.size KV641.out))
          have AP667 : Hid (g140 < g662) := (by show _ < _; rw [← hg663]; exact block_lt HX644.out)
          have XL668 : Hid (XLt (g662 :: (g140 :: [])) W658) := (by show XLt _ _; rw [← hg663]; exact xlt_more XL648.out Kk660.out (by have := Hz661.out; omega))
          have HP669 : Hid (W311.heap.size ≤ g662) := (by show _ ≤ _; rw [← hg663]; exact Nat.le_refl _)
          have HD670 : Hid (W33.heap.size ≤ g662) := (by show _ ≤ _; rw [← hg663]; exact Below.size Kk640.out)
          clear hg663
          (try clear hHeld)
          refine hK.out _ _ (sees_kept _ (kept_trans Kk640.out Kk660.out)) (fun hHeld => ?_)
          clear hK K
          (try simp only [Act.put, List.setIfInBounds_toArray, List.set_cons_zero, List.set_cons_succ])
          have pg671 : ∀ (l : List Tm) (s : Value), LiesQ W311 (Par w V0.heap.size (g140 :: []) P) l s → LiesQ W658 (Par w V0.heap.size (g140 :: (g662 :: [])) P) l s := fun _ _ h => par_grow h Kk660.out (List.forall_mem_cons.2 ⟨(Or.inl (List.mem_cons_self ..)), (List.forall_mem_cons.2 ⟨(Or.inr HP669.out), (fun _ h => nomatch h)⟩)⟩)
          exact HJj50 W658 g63 g315 g662 g140 ⟨(kept_trans Kk640.out Kk660.out), (pg671 _ _ HL642.out), (pg671 _ _ HL643.out), Hx659.out, (blk_at HX644.out Kk660.out), HG666.out, (Nat.le_trans (Below.size Kk640.out) HP669.out), HD670.out, HG645.out, (Nat.le_trans (Below.size (kept_refl _)) HP646.out), HD647.out, (by have := AP667.out; omega), (xlt_x XL668.out (List.forall_mem_cons.2 ⟨(List.mem_cons_of_mem _ (List.mem_cons_self ..)), (List.forall_mem_cons.2 ⟨(List.mem_cons_self ..), (fun _ h => nomatch h)⟩)⟩))⟩
        exact AllReadyH.nil
      · intro W100 g63 U75 a72 c73 g104 k672
        obtain ⟨q673, q674, q675, q676, q677, q678, q679, q680⟩ := k672
        have Kk681 := Lib.hid q673
        have KV682 := Lib.hid (kept_trans (kept_trans Kk15.out (kept_trans Kk23.out (kept_trans Kk30.out Kk36.out))) Kk681.out)
        have HU75 := Lib.hid q674
        have HL683 := Lib.hid q675
        have HX684 := Lib.hid q676
        have HG685 := Lib.hid q677
        have HP686 := Lib.hid q678
        have HD687 := Lib.hid q679
        have XL688 := Lib.hid q680
        clear q673 q674 q675 q676 q677 q678 q679 q680
        have hHeld : Sees W33 (w.heap.size + 4) W100 := sees_kept _ Kk681.out
        refine wpAnyH_ready (rs := [8, 10]) (by kernel_rfl) (by simp) ?_
        refine AllReadyH.cons (o := rcLamr3_8) rfl (fun K hK => ?_) ?_
        · unfold rcLamr3_8
          go_simp
          refine at_K (fun W690 hW690 => ?_)
          obtain ⟨g694, hg695, Kk692, Hx691, Hz693, KV696, HN697⟩ := alloc1v KV682.out hW690
          rw [hg695]
          clear hW690
          have HR698 := Lib.hid (q_row2 (Q := (Par w V0.heap.size (g104 :: []) P)) Hx691.out Gg.out.2.2.2.1 (par_grow HLgc.out KV696.out (List.forall_mem_cons.2 ⟨(Or.inr (Nat.le_trans (Below.size (kept_trans Kk15.out (kept_trans Kk23.out (kept_trans Kk30.out Kk36.out)))) HP686.out)), (fun _ h => nomatch h)⟩)) Gy.out (par_grow HLy.out KV696.out (List.forall_mem_cons.2 ⟨(Or.inr (Nat.le_trans (Below.size (kept_trans Kk15.out (kept_trans Kk23.out (kept_trans Kk30.out Kk36.out)))) HP686.out)), (fun _ h => nomatch h)⟩)) (par_newg HN697.out (fun h => Nat.lt_irrefl _ (Nat.lt_of_lt_of_le (XL688.out _ h) (Nat.le_of_eq hg695)))))
          clear hg695
          (try clear hHeld)
          refine hK.out _ _ (sees_kept _ (kept_trans Kk681.out Kk692.out)) (fun hHeld => ?_)
          clear hK K
          (try simp only [Act.put, List.setIfInBounds_toArray, List.set_cons_zero, List.set_cons_succ])
          exact HJj52 W690 g63 U75 a72 c73 g694 g104 ⟨(kept_trans Kk681.out Kk692.out), HU75.out, (HL683.out.later Kk692.out), HR698.out, (blk_at HX684.out Kk692.out), HG685.out, (Nat.le_trans (Below.size (kept_refl _)) HP686.out), HD687.out, (xlt_later XL688.out Kk692.out)⟩
        refine AllReadyH.cons (o := rcLamr3_10) rfl (fun K hK => ?_) ?_
        · unfold rcLamr3_10
          go_simp
          refine at_K (fun W699 hW699 => ?_)
          obtain ⟨g703, hg704, Kk701, Hx700, Hz702, KV705, HN706⟩ := alloc1v KV682.out hW699
          rw [hg704]
          clear hW699
          have HG707 : Hid (V0.heap.size ≤ g703) := (by show _ ≤ _; rw [← hg704]; exact (Below.size KV682.out))
          have AP708 : Hid (g104 < g703) := (by show _ < _; rw [← hg704]; exact block_lt HX684.out)
          have XL709 : Hid (XLt (g703 :: (g104 :: [])) W699) := (by show XLt _ _; rw [← hg704]; exact xlt_more XL688.out Kk701.out (by have := Hz702.out; omega))
          have HP710 : Hid (W100.heap.size ≤ g703) := (by show _ ≤ _; rw [← hg704]; exact Nat.le_refl _)
          have HD711 : Hid (W33.heap.size ≤ g703) := (by show _ ≤ _; rw [← hg704]; exact Below.size Kk681.out)
          clear hg704
          (try clear hHeld)
          refine hK.out _ _ (sees_kept _ (kept_trans Kk681.out Kk701.out)) (fun hHeld => ?_)
          clear hK K
          (try simp only [Act.put, List.setIfInBounds_toArray, List.set_cons_zero, List.set_cons_succ])
          have pg712 : ∀ (l : List Tm) (s : Value), LiesQ W100 (Par w V0.heap.size (g104 :: []) P) l s → LiesQ W699 (Par w V0.heap.size (g104 :: (g703 :: [])) P) l s := fun _ _ h => par_grow h Kk701.out (List.forall_mem_cons.2 ⟨(Or.inl (List.mem_cons_self ..)), (List.forall_mem_cons.2 ⟨(Or.inr HP710.out), (fun _ h => nomatch h)⟩)⟩)
          exact HJj51 W699 g63 U75 a72 c73 g703 g104 ⟨(kept_trans Kk681.out Kk701.out), HU75.out, (pg712 _ _ HL683.out), Hx700.out, (blk_at HX684.out Kk701.out), HG707.out, (Nat.le_trans (Below.size Kk681.out) HP710.out), HD711.out, HG685.out, (Nat.le_trans (Below.size (kept_refl _)) HP686.out), HD687.out, (by have := AP708.out; omega), (xlt_x XL709.out (List.forall_mem_cons.2 ⟨(List.mem_cons_of_mem _ (List.mem_cons_self ..)), (List.forall_mem_cons.2 ⟨(List.mem_cons_self ..), (fun _ h => nomatch h)⟩)⟩))⟩
        exact AllReadyH.nil
      · intro W444 g63 g448 g127 k713
        obtain ⟨q714, q715, q716, q717, q718, q719, q720, q721⟩ := k713
        have Kk722 := Lib.hid q714
        have KV723 := Lib.hid (kept_trans (kept_trans Kk15.out (kept_trans Kk23.out (kept_trans Kk30.out Kk36.out))) Kk722.out)
        have HL724 := Lib.hid q715
        have HL725 := Lib.hid q716
        have HX726 := Lib.hid q717
        have HG727 := Lib.hid q718
        have HP728 := Lib.hid q719
        have HD729 := Lib.hid q720
        have XL730 := Lib.hid q721
        clear q714 q715 q716 q717 q718 q719 q720 q721
        have hHeld : Sees W33 (w.heap.size + 4) W444 := sees_kept _ Kk722.out
        refine wpAnyH_ready (rs := [4, 11]) (by kernel_rfl) (by simp) ?_
        refine AllReadyH.cons (o := rcLamr3_4) rfl (fun K hK => ?_) ?_
        · unfold rcLamr3_4
          go_simp
          refine (rnode_any 14 [g.a, x] (Par w V0.heap.size (g127 :: []) P) _ _ (show I64 14 from by unfold I64; decide) HL724.out (Nat.le_of_ble_eq_true rfl)).mono ?_
          obtain ⟨U738, hU738⟩ : ∃ qu, nodeT 14 [g.a, x] = qu := ⟨_, rfl⟩
          rw [hU738]
          have HU738 := Lib.hid hU738
          clear hU738
          rintro e w731 ⟨s733, rfl, hl734, k732⟩
          obtain ⟨a735, c736, S737, rfl, -⟩ := hl734.out
          have Kk739 := Lib.hid k732
          clear k732
          have Hhl734 : Hid (LiesQ w731 (Par w V0.heap.size (g127 :: []) P) U738.kids _) := par_give hl734 (Below.size KV723.out) XL730.out
          clear hl734
          (try clear hHeld)
          refine hK.out _ _ (sees_kept _ (kept_trans Kk722.out Kk739.out)) (fun hHeld => ?_)
          clear hK K
          (try simp only [Act.put, List.setIfInBounds_toArray, List.set_cons_zero, List.set_cons_succ])
          exact HJj53 w731 g63 U738 a735 c736 g448 g127 ⟨(kept_trans Kk722.out Kk739.out), HU738.out, Hhl734.out, (HL725.out.later Kk739.out), (blk_at HX726.out Kk739.out), HG727.out, (Nat.le_trans (Below.size (kept_refl _)) HP728.out), HD729.out, (xlt_later XL730.out Kk739.out)⟩
        refine AllReadyH.cons (o := rcLamr3_11) rfl (fun K hK => ?_) ?_
        · unfold rcLamr3_11
          go_simp
          refine at_K (fun W740 hW740 => ?_)
          obtain ⟨g744, hg745, Kk742, Hx741, Hz743, KV746, HN747⟩ := alloc1v KV723.out hW740
          rw [hg745]
          clear hW740
          have HG748 : Hid (V0.heap.size ≤ g744) := (by show _ ≤ _; rw [← hg745]; exact (Below.size KV723.out))
          have AP749 : Hid (g127 < g744) := (by show _ < _; rw [← hg745]; exact block_lt HX726.out)
          have XL750 : Hid (XLt (g744 :: (g127 :: [])) W740) := (by show XLt _ _; rw [← hg745]; exact xlt_more XL730.out Kk742.out (by have := Hz743.out; omega))
          have HP751 : Hid (W444.heap.size ≤ g744) := (by show _ ≤ _; rw [← hg745]; exact Nat.le_refl _)
          have HD752 : Hid (W33.heap.size ≤ g744) := (by show _ ≤ _; rw [← hg745]; exact Below.size Kk722.out)
          clear hg745
          (try clear hHeld)
          refine hK.out _ _ (sees_kept _ (kept_trans Kk722.out Kk742.out)) (fun hHeld => ?_)
          clear hK K
          (try simp only [Act.put, List.setIfInBounds_toArray, List.set_cons_zero, List.set_cons_succ])
          have pg753 : ∀ (l : List Tm) (s : Value), LiesQ W444 (Par w V0.heap.size (g127 :: []) P) l s → LiesQ W740 (Par w V0.heap.size (g744 :: (g127 :: [])) P) l s := fun _ _ h => par_grow h Kk742.out (List.forall_mem_cons.2 ⟨(Or.inr HP751.out), (List.forall_mem_cons.2 ⟨(Or.inl (List.mem_cons_self ..)), (fun _ h => nomatch h)⟩)⟩)
          exact HJj50 W740 g63 g448 g127 g744 ⟨(kept_trans Kk722.out Kk742.out), (pg753 _ _ HL724.out), (pg753 _ _ HL725.out), (blk_at HX726.out Kk742.out), Hx741.out, HG727.out, (Nat.le_trans (Below.size (kept_refl _)) HP728.out), HD729.out, HG748.out, (Nat.le_trans (Below.size Kk722.out) HP751.out), HD752.out, (by have := AP749.out; omega), XL750.out⟩
        exact AllReadyH.nil
      · intro W87 g63 U75 a72 c73 g91 k754
        obtain ⟨q755, q756, q757, q758, q759, q760, q761, q762⟩ := k754
        have Kk763 := Lib.hid q755
        have KV764 := Lib.hid (kept_trans (kept_trans Kk15.out (kept_trans Kk23.out (kept_trans Kk30.out Kk36.out))) Kk763.out)
        have HU75 := Lib.hid q756
        have HL765 := Lib.hid q757
        have HX766 := Lib.hid q758
        have HG767 := Lib.hid q759
        have HP768 := Lib.hid q760
        have HD769 := Lib.hid q761
        have XL770 := Lib.hid q762
        clear q755 q756 q757 q758 q759 q760 q761 q762
        have hHeld : Sees W33 (w.heap.size + 4) W87 := sees_kept _ Kk763.out
        refine wpAnyH_ready (rs := [8, 11]) (by kernel_rfl) (by simp) ?_
        refine AllReadyH.cons (o := rcLamr3_8) rfl (fun K hK => ?_) ?_
        · unfold rcLamr3_8
          go_simp
          refine at_K (fun W772 hW772 => ?_)
          obtain ⟨g776, hg777, Kk774, Hx773, Hz775, KV778, HN779⟩ := alloc1v KV764.out hW772
          rw [hg777]
          clear hW772
          have HR780 := Lib.hid (q_row2 (Q := (Par w V0.heap.size (g91 :: []) P)) Hx773.out Gg.out.2.2.2.1 (par_grow HLgc.out KV778.out (List.forall_mem_cons.2 ⟨(Or.inr (Nat.le_trans (Below.size (kept_trans Kk15.out (kept_trans Kk23.out (kept_trans Kk30.out Kk36.out)))) HP768.out)), (fun _ h => nomatch h)⟩)) Gy.out (par_grow HLy.out KV778.out (List.forall_mem_cons.2 ⟨(Or.inr (Nat.le_trans (Below.size (kept_trans Kk15.out (kept_trans Kk23.out (kept_trans Kk30.out Kk36.out)))) HP768.out)), (fun _ h => nomatch h)⟩)) (par_newg HN779.out (fun h => Nat.lt_irrefl _ (Nat.lt_of_lt_of_le (XL770.out _ h) (Nat.le_of_eq hg777)))))
          clear hg777
          (try clear hHeld)
          refine hK.out _ _ (sees_kept _ (kept_trans Kk763.out Kk774.out)) (fun hHeld => ?_)
          clear hK K
          (try simp only [Act.put, List.setIfInBounds_toArray, List.set_cons_zero, List.set_cons_succ])
          exact HJj53 W772 g63 U75 a72 c73 g776 g91 ⟨(kept_trans Kk763.out Kk774.out), HU75.out, (HL765.out.later Kk774.out), HR780.out, (blk_at HX766.out Kk774.out), HG767.out, (Nat.le_trans (Below.size (kept_refl _)) HP768.out), HD769.out, (xlt_later XL770.out Kk774.out)⟩
        refine AllReadyH.cons (o := rcLamr3_11) rfl (fun K hK => ?_) ?_
        · unfold rcLamr3_11
          go_simp
          refine at_K (fun W781 hW781 => ?_)
          obtain ⟨g785, hg786, Kk783, Hx782, Hz784, KV787, HN788⟩ := alloc1v KV764.out hW781
          rw [hg786]
          clear hW781
          have HG789 : Hid (V0.heap.size ≤ g785) := (by show _ ≤ _; rw [← hg786]; exact (Below.size KV764.out))
          have AP790 : Hid (g91 < g785) := (by show _ < _; rw [← hg786]; exact block_lt HX766.out)
          have XL791 : Hid (XLt (g785 :: (g91 :: [])) W781) := (by show XLt _ _; rw [← hg786]; exact xlt_more XL770.out Kk783.out (by have := Hz784.out; omega))
          have HP792 : Hid (W87.heap.size ≤ g785) := (by show _ ≤ _; rw [← hg786]; exact Nat.le_refl _)
          have HD793 : Hid (W33.heap.size ≤ g785) := (by show _ ≤ _; rw [← hg786]; exact Below.size Kk763.out)
          clear hg786
          (try clear hHeld)
          refine hK.out _ _ (sees_kept _ (kept_trans Kk763.out Kk783.out)) (fun hHeld => ?_)
          clear hK K
          (try simp only [Act.put, List.setIfInBounds_toArray, List.set_cons_zero, List.set_cons_succ])
          have pg794 : ∀ (l : List Tm) (s : Value), LiesQ W87 (Par w V0.heap.size (g91 :: []) P) l s → LiesQ W781 (Par w V0.heap.size (g785 :: (g91 :: [])) P) l s := fun _ _ h => par_grow h Kk783.out (List.forall_mem_cons.2 ⟨(Or.inr HP792.out), (List.forall_mem_cons.2 ⟨(Or.inl (List.mem_cons_self ..)), (fun _ h => nomatch h)⟩)⟩)
          exact HJj51 W781 g63 U75 a72 c73 g91 g785 ⟨(kept_trans Kk763.out Kk783.out), HU75.out, (pg794 _ _ HL765.out), (blk_at HX766.out Kk783.out), Hx782.out, HG767.out, (Nat.le_trans (Below.size (kept_refl _)) HP768.out), HD769.out, HG789.out, (Nat.le_trans (Below.size Kk763.out) HP792.out), HD793.out, (by have := AP790.out; omega), XL791.out⟩
        exact AllReadyH.nil
      · intro W78 g63 U75 a72 c73 g82 k795
        obtain ⟨q796, q797, q798, q799⟩ := k795
        have Kk800 := Lib.hid q796
        have KV801 := Lib.hid (kept_trans (kept_trans Kk15.out (kept_trans Kk23.out (kept_trans Kk30.out Kk36.out))) Kk800.out)
        have HU75 := Lib.hid q797
        have HL802 := Lib.hid q798
        have HL803 := Lib.hid q799
        clear q796 q797 q798 q799
        have hHeld : Sees W33 (w.heap.size + 4) W78 := sees_kept _ Kk800.out
        refine wpAnyH_ready (rs := [9, 10, 11]) (by kernel_rfl) (by simp) ?_
        refine AllReadyH.cons (o := rcLamr3_9) rfl (fun K hK => ?_) ?_
        · unfold rcLamr3_9
          go_simp
          refine (rnode_any 14 [g.c, y] (Par w V0.heap.size [] P) _ _ (show I64 14 from by unfold I64; decide) HL803.out (Nat.le_of_ble_eq_true rfl)).mono ?_
          obtain ⟨U811, hU811⟩ : ∃ qu, nodeT 14 [g.c, y] = qu := ⟨_, rfl⟩
          rw [hU811]
          have HU811 := Lib.hid hU811
          clear hU811
          rintro e w804 ⟨s806, rfl, hl807, k805⟩
          obtain ⟨a808, c809, S810, rfl, -⟩ := hl807.out
          have Kk812 := Lib.hid k805
          clear k805
          have Hhl807 : Hid (LiesQ w804 (Par w V0.heap.size [] P) U811.kids _) := par_give hl807 (Below.size KV801.out) (xlt_nil _)
          clear hl807
          (try clear hHeld)
          refine hK.out _ _ (sees_kept _ (kept_trans Kk800.out Kk812.out)) (fun hHeld => ?_)
          clear hK K
          (try simp only [Act.put, List.setIfInBounds_toArray, List.set_cons_zero, List.set_cons_succ])
          refine wpAnyH_ready (rs := [10, 11]) (by kernel_rfl) (by simp) ?_
          refine AllReadyH.cons (o := rcLamr3_10) rfl (fun K hK => ?_) ?_
          · unfold rcLamr3_10
            go_simp
            refine at_K (fun W813 hW813 => ?_)
            obtain ⟨g817, hg818, Kk815, Hx814, Hz816, KV819, HN820⟩ := alloc1v (kept_trans Kk15.out (kept_trans Kk23.out (kept_trans Kk30.out (kept_trans Kk36.out (kept_trans Kk800.out Kk812.out))))) hW813
            rw [hg818]
            clear hW813
            have HG821 : Hid (V0.heap.size ≤ g817) := (by show _ ≤ _; rw [← hg818]; exact (Below.size (kept_trans Kk15.out (kept_trans Kk23.out (kept_trans Kk30.out (kept_trans Kk36.out (kept_trans Kk800.out Kk812.out)))))))
            have XL822 : Hid (XLt (g817 :: []) W813) := (by show XLt _ _; rw [← hg818]; exact xlt_more (xlt_nil _) Kk815.out (by have := Hz816.out; omega))
            have HP823 : Hid (w804.heap.size ≤ g817) := (by show _ ≤ _; rw [← hg818]; exact Nat.le_refl _)
            have HD824 : Hid (W33.heap.size ≤ g817) := (by show _ ≤ _; rw [← hg818]; exact Below.size (kept_trans Kk800.out Kk812.out))
            clear hg818
            (try clear hHeld)
            refine hK.out _ _ (sees_kept _ (kept_trans Kk800.out (kept_trans Kk812.out Kk815.out))) (fun hHeld => ?_)
            clear hK K
            (try simp only [Act.put, List.setIfInBounds_toArray, List.set_cons_zero, List.set_cons_succ])
            have pg825 : ∀ (l : List Tm) (s : Value), LiesQ W78 (Par w V0.heap.size [] P) l s → LiesQ W813 (Par w V0.heap.size (g817 :: []) P) l s := fun _ _ h => par_grow h (kept_trans Kk812.out Kk815.out) (List.forall_mem_cons.2 ⟨(Or.inr (Nat.le_trans (Below.size Kk812.out) HP823.out)), (fun _ h => nomatch h)⟩)
            have pg826 : ∀ (l : List Tm) (s : Value), LiesQ w804 (Par w V0.heap.size [] P) l s → LiesQ W813 (Par w V0.heap.size (g817 :: []) P) l s := fun _ _ h => par_grow h Kk815.out (List.forall_mem_cons.2 ⟨(Or.inr HP823.out), (fun _ h => nomatch h)⟩)
            exact HJj56 W813 g63 U75 a72 c73 g82 U811 a808 c809 g817 ⟨(kept_trans Kk800.out (kept_trans Kk812.out Kk815.out)), HU75.out, HU811.out, (pg825 _ _ HL802.out), (pg826 _ _ Hhl807.out), Hx814.out, HG821.out, (Nat.le_trans (Below.size (kept_trans Kk800.out Kk812.out)) HP823.out), HD824.out, XL822.out⟩
          refine AllReadyH.cons (o := rcLamr3_11) rfl (fun K hK => ?_) ?_
          · unfold rcLamr3_11
            go_simp
            refine at_K (fun W827 hW827 => ?_)
            obtain ⟨g831, hg832, Kk829, Hx828, Hz830, KV833, HN834⟩ := alloc1v (kept_trans Kk15.out (kept_trans Kk23.out (kept_trans Kk30.out (kept_trans Kk36.out (kept_trans Kk800.out Kk812.out))))) hW827
            rw [hg832]
            clear hW827
            have HG835 : Hid (V0.heap.size ≤ g831) := (by show _ ≤ _; rw [← hg832]; exact (Below.size (kept_trans Kk15.out (kept_trans Kk23.out (kept_trans Kk30.out (kept_trans Kk36.out (kept_trans Kk800.out Kk812.out)))))))
            have XL836 : Hid (XLt (g831 :: []) W827) := (by show XLt _ _; rw [← hg832]; exact xlt_more (xlt_nil _) Kk829.out (by have := Hz830.out; omega))
            have HP837 : Hid (w804.heap.size ≤ g831) := (by show _ ≤ _; rw [← hg832]; exact Nat.le_refl _)
            have HD838 : Hid (W33.heap.size ≤ g831) := (by show _ ≤ _; rw [← hg832]; exact Below.size (kept_trans Kk800.out Kk812.out))
            clear hg832
            (try clear hHeld)
            refine hK.out _ _ (sees_kept _ (kept_trans Kk800.out (kept_trans Kk812.out Kk829.out))) (fun hHeld => ?_)
            clear hK K
            (try simp only [Act.put, List.setIfInBounds_toArray, List.set_cons_zero, List.set_cons_succ])
            have pg839 : ∀ (l : List Tm) (s : Value), LiesQ W78 (Par w V0.heap.size [] P) l s → LiesQ W827 (Par w V0.heap.size (g831 :: []) P) l s := fun _ _ h => par_grow h (kept_trans Kk812.out Kk829.out) (List.forall_mem_cons.2 ⟨(Or.inr (Nat.le_trans (Below.size Kk812.out) HP837.out)), (fun _ h => nomatch h)⟩)
            have pg840 : ∀ (l : List Tm) (s : Value), LiesQ w804 (Par w V0.heap.size [] P) l s → LiesQ W827 (Par w V0.heap.size (g831 :: []) P) l s := fun _ _ h => par_grow h Kk829.out (List.forall_mem_cons.2 ⟨(Or.inr HP837.out), (fun _ h => nomatch h)⟩)
            exact HJj55 W827 g63 U75 a72 c73 g82 U811 a808 c809 g831 ⟨(kept_trans Kk800.out (kept_trans Kk812.out Kk829.out)), HU75.out, HU811.out, (pg839 _ _ HL802.out), (pg840 _ _ Hhl807.out), Hx828.out, HG835.out, (Nat.le_trans (Below.size (kept_trans Kk800.out Kk812.out)) HP837.out), HD838.out, XL836.out⟩
          exact AllReadyH.nil
        refine AllReadyH.cons (o := rcLamr3_10) rfl (fun K hK => ?_) ?_
        · unfold rcLamr3_10
          go_simp
          refine at_K (fun W841 hW841 => ?_)
          obtain ⟨g845, hg846, Kk843, Hx842, Hz844, KV847, HN848⟩ := alloc1v KV801.out hW841
          rw [hg846]
          clear hW841
          have HG849 : Hid (V0.heap.size ≤ g845) := (by show _ ≤ _; rw [← hg846]; exact (Below.size KV801.out))
          have XL850 : Hid (XLt (g845 :: []) W841) := (by show XLt _ _; rw [← hg846]; exact xlt_more (xlt_nil _) Kk843.out (by have := Hz844.out; omega))
          have HP851 : Hid (W78.heap.size ≤ g845) := (by show _ ≤ _; rw [← hg846]; exact Nat.le_refl _)
          have HD852 : Hid (W33.heap.size ≤ g845) := (by show _ ≤ _; rw [← hg846]; exact Below.size Kk800.out)
          clear hg846
          (try clear hHeld)
          refine hK.out _ _ (sees_kept _ (kept_trans Kk800.out Kk843.out)) (fun hHeld => ?_)
          clear hK K
          (try simp only [Act.put, List.setIfInBounds_toArray, List.set_cons_zero, List.set_cons_succ])
          have pg853 : ∀ (l : List Tm) (s : Value), LiesQ W78 (Par w V0.heap.size [] P) l s → LiesQ W841 (Par w V0.heap.size (g845 :: []) P) l s := fun _ _ h => par_grow h Kk843.out (List.forall_mem_cons.2 ⟨(Or.inr HP851.out), (fun _ h => nomatch h)⟩)
          exact HJj53 W841 g63 U75 a72 c73 g82 g845 ⟨(kept_trans Kk800.out Kk843.out), HU75.out, (pg853 _ _ HL802.out), (pg853 _ _ HL803.out), Hx842.out, HG849.out, (Nat.le_trans (Below.size Kk800.out) HP851.out), HD852.out, XL850.out⟩
        refine AllReadyH.cons (o := rcLamr3_11) rfl (fun K hK => ?_) ?_
        · unfold rcLamr3_11
          go_simp
          refine at_K (fun W854 hW854 => ?_)
          obtain ⟨g858, hg859, Kk856, Hx855, Hz857, KV860, HN861⟩ := alloc1v KV801.out hW854
          rw [hg859]
          clear hW854
          have HG862 : Hid (V0.heap.size ≤ g858) := (by show _ ≤ _; rw [← hg859]; exact (Below.size KV801.out))
          have XL863 : Hid (XLt (g858 :: []) W854) := (by show XLt _ _; rw [← hg859]; exact xlt_more (xlt_nil _) Kk856.out (by have := Hz857.out; omega))
          have HP864 : Hid (W78.heap.size ≤ g858) := (by show _ ≤ _; rw [← hg859]; exact Nat.le_refl _)
          have HD865 : Hid (W33.heap.size ≤ g858) := (by show _ ≤ _; rw [← hg859]; exact Below.size Kk800.out)
          clear hg859
          (try clear hHeld)
          refine hK.out _ _ (sees_kept _ (kept_trans Kk800.out Kk856.out)) (fun hHeld => ?_)
          clear hK K
          (try simp only [Act.put, List.setIfInBounds_toArray, List.set_cons_zero, List.set_cons_succ])
          have pg866 : ∀ (l : List Tm) (s : Value), LiesQ W78 (Par w V0.heap.size [] P) l s → LiesQ W854 (Par w V0.heap.size (g858 :: []) P) l s := fun _ _ h => par_grow h Kk856.out (List.forall_mem_cons.2 ⟨(Or.inr HP864.out), (fun _ h => nomatch h)⟩)
          exact HJj52 W854 g63 U75 a72 c73 g82 g858 ⟨(kept_trans Kk800.out Kk856.out), HU75.out, (pg866 _ _ HL802.out), (pg866 _ _ HL803.out), Hx855.out, HG862.out, (Nat.le_trans (Below.size Kk800.out) HP864.out), HD865.out, XL863.out⟩
        exact AllReadyH.nil
      · intro W586 g63 g590 g324 g140 k867
        obtain ⟨q868, q869, q870, q871, q872, q873, q874, q875, q876, q877, q878, q879, q880⟩ := k867
        have Kk881 := Lib.hid q868
        have KV882 := Lib.hid (kept_trans (kept_trans Kk15.out (kept_trans Kk23.out (kept_trans Kk30.out Kk36.out))) Kk881.out)
        have HL883 := Lib.hid q869
        have HL884 := Lib.hid q870
        have HX885 := Lib.hid q871
        have HX886 := Lib.hid q872
        have HG887 := Lib.hid q873
        have HP888 := Lib.hid q874
        have HD889 := Lib.hid q875
        have HG890 := Lib.hid q876
        have HP891 := Lib.hid q877
        have HD892 := Lib.hid q878
        have AP893 := Lib.hid q879
        have XL894 := Lib.hid q880
        clear q868 q869 q870 q871 q872 q873 q874 q875 q876 q877 q878 q879 q880
        have hHeld : Sees W33 (w.heap.size + 4) W586 := sees_kept _ Kk881.out
        refine wpAnyH_ready (rs := [4]) (by kernel_rfl) (by simp) ?_
        refine AllReadyH.cons (o := rcLamr3_4) rfl (fun K hK => ?_) ?_
        · unfold rcLamr3_4
          go_simp
          refine (rnode_any 14 [g.a, x] (Par w V0.heap.size (g140 :: (g324 :: [])) P) _ _ (show I64 14 from by unfold I64; decide) HL883.out (Nat.le_of_ble_eq_true rfl)).mono ?_
          obtain ⟨U902, hU902⟩ : ∃ qu, nodeT 14 [g.a, x] = qu := ⟨_, rfl⟩
          rw [hU902]
          have HU902 := Lib.hid hU902
          clear hU902
          rintro e w895 ⟨s897, rfl, hl898, k896⟩
          obtain ⟨a899, c900, S901, rfl, -⟩ := hl898.out
          have Kk903 := Lib.hid k896
          clear k896
          have Hhl898 : Hid (LiesQ w895 (Par w V0.heap.size (g140 :: (g324 :: [])) P) U902.kids _) := par_give hl898 (Below.size KV882.out) XL894.out
          clear hl898
          (try clear hHeld)
          refine hK.out _ _ (sees_kept _ (kept_trans Kk881.out Kk903.out)) (fun hHeld => ?_)
          clear hK K
          (try simp only [Act.put, List.setIfInBounds_toArray, List.set_cons_zero, List.set_cons_succ])
          exact HJj54 w895 g63 U902 a899 c900 g590 g324 g140 ⟨(kept_trans Kk881.out Kk903.out), HU902.out, Hhl898.out, (HL884.out.later Kk903.out), (blk_at HX885.out Kk903.out), (blk_at HX886.out Kk903.out), HG887.out, (Nat.le_trans (Below.size (kept_refl _)) HP888.out), HD889.out, HG890.out, (Nat.le_trans (Below.size (kept_refl _)) HP891.out), HD892.out, (by have := AP893.out; omega), (xlt_later XL894.out Kk903.out)⟩
        exact AllReadyH.nil
      · intro w576 g63 U583 a580 c581 g324 g140 k904
        obtain ⟨q905, q906, q907, q908, q909, q910, q911, q912, q913, q914, q915, q916, q917⟩ := k904
        have Kk918 := Lib.hid q905
        have KV919 := Lib.hid (kept_trans (kept_trans Kk15.out (kept_trans Kk23.out (kept_trans Kk30.out Kk36.out))) Kk918.out)
        have HU583 := Lib.hid q906
        have HL920 := Lib.hid q907
        have HX921 := Lib.hid q908
        have HX922 := Lib.hid q909
        have HG923 := Lib.hid q910
        have HP924 := Lib.hid q911
        have HD925 := Lib.hid q912
        have HG926 := Lib.hid q913
        have HP927 := Lib.hid q914
        have HD928 := Lib.hid q915
        have AP929 := Lib.hid q916
        have XL930 := Lib.hid q917
        clear q905 q906 q907 q908 q909 q910 q911 q912 q913 q914 q915 q916 q917
        have hHeld : Sees W33 (w.heap.size + 4) w576 := sees_kept _ Kk918.out
        refine wpAnyH_ready (rs := [8]) (by kernel_rfl) (by simp) ?_
        refine AllReadyH.cons (o := rcLamr3_8) rfl (fun K hK => ?_) ?_
        · unfold rcLamr3_8
          go_simp
          refine at_K (fun W932 hW932 => ?_)
          obtain ⟨g936, hg937, Kk934, Hx933, Hz935, KV938, HN939⟩ := alloc1v KV919.out hW932
          rw [hg937]
          clear hW932
          have HR940 := Lib.hid (q_row2 (Q := (Par w V0.heap.size (g140 :: (g324 :: [])) P)) Hx933.out Gg.out.2.2.2.1 (par_grow HLgc.out KV938.out (List.forall_mem_cons.2 ⟨(Or.inr (Nat.le_trans (Below.size (kept_trans Kk15.out (kept_trans Kk23.out (kept_trans Kk30.out Kk36.out)))) HP927.out)), (List.forall_mem_cons.2 ⟨(Or.inr (Nat.le_trans (Below.size (kept_trans Kk15.out (kept_trans Kk23.out (kept_trans Kk30.out Kk36.out)))) HP924.out)), (fun _ h => nomatch h)⟩)⟩)) Gy.out (par_grow HLy.out KV938.out (List.forall_mem_cons.2 ⟨(Or.inr (Nat.le_trans (Below.size (kept_trans Kk15.out (kept_trans Kk23.out (kept_trans Kk30.out Kk36.out)))) HP927.out)), (List.forall_mem_cons.2 ⟨(Or.inr (Nat.le_trans (Below.size (kept_trans Kk15.out (kept_trans Kk23.out (kept_trans Kk30.out Kk36.out)))) HP924.out)), (fun _ h => nomatch h)⟩)⟩)) (par_newg HN939.out (fun h => Nat.lt_irrefl _ (Nat.lt_of_lt_of_le (XL930.out _ h) (Nat.le_of_eq hg937)))))
          clear hg937
          (try clear hHeld)
          refine hK.out _ _ (sees_kept _ (kept_trans Kk918.out Kk934.out)) (fun hHeld => ?_)
          clear hK K
          (try simp only [Act.put, List.setIfInBounds_toArray, List.set_cons_zero, List.set_cons_succ])
          exact HJj54 W932 g63 U583 a580 c581 g936 g324 g140 ⟨(kept_trans Kk918.out Kk934.out), HU583.out, (HL920.out.later Kk934.out), HR940.out, (blk_at HX921.out Kk934.out), (blk_at HX922.out Kk934.out), HG923.out, (Nat.le_trans (Below.size (kept_refl _)) HP924.out), HD925.out, HG926.out, (Nat.le_trans (Below.size (kept_refl _)) HP927.out), HD928.out, (by have := AP929.out; omega), (xlt_later XL930.out Kk934.out)⟩
        exact AllReadyH.nil
      · intro w649 g63 U656 a653 c654 g315 g140 k941
        obtain ⟨q942, q943, q944, q945, q946, q947, q948, q949, q950⟩ := k941
        have Kk951 := Lib.hid q942
        have KV952 := Lib.hid (kept_trans (kept_trans Kk15.out (kept_trans Kk23.out (kept_trans Kk30.out Kk36.out))) Kk951.out)
        have HU656 := Lib.hid q943
        have HL953 := Lib.hid q944
        have HL954 := Lib.hid q945
        have HX955 := Lib.hid q946
        have HG956 := Lib.hid q947
        have HP957 := Lib.hid q948
        have HD958 := Lib.hid q949
        have XL959 := Lib.hid q950
        clear q942 q943 q944 q945 q946 q947 q948 q949 q950
        have hHeld : Sees W33 (w.heap.size + 4) w649 := sees_kept _ Kk951.out
        refine wpAnyH_ready (rs := [9, 10]) (by kernel_rfl) (by simp) ?_
        refine AllReadyH.cons (o := rcLamr3_9) rfl (fun K hK => ?_) ?_
        · unfold rcLamr3_9
          go_simp
          refine (rnode_any 14 [g.c, y] (Par w V0.heap.size (g140 :: []) P) _ _ (show I64 14 from by unfold I64; decide) HL954.out (Nat.le_of_ble_eq_true rfl)).mono ?_
          obtain ⟨U967, hU967⟩ : ∃ qu, nodeT 14 [g.c, y] = qu := ⟨_, rfl⟩
          rw [hU967]
          have HU967 := Lib.hid hU967
          clear hU967
          rintro e w960 ⟨s962, rfl, hl963, k961⟩
          obtain ⟨a964, c965, S966, rfl, -⟩ := hl963.out
          have Kk968 := Lib.hid k961
          clear k961
          have Hhl963 : Hid (LiesQ w960 (Par w V0.heap.size (g140 :: []) P) U967.kids _) := par_give hl963 (Below.size KV952.out) XL959.out
          clear hl963
          (try clear hHeld)
          refine hK.out _ _ (sees_kept _ (kept_trans Kk951.out Kk968.out)) (fun hHeld => ?_)
          clear hK K
          (try simp only [Act.put, List.setIfInBounds_toArray, List.set_cons_zero, List.set_cons_succ])
          exact HJj55 w960 g63 U656 a653 c654 g315 U967 a964 c965 g140 ⟨(kept_trans Kk951.out Kk968.out), HU656.out, HU967.out, (HL953.out.later Kk968.out), Hhl963.out, (blk_at HX955.out Kk968.out), HG956.out, (Nat.le_trans (Below.size (kept_refl _)) HP957.out), HD958.out, (xlt_later XL959.out Kk968.out)⟩
        refine AllReadyH.cons (o := rcLamr3_10) rfl (fun K hK => ?_) ?_
        · unfold rcLamr3_10
          go_simp
          refine at_K (fun W969 hW969 => ?_)
          obtain ⟨g973, hg974, Kk971, Hx970, Hz972, KV975, HN976⟩ := alloc1v KV952.out hW969
          rw [hg974]
          clear hW969
          have HG977 : Hid (V0.heap.size ≤ g973) := (by show _ ≤ _; rw [← hg974]; exact (Below.size KV952.out))
          have AP978 : Hid (g140 < g973) := (by show _ < _; rw [← hg974]; exact block_lt HX955.out)
          have XL979 : Hid (XLt (g973 :: (g140 :: [])) W969) := (by show XLt _ _; rw [← hg974]; exact xlt_more XL959.out Kk971.out (by have := Hz972.out; omega))
          have HP980 : Hid (w649.heap.size ≤ g973) := (by show _ ≤ _; rw [← hg974]; exact Nat.le_refl _)
          have HD981 : Hid (W33.heap.size ≤ g973) := (by show _ ≤ _; rw [← hg974]; exact Below.size Kk951.out)
          clear hg974
          (try clear hHeld)
          refine hK.out _ _ (sees_kept _ (kept_trans Kk951.out Kk971.out)) (fun hHeld => ?_)
          clear hK K
          (try simp only [Act.put, List.setIfInBounds_toArray, List.set_cons_zero, List.set_cons_succ])
          have pg982 : ∀ (l : List Tm) (s : Value), LiesQ w649 (Par w V0.heap.size (g140 :: []) P) l s → LiesQ W969 (Par w V0.heap.size (g140 :: (g973 :: [])) P) l s := fun _ _ h => par_grow h Kk971.out (List.forall_mem_cons.2 ⟨(Or.inl (List.mem_cons_self ..)), (List.forall_mem_cons.2 ⟨(Or.inr HP980.out), (fun _ h => nomatch h)⟩)⟩)
          exact HJj54 W969 g63 U656 a653 c654 g315 g973 g140 ⟨(kept_trans Kk951.out Kk971.out), HU656.out, (pg982 _ _ HL953.out), (pg982 _ _ HL954.out), Hx970.out, (blk_at HX955.out Kk971.out), HG977.out, (Nat.le_trans (Below.size Kk951.out) HP980.out), HD981.out, HG956.out, (Nat.le_trans (Below.size (kept_refl _)) HP957.out), HD958.out, (by have := AP978.out; omega), (xlt_x XL979.out (List.forall_mem_cons.2 ⟨(List.mem_cons_of_mem _ (List.mem_cons_self ..)), (List.forall_mem_cons.2 ⟨(List.mem_cons_self ..), (fun _ h => nomatch h)⟩)⟩))⟩
        exact AllReadyH.nil
      · intro w731 g63 U738 a735 c736 g448 g127 k983
        obtain ⟨q984, q985, q986, q987, q988, q989, q990, q991, q992⟩ := k983
        have Kk993 := Lib.hid q984
        have KV994 := Lib.hid (kept_trans (kept_trans Kk15.out (kept_trans Kk23.out (kept_trans Kk30.out Kk36.out))) Kk993.out)
        have HU738 := Lib.hid q985
        have HL995 := Lib.hid q986
        have HL996 := Lib.hid q987
        have HX997 := Lib.hid q988
        have HG998 := Lib.hid q989
        have HP999 := Lib.hid q990
        have HD1000 := Lib.hid q991
        have XL1001 := Lib.hid q992
        clear q984 q985 q986 q987 q988 q989 q990 q991 q992
        have hHeld : Sees W33 (w.heap.size + 4) w731 := sees_kept _ Kk993.out
        refine wpAnyH_ready (rs := [9, 11]) (by kernel_rfl) (by simp) ?_
        refine AllReadyH.cons (o := rcLamr3_9) rfl (fun K hK => ?_) ?_
        · unfold rcLamr3_9
          go_simp
          refine (rnode_any 14 [g.c, y] (Par w V0.heap.size (g127 :: []) P) _ _ (show I64 14 from by unfold I64; decide) HL996.out (Nat.le_of_ble_eq_true rfl)).mono ?_
          obtain ⟨U1009, hU1009⟩ : ∃ qu, nodeT 14 [g.c, y] = qu := ⟨_, rfl⟩
          rw [hU1009]
          have HU1009 := Lib.hid hU1009
          clear hU1009
          rintro e w1002 ⟨s1004, rfl, hl1005, k1003⟩
          obtain ⟨a1006, c1007, S1008, rfl, -⟩ := hl1005.out
          have Kk1010 := Lib.hid k1003
          clear k1003
          have Hhl1005 : Hid (LiesQ w1002 (Par w V0.heap.size (g127 :: []) P) U1009.kids _) := par_give hl1005 (Below.size KV994.out) XL1001.out
          clear hl1005
          (try clear hHeld)
          refine hK.out _ _ (sees_kept _ (kept_trans Kk993.out Kk1010.out)) (fun hHeld => ?_)
          clear hK K
          (try simp only [Act.put, List.setIfInBounds_toArray, List.set_cons_zero, List.set_cons_succ])
          exact HJj56 w1002 g63 U738 a735 c736 g448 U1009 a1006 c1007 g127 ⟨(kept_trans Kk993.out Kk1010.out), HU738.out, HU1009.out, (HL995.out.later Kk1010.out), Hhl1005.out, (blk_at HX997.out Kk1010.out), HG998.out, (Nat.le_trans (Below.size (kept_refl _)) HP999.out), HD1000.out, (xlt_later XL1001.out Kk1010.out)⟩
        refine AllReadyH.cons (o := rcLamr3_11) rfl (fun K hK => ?_) ?_
        · unfold rcLamr3_11
          go_simp
          refine at_K (fun W1011 hW1011 => ?_)
          obtain ⟨g1015, hg1016, Kk1013, Hx1012, Hz1014, KV1017, HN1018⟩ := alloc1v KV994.out hW1011
          rw [hg1016]
          clear hW1011
          have HG1019 : Hid (V0.heap.size ≤ g1015) := (by show _ ≤ _; rw [← hg1016]; exact (Below.size KV994.out))
          have AP1020 : Hid (g127 < g1015) := (by show _ < _; rw [← hg1016]; exact block_lt HX997.out)
          have XL1021 : Hid (XLt (g1015 :: (g127 :: [])) W1011) := (by show XLt _ _; rw [← hg1016]; exact xlt_more XL1001.out Kk1013.out (by have := Hz1014.out; omega))
          have HP1022 : Hid (w731.heap.size ≤ g1015) := (by show _ ≤ _; rw [← hg1016]; exact Nat.le_refl _)
          have HD1023 : Hid (W33.heap.size ≤ g1015) := (by show _ ≤ _; rw [← hg1016]; exact Below.size Kk993.out)
          clear hg1016
          (try clear hHeld)
          refine hK.out _ _ (sees_kept _ (kept_trans Kk993.out Kk1013.out)) (fun hHeld => ?_)
          clear hK K
          (try simp only [Act.put, List.setIfInBounds_toArray, List.set_cons_zero, List.set_cons_succ])
          have pg1024 : ∀ (l : List Tm) (s : Value), LiesQ w731 (Par w V0.heap.size (g127 :: []) P) l s → LiesQ W1011 (Par w V0.heap.size (g1015 :: (g127 :: [])) P) l s := fun _ _ h => par_grow h Kk1013.out (List.forall_mem_cons.2 ⟨(Or.inr HP1022.out), (List.forall_mem_cons.2 ⟨(Or.inl (List.mem_cons_self ..)), (fun _ h => nomatch h)⟩)⟩)
          exact HJj54 W1011 g63 U738 a735 c736 g448 g127 g1015 ⟨(kept_trans Kk993.out Kk1013.out), HU738.out, (pg1024 _ _ HL995.out), (pg1024 _ _ HL996.out), (blk_at HX997.out Kk1013.out), Hx1012.out, HG998.out, (Nat.le_trans (Below.size (kept_refl _)) HP999.out), HD1000.out, HG1019.out, (Nat.le_trans (Below.size Kk993.out) HP1022.out), HD1023.out, (by have := AP1020.out; omega), XL1021.out⟩
        exact AllReadyH.nil
      · intro w895 g63 U902 a899 c900 g590 g324 g140 k1025
        obtain ⟨q1026, q1027, q1028, q1029, q1030, q1031, q1032, q1033, q1034, q1035, q1036, q1037, q1038, q1039⟩ := k1025
        have Kk1040 := Lib.hid q1026
        have KV1041 := Lib.hid (kept_trans (kept_trans Kk15.out (kept_trans Kk23.out (kept_trans Kk30.out Kk36.out))) Kk1040.out)
        have HU902 := Lib.hid q1027
        have HL1042 := Lib.hid q1028
        have HL1043 := Lib.hid q1029
        have HX1044 := Lib.hid q1030
        have HX1045 := Lib.hid q1031
        have HG1046 := Lib.hid q1032
        have HP1047 := Lib.hid q1033
        have HD1048 := Lib.hid q1034
        have HG1049 := Lib.hid q1035
        have HP1050 := Lib.hid q1036
        have HD1051 := Lib.hid q1037
        have AP1052 := Lib.hid q1038
        have XL1053 := Lib.hid q1039
        clear q1026 q1027 q1028 q1029 q1030 q1031 q1032 q1033 q1034 q1035 q1036 q1037 q1038 q1039
        have hHeld : Sees W33 (w.heap.size + 4) w895 := sees_kept _ Kk1040.out
        refine wpAnyH_ready (rs := [9]) (by kernel_rfl) (by simp) ?_
        refine AllReadyH.cons (o := rcLamr3_9) rfl (fun K hK => ?_) ?_
        · unfold rcLamr3_9
          go_simp
          refine (rnode_any 14 [g.c, y] (Par w V0.heap.size (g140 :: (g324 :: [])) P) _ _ (show I64 14 from by unfold I64; decide) HL1043.out (Nat.le_of_ble_eq_true rfl)).mono ?_
          obtain ⟨U1061, hU1061⟩ : ∃ qu, nodeT 14 [g.c, y] = qu := ⟨_, rfl⟩
          rw [hU1061]
          have HU1061 := Lib.hid hU1061
          clear hU1061
          rintro e w1054 ⟨s1056, rfl, hl1057, k1055⟩
          obtain ⟨a1058, c1059, S1060, rfl, -⟩ := hl1057.out
          have Kk1062 := Lib.hid k1055
          clear k1055
          have Hhl1057 : Hid (LiesQ w1054 (Par w V0.heap.size (g140 :: (g324 :: [])) P) U1061.kids _) := par_give hl1057 (Below.size KV1041.out) XL1053.out
          clear hl1057
          (try clear hHeld)
          refine hK.out _ _ (sees_kept _ (kept_trans Kk1040.out Kk1062.out)) (fun hHeld => ?_)
          clear hK K
          (try simp only [Act.put, List.setIfInBounds_toArray, List.set_cons_zero, List.set_cons_succ])
          exact HJj57 w1054 g63 U902 a899 c900 g590 U1061 a1058 c1059 g324 g140 ⟨(kept_trans Kk1040.out Kk1062.out), HU902.out, HU1061.out, (HL1042.out.later Kk1062.out), Hhl1057.out, (blk_at HX1044.out Kk1062.out), (blk_at HX1045.out Kk1062.out), HG1046.out, (Nat.le_trans (Below.size (kept_refl _)) HP1047.out), HD1048.out, HG1049.out, (Nat.le_trans (Below.size (kept_refl _)) HP1050.out), HD1051.out, (by have := AP1052.out; omega), (xlt_later XL1053.out Kk1062.out)⟩
        exact AllReadyH.nil
      · intro W827 g63 U75 a72 c73 g82 U811 a808 c809 g831 k1063
        obtain ⟨q1064, q1065, q1066, q1067, q1068, q1069, q1070, q1071, q1072, q1073⟩ := k1063
        have Kk1074 := Lib.hid q1064
        have KV1075 := Lib.hid (kept_trans (kept_trans Kk15.out (kept_trans Kk23.out (kept_trans Kk30.out Kk36.out))) Kk1074.out)
        have HU75 := Lib.hid q1065
        have HU811 := Lib.hid q1066
        have HL1076 := Lib.hid q1067
        have HL1077 := Lib.hid q1068
        have HX1078 := Lib.hid q1069
        have HG1079 := Lib.hid q1070
        have HP1080 := Lib.hid q1071
        have HD1081 := Lib.hid q1072
        have XL1082 := Lib.hid q1073
        clear q1064 q1065 q1066 q1067 q1068 q1069 q1070 q1071 q1072 q1073
        have hHeld : Sees W33 (w.heap.size + 4) W827 := sees_kept _ Kk1074.out
        refine wpAnyH_ready (rs := [10]) (by kernel_rfl) (by simp) ?_
        refine AllReadyH.cons (o := rcLamr3_10) rfl (fun K hK => ?_) ?_
        · unfold rcLamr3_10
          go_simp
          refine at_K (fun W1083 hW1083 => ?_)
          obtain ⟨g1087, hg1088, Kk1085, Hx1084, Hz1086, KV1089, HN1090⟩ := alloc1v KV1075.out hW1083
          rw [hg1088]
          clear hW1083
          have HG1091 : Hid (V0.heap.size ≤ g1087) := (by show _ ≤ _; rw [← hg1088]; exact (Below.size KV1075.out))
          have AP1092 : Hid (g831 < g1087) := (by show _ < _; rw [← hg1088]; exact block_lt HX1078.out)
          have XL1093 : Hid (XLt (g1087 :: (g831 :: [])) W1083) := (by show XLt _ _; rw [← hg1088]; exact xlt_more XL1082.out Kk1085.out (by have := Hz1086.out; omega))
          have HP1094 : Hid (W827.heap.size ≤ g1087) := (by show _ ≤ _; rw [← hg1088]; exact Nat.le_refl _)
          have HD1095 : Hid (W33.heap.size ≤ g1087) := (by show _ ≤ _; rw [← hg1088]; exact Below.size Kk1074.out)
          clear hg1088
          (try clear hHeld)
          refine hK.out _ _ (sees_kept _ (kept_trans Kk1074.out Kk1085.out)) (fun hHeld => ?_)
          clear hK K
          (try simp only [Act.put, List.setIfInBounds_toArray, List.set_cons_zero, List.set_cons_succ])
          have pg1096 : ∀ (l : List Tm) (s : Value), LiesQ W827 (Par w V0.heap.size (g831 :: []) P) l s → LiesQ W1083 (Par w V0.heap.size (g831 :: (g1087 :: [])) P) l s := fun _ _ h => par_grow h Kk1085.out (List.forall_mem_cons.2 ⟨(Or.inl (List.mem_cons_self ..)), (List.forall_mem_cons.2 ⟨(Or.inr HP1094.out), (fun _ h => nomatch h)⟩)⟩)
          exact HJj57 W1083 g63 U75 a72 c73 g82 U811 a808 c809 g1087 g831 ⟨(kept_trans Kk1074.out Kk1085.out), HU75.out, HU811.out, (pg1096 _ _ HL1076.out), (pg1096 _ _ HL1077.out), Hx1084.out, (blk_at HX1078.out Kk1085.out), HG1091.out, (Nat.le_trans (Below.size Kk1074.out) HP1094.out), HD1095.out, HG1079.out, (Nat.le_trans (Below.size (kept_refl _)) HP1080.out), HD1081.out, (by have := AP1092.out; omega), (xlt_x XL1093.out (List.forall_mem_cons.2 ⟨(List.mem_cons_of_mem _ (List.mem_cons_self ..)), (List.forall_mem_cons.2 ⟨(List.mem_cons_self ..), (fun _ h => nomatch h)⟩)⟩))⟩
        exact AllReadyH.nil
      · intro W813 g63 U75 a72 c73 g82 U811 a808 c809 g817 k1097
        obtain ⟨q1098, q1099, q1100, q1101, q1102, q1103, q1104, q1105, q1106, q1107⟩ := k1097
        have Kk1108 := Lib.hid q1098
        have KV1109 := Lib.hid (kept_trans (kept_trans Kk15.out (kept_trans Kk23.out (kept_trans Kk30.out Kk36.out))) Kk1108.out)
        have HU75 := Lib.hid q1099
        have HU811 := Lib.hid q1100
        have HL1110 := Lib.hid q1101
        have HL1111 := Lib.hid q1102
        have HX1112 := Lib.hid q1103
        have HG1113 := Lib.hid q1104
        have HP1114 := Lib.hid q1105
        have HD1115 := Lib.hid q1106
        have XL1116 := Lib.hid q1107
        clear q1098 q1099 q1100 q1101 q1102 q1103 q1104 q1105 q1106 q1107
        have hHeld : Sees W33 (w.heap.size + 4) W813 := sees_kept _ Kk1108.out
        refine wpAnyH_ready (rs := [11]) (by kernel_rfl) (by simp) ?_
        refine AllReadyH.cons (o := rcLamr3_11) rfl (fun K hK => ?_) ?_
        · unfold rcLamr3_11
          go_simp
          refine at_K (fun W1117 hW1117 => ?_)
          obtain ⟨g1121, hg1122, Kk1119, Hx1118, Hz1120, KV1123, HN1124⟩ := alloc1v KV1109.out hW1117
          rw [hg1122]
          clear hW1117
          have HG1125 : Hid (V0.heap.size ≤ g1121) := (by show _ ≤ _; rw [← hg1122]; exact (Below.size KV1109.out))
          have AP1126 : Hid (g817 < g1121) := (by show _ < _; rw [← hg1122]; exact block_lt HX1112.out)
          have XL1127 : Hid (XLt (g1121 :: (g817 :: [])) W1117) := (by show XLt _ _; rw [← hg1122]; exact xlt_more XL1116.out Kk1119.out (by have := Hz1120.out; omega))
          have HP1128 : Hid (W813.heap.size ≤ g1121) := (by show _ ≤ _; rw [← hg1122]; exact Nat.le_refl _)
          have HD1129 : Hid (W33.heap.size ≤ g1121) := (by show _ ≤ _; rw [← hg1122]; exact Below.size Kk1108.out)
          clear hg1122
          (try clear hHeld)
          refine hK.out _ _ (sees_kept _ (kept_trans Kk1108.out Kk1119.out)) (fun hHeld => ?_)
          clear hK K
          (try simp only [Act.put, List.setIfInBounds_toArray, List.set_cons_zero, List.set_cons_succ])
          have pg1130 : ∀ (l : List Tm) (s : Value), LiesQ W813 (Par w V0.heap.size (g817 :: []) P) l s → LiesQ W1117 (Par w V0.heap.size (g1121 :: (g817 :: [])) P) l s := fun _ _ h => par_grow h Kk1119.out (List.forall_mem_cons.2 ⟨(Or.inr HP1128.out), (List.forall_mem_cons.2 ⟨(Or.inl (List.mem_cons_self ..)), (fun _ h => nomatch h)⟩)⟩)
          exact HJj57 W1117 g63 U75 a72 c73 g82 U811 a808 c809 g817 g1121 ⟨(kept_trans Kk1108.out Kk1119.out), HU75.out, HU811.out, (pg1130 _ _ HL1110.out), (pg1130 _ _ HL1111.out), (blk_at HX1112.out Kk1119.out), Hx1118.out, HG1113.out, (Nat.le_trans (Below.size (kept_refl _)) HP1114.out), HD1115.out, HG1125.out, (Nat.le_trans (Below.size Kk1108.out) HP1128.out), HD1129.out, (by have := AP1126.out; omega), XL1127.out⟩
        exact AllReadyH.nil
      · intro w1054 g63 U902 a899 c900 g590 U1061 a1058 c1059 g324 g140 k1131
        obtain ⟨q1132, q1133, q1134, q1135, q1136, q1137, q1138, q1139, q1140, q1141, q1142, q1143, q1144, q1145, q1146⟩ := k1131
        have Kk1147 := Lib.hid q1132
        have KV1148 := Lib.hid (kept_trans (kept_trans Kk15.out (kept_trans Kk23.out (kept_trans Kk30.out Kk36.out))) Kk1147.out)
        have HU902 := Lib.hid q1133
        have HU1061 := Lib.hid q1134
        have HL1149 := Lib.hid q1135
        have HL1150 := Lib.hid q1136
        have HX1151 := Lib.hid q1137
        have HX1152 := Lib.hid q1138
        have HG1153 := Lib.hid q1139
        have HP1154 := Lib.hid q1140
        have HD1155 := Lib.hid q1141
        have HG1156 := Lib.hid q1142
        have HP1157 := Lib.hid q1143
        have HD1158 := Lib.hid q1144
        have AP1159 := Lib.hid q1145
        have XL1160 := Lib.hid q1146
        clear q1132 q1133 q1134 q1135 q1136 q1137 q1138 q1139 q1140 q1141 q1142 q1143 q1144 q1145 q1146
        have hHeld : Sees W33 (w.heap.size + 4) w1054 := sees_kept _ Kk1147.out
        refine wpAnyH_ready (rs := [12]) (by kernel_rfl) (by simp) ?_
        refine AllReadyH.cons (o := rcLamr3_12) rfl (fun K hK => ?_) ?_
        · unfold rcLamr3_12
          refine step_store_part rfl 32 (.tmp 9) (.tmp 27) rfl (g324) 0 #[.int .i64 U902.k, .int .i64 U902.i, .int .i64 U902.j, .int .i64 U902.n, (.slice a899 U902.kids.length c900)] rfl rfl 32 size_term (row_ok rfl) _ #[.int .i64 U902.k, .int .i64 U902.i, .int .i64 U902.j, .int .i64 U902.n, (.slice a899 U902.kids.length c900)] HX1151.out rfl (Nat.le_of_ble_eq_true rfl) ?_
          intro W1161 hW1161
          have KB1162 := Lib.hid (kept_set (kept_trans Kk8.out (kept_trans Kk15.out (kept_trans Kk23.out (kept_trans Kk30.out (kept_trans Kk36.out Kk1147.out))))) hW1161 (by have := HG1153.out; have := Z0.out; omega))
          have KB1163 := Lib.hid (kept_set KV1148.out hW1161 HG1153.out)
          have KB1164 := Lib.hid (kept_set Kk1147.out hW1161 HD1155.out)
          have HL1165 : Hid (LiesQ W1161 (Par w V0.heap.size (g140 :: (g324 :: [])) P) g.a.kids _) := par_set (par_grow HLga.out KV1148.out (List.forall_mem_cons.2 ⟨(Or.inr (Nat.le_trans (Below.size (kept_trans Kk15.out (kept_trans Kk23.out (kept_trans Kk30.out Kk36.out)))) HP1157.out)), (List.forall_mem_cons.2 ⟨(Or.inr (Nat.le_trans (Below.size (kept_trans Kk15.out (kept_trans Kk23.out (kept_trans Kk30.out Kk36.out)))) HP1154.out)), (fun _ h => nomatch h)⟩)⟩)) hW1161 (List.mem_cons_of_mem _ (List.mem_cons_self ..)) (by have := HG1153.out; have := Z0.out; omega)
          have HL1166 : Hid (LiesQ W1161 (Par w V0.heap.size (g140 :: (g324 :: [])) P) g.c.kids _) := par_set (par_grow HLgc.out KV1148.out (List.forall_mem_cons.2 ⟨(Or.inr (Nat.le_trans (Below.size (kept_trans Kk15.out (kept_trans Kk23.out (kept_trans Kk30.out Kk36.out)))) HP1157.out)), (List.forall_mem_cons.2 ⟨(Or.inr (Nat.le_trans (Below.size (kept_trans Kk15.out (kept_trans Kk23.out (kept_trans Kk30.out Kk36.out)))) HP1154.out)), (fun _ h => nomatch h)⟩)⟩)) hW1161 (List.mem_cons_of_mem _ (List.mem_cons_self ..)) (by have := HG1153.out; have := Z0.out; omega)
          have HL1167 : Hid (LiesQ W1161 (Par w V0.heap.size (g140 :: (g324 :: [])) P) g.b.kids _) := par_set (par_grow HLgb.out KV1148.out (List.forall_mem_cons.2 ⟨(Or.inr (Nat.le_trans (Below.size (kept_trans Kk15.out (kept_trans Kk23.out (kept_trans Kk30.out Kk36.out)))) HP1157.out)), (List.forall_mem_cons.2 ⟨(Or.inr (Nat.le_trans (Below.size (kept_trans Kk15.out (kept_trans Kk23.out (kept_trans Kk30.out Kk36.out)))) HP1154.out)), (fun _ h => nomatch h)⟩)⟩)) hW1161 (List.mem_cons_of_mem _ (List.mem_cons_self ..)) (by have := HG1153.out; have := Z0.out; omega)
          have HL1168 : Hid (LiesQ W1161 (Par w V0.heap.size (g140 :: (g324 :: [])) P) g.d.kids _) := par_set (par_grow HLgd.out KV1148.out (List.forall_mem_cons.2 ⟨(Or.inr (Nat.le_trans (Below.size (kept_trans Kk15.out (kept_trans Kk23.out (kept_trans Kk30.out Kk36.out)))) HP1157.out)), (List.forall_mem_cons.2 ⟨(Or.inr (Nat.le_trans (Below.size (kept_trans Kk15.out (kept_trans Kk23.out (kept_trans Kk30.out Kk36.out)))) HP1154.out)), (fun _ h => nomatch h)⟩)⟩)) hW1161 (List.mem_cons_of_mem _ (List.mem_cons_self ..)) (by have := HG1153.out; have := Z0.out; omega)
          have HL1169 : Hid (LiesQ W1161 (Par w V0.heap.size (g140 :: (g324 :: [])) P) g.e.kids _) := par_set (par_grow HLge.out KV1148.out (List.forall_mem_cons.2 ⟨(Or.inr (Nat.le_trans (Below.size (kept_trans Kk15.out (kept_trans Kk23.out (kept_trans Kk30.out Kk36.out)))) HP1157.out)), (List.forall_mem_cons.2 ⟨(Or.inr (Nat.le_trans (Below.size (kept_trans Kk15.out (kept_trans Kk23.out (kept_trans Kk30.out Kk36.out)))) HP1154.out)), (fun _ h => nomatch h)⟩)⟩)) hW1161 (List.mem_cons_of_mem _ (List.mem_cons_self ..)) (by have := HG1153.out; have := Z0.out; omega)
          have HL1170 : Hid (LiesQ W1161 (Par w V0.heap.size (g140 :: (g324 :: [])) P) g.f.kids _) := par_set (par_grow HLgf.out KV1148.out (List.forall_mem_cons.2 ⟨(Or.inr (Nat.le_trans (Below.size (kept_trans Kk15.out (kept_trans Kk23.out (kept_trans Kk30.out Kk36.out)))) HP1157.out)), (List.forall_mem_cons.2 ⟨(Or.inr (Nat.le_trans (Below.size (kept_trans Kk15.out (kept_trans Kk23.out (kept_trans Kk30.out Kk36.out)))) HP1154.out)), (fun _ h => nomatch h)⟩)⟩)) hW1161 (List.mem_cons_of_mem _ (List.mem_cons_self ..)) (by have := HG1153.out; have := Z0.out; omega)
          have HL1171 : Hid (LiesQ W1161 (Par w V0.heap.size (g140 :: (g324 :: [])) P) x.kids _) := par_set (par_grow HLx.out KV1148.out (List.forall_mem_cons.2 ⟨(Or.inr (Nat.le_trans (Below.size (kept_trans Kk15.out (kept_trans Kk23.out (kept_trans Kk30.out Kk36.out)))) HP1157.out)), (List.forall_mem_cons.2 ⟨(Or.inr (Nat.le_trans (Below.size (kept_trans Kk15.out (kept_trans Kk23.out (kept_trans Kk30.out Kk36.out)))) HP1154.out)), (fun _ h => nomatch h)⟩)⟩)) hW1161 (List.mem_cons_of_mem _ (List.mem_cons_self ..)) (by have := HG1153.out; have := Z0.out; omega)
          have HL1172 : Hid (LiesQ W1161 (Par w V0.heap.size (g140 :: (g324 :: [])) P) y.kids _) := par_set (par_grow HLy.out KV1148.out (List.forall_mem_cons.2 ⟨(Or.inr (Nat.le_trans (Below.size (kept_trans Kk15.out (kept_trans Kk23.out (kept_trans Kk30.out Kk36.out)))) HP1157.out)), (List.forall_mem_cons.2 ⟨(Or.inr (Nat.le_trans (Below.size (kept_trans Kk15.out (kept_trans Kk23.out (kept_trans Kk30.out Kk36.out)))) HP1154.out)), (fun _ h => nomatch h)⟩)⟩)) hW1161 (List.mem_cons_of_mem _ (List.mem_cons_self ..)) (by have := HG1153.out; have := Z0.out; omega)
          have HL1173 : Hid (LiesQ W1161 (Par w V0.heap.size (g140 :: (g324 :: [])) P) z.kids _) := par_set (par_grow HLz.out KV1148.out (List.forall_mem_cons.2 ⟨(Or.inr (Nat.le_trans (Below.size (kept_trans Kk15.out (kept_trans Kk23.out (kept_trans Kk30.out Kk36.out)))) HP1157.out)), (List.forall_mem_cons.2 ⟨(Or.inr (Nat.le_trans (Below.size (kept_trans Kk15.out (kept_trans Kk23.out (kept_trans Kk30.out Kk36.out)))) HP1154.out)), (fun _ h => nomatch h)⟩)⟩)) hW1161 (List.mem_cons_of_mem _ (List.mem_cons_self ..)) (by have := HG1153.out; have := Z0.out; omega)
          have HL1174 : Hid (LiesQ W1161 (Par w V0.heap.size (g140 :: (g324 :: [])) P) [x, y, z] _) := par_set (par_grow HR24.out (kept_trans Kk30.out (kept_trans Kk36.out Kk1147.out)) (List.forall_mem_cons.2 ⟨(Or.inr (Nat.le_trans (Below.size (kept_trans Kk30.out Kk36.out)) HP1157.out)), (List.forall_mem_cons.2 ⟨(Or.inr (Nat.le_trans (Below.size (kept_trans Kk30.out Kk36.out)) HP1154.out)), (fun _ h => nomatch h)⟩)⟩)) hW1161 (List.mem_cons_of_mem _ (List.mem_cons_self ..)) (by have := HG1153.out; have := Z0.out; omega)
          have HL1175 : Hid (LiesQ W1161 (Par w V0.heap.size (g140 :: (g324 :: [])) P) U902.kids _) := par_set HL1149.out hW1161 (List.mem_cons_of_mem _ (List.mem_cons_self ..)) (by have := HG1153.out; have := Z0.out; omega)
          have HL1176 : Hid (LiesQ W1161 (Par w V0.heap.size (g140 :: (g324 :: [])) P) U1061.kids _) := par_set HL1150.out hW1161 (List.mem_cons_of_mem _ (List.mem_cons_self ..)) (by have := HG1153.out; have := Z0.out; omega)
          have XL1177 := Lib.hid (xlt_set XL1160.out hW1161)
          have HX1178 := Lib.hid (blk_other HX1152.out hW1161 (by have := AP1159.out; omega))
          have HX1179 := Lib.hid (blk_same HX1151.out hW1161)
          clear hW1161
          clear hHeld
          refine hK.out _ _ (sees_kept _ KB1164.out) (fun hHeld => ?_)
          clear hK K
          (try simp only [Act.put])
          refine wpAnyH_ready (rs := [13]) (by kernel_rfl) (by simp) ?_
          refine AllReadyH.cons (o := rcLamr3_13) rfl (fun K hK => ?_) ?_
          · unfold rcLamr3_13
            refine step_store_part rfl 32 (.tmp 10) (.tmp 32) rfl (g140) 0 #[.int .i64 U1061.k, .int .i64 U1061.i, .int .i64 U1061.j, .int .i64 U1061.n, (.slice a1058 U1061.kids.length c1059)] rfl rfl 32 size_term (row_ok rfl) _ #[.int .i64 U1061.k, .int .i64 U1061.i, .int .i64 U1061.j, .int .i64 U1061.n, (.slice a1058 U1061.kids.length c1059)] HX1178.out rfl (Nat.le_of_ble_eq_true rfl) ?_
            intro W1180 hW1180
            have KB1181 := Lib.hid (kept_set KB1162.out hW1180 (by have := HG1156.out; have := Z0.out; omega))
            have KB1182 := Lib.hid (kept_set KB1163.out hW1180 HG1156.out)
            have KB1183 := Lib.hid (kept_set KB1164.out hW1180 HD1158.out)
            have HL1184 : Hid (LiesQ W1180 (Par w V0.heap.size (g140 :: (g324 :: [])) P) g.a.kids _) := par_set HL1165.out hW1180 (List.mem_cons_self ..) (by have := HG1156.out; have := Z0.out; omega)
            have HL1185 : Hid (LiesQ W1180 (Par w V0.heap.size (g140 :: (g324 :: [])) P) g.c.kids _) := par_set HL1166.out hW1180 (List.mem_cons_self ..) (by have := HG1156.out; have := Z0.out; omega)
            have HL1186 : Hid (LiesQ W1180 (Par w V0.heap.size (g140 :: (g324 :: [])) P) g.b.kids _) := par_set HL1167.out hW1180 (List.mem_cons_self ..) (by have := HG1156.out; have := Z0.out; omega)
            have HL1187 : Hid (LiesQ W1180 (Par w V0.heap.size (g140 :: (g324 :: [])) P) g.d.kids _) := par_set HL1168.out hW1180 (List.mem_cons_self ..) (by have := HG1156.out; have := Z0.out; omega)
            have HL1188 : Hid (LiesQ W1180 (Par w V0.heap.size (g140 :: (g324 :: [])) P) g.e.kids _) := par_set HL1169.out hW1180 (List.mem_cons_self ..) (by have := HG1156.out; have := Z0.out; omega)
            have HL1189 : Hid (LiesQ W1180 (Par w V0.heap.size (g140 :: (g324 :: [])) P) g.f.kids _) := par_set HL1170.out hW1180 (List.mem_cons_self ..) (by have := HG1156.out; have := Z0.out; omega)
            have HL1190 : Hid (LiesQ W1180 (Par w V0.heap.size (g140 :: (g324 :: [])) P) x.kids _) := par_set HL1171.out hW1180 (List.mem_cons_self ..) (by have := HG1156.out; have := Z0.out; omega)
            have HL1191 : Hid (LiesQ W1180 (Par w V0.heap.size (g140 :: (g324 :: [])) P) y.kids _) := par_set HL1172.out hW1180 (List.mem_cons_self ..) (by have := HG1156.out; have := Z0.out; omega)
            have HL1192 : Hid (LiesQ W1180 (Par w V0.heap.size (g140 :: (g324 :: [])) P) z.kids _) := par_set HL1173.out hW1180 (List.mem_cons_self ..) (by have := HG1156.out; have := Z0.out; omega)
            have HL1193 : Hid (LiesQ W1180 (Par w V0.heap.size (g140 :: (g324 :: [])) P) [x, y, z] _) := par_set HL1174.out hW1180 (List.mem_cons_self ..) (by have := HG1156.out; have := Z0.out; omega)
            have HL1194 : Hid (LiesQ W1180 (Par w V0.heap.size (g140 :: (g324 :: [])) P) U902.kids _) := par_set HL1175.out hW1180 (List.mem_cons_self ..) (by have := HG1156.out; have := Z0.out; omega)
            have HL1195 : Hid (LiesQ W1180 (Par w V0.heap.size (g140 :: (g324 :: [])) P) U1061.kids _) := par_set HL1176.out hW1180 (List.mem_cons_self ..) (by have := HG1156.out; have := Z0.out; omega)
            have XL1196 := Lib.hid (xlt_set XL1177.out hW1180)
            have HX1197 := Lib.hid (blk_same HX1178.out hW1180)
            have HX1198 := Lib.hid (blk_other HX1179.out hW1180 (by have := AP1159.out; omega))
            clear hW1180
            clear hHeld
            refine hK.out _ _ (sees_kept _ KB1183.out) (fun hHeld => ?_)
            clear hK K
            (try simp only [Act.put])
            refine wpAnyH_done (by kernel_rfl) ?_ _
            clear hHeld
            have kvV0 : Sees V0 (w.heap.size + 4) W1180 := sees_kept _ KB1182.out
            have kvW1180 : Sees W1180 (w.heap.size + 4) W1180 := sees_kept _ (kept_refl _)
            go_wp2_with fail
            clear kvV0
            clear kvW1180
            obtain ⟨W1199, h1200⟩ : ∃ x, World.drew W1180 = x := ⟨_, rfl⟩
            have k1201 : Kept W1180 W1199 := by rw [← h1200]; exact kept_drew (kept_refl _)
            have Kk1202 := Lib.hid k1201
            clear k1201
            refine wp_region_held_drew (S := Sees W1199 (w.heap.size + 4)) (by kernel_rfl) ?_ (fun hHeld => ?_)
            · (try dsimp only)
              rw [h1200]
              exact sees_kept _ (kept_refl _)
            rw [h1200] at hHeld ⊢
            clear h1200
            refine take_at 0 33 rcLamr4_0 (v := ?_) (Or.inl ⟨by rfl, ?_⟩) ?_
            rotate_left 1
            · ((intro w hSw; (try dsimp only at hSw); unfold rcLamr4_0; go_simp) <;> with_reducible rfl)
            (try simp only [Act.put, List.setIfInBounds_toArray, List.set_cons_zero, List.set_cons_succ])
            refine take_at 1 34 rcLamr4_1 (v := ?_) (Or.inl ⟨by rfl, ?_⟩) ?_
            rotate_left 1
            · ((intro w hSw; (try dsimp only at hSw); have qV0 := sees_of (kept_trans KB1182.out Kk1202.out) hSw; have qW1180 := sees_of Kk1202.out hSw; unfold rcLamr4_1; go_simp) <;> with_reducible rfl)
            (try simp only [Act.put, List.setIfInBounds_toArray, List.set_cons_zero, List.set_cons_succ])
            refine take_at 2 35 rcLamr4_2 (v := ?_) (Or.inl ⟨by rfl, ?_⟩) ?_
            rotate_left 1
            · ((intro w hSw; (try dsimp only at hSw); unfold rcLamr4_2; go_simp) <;> with_reducible rfl)
            (try simp only [Act.put, List.setIfInBounds_toArray, List.set_cons_zero, List.set_cons_succ])
            refine take_at 3 36 rcLamr4_3 (v := ?_) (Or.inl ⟨by rfl, ?_⟩) ?_
            rotate_left 1
            · ((intro w hSw; (try dsimp only at hSw); have qV0 := sees_of (kept_trans KB1182.out Kk1202.out) hSw; have qW1180 := sees_of Kk1202.out hSw; unfold rcLamr4_3; go_simp) <;> with_reducible rfl)
            (try simp only [Act.put, List.setIfInBounds_toArray, List.set_cons_zero, List.set_cons_succ])
            refine take_at 4 37 rcLamr4_4 (v := ?_) (Or.inl ⟨by rfl, ?_⟩) ?_
            rotate_left 1
            · ((intro w hSw; (try dsimp only at hSw); unfold rcLamr4_4; go_simp) <;> with_reducible rfl)
            (try simp only [Act.put, List.setIfInBounds_toArray, List.set_cons_zero, List.set_cons_succ])
            refine take_at 5 38 rcLamr4_5 (v := ?_) (Or.inl ⟨by rfl, ?_⟩) ?_
            rotate_left 1
            · ((intro w hSw; (try dsimp only at hSw); unfold rcLamr4_5; go_simp) <;> with_reducible rfl)
            (try simp only [Act.put, List.setIfInBounds_toArray, List.set_cons_zero, List.set_cons_succ])
            refine take_at 6 39 rcLamr4_6 (yields_part (w.heap.size) 2 32 (.tmp 38) #[.int .i64 g.a.k, .int .i64 g.a.i, .int .i64 g.a.j, .int .i64 g.a.n, (.slice aga g.a.kids.length cga)] du (fun _ h => sees_blk Hx1.out (by have := Z0.out; omega) (sees_of (kept_trans KB1182.out Kk1202.out) h)) (by rfl) rfl (by rfl) (by rfl) hu1 (by cases du <;> first | rfl | exact hu2) size_term) ?_
            (try simp only [Act.put, List.setIfInBounds_toArray, List.set_cons_zero, List.set_cons_succ])
            refine take_at 7 40 rcLamr4_7 (v := ?_) (Or.inl ⟨by rfl, ?_⟩) ?_
            rotate_left 1
            · ((intro w hSw; (try dsimp only at hSw); unfold rcLamr4_7; go_simp) <;> with_reducible rfl)
            (try simp only [Act.put, List.setIfInBounds_toArray, List.set_cons_zero, List.set_cons_succ])
            refine take_at 8 41 rcLamr4_8 (yields_part (w.heap.size) 12 32 (.tmp 40) #[.int .i64 g.b.k, .int .i64 g.b.i, .int .i64 g.b.j, .int .i64 g.b.n, (.slice agb g.b.kids.length cgb)] du (fun _ h => sees_blk Hx1.out (by have := Z0.out; omega) (sees_of (kept_trans KB1182.out Kk1202.out) h)) (by rfl) rfl (by rfl) (by rfl) hu1 (by cases du <;> first | rfl | exact hu2) size_term) ?_
            (try simp only [Act.put, List.setIfInBounds_toArray, List.set_cons_zero, List.set_cons_succ])
            refine take_at 11 44 rcLamr4_11 (v := ?_) (Or.inl ⟨by rfl, ?_⟩) ?_
            rotate_left 1
            · ((intro w hSw; (try dsimp only at hSw); unfold rcLamr4_11; go_simp) <;> with_reducible rfl)
            (try simp only [Act.put, List.setIfInBounds_toArray, List.set_cons_zero, List.set_cons_succ])
            refine take_at 12 45 rcLamr4_12 (yields_part (w.heap.size) 7 32 (.tmp 44) #[.int .i64 g.c.k, .int .i64 g.c.i, .int .i64 g.c.j, .int .i64 g.c.n, (.slice agc g.c.kids.length cgc)] du (fun _ h => sees_blk Hx1.out (by have := Z0.out; omega) (sees_of (kept_trans KB1182.out Kk1202.out) h)) (by rfl) rfl (by rfl) (by rfl) hu1 (by cases du <;> first | rfl | exact hu2) size_term) ?_
            (try simp only [Act.put, List.setIfInBounds_toArray, List.set_cons_zero, List.set_cons_succ])
            refine take_at 13 46 rcLamr4_13 (v := ?_) (Or.inl ⟨by rfl, ?_⟩) ?_
            rotate_left 1
            · ((intro w hSw; (try dsimp only at hSw); unfold rcLamr4_13; go_simp) <;> with_reducible rfl)
            (try simp only [Act.put, List.setIfInBounds_toArray, List.set_cons_zero, List.set_cons_succ])
            refine take_at 14 47 rcLamr4_14 (yields_part (w.heap.size) 17 32 (.tmp 46) #[.int .i64 g.d.k, .int .i64 g.d.i, .int .i64 g.d.j, .int .i64 g.d.n, (.slice agd g.d.kids.length cgd)] du (fun _ h => sees_blk Hx1.out (by have := Z0.out; omega) (sees_of (kept_trans KB1182.out Kk1202.out) h)) (by rfl) rfl (by rfl) (by rfl) hu1 (by cases du <;> first | rfl | exact hu2) size_term) ?_
            (try simp only [Act.put, List.setIfInBounds_toArray, List.set_cons_zero, List.set_cons_succ])
            refine take_at 17 50 rcLamr4_17 (yields_part (g324) 0 32 (.tmp 9) #[.int .i64 U902.k, .int .i64 U902.i, .int .i64 U902.j, .int .i64 U902.n, (.slice a899 U902.kids.length c900)] du (fun _ h => sees_blk HX1198.out (by have := HG1153.out; have := Z0.out; omega) (sees_of Kk1202.out h)) (by rfl) rfl (by rfl) (by rfl) hu1 (by cases du <;> first | rfl | exact hu2) size_term) ?_
            (try simp only [Act.put, List.setIfInBounds_toArray, List.set_cons_zero, List.set_cons_succ])
            refine take_at 18 51 rcLamr4_18 (yields_part (g140) 0 32 (.tmp 10) #[.int .i64 U1061.k, .int .i64 U1061.i, .int .i64 U1061.j, .int .i64 U1061.n, (.slice a1058 U1061.kids.length c1059)] du (fun _ h => sees_blk HX1197.out (by have := HG1156.out; have := Z0.out; omega) (sees_of Kk1202.out h)) (by rfl) rfl (by rfl) (by rfl) hu1 (by cases du <;> first | rfl | exact hu2) size_term) ?_
            (try simp only [Act.put, List.setIfInBounds_toArray, List.set_cons_zero, List.set_cons_succ])
            refine take_at 19 52 rcLamr4_19 (yields_part (w.heap.size) 0 69 (.tmp 4) #[.int .i64 g.i, .int .i64 g.j, .int .i64 g.a.k, .int .i64 g.a.i, .int .i64 g.a.j, .int .i64 g.a.n, (.slice aga g.a.kids.length cga), .int .i64 g.c.k, .int .i64 g.c.i, .int .i64 g.c.j, .int .i64 g.c.n, (.slice agc g.c.kids.length cgc), .int .i64 g.b.k, .int .i64 g.b.i, .int .i64 g.b.j, .int .i64 g.b.n, (.slice agb g.b.kids.length cgb), .int .i64 g.d.k, .int .i64 g.d.i, .int .i64 g.d.j, .int .i64 g.d.n, (.slice agd g.d.kids.length cgd), .int .i64 g.e.k, .int .i64 g.e.i, .int .i64 g.e.j, .int .i64 g.e.n, (.slice age g.e.kids.length cge), .int .i64 g.f.k, .int .i64 g.f.i, .int .i64 g.f.j, .int .i64 g.f.n, (.slice agf g.f.kids.length cgf)] dq (fun _ h => sees_blk Hx1.out (by have := Z0.out; omega) (sees_of (kept_trans KB1182.out Kk1202.out) h)) (by rfl) rfl (by rfl) (by rfl) dq1 (by cases dq <;> first | rfl | exact dq2) (by kernel_rfl)) ?_
            (try simp only [Act.put, List.setIfInBounds_toArray, List.set_cons_zero, List.set_cons_succ])
            refine take_at 20 53 rcLamr4_20 (yields_part (g324) 0 32 (.tmp 9) #[.int .i64 U902.k, .int .i64 U902.i, .int .i64 U902.j, .int .i64 U902.n, (.slice a899 U902.kids.length c900)] du (fun _ h => sees_blk HX1198.out (by have := HG1153.out; have := Z0.out; omega) (sees_of Kk1202.out h)) (by rfl) rfl (by rfl) (by rfl) hu1 (by cases du <;> first | rfl | exact hu2) size_term) ?_
            (try simp only [Act.put, List.setIfInBounds_toArray, List.set_cons_zero, List.set_cons_succ])
            refine take_at 21 54 rcLamr4_21 (yields_part (g140) 0 32 (.tmp 10) #[.int .i64 U1061.k, .int .i64 U1061.i, .int .i64 U1061.j, .int .i64 U1061.n, (.slice a1058 U1061.kids.length c1059)] du (fun _ h => sees_blk HX1197.out (by have := HG1156.out; have := Z0.out; omega) (sees_of Kk1202.out h)) (by rfl) rfl (by rfl) (by rfl) hu1 (by cases du <;> first | rfl | exact hu2) size_term) ?_
            (try simp only [Act.put, List.setIfInBounds_toArray, List.set_cons_zero, List.set_cons_succ])
            refine take_at 22 55 rcLamr4_22 (yields_part (w.heap.size + 3) 0 32 (.tmp 7) #[.int .i64 z.k, .int .i64 z.i, .int .i64 z.j, .int .i64 z.n, (.slice az z.kids.length cz)] du (fun _ h => sees_blk Hx4.out (by have := Z0.out; omega) (sees_of (kept_trans KB1182.out Kk1202.out) h)) (by rfl) rfl (by rfl) (by rfl) hu1 (by cases du <;> first | rfl | exact hu2) size_term) ?_
            (try simp only [Act.put, List.setIfInBounds_toArray, List.set_cons_zero, List.set_cons_succ])
            apply (via_joinCTACCTACC (K := fun W1474 g1216 U1229 a1226 c1227 g1236 U1471 a1468 c1469 g1478 => (Kept W1199 W1474) ∧ (nodeT 13 [g.a, g.b] = U1229) ∧ (nodeT 13 [g.c, g.d] = U1471) ∧ (LiesQ W1474 (Par w V0.heap.size (g140 :: (g324 :: [])) P) U1229.kids (.slice a1226 U1229.kids.length c1227)) ∧ (LiesQ W1474 (Par w V0.heap.size (g140 :: (g324 :: [])) P) U1471.kids (.slice a1468 U1471.kids.length c1469)) ∧ (LiesQ W1474 (Par w V0.heap.size (g140 :: (g324 :: [])) P) ([U902, U1061, z]) (.slice (some ⟨g1478, 0, none⟩) 3 3))))
            intro HJj1210
            apply (via_joinCTACCC (K := fun w1426 g1216 U1433 a1430 c1431 g1363 g1269 => (Kept W1199 w1426) ∧ (nodeT 13 [g.a, g.b] = U1433) ∧ (LiesQ w1426 (Par w V0.heap.size (g140 :: (g324 :: [])) P) U1433.kids (.slice a1430 U1433.kids.length c1431)) ∧ (LiesQ w1426 (Par w V0.heap.size (g140 :: (g324 :: [])) P) ([g.c, g.d]) (.slice (some ⟨g1363, 0, none⟩) 2 2)) ∧ (LiesQ w1426 (Par w V0.heap.size (g140 :: (g324 :: [])) P) ([U902, U1061, z]) (.slice (some ⟨g1269, 0, none⟩) 3 3))))
            intro HJj1209
            apply (via_joinCTACC (K := fun W1232 g1216 U1229 a1226 c1227 g1236 => (Kept W1199 W1232) ∧ (nodeT 13 [g.a, g.b] = U1229) ∧ (LiesQ W1232 (Par w V0.heap.size (g140 :: (g324 :: [])) P) U1229.kids (.slice a1226 U1229.kids.length c1227)) ∧ (LiesQ W1232 (Par w V0.heap.size (g140 :: (g324 :: [])) P) ([g.c, g.d]) (.slice (some ⟨g1236, 0, none⟩) 2 2))))
            intro HJj1208
            apply (via_joinCTACC (K := fun W1243 g1216 U1229 a1226 c1227 g1247 => (Kept W1199 W1243) ∧ (nodeT 13 [g.a, g.b] = U1229) ∧ (LiesQ W1243 (Par w V0.heap.size (g140 :: (g324 :: [])) P) U1229.kids (.slice a1226 U1229.kids.length c1227)) ∧ (LiesQ W1243 (Par w V0.heap.size (g140 :: (g324 :: [])) P) ([U902, U1061, z]) (.slice (some ⟨g1247, 0, none⟩) 3 3))))
            intro HJj1207
            apply (via_joinCCC (K := fun W1359 g1216 g1363 g1269 => (Kept W1199 W1359) ∧ (LiesQ W1359 (Par w V0.heap.size (g140 :: (g324 :: [])) P) ([g.a, g.b]) (.slice (some ⟨g1216, 0, none⟩) 2 2)) ∧ (LiesQ W1359 (Par w V0.heap.size (g140 :: (g324 :: [])) P) ([g.c, g.d]) (.slice (some ⟨g1363, 0, none⟩) 2 2)) ∧ (LiesQ W1359 (Par w V0.heap.size (g140 :: (g324 :: [])) P) ([U902, U1061, z]) (.slice (some ⟨g1269, 0, none⟩) 3 3))))
            intro HJj1206
            apply (via_joinCC (K := fun W1254 g1216 g1258 => (Kept W1199 W1254) ∧ (LiesQ W1254 (Par w V0.heap.size (g140 :: (g324 :: [])) P) ([g.a, g.b]) (.slice (some ⟨g1216, 0, none⟩) 2 2)) ∧ (LiesQ W1254 (Par w V0.heap.size (g140 :: (g324 :: [])) P) ([g.c, g.d]) (.slice (some ⟨g1258, 0, none⟩) 2 2))))
            intro HJj1205
            apply (via_joinCC (K := fun W1298 g1280 g1302 => (Kept W1199 W1298) ∧ (LiesQ W1298 (Par w V0.heap.size (g140 :: (g324 :: [])) P) ([g.c, g.d]) (.slice (some ⟨g1280, 0, none⟩) 2 2)) ∧ (LiesQ W1298 (Par w V0.heap.size (g140 :: (g324 :: [])) P) ([U902, U1061, z]) (.slice (some ⟨g1302, 0, none⟩) 3 3))))
            intro HJj1204
            apply (via_joinCC (K := fun W1265 g1216 g1269 => (Kept W1199 W1265) ∧ (LiesQ W1265 (Par w V0.heap.size (g140 :: (g324 :: [])) P) ([g.a, g.b]) (.slice (some ⟨g1216, 0, none⟩) 2 2)) ∧ (LiesQ W1265 (Par w V0.heap.size (g140 :: (g324 :: [])) P) ([U902, U1061, z]) (.slice (some ⟨g1269, 0, none⟩) 3 3))))
            intro HJj1203
            · refine wpAnyH_ready (rs := [9, 15, 23]) (by kernel_rfl) (by simp) ?_
              refine AllReadyH.cons (o := rcLamr4_9) rfl (fun K hK => ?_) ?_
              · unfold rcLamr4_9
                go_simp
                refine at_K (fun W1212 hW1212 => ?_)
                obtain ⟨g1216, hg1217, Kk1214, Hx1213, Hz1215, KV1218, HN1219⟩ := alloc1v (kept_trans KB1182.out Kk1202.out) hW1212
                rw [hg1217]
                clear hW1212
                have kq1221 := (kept_trans Kk1202.out Kk1214.out)
                have HR1220 := Lib.hid (q_row2 (Q := (Par w V0.heap.size (g140 :: (g324 :: [])) P)) Hx1213.out Gg.out.2.2.1 (HL1184.out.later kq1221) Gg.out.2.2.2.2.1 (HL1186.out.later kq1221) (par_newg HN1219.out (fun h => Nat.lt_irrefl _ (Nat.lt_of_lt_of_le ((xlt_later XL1196.out Kk1202.out) _ h) (Nat.le_of_eq hg1217)))))
                clear kq1221
                clear hg1217
                (try clear hHeld)
                refine hK.out _ _ (sees_kept _ Kk1214.out) (fun hHeld => ?_)
                clear hK K
                (try simp only [Act.put, List.setIfInBounds_toArray, List.set_cons_zero, List.set_cons_succ])
                refine wpAnyH_ready (rs := [10, 15, 23]) (by kernel_rfl) (by simp) ?_
                refine AllReadyH.cons (o := rcLamr4_10) rfl (fun K hK => ?_) ?_
                · unfold rcLamr4_10
                  go_simp
                  refine (rnode_any 13 [g.a, g.b] (Par w V0.heap.size (g140 :: (g324 :: [])) P) _ _ (show I64 13 from by unfold I64; decide) HR1220.out (Nat.le_of_ble_eq_true rfl)).mono ?_
                  obtain ⟨U1229, hU1229⟩ : ∃ qu, nodeT 13 [g.a, g.b] = qu := ⟨_, rfl⟩
                  rw [hU1229]
                  have HU1229 := Lib.hid hU1229
                  clear hU1229
                  rintro e w1222 ⟨s1224, rfl, hl1225, k1223⟩
                  obtain ⟨a1226, c1227, S1228, rfl, -⟩ := hl1225.out
                  have Kk1230 := Lib.hid k1223
                  clear k1223
                  have Hhl1225 : Hid (LiesQ w1222 (Par w V0.heap.size (g140 :: (g324 :: [])) P) U1229.kids _) := par_give hl1225 (Below.size KV1218.out) (xlt_later XL1196.out (kept_trans Kk1202.out Kk1214.out))
                  clear hl1225
                  (try clear hHeld)
                  refine hK.out _ _ (sees_kept _ (kept_trans Kk1214.out Kk1230.out)) (fun hHeld => ?_)
                  clear hK K
                  (try simp only [Act.put, List.setIfInBounds_toArray, List.set_cons_zero, List.set_cons_succ])
                  refine wpAnyH_ready (rs := [15, 23]) (by kernel_rfl) (by simp) ?_
                  refine AllReadyH.cons (o := rcLamr4_15) rfl (fun K hK => ?_) ?_
                  · unfold rcLamr4_15
                    go_simp
                    refine at_K (fun W1232 hW1232 => ?_)
                    obtain ⟨g1236, hg1237, Kk1234, Hx1233, Hz1235, KV1238, HN1239⟩ := alloc1v (kept_trans KB1182.out (kept_trans Kk1202.out (kept_trans Kk1214.out Kk1230.out))) hW1232
                    rw [hg1237]
                    clear hW1232
                    have kq1241 := (kept_trans Kk1202.out (kept_trans Kk1214.out (kept_trans Kk1230.out Kk1234.out)))
                    have HR1240 := Lib.hid (q_row2 (Q := (Par w V0.heap.size (g140 :: (g324 :: [])) P)) Hx1233.out Gg.out.2.2.2.1 (HL1185.out.later kq1241) Gg.out.2.2.2.2.2.1 (HL1187.out.later kq1241) (par_newg HN1239.out (fun h => Nat.lt_irrefl _ (Nat.lt_of_lt_of_le ((xlt_later XL1196.out (kept_trans Kk1202.out (kept_trans Kk1214.out Kk1230.out))) _ h) (Nat.le_of_eq hg1237)))))
                    clear kq1241
                    clear hg1237
                    (try clear hHeld)
                    refine hK.out _ _ (sees_kept _ (kept_trans Kk1214.out (kept_trans Kk1230.out Kk1234.out))) (fun hHeld => ?_)
                    clear hK K
                    (try simp only [Act.put, List.setIfInBounds_toArray, List.set_cons_zero, List.set_cons_succ])
                    exact HJj1208 W1232 g1216 U1229 a1226 c1227 g1236 ⟨(kept_trans Kk1214.out (kept_trans Kk1230.out Kk1234.out)), HU1229.out, (Hhl1225.out.later Kk1234.out), HR1240.out⟩
                  refine AllReadyH.cons (o := rcLamr4_23) rfl (fun K hK => ?_) ?_
                  · unfold rcLamr4_23
                    go_simp
                    refine at_K (fun W1243 hW1243 => ?_)
                    obtain ⟨g1247, hg1248, Kk1245, Hx1244, Hz1246, KV1249, HN1250⟩ := alloc1v (kept_trans KB1182.out (kept_trans Kk1202.out (kept_trans Kk1214.out Kk1230.out))) hW1243
                    rw [hg1248]
                    clear hW1243
                    have kq1252 := (kept_trans Kk1202.out (kept_trans Kk1214.out (kept_trans Kk1230.out Kk1245.out)))
                    have HR1251 := Lib.hid (q_row3 (Q := (Par w V0.heap.size (g140 :: (g324 :: [])) P)) Hx1244.out (by rw [← HU902.out]; exact (node_fine (show I64 14 from by unfold I64; decide))) (HL1194.out.later kq1252) (by rw [← HU1061.out]; exact (node_fine (show I64 14 from by unfold I64; decide))) (HL1195.out.later kq1252) Gz.out (HL1192.out.later kq1252) (par_newg HN1250.out (fun h => Nat.lt_irrefl _ (Nat.lt_of_lt_of_le ((xlt_later XL1196.out (kept_trans Kk1202.out (kept_trans Kk1214.out Kk1230.out))) _ h) (Nat.le_of_eq hg1248)))))
                    clear kq1252
                    clear hg1248
                    (try clear hHeld)
                    refine hK.out _ _ (sees_kept _ (kept_trans Kk1214.out (kept_trans Kk1230.out Kk1245.out))) (fun hHeld => ?_)
                    clear hK K
                    (try simp only [Act.put, List.setIfInBounds_toArray, List.set_cons_zero, List.set_cons_succ])
                    exact HJj1207 W1243 g1216 U1229 a1226 c1227 g1247 ⟨(kept_trans Kk1214.out (kept_trans Kk1230.out Kk1245.out)), HU1229.out, (Hhl1225.out.later Kk1245.out), HR1251.out⟩
                  exact AllReadyH.nil
                refine AllReadyH.cons (o := rcLamr4_15) rfl (fun K hK => ?_) ?_
                · unfold rcLamr4_15
                  go_simp
                  refine at_K (fun W1254 hW1254 => ?_)
                  obtain ⟨g1258, hg1259, Kk1256, Hx1255, Hz1257, KV1260, HN1261⟩ := alloc1v KV1218.out hW1254
                  rw [hg1259]
                  clear hW1254
                  have kq1263 := (kept_trans Kk1202.out (kept_trans Kk1214.out Kk1256.out))
                  have HR1262 := Lib.hid (q_row2 (Q := (Par w V0.heap.size (g140 :: (g324 :: [])) P)) Hx1255.out Gg.out.2.2.2.1 (HL1185.out.later kq1263) Gg.out.2.2.2.2.2.1 (HL1187.out.later kq1263) (par_newg HN1261.out (fun h => Nat.lt_irrefl _ (Nat.lt_of_lt_of_le ((xlt_later XL1196.out (kept_trans Kk1202.out Kk1214.out)) _ h) (Nat.le_of_eq hg1259)))))
                  clear kq1263
                  clear hg1259
                  (try clear hHeld)
                  refine hK.out _ _ (sees_kept _ (kept_trans Kk1214.out Kk1256.out)) (fun hHeld => ?_)
                  clear hK K
                  (try simp only [Act.put, List.setIfInBounds_toArray, List.set_cons_zero, List.set_cons_succ])
                  exact HJj1205 W1254 g1216 g1258 ⟨(kept_trans Kk1214.out Kk1256.out), (HR1220.out.later Kk1256.out), HR1262.out⟩
                refine AllReadyH.cons (o := rcLamr4_23) rfl (fun K hK => ?_) ?_
                · unfold rcLamr4_23
                  go_simp
                  refine at_K (fun W1265 hW1265 => ?_)
                  obtain ⟨g1269, hg1270, Kk1267, Hx1266, Hz1268, KV1271, HN1272⟩ := alloc1v KV1218.out hW1265
                  rw [hg1270]
                  clear hW1265
                  have kq1274 := (kept_trans Kk1202.out (kept_trans Kk1214.out Kk1267.out))
                  have HR1273 := Lib.hid (q_row3 (Q := (Par w V0.heap.size (g140 :: (g324 :: [])) P)) Hx1266.out (by rw [← HU902.out]; exact (node_fine (show I64 14 from by unfold I64; decide))) (HL1194.out.later kq1274) (by rw [← HU1061.out]; exact (node_fine (show I64 14 from by unfold I64; decide))) (HL1195.out.later kq1274) Gz.out (HL1192.out.later kq1274) (par_newg HN1272.out (fun h => Nat.lt_irrefl _ (Nat.lt_of_lt_of_le ((xlt_later XL1196.out (kept_trans Kk1202.out Kk1214.out)) _ h) (Nat.le_of_eq hg1270)))))
                  clear kq1274
                  clear hg1270
                  (try clear hHeld)
                  refine hK.out _ _ (sees_kept _ (kept_trans Kk1214.out Kk1267.out)) (fun hHeld => ?_)
                  clear hK K
                  (try simp only [Act.put, List.setIfInBounds_toArray, List.set_cons_zero, List.set_cons_succ])
                  exact HJj1203 W1265 g1216 g1269 ⟨(kept_trans Kk1214.out Kk1267.out), (HR1220.out.later Kk1267.out), HR1273.out⟩
                exact AllReadyH.nil
              refine AllReadyH.cons (o := rcLamr4_15) rfl (fun K hK => ?_) ?_
              · unfold rcLamr4_15
                go_simp
                refine at_K (fun W1276 hW1276 => ?_)
                obtain ⟨g1280, hg1281, Kk1278, Hx1277, Hz1279, KV1282, HN1283⟩ := alloc1v (kept_trans KB1182.out Kk1202.out) hW1276
                rw [hg1281]
                clear hW1276
                have kq1285 := (kept_trans Kk1202.out Kk1278.out)
                have HR1284 := Lib.hid (q_row2 (Q := (Par w V0.heap.size (g140 :: (g324 :: [])) P)) Hx1277.out Gg.out.2.2.2.1 (HL1185.out.later kq1285) Gg.out.2.2.2.2.2.1 (HL1187.out.later kq1285) (par_newg HN1283.out (fun h => Nat.lt_irrefl _ (Nat.lt_of_lt_of_le ((xlt_later XL1196.out Kk1202.out) _ h) (Nat.le_of_eq hg1281)))))
                clear kq1285
                clear hg1281
                (try clear hHeld)
                refine hK.out _ _ (sees_kept _ Kk1278.out) (fun hHeld => ?_)
                clear hK K
                (try simp only [Act.put, List.setIfInBounds_toArray, List.set_cons_zero, List.set_cons_succ])
                refine wpAnyH_ready (rs := [9, 23]) (by kernel_rfl) (by simp) ?_
                refine AllReadyH.cons (o := rcLamr4_9) rfl (fun K hK => ?_) ?_
                · unfold rcLamr4_9
                  go_simp
                  refine at_K (fun W1287 hW1287 => ?_)
                  obtain ⟨g1291, hg1292, Kk1289, Hx1288, Hz1290, KV1293, HN1294⟩ := alloc1v KV1282.out hW1287
                  rw [hg1292]
                  clear hW1287
                  have kq1296 := (kept_trans Kk1202.out (kept_trans Kk1278.out Kk1289.out))
                  have HR1295 := Lib.hid (q_row2 (Q := (Par w V0.heap.size (g140 :: (g324 :: [])) P)) Hx1288.out Gg.out.2.2.1 (HL1184.out.later kq1296) Gg.out.2.2.2.2.1 (HL1186.out.later kq1296) (par_newg HN1294.out (fun h => Nat.lt_irrefl _ (Nat.lt_of_lt_of_le ((xlt_later XL1196.out (kept_trans Kk1202.out Kk1278.out)) _ h) (Nat.le_of_eq hg1292)))))
                  clear kq1296
                  clear hg1292
                  (try clear hHeld)
                  refine hK.out _ _ (sees_kept _ (kept_trans Kk1278.out Kk1289.out)) (fun hHeld => ?_)
                  clear hK K
                  (try simp only [Act.put, List.setIfInBounds_toArray, List.set_cons_zero, List.set_cons_succ])
                  exact HJj1205 W1287 g1291 g1280 ⟨(kept_trans Kk1278.out Kk1289.out), HR1295.out, (HR1284.out.later Kk1289.out)⟩
                refine AllReadyH.cons (o := rcLamr4_23) rfl (fun K hK => ?_) ?_
                · unfold rcLamr4_23
                  go_simp
                  refine at_K (fun W1298 hW1298 => ?_)
                  obtain ⟨g1302, hg1303, Kk1300, Hx1299, Hz1301, KV1304, HN1305⟩ := alloc1v KV1282.out hW1298
                  rw [hg1303]
                  clear hW1298
                  have kq1307 := (kept_trans Kk1202.out (kept_trans Kk1278.out Kk1300.out))
                  have HR1306 := Lib.hid (q_row3 (Q := (Par w V0.heap.size (g140 :: (g324 :: [])) P)) Hx1299.out (by rw [← HU902.out]; exact (node_fine (show I64 14 from by unfold I64; decide))) (HL1194.out.later kq1307) (by rw [← HU1061.out]; exact (node_fine (show I64 14 from by unfold I64; decide))) (HL1195.out.later kq1307) Gz.out (HL1192.out.later kq1307) (par_newg HN1305.out (fun h => Nat.lt_irrefl _ (Nat.lt_of_lt_of_le ((xlt_later XL1196.out (kept_trans Kk1202.out Kk1278.out)) _ h) (Nat.le_of_eq hg1303)))))
                  clear kq1307
                  clear hg1303
                  (try clear hHeld)
                  refine hK.out _ _ (sees_kept _ (kept_trans Kk1278.out Kk1300.out)) (fun hHeld => ?_)
                  clear hK K
                  (try simp only [Act.put, List.setIfInBounds_toArray, List.set_cons_zero, List.set_cons_succ])
                  exact HJj1204 W1298 g1280 g1302 ⟨(kept_trans Kk1278.out Kk1300.out), (HR1284.out.later Kk1300.out), HR1306.out⟩
                exact AllReadyH.nil
              refine AllReadyH.cons (o := rcLamr4_23) rfl (fun K hK => ?_) ?_
              · unfold rcLamr4_23
                go_simp
                refine at_K (fun W1309 hW1309 => ?_)
                obtain ⟨g1313, hg1314, Kk1311, Hx1310, Hz1312, KV1315, HN1316⟩ := alloc1v (kept_trans KB1182.out Kk1202.out) hW1309
                rw [hg1314]
                clear hW1309
                have kq1318 := (kept_trans Kk1202.out Kk1311.out)
                have HR1317 := Lib.hid (q_row3 (Q := (Par w V0.heap.size (g140 :: (g324 :: [])) P)) Hx1310.out (by rw [← HU902.out]; exact (node_fine (show I64 14 from by unfold I64; decide))) (HL1194.out.later kq1318) (by rw [← HU1061.out]; exact (node_fine (show I64 14 from by unfold I64; decide))) (HL1195.out.later kq1318) Gz.out (HL1192.out.later kq1318) (par_newg HN1316.out (fun h => Nat.lt_irrefl _ (Nat.lt_of_lt_of_le ((xlt_later XL1196.out Kk1202.out) _ h) (Nat.le_of_eq hg1314)))))
                clear kq1318
                clear hg1314
                (try clear hHeld)
                refine hK.out _ _ (sees_kept _ Kk1311.out) (fun hHeld => ?_)
                clear hK K
                (try simp only [Act.put, List.setIfInBounds_toArray, List.set_cons_zero, List.set_cons_succ])
                refine wpAnyH_ready (rs := [9, 15]) (by kernel_rfl) (by simp) ?_
                refine AllReadyH.cons (o := rcLamr4_9) rfl (fun K hK => ?_) ?_
                · unfold rcLamr4_9
                  go_simp
                  refine at_K (fun W1320 hW1320 => ?_)
                  obtain ⟨g1324, hg1325, Kk1322, Hx1321, Hz1323, KV1326, HN1327⟩ := alloc1v KV1315.out hW1320
                  rw [hg1325]
                  clear hW1320
                  have kq1329 := (kept_trans Kk1202.out (kept_trans Kk1311.out Kk1322.out))
                  have HR1328 := Lib.hid (q_row2 (Q := (Par w V0.heap.size (g140 :: (g324 :: [])) P)) Hx1321.out Gg.out.2.2.1 (HL1184.out.later kq1329) Gg.out.2.2.2.2.1 (HL1186.out.later kq1329) (par_newg HN1327.out (fun h => Nat.lt_irrefl _ (Nat.lt_of_lt_of_le ((xlt_later XL1196.out (kept_trans Kk1202.out Kk1311.out)) _ h) (Nat.le_of_eq hg1325)))))
                  clear kq1329
                  clear hg1325
                  (try clear hHeld)
                  refine hK.out _ _ (sees_kept _ (kept_trans Kk1311.out Kk1322.out)) (fun hHeld => ?_)
                  clear hK K
                  (try simp only [Act.put, List.setIfInBounds_toArray, List.set_cons_zero, List.set_cons_succ])
                  exact HJj1203 W1320 g1324 g1313 ⟨(kept_trans Kk1311.out Kk1322.out), HR1328.out, (HR1317.out.later Kk1322.out)⟩
                refine AllReadyH.cons (o := rcLamr4_15) rfl (fun K hK => ?_) ?_
                · unfold rcLamr4_15
                  go_simp
                  refine at_K (fun W1331 hW1331 => ?_)
                  obtain ⟨g1335, hg1336, Kk1333, Hx1332, Hz1334, KV1337, HN1338⟩ := alloc1v KV1315.out hW1331
                  rw [hg1336]
                  clear hW1331
                  have kq1340 := (kept_trans Kk1202.out (kept_trans Kk1311.out Kk1333.out))
                  have HR1339 := Lib.hid (q_row2 (Q := (Par w V0.heap.size (g140 :: (g324 :: [])) P)) Hx1332.out Gg.out.2.2.2.1 (HL1185.out.later kq1340) Gg.out.2.2.2.2.2.1 (HL1187.out.later kq1340) (par_newg HN1338.out (fun h => Nat.lt_irrefl _ (Nat.lt_of_lt_of_le ((xlt_later XL1196.out (kept_trans Kk1202.out Kk1311.out)) _ h) (Nat.le_of_eq hg1336)))))
                  clear kq1340
                  clear hg1336
                  (try clear hHeld)
                  refine hK.out _ _ (sees_kept _ (kept_trans Kk1311.out Kk1333.out)) (fun hHeld => ?_)
                  clear hK K
                  (try simp only [Act.put, List.setIfInBounds_toArray, List.set_cons_zero, List.set_cons_succ])
                  exact HJj1204 W1331 g1335 g1313 ⟨(kept_trans Kk1311.out Kk1333.out), HR1339.out, (HR1317.out.later Kk1333.out)⟩
                exact AllReadyH.nil
              exact AllReadyH.nil
            · intro W1265 g1216 g1269 k1341
              obtain ⟨q1342, q1343, q1344⟩ := k1341
              have Kk1345 := Lib.hid q1342
              have KV1346 := Lib.hid (kept_trans (kept_trans KB1182.out Kk1202.out) Kk1345.out)
              have HL1347 := Lib.hid q1343
              have HL1348 := Lib.hid q1344
              clear q1342 q1343 q1344
              have hHeld : Sees W1199 (w.heap.size + 4) W1265 := sees_kept _ Kk1345.out
              refine wpAnyH_ready (rs := [10, 15]) (by kernel_rfl) (by simp) ?_
              refine AllReadyH.cons (o := rcLamr4_10) rfl (fun K hK => ?_) ?_
              · unfold rcLamr4_10
                go_simp
                refine (rnode_any 13 [g.a, g.b] (Par w V0.heap.size (g140 :: (g324 :: [])) P) _ _ (show I64 13 from by unfold I64; decide) HL1347.out (Nat.le_of_ble_eq_true rfl)).mono ?_
                obtain ⟨U1356, hU1356⟩ : ∃ qu, nodeT 13 [g.a, g.b] = qu := ⟨_, rfl⟩
                rw [hU1356]
                have HU1356 := Lib.hid hU1356
                clear hU1356
                rintro e w1349 ⟨s1351, rfl, hl1352, k1350⟩
                obtain ⟨a1353, c1354, S1355, rfl, -⟩ := hl1352.out
                have Kk1357 := Lib.hid k1350
                clear k1350
                have Hhl1352 : Hid (LiesQ w1349 (Par w V0.heap.size (g140 :: (g324 :: [])) P) U1356.kids _) := par_give hl1352 (Below.size KV1346.out) (xlt_later XL1196.out (kept_trans Kk1202.out Kk1345.out))
                clear hl1352
                (try clear hHeld)
                refine hK.out _ _ (sees_kept _ (kept_trans Kk1345.out Kk1357.out)) (fun hHeld => ?_)
                clear hK K
                (try simp only [Act.put, List.setIfInBounds_toArray, List.set_cons_zero, List.set_cons_succ])
                exact HJj1207 w1349 g1216 U1356 a1353 c1354 g1269 ⟨(kept_trans Kk1345.out Kk1357.out), HU1356.out, Hhl1352.out, (HL1348.out.later Kk1357.out)⟩
              refine AllReadyH.cons (o := rcLamr4_15) rfl (fun K hK => ?_) ?_
              · unfold rcLamr4_15
                go_simp
                refine at_K (fun W1359 hW1359 => ?_)
                obtain ⟨g1363, hg1364, Kk1361, Hx1360, Hz1362, KV1365, HN1366⟩ := alloc1v KV1346.out hW1359
                rw [hg1364]
                clear hW1359
                have kq1368 := (kept_trans Kk1202.out (kept_trans Kk1345.out Kk1361.out))
                have HR1367 := Lib.hid (q_row2 (Q := (Par w V0.heap.size (g140 :: (g324 :: [])) P)) Hx1360.out Gg.out.2.2.2.1 (HL1185.out.later kq1368) Gg.out.2.2.2.2.2.1 (HL1187.out.later kq1368) (par_newg HN1366.out (fun h => Nat.lt_irrefl _ (Nat.lt_of_lt_of_le ((xlt_later XL1196.out (kept_trans Kk1202.out Kk1345.out)) _ h) (Nat.le_of_eq hg1364)))))
                clear kq1368
                clear hg1364
                (try clear hHeld)
                refine hK.out _ _ (sees_kept _ (kept_trans Kk1345.out Kk1361.out)) (fun hHeld => ?_)
                clear hK K
                (try simp only [Act.put, List.setIfInBounds_toArray, List.set_cons_zero, List.set_cons_succ])
                exact HJj1206 W1359 g1216 g1363 g1269 ⟨(kept_trans Kk1345.out Kk1361.out), (HL1347.out.later Kk1361.out), HR1367.out, (HL1348.out.later Kk1361.out)⟩
              exact AllReadyH.nil
            · intro W1298 g1280 g1302 k1369
              obtain ⟨q1370, q1371, q1372⟩ := k1369
              have Kk1373 := Lib.hid q1370
              have KV1374 := Lib.hid (kept_trans (kept_trans KB1182.out Kk1202.out) Kk1373.out)
              have HL1375 := Lib.hid q1371
              have HL1376 := Lib.hid q1372
              clear q1370 q1371 q1372
              have hHeld : Sees W1199 (w.heap.size + 4) W1298 := sees_kept _ Kk1373.out
              refine wpAnyH_ready (rs := [9]) (by kernel_rfl) (by simp) ?_
              refine AllReadyH.cons (o := rcLamr4_9) rfl (fun K hK => ?_) ?_
              · unfold rcLamr4_9
                go_simp
                refine at_K (fun W1378 hW1378 => ?_)
                obtain ⟨g1382, hg1383, Kk1380, Hx1379, Hz1381, KV1384, HN1385⟩ := alloc1v KV1374.out hW1378
                rw [hg1383]
                clear hW1378
                have kq1387 := (kept_trans Kk1202.out (kept_trans Kk1373.out Kk1380.out))
                have HR1386 := Lib.hid (q_row2 (Q := (Par w V0.heap.size (g140 :: (g324 :: [])) P)) Hx1379.out Gg.out.2.2.1 (HL1184.out.later kq1387) Gg.out.2.2.2.2.1 (HL1186.out.later kq1387) (par_newg HN1385.out (fun h => Nat.lt_irrefl _ (Nat.lt_of_lt_of_le ((xlt_later XL1196.out (kept_trans Kk1202.out Kk1373.out)) _ h) (Nat.le_of_eq hg1383)))))
                clear kq1387
                clear hg1383
                (try clear hHeld)
                refine hK.out _ _ (sees_kept _ (kept_trans Kk1373.out Kk1380.out)) (fun hHeld => ?_)
                clear hK K
                (try simp only [Act.put, List.setIfInBounds_toArray, List.set_cons_zero, List.set_cons_succ])
                exact HJj1206 W1378 g1382 g1280 g1302 ⟨(kept_trans Kk1373.out Kk1380.out), HR1386.out, (HL1375.out.later Kk1380.out), (HL1376.out.later Kk1380.out)⟩
              exact AllReadyH.nil
            · intro W1254 g1216 g1258 k1388
              obtain ⟨q1389, q1390, q1391⟩ := k1388
              have Kk1392 := Lib.hid q1389
              have KV1393 := Lib.hid (kept_trans (kept_trans KB1182.out Kk1202.out) Kk1392.out)
              have HL1394 := Lib.hid q1390
              have HL1395 := Lib.hid q1391
              clear q1389 q1390 q1391
              have hHeld : Sees W1199 (w.heap.size + 4) W1254 := sees_kept _ Kk1392.out
              refine wpAnyH_ready (rs := [10, 23]) (by kernel_rfl) (by simp) ?_
              refine AllReadyH.cons (o := rcLamr4_10) rfl (fun K hK => ?_) ?_
              · unfold rcLamr4_10
                go_simp
                refine (rnode_any 13 [g.a, g.b] (Par w V0.heap.size (g140 :: (g324 :: [])) P) _ _ (show I64 13 from by unfold I64; decide) HL1394.out (Nat.le_of_ble_eq_true rfl)).mono ?_
                obtain ⟨U1403, hU1403⟩ : ∃ qu, nodeT 13 [g.a, g.b] = qu := ⟨_, rfl⟩
                rw [hU1403]
                have HU1403 := Lib.hid hU1403
                clear hU1403
                rintro e w1396 ⟨s1398, rfl, hl1399, k1397⟩
                obtain ⟨a1400, c1401, S1402, rfl, -⟩ := hl1399.out
                have Kk1404 := Lib.hid k1397
                clear k1397
                have Hhl1399 : Hid (LiesQ w1396 (Par w V0.heap.size (g140 :: (g324 :: [])) P) U1403.kids _) := par_give hl1399 (Below.size KV1393.out) (xlt_later XL1196.out (kept_trans Kk1202.out Kk1392.out))
                clear hl1399
                (try clear hHeld)
                refine hK.out _ _ (sees_kept _ (kept_trans Kk1392.out Kk1404.out)) (fun hHeld => ?_)
                clear hK K
                (try simp only [Act.put, List.setIfInBounds_toArray, List.set_cons_zero, List.set_cons_succ])
                exact HJj1208 w1396 g1216 U1403 a1400 c1401 g1258 ⟨(kept_trans Kk1392.out Kk1404.out), HU1403.out, Hhl1399.out, (HL1395.out.later Kk1404.out)⟩
              refine AllReadyH.cons (o := rcLamr4_23) rfl (fun K hK => ?_) ?_
              · unfold rcLamr4_23
                go_simp
                refine at_K (fun W1406 hW1406 => ?_)
                obtain ⟨g1410, hg1411, Kk1408, Hx1407, Hz1409, KV1412, HN1413⟩ := alloc1v KV1393.out hW1406
                rw [hg1411]
                clear hW1406
                have kq1415 := (kept_trans Kk1202.out (kept_trans Kk1392.out Kk1408.out))
                have HR1414 := Lib.hid (q_row3 (Q := (Par w V0.heap.size (g140 :: (g324 :: [])) P)) Hx1407.out (by rw [← HU902.out]; exact (node_fine (show I64 14 from by unfold I64; decide))) (HL1194.out.later kq1415) (by rw [← HU1061.out]; exact (node_fine (show I64 14 from by unfold I64; decide))) (HL1195.out.later kq1415) Gz.out (HL1192.out.later kq1415) (par_newg HN1413.out (fun h => Nat.lt_irrefl _ (Nat.lt_of_lt_of_le ((xlt_later XL1196.out (kept_trans Kk1202.out Kk1392.out)) _ h) (Nat.le_of_eq hg1411)))))
                clear kq1415
                clear hg1411
                (try clear hHeld)
                refine hK.out _ _ (sees_kept _ (kept_trans Kk1392.out Kk1408.out)) (fun hHeld => ?_)
                clear hK K
                (try simp only [Act.put, List.setIfInBounds_toArray, List.set_cons_zero, List.set_cons_succ])
                exact HJj1206 W1406 g1216 g1258 g1410 ⟨(kept_trans Kk1392.out Kk1408.out), (HL1394.out.later Kk1408.out), (HL1395.out.later Kk1408.out), HR1414.out⟩
              exact AllReadyH.nil
            · intro W1359 g1216 g1363 g1269 k1416
              obtain ⟨q1417, q1418, q1419, q1420⟩ := k1416
              have Kk1421 := Lib.hid q1417
              have KV1422 := Lib.hid (kept_trans (kept_trans KB1182.out Kk1202.out) Kk1421.out)
              have HL1423 := Lib.hid q1418
              have HL1424 := Lib.hid q1419
              have HL1425 := Lib.hid q1420
              clear q1417 q1418 q1419 q1420
              have hHeld : Sees W1199 (w.heap.size + 4) W1359 := sees_kept _ Kk1421.out
              refine wpAnyH_ready (rs := [10]) (by kernel_rfl) (by simp) ?_
              refine AllReadyH.cons (o := rcLamr4_10) rfl (fun K hK => ?_) ?_
              · unfold rcLamr4_10
                go_simp
                refine (rnode_any 13 [g.a, g.b] (Par w V0.heap.size (g140 :: (g324 :: [])) P) _ _ (show I64 13 from by unfold I64; decide) HL1423.out (Nat.le_of_ble_eq_true rfl)).mono ?_
                obtain ⟨U1433, hU1433⟩ : ∃ qu, nodeT 13 [g.a, g.b] = qu := ⟨_, rfl⟩
                rw [hU1433]
                have HU1433 := Lib.hid hU1433
                clear hU1433
                rintro e w1426 ⟨s1428, rfl, hl1429, k1427⟩
                obtain ⟨a1430, c1431, S1432, rfl, -⟩ := hl1429.out
                have Kk1434 := Lib.hid k1427
                clear k1427
                have Hhl1429 : Hid (LiesQ w1426 (Par w V0.heap.size (g140 :: (g324 :: [])) P) U1433.kids _) := par_give hl1429 (Below.size KV1422.out) (xlt_later XL1196.out (kept_trans Kk1202.out Kk1421.out))
                clear hl1429
                (try clear hHeld)
                refine hK.out _ _ (sees_kept _ (kept_trans Kk1421.out Kk1434.out)) (fun hHeld => ?_)
                clear hK K
                (try simp only [Act.put, List.setIfInBounds_toArray, List.set_cons_zero, List.set_cons_succ])
                exact HJj1209 w1426 g1216 U1433 a1430 c1431 g1363 g1269 ⟨(kept_trans Kk1421.out Kk1434.out), HU1433.out, Hhl1429.out, (HL1424.out.later Kk1434.out), (HL1425.out.later Kk1434.out)⟩
              exact AllReadyH.nil
            · intro W1243 g1216 U1229 a1226 c1227 g1247 k1435
              obtain ⟨q1436, q1437, q1438, q1439⟩ := k1435
              have Kk1440 := Lib.hid q1436
              have KV1441 := Lib.hid (kept_trans (kept_trans KB1182.out Kk1202.out) Kk1440.out)
              have HU1229 := Lib.hid q1437
              have HL1442 := Lib.hid q1438
              have HL1443 := Lib.hid q1439
              clear q1436 q1437 q1438 q1439
              have hHeld : Sees W1199 (w.heap.size + 4) W1243 := sees_kept _ Kk1440.out
              refine wpAnyH_ready (rs := [15]) (by kernel_rfl) (by simp) ?_
              refine AllReadyH.cons (o := rcLamr4_15) rfl (fun K hK => ?_) ?_
              · unfold rcLamr4_15
                go_simp
                refine at_K (fun W1445 hW1445 => ?_)
                obtain ⟨g1449, hg1450, Kk1447, Hx1446, Hz1448, KV1451, HN1452⟩ := alloc1v KV1441.out hW1445
                rw [hg1450]
                clear hW1445
                have kq1454 := (kept_trans Kk1202.out (kept_trans Kk1440.out Kk1447.out))
                have HR1453 := Lib.hid (q_row2 (Q := (Par w V0.heap.size (g140 :: (g324 :: [])) P)) Hx1446.out Gg.out.2.2.2.1 (HL1185.out.later kq1454) Gg.out.2.2.2.2.2.1 (HL1187.out.later kq1454) (par_newg HN1452.out (fun h => Nat.lt_irrefl _ (Nat.lt_of_lt_of_le ((xlt_later XL1196.out (kept_trans Kk1202.out Kk1440.out)) _ h) (Nat.le_of_eq hg1450)))))
                clear kq1454
                clear hg1450
                (try clear hHeld)
                refine hK.out _ _ (sees_kept _ (kept_trans Kk1440.out Kk1447.out)) (fun hHeld => ?_)
                clear hK K
                (try simp only [Act.put, List.setIfInBounds_toArray, List.set_cons_zero, List.set_cons_succ])
                exact HJj1209 W1445 g1216 U1229 a1226 c1227 g1449 g1247 ⟨(kept_trans Kk1440.out Kk1447.out), HU1229.out, (HL1442.out.later Kk1447.out), HR1453.out, (HL1443.out.later Kk1447.out)⟩
              exact AllReadyH.nil
            · intro W1232 g1216 U1229 a1226 c1227 g1236 k1455
              obtain ⟨q1456, q1457, q1458, q1459⟩ := k1455
              have Kk1460 := Lib.hid q1456
              have KV1461 := Lib.hid (kept_trans (kept_trans KB1182.out Kk1202.out) Kk1460.out)
              have HU1229 := Lib.hid q1457
              have HL1462 := Lib.hid q1458
              have HL1463 := Lib.hid q1459
              clear q1456 q1457 q1458 q1459
              have hHeld : Sees W1199 (w.heap.size + 4) W1232 := sees_kept _ Kk1460.out
              refine wpAnyH_ready (rs := [16, 23]) (by kernel_rfl) (by simp) ?_
              refine AllReadyH.cons (o := rcLamr4_16) rfl (fun K hK => ?_) ?_
              · unfold rcLamr4_16
                go_simp
                refine (rnode_any 13 [g.c, g.d] (Par w V0.heap.size (g140 :: (g324 :: [])) P) _ _ (show I64 13 from by unfold I64; decide) HL1463.out (Nat.le_of_ble_eq_true rfl)).mono ?_
                obtain ⟨U1471, hU1471⟩ : ∃ qu, nodeT 13 [g.c, g.d] = qu := ⟨_, rfl⟩
                rw [hU1471]
                have HU1471 := Lib.hid hU1471
                clear hU1471
                rintro e w1464 ⟨s1466, rfl, hl1467, k1465⟩
                obtain ⟨a1468, c1469, S1470, rfl, -⟩ := hl1467.out
                have Kk1472 := Lib.hid k1465
                clear k1465
                have Hhl1467 : Hid (LiesQ w1464 (Par w V0.heap.size (g140 :: (g324 :: [])) P) U1471.kids _) := par_give hl1467 (Below.size KV1461.out) (xlt_later XL1196.out (kept_trans Kk1202.out Kk1460.out))
                clear hl1467
                (try clear hHeld)
                refine hK.out _ _ (sees_kept _ (kept_trans Kk1460.out Kk1472.out)) (fun hHeld => ?_)
                clear hK K
                (try simp only [Act.put, List.setIfInBounds_toArray, List.set_cons_zero, List.set_cons_succ])
                refine wpAnyH_ready (rs := [23]) (by kernel_rfl) (by simp) ?_
                refine AllReadyH.cons (o := rcLamr4_23) rfl (fun K hK => ?_) ?_
                · unfold rcLamr4_23
                  go_simp
                  refine at_K (fun W1474 hW1474 => ?_)
                  obtain ⟨g1478, hg1479, Kk1476, Hx1475, Hz1477, KV1480, HN1481⟩ := alloc1v (kept_trans KB1182.out (kept_trans Kk1202.out (kept_trans Kk1460.out Kk1472.out))) hW1474
                  rw [hg1479]
                  clear hW1474
                  have kq1483 := (kept_trans Kk1202.out (kept_trans Kk1460.out (kept_trans Kk1472.out Kk1476.out)))
                  have HR1482 := Lib.hid (q_row3 (Q := (Par w V0.heap.size (g140 :: (g324 :: [])) P)) Hx1475.out (by rw [← HU902.out]; exact (node_fine (show I64 14 from by unfold I64; decide))) (HL1194.out.later kq1483) (by rw [← HU1061.out]; exact (node_fine (show I64 14 from by unfold I64; decide))) (HL1195.out.later kq1483) Gz.out (HL1192.out.later kq1483) (par_newg HN1481.out (fun h => Nat.lt_irrefl _ (Nat.lt_of_lt_of_le ((xlt_later XL1196.out (kept_trans Kk1202.out (kept_trans Kk1460.out Kk1472.out))) _ h) (Nat.le_of_eq hg1479)))))
                  clear kq1483
                  clear hg1479
                  (try clear hHeld)
                  refine hK.out _ _ (sees_kept _ (kept_trans Kk1460.out (kept_trans Kk1472.out Kk1476.out))) (fun hHeld => ?_)
                  clear hK K
                  (try simp only [Act.put, List.setIfInBounds_toArray, List.set_cons_zero, List.set_cons_succ])
                  exact HJj1210 W1474 g1216 U1229 a1226 c1227 g1236 U1471 a1468 c1469 g1478 ⟨(kept_trans Kk1460.out (kept_trans Kk1472.out Kk1476.out)), HU1229.out, HU1471.out, (HL1462.out.later (kept_trans Kk1472.out Kk1476.out)), (Hhl1467.out.later Kk1476.out), HR1482.out⟩
                exact AllReadyH.nil
              refine AllReadyH.cons (o := rcLamr4_23) rfl (fun K hK => ?_) ?_
              · unfold rcLamr4_23
                go_simp
                refine at_K (fun W1485 hW1485 => ?_)
                obtain ⟨g1489, hg1490, Kk1487, Hx1486, Hz1488, KV1491, HN1492⟩ := alloc1v KV1461.out hW1485
                rw [hg1490]
                clear hW1485
                have kq1494 := (kept_trans Kk1202.out (kept_trans Kk1460.out Kk1487.out))
                have HR1493 := Lib.hid (q_row3 (Q := (Par w V0.heap.size (g140 :: (g324 :: [])) P)) Hx1486.out (by rw [← HU902.out]; exact (node_fine (show I64 14 from by unfold I64; decide))) (HL1194.out.later kq1494) (by rw [← HU1061.out]; exact (node_fine (show I64 14 from by unfold I64; decide))) (HL1195.out.later kq1494) Gz.out (HL1192.out.later kq1494) (par_newg HN1492.out (fun h => Nat.lt_irrefl _ (Nat.lt_of_lt_of_le ((xlt_later XL1196.out (kept_trans Kk1202.out Kk1460.out)) _ h) (Nat.le_of_eq hg1490)))))
                clear kq1494
                clear hg1490
                (try clear hHeld)
                refine hK.out _ _ (sees_kept _ (kept_trans Kk1460.out Kk1487.out)) (fun hHeld => ?_)
                clear hK K
                (try simp only [Act.put, List.setIfInBounds_toArray, List.set_cons_zero, List.set_cons_succ])
                exact HJj1209 W1485 g1216 U1229 a1226 c1227 g1236 g1489 ⟨(kept_trans Kk1460.out Kk1487.out), HU1229.out, (HL1462.out.later Kk1487.out), (HL1463.out.later Kk1487.out), HR1493.out⟩
              exact AllReadyH.nil
            · intro w1426 g1216 U1433 a1430 c1431 g1363 g1269 k1495
              obtain ⟨q1496, q1497, q1498, q1499, q1500⟩ := k1495
              have Kk1501 := Lib.hid q1496
              have KV1502 := Lib.hid (kept_trans (kept_trans KB1182.out Kk1202.out) Kk1501.out)
              have HU1433 := Lib.hid q1497
              have HL1503 := Lib.hid q1498
              have HL1504 := Lib.hid q1499
              have HL1505 := Lib.hid q1500
              clear q1496 q1497 q1498 q1499 q1500
              have hHeld : Sees W1199 (w.heap.size + 4) w1426 := sees_kept _ Kk1501.out
              refine wpAnyH_ready (rs := [16]) (by kernel_rfl) (by simp) ?_
              refine AllReadyH.cons (o := rcLamr4_16) rfl (fun K hK => ?_) ?_
              · unfold rcLamr4_16
                go_simp
                refine (rnode_any 13 [g.c, g.d] (Par w V0.heap.size (g140 :: (g324 :: [])) P) _ _ (show I64 13 from by unfold I64; decide) HL1504.out (Nat.le_of_ble_eq_true rfl)).mono ?_
                obtain ⟨U1513, hU1513⟩ : ∃ qu, nodeT 13 [g.c, g.d] = qu := ⟨_, rfl⟩
                rw [hU1513]
                have HU1513 := Lib.hid hU1513
                clear hU1513
                rintro e w1506 ⟨s1508, rfl, hl1509, k1507⟩
                obtain ⟨a1510, c1511, S1512, rfl, -⟩ := hl1509.out
                have Kk1514 := Lib.hid k1507
                clear k1507
                have Hhl1509 : Hid (LiesQ w1506 (Par w V0.heap.size (g140 :: (g324 :: [])) P) U1513.kids _) := par_give hl1509 (Below.size KV1502.out) (xlt_later XL1196.out (kept_trans Kk1202.out Kk1501.out))
                clear hl1509
                (try clear hHeld)
                refine hK.out _ _ (sees_kept _ (kept_trans Kk1501.out Kk1514.out)) (fun hHeld => ?_)
                clear hK K
                (try simp only [Act.put, List.setIfInBounds_toArray, List.set_cons_zero, List.set_cons_succ])
                exact HJj1210 w1506 g1216 U1433 a1430 c1431 g1363 U1513 a1510 c1511 g1269 ⟨(kept_trans Kk1501.out Kk1514.out), HU1433.out, HU1513.out, (HL1503.out.later Kk1514.out), Hhl1509.out, (HL1505.out.later Kk1514.out)⟩
              exact AllReadyH.nil
            · intro W1474 g1216 U1229 a1226 c1227 g1236 U1471 a1468 c1469 g1478 k1515
              obtain ⟨q1516, q1517, q1518, q1519, q1520, q1521⟩ := k1515
              have Kk1522 := Lib.hid q1516
              have KV1523 := Lib.hid (kept_trans (kept_trans KB1182.out Kk1202.out) Kk1522.out)
              have HU1229 := Lib.hid q1517
              have HU1471 := Lib.hid q1518
              have HL1524 := Lib.hid q1519
              have HL1525 := Lib.hid q1520
              have HL1526 := Lib.hid q1521
              clear q1516 q1517 q1518 q1519 q1520 q1521
              have hHeld : Sees W1199 (w.heap.size + 4) W1474 := sees_kept _ Kk1522.out
              refine wpAnyH_ready (rs := [24]) (by kernel_rfl) (by simp) ?_
              refine AllReadyH.cons (o := rcLamr4_24) rfl (fun K hK => ?_) ?_
              · unfold rcLamr4_24
                go_simp
                refine (rsix_any 15 g [U902, U1061, z] (Par w V0.heap.size (g140 :: (g324 :: [])) P) _ (.slice aga g.a.kids.length cga) (.slice agc g.c.kids.length cgc) (.slice agb g.b.kids.length cgb) (.slice agd g.d.kids.length cgd) (.slice age g.e.kids.length cge) (.slice agf g.f.kids.length cgf) ((.slice (some ⟨g1478, 0, none⟩) 3 3)) (show I64 15 from by unfold I64; decide) (show Fm.fine g from ⟨Gg.out.1, Gg.out.2.1, Gg.out.2.2.1, Gg.out.2.2.2.1, Gg.out.2.2.2.2.1, Gg.out.2.2.2.2.2.1, Gg.out.2.2.2.2.2.2.1, Gg.out.2.2.2.2.2.2.2⟩) ⟨(HL1184.out.later (kept_trans Kk1202.out Kk1522.out)), (HL1185.out.later (kept_trans Kk1202.out Kk1522.out)), (HL1186.out.later (kept_trans Kk1202.out Kk1522.out)), (HL1187.out.later (kept_trans Kk1202.out Kk1522.out)), (HL1188.out.later (kept_trans Kk1202.out Kk1522.out)), (HL1189.out.later (kept_trans Kk1202.out Kk1522.out))⟩ HL1526.out (Nat.le_of_ble_eq_true rfl)).mono ?_
                obtain ⟨U1534, hU1534⟩ : ∃ qu, sixT 15 g [U902, U1061, z] = qu := ⟨_, rfl⟩
                rw [hU1534]
                have HU1534 := Lib.hid hU1534
                clear hU1534
                rintro e w1527 ⟨s1529, rfl, hl1530, k1528⟩
                obtain ⟨a1531, c1532, S1533, rfl, -⟩ := hl1530.out
                have Kk1535 := Lib.hid k1528
                clear k1528
                have Hhl1530 : Hid (LiesQ w1527 (Par w V0.heap.size (g140 :: (g324 :: [])) P) U1534.kids _) := par_give hl1530 (Below.size KV1523.out) (xlt_later XL1196.out (kept_trans Kk1202.out Kk1522.out))
                clear hl1530
                clear hHeld
                refine hK.out _ _ (sees_kept _ (kept_trans Kk1522.out Kk1535.out)) (fun hHeld => ?_)
                clear hK K
                (try simp only [Act.put, List.setIfInBounds_toArray, List.set_cons_zero, List.set_cons_succ])
                refine take_at 25 58 rcLamr4_25 (v := ?_) (Or.inl ⟨by rfl, ?_⟩) ?_
                rotate_left 1
                · ((intro w hSw; (try dsimp only at hSw); unfold rcLamr4_25; go_simp) <;> with_reducible rfl)
                (try simp only [Act.put, List.setIfInBounds_toArray, List.set_cons_zero, List.set_cons_succ])
                refine wpAnyH_ready (rs := [26]) (by kernel_rfl) (by simp) ?_
                refine AllReadyH.cons (o := rcLamr4_26) rfl (fun K hK => ?_) ?_
                · unfold rcLamr4_26
                  refine step_store_part rfl 45 (.tmp 8) (.tmp 58) rfl (w.heap.size + 4) 0 #[.int .i64 (max g.i g.j), .int .i64 U1229.k, .int .i64 U1229.i, .int .i64 U1229.j, .int .i64 U1229.n, (.slice a1226 U1229.kids.length c1227), .int .i64 U1471.k, .int .i64 U1471.i, .int .i64 U1471.j, .int .i64 U1471.n, (.slice a1468 U1471.kids.length c1469), .int .i64 U902.k, .int .i64 U902.i, .int .i64 U902.j, .int .i64 U902.n, (.slice a899 U902.kids.length c900), .int .i64 U1061.k, .int .i64 U1061.i, .int .i64 U1061.j, .int .i64 U1061.n, (.slice a1058 U1061.kids.length c1059), .int .i64 U1534.k, .int .i64 U1534.i, .int .i64 U1534.j, .int .i64 U1534.n, (.slice a1531 U1534.kids.length c1532)] rfl rfl 45 (by kernel_rfl) (row_ok rfl) _ #[.int .i64 (max g.i g.j), .int .i64 U1229.k, .int .i64 U1229.i, .int .i64 U1229.j, .int .i64 U1229.n, (.slice a1226 U1229.kids.length c1227), .int .i64 U1471.k, .int .i64 U1471.i, .int .i64 U1471.j, .int .i64 U1471.n, (.slice a1468 U1471.kids.length c1469), .int .i64 U902.k, .int .i64 U902.i, .int .i64 U902.j, .int .i64 U902.n, (.slice a899 U902.kids.length c900), .int .i64 U1061.k, .int .i64 U1061.i, .int .i64 U1061.j, .int .i64 U1061.n, (.slice a1058 U1061.kids.length c1059), .int .i64 U1534.k, .int .i64 U1534.i, .int .i64 U1534.j, .int .i64 U1534.n, (.slice a1531 U1534.kids.length c1532)] (blk_at Hx5.out (kept_trans KB1182.out (kept_trans Kk1202.out (kept_trans Kk1522.out Kk1535.out)))) rfl (Nat.le_of_ble_eq_true rfl) ?_
                  intro W1536 hW1536
                  clear hHeld
                  refine hK.out _ _ (sees_set (kept_trans Kk1522.out Kk1535.out) hW1536) (fun hHeld => ?_)
                  clear hK K
                  (try simp only [Act.put])
                  refine wpAnyH_done (by kernel_rfl) ?_ _
                  clear hHeld
                  go_wp2_with fail
                  refine bodyPost_ret (results_cell_row rfl _ _ (w.heap.size + 4) 45 _ _ dr rfl (blk_same (blk_at Hx5.out (kept_trans KB1182.out (kept_trans Kk1202.out (kept_trans Kk1522.out Kk1535.out)))) hW1536) dr1 (by cases dr <;> first | rfl | exact dr2) (by kernel_rfl)) rfl ?_
                  rw [show cgLam g x y z = (⟨(max g.i g.j), U1229, U1471, U902, U1061, U1534⟩ : He) from by unfold cgLam; rw [Hhb13.out, Hhb28.out]; rw [← HU1534.out]; rw [← HU1471.out]; rw [← HU1229.out]; rw [← HU1061.out]; rw [← HU902.out]; (try first | rfl | simp)]
                  exact ⟨_, _, _, _, _, rfl, ⟨par_end (par_row' (HL1524.out.later Kk1535.out) hW1536 (by omega) (by have := Z0.out; omega)) (by have := Z0.out; omega), par_end (par_row' (HL1525.out.later Kk1535.out) hW1536 (by omega) (by have := Z0.out; omega)) (by have := Z0.out; omega), par_end (par_row' (HL1194.out.later (kept_trans Kk1202.out (kept_trans Kk1522.out Kk1535.out))) hW1536 (by omega) (by have := Z0.out; omega)) (by have := Z0.out; omega), par_end (par_row' (HL1195.out.later (kept_trans Kk1202.out (kept_trans Kk1522.out Kk1535.out))) hW1536 (by omega) (by have := Z0.out; omega)) (by have := Z0.out; omega), par_end (par_row' Hhl1530.out hW1536 (by omega) (by have := Z0.out; omega)) (by have := Z0.out; omega)⟩, kept_set (kept_trans KB1181.out (kept_trans Kk1202.out (kept_trans Kk1522.out Kk1535.out))) hW1536 (by omega)⟩
                exact AllReadyH.nil
              exact AllReadyH.nil
          exact AllReadyH.nil
        exact AllReadyH.nil

end Go.Proofs.Ytkdceahmknhojaa
