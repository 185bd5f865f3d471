/-
  Facts and contracts that the proof of CongTypes uses.
-/
import Derived.Test.YtkdceahmknhojaaRows
import Derived.WalkKit
import Derived.Lib.Hide
import Derived.KernelRfl
import Derived.Deep.RegionWith
import Derived.Deep.RegionHeld3
import Derived.Deep.AppendLies
import Derived.Laws.Rows
import Derived.Laws.IdiomCopy
import Derived.Deep.Slices
import Derived.Lib.QuietBelow
import Derived.StillTailTactics
import Derived.BigQuiet
import Derived.IntWalk
import Derived.OwnWalk
import Derived.Deep.RegionLaw
import Derived.Deep.QuietTactic
import Derived.Deep.LoopGhost
import Derived.Deep.DeepCutAuto
import Derived.Deep.MidRow
import Derived.OrdersHeld
import Derived.Laws.Tables
import Derived.Laws.CopyOwn
import Derived.Laws.CopyRow
import Derived.Deep.Upon
import Derived.ArgAppend
import Derived.Deep.RegionHeld
import Derived.Lib.MinMax
import Derived.ProofKit
import Derived.OpenShut
import Derived.Carry
import Derived.ChangeSlices
import Derived.JoinedOf
import Derived.Test.YtkdceahmknhojaaCongTypesQ3
namespace Go.Proofs.Ytkdceahmknhojaa
open Go.RowKit

set_option maxRecDepth 20000 in
set_option maxHeartbeats 4000000 in
theorem cPi_any (g : Fm) (P : Nat → Prop) (w : World) (sga : Value) (sgc : Value) (sgb : Value) (sgd : Value) (sge : Value) (sgf : Value) (hfg : g.fine) (hlg : FQ w P g sga sgc sgb sgd sge sgf) : Calls Try.prog 55 #[fv g sga sgc sgb sgd sge sgf] w (GivesP P (cgPi g) w) := by
  have Gg := Lib.hid hfg
  clear hfg
  obtain ⟨hlga, hlgc, hlgb, hlgd, hlge, hlgf⟩ := hlg
  obtain ⟨aga, cga, Sga, rfl, -⟩ := hlga.out
  obtain ⟨agc, cgc, Sgc, rfl, -⟩ := hlgc.out
  obtain ⟨agb, cgb, Sgb, rfl, -⟩ := hlgb.out
  obtain ⟨agd, cgd, Sgd, rfl, -⟩ := hlgd.out
  obtain ⟨age, cge, Sge, rfl, -⟩ := hlge.out
  obtain ⟨agf, cgf, Sgf, rfl, -⟩ := hlgf.out
  obtain ⟨du, hu1, hu2⟩ := under_term
  obtain ⟨dg, dg1, dg2⟩ := under_of 72 (by kernel_rfl)
  unfold fv
  go_enter Try.func55, Try.ntmps55
  go_upto_region 1 with fail
  refine at_code (fun V0 hV0 => ?_)
  obtain ⟨k3, x1, x2, z4⟩ := alloc2 hV0
  have Kk5 := Lib.hid k3
  clear k3
  have Hx1 := Lib.hid x1
  have Hx2 := Lib.hid x2
  have Z0 := Lib.hid z4
  clear z4 x1 x2 hV0
  have HLga : Hid (LiesQ V0 (Par w V0.heap.size [] P) g.a.kids _) := (par_in _ _ hlga).later Kk5.out
  clear hlga
  have HLgc : Hid (LiesQ V0 (Par w V0.heap.size [] P) g.c.kids _) := (par_in _ _ hlgc).later Kk5.out
  clear hlgc
  have HLgb : Hid (LiesQ V0 (Par w V0.heap.size [] P) g.b.kids _) := (par_in _ _ hlgb).later Kk5.out
  clear hlgb
  have HLgd : Hid (LiesQ V0 (Par w V0.heap.size [] P) g.d.kids _) := (par_in _ _ hlgd).later Kk5.out
  clear hlgd
  have HLge : Hid (LiesQ V0 (Par w V0.heap.size [] P) g.e.kids _) := (par_in _ _ hlge).later Kk5.out
  clear hlge
  have HLgf : Hid (LiesQ V0 (Par w V0.heap.size [] P) g.f.kids _) := (par_in _ _ hlgf).later Kk5.out
  clear hlgf
  have kvV0 : Sees V0 (w.heap.size + 1) V0 := sees_kept _ (kept_refl _)
  go_wp2_with (refine stop_load 72 (.tmp 1) rfl ?_)
  intro _
  refine wpList_load_part (w.heap.size) 0 72 (.tmp 1) #[.int .i64 g.i, .int .i64 g.j, .int .i64 g.a.k, .int .i64 g.a.i, .int .i64 g.a.j, .int .i64 g.a.n, (.slice aga g.a.kids.length cga), .int .i64 g.c.k, .int .i64 g.c.i, .int .i64 g.c.j, .int .i64 g.c.n, (.slice agc g.c.kids.length cgc), .int .i64 g.b.k, .int .i64 g.b.i, .int .i64 g.b.j, .int .i64 g.b.n, (.slice agb g.b.kids.length cgb), .int .i64 g.d.k, .int .i64 g.d.i, .int .i64 g.d.j, .int .i64 g.d.n, (.slice agd g.d.kids.length cgd), .int .i64 g.e.k, .int .i64 g.e.i, .int .i64 g.e.j, .int .i64 g.e.n, (.slice age g.e.kids.length cge), .int .i64 g.f.k, .int .i64 g.f.i, .int .i64 g.f.j, .int .i64 g.f.n, (.slice agf g.f.kids.length cgf)] dg Hx1.out (by rfl) rfl (by rfl) (by rfl) dg1 (by cases dg <;> first | rfl | exact dg2) (by kernel_rfl) ?_
  go_wp2_with fail
  clear kvV0
  refine (cright_any g (Par w V0.heap.size [] P) _ (.slice aga g.a.kids.length cga) (.slice agc g.c.kids.length cgc) (.slice agb g.b.kids.length cgb) (.slice agd g.d.kids.length cgd) (.slice age g.e.kids.length cge) (.slice agf g.f.kids.length cgf) (show Fm.fine g from ⟨Gg.out.1, Gg.out.2.1, Gg.out.2.2.1, Gg.out.2.2.2.1, Gg.out.2.2.2.2.1, Gg.out.2.2.2.2.2.1, Gg.out.2.2.2.2.2.2.1, Gg.out.2.2.2.2.2.2.2⟩) ⟨HLga.out, HLgc.out, HLgb.out, HLgd.out, HLge.out, HLgf.out⟩).mono ?_
  obtain ⟨rb9, hb8⟩ : ∃ qb, (fmR g) = qb := ⟨_, rfl⟩
  rw [hb8]
  have Hhb8 := Lib.hid hb8
  clear hb8
  rintro e w6 ⟨rfl, k7⟩
  have Kk10 := Lib.hid k7
  clear k7
  cases rb9 with
  | false =>
    have kvV0 : Sees V0 (w.heap.size + 1) w6 := sees_kept _ Kk10.out
    go_wp2_with (refine stop_store 32 (.tmp 2) (.tmp 6) rfl ?_)
    intro _
    refine wpList_store_part_n (by rfl) 32 (.tmp 2) (.tmp 6) rfl (w.heap.size + 1) 0 #[.int .i64 0, .int .i64 0, .int .i64 0, .int .i64 0, .slice none 0 0] (by rfl) (by rfl) 32 size_term (row_ok rfl) ?_
    intro W11 hW11
    clear kvV0
    subst hW11
    refine ⟨_, #[.int .i64 0, .int .i64 0, .int .i64 0, .int .i64 0, .slice none 0 0], (blk_at Hx2.out Kk10.out), rfl, Nat.le_of_ble_eq_true rfl, ?_⟩
    intro W12 hW12
    go_wp2_with fail
    refine bodyPost_ret (results_cell_row rfl _ _ (w.heap.size + 1) 32 _ _ du rfl (blk_same (blk_at Hx2.out Kk10.out) hW12) hu1 (by cases du <;> first | rfl | exact hu2) size_term) rfl ?_
    rw [show cgPi g = (Tm.mk 0 0 0 0 []) from by unfold cgPi; rw [Hhb8.out]; (try rfl)]
    exact ⟨_, rfl, par_end (par_row' (liesQ_nil w6 (Par w V0.heap.size [] P)) hW12 (by omega) (by have := Z0.out; omega)) (by have := Z0.out; omega), kept_set (kept_trans Kk5.out Kk10.out) hW12 (by omega)⟩
  | true =>
    have kvV0 : Sees V0 (w.heap.size + 1) w6 := sees_kept _ Kk10.out
    go_wp2_with (refine stop_load 72 (.tmp 1) rfl ?_)
    intro _
    refine wpList_load_part (w.heap.size) 0 72 (.tmp 1) #[.int .i64 g.i, .int .i64 g.j, .int .i64 g.a.k, .int .i64 g.a.i, .int .i64 g.a.j, .int .i64 g.a.n, (.slice aga g.a.kids.length cga), .int .i64 g.c.k, .int .i64 g.c.i, .int .i64 g.c.j, .int .i64 g.c.n, (.slice agc g.c.kids.length cgc), .int .i64 g.b.k, .int .i64 g.b.i, .int .i64 g.b.j, .int .i64 g.b.n, (.slice agb g.b.kids.length cgb), .int .i64 g.d.k, .int .i64 g.d.i, .int .i64 g.d.j, .int .i64 g.d.n, (.slice agd g.d.kids.length cgd), .int .i64 g.e.k, .int .i64 g.e.i, .int .i64 g.e.j, .int .i64 g.e.n, (.slice age g.e.kids.length cge), .int .i64 g.f.k, .int .i64 g.f.i, .int .i64 g.f.j, .int .i64 g.f.n, (.slice agf g.f.kids.length cgf)] dg (blk_at Hx1.out Kk10.out) (by rfl) rfl (by rfl) (by rfl) dg1 (by cases dg <;> first | rfl | exact dg2) (by kernel_rfl) ?_
    go_wp2_with fail
    clear kvV0
    refine (cfuse_any 13 g [] (Par w V0.heap.size [] P) _ (.slice aga g.a.kids.length cga) (.slice agc g.c.kids.length cgc) (.slice agb g.b.kids.length cgb) (.slice agd g.d.kids.length cgd) (.slice age g.e.kids.length cge) (.slice agf g.f.kids.length cgf) (.slice none 0 0) (show Fm.fine g from ⟨Gg.out.1, Gg.out.2.1, Gg.out.2.2.1, Gg.out.2.2.2.1, Gg.out.2.2.2.2.1, Gg.out.2.2.2.2.2.1, Gg.out.2.2.2.2.2.2.1, Gg.out.2.2.2.2.2.2.2⟩) ⟨(HLga.out.later Kk10.out), (HLgc.out.later Kk10.out), (HLgb.out.later Kk10.out), (HLgd.out.later Kk10.out), (HLge.out.later Kk10.out), (HLgf.out.later Kk10.out)⟩ (show I64 13 from by unfold I64; decide) (liesQ_nil w6 (Par w V0.heap.size [] P)) Hhb8.out (fun _ h => nomatch h) (Nat.le_of_ble_eq_true rfl)).mono ?_
    obtain ⟨U20, hU20⟩ : ∃ qu, sixT 13 g [] = qu := ⟨_, rfl⟩
    rw [hU20]
    have HU20 := Lib.hid hU20
    clear hU20
    rintro e w13 ⟨s15, rfl, hl16, k14⟩
    obtain ⟨a17, c18, S19, rfl, -⟩ := hl16.out
    have Kk21 := Lib.hid k14
    clear k14
    have Hhl16 : Hid (LiesQ w13 (Par w V0.heap.size [] P) U20.kids _) := par_give hl16 (Below.size Kk10.out) (xlt_nil _)
    clear hl16
    have kvV0 : Sees V0 (w.heap.size + 1) w13 := sees_kept _ (kept_trans Kk10.out Kk21.out)
    go_wp2_with (refine stop_store 32 (.tmp 2) (.tmp 8) rfl ?_)
    intro _
    refine wpList_store_part_n (by rfl) 32 (.tmp 2) (.tmp 8) rfl (w.heap.size + 1) 0 #[.int .i64 U20.k, .int .i64 U20.i, .int .i64 U20.j, .int .i64 U20.n, (.slice a17 U20.kids.length c18)] (by rfl) (by rfl) 32 size_term (row_ok rfl) ?_
    intro W22 hW22
    clear kvV0
    subst hW22
    refine ⟨_, #[.int .i64 U20.k, .int .i64 U20.i, .int .i64 U20.j, .int .i64 U20.n, (.slice a17 U20.kids.length c18)], (blk_at Hx2.out (kept_trans Kk10.out Kk21.out)), rfl, Nat.le_of_ble_eq_true rfl, ?_⟩
    intro W23 hW23
    go_wp2_with fail
    refine bodyPost_ret (results_cell_row rfl _ _ (w.heap.size + 1) 32 _ _ du rfl (blk_same (blk_at Hx2.out (kept_trans Kk10.out Kk21.out)) hW23) hu1 (by cases du <;> first | rfl | exact hu2) size_term) rfl ?_
    rw [show cgPi g = U20 from by unfold cgPi; rw [Hhb8.out]; rw [← HU20.out]; (try rfl)]
    exact ⟨_, rfl, par_end (par_row' Hhl16.out hW23 (by omega) (by have := Z0.out; omega)) (by have := Z0.out; omega), kept_set (kept_trans Kk5.out (kept_trans Kk10.out Kk21.out)) hW23 (by omega)⟩

set_option maxRecDepth 20000 in
set_option maxHeartbeats 4000000 in
theorem cSig_any (g : Fm) (P : Nat → Prop) (w : World) (sga : Value) (sgc : Value) (sgb : Value) (sgd : Value) (sge : Value) (sgf : Value) (hfg : g.fine) (hlg : FQ w P g sga sgc sgb sgd sge sgf) : Calls Try.prog 57 #[fv g sga sgc sgb sgd sge sgf] w (GivesP P (cgSig g) w) := by
  have Gg := Lib.hid hfg
  clear hfg
  obtain ⟨hlga, hlgc, hlgb, hlgd, hlge, hlgf⟩ := hlg
  obtain ⟨aga, cga, Sga, rfl, -⟩ := hlga.out
  obtain ⟨agc, cgc, Sgc, rfl, -⟩ := hlgc.out
  obtain ⟨agb, cgb, Sgb, rfl, -⟩ := hlgb.out
  obtain ⟨agd, cgd, Sgd, rfl, -⟩ := hlgd.out
  obtain ⟨age, cge, Sge, rfl, -⟩ := hlge.out
  obtain ⟨agf, cgf, Sgf, rfl, -⟩ := hlgf.out
  obtain ⟨du, hu1, hu2⟩ := under_term
  obtain ⟨dg, dg1, dg2⟩ := under_of 72 (by kernel_rfl)
  unfold fv
  go_enter Try.func57, Try.ntmps57
  go_upto_region 1 with fail
  refine at_code (fun V0 hV0 => ?_)
  obtain ⟨k3, x1, x2, z4⟩ := alloc2 hV0
  have Kk5 := Lib.hid k3
  clear k3
  have Hx1 := Lib.hid x1
  have Hx2 := Lib.hid x2
  have Z0 := Lib.hid z4
  clear z4 x1 x2 hV0
  have HLga : Hid (LiesQ V0 (Par w V0.heap.size [] P) g.a.kids _) := (par_in _ _ hlga).later Kk5.out
  clear hlga
  have HLgc : Hid (LiesQ V0 (Par w V0.heap.size [] P) g.c.kids _) := (par_in _ _ hlgc).later Kk5.out
  clear hlgc
  have HLgb : Hid (LiesQ V0 (Par w V0.heap.size [] P) g.b.kids _) := (par_in _ _ hlgb).later Kk5.out
  clear hlgb
  have HLgd : Hid (LiesQ V0 (Par w V0.heap.size [] P) g.d.kids _) := (par_in _ _ hlgd).later Kk5.out
  clear hlgd
  have HLge : Hid (LiesQ V0 (Par w V0.heap.size [] P) g.e.kids _) := (par_in _ _ hlge).later Kk5.out
  clear hlge
  have HLgf : Hid (LiesQ V0 (Par w V0.heap.size [] P) g.f.kids _) := (par_in _ _ hlgf).later Kk5.out
  clear hlgf
  have kvV0 : Sees V0 (w.heap.size + 1) V0 := sees_kept _ (kept_refl _)
  go_wp2_with (refine stop_load 72 (.tmp 1) rfl ?_)
  intro _
  refine wpList_load_part (w.heap.size) 0 72 (.tmp 1) #[.int .i64 g.i, .int .i64 g.j, .int .i64 g.a.k, .int .i64 g.a.i, .int .i64 g.a.j, .int .i64 g.a.n, (.slice aga g.a.kids.length cga), .int .i64 g.c.k, .int .i64 g.c.i, .int .i64 g.c.j, .int .i64 g.c.n, (.slice agc g.c.kids.length cgc), .int .i64 g.b.k, .int .i64 g.b.i, .int .i64 g.b.j, .int .i64 g.b.n, (.slice agb g.b.kids.length cgb), .int .i64 g.d.k, .int .i64 g.d.i, .int .i64 g.d.j, .int .i64 g.d.n, (.slice agd g.d.kids.length cgd), .int .i64 g.e.k, .int .i64 g.e.i, .int .i64 g.e.j, .int .i64 g.e.n, (.slice age g.e.kids.length cge), .int .i64 g.f.k, .int .i64 g.f.i, .int .i64 g.f.j, .int .i64 g.f.n, (.slice agf g.f.kids.length cgf)] dg Hx1.out (by rfl) rfl (by rfl) (by rfl) dg1 (by cases dg <;> first | rfl | exact dg2) (by kernel_rfl) ?_
  go_wp2_with fail
  clear kvV0
  refine (cright_any g (Par w V0.heap.size [] P) _ (.slice aga g.a.kids.length cga) (.slice agc g.c.kids.length cgc) (.slice agb g.b.kids.length cgb) (.slice agd g.d.kids.length cgd) (.slice age g.e.kids.length cge) (.slice agf g.f.kids.length cgf) (show Fm.fine g from ⟨Gg.out.1, Gg.out.2.1, Gg.out.2.2.1, Gg.out.2.2.2.1, Gg.out.2.2.2.2.1, Gg.out.2.2.2.2.2.1, Gg.out.2.2.2.2.2.2.1, Gg.out.2.2.2.2.2.2.2⟩) ⟨HLga.out, HLgc.out, HLgb.out, HLgd.out, HLge.out, HLgf.out⟩).mono ?_
  obtain ⟨rb9, hb8⟩ : ∃ qb, (fmR g) = qb := ⟨_, rfl⟩
  rw [hb8]
  have Hhb8 := Lib.hid hb8
  clear hb8
  rintro e w6 ⟨rfl, k7⟩
  have Kk10 := Lib.hid k7
  clear k7
  cases rb9 with
  | false =>
    have kvV0 : Sees V0 (w.heap.size + 1) w6 := sees_kept _ Kk10.out
    go_wp2_with (refine stop_store 32 (.tmp 2) (.tmp 6) rfl ?_)
    intro _
    refine wpList_store_part_n (by rfl) 32 (.tmp 2) (.tmp 6) rfl (w.heap.size + 1) 0 #[.int .i64 0, .int .i64 0, .int .i64 0, .int .i64 0, .slice none 0 0] (by rfl) (by rfl) 32 size_term (row_ok rfl) ?_
    intro W11 hW11
    clear kvV0
    subst hW11
    refine ⟨_, #[.int .i64 0, .int .i64 0, .int .i64 0, .int .i64 0, .slice none 0 0], (blk_at Hx2.out Kk10.out), rfl, Nat.le_of_ble_eq_true rfl, ?_⟩
    intro W12 hW12
    go_wp2_with fail
    refine bodyPost_ret (results_cell_row rfl _ _ (w.heap.size + 1) 32 _ _ du rfl (blk_same (blk_at Hx2.out Kk10.out) hW12) hu1 (by cases du <;> first | rfl | exact hu2) size_term) rfl ?_
    rw [show cgSig g = (Tm.mk 0 0 0 0 []) from by unfold cgSig; rw [Hhb8.out]; (try rfl)]
    exact ⟨_, rfl, par_end (par_row' (liesQ_nil w6 (Par w V0.heap.size [] P)) hW12 (by omega) (by have := Z0.out; omega)) (by have := Z0.out; omega), kept_set (kept_trans Kk5.out Kk10.out) hW12 (by omega)⟩
  | true =>
    have kvV0 : Sees V0 (w.heap.size + 1) w6 := sees_kept _ Kk10.out
    go_wp2_with (refine stop_load 72 (.tmp 1) rfl ?_)
    intro _
    refine wpList_load_part (w.heap.size) 0 72 (.tmp 1) #[.int .i64 g.i, .int .i64 g.j, .int .i64 g.a.k, .int .i64 g.a.i, .int .i64 g.a.j, .int .i64 g.a.n, (.slice aga g.a.kids.length cga), .int .i64 g.c.k, .int .i64 g.c.i, .int .i64 g.c.j, .int .i64 g.c.n, (.slice agc g.c.kids.length cgc), .int .i64 g.b.k, .int .i64 g.b.i, .int .i64 g.b.j, .int .i64 g.b.n, (.slice agb g.b.kids.length cgb), .int .i64 g.d.k, .int .i64 g.d.i, .int .i64 g.d.j, .int .i64 g.d.n, (.slice agd g.d.kids.length cgd), .int .i64 g.e.k, .int .i64 g.e.i, .int .i64 g.e.j, .int .i64 g.e.n, (.slice age g.e.kids.length cge), .int .i64 g.f.k, .int .i64 g.f.i, .int .i64 g.f.j, .int .i64 g.f.n, (.slice agf g.f.kids.length cgf)] dg (blk_at Hx1.out Kk10.out) (by rfl) rfl (by rfl) (by rfl) dg1 (by cases dg <;> first | rfl | exact dg2) (by kernel_rfl) ?_
    go_wp2_with fail
    clear kvV0
    refine (cfuse_any 14 g [] (Par w V0.heap.size [] P) _ (.slice aga g.a.kids.length cga) (.slice agc g.c.kids.length cgc) (.slice agb g.b.kids.length cgb) (.slice agd g.d.kids.length cgd) (.slice age g.e.kids.length cge) (.slice agf g.f.kids.length cgf) (.slice none 0 0) (show Fm.fine g from ⟨Gg.out.1, Gg.out.2.1, Gg.out.2.2.1, Gg.out.2.2.2.1, Gg.out.2.2.2.2.1, Gg.out.2.2.2.2.2.1, Gg.out.2.2.2.2.2.2.1, Gg.out.2.2.2.2.2.2.2⟩) ⟨(HLga.out.later Kk10.out), (HLgc.out.later Kk10.out), (HLgb.out.later Kk10.out), (HLgd.out.later Kk10.out), (HLge.out.later Kk10.out), (HLgf.out.later Kk10.out)⟩ (show I64 14 from by unfold I64; decide) (liesQ_nil w6 (Par w V0.heap.size [] P)) Hhb8.out (fun _ h => nomatch h) (Nat.le_of_ble_eq_true rfl)).mono ?_
    obtain ⟨U20, hU20⟩ : ∃ qu, sixT 14 g [] = qu := ⟨_, rfl⟩
    rw [hU20]
    have HU20 := Lib.hid hU20
    clear hU20
    rintro e w13 ⟨s15, rfl, hl16, k14⟩
    obtain ⟨a17, c18, S19, rfl, -⟩ := hl16.out
    have Kk21 := Lib.hid k14
    clear k14
    have Hhl16 : Hid (LiesQ w13 (Par w V0.heap.size [] P) U20.kids _) := par_give hl16 (Below.size Kk10.out) (xlt_nil _)
    clear hl16
    have kvV0 : Sees V0 (w.heap.size + 1) w13 := sees_kept _ (kept_trans Kk10.out Kk21.out)
    go_wp2_with (refine stop_store 32 (.tmp 2) (.tmp 8) rfl ?_)
    intro _
    refine wpList_store_part_n (by rfl) 32 (.tmp 2) (.tmp 8) rfl (w.heap.size + 1) 0 #[.int .i64 U20.k, .int .i64 U20.i, .int .i64 U20.j, .int .i64 U20.n, (.slice a17 U20.kids.length c18)] (by rfl) (by rfl) 32 size_term (row_ok rfl) ?_
    intro W22 hW22
    clear kvV0
    subst hW22
    refine ⟨_, #[.int .i64 U20.k, .int .i64 U20.i, .int .i64 U20.j, .int .i64 U20.n, (.slice a17 U20.kids.length c18)], (blk_at Hx2.out (kept_trans Kk10.out Kk21.out)), rfl, Nat.le_of_ble_eq_true rfl, ?_⟩
    intro W23 hW23
    go_wp2_with fail
    refine bodyPost_ret (results_cell_row rfl _ _ (w.heap.size + 1) 32 _ _ du rfl (blk_same (blk_at Hx2.out (kept_trans Kk10.out Kk21.out)) hW23) hu1 (by cases du <;> first | rfl | exact hu2) size_term) rfl ?_
    rw [show cgSig g = U20 from by unfold cgSig; rw [Hhb8.out]; rw [← HU20.out]; (try rfl)]
    exact ⟨_, rfl, par_end (par_row' Hhl16.out hW23 (by omega) (by have := Z0.out; omega)) (by have := Z0.out; omega), kept_set (kept_trans Kk5.out (kept_trans Kk10.out Kk21.out)) hW23 (by omega)⟩

def cLamr3_0 : Oper := { dst := some 23, op := Go.Op.fieldAddr 72 (Go.Operand.tmp 4) 2, type := 0, pos := "cong.go:54", after := #[], guard := none }
def cLamr3_1 : Oper := { dst := some 24, op := Go.Op.load 32 (Go.Operand.tmp 23), type := 32, pos := "cong.go:54", after := #[{ on := 0, ground := Go.Ground.data }], guard := none }
def cLamr3_2 : Oper := { dst := some 25, op := Go.Op.load 32 (Go.Operand.tmp 5), type := 32, pos := "cong.go:54", after := #[], guard := none }
def cLamr3_3 : Oper := { dst := some 26, op := Go.Op.call { callee := Go.Callee.value (Go.Operand.func 119), args := #[Go.Operand.const (Go.Value.int Go.IntKind.i64 14), Go.Operand.tmp 24, Go.Operand.tmp 25], argTypes := #[3, 32, 32] }, type := 32, pos := "cong.go:54", after := #[{ on := 1, ground := Go.Ground.data }, { on := 2, ground := Go.Ground.data }], guard := none }
def cLamr3_4 : Oper := { dst := some 27, op := Go.Op.fieldAddr 72 (Go.Operand.tmp 4) 3, type := 0, pos := "cong.go:54", after := #[], guard := none }
def cLamr3_5 : Oper := { dst := some 28, op := Go.Op.load 32 (Go.Operand.tmp 27), type := 32, pos := "cong.go:54", after := #[{ on := 4, ground := Go.Ground.data }], guard := none }
def cLamr3_6 : Oper := { dst := some 29, op := Go.Op.load 32 (Go.Operand.tmp 6), type := 32, pos := "cong.go:54", after := #[], guard := none }
def cLamr3_7 : Oper := { dst := some 30, op := Go.Op.call { callee := Go.Callee.value (Go.Operand.func 119), args := #[Go.Operand.const (Go.Value.int Go.IntKind.i64 14), Go.Operand.tmp 28, Go.Operand.tmp 29], argTypes := #[3, 32, 32] }, type := 32, pos := "cong.go:54", after := #[{ on := 5, ground := Go.Ground.data }, { on := 6, ground := Go.Ground.data }, { on := 3, ground := Go.Ground.chain }], guard := none }
def cLamr3_8 : Oper := { dst := some 9, op := Go.Op.alloc 32, type := 0, pos := "cong.go:54", after := #[], guard := none }
def cLamr3_9 : Oper := { dst := some 10, op := Go.Op.alloc 32, type := 0, pos := "cong.go:54", after := #[], guard := none }
def cLamr3_10 : Oper := { dst := none, op := Go.Op.store 32 (Go.Operand.tmp 9) (Go.Operand.tmp 26), type := 0, pos := "cong.go:54", after := #[{ on := 8, ground := Go.Ground.data }, { on := 3, ground := Go.Ground.data }, { on := 7, ground := Go.Ground.chain }, { on := 0, ground := Go.Ground.phase }, { on := 1, ground := Go.Ground.phase }, { on := 2, ground := Go.Ground.phase }, { on := 3, ground := Go.Ground.phase }, { on := 4, ground := Go.Ground.textOnly Go.Departure.lateStores }, { on := 5, ground := Go.Ground.textOnly Go.Departure.lateStores }, { on := 6, ground := Go.Ground.textOnly Go.Departure.lateStores }, { on := 7, ground := Go.Ground.textOnly Go.Departure.lateStoresUnsure }, { on := 8, ground := Go.Ground.phase }, { on := 9, ground := Go.Ground.phase }], guard := none }
def cLamr3_11 : Oper := { dst := none, op := Go.Op.store 32 (Go.Operand.tmp 10) (Go.Operand.tmp 30), type := 0, pos := "cong.go:54", after := #[{ on := 9, ground := Go.Ground.data }, { on := 7, ground := Go.Ground.data }, { on := 10, ground := Go.Ground.chain }, { on := 0, ground := Go.Ground.phase }, { on := 1, ground := Go.Ground.phase }, { on := 2, ground := Go.Ground.phase }, { on := 3, ground := Go.Ground.phase }, { on := 4, ground := Go.Ground.phase }, { on := 5, ground := Go.Ground.phase }, { on := 6, ground := Go.Ground.phase }, { on := 7, ground := Go.Ground.phase }, { on := 8, ground := Go.Ground.phase }, { on := 9, ground := Go.Ground.phase }, { on := 10, ground := Go.Ground.phase }], guard := none }
def cLamr4_0 : Oper := { dst := some 31, op := Go.Op.load 72 (Go.Operand.tmp 4), type := 72, pos := "cong.go:55", after := #[], guard := none }
def cLamr4_1 : Oper := { dst := some 32, op := Go.Op.call { callee := Go.Callee.value (Go.Operand.func 121), args := #[Go.Operand.tmp 31], argTypes := #[72] }, type := 3, pos := "cong.go:55", after := #[{ on := 0, ground := Go.Ground.data }], guard := none }
def cLamr4_2 : Oper := { dst := some 33, op := Go.Op.fieldAddr 72 (Go.Operand.tmp 4) 2, type := 0, pos := "cong.go:55", after := #[], guard := none }
def cLamr4_3 : Oper := { dst := some 34, op := Go.Op.load 32 (Go.Operand.tmp 33), type := 32, pos := "cong.go:55", after := #[{ on := 2, ground := Go.Ground.data }], guard := none }
def cLamr4_4 : Oper := { dst := some 35, op := Go.Op.fieldAddr 72 (Go.Operand.tmp 4) 4, type := 0, pos := "cong.go:55", after := #[], guard := none }
def cLamr4_5 : Oper := { dst := some 36, op := Go.Op.load 32 (Go.Operand.tmp 35), type := 32, pos := "cong.go:55", after := #[{ on := 4, ground := Go.Ground.data }], guard := none }
def cLamr4_6 : Oper := { dst := some 37, op := Go.Op.call { callee := Go.Callee.value (Go.Operand.func 119), args := #[Go.Operand.const (Go.Value.int Go.IntKind.i64 13), Go.Operand.tmp 34, Go.Operand.tmp 36], argTypes := #[3, 32, 32] }, type := 32, pos := "cong.go:55", after := #[{ on := 3, ground := Go.Ground.data }, { on := 5, ground := Go.Ground.data }, { on := 1, ground := Go.Ground.chain }], guard := none }
def cLamr4_7 : Oper := { dst := some 38, op := Go.Op.fieldAddr 72 (Go.Operand.tmp 4) 3, type := 0, pos := "cong.go:55", after := #[], guard := none }
def cLamr4_8 : Oper := { dst := some 39, op := Go.Op.load 32 (Go.Operand.tmp 38), type := 32, pos := "cong.go:55", after := #[{ on := 7, ground := Go.Ground.data }], guard := none }
def cLamr4_9 : Oper := { dst := some 40, op := Go.Op.fieldAddr 72 (Go.Operand.tmp 4) 5, type := 0, pos := "cong.go:55", after := #[], guard := none }
def cLamr4_10 : Oper := { dst := some 41, op := Go.Op.load 32 (Go.Operand.tmp 40), type := 32, pos := "cong.go:55", after := #[{ on := 9, ground := Go.Ground.data }], guard := none }
def cLamr4_11 : Oper := { dst := some 42, op := Go.Op.call { callee := Go.Callee.value (Go.Operand.func 119), args := #[Go.Operand.const (Go.Value.int Go.IntKind.i64 13), Go.Operand.tmp 39, Go.Operand.tmp 41], argTypes := #[3, 32, 32] }, type := 32, pos := "cong.go:55", after := #[{ on := 8, ground := Go.Ground.data }, { on := 10, ground := Go.Ground.data }, { on := 6, ground := Go.Ground.chain }], guard := none }
def cLamr4_12 : Oper := { dst := some 43, op := Go.Op.load 32 (Go.Operand.tmp 9), type := 32, pos := "cong.go:55", after := #[], guard := none }
def cLamr4_13 : Oper := { dst := some 44, op := Go.Op.load 32 (Go.Operand.tmp 10), type := 32, pos := "cong.go:55", after := #[], guard := none }
def cLamr4_14 : Oper := { dst := some 45, op := Go.Op.load 72 (Go.Operand.tmp 4), type := 72, pos := "cong.go:55", after := #[], guard := none }
def cLamr4_15 : Oper := { dst := some 46, op := Go.Op.load 32 (Go.Operand.tmp 9), type := 32, pos := "cong.go:55", after := #[], guard := none }
def cLamr4_16 : Oper := { dst := some 47, op := Go.Op.load 32 (Go.Operand.tmp 10), type := 32, pos := "cong.go:55", after := #[], guard := none }
def cLamr4_17 : Oper := { dst := some 48, op := Go.Op.load 32 (Go.Operand.tmp 7), type := 32, pos := "cong.go:55", after := #[], guard := none }
def cLamr4_18 : Oper := { dst := some 49, op := Go.Op.buildSlice 30 3 #[(0, Go.Operand.tmp 46), (1, Go.Operand.tmp 47), (2, Go.Operand.tmp 48)], type := 30, pos := "cong.go:55", after := #[{ on := 15, ground := Go.Ground.data }, { on := 16, ground := Go.Ground.data }, { on := 17, ground := Go.Ground.data }], guard := none }
def cLamr4_19 : Oper := { dst := some 50, op := Go.Op.call { callee := Go.Callee.value (Go.Operand.func 115), args := #[Go.Operand.tmp 45, Go.Operand.const (Go.Value.int Go.IntKind.i64 15), Go.Operand.tmp 49], argTypes := #[72, 3, 30] }, type := 32, pos := "cong.go:55", after := #[{ on := 14, ground := Go.Ground.data }, { on := 18, ground := Go.Ground.data }, { on := 11, ground := Go.Ground.chain }], guard := none }
def cLamr4_20 : Oper := { dst := some 51, op := Go.Op.build 51 #[(0, Go.Operand.tmp 32), (1, Go.Operand.tmp 37), (2, Go.Operand.tmp 42), (3, Go.Operand.tmp 43), (4, Go.Operand.tmp 44), (5, Go.Operand.tmp 50)], type := 51, pos := "cong.go:55", after := #[{ on := 1, ground := Go.Ground.data }, { on := 6, ground := Go.Ground.data }, { on := 11, ground := Go.Ground.data }, { on := 12, ground := Go.Ground.data }, { on := 13, ground := Go.Ground.data }, { on := 19, ground := Go.Ground.data }], guard := none }
def cLamr4_21 : Oper := { dst := some 52, op := Go.Op.call { callee := Go.Callee.value (Go.Operand.func 120), args := #[Go.Operand.tmp 51], argTypes := #[51] }, type := 51, pos := "cong.go:55", after := #[{ on := 20, ground := Go.Ground.data }, { on := 19, ground := Go.Ground.chain }], guard := none }
def cLamr4_22 : Oper := { dst := none, op := Go.Op.store 51 (Go.Operand.tmp 8) (Go.Operand.tmp 52), type := 0, pos := "cong.go:55", after := #[{ on := 21, ground := Go.Ground.data }, { on := 21, ground := Go.Ground.chain }, { on := 0, ground := Go.Ground.phase }, { on := 1, ground := Go.Ground.phase }, { on := 2, ground := Go.Ground.phase }, { on := 3, ground := Go.Ground.phase }, { on := 4, ground := Go.Ground.phase }, { on := 5, ground := Go.Ground.phase }, { on := 6, ground := Go.Ground.phase }, { on := 7, ground := Go.Ground.phase }, { on := 8, ground := Go.Ground.phase }, { on := 9, ground := Go.Ground.phase }, { on := 10, ground := Go.Ground.phase }, { on := 11, ground := Go.Ground.phase }, { on := 12, ground := Go.Ground.phase }, { on := 13, ground := Go.Ground.phase }, { on := 14, ground := Go.Ground.phase }, { on := 15, ground := Go.Ground.phase }, { on := 16, ground := Go.Ground.phase }, { on := 17, ground := Go.Ground.phase }, { on := 18, ground := Go.Ground.phase }, { on := 19, ground := Go.Ground.phase }, { on := 20, ground := Go.Ground.phase }, { on := 21, ground := Go.Ground.phase }], guard := none }
set_option maxRecDepth 20000 in
set_option maxHeartbeats 4000000 in
theorem cLam_any (x : Tm) (y : Tm) (z : Tm) (g : Fm) (P : Nat → Prop) (w : World) (sga : Value) (sgc : Value) (sgb : Value) (sgd : Value) (sge : Value) (sgf : Value) (sx : Value) (sy : Value) (sz : Value) (hfg : g.fine) (hlg : FQ w P g sga sgc sgb sgd sge sgf) (hfx : x.fine) (hlx : LiesQ w P x.kids sx) (hfy : y.fine) (hly : LiesQ w P y.kids sy) (hfz : z.fine) (hlz : LiesQ w P z.kids sz) : Calls Try.prog 60 #[fv g sga sgc sgb sgd sge sgf, tv x sx, tv y sy, tv z sz] w (GivesHP P (cgLam g x y z) w) := by
  have Gg := Lib.hid hfg
  clear hfg
  obtain ⟨hlga, hlgc, hlgb, hlgd, hlge, hlgf⟩ := hlg
  obtain ⟨aga, cga, Sga, rfl, -⟩ := hlga.out
  obtain ⟨agc, cgc, Sgc, rfl, -⟩ := hlgc.out
  obtain ⟨agb, cgb, Sgb, rfl, -⟩ := hlgb.out
  obtain ⟨agd, cgd, Sgd, rfl, -⟩ := hlgd.out
  obtain ⟨age, cge, Sge, rfl, -⟩ := hlge.out
  obtain ⟨agf, cgf, Sgf, rfl, -⟩ := hlgf.out
  have Gx := Lib.hid hfx
  clear hfx
  obtain ⟨ax, cx, Sx, rfl, -⟩ := hlx.out
  have Gy := Lib.hid hfy
  clear hfy
  obtain ⟨ay, cy, Sy, rfl, -⟩ := hly.out
  have Gz := Lib.hid hfz
  clear hfz
  obtain ⟨az, cz, Sz, rfl, -⟩ := hlz.out
  obtain ⟨du, hu1, hu2⟩ := under_term
  obtain ⟨dg, dg1, dg2⟩ := under_of 72 (by kernel_rfl)
  obtain ⟨dh, dh1, dh2⟩ := under_of 51 (by kernel_rfl)
  unfold fv
  unfold tv
  go_enter Try.func60, Try.ntmps60
  go_upto_region 1 with fail
  refine at_code (fun V0 hV0 => ?_)
  obtain ⟨k6, x1, x2, x3, x4, x5, z7⟩ := alloc5 hV0
  have Kk8 := Lib.hid k6
  clear k6
  have Hx1 := Lib.hid x1
  have Hx2 := Lib.hid x2
  have Hx3 := Lib.hid x3
  have Hx4 := Lib.hid x4
  have Hx5 := Lib.hid x5
  have Z0 := Lib.hid z7
  clear z7 x1 x2 x3 x4 x5 hV0
  have HLga : Hid (LiesQ V0 (Par w V0.heap.size [] P) g.a.kids _) := (par_in _ _ hlga).later Kk8.out
  clear hlga
  have HLgc : Hid (LiesQ V0 (Par w V0.heap.size [] P) g.c.kids _) := (par_in _ _ hlgc).later Kk8.out
  clear hlgc
  have HLgb : Hid (LiesQ V0 (Par w V0.heap.size [] P) g.b.kids _) := (par_in _ _ hlgb).later Kk8.out
  clear hlgb
  have HLgd : Hid (LiesQ V0 (Par w V0.heap.size [] P) g.d.kids _) := (par_in _ _ hlgd).later Kk8.out
  clear hlgd
  have HLge : Hid (LiesQ V0 (Par w V0.heap.size [] P) g.e.kids _) := (par_in _ _ hlge).later Kk8.out
  clear hlge
  have HLgf : Hid (LiesQ V0 (Par w V0.heap.size [] P) g.f.kids _) := (par_in _ _ hlgf).later Kk8.out
  clear hlgf
  have HLx : Hid (LiesQ V0 (Par w V0.heap.size [] P) x.kids _) := (par_in _ _ hlx).later Kk8.out
  clear hlx
  have HLy : Hid (LiesQ V0 (Par w V0.heap.size [] P) y.kids _) := (par_in _ _ hly).later Kk8.out
  clear hly
  have HLz : Hid (LiesQ V0 (Par w V0.heap.size [] P) z.kids _) := (par_in _ _ hlz).later Kk8.out
  clear hlz
  have kvV0 : Sees V0 (w.heap.size + 4) V0 := sees_kept _ (kept_refl _)
  go_wp2_with (refine stop_load 72 (.tmp 4) rfl ?_)
  intro _
  refine wpList_load_part (w.heap.size) 0 72 (.tmp 4) #[.int .i64 g.i, .int .i64 g.j, .int .i64 g.a.k, .int .i64 g.a.i, .int .i64 g.a.j, .int .i64 g.a.n, (.slice aga g.a.kids.length cga), .int .i64 g.c.k, .int .i64 g.c.i, .int .i64 g.c.j, .int .i64 g.c.n, (.slice agc g.c.kids.length cgc), .int .i64 g.b.k, .int .i64 g.b.i, .int .i64 g.b.j, .int .i64 g.b.n, (.slice agb g.b.kids.length cgb), .int .i64 g.d.k, .int .i64 g.d.i, .int .i64 g.d.j, .int .i64 g.d.n, (.slice agd g.d.kids.length cgd), .int .i64 g.e.k, .int .i64 g.e.i, .int .i64 g.e.j, .int .i64 g.e.n, (.slice age g.e.kids.length cge), .int .i64 g.f.k, .int .i64 g.f.i, .int .i64 g.f.j, .int .i64 g.f.n, (.slice agf g.f.kids.length cgf)] dg Hx1.out (by rfl) rfl (by rfl) (by rfl) dg1 (by cases dg <;> first | rfl | exact dg2) (by kernel_rfl) ?_
  go_wp2_with fail
  clear kvV0
  refine (cright_any g (Par w V0.heap.size [] P) _ (.slice aga g.a.kids.length cga) (.slice agc g.c.kids.length cgc) (.slice agb g.b.kids.length cgb) (.slice agd g.d.kids.length cgd) (.slice age g.e.kids.length cge) (.slice agf g.f.kids.length cgf) (show Fm.fine g from ⟨Gg.out.1, Gg.out.2.1, Gg.out.2.2.1, Gg.out.2.2.2.1, Gg.out.2.2.2.2.1, Gg.out.2.2.2.2.2.1, Gg.out.2.2.2.2.2.2.1, Gg.out.2.2.2.2.2.2.2⟩) ⟨HLga.out, HLgc.out, HLgb.out, HLgd.out, HLge.out, HLgf.out⟩).mono ?_
  obtain ⟨rb12, hb11⟩ : ∃ qb, (fmR g) = qb := ⟨_, rfl⟩
  rw [hb11]
  have Hhb11 := Lib.hid hb11
  clear hb11
  rintro e w9 ⟨rfl, k10⟩
  have Kk13 := Lib.hid k10
  clear k10
  cases rb12 with
  | false =>
    have kvV0 : Sees V0 (w.heap.size + 4) w9 := sees_kept _ Kk13.out
    go_wp2_with (refine stop_store 51 (.tmp 8) (.tmp 22) rfl ?_)
    intro _
    refine wpList_store_part_n (by rfl) 51 (.tmp 8) (.tmp 22) rfl (w.heap.size + 4) 0 #[.int .i64 0, .int .i64 0, .int .i64 0, .int .i64 0, .int .i64 0, .slice none 0 0, .int .i64 0, .int .i64 0, .int .i64 0, .int .i64 0, .slice none 0 0, .int .i64 0, .int .i64 0, .int .i64 0, .int .i64 0, .slice none 0 0, .int .i64 0, .int .i64 0, .int .i64 0, .int .i64 0, .slice none 0 0, .int .i64 0, .int .i64 0, .int .i64 0, .int .i64 0, .slice none 0 0] (by rfl) (by rfl) 51 (by kernel_rfl) (row_ok rfl) ?_
    intro W14 hW14
    clear kvV0
    subst hW14
    refine ⟨_, #[.int .i64 0, .int .i64 0, .int .i64 0, .int .i64 0, .int .i64 0, .slice none 0 0, .int .i64 0, .int .i64 0, .int .i64 0, .int .i64 0, .slice none 0 0, .int .i64 0, .int .i64 0, .int .i64 0, .int .i64 0, .slice none 0 0, .int .i64 0, .int .i64 0, .int .i64 0, .int .i64 0, .slice none 0 0, .int .i64 0, .int .i64 0, .int .i64 0, .int .i64 0, .slice none 0 0], (blk_at Hx5.out Kk13.out), rfl, Nat.le_of_ble_eq_true rfl, ?_⟩
    intro W15 hW15
    go_wp2_with fail
    refine bodyPost_ret (results_cell_row rfl _ _ (w.heap.size + 4) 51 _ _ dh rfl (blk_same (blk_at Hx5.out Kk13.out) hW15) dh1 (by cases dh <;> first | rfl | exact dh2) (by kernel_rfl)) rfl ?_
    rw [show cgLam g x y z = (⟨0, (.mk 0 0 0 0 []), (.mk 0 0 0 0 []), (.mk 0 0 0 0 []), (.mk 0 0 0 0 []), (.mk 0 0 0 0 [])⟩ : He) from by unfold cgLam; rw [Hhb11.out]; (try rfl)]
    exact ⟨_, _, _, _, _, rfl, ⟨par_end (par_row' (liesQ_nil w9 (Par w V0.heap.size [] P)) hW15 (by omega) (by have := Z0.out; omega)) (by have := Z0.out; omega), par_end (par_row' (liesQ_nil w9 (Par w V0.heap.size [] P)) hW15 (by omega) (by have := Z0.out; omega)) (by have := Z0.out; omega), par_end (par_row' (liesQ_nil w9 (Par w V0.heap.size [] P)) hW15 (by omega) (by have := Z0.out; omega)) (by have := Z0.out; omega), par_end (par_row' (liesQ_nil w9 (Par w V0.heap.size [] P)) hW15 (by omega) (by have := Z0.out; omega)) (by have := Z0.out; omega), par_end (par_row' (liesQ_nil w9 (Par w V0.heap.size [] P)) hW15 (by omega) (by have := Z0.out; omega)) (by have := Z0.out; omega)⟩, kept_set (kept_trans Kk8.out Kk13.out) hW15 (by omega)⟩
  | true =>
    have kvV0 : Sees V0 (w.heap.size + 4) w9 := sees_kept _ Kk13.out
    go_wp2_with (refine stop_load 32 (.tmp 5) rfl ?_)
    intro _
    refine wpList_load_part (w.heap.size + 1) 0 32 (.tmp 5) #[.int .i64 x.k, .int .i64 x.i, .int .i64 x.j, .int .i64 x.n, (.slice ax x.kids.length cx)] du (blk_at Hx2.out Kk13.out) (by rfl) rfl (by rfl) (by rfl) hu1 (by cases du <;> first | rfl | exact hu2) size_term ?_
    go_wp2_with (refine stop_load 32 (.tmp 6) rfl ?_)
    intro _
    refine wpList_load_part (w.heap.size + 2) 0 32 (.tmp 6) #[.int .i64 y.k, .int .i64 y.i, .int .i64 y.j, .int .i64 y.n, (.slice ay y.kids.length cy)] du (blk_at Hx3.out Kk13.out) (by rfl) rfl (by rfl) (by rfl) hu1 (by cases du <;> first | rfl | exact hu2) size_term ?_
    go_wp2_with (refine stop_load 32 (.tmp 7) rfl ?_)
    intro _
    refine wpList_load_part (w.heap.size + 3) 0 32 (.tmp 7) #[.int .i64 z.k, .int .i64 z.i, .int .i64 z.j, .int .i64 z.n, (.slice az z.kids.length cz)] du (blk_at Hx4.out Kk13.out) (by rfl) rfl (by rfl) (by rfl) hu1 (by cases du <;> first | rfl | exact hu2) size_term ?_
    go_wp2_with fail
    refine at_world (fun W17 hW17 => ?_)
    clear kvV0
    obtain ⟨k19, x18, z20⟩ := alloc1 hW17
    have Kk21 := Lib.hid k19
    clear k19
    have Hx18 := Lib.hid x18
    have Hz20 := Lib.hid z20
    clear x18 z20 hW17
    have kq23 := (kept_trans Kk13.out Kk21.out)
    have HR22 := Lib.hid (q_row3 Hx18.out Gx.out (HLx.out.later kq23) Gy.out (HLy.out.later kq23) Gz.out (HLz.out.later kq23) (par_new (Below.size Kk13.out) (xlt_nil _) (Nat.le_refl _)))
    clear kq23
    refine (cplain_any [x, y, z] _ _ HR22.out.lies).mono ?_
    obtain ⟨rb27, hb26⟩ : ∃ qb, (plainL [x, y, z]) = qb := ⟨_, rfl⟩
    rw [hb26]
    have Hhb26 := Lib.hid hb26
    clear hb26
    rintro e w24 ⟨rfl, k25⟩
    have Kk28 := Lib.hid k25
    clear k25
    cases rb27 with
    | false =>
      have kvV0 : Sees V0 (w.heap.size + 4) w24 := sees_kept _ (kept_trans Kk13.out (kept_trans Kk21.out Kk28.out))
      go_wp2_with (refine stop_store 51 (.tmp 8) (.tmp 22) rfl ?_)
      intro _
      refine wpList_store_part_n (by rfl) 51 (.tmp 8) (.tmp 22) rfl (w.heap.size + 4) 0 #[.int .i64 0, .int .i64 0, .int .i64 0, .int .i64 0, .int .i64 0, .slice none 0 0, .int .i64 0, .int .i64 0, .int .i64 0, .int .i64 0, .slice none 0 0, .int .i64 0, .int .i64 0, .int .i64 0, .int .i64 0, .slice none 0 0, .int .i64 0, .int .i64 0, .int .i64 0, .int .i64 0, .slice none 0 0, .int .i64 0, .int .i64 0, .int .i64 0, .int .i64 0, .slice none 0 0] (by rfl) (by rfl) 51 (by kernel_rfl) (row_ok rfl) ?_
      intro W29 hW29
      clear kvV0
      subst hW29
      refine ⟨_, #[.int .i64 0, .int .i64 0, .int .i64 0, .int .i64 0, .int .i64 0, .slice none 0 0, .int .i64 0, .int .i64 0, .int .i64 0, .int .i64 0, .slice none 0 0, .int .i64 0, .int .i64 0, .int .i64 0, .int .i64 0, .slice none 0 0, .int .i64 0, .int .i64 0, .int .i64 0, .int .i64 0, .slice none 0 0, .int .i64 0, .int .i64 0, .int .i64 0, .int .i64 0, .slice none 0 0], (blk_at Hx5.out (kept_trans Kk13.out (kept_trans Kk21.out Kk28.out))), rfl, Nat.le_of_ble_eq_true rfl, ?_⟩
      intro W30 hW30
      go_wp2_with fail
      refine bodyPost_ret (results_cell_row rfl _ _ (w.heap.size + 4) 51 _ _ dh rfl (blk_same (blk_at Hx5.out (kept_trans Kk13.out (kept_trans Kk21.out Kk28.out))) hW30) dh1 (by cases dh <;> first | rfl | exact dh2) (by kernel_rfl)) rfl ?_
      rw [show cgLam g x y z = (⟨0, (.mk 0 0 0 0 []), (.mk 0 0 0 0 []), (.mk 0 0 0 0 []), (.mk 0 0 0 0 []), (.mk 0 0 0 0 [])⟩ : He) from by unfold cgLam; rw [Hhb11.out, Hhb26.out]; (try rfl)]
      exact ⟨_, _, _, _, _, rfl, ⟨par_end (par_row' (liesQ_nil w24 (Par w V0.heap.size [] P)) hW30 (by omega) (by have := Z0.out; omega)) (by have := Z0.out; omega), par_end (par_row' (liesQ_nil w24 (Par w V0.heap.size [] P)) hW30 (by omega) (by have := Z0.out; omega)) (by have := Z0.out; omega), par_end (par_row' (liesQ_nil w24 (Par w V0.heap.size [] P)) hW30 (by omega) (by have := Z0.out; omega)) (by have := Z0.out; omega), par_end (par_row' (liesQ_nil w24 (Par w V0.heap.size [] P)) hW30 (by omega) (by have := Z0.out; omega)) (by have := Z0.out; omega), par_end (par_row' (liesQ_nil w24 (Par w V0.heap.size [] P)) hW30 (by omega) (by have := Z0.out; omega)) (by have := Z0.out; omega)⟩, kept_set (kept_trans Kk8.out (kept_trans Kk13.out (kept_trans Kk21.out Kk28.out))) hW30 (by omega)⟩
    | true =>
      have kvV0 : Sees V0 (w.heap.size + 4) w24 := sees_kept _ (kept_trans Kk13.out (kept_trans Kk21.out Kk28.out))
      go_wp2_with fail
      clear kvV0
      obtain ⟨W31, h32⟩ : ∃ x, World.drew w24 = x := ⟨_, rfl⟩
      have k33 : Kept w24 W31 := by rw [← h32]; exact kept_drew (kept_refl _)
      have Kk34 := Lib.hid k33
      clear k33
      refine wp_region_held_drew (S := Sees W31 (w.heap.size + 4)) (by kernel_rfl) ?_ (fun hHeld => ?_)
      · (try dsimp only)
        rw [h32]
        exact sees_kept _ (kept_refl _)
      rw [h32] at hHeld ⊢
      clear h32
      refine take_at 0 23 cLamr3_0 (v := ?_) (Or.inl ⟨by rfl, ?_⟩) ?_
      rotate_left 1
      · ((intro w hSw; (try dsimp only at hSw); unfold cLamr3_0; go_simp) <;> with_reducible rfl)
      (try simp only [Act.put, List.setIfInBounds_toArray, List.set_cons_zero, List.set_cons_succ])
      refine take_at 1 24 cLamr3_1 (yields_part (w.heap.size) 2 32 (.tmp 23) #[.int .i64 g.a.k, .int .i64 g.a.i, .int .i64 g.a.j, .int .i64 g.a.n, (.slice aga g.a.kids.length cga)] du (fun _ h => sees_blk Hx1.out (by have := Z0.out; omega) (sees_of (kept_trans Kk13.out (kept_trans Kk21.out (kept_trans Kk28.out Kk34.out))) h)) (by rfl) rfl (by rfl) (by rfl) hu1 (by cases du <;> first | rfl | exact hu2) size_term) ?_
      (try simp only [Act.put, List.setIfInBounds_toArray, List.set_cons_zero, List.set_cons_succ])
      refine take_at 2 25 cLamr3_2 (yields_part (w.heap.size + 1) 0 32 (.tmp 5) #[.int .i64 x.k, .int .i64 x.i, .int .i64 x.j, .int .i64 x.n, (.slice ax x.kids.length cx)] du (fun _ h => sees_blk Hx2.out (by have := Z0.out; omega) (sees_of (kept_trans Kk13.out (kept_trans Kk21.out (kept_trans Kk28.out Kk34.out))) h)) (by rfl) rfl (by rfl) (by rfl) hu1 (by cases du <;> first | rfl | exact hu2) size_term) ?_
      (try simp only [Act.put, List.setIfInBounds_toArray, List.set_cons_zero, List.set_cons_succ])
      refine take_at 4 27 cLamr3_4 (v := ?_) (Or.inl ⟨by rfl, ?_⟩) ?_
      rotate_left 1
      · ((intro w hSw; (try dsimp only at hSw); unfold cLamr3_4; go_simp) <;> with_reducible rfl)
      (try simp only [Act.put, List.setIfInBounds_toArray, List.set_cons_zero, List.set_cons_succ])
      refine take_at 5 28 cLamr3_5 (yields_part (w.heap.size) 7 32 (.tmp 27) #[.int .i64 g.c.k, .int .i64 g.c.i, .int .i64 g.c.j, .int .i64 g.c.n, (.slice agc g.c.kids.length cgc)] du (fun _ h => sees_blk Hx1.out (by have := Z0.out; omega) (sees_of (kept_trans Kk13.out (kept_trans Kk21.out (kept_trans Kk28.out Kk34.out))) h)) (by rfl) rfl (by rfl) (by rfl) hu1 (by cases du <;> first | rfl | exact hu2) size_term) ?_
      (try simp only [Act.put, List.setIfInBounds_toArray, List.set_cons_zero, List.set_cons_succ])
      refine take_at 6 29 cLamr3_6 (yields_part (w.heap.size + 2) 0 32 (.tmp 6) #[.int .i64 y.k, .int .i64 y.i, .int .i64 y.j, .int .i64 y.n, (.slice ay y.kids.length cy)] du (fun _ h => sees_blk Hx3.out (by have := Z0.out; omega) (sees_of (kept_trans Kk13.out (kept_trans Kk21.out (kept_trans Kk28.out Kk34.out))) h)) (by rfl) rfl (by rfl) (by rfl) hu1 (by cases du <;> first | rfl | exact hu2) size_term) ?_
      (try simp only [Act.put, List.setIfInBounds_toArray, List.set_cons_zero, List.set_cons_succ])
      apply (via_joinTACTACCC (K := fun w322 U49 a46 c47 U329 a326 c327 g212 g105 => (Kept W31 w322) ∧ (nodeT 14 [g.a, x] = U49) ∧ (nodeT 14 [g.c, y] = U329) ∧ (LiesQ w322 (Par w V0.heap.size (g105 :: (g212 :: [])) P) U49.kids (.slice a46 U49.kids.length c47)) ∧ (LiesQ w322 (Par w V0.heap.size (g105 :: (g212 :: [])) P) U329.kids (.slice a326 U329.kids.length c327)) ∧ (w322.heap[g212]? = some (.cells #[.int .i64 0, .int .i64 0, .int .i64 0, .int .i64 0, .slice none 0 0] 32 (0, 0))) ∧ (w322.heap[g105]? = some (.cells #[.int .i64 0, .int .i64 0, .int .i64 0, .int .i64 0, .slice none 0 0] 32 (0, 0))) ∧ (V0.heap.size ≤ g212) ∧ (W31.heap.size ≤ g212) ∧ (W31.heap.size ≤ g212) ∧ (V0.heap.size ≤ g105) ∧ (W31.heap.size ≤ g105) ∧ (W31.heap.size ≤ g105) ∧ (g212 ≠ g105) ∧ (XLt (g105 :: (g212 :: [])) w322)))
      intro HJj41
      apply (via_joinTACTACC (K := fun W60 U49 a46 c47 U58 a55 c56 g64 => (Kept W31 W60) ∧ (nodeT 14 [g.a, x] = U49) ∧ (nodeT 14 [g.c, y] = U58) ∧ (LiesQ W60 (Par w V0.heap.size (g64 :: []) P) U49.kids (.slice a46 U49.kids.length c47)) ∧ (LiesQ W60 (Par w V0.heap.size (g64 :: []) P) U58.kids (.slice a55 U58.kids.length c56)) ∧ (W60.heap[g64]? = some (.cells #[.int .i64 0, .int .i64 0, .int .i64 0, .int .i64 0, .slice none 0 0] 32 (0, 0))) ∧ (V0.heap.size ≤ g64) ∧ (W31.heap.size ≤ g64) ∧ (W31.heap.size ≤ g64) ∧ (XLt (g64 :: []) W60)))
      intro HJj40
      apply (via_joinTACTACC (K := fun W74 U49 a46 c47 U58 a55 c56 g78 => (Kept W31 W74) ∧ (nodeT 14 [g.a, x] = U49) ∧ (nodeT 14 [g.c, y] = U58) ∧ (LiesQ W74 (Par w V0.heap.size (g78 :: []) P) U49.kids (.slice a46 U49.kids.length c47)) ∧ (LiesQ W74 (Par w V0.heap.size (g78 :: []) P) U58.kids (.slice a55 U58.kids.length c56)) ∧ (W74.heap[g78]? = some (.cells #[.int .i64 0, .int .i64 0, .int .i64 0, .int .i64 0, .slice none 0 0] 32 (0, 0))) ∧ (V0.heap.size ≤ g78) ∧ (W31.heap.size ≤ g78) ∧ (W31.heap.size ≤ g78) ∧ (XLt (g78 :: []) W74)))
      intro HJj39
      apply (via_joinTACCC (K := fun W208 U49 a46 c47 g212 g105 => (Kept W31 W208) ∧ (nodeT 14 [g.a, x] = U49) ∧ (LiesQ W208 (Par w V0.heap.size (g105 :: (g212 :: [])) P) U49.kids (.slice a46 U49.kids.length c47)) ∧ (W208.heap[g212]? = some (.cells #[.int .i64 0, .int .i64 0, .int .i64 0, .int .i64 0, .slice none 0 0] 32 (0, 0))) ∧ (W208.heap[g105]? = some (.cells #[.int .i64 0, .int .i64 0, .int .i64 0, .int .i64 0, .slice none 0 0] 32 (0, 0))) ∧ (V0.heap.size ≤ g212) ∧ (W31.heap.size ≤ g212) ∧ (W31.heap.size ≤ g212) ∧ (V0.heap.size ≤ g105) ∧ (W31.heap.size ≤ g105) ∧ (W31.heap.size ≤ g105) ∧ (g212 ≠ g105) ∧ (XLt (g105 :: (g212 :: [])) W208)))
      intro HJj38
      apply (via_joinTACC (K := fun W88 U49 a46 c47 g92 => (Kept W31 W88) ∧ (nodeT 14 [g.a, x] = U49) ∧ (LiesQ W88 (Par w V0.heap.size (g92 :: []) P) U49.kids (.slice a46 U49.kids.length c47)) ∧ (W88.heap[g92]? = some (.cells #[.int .i64 0, .int .i64 0, .int .i64 0, .int .i64 0, .slice none 0 0] 32 (0, 0))) ∧ (V0.heap.size ≤ g92) ∧ (W31.heap.size ≤ g92) ∧ (W31.heap.size ≤ g92) ∧ (XLt (g92 :: []) W88)))
      intro HJj37
      apply (via_joinCC (K := fun W135 g118 g139 => (Kept W31 W135) ∧ (W135.heap[g118]? = some (.cells #[.int .i64 0, .int .i64 0, .int .i64 0, .int .i64 0, .slice none 0 0] 32 (0, 0))) ∧ (W135.heap[g139]? = some (.cells #[.int .i64 0, .int .i64 0, .int .i64 0, .int .i64 0, .slice none 0 0] 32 (0, 0))) ∧ (V0.heap.size ≤ g118) ∧ (W31.heap.size ≤ g118) ∧ (W31.heap.size ≤ g118) ∧ (V0.heap.size ≤ g139) ∧ (W31.heap.size ≤ g139) ∧ (W31.heap.size ≤ g139) ∧ (g118 ≠ g139) ∧ (XLt (g139 :: (g118 :: [])) W135)))
      intro HJj36
      apply (via_joinTACC (K := fun W101 U49 a46 c47 g105 => (Kept W31 W101) ∧ (nodeT 14 [g.a, x] = U49) ∧ (LiesQ W101 (Par w V0.heap.size (g105 :: []) P) U49.kids (.slice a46 U49.kids.length c47)) ∧ (W101.heap[g105]? = some (.cells #[.int .i64 0, .int .i64 0, .int .i64 0, .int .i64 0, .slice none 0 0] 32 (0, 0))) ∧ (V0.heap.size ≤ g105) ∧ (W31.heap.size ≤ g105) ∧ (W31.heap.size ≤ g105) ∧ (XLt (g105 :: []) W101)))
      intro HJj35
      · refine wpAnyH_ready (rs := [3, 8, 9]) (by kernel_rfl) (by simp) ?_
        refine AllReadyH.cons (o := cLamr3_3) rfl (fun K hK => ?_) ?_
        · unfold cLamr3_3
          go_simp
          refine (cmake2_any 14 g.a x (Par w V0.heap.size [] P) _ (.slice aga g.a.kids.length cga) (.slice ax x.kids.length cx) (show I64 14 from by unfold I64; decide) Gg.out.2.2.1 (HLga.out.later (kept_trans Kk13.out (kept_trans Kk21.out (kept_trans Kk28.out Kk34.out)))) Gx.out (HLx.out.later (kept_trans Kk13.out (kept_trans Kk21.out (kept_trans Kk28.out Kk34.out))))).mono ?_
          obtain ⟨U49, hU49⟩ : ∃ qu, nodeT 14 [g.a, x] = qu := ⟨_, rfl⟩
          rw [hU49]
          have HU49 := Lib.hid hU49
          clear hU49
          rintro e w42 ⟨s44, rfl, hl45, k43⟩
          obtain ⟨a46, c47, S48, rfl, -⟩ := hl45.out
          have Kk50 := Lib.hid k43
          clear k43
          have Hhl45 : Hid (LiesQ w42 (Par w V0.heap.size [] P) U49.kids _) := par_give hl45 (Below.size (kept_trans Kk13.out (kept_trans Kk21.out (kept_trans Kk28.out Kk34.out)))) (xlt_nil _)
          clear hl45
          (try clear hHeld)
          refine hK.out _ _ (sees_kept _ Kk50.out) (fun hHeld => ?_)
          clear hK K
          (try simp only [Act.put, List.setIfInBounds_toArray, List.set_cons_zero, List.set_cons_succ])
          refine wpAnyH_ready (rs := [7, 8, 9]) (by kernel_rfl) (by simp) ?_
          refine AllReadyH.cons (o := cLamr3_7) rfl (fun K hK => ?_) ?_
          · unfold cLamr3_7
            go_simp
            refine (cmake2_any 14 g.c y (Par w V0.heap.size [] P) _ (.slice agc g.c.kids.length cgc) (.slice ay y.kids.length cy) (show I64 14 from by unfold I64; decide) Gg.out.2.2.2.1 (HLgc.out.later (kept_trans Kk13.out (kept_trans Kk21.out (kept_trans Kk28.out (kept_trans Kk34.out Kk50.out))))) Gy.out (HLy.out.later (kept_trans Kk13.out (kept_trans Kk21.out (kept_trans Kk28.out (kept_trans Kk34.out Kk50.out)))))).mono ?_
            obtain ⟨U58, hU58⟩ : ∃ qu, nodeT 14 [g.c, y] = qu := ⟨_, rfl⟩
            rw [hU58]
            have HU58 := Lib.hid hU58
            clear hU58
            rintro e w51 ⟨s53, rfl, hl54, k52⟩
            obtain ⟨a55, c56, S57, rfl, -⟩ := hl54.out
            have Kk59 := Lib.hid k52
            clear k52
            have Hhl54 : Hid (LiesQ w51 (Par w V0.heap.size [] P) U58.kids _) := par_give hl54 (Below.size (kept_trans Kk13.out (kept_trans Kk21.out (kept_trans Kk28.out (kept_trans Kk34.out Kk50.out))))) (xlt_nil _)
            clear hl54
            (try clear hHeld)
            refine hK.out _ _ (sees_kept _ (kept_trans Kk50.out Kk59.out)) (fun hHeld => ?_)
            clear hK K
            (try simp only [Act.put, List.setIfInBounds_toArray, List.set_cons_zero, List.set_cons_succ])
            refine wpAnyH_ready (rs := [8, 9]) (by kernel_rfl) (by simp) ?_
            refine AllReadyH.cons (o := cLamr3_8) rfl (fun K hK => ?_) ?_
            · unfold cLamr3_8
              go_simp
              refine at_K (fun W60 hW60 => ?_)
              obtain ⟨g64, hg65, Kk62, Hx61, Hz63, KV66, HN67⟩ := alloc1v (kept_trans Kk13.out (kept_trans Kk21.out (kept_trans Kk28.out (kept_trans Kk34.out (kept_trans Kk50.out Kk59.out))))) hW60
              rw [hg65]
              clear hW60
              have HG68 : Hid (V0.heap.size ≤ g64) := (by show _ ≤ _; rw [← hg65]; exact (Below.size (kept_trans Kk13.out (kept_trans Kk21.out (kept_trans Kk28.out (kept_trans Kk34.out (kept_trans Kk50.out Kk59.out)))))))
              have XL69 : Hid (XLt (g64 :: []) W60) := (by show XLt _ _; rw [← hg65]; exact xlt_more (xlt_nil _) Kk62.out (by have := Hz63.out; omega))
              have HP70 : Hid (w51.heap.size ≤ g64) := (by show _ ≤ _; rw [← hg65]; exact Nat.le_refl _)
              have HD71 : Hid (W31.heap.size ≤ g64) := (by show _ ≤ _; rw [← hg65]; exact Below.size (kept_trans Kk50.out Kk59.out))
              clear hg65
              (try clear hHeld)
              refine hK.out _ _ (sees_kept _ (kept_trans Kk50.out (kept_trans Kk59.out Kk62.out))) (fun hHeld => ?_)
              clear hK K
              (try simp only [Act.put, List.setIfInBounds_toArray, List.set_cons_zero, List.set_cons_succ])
              have pg72 : ∀ (l : List Tm) (s : Value), LiesQ w42 (Par w V0.heap.size [] P) l s → LiesQ W60 (Par w V0.heap.size (g64 :: []) P) l s := fun _ _ h => par_grow h (kept_trans Kk59.out Kk62.out) (List.forall_mem_cons.2 ⟨(Or.inr (Nat.le_trans (Below.size Kk59.out) HP70.out)), (fun _ h => nomatch h)⟩)
              have pg73 : ∀ (l : List Tm) (s : Value), LiesQ w51 (Par w V0.heap.size [] P) l s → LiesQ W60 (Par w V0.heap.size (g64 :: []) P) l s := fun _ _ h => par_grow h Kk62.out (List.forall_mem_cons.2 ⟨(Or.inr HP70.out), (fun _ h => nomatch h)⟩)
              exact HJj40 W60 U49 a46 c47 U58 a55 c56 g64 ⟨(kept_trans Kk50.out (kept_trans Kk59.out Kk62.out)), HU49.out, HU58.out, (pg72 _ _ Hhl45.out), (pg73 _ _ Hhl54.out), Hx61.out, HG68.out, (Nat.le_trans (Below.size (kept_trans Kk50.out Kk59.out)) HP70.out), HD71.out, XL69.out⟩
            refine AllReadyH.cons (o := cLamr3_9) rfl (fun K hK => ?_) ?_
            · unfold cLamr3_9
              go_simp
              refine at_K (fun W74 hW74 => ?_)
              obtain ⟨g78, hg79, Kk76, Hx75, Hz77, KV80, HN81⟩ := alloc1v (kept_trans Kk13.out (kept_trans Kk21.out (kept_trans Kk28.out (kept_trans Kk34.out (kept_trans Kk50.out Kk59.out))))) hW74
              rw [hg79]
              clear hW74
              have HG82 : Hid (V0.heap.size ≤ g78) := (by show _ ≤ _; rw [← hg79]; exact (Below.size (kept_trans Kk13.out (kept_trans Kk21.out (kept_trans Kk28.out (kept_trans Kk34.out (kept_trans Kk50.out Kk59.out)))))))
              have XL83 : Hid (XLt (g78 :: []) W74) := (by show XLt _ _; rw [← hg79]; exact xlt_more (xlt_nil _) Kk76.out (by have := Hz77.out; omega))
              have HP84 : Hid (w51.heap.size ≤ g78) := (by show _ ≤ _; rw [← hg79]; exact Nat.le_refl _)
              have HD85 : Hid (W31.heap.size ≤ g78) := (by show _ ≤ _; rw [← hg79]; exact Below.size (kept_trans Kk50.out Kk59.out))
              clear hg79
              (try clear hHeld)
              refine hK.out _ _ (sees_kept _ (kept_trans Kk50.out (kept_trans Kk59.out Kk76.out))) (fun hHeld => ?_)
              clear hK K
              (try simp only [Act.put, List.setIfInBounds_toArray, List.set_cons_zero, List.set_cons_succ])
              have pg86 : ∀ (l : List Tm) (s : Value), LiesQ w42 (Par w V0.heap.size [] P) l s → LiesQ W74 (Par w V0.heap.size (g78 :: []) P) l s := fun _ _ h => par_grow h (kept_trans Kk59.out Kk76.out) (List.forall_mem_cons.2 ⟨(Or.inr (Nat.le_trans (Below.size Kk59.out) HP84.out)), (fun _ h => nomatch h)⟩)
              have pg87 : ∀ (l : List Tm) (s : Value), LiesQ w51 (Par w V0.heap.size [] P) l s → LiesQ W74 (Par w V0.heap.size (g78 :: []) P) l s := fun _ _ h => par_grow h Kk76.out (List.forall_mem_cons.2 ⟨(Or.inr HP84.out), (fun _ h => nomatch h)⟩)
              exact HJj39 W74 U49 a46 c47 U58 a55 c56 g78 ⟨(kept_trans Kk50.out (kept_trans Kk59.out Kk76.out)), HU49.out, HU58.out, (pg86 _ _ Hhl45.out), (pg87 _ _ Hhl54.out), Hx75.out, HG82.out, (Nat.le_trans (Below.size (kept_trans Kk50.out Kk59.out)) HP84.out), HD85.out, XL83.out⟩
            exact AllReadyH.nil
          refine AllReadyH.cons (o := cLamr3_8) rfl (fun K hK => ?_) ?_
          · unfold cLamr3_8
            go_simp
            refine at_K (fun W88 hW88 => ?_)
            obtain ⟨g92, hg93, Kk90, Hx89, Hz91, KV94, HN95⟩ := alloc1v (kept_trans Kk13.out (kept_trans Kk21.out (kept_trans Kk28.out (kept_trans Kk34.out Kk50.out)))) hW88
            rw [hg93]
            clear hW88
            have HG96 : Hid (V0.heap.size ≤ g92) := (by show _ ≤ _; rw [← hg93]; exact (Below.size (kept_trans Kk13.out (kept_trans Kk21.out (kept_trans Kk28.out (kept_trans Kk34.out Kk50.out))))))
            have XL97 : Hid (XLt (g92 :: []) W88) := (by show XLt _ _; rw [← hg93]; exact xlt_more (xlt_nil _) Kk90.out (by have := Hz91.out; omega))
            have HP98 : Hid (w42.heap.size ≤ g92) := (by show _ ≤ _; rw [← hg93]; exact Nat.le_refl _)
            have HD99 : Hid (W31.heap.size ≤ g92) := (by show _ ≤ _; rw [← hg93]; exact Below.size Kk50.out)
            clear hg93
            (try clear hHeld)
            refine hK.out _ _ (sees_kept _ (kept_trans Kk50.out Kk90.out)) (fun hHeld => ?_)
            clear hK K
            (try simp only [Act.put, List.setIfInBounds_toArray, List.set_cons_zero, List.set_cons_succ])
            have pg100 : ∀ (l : List Tm) (s : Value), LiesQ w42 (Par w V0.heap.size [] P) l s → LiesQ W88 (Par w V0.heap.size (g92 :: []) P) l s := fun _ _ h => par_grow h Kk90.out (List.forall_mem_cons.2 ⟨(Or.inr HP98.out), (fun _ h => nomatch h)⟩)
            exact HJj37 W88 U49 a46 c47 g92 ⟨(kept_trans Kk50.out Kk90.out), HU49.out, (pg100 _ _ Hhl45.out), Hx89.out, HG96.out, (Nat.le_trans (Below.size Kk50.out) HP98.out), HD99.out, XL97.out⟩
          refine AllReadyH.cons (o := cLamr3_9) rfl (fun K hK => ?_) ?_
          · unfold cLamr3_9
            go_simp
            refine at_K (fun W101 hW101 => ?_)
            obtain ⟨g105, hg106, Kk103, Hx102, Hz104, KV107, HN108⟩ := alloc1v (kept_trans Kk13.out (kept_trans Kk21.out (kept_trans Kk28.out (kept_trans Kk34.out Kk50.out)))) hW101
            rw [hg106]
            clear hW101
            have HG109 : Hid (V0.heap.size ≤ g105) := (by show _ ≤ _; rw [← hg106]; exact (Below.size (kept_trans Kk13.out (kept_trans Kk21.out (kept_trans Kk28.out (kept_trans Kk34.out Kk50.out))))))
            have XL110 : Hid (XLt (g105 :: []) W101) := (by show XLt _ _; rw [← hg106]; exact xlt_more (xlt_nil _) Kk103.out (by have := Hz104.out; omega))
            have HP111 : Hid (w42.heap.size ≤ g105) := (by show _ ≤ _; rw [← hg106]; exact Nat.le_refl _)
            have HD112 : Hid (W31.heap.size ≤ g105) := (by show _ ≤ _; rw [← hg106]; exact Below.size Kk50.out)
            clear hg106
            (try clear hHeld)
            refine hK.out _ _ (sees_kept _ (kept_trans Kk50.out Kk103.out)) (fun hHeld => ?_)
            clear hK K
            (try simp only [Act.put, List.setIfInBounds_toArray, List.set_cons_zero, List.set_cons_succ])
            have pg113 : ∀ (l : List Tm) (s : Value), LiesQ w42 (Par w V0.heap.size [] P) l s → LiesQ W101 (Par w V0.heap.size (g105 :: []) P) l s := fun _ _ h => par_grow h Kk103.out (List.forall_mem_cons.2 ⟨(Or.inr HP111.out), (fun _ h => nomatch h)⟩)
            exact HJj35 W101 U49 a46 c47 g105 ⟨(kept_trans Kk50.out Kk103.out), HU49.out, (pg113 _ _ Hhl45.out), Hx102.out, HG109.out, (Nat.le_trans (Below.size Kk50.out) HP111.out), HD112.out, XL110.out⟩
          exact AllReadyH.nil
        refine AllReadyH.cons (o := cLamr3_8) rfl (fun K hK => ?_) ?_
        · unfold cLamr3_8
          go_simp
          refine at_K (fun W114 hW114 => ?_)
          obtain ⟨g118, hg119, Kk116, Hx115, Hz117, KV120, HN121⟩ := alloc1v (kept_trans Kk13.out (kept_trans Kk21.out (kept_trans Kk28.out Kk34.out))) hW114
          rw [hg119]
          clear hW114
          have HG122 : Hid (V0.heap.size ≤ g118) := (by show _ ≤ _; rw [← hg119]; exact (Below.size (kept_trans Kk13.out (kept_trans Kk21.out (kept_trans Kk28.out Kk34.out)))))
          have XL123 : Hid (XLt (g118 :: []) W114) := (by show XLt _ _; rw [← hg119]; exact xlt_more (xlt_nil _) Kk116.out (by have := Hz117.out; omega))
          have HP124 : Hid (W31.heap.size ≤ g118) := (by show _ ≤ _; rw [← hg119]; exact Nat.le_refl _)
          have HD125 : Hid (W31.heap.size ≤ g118) := (by show _ ≤ _; rw [← hg119]; exact Below.size (kept_refl _))
          clear hg119
          (try clear hHeld)
          refine hK.out _ _ (sees_kept _ Kk116.out) (fun hHeld => ?_)
          clear hK K
          (try simp only [Act.put, List.setIfInBounds_toArray, List.set_cons_zero, List.set_cons_succ])
          refine wpAnyH_ready (rs := [3, 9]) (by kernel_rfl) (by simp) ?_
          refine AllReadyH.cons (o := cLamr3_3) rfl (fun K hK => ?_) ?_
          · unfold cLamr3_3
            go_simp
            refine (cmake2_any 14 g.a x (Par w V0.heap.size (g118 :: []) P) _ (.slice aga g.a.kids.length cga) (.slice ax x.kids.length cx) (show I64 14 from by unfold I64; decide) Gg.out.2.2.1 (par_grow HLga.out KV120.out (List.forall_mem_cons.2 ⟨(Or.inr (Nat.le_trans (Below.size (kept_trans Kk13.out (kept_trans Kk21.out (kept_trans Kk28.out Kk34.out)))) HP124.out)), (fun _ h => nomatch h)⟩)) Gx.out (par_grow HLx.out KV120.out (List.forall_mem_cons.2 ⟨(Or.inr (Nat.le_trans (Below.size (kept_trans Kk13.out (kept_trans Kk21.out (kept_trans Kk28.out Kk34.out)))) HP124.out)), (fun _ h => nomatch h)⟩))).mono ?_
            obtain ⟨U133, hU133⟩ : ∃ qu, nodeT 14 [g.a, x] = qu := ⟨_, rfl⟩
            rw [hU133]
            have HU133 := Lib.hid hU133
            clear hU133
            rintro e w126 ⟨s128, rfl, hl129, k127⟩
            obtain ⟨a130, c131, S132, rfl, -⟩ := hl129.out
            have Kk134 := Lib.hid k127
            clear k127
            have Hhl129 : Hid (LiesQ w126 (Par w V0.heap.size (g118 :: []) P) U133.kids _) := par_give hl129 (Below.size KV120.out) XL123.out
            clear hl129
            (try clear hHeld)
            refine hK.out _ _ (sees_kept _ (kept_trans Kk116.out Kk134.out)) (fun hHeld => ?_)
            clear hK K
            (try simp only [Act.put, List.setIfInBounds_toArray, List.set_cons_zero, List.set_cons_succ])
            exact HJj37 w126 U133 a130 c131 g118 ⟨(kept_trans Kk116.out Kk134.out), HU133.out, Hhl129.out, (blk_at Hx115.out Kk134.out), HG122.out, (Nat.le_trans (Below.size (kept_refl _)) HP124.out), HD125.out, (xlt_later XL123.out Kk134.out)⟩
          refine AllReadyH.cons (o := cLamr3_9) rfl (fun K hK => ?_) ?_
          · unfold cLamr3_9
            go_simp
            refine at_K (fun W135 hW135 => ?_)
            obtain ⟨g139, hg140, Kk137, Hx136, Hz138, KV141, HN142⟩ := alloc1v KV120.out hW135
            rw [hg140]
            clear hW135
            have HG143 : Hid (V0.heap.size ≤ g139) := (by show _ ≤ _; rw [← hg140]; exact (Below.size KV120.out))
            have AP144 : Hid (g118 < g139) := (by show _ < _; rw [← hg140]; exact block_lt Hx115.out)
            have XL145 : Hid (XLt (g139 :: (g118 :: [])) W135) := (by show XLt _ _; rw [← hg140]; exact xlt_more XL123.out Kk137.out (by have := Hz138.out; omega))
            have HP146 : Hid (W114.heap.size ≤ g139) := (by show _ ≤ _; rw [← hg140]; exact Nat.le_refl _)
            have HD147 : Hid (W31.heap.size ≤ g139) := (by show _ ≤ _; rw [← hg140]; exact Below.size Kk116.out)
            clear hg140
            (try clear hHeld)
            refine hK.out _ _ (sees_kept _ (kept_trans Kk116.out Kk137.out)) (fun hHeld => ?_)
            clear hK K
            (try simp only [Act.put, List.setIfInBounds_toArray, List.set_cons_zero, List.set_cons_succ])
            exact HJj36 W135 g118 g139 ⟨(kept_trans Kk116.out Kk137.out), (blk_at Hx115.out Kk137.out), Hx136.out, HG122.out, (Nat.le_trans (Below.size (kept_refl _)) HP124.out), HD125.out, HG143.out, (Nat.le_trans (Below.size Kk116.out) HP146.out), HD147.out, (by have := AP144.out; omega), XL145.out⟩
          exact AllReadyH.nil
        refine AllReadyH.cons (o := cLamr3_9) rfl (fun K hK => ?_) ?_
        · unfold cLamr3_9
          go_simp
          refine at_K (fun W148 hW148 => ?_)
          obtain ⟨g152, hg153, Kk150, Hx149, Hz151, KV154, HN155⟩ := alloc1v (kept_trans Kk13.out (kept_trans Kk21.out (kept_trans Kk28.out Kk34.out))) hW148
          rw [hg153]
          clear hW148
          have HG156 : Hid (V0.heap.size ≤ g152) := (by show _ ≤ _; rw [← hg153]; exact (Below.size (kept_trans Kk13.out (kept_trans Kk21.out (kept_trans Kk28.out Kk34.out)))))
          have XL157 : Hid (XLt (g152 :: []) W148) := (by show XLt _ _; rw [← hg153]; exact xlt_more (xlt_nil _) Kk150.out (by have := Hz151.out; omega))
          have HP158 : Hid (W31.heap.size ≤ g152) := (by show _ ≤ _; rw [← hg153]; exact Nat.le_refl _)
          have HD159 : Hid (W31.heap.size ≤ g152) := (by show _ ≤ _; rw [← hg153]; exact Below.size (kept_refl _))
          clear hg153
          (try clear hHeld)
          refine hK.out _ _ (sees_kept _ Kk150.out) (fun hHeld => ?_)
          clear hK K
          (try simp only [Act.put, List.setIfInBounds_toArray, List.set_cons_zero, List.set_cons_succ])
          refine wpAnyH_ready (rs := [3, 8]) (by kernel_rfl) (by simp) ?_
          refine AllReadyH.cons (o := cLamr3_3) rfl (fun K hK => ?_) ?_
          · unfold cLamr3_3
            go_simp
            refine (cmake2_any 14 g.a x (Par w V0.heap.size (g152 :: []) P) _ (.slice aga g.a.kids.length cga) (.slice ax x.kids.length cx) (show I64 14 from by unfold I64; decide) Gg.out.2.2.1 (par_grow HLga.out KV154.out (List.forall_mem_cons.2 ⟨(Or.inr (Nat.le_trans (Below.size (kept_trans Kk13.out (kept_trans Kk21.out (kept_trans Kk28.out Kk34.out)))) HP158.out)), (fun _ h => nomatch h)⟩)) Gx.out (par_grow HLx.out KV154.out (List.forall_mem_cons.2 ⟨(Or.inr (Nat.le_trans (Below.size (kept_trans Kk13.out (kept_trans Kk21.out (kept_trans Kk28.out Kk34.out)))) HP158.out)), (fun _ h => nomatch h)⟩))).mono ?_
            obtain ⟨U167, hU167⟩ : ∃ qu, nodeT 14 [g.a, x] = qu := ⟨_, rfl⟩
            rw [hU167]
            have HU167 := Lib.hid hU167
            clear hU167
            rintro e w160 ⟨s162, rfl, hl163, k161⟩
            obtain ⟨a164, c165, S166, rfl, -⟩ := hl163.out
            have Kk168 := Lib.hid k161
            clear k161
            have Hhl163 : Hid (LiesQ w160 (Par w V0.heap.size (g152 :: []) P) U167.kids _) := par_give hl163 (Below.size KV154.out) XL157.out
            clear hl163
            (try clear hHeld)
            refine hK.out _ _ (sees_kept _ (kept_trans Kk150.out Kk168.out)) (fun hHeld => ?_)
            clear hK K
            (try simp only [Act.put, List.setIfInBounds_toArray, List.set_cons_zero, List.set_cons_succ])
            exact HJj35 w160 U167 a164 c165 g152 ⟨(kept_trans Kk150.out Kk168.out), HU167.out, Hhl163.out, (blk_at Hx149.out Kk168.out), HG156.out, (Nat.le_trans (Below.size (kept_refl _)) HP158.out), HD159.out, (xlt_later XL157.out Kk168.out)⟩
          refine AllReadyH.cons (o := cLamr3_8) rfl (fun K hK => ?_) ?_
          · unfold cLamr3_8
            go_simp
            refine at_K (fun W169 hW169 => ?_)
            obtain ⟨g173, hg174, Kk171, Hx170, Hz172, KV175, HN176⟩ := alloc1v KV154.out hW169
            rw [hg174]
            clear hW169
            have HG177 : Hid (V0.heap.size ≤ g173) := (by show _ ≤ _; rw [← hg174]; exact (Below.size KV154.out))
            have AP178 : Hid (g152 < g173) := (by show _ < _; rw [← hg174]; exact block_lt Hx149.out)
            have XL179 : Hid (XLt (g173 :: (g152 :: [])) W169) := (by show XLt _ _; rw [← hg174]; exact xlt_more XL157.out Kk171.out (by have := Hz172.out; omega))
            have HP180 : Hid (W148.heap.size ≤ g173) := (by show _ ≤ _; rw [← hg174]; exact Nat.le_refl _)
            have HD181 : Hid (W31.heap.size ≤ g173) := (by show _ ≤ _; rw [← hg174]; exact Below.size Kk150.out)
            clear hg174
            (try clear hHeld)
            refine hK.out _ _ (sees_kept _ (kept_trans Kk150.out Kk171.out)) (fun hHeld => ?_)
            clear hK K
            (try simp only [Act.put, List.setIfInBounds_toArray, List.set_cons_zero, List.set_cons_succ])
            exact HJj36 W169 g173 g152 ⟨(kept_trans Kk150.out Kk171.out), Hx170.out, (blk_at Hx149.out Kk171.out), HG177.out, (Nat.le_trans (Below.size Kk150.out) HP180.out), HD181.out, HG156.out, (Nat.le_trans (Below.size (kept_refl _)) HP158.out), HD159.out, (by have := AP178.out; omega), (xlt_x XL179.out (List.forall_mem_cons.2 ⟨(List.mem_cons_of_mem _ (List.mem_cons_self ..)), (List.forall_mem_cons.2 ⟨(List.mem_cons_self ..), (fun _ h => nomatch h)⟩)⟩))⟩
          exact AllReadyH.nil
        exact AllReadyH.nil
      · intro W101 U49 a46 c47 g105 k182
        obtain ⟨q183, q184, q185, q186, q187, q188, q189, q190⟩ := k182
        have Kk191 := Lib.hid q183
        have KV192 := Lib.hid (kept_trans (kept_trans Kk13.out (kept_trans Kk21.out (kept_trans Kk28.out Kk34.out))) Kk191.out)
        have HU49 := Lib.hid q184
        have HL193 := Lib.hid q185
        have HX194 := Lib.hid q186
        have HG195 := Lib.hid q187
        have HP196 := Lib.hid q188
        have HD197 := Lib.hid q189
        have XL198 := Lib.hid q190
        clear q183 q184 q185 q186 q187 q188 q189 q190
        have hHeld : Sees W31 (w.heap.size + 4) W101 := sees_kept _ Kk191.out
        refine wpAnyH_ready (rs := [7, 8]) (by kernel_rfl) (by simp) ?_
        refine AllReadyH.cons (o := cLamr3_7) rfl (fun K hK => ?_) ?_
        · unfold cLamr3_7
          go_simp
          refine (cmake2_any 14 g.c y (Par w V0.heap.size (g105 :: []) P) _ (.slice agc g.c.kids.length cgc) (.slice ay y.kids.length cy) (show I64 14 from by unfold I64; decide) Gg.out.2.2.2.1 (par_grow HLgc.out KV192.out (List.forall_mem_cons.2 ⟨(Or.inr (Nat.le_trans (Below.size (kept_trans Kk13.out (kept_trans Kk21.out (kept_trans Kk28.out Kk34.out)))) HP196.out)), (fun _ h => nomatch h)⟩)) Gy.out (par_grow HLy.out KV192.out (List.forall_mem_cons.2 ⟨(Or.inr (Nat.le_trans (Below.size (kept_trans Kk13.out (kept_trans Kk21.out (kept_trans Kk28.out Kk34.out)))) HP196.out)), (fun _ h => nomatch h)⟩))).mono ?_
          obtain ⟨U206, hU206⟩ : ∃ qu, nodeT 14 [g.c, y] = qu := ⟨_, rfl⟩
          rw [hU206]
          have HU206 := Lib.hid hU206
          clear hU206
          rintro e w199 ⟨s201, rfl, hl202, k200⟩
          obtain ⟨a203, c204, S205, rfl, -⟩ := hl202.out
          have Kk207 := Lib.hid k200
          clear k200
          have Hhl202 : Hid (LiesQ w199 (Par w V0.heap.size (g105 :: []) P) U206.kids _) := par_give hl202 (Below.size KV192.out) XL198.out
          clear hl202
          (try clear hHeld)
          refine hK.out _ _ (sees_kept _ (kept_trans Kk191.out Kk207.out)) (fun hHeld => ?_)
          clear hK K
          (try simp only [Act.put, List.setIfInBounds_toArray, List.set_cons_zero, List.set_cons_succ])
          exact HJj39 w199 U49 a46 c47 U206 a203 c204 g105 ⟨(kept_trans Kk191.out Kk207.out), HU49.out, HU206.out, (HL193.out.later Kk207.out), Hhl202.out, (blk_at HX194.out Kk207.out), HG195.out, (Nat.le_trans (Below.size (kept_refl _)) HP196.out), HD197.out, (xlt_later XL198.out Kk207.out)⟩
        refine AllReadyH.cons (o := cLamr3_8) rfl (fun K hK => ?_) ?_
        · unfold cLamr3_8
          go_simp
          refine at_K (fun W208 hW208 => ?_)
          obtain ⟨g212, hg213, Kk210, Hx209, Hz211, KV214, HN215⟩ := alloc1v KV192.out hW208
          rw [hg213]
          clear hW208
          have HG216 : Hid (V0.heap.size ≤ g212) := (by show _ ≤ _; rw [← hg213]; exact (Below.size KV192.out))
          have AP217 : Hid (g105 < g212) := (by show _ < _; rw [← hg213]; exact block_lt HX194.out)
          have XL218 : Hid (XLt (g212 :: (g105 :: [])) W208) := (by show XLt _ _; rw [← hg213]; exact xlt_more XL198.out Kk210.out (by have := Hz211.out; omega))
          have HP219 : Hid (W101.heap.size ≤ g212) := (by show _ ≤ _; rw [← hg213]; exact Nat.le_refl _)
          have HD220 : Hid (W31.heap.size ≤ g212) := (by show _ ≤ _; rw [← hg213]; exact Below.size Kk191.out)
          clear hg213
          (try clear hHeld)
          refine hK.out _ _ (sees_kept _ (kept_trans Kk191.out Kk210.out)) (fun hHeld => ?_)
          clear hK K
          (try simp only [Act.put, List.setIfInBounds_toArray, List.set_cons_zero, List.set_cons_succ])
          have pg221 : ∀ (l : List Tm) (s : Value), LiesQ W101 (Par w V0.heap.size (g105 :: []) P) l s → LiesQ W208 (Par w V0.heap.size (g105 :: (g212 :: [])) P) l s := fun _ _ h => par_grow h Kk210.out (List.forall_mem_cons.2 ⟨(Or.inl (List.mem_cons_self ..)), (List.forall_mem_cons.2 ⟨(Or.inr HP219.out), (fun _ h => nomatch h)⟩)⟩)
          exact HJj38 W208 U49 a46 c47 g212 g105 ⟨(kept_trans Kk191.out Kk210.out), HU49.out, (pg221 _ _ HL193.out), Hx209.out, (blk_at HX194.out Kk210.out), HG216.out, (Nat.le_trans (Below.size Kk191.out) HP219.out), HD220.out, HG195.out, (Nat.le_trans (Below.size (kept_refl _)) HP196.out), HD197.out, (by have := AP217.out; omega), (xlt_x XL218.out (List.forall_mem_cons.2 ⟨(List.mem_cons_of_mem _ (List.mem_cons_self ..)), (List.forall_mem_cons.2 ⟨(List.mem_cons_self ..), (fun _ h => nomatch h)⟩)⟩))⟩
        exact AllReadyH.nil
      · intro W135 g118 g139 k222
        obtain ⟨q223, q224, q225, q226, q227, q228, q229, q230, q231, q232, q233⟩ := k222
        have Kk234 := Lib.hid q223
        have KV235 := Lib.hid (kept_trans (kept_trans Kk13.out (kept_trans Kk21.out (kept_trans Kk28.out Kk34.out))) Kk234.out)
        have HX236 := Lib.hid q224
        have HX237 := Lib.hid q225
        have HG238 := Lib.hid q226
        have HP239 := Lib.hid q227
        have HD240 := Lib.hid q228
        have HG241 := Lib.hid q229
        have HP242 := Lib.hid q230
        have HD243 := Lib.hid q231
        have AP244 := Lib.hid q232
        have XL245 := Lib.hid q233
        clear q223 q224 q225 q226 q227 q228 q229 q230 q231 q232 q233
        have hHeld : Sees W31 (w.heap.size + 4) W135 := sees_kept _ Kk234.out
        refine wpAnyH_ready (rs := [3]) (by kernel_rfl) (by simp) ?_
        refine AllReadyH.cons (o := cLamr3_3) rfl (fun K hK => ?_) ?_
        · unfold cLamr3_3
          go_simp
          refine (cmake2_any 14 g.a x (Par w V0.heap.size (g139 :: (g118 :: [])) P) _ (.slice aga g.a.kids.length cga) (.slice ax x.kids.length cx) (show I64 14 from by unfold I64; decide) Gg.out.2.2.1 (par_grow HLga.out KV235.out (List.forall_mem_cons.2 ⟨(Or.inr (Nat.le_trans (Below.size (kept_trans Kk13.out (kept_trans Kk21.out (kept_trans Kk28.out Kk34.out)))) HP242.out)), (List.forall_mem_cons.2 ⟨(Or.inr (Nat.le_trans (Below.size (kept_trans Kk13.out (kept_trans Kk21.out (kept_trans Kk28.out Kk34.out)))) HP239.out)), (fun _ h => nomatch h)⟩)⟩)) Gx.out (par_grow HLx.out KV235.out (List.forall_mem_cons.2 ⟨(Or.inr (Nat.le_trans (Below.size (kept_trans Kk13.out (kept_trans Kk21.out (kept_trans Kk28.out Kk34.out)))) HP242.out)), (List.forall_mem_cons.2 ⟨(Or.inr (Nat.le_trans (Below.size (kept_trans Kk13.out (kept_trans Kk21.out (kept_trans Kk28.out Kk34.out)))) HP239.out)), (fun _ h => nomatch h)⟩)⟩))).mono ?_
          obtain ⟨U253, hU253⟩ : ∃ qu, nodeT 14 [g.a, x] = qu := ⟨_, rfl⟩
          rw [hU253]
          have HU253 := Lib.hid hU253
          clear hU253
          rintro e w246 ⟨s248, rfl, hl249, k247⟩
          obtain ⟨a250, c251, S252, rfl, -⟩ := hl249.out
          have Kk254 := Lib.hid k247
          clear k247
          have Hhl249 : Hid (LiesQ w246 (Par w V0.heap.size (g139 :: (g118 :: [])) P) U253.kids _) := par_give hl249 (Below.size KV235.out) XL245.out
          clear hl249
          (try clear hHeld)
          refine hK.out _ _ (sees_kept _ (kept_trans Kk234.out Kk254.out)) (fun hHeld => ?_)
          clear hK K
          (try simp only [Act.put, List.setIfInBounds_toArray, List.set_cons_zero, List.set_cons_succ])
          exact HJj38 w246 U253 a250 c251 g118 g139 ⟨(kept_trans Kk234.out Kk254.out), HU253.out, Hhl249.out, (blk_at HX236.out Kk254.out), (blk_at HX237.out Kk254.out), HG238.out, (Nat.le_trans (Below.size (kept_refl _)) HP239.out), HD240.out, HG241.out, (Nat.le_trans (Below.size (kept_refl _)) HP242.out), HD243.out, (by have := AP244.out; omega), (xlt_later XL245.out Kk254.out)⟩
        exact AllReadyH.nil
      · intro W88 U49 a46 c47 g92 k255
        obtain ⟨q256, q257, q258, q259, q260, q261, q262, q263⟩ := k255
        have Kk264 := Lib.hid q256
        have KV265 := Lib.hid (kept_trans (kept_trans Kk13.out (kept_trans Kk21.out (kept_trans Kk28.out Kk34.out))) Kk264.out)
        have HU49 := Lib.hid q257
        have HL266 := Lib.hid q258
        have HX267 := Lib.hid q259
        have HG268 := Lib.hid q260
        have HP269 := Lib.hid q261
        have HD270 := Lib.hid q262
        have XL271 := Lib.hid q263
        clear q256 q257 q258 q259 q260 q261 q262 q263
        have hHeld : Sees W31 (w.heap.size + 4) W88 := sees_kept _ Kk264.out
        refine wpAnyH_ready (rs := [7, 9]) (by kernel_rfl) (by simp) ?_
        refine AllReadyH.cons (o := cLamr3_7) rfl (fun K hK => ?_) ?_
        · unfold cLamr3_7
          go_simp
          refine (cmake2_any 14 g.c y (Par w V0.heap.size (g92 :: []) P) _ (.slice agc g.c.kids.length cgc) (.slice ay y.kids.length cy) (show I64 14 from by unfold I64; decide) Gg.out.2.2.2.1 (par_grow HLgc.out KV265.out (List.forall_mem_cons.2 ⟨(Or.inr (Nat.le_trans (Below.size (kept_trans Kk13.out (kept_trans Kk21.out (kept_trans Kk28.out Kk34.out)))) HP269.out)), (fun _ h => nomatch h)⟩)) Gy.out (par_grow HLy.out KV265.out (List.forall_mem_cons.2 ⟨(Or.inr (Nat.le_trans (Below.size (kept_trans Kk13.out (kept_trans Kk21.out (kept_trans Kk28.out Kk34.out)))) HP269.out)), (fun _ h => nomatch h)⟩))).mono ?_
          obtain ⟨U279, hU279⟩ : ∃ qu, nodeT 14 [g.c, y] = qu := ⟨_, rfl⟩
          rw [hU279]
          have HU279 := Lib.hid hU279
          clear hU279
          rintro e w272 ⟨s274, rfl, hl275, k273⟩
          obtain ⟨a276, c277, S278, rfl, -⟩ := hl275.out
          have Kk280 := Lib.hid k273
          clear k273
          have Hhl275 : Hid (LiesQ w272 (Par w V0.heap.size (g92 :: []) P) U279.kids _) := par_give hl275 (Below.size KV265.out) XL271.out
          clear hl275
          (try clear hHeld)
          refine hK.out _ _ (sees_kept _ (kept_trans Kk264.out Kk280.out)) (fun hHeld => ?_)
          clear hK K
          (try simp only [Act.put, List.setIfInBounds_toArray, List.set_cons_zero, List.set_cons_succ])
          exact HJj40 w272 U49 a46 c47 U279 a276 c277 g92 ⟨(kept_trans Kk264.out Kk280.out), HU49.out, HU279.out, (HL266.out.later Kk280.out), Hhl275.out, (blk_at HX267.out Kk280.out), HG268.out, (Nat.le_trans (Below.size (kept_refl _)) HP269.out), HD270.out, (xlt_later XL271.out Kk280.out)⟩
        refine AllReadyH.cons (o := cLamr3_9) rfl (fun K hK => ?_) ?_
        · unfold cLamr3_9
          go_simp
          refine at_K (fun W281 hW281 => ?_)
          obtain ⟨g285, hg286, Kk283, Hx282, Hz284, KV287, HN288⟩ := alloc1v KV265.out hW281
          rw [hg286]
          clear hW281
          have HG289 : Hid (V0.heap.size ≤ g285) := (by show _ ≤ _; rw [← hg286]; exact (Below.size KV265.out))
          have AP290 : Hid (g92 < g285) := (by show _ < _; rw [← hg286]; exact block_lt HX267.out)
          have XL291 : Hid (XLt (g285 :: (g92 :: [])) W281) := (by show XLt _ _; rw [← hg286]; exact xlt_more XL271.out Kk283.out (by have := Hz284.out; omega))
          have HP292 : Hid (W88.heap.size ≤ g285) := (by show _ ≤ _; rw [← hg286]; exact Nat.le_refl _)
          have HD293 : Hid (W31.heap.size ≤ g285) := (by show _ ≤ _; rw [← hg286]; exact Below.size Kk264.out)
          clear hg286
          (try clear hHeld)
          refine hK.out _ _ (sees_kept _ (kept_trans Kk264.out Kk283.out)) (fun hHeld => ?_)
          clear hK K
          (try simp only [Act.put, List.setIfInBounds_toArray, List.set_cons_zero, List.set_cons_succ])
          have pg294 : ∀ (l : List Tm) (s : Value), LiesQ W88 (Par w V0.heap.size (g92 :: []) P) l s → LiesQ W281 (Par w V0.heap.size (g285 :: (g92 :: [])) P) l s := fun _ _ h => par_grow h Kk283.out (List.forall_mem_cons.2 ⟨(Or.inr HP292.out), (List.forall_mem_cons.2 ⟨(Or.inl (List.mem_cons_self ..)), (fun _ h => nomatch h)⟩)⟩)
          exact HJj38 W281 U49 a46 c47 g92 g285 ⟨(kept_trans Kk264.out Kk283.out), HU49.out, (pg294 _ _ HL266.out), (blk_at HX267.out Kk283.out), Hx282.out, HG268.out, (Nat.le_trans (Below.size (kept_refl _)) HP269.out), HD270.out, HG289.out, (Nat.le_trans (Below.size Kk264.out) HP292.out), HD293.out, (by have := AP290.out; omega), XL291.out⟩
        exact AllReadyH.nil
      · intro W208 U49 a46 c47 g212 g105 k295
        obtain ⟨q296, q297, q298, q299, q300, q301, q302, q303, q304, q305, q306, q307, q308⟩ := k295
        have Kk309 := Lib.hid q296
        have KV310 := Lib.hid (kept_trans (kept_trans Kk13.out (kept_trans Kk21.out (kept_trans Kk28.out Kk34.out))) Kk309.out)
        have HU49 := Lib.hid q297
        have HL311 := Lib.hid q298
        have HX312 := Lib.hid q299
        have HX313 := Lib.hid q300
        have HG314 := Lib.hid q301
        have HP315 := Lib.hid q302
        have HD316 := Lib.hid q303
        have HG317 := Lib.hid q304
        have HP318 := Lib.hid q305
        have HD319 := Lib.hid q306
        have AP320 := Lib.hid q307
        have XL321 := Lib.hid q308
        clear q296 q297 q298 q299 q300 q301 q302 q303 q304 q305 q306 q307 q308
        have hHeld : Sees W31 (w.heap.size + 4) W208 := sees_kept _ Kk309.out
        refine wpAnyH_ready (rs := [7]) (by kernel_rfl) (by simp) ?_
        refine AllReadyH.cons (o := cLamr3_7) rfl (fun K hK => ?_) ?_
        · unfold cLamr3_7
          go_simp
          refine (cmake2_any 14 g.c y (Par w V0.heap.size (g105 :: (g212 :: [])) P) _ (.slice agc g.c.kids.length cgc) (.slice ay y.kids.length cy) (show I64 14 from by unfold I64; decide) Gg.out.2.2.2.1 (par_grow HLgc.out KV310.out (List.forall_mem_cons.2 ⟨(Or.inr (Nat.le_trans (Below.size (kept_trans Kk13.out (kept_trans Kk21.out (kept_trans Kk28.out Kk34.out)))) HP318.out)), (List.forall_mem_cons.2 ⟨(Or.inr (Nat.le_trans (Below.size (kept_trans Kk13.out (kept_trans Kk21.out (kept_trans Kk28.out Kk34.out)))) HP315.out)), (fun _ h => nomatch h)⟩)⟩)) Gy.out (par_grow HLy.out KV310.out (List.forall_mem_cons.2 ⟨(Or.inr (Nat.le_trans (Below.size (kept_trans Kk13.out (kept_trans Kk21.out (kept_trans Kk28.out Kk34.out)))) HP318.out)), (List.forall_mem_cons.2 ⟨(Or.inr (Nat.le_trans (Below.size (kept_trans Kk13.out (kept_trans Kk21.out (kept_trans Kk28.out Kk34.out)))) HP315.out)), (fun _ h => nomatch h)⟩)⟩))).mono ?_
          obtain ⟨U329, hU329⟩ : ∃ qu, nodeT 14 [g.c, y] = qu := ⟨_, rfl⟩
          rw [hU329]
          have HU329 := Lib.hid hU329
          clear hU329
          rintro e w322 ⟨s324, rfl, hl325, k323⟩
          obtain ⟨a326, c327, S328, rfl, -⟩ := hl325.out
          have Kk330 := Lib.hid k323
          clear k323
          have Hhl325 : Hid (LiesQ w322 (Par w V0.heap.size (g105 :: (g212 :: [])) P) U329.kids _) := par_give hl325 (Below.size KV310.out) XL321.out
          clear hl325
          (try clear hHeld)
          refine hK.out _ _ (sees_kept _ (kept_trans Kk309.out Kk330.out)) (fun hHeld => ?_)
          clear hK K
          (try simp only [Act.put, List.setIfInBounds_toArray, List.set_cons_zero, List.set_cons_succ])
          exact HJj41 w322 U49 a46 c47 U329 a326 c327 g212 g105 ⟨(kept_trans Kk309.out Kk330.out), HU49.out, HU329.out, (HL311.out.later Kk330.out), Hhl325.out, (blk_at HX312.out Kk330.out), (blk_at HX313.out Kk330.out), HG314.out, (Nat.le_trans (Below.size (kept_refl _)) HP315.out), HD316.out, HG317.out, (Nat.le_trans (Below.size (kept_refl _)) HP318.out), HD319.out, (by have := AP320.out; omega), (xlt_later XL321.out Kk330.out)⟩
        exact AllReadyH.nil
      · intro W74 U49 a46 c47 U58 a55 c56 g78 k331
        obtain ⟨q332, q333, q334, q335, q336, q337, q338, q339, q340, q341⟩ := k331
        have Kk342 := Lib.hid q332
        have KV343 := Lib.hid (kept_trans (kept_trans Kk13.out (kept_trans Kk21.out (kept_trans Kk28.out Kk34.out))) Kk342.out)
        have HU49 := Lib.hid q333
        have HU58 := Lib.hid q334
        have HL344 := Lib.hid q335
        have HL345 := Lib.hid q336
        have HX346 := Lib.hid q337
        have HG347 := Lib.hid q338
        have HP348 := Lib.hid q339
        have HD349 := Lib.hid q340
        have XL350 := Lib.hid q341
        clear q332 q333 q334 q335 q336 q337 q338 q339 q340 q341
        have hHeld : Sees W31 (w.heap.size + 4) W74 := sees_kept _ Kk342.out
        refine wpAnyH_ready (rs := [8]) (by kernel_rfl) (by simp) ?_
        refine AllReadyH.cons (o := cLamr3_8) rfl (fun K hK => ?_) ?_
        · unfold cLamr3_8
          go_simp
          refine at_K (fun W351 hW351 => ?_)
          obtain ⟨g355, hg356, Kk353, Hx352, Hz354, KV357, HN358⟩ := alloc1v KV343.out hW351
          rw [hg356]
          clear hW351
          have HG359 : Hid (V0.heap.size ≤ g355) := (by show _ ≤ _; rw [← hg356]; exact (Below.size KV343.out))
          have AP360 : Hid (g78 < g355) := (by show _ < _; rw [← hg356]; exact block_lt HX346.out)
          have XL361 : Hid (XLt (g355 :: (g78 :: [])) W351) := (by show XLt _ _; rw [← hg356]; exact xlt_more XL350.out Kk353.out (by have := Hz354.out; omega))
          have HP362 : Hid (W74.heap.size ≤ g355) := (by show _ ≤ _; rw [← hg356]; exact Nat.le_refl _)
          have HD363 : Hid (W31.heap.size ≤ g355) := (by show _ ≤ _; rw [← hg356]; exact Below.size Kk342.out)
          clear hg356
          (try clear hHeld)
          refine hK.out _ _ (sees_kept _ (kept_trans Kk342.out Kk353.out)) (fun hHeld => ?_)
          clear hK K
          (try simp only [Act.put, List.setIfInBounds_toArray, List.set_cons_zero, List.set_cons_succ])
          have pg364 : ∀ (l : List Tm) (s : Value), LiesQ W74 (Par w V0.heap.size (g78 :: []) P) l s → LiesQ W351 (Par w V0.heap.size (g78 :: (g355 :: [])) P) l s := fun _ _ h => par_grow h Kk353.out (List.forall_mem_cons.2 ⟨(Or.inl (List.mem_cons_self ..)), (List.forall_mem_cons.2 ⟨(Or.inr HP362.out), (fun _ h => nomatch h)⟩)⟩)
          exact HJj41 W351 U49 a46 c47 U58 a55 c56 g355 g78 ⟨(kept_trans Kk342.out Kk353.out), HU49.out, HU58.out, (pg364 _ _ HL344.out), (pg364 _ _ HL345.out), Hx352.out, (blk_at HX346.out Kk353.out), HG359.out, (Nat.le_trans (Below.size Kk342.out) HP362.out), HD363.out, HG347.out, (Nat.le_trans (Below.size (kept_refl _)) HP348.out), HD349.out, (by have := AP360.out; omega), (xlt_x XL361.out (List.forall_mem_cons.2 ⟨(List.mem_cons_of_mem _ (List.mem_cons_self ..)), (List.forall_mem_cons.2 ⟨(List.mem_cons_self ..), (fun _ h => nomatch h)⟩)⟩))⟩
        exact AllReadyH.nil
      · intro W60 U49 a46 c47 U58 a55 c56 g64 k365
        obtain ⟨q366, q367, q368, q369, q370, q371, q372, q373, q374, q375⟩ := k365
        have Kk376 := Lib.hid q366
        have KV377 := Lib.hid (kept_trans (kept_trans Kk13.out (kept_trans Kk21.out (kept_trans Kk28.out Kk34.out))) Kk376.out)
        have HU49 := Lib.hid q367
        have HU58 := Lib.hid q368
        have HL378 := Lib.hid q369
        have HL379 := Lib.hid q370
        have HX380 := Lib.hid q371
        have HG381 := Lib.hid q372
        have HP382 := Lib.hid q373
        have HD383 := Lib.hid q374
        have XL384 := Lib.hid q375
        clear q366 q367 q368 q369 q370 q371 q372 q373 q374 q375
        have hHeld : Sees W31 (w.heap.size + 4) W60 := sees_kept _ Kk376.out
        refine wpAnyH_ready (rs := [9]) (by kernel_rfl) (by simp) ?_
        refine AllReadyH.cons (o := cLamr3_9) rfl (fun K hK => ?_) ?_
        · unfold cLamr3_9
          go_simp
          refine at_K (fun W385 hW385 => ?_)
          obtain ⟨g389, hg390, Kk387, Hx386, Hz388, KV391, HN392⟩ := alloc1v KV377.out hW385
          rw [hg390]
          clear hW385
          have HG393 : Hid (V0.heap.size ≤ g389) := (by show _ ≤ _; rw [← hg390]; exact (Below.size KV377.out))
          have AP394 : Hid (g64 < g389) := (by show _ < _; rw [← hg390]; exact block_lt HX380.out)
          have XL395 : Hid (XLt (g389 :: (g64 :: [])) W385) := (by show XLt _ _; rw [← hg390]; exact xlt_more XL384.out Kk387.out (by have := Hz388.out; omega))
          have HP396 : Hid (W60.heap.size ≤ g389) := (by show _ ≤ _; rw [← hg390]; exact Nat.le_refl _)
          have HD397 : Hid (W31.heap.size ≤ g389) := (by show _ ≤ _; rw [← hg390]; exact Below.size Kk376.out)
          clear hg390
          (try clear hHeld)
          refine hK.out _ _ (sees_kept _ (kept_trans Kk376.out Kk387.out)) (fun hHeld => ?_)
          clear hK K
          (try simp only [Act.put, List.setIfInBounds_toArray, List.set_cons_zero, List.set_cons_succ])
          have pg398 : ∀ (l : List Tm) (s : Value), LiesQ W60 (Par w V0.heap.size (g64 :: []) P) l s → LiesQ W385 (Par w V0.heap.size (g389 :: (g64 :: [])) P) l s := fun _ _ h => par_grow h Kk387.out (List.forall_mem_cons.2 ⟨(Or.inr HP396.out), (List.forall_mem_cons.2 ⟨(Or.inl (List.mem_cons_self ..)), (fun _ h => nomatch h)⟩)⟩)
          exact HJj41 W385 U49 a46 c47 U58 a55 c56 g64 g389 ⟨(kept_trans Kk376.out Kk387.out), HU49.out, HU58.out, (pg398 _ _ HL378.out), (pg398 _ _ HL379.out), (blk_at HX380.out Kk387.out), Hx386.out, HG381.out, (Nat.le_trans (Below.size (kept_refl _)) HP382.out), HD383.out, HG393.out, (Nat.le_trans (Below.size Kk376.out) HP396.out), HD397.out, (by have := AP394.out; omega), XL395.out⟩
        exact AllReadyH.nil
      · intro w322 U49 a46 c47 U329 a326 c327 g212 g105 k399
        obtain ⟨q400, q401, q402, q403, q404, q405, q406, q407, q408, q409, q410, q411, q412, q413, q414⟩ := k399
        have Kk415 := Lib.hid q400
        have KV416 := Lib.hid (kept_trans (kept_trans Kk13.out (kept_trans Kk21.out (kept_trans Kk28.out Kk34.out))) Kk415.out)
        have HU49 := Lib.hid q401
        have HU329 := Lib.hid q402
        have HL417 := Lib.hid q403
        have HL418 := Lib.hid q404
        have HX419 := Lib.hid q405
        have HX420 := Lib.hid q406
        have HG421 := Lib.hid q407
        have HP422 := Lib.hid q408
        have HD423 := Lib.hid q409
        have HG424 := Lib.hid q410
        have HP425 := Lib.hid q411
        have HD426 := Lib.hid q412
        have AP427 := Lib.hid q413
        have XL428 := Lib.hid q414
        clear q400 q401 q402 q403 q404 q405 q406 q407 q408 q409 q410 q411 q412 q413 q414
        have hHeld : Sees W31 (w.heap.size + 4) w322 := sees_kept _ Kk415.out
        refine wpAnyH_ready (rs := [10]) (by kernel_rfl) (by simp) ?_
        refine AllReadyH.cons (o := cLamr3_10) rfl (fun K hK => ?_) ?_
        · unfold cLamr3_10
          refine step_store_part rfl 32 (.tmp 9) (.tmp 26) rfl (g212) 0 #[.int .i64 U49.k, .int .i64 U49.i, .int .i64 U49.j, .int .i64 U49.n, (.slice a46 U49.kids.length c47)] rfl rfl 32 size_term (row_ok rfl) _ #[.int .i64 U49.k, .int .i64 U49.i, .int .i64 U49.j, .int .i64 U49.n, (.slice a46 U49.kids.length c47)] HX419.out rfl (Nat.le_of_ble_eq_true rfl) ?_
          intro W429 hW429
          have KB430 := Lib.hid (kept_set (kept_trans Kk8.out (kept_trans Kk13.out (kept_trans Kk21.out (kept_trans Kk28.out (kept_trans Kk34.out Kk415.out))))) hW429 (by have := HG421.out; have := Z0.out; omega))
          have KB431 := Lib.hid (kept_set KV416.out hW429 HG421.out)
          have KB432 := Lib.hid (kept_set Kk415.out hW429 HD423.out)
          have HL433 : Hid (LiesQ W429 (Par w V0.heap.size (g105 :: (g212 :: [])) P) g.a.kids _) := par_set (par_grow HLga.out KV416.out (List.forall_mem_cons.2 ⟨(Or.inr (Nat.le_trans (Below.size (kept_trans Kk13.out (kept_trans Kk21.out (kept_trans Kk28.out Kk34.out)))) HP425.out)), (List.forall_mem_cons.2 ⟨(Or.inr (Nat.le_trans (Below.size (kept_trans Kk13.out (kept_trans Kk21.out (kept_trans Kk28.out Kk34.out)))) HP422.out)), (fun _ h => nomatch h)⟩)⟩)) hW429 (List.mem_cons_of_mem _ (List.mem_cons_self ..)) (by have := HG421.out; have := Z0.out; omega)
          have HL434 : Hid (LiesQ W429 (Par w V0.heap.size (g105 :: (g212 :: [])) P) g.c.kids _) := par_set (par_grow HLgc.out KV416.out (List.forall_mem_cons.2 ⟨(Or.inr (Nat.le_trans (Below.size (kept_trans Kk13.out (kept_trans Kk21.out (kept_trans Kk28.out Kk34.out)))) HP425.out)), (List.forall_mem_cons.2 ⟨(Or.inr (Nat.le_trans (Below.size (kept_trans Kk13.out (kept_trans Kk21.out (kept_trans Kk28.out Kk34.out)))) HP422.out)), (fun _ h => nomatch h)⟩)⟩)) hW429 (List.mem_cons_of_mem _ (List.mem_cons_self ..)) (by have := HG421.out; have := Z0.out; omega)
          have HL435 : Hid (LiesQ W429 (Par w V0.heap.size (g105 :: (g212 :: [])) P) g.b.kids _) := par_set (par_grow HLgb.out KV416.out (List.forall_mem_cons.2 ⟨(Or.inr (Nat.le_trans (Below.size (kept_trans Kk13.out (kept_trans Kk21.out (kept_trans Kk28.out Kk34.out)))) HP425.out)), (List.forall_mem_cons.2 ⟨(Or.inr (Nat.le_trans (Below.size (kept_trans Kk13.out (kept_trans Kk21.out (kept_trans Kk28.out Kk34.out)))) HP422.out)), (fun _ h => nomatch h)⟩)⟩)) hW429 (List.mem_cons_of_mem _ (List.mem_cons_self ..)) (by have := HG421.out; have := Z0.out; omega)
          have HL436 : Hid (LiesQ W429 (Par w V0.heap.size (g105 :: (g212 :: [])) P) g.d.kids _) := par_set (par_grow HLgd.out KV416.out (List.forall_mem_cons.2 ⟨(Or.inr (Nat.le_trans (Below.size (kept_trans Kk13.out (kept_trans Kk21.out (kept_trans Kk28.out Kk34.out)))) HP425.out)), (List.forall_mem_cons.2 ⟨(Or.inr (Nat.le_trans (Below.size (kept_trans Kk13.out (kept_trans Kk21.out (kept_trans Kk28.out Kk34.out)))) HP422.out)), (fun _ h => nomatch h)⟩)⟩)) hW429 (List.mem_cons_of_mem _ (List.mem_cons_self ..)) (by have := HG421.out; have := Z0.out; omega)
          have HL437 : Hid (LiesQ W429 (Par w V0.heap.size (g105 :: (g212 :: [])) P) g.e.kids _) := par_set (par_grow HLge.out KV416.out (List.forall_mem_cons.2 ⟨(Or.inr (Nat.le_trans (Below.size (kept_trans Kk13.out (kept_trans Kk21.out (kept_trans Kk28.out Kk34.out)))) HP425.out)), (List.forall_mem_cons.2 ⟨(Or.inr (Nat.le_trans (Below.size (kept_trans Kk13.out (kept_trans Kk21.out (kept_trans Kk28.out Kk34.out)))) HP422.out)), (fun _ h => nomatch h)⟩)⟩)) hW429 (List.mem_cons_of_mem _ (List.mem_cons_self ..)) (by have := HG421.out; have := Z0.out; omega)
          have HL438 : Hid (LiesQ W429 (Par w V0.heap.size (g105 :: (g212 :: [])) P) g.f.kids _) := par_set (par_grow HLgf.out KV416.out (List.forall_mem_cons.2 ⟨(Or.inr (Nat.le_trans (Below.size (kept_trans Kk13.out (kept_trans Kk21.out (kept_trans Kk28.out Kk34.out)))) HP425.out)), (List.forall_mem_cons.2 ⟨(Or.inr (Nat.le_trans (Below.size (kept_trans Kk13.out (kept_trans Kk21.out (kept_trans Kk28.out Kk34.out)))) HP422.out)), (fun _ h => nomatch h)⟩)⟩)) hW429 (List.mem_cons_of_mem _ (List.mem_cons_self ..)) (by have := HG421.out; have := Z0.out; omega)
          have HL439 : Hid (LiesQ W429 (Par w V0.heap.size (g105 :: (g212 :: [])) P) x.kids _) := par_set (par_grow HLx.out KV416.out (List.forall_mem_cons.2 ⟨(Or.inr (Nat.le_trans (Below.size (kept_trans Kk13.out (kept_trans Kk21.out (kept_trans Kk28.out Kk34.out)))) HP425.out)), (List.forall_mem_cons.2 ⟨(Or.inr (Nat.le_trans (Below.size (kept_trans Kk13.out (kept_trans Kk21.out (kept_trans Kk28.out Kk34.out)))) HP422.out)), (fun _ h => nomatch h)⟩)⟩)) hW429 (List.mem_cons_of_mem _ (List.mem_cons_self ..)) (by have := HG421.out; have := Z0.out; omega)
          have HL440 : Hid (LiesQ W429 (Par w V0.heap.size (g105 :: (g212 :: [])) P) y.kids _) := par_set (par_grow HLy.out KV416.out (List.forall_mem_cons.2 ⟨(Or.inr (Nat.le_trans (Below.size (kept_trans Kk13.out (kept_trans Kk21.out (kept_trans Kk28.out Kk34.out)))) HP425.out)), (List.forall_mem_cons.2 ⟨(Or.inr (Nat.le_trans (Below.size (kept_trans Kk13.out (kept_trans Kk21.out (kept_trans Kk28.out Kk34.out)))) HP422.out)), (fun _ h => nomatch h)⟩)⟩)) hW429 (List.mem_cons_of_mem _ (List.mem_cons_self ..)) (by have := HG421.out; have := Z0.out; omega)
          have HL441 : Hid (LiesQ W429 (Par w V0.heap.size (g105 :: (g212 :: [])) P) z.kids _) := par_set (par_grow HLz.out KV416.out (List.forall_mem_cons.2 ⟨(Or.inr (Nat.le_trans (Below.size (kept_trans Kk13.out (kept_trans Kk21.out (kept_trans Kk28.out Kk34.out)))) HP425.out)), (List.forall_mem_cons.2 ⟨(Or.inr (Nat.le_trans (Below.size (kept_trans Kk13.out (kept_trans Kk21.out (kept_trans Kk28.out Kk34.out)))) HP422.out)), (fun _ h => nomatch h)⟩)⟩)) hW429 (List.mem_cons_of_mem _ (List.mem_cons_self ..)) (by have := HG421.out; have := Z0.out; omega)
          have HL442 : Hid (LiesQ W429 (Par w V0.heap.size (g105 :: (g212 :: [])) P) [x, y, z] _) := par_set (par_grow HR22.out (kept_trans Kk28.out (kept_trans Kk34.out Kk415.out)) (List.forall_mem_cons.2 ⟨(Or.inr (Nat.le_trans (Below.size (kept_trans Kk28.out Kk34.out)) HP425.out)), (List.forall_mem_cons.2 ⟨(Or.inr (Nat.le_trans (Below.size (kept_trans Kk28.out Kk34.out)) HP422.out)), (fun _ h => nomatch h)⟩)⟩)) hW429 (List.mem_cons_of_mem _ (List.mem_cons_self ..)) (by have := HG421.out; have := Z0.out; omega)
          have HL443 : Hid (LiesQ W429 (Par w V0.heap.size (g105 :: (g212 :: [])) P) U49.kids _) := par_set HL417.out hW429 (List.mem_cons_of_mem _ (List.mem_cons_self ..)) (by have := HG421.out; have := Z0.out; omega)
          have HL444 : Hid (LiesQ W429 (Par w V0.heap.size (g105 :: (g212 :: [])) P) U329.kids _) := par_set HL418.out hW429 (List.mem_cons_of_mem _ (List.mem_cons_self ..)) (by have := HG421.out; have := Z0.out; omega)
          have XL445 := Lib.hid (xlt_set XL428.out hW429)
          have HX446 := Lib.hid (blk_other HX420.out hW429 (by have := AP427.out; omega))
          have HX447 := Lib.hid (blk_same HX419.out hW429)
          clear hW429
          clear hHeld
          refine hK.out _ _ (sees_kept _ KB432.out) (fun hHeld => ?_)
          clear hK K
          (try simp only [Act.put])
          refine wpAnyH_ready (rs := [11]) (by kernel_rfl) (by simp) ?_
          refine AllReadyH.cons (o := cLamr3_11) rfl (fun K hK => ?_) ?_
          · unfold cLamr3_11
            refine step_store_part rfl 32 (.tmp 10) (.tmp 30) rfl (g105) 0 #[.int .i64 U329.k, .int .i64 U329.i, .int .i64 U329.j, .int .i64 U329.n, (.slice a326 U329.kids.length c327)] rfl rfl 32 size_term (row_ok rfl) _ #[.int .i64 U329.k, .int .i64 U329.i, .int .i64 U329.j, .int .i64 U329.n, (.slice a326 U329.kids.length c327)] HX446.out rfl (Nat.le_of_ble_eq_true rfl) ?_
            intro W448 hW448
            have KB449 := Lib.hid (kept_set KB430.out hW448 (by have := HG424.out; have := Z0.out; omega))
            have KB450 := Lib.hid (kept_set KB431.out hW448 HG424.out)
            have KB451 := Lib.hid (kept_set KB432.out hW448 HD426.out)
            have HL452 : Hid (LiesQ W448 (Par w V0.heap.size (g105 :: (g212 :: [])) P) g.a.kids _) := par_set HL433.out hW448 (List.mem_cons_self ..) (by have := HG424.out; have := Z0.out; omega)
            have HL453 : Hid (LiesQ W448 (Par w V0.heap.size (g105 :: (g212 :: [])) P) g.c.kids _) := par_set HL434.out hW448 (List.mem_cons_self ..) (by have := HG424.out; have := Z0.out; omega)
            have HL454 : Hid (LiesQ W448 (Par w V0.heap.size (g105 :: (g212 :: [])) P) g.b.kids _) := par_set HL435.out hW448 (List.mem_cons_self ..) (by have := HG424.out; have := Z0.out; omega)
            have HL455 : Hid (LiesQ W448 (Par w V0.heap.size (g105 :: (g212 :: [])) P) g.d.kids _) := par_set HL436.out hW448 (List.mem_cons_self ..) (by have := HG424.out; have := Z0.out; omega)
            have HL456 : Hid (LiesQ W448 (Par w V0.heap.size (g105 :: (g212 :: [])) P) g.e.kids _) := par_set HL437.out hW448 (List.mem_cons_self ..) (by have := HG424.out; have := Z0.out; omega)
            have HL457 : Hid (LiesQ W448 (Par w V0.heap.size (g105 :: (g212 :: [])) P) g.f.kids _) := par_set HL438.out hW448 (List.mem_cons_self ..) (by have := HG424.out; have := Z0.out; omega)
            have HL458 : Hid (LiesQ W448 (Par w V0.heap.size (g105 :: (g212 :: [])) P) x.kids _) := par_set HL439.out hW448 (List.mem_cons_self ..) (by have := HG424.out; have := Z0.out; omega)
            have HL459 : Hid (LiesQ W448 (Par w V0.heap.size (g105 :: (g212 :: [])) P) y.kids _) := par_set HL440.out hW448 (List.mem_cons_self ..) (by have := HG424.out; have := Z0.out; omega)
            have HL460 : Hid (LiesQ W448 (Par w V0.heap.size (g105 :: (g212 :: [])) P) z.kids _) := par_set HL441.out hW448 (List.mem_cons_self ..) (by have := HG424.out; have := Z0.out; omega)
            have HL461 : Hid (LiesQ W448 (Par w V0.heap.size (g105 :: (g212 :: [])) P) [x, y, z] _) := par_set HL442.out hW448 (List.mem_cons_self ..) (by have := HG424.out; have := Z0.out; omega)
            have HL462 : Hid (LiesQ W448 (Par w V0.heap.size (g105 :: (g212 :: [])) P) U49.kids _) := par_set HL443.out hW448 (List.mem_cons_self ..) (by have := HG424.out; have := Z0.out; omega)
            have HL463 : Hid (LiesQ W448 (Par w V0.heap.size (g105 :: (g212 :: [])) P) U329.kids _) := par_set HL444.out hW448 (List.mem_cons_self ..) (by have := HG424.out; have := Z0.out; omega)
            have XL464 := Lib.hid (xlt_set XL445.out hW448)
            have HX465 := Lib.hid (blk_same HX446.out hW448)
            have HX466 := Lib.hid (blk_other HX447.out hW448 (by have := AP427.out; omega))
            clear hW448
            clear hHeld
            refine hK.out _ _ (sees_kept _ KB451.out) (fun hHeld => ?_)
            clear hK K
            (try simp only [Act.put])
            refine wpAnyH_done (by kernel_rfl) ?_ _
            clear hHeld
            have kvV0 : Sees V0 (w.heap.size + 4) W448 := sees_kept _ KB450.out
            have kvW448 : Sees W448 (w.heap.size + 4) W448 := sees_kept _ (kept_refl _)
            go_wp2_with fail
            clear kvV0
            clear kvW448
            obtain ⟨W467, h468⟩ : ∃ x, World.drew W448 = x := ⟨_, rfl⟩
            have k469 : Kept W448 W467 := by rw [← h468]; exact kept_drew (kept_refl _)
            have Kk470 := Lib.hid k469
            clear k469
            refine wp_region_held_drew (S := Sees W467 (w.heap.size + 4)) (by kernel_rfl) ?_ (fun hHeld => ?_)
            · (try dsimp only)
              rw [h468]
              exact sees_kept _ (kept_refl _)
            rw [h468] at hHeld ⊢
            clear h468
            refine take_at 0 31 cLamr4_0 (yields_part (w.heap.size) 0 72 (.tmp 4) #[.int .i64 g.i, .int .i64 g.j, .int .i64 g.a.k, .int .i64 g.a.i, .int .i64 g.a.j, .int .i64 g.a.n, (.slice aga g.a.kids.length cga), .int .i64 g.c.k, .int .i64 g.c.i, .int .i64 g.c.j, .int .i64 g.c.n, (.slice agc g.c.kids.length cgc), .int .i64 g.b.k, .int .i64 g.b.i, .int .i64 g.b.j, .int .i64 g.b.n, (.slice agb g.b.kids.length cgb), .int .i64 g.d.k, .int .i64 g.d.i, .int .i64 g.d.j, .int .i64 g.d.n, (.slice agd g.d.kids.length cgd), .int .i64 g.e.k, .int .i64 g.e.i, .int .i64 g.e.j, .int .i64 g.e.n, (.slice age g.e.kids.length cge), .int .i64 g.f.k, .int .i64 g.f.i, .int .i64 g.f.j, .int .i64 g.f.n, (.slice agf g.f.kids.length cgf)] dg (fun _ h => sees_blk Hx1.out (by have := Z0.out; omega) (sees_of (kept_trans KB450.out Kk470.out) h)) (by rfl) rfl (by rfl) (by rfl) dg1 (by cases dg <;> first | rfl | exact dg2) (by kernel_rfl)) ?_
            (try simp only [Act.put, List.setIfInBounds_toArray, List.set_cons_zero, List.set_cons_succ])
            refine take_at 2 33 cLamr4_2 (v := ?_) (Or.inl ⟨by rfl, ?_⟩) ?_
            rotate_left 1
            · ((intro w hSw; (try dsimp only at hSw); unfold cLamr4_2; go_simp) <;> with_reducible rfl)
            (try simp only [Act.put, List.setIfInBounds_toArray, List.set_cons_zero, List.set_cons_succ])
            refine take_at 3 34 cLamr4_3 (yields_part (w.heap.size) 2 32 (.tmp 33) #[.int .i64 g.a.k, .int .i64 g.a.i, .int .i64 g.a.j, .int .i64 g.a.n, (.slice aga g.a.kids.length cga)] du (fun _ h => sees_blk Hx1.out (by have := Z0.out; omega) (sees_of (kept_trans KB450.out Kk470.out) h)) (by rfl) rfl (by rfl) (by rfl) hu1 (by cases du <;> first | rfl | exact hu2) size_term) ?_
            (try simp only [Act.put, List.setIfInBounds_toArray, List.set_cons_zero, List.set_cons_succ])
            refine take_at 4 35 cLamr4_4 (v := ?_) (Or.inl ⟨by rfl, ?_⟩) ?_
            rotate_left 1
            · ((intro w hSw; (try dsimp only at hSw); unfold cLamr4_4; go_simp) <;> with_reducible rfl)
            (try simp only [Act.put, List.setIfInBounds_toArray, List.set_cons_zero, List.set_cons_succ])
            refine take_at 5 36 cLamr4_5 (yields_part (w.heap.size) 12 32 (.tmp 35) #[.int .i64 g.b.k, .int .i64 g.b.i, .int .i64 g.b.j, .int .i64 g.b.n, (.slice agb g.b.kids.length cgb)] du (fun _ h => sees_blk Hx1.out (by have := Z0.out; omega) (sees_of (kept_trans KB450.out Kk470.out) h)) (by rfl) rfl (by rfl) (by rfl) hu1 (by cases du <;> first | rfl | exact hu2) size_term) ?_
            (try simp only [Act.put, List.setIfInBounds_toArray, List.set_cons_zero, List.set_cons_succ])
            refine take_at 7 38 cLamr4_7 (v := ?_) (Or.inl ⟨by rfl, ?_⟩) ?_
            rotate_left 1
            · ((intro w hSw; (try dsimp only at hSw); unfold cLamr4_7; go_simp) <;> with_reducible rfl)
            (try simp only [Act.put, List.setIfInBounds_toArray, List.set_cons_zero, List.set_cons_succ])
            refine take_at 8 39 cLamr4_8 (yields_part (w.heap.size) 7 32 (.tmp 38) #[.int .i64 g.c.k, .int .i64 g.c.i, .int .i64 g.c.j, .int .i64 g.c.n, (.slice agc g.c.kids.length cgc)] du (fun _ h => sees_blk Hx1.out (by have := Z0.out; omega) (sees_of (kept_trans KB450.out Kk470.out) h)) (by rfl) rfl (by rfl) (by rfl) hu1 (by cases du <;> first | rfl | exact hu2) size_term) ?_
            (try simp only [Act.put, List.setIfInBounds_toArray, List.set_cons_zero, List.set_cons_succ])
            refine take_at 9 40 cLamr4_9 (v := ?_) (Or.inl ⟨by rfl, ?_⟩) ?_
            rotate_left 1
            · ((intro w hSw; (try dsimp only at hSw); unfold cLamr4_9; go_simp) <;> with_reducible rfl)
            (try simp only [Act.put, List.setIfInBounds_toArray, List.set_cons_zero, List.set_cons_succ])
            refine take_at 10 41 cLamr4_10 (yields_part (w.heap.size) 17 32 (.tmp 40) #[.int .i64 g.d.k, .int .i64 g.d.i, .int .i64 g.d.j, .int .i64 g.d.n, (.slice agd g.d.kids.length cgd)] du (fun _ h => sees_blk Hx1.out (by have := Z0.out; omega) (sees_of (kept_trans KB450.out Kk470.out) h)) (by rfl) rfl (by rfl) (by rfl) hu1 (by cases du <;> first | rfl | exact hu2) size_term) ?_
            (try simp only [Act.put, List.setIfInBounds_toArray, List.set_cons_zero, List.set_cons_succ])
            refine take_at 12 43 cLamr4_12 (yields_part (g212) 0 32 (.tmp 9) #[.int .i64 U49.k, .int .i64 U49.i, .int .i64 U49.j, .int .i64 U49.n, (.slice a46 U49.kids.length c47)] du (fun _ h => sees_blk HX466.out (by have := HG421.out; have := Z0.out; omega) (sees_of Kk470.out h)) (by rfl) rfl (by rfl) (by rfl) hu1 (by cases du <;> first | rfl | exact hu2) size_term) ?_
            (try simp only [Act.put, List.setIfInBounds_toArray, List.set_cons_zero, List.set_cons_succ])
            refine take_at 13 44 cLamr4_13 (yields_part (g105) 0 32 (.tmp 10) #[.int .i64 U329.k, .int .i64 U329.i, .int .i64 U329.j, .int .i64 U329.n, (.slice a326 U329.kids.length c327)] du (fun _ h => sees_blk HX465.out (by have := HG424.out; have := Z0.out; omega) (sees_of Kk470.out h)) (by rfl) rfl (by rfl) (by rfl) hu1 (by cases du <;> first | rfl | exact hu2) size_term) ?_
            (try simp only [Act.put, List.setIfInBounds_toArray, List.set_cons_zero, List.set_cons_succ])
            refine take_at 14 45 cLamr4_14 (yields_part (w.heap.size) 0 72 (.tmp 4) #[.int .i64 g.i, .int .i64 g.j, .int .i64 g.a.k, .int .i64 g.a.i, .int .i64 g.a.j, .int .i64 g.a.n, (.slice aga g.a.kids.length cga), .int .i64 g.c.k, .int .i64 g.c.i, .int .i64 g.c.j, .int .i64 g.c.n, (.slice agc g.c.kids.length cgc), .int .i64 g.b.k, .int .i64 g.b.i, .int .i64 g.b.j, .int .i64 g.b.n, (.slice agb g.b.kids.length cgb), .int .i64 g.d.k, .int .i64 g.d.i, .int .i64 g.d.j, .int .i64 g.d.n, (.slice agd g.d.kids.length cgd), .int .i64 g.e.k, .int .i64 g.e.i, .int .i64 g.e.j, .int .i64 g.e.n, (.slice age g.e.kids.length cge), .int .i64 g.f.k, .int .i64 g.f.i, .int .i64 g.f.j, .int .i64 g.f.n, (.slice agf g.f.kids.length cgf)] dg (fun _ h => sees_blk Hx1.out (by have := Z0.out; omega) (sees_of (kept_trans KB450.out Kk470.out) h)) (by rfl) rfl (by rfl) (by rfl) dg1 (by cases dg <;> first | rfl | exact dg2) (by kernel_rfl)) ?_
            (try simp only [Act.put, List.setIfInBounds_toArray, List.set_cons_zero, List.set_cons_succ])
            refine take_at 15 46 cLamr4_15 (yields_part (g212) 0 32 (.tmp 9) #[.int .i64 U49.k, .int .i64 U49.i, .int .i64 U49.j, .int .i64 U49.n, (.slice a46 U49.kids.length c47)] du (fun _ h => sees_blk HX466.out (by have := HG421.out; have := Z0.out; omega) (sees_of Kk470.out h)) (by rfl) rfl (by rfl) (by rfl) hu1 (by cases du <;> first | rfl | exact hu2) size_term) ?_
            (try simp only [Act.put, List.setIfInBounds_toArray, List.set_cons_zero, List.set_cons_succ])
            refine take_at 16 47 cLamr4_16 (yields_part (g105) 0 32 (.tmp 10) #[.int .i64 U329.k, .int .i64 U329.i, .int .i64 U329.j, .int .i64 U329.n, (.slice a326 U329.kids.length c327)] du (fun _ h => sees_blk HX465.out (by have := HG424.out; have := Z0.out; omega) (sees_of Kk470.out h)) (by rfl) rfl (by rfl) (by rfl) hu1 (by cases du <;> first | rfl | exact hu2) size_term) ?_
            (try simp only [Act.put, List.setIfInBounds_toArray, List.set_cons_zero, List.set_cons_succ])
            refine take_at 17 48 cLamr4_17 (yields_part (w.heap.size + 3) 0 32 (.tmp 7) #[.int .i64 z.k, .int .i64 z.i, .int .i64 z.j, .int .i64 z.n, (.slice az z.kids.length cz)] du (fun _ h => sees_blk Hx4.out (by have := Z0.out; omega) (sees_of (kept_trans KB450.out Kk470.out) h)) (by rfl) rfl (by rfl) (by rfl) hu1 (by cases du <;> first | rfl | exact hu2) size_term) ?_
            (try simp only [Act.put, List.setIfInBounds_toArray, List.set_cons_zero, List.set_cons_succ])
            apply (via_joinTACTACC (K := fun W496 U484 a481 c482 U493 a490 c491 g500 => (Kept W467 W496) ∧ (nodeT 13 [g.a, g.b] = U484) ∧ (nodeT 13 [g.c, g.d] = U493) ∧ (LiesQ W496 (Par w V0.heap.size (g105 :: (g212 :: [])) P) U484.kids (.slice a481 U484.kids.length c482)) ∧ (LiesQ W496 (Par w V0.heap.size (g105 :: (g212 :: [])) P) U493.kids (.slice a490 U493.kids.length c491)) ∧ (LiesQ W496 (Par w V0.heap.size (g105 :: (g212 :: [])) P) ([U49, U329, z]) (.slice (some ⟨g500, 0, none⟩) 3 3))))
            intro HJj473
            apply (via_joinTACC (K := fun W507 U484 a481 c482 g511 => (Kept W467 W507) ∧ (nodeT 13 [g.a, g.b] = U484) ∧ (LiesQ W507 (Par w V0.heap.size (g105 :: (g212 :: [])) P) U484.kids (.slice a481 U484.kids.length c482)) ∧ (LiesQ W507 (Par w V0.heap.size (g105 :: (g212 :: [])) P) ([U49, U329, z]) (.slice (some ⟨g511, 0, none⟩) 3 3))))
            intro HJj472
            apply (via_joinC (K := fun W518 g522 => (Kept W467 W518) ∧ (LiesQ W518 (Par w V0.heap.size (g105 :: (g212 :: [])) P) ([U49, U329, z]) (.slice (some ⟨g522, 0, none⟩) 3 3))))
            intro HJj471
            · refine wpAnyH_ready (rs := [1, 18]) (by kernel_rfl) (by simp) ?_
              refine AllReadyH.cons (o := cLamr4_1) rfl (fun K hK => ?_) ?_
              · unfold cLamr4_1
                go_simp
                refine (cflevel_any g (Par w V0.heap.size (g105 :: (g212 :: [])) P) _ (.slice aga g.a.kids.length cga) (.slice agc g.c.kids.length cgc) (.slice agb g.b.kids.length cgb) (.slice agd g.d.kids.length cgd) (.slice age g.e.kids.length cge) (.slice agf g.f.kids.length cgf) (show Fm.fine g from ⟨Gg.out.1, Gg.out.2.1, Gg.out.2.2.1, Gg.out.2.2.2.1, Gg.out.2.2.2.2.1, Gg.out.2.2.2.2.2.1, Gg.out.2.2.2.2.2.2.1, Gg.out.2.2.2.2.2.2.2⟩) ⟨(HL452.out.later Kk470.out), (HL453.out.later Kk470.out), (HL454.out.later Kk470.out), (HL455.out.later Kk470.out), (HL456.out.later Kk470.out), (HL457.out.later Kk470.out)⟩).mono ?_
                rintro e w474 ⟨rfl, k475⟩
                have Kk476 := Lib.hid k475
                clear k475
                (try clear hHeld)
                refine hK.out _ _ (sees_kept _ Kk476.out) (fun hHeld => ?_)
                clear hK K
                (try simp only [Act.put, List.setIfInBounds_toArray, List.set_cons_zero, List.set_cons_succ])
                refine wpAnyH_ready (rs := [6, 18]) (by kernel_rfl) (by simp) ?_
                refine AllReadyH.cons (o := cLamr4_6) rfl (fun K hK => ?_) ?_
                · unfold cLamr4_6
                  go_simp
                  refine (cmake2_any 13 g.a g.b (Par w V0.heap.size (g105 :: (g212 :: [])) P) _ (.slice aga g.a.kids.length cga) (.slice agb g.b.kids.length cgb) (show I64 13 from by unfold I64; decide) Gg.out.2.2.1 (HL452.out.later (kept_trans Kk470.out Kk476.out)) Gg.out.2.2.2.2.1 (HL454.out.later (kept_trans Kk470.out Kk476.out))).mono ?_
                  obtain ⟨U484, hU484⟩ : ∃ qu, nodeT 13 [g.a, g.b] = qu := ⟨_, rfl⟩
                  rw [hU484]
                  have HU484 := Lib.hid hU484
                  clear hU484
                  rintro e w477 ⟨s479, rfl, hl480, k478⟩
                  obtain ⟨a481, c482, S483, rfl, -⟩ := hl480.out
                  have Kk485 := Lib.hid k478
                  clear k478
                  have Hhl480 : Hid (LiesQ w477 (Par w V0.heap.size (g105 :: (g212 :: [])) P) U484.kids _) := par_give hl480 (Below.size (kept_trans KB450.out (kept_trans Kk470.out Kk476.out))) (xlt_later XL464.out (kept_trans Kk470.out Kk476.out))
                  clear hl480
                  (try clear hHeld)
                  refine hK.out _ _ (sees_kept _ (kept_trans Kk476.out Kk485.out)) (fun hHeld => ?_)
                  clear hK K
                  (try simp only [Act.put, List.setIfInBounds_toArray, List.set_cons_zero, List.set_cons_succ])
                  refine wpAnyH_ready (rs := [11, 18]) (by kernel_rfl) (by simp) ?_
                  refine AllReadyH.cons (o := cLamr4_11) rfl (fun K hK => ?_) ?_
                  · unfold cLamr4_11
                    go_simp
                    refine (cmake2_any 13 g.c g.d (Par w V0.heap.size (g105 :: (g212 :: [])) P) _ (.slice agc g.c.kids.length cgc) (.slice agd g.d.kids.length cgd) (show I64 13 from by unfold I64; decide) Gg.out.2.2.2.1 (HL453.out.later (kept_trans Kk470.out (kept_trans Kk476.out Kk485.out))) Gg.out.2.2.2.2.2.1 (HL455.out.later (kept_trans Kk470.out (kept_trans Kk476.out Kk485.out)))).mono ?_
                    obtain ⟨U493, hU493⟩ : ∃ qu, nodeT 13 [g.c, g.d] = qu := ⟨_, rfl⟩
                    rw [hU493]
                    have HU493 := Lib.hid hU493
                    clear hU493
                    rintro e w486 ⟨s488, rfl, hl489, k487⟩
                    obtain ⟨a490, c491, S492, rfl, -⟩ := hl489.out
                    have Kk494 := Lib.hid k487
                    clear k487
                    have Hhl489 : Hid (LiesQ w486 (Par w V0.heap.size (g105 :: (g212 :: [])) P) U493.kids _) := par_give hl489 (Below.size (kept_trans KB450.out (kept_trans Kk470.out (kept_trans Kk476.out Kk485.out)))) (xlt_later XL464.out (kept_trans Kk470.out (kept_trans Kk476.out Kk485.out)))
                    clear hl489
                    (try clear hHeld)
                    refine hK.out _ _ (sees_kept _ (kept_trans Kk476.out (kept_trans Kk485.out Kk494.out))) (fun hHeld => ?_)
                    clear hK K
                    (try simp only [Act.put, List.setIfInBounds_toArray, List.set_cons_zero, List.set_cons_succ])
                    refine wpAnyH_ready (rs := [18]) (by kernel_rfl) (by simp) ?_
                    refine AllReadyH.cons (o := cLamr4_18) rfl (fun K hK => ?_) ?_
                    · unfold cLamr4_18
                      go_simp
                      refine at_K (fun W496 hW496 => ?_)
                      obtain ⟨g500, hg501, Kk498, Hx497, Hz499, KV502, HN503⟩ := alloc1v (kept_trans KB450.out (kept_trans Kk470.out (kept_trans Kk476.out (kept_trans Kk485.out Kk494.out)))) hW496
                      rw [hg501]
                      clear hW496
                      have kq505 := (kept_trans Kk470.out (kept_trans Kk476.out (kept_trans Kk485.out (kept_trans Kk494.out Kk498.out))))
                      have HR504 := Lib.hid (q_row3 (Q := (Par w V0.heap.size (g105 :: (g212 :: [])) P)) Hx497.out (by rw [← HU49.out]; exact (node_fine (show I64 14 from by unfold I64; decide))) (HL462.out.later kq505) (by rw [← HU329.out]; exact (node_fine (show I64 14 from by unfold I64; decide))) (HL463.out.later kq505) Gz.out (HL460.out.later kq505) (par_newg HN503.out (fun h => Nat.lt_irrefl _ (Nat.lt_of_lt_of_le ((xlt_later XL464.out (kept_trans Kk470.out (kept_trans Kk476.out (kept_trans Kk485.out Kk494.out)))) _ h) (Nat.le_of_eq hg501)))))
                      clear kq505
                      clear hg501
                      (try clear hHeld)
                      refine hK.out _ _ (sees_kept _ (kept_trans Kk476.out (kept_trans Kk485.out (kept_trans Kk494.out Kk498.out)))) (fun hHeld => ?_)
                      clear hK K
                      (try simp only [Act.put, List.setIfInBounds_toArray, List.set_cons_zero, List.set_cons_succ])
                      exact HJj473 W496 U484 a481 c482 U493 a490 c491 g500 ⟨(kept_trans Kk476.out (kept_trans Kk485.out (kept_trans Kk494.out Kk498.out))), HU484.out, HU493.out, (Hhl480.out.later (kept_trans Kk494.out Kk498.out)), (Hhl489.out.later Kk498.out), HR504.out⟩
                    exact AllReadyH.nil
                  refine AllReadyH.cons (o := cLamr4_18) rfl (fun K hK => ?_) ?_
                  · unfold cLamr4_18
                    go_simp
                    refine at_K (fun W507 hW507 => ?_)
                    obtain ⟨g511, hg512, Kk509, Hx508, Hz510, KV513, HN514⟩ := alloc1v (kept_trans KB450.out (kept_trans Kk470.out (kept_trans Kk476.out Kk485.out))) hW507
                    rw [hg512]
                    clear hW507
                    have kq516 := (kept_trans Kk470.out (kept_trans Kk476.out (kept_trans Kk485.out Kk509.out)))
                    have HR515 := Lib.hid (q_row3 (Q := (Par w V0.heap.size (g105 :: (g212 :: [])) P)) Hx508.out (by rw [← HU49.out]; exact (node_fine (show I64 14 from by unfold I64; decide))) (HL462.out.later kq516) (by rw [← HU329.out]; exact (node_fine (show I64 14 from by unfold I64; decide))) (HL463.out.later kq516) Gz.out (HL460.out.later kq516) (par_newg HN514.out (fun h => Nat.lt_irrefl _ (Nat.lt_of_lt_of_le ((xlt_later XL464.out (kept_trans Kk470.out (kept_trans Kk476.out Kk485.out))) _ h) (Nat.le_of_eq hg512)))))
                    clear kq516
                    clear hg512
                    (try clear hHeld)
                    refine hK.out _ _ (sees_kept _ (kept_trans Kk476.out (kept_trans Kk485.out Kk509.out))) (fun hHeld => ?_)
                    clear hK K
                    (try simp only [Act.put, List.setIfInBounds_toArray, List.set_cons_zero, List.set_cons_succ])
                    exact HJj472 W507 U484 a481 c482 g511 ⟨(kept_trans Kk476.out (kept_trans Kk485.out Kk509.out)), HU484.out, (Hhl480.out.later Kk509.out), HR515.out⟩
                  exact AllReadyH.nil
                refine AllReadyH.cons (o := cLamr4_18) rfl (fun K hK => ?_) ?_
                · unfold cLamr4_18
                  go_simp
                  refine at_K (fun W518 hW518 => ?_)
                  obtain ⟨g522, hg523, Kk520, Hx519, Hz521, KV524, HN525⟩ := alloc1v (kept_trans KB450.out (kept_trans Kk470.out Kk476.out)) hW518
                  rw [hg523]
                  clear hW518
                  have kq527 := (kept_trans Kk470.out (kept_trans Kk476.out Kk520.out))
                  have HR526 := Lib.hid (q_row3 (Q := (Par w V0.heap.size (g105 :: (g212 :: [])) P)) Hx519.out (by rw [← HU49.out]; exact (node_fine (show I64 14 from by unfold I64; decide))) (HL462.out.later kq527) (by rw [← HU329.out]; exact (node_fine (show I64 14 from by unfold I64; decide))) (HL463.out.later kq527) Gz.out (HL460.out.later kq527) (par_newg HN525.out (fun h => Nat.lt_irrefl _ (Nat.lt_of_lt_of_le ((xlt_later XL464.out (kept_trans Kk470.out Kk476.out)) _ h) (Nat.le_of_eq hg523)))))
                  clear kq527
                  clear hg523
                  (try clear hHeld)
                  refine hK.out _ _ (sees_kept _ (kept_trans Kk476.out Kk520.out)) (fun hHeld => ?_)
                  clear hK K
                  (try simp only [Act.put, List.setIfInBounds_toArray, List.set_cons_zero, List.set_cons_succ])
                  exact HJj471 W518 g522 ⟨(kept_trans Kk476.out Kk520.out), HR526.out⟩
                exact AllReadyH.nil
              refine AllReadyH.cons (o := cLamr4_18) rfl (fun K hK => ?_) ?_
              · unfold cLamr4_18
                go_simp
                refine at_K (fun W529 hW529 => ?_)
                obtain ⟨g533, hg534, Kk531, Hx530, Hz532, KV535, HN536⟩ := alloc1v (kept_trans KB450.out Kk470.out) hW529
                rw [hg534]
                clear hW529
                have kq538 := (kept_trans Kk470.out Kk531.out)
                have HR537 := Lib.hid (q_row3 (Q := (Par w V0.heap.size (g105 :: (g212 :: [])) P)) Hx530.out (by rw [← HU49.out]; exact (node_fine (show I64 14 from by unfold I64; decide))) (HL462.out.later kq538) (by rw [← HU329.out]; exact (node_fine (show I64 14 from by unfold I64; decide))) (HL463.out.later kq538) Gz.out (HL460.out.later kq538) (par_newg HN536.out (fun h => Nat.lt_irrefl _ (Nat.lt_of_lt_of_le ((xlt_later XL464.out Kk470.out) _ h) (Nat.le_of_eq hg534)))))
                clear kq538
                clear hg534
                (try clear hHeld)
                refine hK.out _ _ (sees_kept _ Kk531.out) (fun hHeld => ?_)
                clear hK K
                (try simp only [Act.put, List.setIfInBounds_toArray, List.set_cons_zero, List.set_cons_succ])
                refine wpAnyH_ready (rs := [1]) (by kernel_rfl) (by simp) ?_
                refine AllReadyH.cons (o := cLamr4_1) rfl (fun K hK => ?_) ?_
                · unfold cLamr4_1
                  go_simp
                  refine (cflevel_any g (Par w V0.heap.size (g105 :: (g212 :: [])) P) _ (.slice aga g.a.kids.length cga) (.slice agc g.c.kids.length cgc) (.slice agb g.b.kids.length cgb) (.slice agd g.d.kids.length cgd) (.slice age g.e.kids.length cge) (.slice agf g.f.kids.length cgf) (show Fm.fine g from ⟨Gg.out.1, Gg.out.2.1, Gg.out.2.2.1, Gg.out.2.2.2.1, Gg.out.2.2.2.2.1, Gg.out.2.2.2.2.2.1, Gg.out.2.2.2.2.2.2.1, Gg.out.2.2.2.2.2.2.2⟩) ⟨(HL452.out.later (kept_trans Kk470.out Kk531.out)), (HL453.out.later (kept_trans Kk470.out Kk531.out)), (HL454.out.later (kept_trans Kk470.out Kk531.out)), (HL455.out.later (kept_trans Kk470.out Kk531.out)), (HL456.out.later (kept_trans Kk470.out Kk531.out)), (HL457.out.later (kept_trans Kk470.out Kk531.out))⟩).mono ?_
                  rintro e w539 ⟨rfl, k540⟩
                  have Kk541 := Lib.hid k540
                  clear k540
                  (try clear hHeld)
                  refine hK.out _ _ (sees_kept _ (kept_trans Kk531.out Kk541.out)) (fun hHeld => ?_)
                  clear hK K
                  (try simp only [Act.put, List.setIfInBounds_toArray, List.set_cons_zero, List.set_cons_succ])
                  exact HJj471 w539 g533 ⟨(kept_trans Kk531.out Kk541.out), (HR537.out.later Kk541.out)⟩
                exact AllReadyH.nil
              exact AllReadyH.nil
            · intro W518 g522 k542
              obtain ⟨q543, q544⟩ := k542
              have Kk545 := Lib.hid q543
              have KV546 := Lib.hid (kept_trans (kept_trans KB450.out Kk470.out) Kk545.out)
              have HL547 := Lib.hid q544
              clear q543 q544
              have hHeld : Sees W467 (w.heap.size + 4) W518 := sees_kept _ Kk545.out
              refine wpAnyH_ready (rs := [6]) (by kernel_rfl) (by simp) ?_
              refine AllReadyH.cons (o := cLamr4_6) rfl (fun K hK => ?_) ?_
              · unfold cLamr4_6
                go_simp
                refine (cmake2_any 13 g.a g.b (Par w V0.heap.size (g105 :: (g212 :: [])) P) _ (.slice aga g.a.kids.length cga) (.slice agb g.b.kids.length cgb) (show I64 13 from by unfold I64; decide) Gg.out.2.2.1 (HL452.out.later (kept_trans Kk470.out Kk545.out)) Gg.out.2.2.2.2.1 (HL454.out.later (kept_trans Kk470.out Kk545.out))).mono ?_
                obtain ⟨U555, hU555⟩ : ∃ qu, nodeT 13 [g.a, g.b] = qu := ⟨_, rfl⟩
                rw [hU555]
                have HU555 := Lib.hid hU555
                clear hU555
                rintro e w548 ⟨s550, rfl, hl551, k549⟩
                obtain ⟨a552, c553, S554, rfl, -⟩ := hl551.out
                have Kk556 := Lib.hid k549
                clear k549
                have Hhl551 : Hid (LiesQ w548 (Par w V0.heap.size (g105 :: (g212 :: [])) P) U555.kids _) := par_give hl551 (Below.size KV546.out) (xlt_later XL464.out (kept_trans Kk470.out Kk545.out))
                clear hl551
                (try clear hHeld)
                refine hK.out _ _ (sees_kept _ (kept_trans Kk545.out Kk556.out)) (fun hHeld => ?_)
                clear hK K
                (try simp only [Act.put, List.setIfInBounds_toArray, List.set_cons_zero, List.set_cons_succ])
                exact HJj472 w548 U555 a552 c553 g522 ⟨(kept_trans Kk545.out Kk556.out), HU555.out, Hhl551.out, (HL547.out.later Kk556.out)⟩
              exact AllReadyH.nil
            · intro W507 U484 a481 c482 g511 k557
              obtain ⟨q558, q559, q560, q561⟩ := k557
              have Kk562 := Lib.hid q558
              have KV563 := Lib.hid (kept_trans (kept_trans KB450.out Kk470.out) Kk562.out)
              have HU484 := Lib.hid q559
              have HL564 := Lib.hid q560
              have HL565 := Lib.hid q561
              clear q558 q559 q560 q561
              have hHeld : Sees W467 (w.heap.size + 4) W507 := sees_kept _ Kk562.out
              refine wpAnyH_ready (rs := [11]) (by kernel_rfl) (by simp) ?_
              refine AllReadyH.cons (o := cLamr4_11) rfl (fun K hK => ?_) ?_
              · unfold cLamr4_11
                go_simp
                refine (cmake2_any 13 g.c g.d (Par w V0.heap.size (g105 :: (g212 :: [])) P) _ (.slice agc g.c.kids.length cgc) (.slice agd g.d.kids.length cgd) (show I64 13 from by unfold I64; decide) Gg.out.2.2.2.1 (HL453.out.later (kept_trans Kk470.out Kk562.out)) Gg.out.2.2.2.2.2.1 (HL455.out.later (kept_trans Kk470.out Kk562.out))).mono ?_
                obtain ⟨U573, hU573⟩ : ∃ qu, nodeT 13 [g.c, g.d] = qu := ⟨_, rfl⟩
                rw [hU573]
                have HU573 := Lib.hid hU573
                clear hU573
                rintro e w566 ⟨s568, rfl, hl569, k567⟩
                obtain ⟨a570, c571, S572, rfl, -⟩ := hl569.out
                have Kk574 := Lib.hid k567
                clear k567
                have Hhl569 : Hid (LiesQ w566 (Par w V0.heap.size (g105 :: (g212 :: [])) P) U573.kids _) := par_give hl569 (Below.size KV563.out) (xlt_later XL464.out (kept_trans Kk470.out Kk562.out))
                clear hl569
                (try clear hHeld)
                refine hK.out _ _ (sees_kept _ (kept_trans Kk562.out Kk574.out)) (fun hHeld => ?_)
                clear hK K
                (try simp only [Act.put, List.setIfInBounds_toArray, List.set_cons_zero, List.set_cons_succ])
                exact HJj473 w566 U484 a481 c482 U573 a570 c571 g511 ⟨(kept_trans Kk562.out Kk574.out), HU484.out, HU573.out, (HL564.out.later Kk574.out), Hhl569.out, (HL565.out.later Kk574.out)⟩
              exact AllReadyH.nil
            · intro W496 U484 a481 c482 U493 a490 c491 g500 k575
              obtain ⟨q576, q577, q578, q579, q580, q581⟩ := k575
              have Kk582 := Lib.hid q576
              have KV583 := Lib.hid (kept_trans (kept_trans KB450.out Kk470.out) Kk582.out)
              have HU484 := Lib.hid q577
              have HU493 := Lib.hid q578
              have HL584 := Lib.hid q579
              have HL585 := Lib.hid q580
              have HL586 := Lib.hid q581
              clear q576 q577 q578 q579 q580 q581
              have hHeld : Sees W467 (w.heap.size + 4) W496 := sees_kept _ Kk582.out
              refine wpAnyH_ready (rs := [19]) (by kernel_rfl) (by simp) ?_
              refine AllReadyH.cons (o := cLamr4_19) rfl (fun K hK => ?_) ?_
              · unfold cLamr4_19
                go_simp
                refine (cfuse_any 15 g [U49, U329, z] (Par w V0.heap.size (g105 :: (g212 :: [])) P) _ (.slice aga g.a.kids.length cga) (.slice agc g.c.kids.length cgc) (.slice agb g.b.kids.length cgb) (.slice agd g.d.kids.length cgd) (.slice age g.e.kids.length cge) (.slice agf g.f.kids.length cgf) ((.slice (some ⟨g500, 0, none⟩) 3 3)) (show Fm.fine g from ⟨Gg.out.1, Gg.out.2.1, Gg.out.2.2.1, Gg.out.2.2.2.1, Gg.out.2.2.2.2.1, Gg.out.2.2.2.2.2.1, Gg.out.2.2.2.2.2.2.1, Gg.out.2.2.2.2.2.2.2⟩) ⟨(HL452.out.later (kept_trans Kk470.out Kk582.out)), (HL453.out.later (kept_trans Kk470.out Kk582.out)), (HL454.out.later (kept_trans Kk470.out Kk582.out)), (HL455.out.later (kept_trans Kk470.out Kk582.out)), (HL456.out.later (kept_trans Kk470.out Kk582.out)), (HL457.out.later (kept_trans Kk470.out Kk582.out))⟩ (show I64 15 from by unfold I64; decide) HL586.out Hhb11.out (fun x hx => by
                  simp only [List.mem_cons, List.not_mem_nil, or_false] at hx
                  rcases hx with rfl | rfl | rfl
                  · exact (by rw [← HU49.out]; exact (node_plain (by rfl) (by rfl) (by rfl) (fun x hx => by
                  simp only [List.mem_cons, List.not_mem_nil, or_false] at hx
                  rcases hx with rfl | rfl
                  · exact (fmR_pl Hhb11.out _ (by simp))
                  · exact (plainL_iff.1 Hhb26.out _ (by simp)))))
                  · exact (by rw [← HU329.out]; exact (node_plain (by rfl) (by rfl) (by rfl) (fun x hx => by
                  simp only [List.mem_cons, List.not_mem_nil, or_false] at hx
                  rcases hx with rfl | rfl
                  · exact (fmR_pl Hhb11.out _ (by simp))
                  · exact (plainL_iff.1 Hhb26.out _ (by simp)))))
                  · exact (plainL_iff.1 Hhb26.out _ (by simp))) (Nat.le_of_ble_eq_true rfl)).mono ?_
                obtain ⟨U594, hU594⟩ : ∃ qu, sixT 15 g [U49, U329, z] = qu := ⟨_, rfl⟩
                rw [hU594]
                have HU594 := Lib.hid hU594
                clear hU594
                rintro e w587 ⟨s589, rfl, hl590, k588⟩
                obtain ⟨a591, c592, S593, rfl, -⟩ := hl590.out
                have Kk595 := Lib.hid k588
                clear k588
                have Hhl590 : Hid (LiesQ w587 (Par w V0.heap.size (g105 :: (g212 :: [])) P) U594.kids _) := par_give hl590 (Below.size KV583.out) (xlt_later XL464.out (kept_trans Kk470.out Kk582.out))
                clear hl590
                clear hHeld
                refine hK.out _ _ (sees_kept _ (kept_trans Kk582.out Kk595.out)) (fun hHeld => ?_)
                clear hK K
                (try simp only [Act.put, List.setIfInBounds_toArray, List.set_cons_zero, List.set_cons_succ])
                refine take_at 20 51 cLamr4_20 (v := ?_) (Or.inl ⟨by rfl, ?_⟩) ?_
                rotate_left 1
                · ((intro w hSw; (try dsimp only at hSw); unfold cLamr4_20; go_simp) <;> with_reducible rfl)
                (try simp only [Act.put, List.setIfInBounds_toArray, List.set_cons_zero, List.set_cons_succ])
                refine wpAnyH_ready (rs := [21]) (by kernel_rfl) (by simp) ?_
                refine AllReadyH.cons (o := cLamr4_21) rfl (fun K hK => ?_) ?_
                · unfold cLamr4_21
                  go_simp
                  refine (cfresh_any (⟨(max g.i g.j), U484, U493, U49, U329, U594⟩ : He) (Par w V0.heap.size (g105 :: (g212 :: [])) P) _ (.slice a481 U484.kids.length c482) (.slice a490 U493.kids.length c491) (.slice a46 U49.kids.length c47) (.slice a326 U329.kids.length c327) (.slice a591 U594.kids.length c592) (show He.fine (⟨(max g.i g.j), U484, U493, U49, U329, U594⟩ : He) from ⟨(range_max Gg.out.1 Gg.out.2.1), (by rw [← HU484.out]; exact (node_fine (show I64 13 from by unfold I64; decide))), (by rw [← HU493.out]; exact (node_fine (show I64 13 from by unfold I64; decide))), (by rw [← HU49.out]; exact (node_fine (show I64 14 from by unfold I64; decide))), (by rw [← HU329.out]; exact (node_fine (show I64 14 from by unfold I64; decide))), (by rw [← HU594.out]; exact (six_fine (show I64 15 from by unfold I64; decide) (show Fm.fine g from ⟨Gg.out.1, Gg.out.2.1, Gg.out.2.2.1, Gg.out.2.2.2.1, Gg.out.2.2.2.2.1, Gg.out.2.2.2.2.2.1, Gg.out.2.2.2.2.2.2.1, Gg.out.2.2.2.2.2.2.2⟩)))⟩) ⟨(HL584.out.later Kk595.out), (HL585.out.later Kk595.out), (HL462.out.later (kept_trans Kk470.out (kept_trans Kk582.out Kk595.out))), (HL463.out.later (kept_trans Kk470.out (kept_trans Kk582.out Kk595.out))), Hhl590.out⟩ (Or.inl (by rw [← HU484.out]; exact (node_plain (by rfl) (by rfl) (by rfl) (fun x hx => by
                    simp only [List.mem_cons, List.not_mem_nil, or_false] at hx
                    rcases hx with rfl | rfl
                    · exact (fmR_pl Hhb11.out _ (by simp))
                    · exact (fmR_pl Hhb11.out _ (by simp)))))) (Or.inl (by rw [← HU493.out]; exact (node_plain (by rfl) (by rfl) (by rfl) (fun x hx => by
                    simp only [List.mem_cons, List.not_mem_nil, or_false] at hx
                    rcases hx with rfl | rfl
                    · exact (fmR_pl Hhb11.out _ (by simp))
                    · exact (fmR_pl Hhb11.out _ (by simp)))))) (Or.inl (by rw [← HU49.out]; exact (node_plain (by rfl) (by rfl) (by rfl) (fun x hx => by
                    simp only [List.mem_cons, List.not_mem_nil, or_false] at hx
                    rcases hx with rfl | rfl
                    · exact (fmR_pl Hhb11.out _ (by simp))
                    · exact (plainL_iff.1 Hhb26.out _ (by simp)))))) (Or.inl (by rw [← HU329.out]; exact (node_plain (by rfl) (by rfl) (by rfl) (fun x hx => by
                    simp only [List.mem_cons, List.not_mem_nil, or_false] at hx
                    rcases hx with rfl | rfl
                    · exact (fmR_pl Hhb11.out _ (by simp))
                    · exact (plainL_iff.1 Hhb26.out _ (by simp))))))).mono ?_
                  obtain ⟨U598, hU598⟩ : ∃ qu, (⟨(max g.i g.j), U484, U493, U49, U329, U594⟩ : He) = qu := ⟨_, rfl⟩
                  rw [hU598]
                  have HU598 := Lib.hid hU598
                  clear hU598
                  rintro e w596 ⟨s599, s600, s601, s602, s603, rfl, ⟨hl604, hl605, hl606, hl607, hl608⟩, k597⟩
                  obtain ⟨a609, c610, S611, rfl, -⟩ := hl604.out
                  obtain ⟨a612, c613, S614, rfl, -⟩ := hl605.out
                  obtain ⟨a615, c616, S617, rfl, -⟩ := hl606.out
                  obtain ⟨a618, c619, S620, rfl, -⟩ := hl607.out
                  obtain ⟨a621, c622, S623, rfl, -⟩ := hl608.out
                  have Kk624 := Lib.hid k597
                  clear k597
                  have Hhl604 : Hid (LiesQ w596 (Par w V0.heap.size (g105 :: (g212 :: [])) P) U598.a.kids _) := par_give hl604 (Below.size (kept_trans KB450.out (kept_trans Kk470.out (kept_trans Kk582.out Kk595.out)))) (xlt_later XL464.out (kept_trans Kk470.out (kept_trans Kk582.out Kk595.out)))
                  have Hhl605 : Hid (LiesQ w596 (Par w V0.heap.size (g105 :: (g212 :: [])) P) U598.b.kids _) := par_give hl605 (Below.size (kept_trans KB450.out (kept_trans Kk470.out (kept_trans Kk582.out Kk595.out)))) (xlt_later XL464.out (kept_trans Kk470.out (kept_trans Kk582.out Kk595.out)))
                  have Hhl606 : Hid (LiesQ w596 (Par w V0.heap.size (g105 :: (g212 :: [])) P) U598.x.kids _) := par_give hl606 (Below.size (kept_trans KB450.out (kept_trans Kk470.out (kept_trans Kk582.out Kk595.out)))) (xlt_later XL464.out (kept_trans Kk470.out (kept_trans Kk582.out Kk595.out)))
                  have Hhl607 : Hid (LiesQ w596 (Par w V0.heap.size (g105 :: (g212 :: [])) P) U598.y.kids _) := par_give hl607 (Below.size (kept_trans KB450.out (kept_trans Kk470.out (kept_trans Kk582.out Kk595.out)))) (xlt_later XL464.out (kept_trans Kk470.out (kept_trans Kk582.out Kk595.out)))
                  have Hhl608 : Hid (LiesQ w596 (Par w V0.heap.size (g105 :: (g212 :: [])) P) U598.h.kids _) := par_give hl608 (Below.size (kept_trans KB450.out (kept_trans Kk470.out (kept_trans Kk582.out Kk595.out)))) (xlt_later XL464.out (kept_trans Kk470.out (kept_trans Kk582.out Kk595.out)))
                  clear hl604 hl605 hl606 hl607 hl608
                  clear hHeld
                  refine hK.out _ _ (sees_kept _ (kept_trans Kk582.out (kept_trans Kk595.out Kk624.out))) (fun hHeld => ?_)
                  clear hK K
                  (try simp only [Act.put, List.setIfInBounds_toArray, List.set_cons_zero, List.set_cons_succ])
                  refine wpAnyH_ready (rs := [22]) (by kernel_rfl) (by simp) ?_
                  refine AllReadyH.cons (o := cLamr4_22) rfl (fun K hK => ?_) ?_
                  · unfold cLamr4_22
                    refine step_store_part rfl 51 (.tmp 8) (.tmp 52) rfl (w.heap.size + 4) 0 #[.int .i64 U598.i, .int .i64 U598.a.k, .int .i64 U598.a.i, .int .i64 U598.a.j, .int .i64 U598.a.n, (.slice a609 U598.a.kids.length c610), .int .i64 U598.b.k, .int .i64 U598.b.i, .int .i64 U598.b.j, .int .i64 U598.b.n, (.slice a612 U598.b.kids.length c613), .int .i64 U598.x.k, .int .i64 U598.x.i, .int .i64 U598.x.j, .int .i64 U598.x.n, (.slice a615 U598.x.kids.length c616), .int .i64 U598.y.k, .int .i64 U598.y.i, .int .i64 U598.y.j, .int .i64 U598.y.n, (.slice a618 U598.y.kids.length c619), .int .i64 U598.h.k, .int .i64 U598.h.i, .int .i64 U598.h.j, .int .i64 U598.h.n, (.slice a621 U598.h.kids.length c622)] rfl rfl 51 (by kernel_rfl) (row_ok rfl) _ #[.int .i64 U598.i, .int .i64 U598.a.k, .int .i64 U598.a.i, .int .i64 U598.a.j, .int .i64 U598.a.n, (.slice a609 U598.a.kids.length c610), .int .i64 U598.b.k, .int .i64 U598.b.i, .int .i64 U598.b.j, .int .i64 U598.b.n, (.slice a612 U598.b.kids.length c613), .int .i64 U598.x.k, .int .i64 U598.x.i, .int .i64 U598.x.j, .int .i64 U598.x.n, (.slice a615 U598.x.kids.length c616), .int .i64 U598.y.k, .int .i64 U598.y.i, .int .i64 U598.y.j, .int .i64 U598.y.n, (.slice a618 U598.y.kids.length c619), .int .i64 U598.h.k, .int .i64 U598.h.i, .int .i64 U598.h.j, .int .i64 U598.h.n, (.slice a621 U598.h.kids.length c622)] (blk_at Hx5.out (kept_trans KB450.out (kept_trans Kk470.out (kept_trans Kk582.out (kept_trans Kk595.out Kk624.out))))) rfl (Nat.le_of_ble_eq_true rfl) ?_
                    intro W625 hW625
                    clear hHeld
                    refine hK.out _ _ (sees_set (kept_trans Kk582.out (kept_trans Kk595.out Kk624.out)) hW625) (fun hHeld => ?_)
                    clear hK K
                    (try simp only [Act.put])
                    refine wpAnyH_done (by kernel_rfl) ?_ _
                    clear hHeld
                    go_wp2_with fail
                    refine bodyPost_ret (results_cell_row rfl _ _ (w.heap.size + 4) 51 _ _ dh rfl (blk_same (blk_at Hx5.out (kept_trans KB450.out (kept_trans Kk470.out (kept_trans Kk582.out (kept_trans Kk595.out Kk624.out))))) hW625) dh1 (by cases dh <;> first | rfl | exact dh2) (by kernel_rfl)) rfl ?_
                    rw [show cgLam g x y z = U598 from by unfold cgLam; rw [Hhb11.out, Hhb26.out]; rw [← HU598.out]; rw [← HU594.out]; rw [← HU493.out]; rw [← HU484.out]; rw [← HU329.out]; rw [← HU49.out]; (try rfl)]
                    exact ⟨_, _, _, _, _, rfl, ⟨par_end (par_row' Hhl604.out hW625 (by omega) (by have := Z0.out; omega)) (by have := Z0.out; omega), par_end (par_row' Hhl605.out hW625 (by omega) (by have := Z0.out; omega)) (by have := Z0.out; omega), par_end (par_row' Hhl606.out hW625 (by omega) (by have := Z0.out; omega)) (by have := Z0.out; omega), par_end (par_row' Hhl607.out hW625 (by omega) (by have := Z0.out; omega)) (by have := Z0.out; omega), par_end (par_row' Hhl608.out hW625 (by omega) (by have := Z0.out; omega)) (by have := Z0.out; omega)⟩, kept_set (kept_trans KB449.out (kept_trans Kk470.out (kept_trans Kk582.out (kept_trans Kk595.out Kk624.out)))) hW625 (by omega)⟩
                  exact AllReadyH.nil
                exact AllReadyH.nil
              exact AllReadyH.nil
          exact AllReadyH.nil
        exact AllReadyH.nil

end Go.Proofs.Ytkdceahmknhojaa
