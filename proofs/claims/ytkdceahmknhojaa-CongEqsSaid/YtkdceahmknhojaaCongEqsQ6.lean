/-
  Facts and contracts that the proof of CongEqs uses.
-/
import Derived.Test.YtkdceahmknhojaaRows
import Derived.WalkKit
import Derived.Lib.Hide
import Derived.KernelRfl
import Derived.Deep.RegionWith
import Derived.Deep.RegionHeld3
import Derived.Deep.AppendLies
import Derived.Laws.Rows
import Derived.Laws.IdiomCopy
import Derived.Deep.Slices
import Derived.Lib.QuietBelow
import Derived.StillTailTactics
import Derived.BigQuiet
import Derived.IntWalk
import Derived.OwnWalk
import Derived.Deep.RegionLaw
import Derived.Deep.QuietTactic
import Derived.Deep.LoopGhost
import Derived.Deep.DeepCutAuto
import Derived.Deep.MidRow
import Derived.OrdersHeld
import Derived.Laws.Tables
import Derived.Laws.CopyOwn
import Derived.Laws.CopyRow
import Derived.Deep.Upon
import Derived.ArgAppend
import Derived.Deep.RegionHeld
import Derived.Lib.MinMax
import Derived.ProofKit
import Derived.OpenShut
import Derived.Carry
import Derived.ChangeSlices
import Derived.JoinedOf
import Derived.Test.YtkdceahmknhojaaCongEqsQ5
namespace Go.Proofs.Ytkdceahmknhojaa
open Go.RowKit

set_option maxRecDepth 20000 in
set_option maxHeartbeats 4000000 in
theorem cEq_any (i : Int) (a : Tm) (c : Tm) (e : Tm) (r : He) (s : He) (P : Nat → Prop) (w : World) (sa : Value) (sc : Value) (se : Value) (sra : Value) (srb : Value) (srx : Value) (sry : Value) (srh : Value) (ssa : Value) (ssb : Value) (ssx : Value) (ssy : Value) (ssh : Value) (hri : I64 i) (hfa : a.fine) (hla : LiesQ w P a.kids sa) (hfc : c.fine) (hlc : LiesQ w P c.kids sc) (hfe : e.fine) (hle : LiesQ w P e.kids se) (hfr : r.fine) (hlr : HQ w P r sra srb srx sry srh) (hfs : s.fine) (hls : HQ w P s ssa ssb ssx ssy ssh) : Calls Try.prog 72 #[.int .i64 i, tv a sa, tv c sc, tv e se, hv r sra srb srx sry srh, hv s ssa ssb ssx ssy ssh] w (GivesP P (cgEq i a c e r s) w) := by
  have Ri := Lib.hid hri
  clear hri
  have Ga := Lib.hid hfa
  clear hfa
  obtain ⟨aa, ca, Sa, rfl, -⟩ := hla.out
  have Gc := Lib.hid hfc
  clear hfc
  obtain ⟨ac, cc, Sc, rfl, -⟩ := hlc.out
  have Ge := Lib.hid hfe
  clear hfe
  obtain ⟨ae, ce, Se, rfl, -⟩ := hle.out
  have Gr := Lib.hid hfr
  clear hfr
  obtain ⟨hlra, hlrb, hlrx, hlry, hlrh⟩ := hlr
  obtain ⟨ara, cra, Sra, rfl, -⟩ := hlra.out
  obtain ⟨arb, crb, Srb, rfl, -⟩ := hlrb.out
  obtain ⟨arx, crx, Srx, rfl, -⟩ := hlrx.out
  obtain ⟨ary, cry, Sry, rfl, -⟩ := hlry.out
  obtain ⟨arh, crh, Srh, rfl, -⟩ := hlrh.out
  have Gs := Lib.hid hfs
  clear hfs
  obtain ⟨hlsa, hlsb, hlsx, hlsy, hlsh⟩ := hls
  obtain ⟨asa, csa, Ssa, rfl, -⟩ := hlsa.out
  obtain ⟨asb, csb, Ssb, rfl, -⟩ := hlsb.out
  obtain ⟨asx, csx, Ssx, rfl, -⟩ := hlsx.out
  obtain ⟨asy, csy, Ssy, rfl, -⟩ := hlsy.out
  obtain ⟨ash, csh, Ssh, rfl, -⟩ := hlsh.out
  obtain ⟨du, hu1, hu2⟩ := under_term
  obtain ⟨dh, dh1, dh2⟩ := under_of 51 (by kernel_rfl)
  unfold hv
  unfold tv
  go_enter Try.func72, Try.ntmps72
  go_upto_region 1 with fail
  refine at_code (fun V0 hV0 => ?_)
  obtain ⟨k7, x1, x2, x3, x4, x5, x6, z8⟩ := alloc6 hV0
  have Kk9 := Lib.hid k7
  clear k7
  have Hx1 := Lib.hid x1
  have Hx2 := Lib.hid x2
  have Hx3 := Lib.hid x3
  have Hx4 := Lib.hid x4
  have Hx5 := Lib.hid x5
  have Hx6 := Lib.hid x6
  have Z0 := Lib.hid z8
  clear z8 x1 x2 x3 x4 x5 x6 hV0
  have HLa : Hid (LiesQ V0 (Par w V0.heap.size [] P) a.kids _) := (par_in _ _ hla).later Kk9.out
  clear hla
  have HLc : Hid (LiesQ V0 (Par w V0.heap.size [] P) c.kids _) := (par_in _ _ hlc).later Kk9.out
  clear hlc
  have HLe : Hid (LiesQ V0 (Par w V0.heap.size [] P) e.kids _) := (par_in _ _ hle).later Kk9.out
  clear hle
  have HLra : Hid (LiesQ V0 (Par w V0.heap.size [] P) r.a.kids _) := (par_in _ _ hlra).later Kk9.out
  clear hlra
  have HLrb : Hid (LiesQ V0 (Par w V0.heap.size [] P) r.b.kids _) := (par_in _ _ hlrb).later Kk9.out
  clear hlrb
  have HLrx : Hid (LiesQ V0 (Par w V0.heap.size [] P) r.x.kids _) := (par_in _ _ hlrx).later Kk9.out
  clear hlrx
  have HLry : Hid (LiesQ V0 (Par w V0.heap.size [] P) r.y.kids _) := (par_in _ _ hlry).later Kk9.out
  clear hlry
  have HLrh : Hid (LiesQ V0 (Par w V0.heap.size [] P) r.h.kids _) := (par_in _ _ hlrh).later Kk9.out
  clear hlrh
  have HLsa : Hid (LiesQ V0 (Par w V0.heap.size [] P) s.a.kids _) := (par_in _ _ hlsa).later Kk9.out
  clear hlsa
  have HLsb : Hid (LiesQ V0 (Par w V0.heap.size [] P) s.b.kids _) := (par_in _ _ hlsb).later Kk9.out
  clear hlsb
  have HLsx : Hid (LiesQ V0 (Par w V0.heap.size [] P) s.x.kids _) := (par_in _ _ hlsx).later Kk9.out
  clear hlsx
  have HLsy : Hid (LiesQ V0 (Par w V0.heap.size [] P) s.y.kids _) := (par_in _ _ hlsy).later Kk9.out
  clear hlsy
  have HLsh : Hid (LiesQ V0 (Par w V0.heap.size [] P) s.h.kids _) := (par_in _ _ hlsh).later Kk9.out
  clear hlsh
  have kvV0 : Sees V0 (w.heap.size + 5) V0 := sees_kept _ (kept_refl _)
  go_wp2_with fail
  clear kvV0
  refine (clevel_any i _ Ri.out).mono ?_
  obtain ⟨rb13, hb12⟩ : ∃ qb, (levN 3 i) = qb := ⟨_, rfl⟩
  rw [hb12]
  have Hhb12 := Lib.hid hb12
  clear hb12
  rintro e w10 ⟨rfl, k11⟩
  have Kk14 := Lib.hid k11
  clear k11
  cases rb13 with
  | false =>
    have kvV0 : Sees V0 (w.heap.size + 5) w10 := sees_kept _ Kk14.out
    go_wp2_with (refine stop_store 32 (.tmp 12) (.tmp 31) rfl ?_)
    intro _
    refine wpList_store_part_n (by rfl) 32 (.tmp 12) (.tmp 31) rfl (w.heap.size + 5) 0 #[.int .i64 0, .int .i64 0, .int .i64 0, .int .i64 0, .slice none 0 0] (by rfl) (by rfl) 32 size_term (row_ok rfl) ?_
    intro W15 hW15
    clear kvV0
    subst hW15
    refine ⟨_, #[.int .i64 0, .int .i64 0, .int .i64 0, .int .i64 0, .slice none 0 0], (blk_at Hx6.out Kk14.out), rfl, Nat.le_of_ble_eq_true rfl, ?_⟩
    intro W16 hW16
    go_wp2_with fail
    refine bodyPost_ret (results_cell_row rfl _ _ (w.heap.size + 5) 32 _ _ du rfl (blk_same (blk_at Hx6.out Kk14.out) hW16) hu1 (by cases du <;> first | rfl | exact hu2) size_term) rfl ?_
    rw [show cgEq i a c e r s = (Tm.mk 0 0 0 0 []) from by unfold cgEq; rw [Hhb12.out]; (try rfl)]
    exact ⟨_, rfl, par_end (par_row' (liesQ_nil w10 (Par w V0.heap.size [] P)) hW16 (by omega) (by have := Z0.out; omega)) (by have := Z0.out; omega), kept_set (kept_trans Kk9.out Kk14.out) hW16 (by omega)⟩
  | true =>
    have kvV0 : Sees V0 (w.heap.size + 5) w10 := sees_kept _ Kk14.out
    go_wp2_with (refine stop_load 32 (.tmp 7) rfl ?_)
    intro _
    refine wpList_load_part (w.heap.size) 0 32 (.tmp 7) #[.int .i64 a.k, .int .i64 a.i, .int .i64 a.j, .int .i64 a.n, (.slice aa a.kids.length ca)] du (blk_at Hx1.out Kk14.out) (by rfl) rfl (by rfl) (by rfl) hu1 (by cases du <;> first | rfl | exact hu2) size_term ?_
    go_wp2_with (refine stop_load 32 (.tmp 8) rfl ?_)
    intro _
    refine wpList_load_part (w.heap.size + 1) 0 32 (.tmp 8) #[.int .i64 c.k, .int .i64 c.i, .int .i64 c.j, .int .i64 c.n, (.slice ac c.kids.length cc)] du (blk_at Hx2.out Kk14.out) (by rfl) rfl (by rfl) (by rfl) hu1 (by cases du <;> first | rfl | exact hu2) size_term ?_
    go_wp2_with (refine stop_load 32 (.tmp 9) rfl ?_)
    intro _
    refine wpList_load_part (w.heap.size + 2) 0 32 (.tmp 9) #[.int .i64 e.k, .int .i64 e.i, .int .i64 e.j, .int .i64 e.n, (.slice ae e.kids.length ce)] du (blk_at Hx3.out Kk14.out) (by rfl) rfl (by rfl) (by rfl) hu1 (by cases du <;> first | rfl | exact hu2) size_term ?_
    go_wp2_with fail
    refine at_world (fun W18 hW18 => ?_)
    clear kvV0
    obtain ⟨k20, x19, z21⟩ := alloc1 hW18
    have Kk22 := Lib.hid k20
    clear k20
    have Hx19 := Lib.hid x19
    have Hz21 := Lib.hid z21
    clear x19 z21 hW18
    have kq24 := (kept_trans Kk14.out Kk22.out)
    have HR23 := Lib.hid (q_row3 Hx19.out Ga.out (HLa.out.later kq24) Gc.out (HLc.out.later kq24) Ge.out (HLe.out.later kq24) (par_new (Below.size Kk14.out) (xlt_nil _) (Nat.le_refl _)))
    clear kq24
    refine (cplain_any [a, c, e] _ _ HR23.out.lies).mono ?_
    obtain ⟨rb28, hb27⟩ : ∃ qb, (plainL [a, c, e]) = qb := ⟨_, rfl⟩
    rw [hb27]
    have Hhb27 := Lib.hid hb27
    clear hb27
    rintro e w25 ⟨rfl, k26⟩
    have Kk29 := Lib.hid k26
    clear k26
    cases rb28 with
    | false =>
      have kvV0 : Sees V0 (w.heap.size + 5) w25 := sees_kept _ (kept_trans Kk14.out (kept_trans Kk22.out Kk29.out))
      go_wp2_with (refine stop_store 32 (.tmp 12) (.tmp 31) rfl ?_)
      intro _
      refine wpList_store_part_n (by rfl) 32 (.tmp 12) (.tmp 31) rfl (w.heap.size + 5) 0 #[.int .i64 0, .int .i64 0, .int .i64 0, .int .i64 0, .slice none 0 0] (by rfl) (by rfl) 32 size_term (row_ok rfl) ?_
      intro W30 hW30
      clear kvV0
      subst hW30
      refine ⟨_, #[.int .i64 0, .int .i64 0, .int .i64 0, .int .i64 0, .slice none 0 0], (blk_at Hx6.out (kept_trans Kk14.out (kept_trans Kk22.out Kk29.out))), rfl, Nat.le_of_ble_eq_true rfl, ?_⟩
      intro W31 hW31
      go_wp2_with fail
      refine bodyPost_ret (results_cell_row rfl _ _ (w.heap.size + 5) 32 _ _ du rfl (blk_same (blk_at Hx6.out (kept_trans Kk14.out (kept_trans Kk22.out Kk29.out))) hW31) hu1 (by cases du <;> first | rfl | exact hu2) size_term) rfl ?_
      rw [show cgEq i a c e r s = (Tm.mk 0 0 0 0 []) from by unfold cgEq; rw [Hhb12.out, Hhb27.out]; (try rfl)]
      exact ⟨_, rfl, par_end (par_row' (liesQ_nil w25 (Par w V0.heap.size [] P)) hW31 (by omega) (by have := Z0.out; omega)) (by have := Z0.out; omega), kept_set (kept_trans Kk9.out (kept_trans Kk14.out (kept_trans Kk22.out Kk29.out))) hW31 (by omega)⟩
    | true =>
      have kvV0 : Sees V0 (w.heap.size + 5) w25 := sees_kept _ (kept_trans Kk14.out (kept_trans Kk22.out Kk29.out))
      go_wp2_with (refine stop_load 51 (.tmp 10) rfl ?_)
      intro _
      refine wpList_load_part (w.heap.size + 3) 0 51 (.tmp 10) #[.int .i64 r.i, .int .i64 r.a.k, .int .i64 r.a.i, .int .i64 r.a.j, .int .i64 r.a.n, (.slice ara r.a.kids.length cra), .int .i64 r.b.k, .int .i64 r.b.i, .int .i64 r.b.j, .int .i64 r.b.n, (.slice arb r.b.kids.length crb), .int .i64 r.x.k, .int .i64 r.x.i, .int .i64 r.x.j, .int .i64 r.x.n, (.slice arx r.x.kids.length crx), .int .i64 r.y.k, .int .i64 r.y.i, .int .i64 r.y.j, .int .i64 r.y.n, (.slice ary r.y.kids.length cry), .int .i64 r.h.k, .int .i64 r.h.i, .int .i64 r.h.j, .int .i64 r.h.n, (.slice arh r.h.kids.length crh)] dh (blk_at Hx4.out (kept_trans Kk14.out (kept_trans Kk22.out Kk29.out))) (by rfl) rfl (by rfl) (by rfl) dh1 (by cases dh <;> first | rfl | exact dh2) (by kernel_rfl) ?_
      go_wp2_with (refine stop_load 51 (.tmp 11) rfl ?_)
      intro _
      refine wpList_load_part (w.heap.size + 4) 0 51 (.tmp 11) #[.int .i64 s.i, .int .i64 s.a.k, .int .i64 s.a.i, .int .i64 s.a.j, .int .i64 s.a.n, (.slice asa s.a.kids.length csa), .int .i64 s.b.k, .int .i64 s.b.i, .int .i64 s.b.j, .int .i64 s.b.n, (.slice asb s.b.kids.length csb), .int .i64 s.x.k, .int .i64 s.x.i, .int .i64 s.x.j, .int .i64 s.x.n, (.slice asx s.x.kids.length csx), .int .i64 s.y.k, .int .i64 s.y.i, .int .i64 s.y.j, .int .i64 s.y.n, (.slice asy s.y.kids.length csy), .int .i64 s.h.k, .int .i64 s.h.i, .int .i64 s.h.j, .int .i64 s.h.n, (.slice ash s.h.kids.length csh)] dh (blk_at Hx5.out (kept_trans Kk14.out (kept_trans Kk22.out Kk29.out))) (by rfl) rfl (by rfl) (by rfl) dh1 (by cases dh <;> first | rfl | exact dh2) (by kernel_rfl) ?_
      go_wp2_with fail
      refine at_world (fun W33 hW33 => ?_)
      clear kvV0
      obtain ⟨k35, x34, z36⟩ := alloc1 hW33
      have Kk37 := Lib.hid k35
      clear k35
      have Hx34 := Lib.hid x34
      have Hz36 := Lib.hid z36
      clear x34 z36 hW33
      refine (csides2_any r s (Par w V0.heap.size [] P) _ (w25.heap.size) (.slice ara r.a.kids.length cra) (.slice arb r.b.kids.length crb) (.slice arx r.x.kids.length crx) (.slice ary r.y.kids.length cry) (.slice arh r.h.kids.length crh) (.slice asa s.a.kids.length csa) (.slice asb s.b.kids.length csb) (.slice asx s.x.kids.length csx) (.slice asy s.y.kids.length csy) (.slice ash s.h.kids.length csh) (show He.fine r from ⟨Gr.out.1, Gr.out.2.1, Gr.out.2.2.1, Gr.out.2.2.2.1, Gr.out.2.2.2.2.1, Gr.out.2.2.2.2.2⟩) ⟨(HLra.out.later (kept_trans Kk14.out (kept_trans Kk22.out (kept_trans Kk29.out Kk37.out)))), (HLrb.out.later (kept_trans Kk14.out (kept_trans Kk22.out (kept_trans Kk29.out Kk37.out)))), (HLrx.out.later (kept_trans Kk14.out (kept_trans Kk22.out (kept_trans Kk29.out Kk37.out)))), (HLry.out.later (kept_trans Kk14.out (kept_trans Kk22.out (kept_trans Kk29.out Kk37.out)))), (HLrh.out.later (kept_trans Kk14.out (kept_trans Kk22.out (kept_trans Kk29.out Kk37.out))))⟩ (show He.fine s from ⟨Gs.out.1, Gs.out.2.1, Gs.out.2.2.1, Gs.out.2.2.2.1, Gs.out.2.2.2.2.1, Gs.out.2.2.2.2.2⟩) ⟨(HLsa.out.later (kept_trans Kk14.out (kept_trans Kk22.out (kept_trans Kk29.out Kk37.out)))), (HLsb.out.later (kept_trans Kk14.out (kept_trans Kk22.out (kept_trans Kk29.out Kk37.out)))), (HLsx.out.later (kept_trans Kk14.out (kept_trans Kk22.out (kept_trans Kk29.out Kk37.out)))), (HLsy.out.later (kept_trans Kk14.out (kept_trans Kk22.out (kept_trans Kk29.out Kk37.out)))), (HLsh.out.later (kept_trans Kk14.out (kept_trans Kk22.out (kept_trans Kk29.out Kk37.out))))⟩ Hx34.out).mono ?_
      obtain ⟨rb41, hb40⟩ : ∃ qb, (toldB r && toldB s) = qb := ⟨_, rfl⟩
      rw [hb40]
      have Hhb40 := Lib.hid hb40
      clear hb40
      rintro e w38 ⟨rfl, k39⟩
      have Kk42 := Lib.hid k39
      clear k39
      cases rb41 with
      | false =>
        have kvV0 : Sees V0 (w.heap.size + 5) w38 := sees_kept _ (kept_trans Kk14.out (kept_trans Kk22.out (kept_trans Kk29.out (kept_trans Kk37.out Kk42.out))))
        go_wp2_with (refine stop_store 32 (.tmp 12) (.tmp 31) rfl ?_)
        intro _
        refine wpList_store_part_n (by rfl) 32 (.tmp 12) (.tmp 31) rfl (w.heap.size + 5) 0 #[.int .i64 0, .int .i64 0, .int .i64 0, .int .i64 0, .slice none 0 0] (by rfl) (by rfl) 32 size_term (row_ok rfl) ?_
        intro W43 hW43
        clear kvV0
        subst hW43
        refine ⟨_, #[.int .i64 0, .int .i64 0, .int .i64 0, .int .i64 0, .slice none 0 0], (blk_at Hx6.out (kept_trans Kk14.out (kept_trans Kk22.out (kept_trans Kk29.out (kept_trans Kk37.out Kk42.out))))), rfl, Nat.le_of_ble_eq_true rfl, ?_⟩
        intro W44 hW44
        go_wp2_with fail
        refine bodyPost_ret (results_cell_row rfl _ _ (w.heap.size + 5) 32 _ _ du rfl (blk_same (blk_at Hx6.out (kept_trans Kk14.out (kept_trans Kk22.out (kept_trans Kk29.out (kept_trans Kk37.out Kk42.out))))) hW44) hu1 (by cases du <;> first | rfl | exact hu2) size_term) rfl ?_
        rw [show cgEq i a c e r s = (Tm.mk 0 0 0 0 []) from by unfold cgEq; rw [Hhb12.out, Hhb27.out, Hhb40.out]; (try rfl)]
        exact ⟨_, rfl, par_end (par_row' (liesQ_nil w38 (Par w V0.heap.size [] P)) hW44 (by omega) (by have := Z0.out; omega)) (by have := Z0.out; omega), kept_set (kept_trans Kk9.out (kept_trans Kk14.out (kept_trans Kk22.out (kept_trans Kk29.out (kept_trans Kk37.out Kk42.out))))) hW44 (by omega)⟩
      | true =>
        have kvV0 : Sees V0 (w.heap.size + 5) w38 := sees_kept _ (kept_trans Kk14.out (kept_trans Kk22.out (kept_trans Kk29.out (kept_trans Kk37.out Kk42.out))))
        go_wp2_with (refine stop_load 32 (.tmp 7) rfl ?_)
        intro _
        refine wpList_load_part (w.heap.size) 0 32 (.tmp 7) #[.int .i64 a.k, .int .i64 a.i, .int .i64 a.j, .int .i64 a.n, (.slice aa a.kids.length ca)] du (blk_at Hx1.out (kept_trans Kk14.out (kept_trans Kk22.out (kept_trans Kk29.out (kept_trans Kk37.out Kk42.out))))) (by rfl) rfl (by rfl) (by rfl) hu1 (by cases du <;> first | rfl | exact hu2) size_term ?_
        go_wp2_with (refine stop_load 32 (.tmp 8) rfl ?_)
        intro _
        refine wpList_load_part (w.heap.size + 1) 0 32 (.tmp 8) #[.int .i64 c.k, .int .i64 c.i, .int .i64 c.j, .int .i64 c.n, (.slice ac c.kids.length cc)] du (blk_at Hx2.out (kept_trans Kk14.out (kept_trans Kk22.out (kept_trans Kk29.out (kept_trans Kk37.out Kk42.out))))) (by rfl) rfl (by rfl) (by rfl) hu1 (by cases du <;> first | rfl | exact hu2) size_term ?_
        go_wp2_with (refine stop_load 32 (.tmp 9) rfl ?_)
        intro _
        refine wpList_load_part (w.heap.size + 2) 0 32 (.tmp 9) #[.int .i64 e.k, .int .i64 e.i, .int .i64 e.j, .int .i64 e.n, (.slice ae e.kids.length ce)] du (blk_at Hx3.out (kept_trans Kk14.out (kept_trans Kk22.out (kept_trans Kk29.out (kept_trans Kk37.out Kk42.out))))) (by rfl) rfl (by rfl) (by rfl) hu1 (by cases du <;> first | rfl | exact hu2) size_term ?_
        go_wp2_with (refine stop_load 32 (.tmp 36) rfl ?_)
        intro _
        refine wpList_load_part (w.heap.size + 3) 11 32 (.tmp 36) #[.int .i64 r.x.k, .int .i64 r.x.i, .int .i64 r.x.j, .int .i64 r.x.n, (.slice arx r.x.kids.length crx)] du (blk_at Hx4.out (kept_trans Kk14.out (kept_trans Kk22.out (kept_trans Kk29.out (kept_trans Kk37.out Kk42.out))))) (by rfl) rfl (by rfl) (by rfl) hu1 (by cases du <;> first | rfl | exact hu2) size_term ?_
        go_wp2_with (refine stop_load 32 (.tmp 38) rfl ?_)
        intro _
        refine wpList_load_part (w.heap.size + 3) 16 32 (.tmp 38) #[.int .i64 r.y.k, .int .i64 r.y.i, .int .i64 r.y.j, .int .i64 r.y.n, (.slice ary r.y.kids.length cry)] du (blk_at Hx4.out (kept_trans Kk14.out (kept_trans Kk22.out (kept_trans Kk29.out (kept_trans Kk37.out Kk42.out))))) (by rfl) rfl (by rfl) (by rfl) hu1 (by cases du <;> first | rfl | exact hu2) size_term ?_
        go_wp2_with (refine stop_load 32 (.tmp 40) rfl ?_)
        intro _
        refine wpList_load_part (w.heap.size + 3) 21 32 (.tmp 40) #[.int .i64 r.h.k, .int .i64 r.h.i, .int .i64 r.h.j, .int .i64 r.h.n, (.slice arh r.h.kids.length crh)] du (blk_at Hx4.out (kept_trans Kk14.out (kept_trans Kk22.out (kept_trans Kk29.out (kept_trans Kk37.out Kk42.out))))) (by rfl) rfl (by rfl) (by rfl) hu1 (by cases du <;> first | rfl | exact hu2) size_term ?_
        go_wp2_with (refine stop_load 32 (.tmp 42) rfl ?_)
        intro _
        refine wpList_load_part (w.heap.size + 4) 11 32 (.tmp 42) #[.int .i64 s.x.k, .int .i64 s.x.i, .int .i64 s.x.j, .int .i64 s.x.n, (.slice asx s.x.kids.length csx)] du (blk_at Hx5.out (kept_trans Kk14.out (kept_trans Kk22.out (kept_trans Kk29.out (kept_trans Kk37.out Kk42.out))))) (by rfl) rfl (by rfl) (by rfl) hu1 (by cases du <;> first | rfl | exact hu2) size_term ?_
        go_wp2_with (refine stop_load 32 (.tmp 44) rfl ?_)
        intro _
        refine wpList_load_part (w.heap.size + 4) 16 32 (.tmp 44) #[.int .i64 s.y.k, .int .i64 s.y.i, .int .i64 s.y.j, .int .i64 s.y.n, (.slice asy s.y.kids.length csy)] du (blk_at Hx5.out (kept_trans Kk14.out (kept_trans Kk22.out (kept_trans Kk29.out (kept_trans Kk37.out Kk42.out))))) (by rfl) rfl (by rfl) (by rfl) hu1 (by cases du <;> first | rfl | exact hu2) size_term ?_
        go_wp2_with (refine stop_load 32 (.tmp 46) rfl ?_)
        intro _
        refine wpList_load_part (w.heap.size + 4) 21 32 (.tmp 46) #[.int .i64 s.h.k, .int .i64 s.h.i, .int .i64 s.h.j, .int .i64 s.h.n, (.slice ash s.h.kids.length csh)] du (blk_at Hx5.out (kept_trans Kk14.out (kept_trans Kk22.out (kept_trans Kk29.out (kept_trans Kk37.out Kk42.out))))) (by rfl) rfl (by rfl) (by rfl) hu1 (by cases du <;> first | rfl | exact hu2) size_term ?_
        go_wp2_with fail
        refine at_world (fun W46 hW46 => ?_)
        clear kvV0
        obtain ⟨k48, x47, z49⟩ := alloc1 hW46
        have Kk50 := Lib.hid k48
        clear k48
        have Hx47 := Lib.hid x47
        have Hz49 := Lib.hid z49
        clear x47 z49 hW46
        have kq52 := (kept_trans Kk14.out (kept_trans Kk22.out (kept_trans Kk29.out (kept_trans Kk37.out (kept_trans Kk42.out Kk50.out)))))
        have HR51 : Hid (LiesQ W46 (Par w V0.heap.size [] P) [a, c, e, r.x, r.y, r.h, s.x, s.y, s.h] (.slice (some ⟨w38.heap.size, 0, none⟩) 9 9)) := q_row [(a, (.slice aa a.kids.length ca)), (c, (.slice ac c.kids.length cc)), (e, (.slice ae e.kids.length ce)), (r.x, (.slice arx r.x.kids.length crx)), (r.y, (.slice ary r.y.kids.length cry)), (r.h, (.slice arh r.h.kids.length crh)), (s.x, (.slice asx s.x.kids.length csx)), (s.y, (.slice asy s.y.kids.length csy)), (s.h, (.slice ash s.h.kids.length csh))] _ rfl Hx47.out (par_new (Below.size (kept_trans Kk14.out (kept_trans Kk22.out (kept_trans Kk29.out (kept_trans Kk37.out Kk42.out))))) (xlt_nil _) (Nat.le_refl _)) (List.forall_mem_cons.2 ⟨⟨Ga.out, (HLa.out.later kq52)⟩, (List.forall_mem_cons.2 ⟨⟨Gc.out, (HLc.out.later kq52)⟩, (List.forall_mem_cons.2 ⟨⟨Ge.out, (HLe.out.later kq52)⟩, (List.forall_mem_cons.2 ⟨⟨Gr.out.2.2.2.1, (HLrx.out.later kq52)⟩, (List.forall_mem_cons.2 ⟨⟨Gr.out.2.2.2.2.1, (HLry.out.later kq52)⟩, (List.forall_mem_cons.2 ⟨⟨Gr.out.2.2.2.2.2, (HLrh.out.later kq52)⟩, (List.forall_mem_cons.2 ⟨⟨Gs.out.2.2.2.1, (HLsx.out.later kq52)⟩, (List.forall_mem_cons.2 ⟨⟨Gs.out.2.2.2.2.1, (HLsy.out.later kq52)⟩, (List.forall_mem_cons.2 ⟨⟨Gs.out.2.2.2.2.2, (HLsh.out.later kq52)⟩, (fun _ h => nomatch h)⟩)⟩)⟩)⟩)⟩)⟩)⟩)⟩)⟩) (Nat.le_of_ble_eq_true rfl)
        clear kq52
        refine (cuse_any 20 i 0 [a, c, e, r.x, r.y, r.h, s.x, s.y, s.h] (Par w V0.heap.size [] P) _ (.slice (some ⟨w38.heap.size, 0, none⟩) 9 9) (show I64 20 from by unfold I64; decide) Ri.out (show I64 0 from by unfold I64; decide) HR51.out (List.forall_mem_cons.2 ⟨(plainL_iff.1 Hhb27.out _ (by simp)), (List.forall_mem_cons.2 ⟨(plainL_iff.1 Hhb27.out _ (by simp)), (List.forall_mem_cons.2 ⟨(plainL_iff.1 Hhb27.out _ (by simp)), (List.forall_mem_cons.2 ⟨(told2_pl Hhb40.out _ (by simp)), (List.forall_mem_cons.2 ⟨(told2_pl Hhb40.out _ (by simp)), (List.forall_mem_cons.2 ⟨(told2_pl Hhb40.out _ (by simp)), (List.forall_mem_cons.2 ⟨(told2_pl Hhb40.out _ (by simp)), (List.forall_mem_cons.2 ⟨(told2_pl Hhb40.out _ (by simp)), (List.forall_mem_cons.2 ⟨(told2_pl Hhb40.out _ (by simp)), (fun _ h => nomatch h)⟩)⟩)⟩)⟩)⟩)⟩)⟩)⟩)⟩) (Nat.le_of_ble_eq_true rfl)).mono ?_
        obtain ⟨U60, hU60⟩ : ∃ qu, useT 20 i 0 [a, c, e, r.x, r.y, r.h, s.x, s.y, s.h] = qu := ⟨_, rfl⟩
        rw [hU60]
        have HU60 := Lib.hid hU60
        clear hU60
        rintro e w53 ⟨s55, rfl, hl56, k54⟩
        obtain ⟨a57, c58, S59, rfl, -⟩ := hl56.out
        have Kk61 := Lib.hid k54
        clear k54
        have Hhl56 : Hid (LiesQ w53 (Par w V0.heap.size [] P) U60.kids _) := par_give hl56 (Below.size (kept_trans Kk14.out (kept_trans Kk22.out (kept_trans Kk29.out (kept_trans Kk37.out (kept_trans Kk42.out Kk50.out)))))) (xlt_nil _)
        clear hl56
        have kvV0 : Sees V0 (w.heap.size + 5) w53 := sees_kept _ (kept_trans Kk14.out (kept_trans Kk22.out (kept_trans Kk29.out (kept_trans Kk37.out (kept_trans Kk42.out (kept_trans Kk50.out Kk61.out))))))
        go_wp2_with (refine stop_store 32 (.tmp 12) (.tmp 49) rfl ?_)
        intro _
        refine wpList_store_part_n (by rfl) 32 (.tmp 12) (.tmp 49) rfl (w.heap.size + 5) 0 #[.int .i64 U60.k, .int .i64 U60.i, .int .i64 U60.j, .int .i64 U60.n, (.slice a57 U60.kids.length c58)] (by rfl) (by rfl) 32 size_term (row_ok rfl) ?_
        intro W62 hW62
        clear kvV0
        subst hW62
        refine ⟨_, #[.int .i64 U60.k, .int .i64 U60.i, .int .i64 U60.j, .int .i64 U60.n, (.slice a57 U60.kids.length c58)], (blk_at Hx6.out (kept_trans Kk14.out (kept_trans Kk22.out (kept_trans Kk29.out (kept_trans Kk37.out (kept_trans Kk42.out (kept_trans Kk50.out Kk61.out))))))), rfl, Nat.le_of_ble_eq_true rfl, ?_⟩
        intro W63 hW63
        go_wp2_with fail
        refine bodyPost_ret (results_cell_row rfl _ _ (w.heap.size + 5) 32 _ _ du rfl (blk_same (blk_at Hx6.out (kept_trans Kk14.out (kept_trans Kk22.out (kept_trans Kk29.out (kept_trans Kk37.out (kept_trans Kk42.out (kept_trans Kk50.out Kk61.out))))))) hW63) hu1 (by cases du <;> first | rfl | exact hu2) size_term) rfl ?_
        rw [show cgEq i a c e r s = U60 from by unfold cgEq; rw [Hhb12.out, Hhb27.out, Hhb40.out]; rw [← HU60.out]; (try rfl)]
        exact ⟨_, rfl, par_end (par_row' Hhl56.out hW63 (by omega) (by have := Z0.out; omega)) (by have := Z0.out; omega), kept_set (kept_trans Kk9.out (kept_trans Kk14.out (kept_trans Kk22.out (kept_trans Kk29.out (kept_trans Kk37.out (kept_trans Kk42.out (kept_trans Kk50.out Kk61.out))))))) hW63 (by omega)⟩

def cReflr3_0 : Oper := { dst := some 30, op := Go.Op.move (Go.Operand.tmp 0), type := 3, pos := "cong.go:110", after := #[], guard := none }
def cReflr3_1 : Oper := { dst := some 31, op := Go.Op.load 32 (Go.Operand.tmp 6), type := 32, pos := "cong.go:110", after := #[], guard := none }
def cReflr3_2 : Oper := { dst := some 32, op := Go.Op.fieldAddr 51 (Go.Operand.tmp 9) 3, type := 0, pos := "cong.go:110", after := #[], guard := none }
def cReflr3_3 : Oper := { dst := some 33, op := Go.Op.load 32 (Go.Operand.tmp 32), type := 32, pos := "cong.go:110", after := #[{ on := 2, ground := Go.Ground.data }], guard := none }
def cReflr3_4 : Oper := { dst := some 34, op := Go.Op.call { callee := Go.Callee.value (Go.Operand.func 119), args := #[Go.Operand.const (Go.Value.int Go.IntKind.i64 21), Go.Operand.tmp 31, Go.Operand.tmp 33], argTypes := #[3, 32, 32] }, type := 32, pos := "cong.go:110", after := #[{ on := 1, ground := Go.Ground.data }, { on := 3, ground := Go.Ground.data }], guard := none }
def cReflr3_5 : Oper := { dst := some 35, op := Go.Op.load 32 (Go.Operand.tmp 7), type := 32, pos := "cong.go:110", after := #[], guard := none }
def cReflr3_6 : Oper := { dst := some 36, op := Go.Op.fieldAddr 51 (Go.Operand.tmp 9) 4, type := 0, pos := "cong.go:110", after := #[], guard := none }
def cReflr3_7 : Oper := { dst := some 37, op := Go.Op.load 32 (Go.Operand.tmp 36), type := 32, pos := "cong.go:110", after := #[{ on := 6, ground := Go.Ground.data }], guard := none }
def cReflr3_8 : Oper := { dst := some 38, op := Go.Op.call { callee := Go.Callee.value (Go.Operand.func 119), args := #[Go.Operand.const (Go.Value.int Go.IntKind.i64 21), Go.Operand.tmp 35, Go.Operand.tmp 37], argTypes := #[3, 32, 32] }, type := 32, pos := "cong.go:110", after := #[{ on := 5, ground := Go.Ground.data }, { on := 7, ground := Go.Ground.data }, { on := 4, ground := Go.Ground.chain }], guard := none }
def cReflr3_9 : Oper := { dst := some 39, op := Go.Op.move (Go.Operand.tmp 0), type := 3, pos := "cong.go:110", after := #[], guard := none }
def cReflr3_10 : Oper := { dst := some 40, op := Go.Op.load 32 (Go.Operand.tmp 6), type := 32, pos := "cong.go:110", after := #[], guard := none }
def cReflr3_11 : Oper := { dst := some 41, op := Go.Op.load 32 (Go.Operand.tmp 7), type := 32, pos := "cong.go:110", after := #[], guard := none }
def cReflr3_12 : Oper := { dst := some 42, op := Go.Op.load 32 (Go.Operand.tmp 8), type := 32, pos := "cong.go:110", after := #[], guard := none }
def cReflr3_13 : Oper := { dst := some 43, op := Go.Op.fieldAddr 51 (Go.Operand.tmp 9) 3, type := 0, pos := "cong.go:110", after := #[], guard := none }
def cReflr3_14 : Oper := { dst := some 44, op := Go.Op.load 32 (Go.Operand.tmp 43), type := 32, pos := "cong.go:110", after := #[{ on := 13, ground := Go.Ground.data }], guard := none }
def cReflr3_15 : Oper := { dst := some 45, op := Go.Op.fieldAddr 51 (Go.Operand.tmp 9) 4, type := 0, pos := "cong.go:110", after := #[], guard := none }
def cReflr3_16 : Oper := { dst := some 46, op := Go.Op.load 32 (Go.Operand.tmp 45), type := 32, pos := "cong.go:110", after := #[{ on := 15, ground := Go.Ground.data }], guard := none }
def cReflr3_17 : Oper := { dst := some 47, op := Go.Op.fieldAddr 51 (Go.Operand.tmp 9) 5, type := 0, pos := "cong.go:110", after := #[], guard := none }
def cReflr3_18 : Oper := { dst := some 48, op := Go.Op.load 32 (Go.Operand.tmp 47), type := 32, pos := "cong.go:110", after := #[{ on := 17, ground := Go.Ground.data }], guard := none }
def cReflr3_19 : Oper := { dst := some 49, op := Go.Op.buildSlice 30 6 #[(0, Go.Operand.tmp 40), (1, Go.Operand.tmp 41), (2, Go.Operand.tmp 42), (3, Go.Operand.tmp 44), (4, Go.Operand.tmp 46), (5, Go.Operand.tmp 48)], type := 30, pos := "cong.go:110", after := #[{ on := 10, ground := Go.Ground.data }, { on := 11, ground := Go.Ground.data }, { on := 12, ground := Go.Ground.data }, { on := 14, ground := Go.Ground.data }, { on := 16, ground := Go.Ground.data }, { on := 18, ground := Go.Ground.data }], guard := none }
def cReflr3_20 : Oper := { dst := some 50, op := Go.Op.call { callee := Go.Callee.value (Go.Operand.func 130), args := #[Go.Operand.const (Go.Value.int Go.IntKind.i64 21), Go.Operand.tmp 39, Go.Operand.const (Go.Value.int Go.IntKind.i64 0), Go.Operand.tmp 49], argTypes := #[3, 3, 3, 30] }, type := 32, pos := "cong.go:110", after := #[{ on := 9, ground := Go.Ground.data }, { on := 19, ground := Go.Ground.data }, { on := 8, ground := Go.Ground.chain }], guard := none }
def cReflr3_21 : Oper := { dst := some 51, op := Go.Op.build 51 #[(0, Go.Operand.tmp 30), (3, Go.Operand.tmp 34), (4, Go.Operand.tmp 38), (5, Go.Operand.tmp 50)], type := 51, pos := "cong.go:110", after := #[{ on := 0, ground := Go.Ground.data }, { on := 4, ground := Go.Ground.data }, { on := 8, ground := Go.Ground.data }, { on := 20, ground := Go.Ground.data }], guard := none }
def cReflr3_22 : Oper := { dst := some 11, op := Go.Op.alloc 51, type := 0, pos := "cong.go:110", after := #[], guard := none }
def cReflr3_23 : Oper := { dst := none, op := Go.Op.store 51 (Go.Operand.tmp 11) (Go.Operand.tmp 51), type := 0, pos := "cong.go:110", after := #[{ on := 22, ground := Go.Ground.data }, { on := 21, ground := Go.Ground.data }, { on := 20, ground := Go.Ground.chain }, { on := 0, ground := Go.Ground.phase }, { on := 1, ground := Go.Ground.phase }, { on := 2, ground := Go.Ground.phase }, { on := 3, ground := Go.Ground.phase }, { on := 4, ground := Go.Ground.phase }, { on := 5, ground := Go.Ground.phase }, { on := 6, ground := Go.Ground.phase }, { on := 7, ground := Go.Ground.phase }, { on := 8, ground := Go.Ground.phase }, { on := 9, ground := Go.Ground.phase }, { on := 10, ground := Go.Ground.phase }, { on := 11, ground := Go.Ground.phase }, { on := 12, ground := Go.Ground.phase }, { on := 13, ground := Go.Ground.phase }, { on := 14, ground := Go.Ground.phase }, { on := 15, ground := Go.Ground.phase }, { on := 16, ground := Go.Ground.phase }, { on := 17, ground := Go.Ground.phase }, { on := 18, ground := Go.Ground.phase }, { on := 19, ground := Go.Ground.phase }, { on := 20, ground := Go.Ground.phase }, { on := 21, ground := Go.Ground.phase }, { on := 22, ground := Go.Ground.phase }], guard := none }
set_option maxRecDepth 20000 in
set_option maxHeartbeats 4000000 in
theorem cRefl_any (i : Int) (a : Tm) (c : Tm) (e : Tm) (r : He) (P : Nat → Prop) (w : World) (sa : Value) (sc : Value) (se : Value) (sra : Value) (srb : Value) (srx : Value) (sry : Value) (srh : Value) (hri : I64 i) (hfa : a.fine) (hla : LiesQ w P a.kids sa) (hfc : c.fine) (hlc : LiesQ w P c.kids sc) (hfe : e.fine) (hle : LiesQ w P e.kids se) (hfr : r.fine) (hlr : HQ w P r sra srb srx sry srh) : Calls Try.prog 74 #[.int .i64 i, tv a sa, tv c sc, tv e se, hv r sra srb srx sry srh] w (GivesHP P (cgRefl i a c e r) w) := by
  have Ri := Lib.hid hri
  clear hri
  have Ga := Lib.hid hfa
  clear hfa
  obtain ⟨aa, ca, Sa, rfl, -⟩ := hla.out
  have Gc := Lib.hid hfc
  clear hfc
  obtain ⟨ac, cc, Sc, rfl, -⟩ := hlc.out
  have Ge := Lib.hid hfe
  clear hfe
  obtain ⟨ae, ce, Se, rfl, -⟩ := hle.out
  have Gr := Lib.hid hfr
  clear hfr
  obtain ⟨hlra, hlrb, hlrx, hlry, hlrh⟩ := hlr
  obtain ⟨ara, cra, Sra, rfl, -⟩ := hlra.out
  obtain ⟨arb, crb, Srb, rfl, -⟩ := hlrb.out
  obtain ⟨arx, crx, Srx, rfl, -⟩ := hlrx.out
  obtain ⟨ary, cry, Sry, rfl, -⟩ := hlry.out
  obtain ⟨arh, crh, Srh, rfl, -⟩ := hlrh.out
  obtain ⟨du, hu1, hu2⟩ := under_term
  obtain ⟨dh, dh1, dh2⟩ := under_of 51 (by kernel_rfl)
  unfold hv
  unfold tv
  go_enter Try.func74, Try.ntmps74
  go_upto_region 1 with fail
  refine at_code (fun V0 hV0 => ?_)
  obtain ⟨k6, x1, x2, x3, x4, x5, z7⟩ := alloc5 hV0
  have Kk8 := Lib.hid k6
  clear k6
  have Hx1 := Lib.hid x1
  have Hx2 := Lib.hid x2
  have Hx3 := Lib.hid x3
  have Hx4 := Lib.hid x4
  have Hx5 := Lib.hid x5
  have Z0 := Lib.hid z7
  clear z7 x1 x2 x3 x4 x5 hV0
  have HLa : Hid (LiesQ V0 (Par w V0.heap.size [] P) a.kids _) := (par_in _ _ hla).later Kk8.out
  clear hla
  have HLc : Hid (LiesQ V0 (Par w V0.heap.size [] P) c.kids _) := (par_in _ _ hlc).later Kk8.out
  clear hlc
  have HLe : Hid (LiesQ V0 (Par w V0.heap.size [] P) e.kids _) := (par_in _ _ hle).later Kk8.out
  clear hle
  have HLra : Hid (LiesQ V0 (Par w V0.heap.size [] P) r.a.kids _) := (par_in _ _ hlra).later Kk8.out
  clear hlra
  have HLrb : Hid (LiesQ V0 (Par w V0.heap.size [] P) r.b.kids _) := (par_in _ _ hlrb).later Kk8.out
  clear hlrb
  have HLrx : Hid (LiesQ V0 (Par w V0.heap.size [] P) r.x.kids _) := (par_in _ _ hlrx).later Kk8.out
  clear hlrx
  have HLry : Hid (LiesQ V0 (Par w V0.heap.size [] P) r.y.kids _) := (par_in _ _ hlry).later Kk8.out
  clear hlry
  have HLrh : Hid (LiesQ V0 (Par w V0.heap.size [] P) r.h.kids _) := (par_in _ _ hlrh).later Kk8.out
  clear hlrh
  have kvV0 : Sees V0 (w.heap.size + 4) V0 := sees_kept _ (kept_refl _)
  go_wp2_with fail
  clear kvV0
  refine (clevel_any i _ Ri.out).mono ?_
  obtain ⟨rb12, hb11⟩ : ∃ qb, (levN 3 i) = qb := ⟨_, rfl⟩
  rw [hb11]
  have Hhb11 := Lib.hid hb11
  clear hb11
  rintro e w9 ⟨rfl, k10⟩
  have Kk13 := Lib.hid k10
  clear k10
  cases rb12 with
  | false =>
    have kvV0 : Sees V0 (w.heap.size + 4) w9 := sees_kept _ Kk13.out
    go_wp2_with (refine stop_store 51 (.tmp 10) (.tmp 29) rfl ?_)
    intro _
    refine wpList_store_part_n (by rfl) 51 (.tmp 10) (.tmp 29) rfl (w.heap.size + 4) 0 #[.int .i64 0, .int .i64 0, .int .i64 0, .int .i64 0, .int .i64 0, .slice none 0 0, .int .i64 0, .int .i64 0, .int .i64 0, .int .i64 0, .slice none 0 0, .int .i64 0, .int .i64 0, .int .i64 0, .int .i64 0, .slice none 0 0, .int .i64 0, .int .i64 0, .int .i64 0, .int .i64 0, .slice none 0 0, .int .i64 0, .int .i64 0, .int .i64 0, .int .i64 0, .slice none 0 0] (by rfl) (by rfl) 51 (by kernel_rfl) (row_ok rfl) ?_
    intro W14 hW14
    clear kvV0
    subst hW14
    refine ⟨_, #[.int .i64 0, .int .i64 0, .int .i64 0, .int .i64 0, .int .i64 0, .slice none 0 0, .int .i64 0, .int .i64 0, .int .i64 0, .int .i64 0, .slice none 0 0, .int .i64 0, .int .i64 0, .int .i64 0, .int .i64 0, .slice none 0 0, .int .i64 0, .int .i64 0, .int .i64 0, .int .i64 0, .slice none 0 0, .int .i64 0, .int .i64 0, .int .i64 0, .int .i64 0, .slice none 0 0], (blk_at Hx5.out Kk13.out), rfl, Nat.le_of_ble_eq_true rfl, ?_⟩
    intro W15 hW15
    go_wp2_with fail
    refine bodyPost_ret (results_cell_row rfl _ _ (w.heap.size + 4) 51 _ _ dh rfl (blk_same (blk_at Hx5.out Kk13.out) hW15) dh1 (by cases dh <;> first | rfl | exact dh2) (by kernel_rfl)) rfl ?_
    rw [show cgRefl i a c e r = (⟨0, (.mk 0 0 0 0 []), (.mk 0 0 0 0 []), (.mk 0 0 0 0 []), (.mk 0 0 0 0 []), (.mk 0 0 0 0 [])⟩ : He) from by unfold cgRefl; rw [Hhb11.out]; (try rfl)]
    exact ⟨_, _, _, _, _, rfl, ⟨par_end (par_row' (liesQ_nil w9 (Par w V0.heap.size [] P)) hW15 (by omega) (by have := Z0.out; omega)) (by have := Z0.out; omega), par_end (par_row' (liesQ_nil w9 (Par w V0.heap.size [] P)) hW15 (by omega) (by have := Z0.out; omega)) (by have := Z0.out; omega), par_end (par_row' (liesQ_nil w9 (Par w V0.heap.size [] P)) hW15 (by omega) (by have := Z0.out; omega)) (by have := Z0.out; omega), par_end (par_row' (liesQ_nil w9 (Par w V0.heap.size [] P)) hW15 (by omega) (by have := Z0.out; omega)) (by have := Z0.out; omega), par_end (par_row' (liesQ_nil w9 (Par w V0.heap.size [] P)) hW15 (by omega) (by have := Z0.out; omega)) (by have := Z0.out; omega)⟩, kept_set (kept_trans Kk8.out Kk13.out) hW15 (by omega)⟩
  | true =>
    have kvV0 : Sees V0 (w.heap.size + 4) w9 := sees_kept _ Kk13.out
    go_wp2_with (refine stop_load 32 (.tmp 6) rfl ?_)
    intro _
    refine wpList_load_part (w.heap.size) 0 32 (.tmp 6) #[.int .i64 a.k, .int .i64 a.i, .int .i64 a.j, .int .i64 a.n, (.slice aa a.kids.length ca)] du (blk_at Hx1.out Kk13.out) (by rfl) rfl (by rfl) (by rfl) hu1 (by cases du <;> first | rfl | exact hu2) size_term ?_
    go_wp2_with (refine stop_load 32 (.tmp 7) rfl ?_)
    intro _
    refine wpList_load_part (w.heap.size + 1) 0 32 (.tmp 7) #[.int .i64 c.k, .int .i64 c.i, .int .i64 c.j, .int .i64 c.n, (.slice ac c.kids.length cc)] du (blk_at Hx2.out Kk13.out) (by rfl) rfl (by rfl) (by rfl) hu1 (by cases du <;> first | rfl | exact hu2) size_term ?_
    go_wp2_with (refine stop_load 32 (.tmp 8) rfl ?_)
    intro _
    refine wpList_load_part (w.heap.size + 2) 0 32 (.tmp 8) #[.int .i64 e.k, .int .i64 e.i, .int .i64 e.j, .int .i64 e.n, (.slice ae e.kids.length ce)] du (blk_at Hx3.out Kk13.out) (by rfl) rfl (by rfl) (by rfl) hu1 (by cases du <;> first | rfl | exact hu2) size_term ?_
    go_wp2_with fail
    refine at_world (fun W17 hW17 => ?_)
    clear kvV0
    obtain ⟨k19, x18, z20⟩ := alloc1 hW17
    have Kk21 := Lib.hid k19
    clear k19
    have Hx18 := Lib.hid x18
    have Hz20 := Lib.hid z20
    clear x18 z20 hW17
    have kq23 := (kept_trans Kk13.out Kk21.out)
    have HR22 := Lib.hid (q_row3 Hx18.out Ga.out (HLa.out.later kq23) Gc.out (HLc.out.later kq23) Ge.out (HLe.out.later kq23) (par_new (Below.size Kk13.out) (xlt_nil _) (Nat.le_refl _)))
    clear kq23
    refine (cplain_any [a, c, e] _ _ HR22.out.lies).mono ?_
    obtain ⟨rb27, hb26⟩ : ∃ qb, (plainL [a, c, e]) = qb := ⟨_, rfl⟩
    rw [hb26]
    have Hhb26 := Lib.hid hb26
    clear hb26
    rintro e w24 ⟨rfl, k25⟩
    have Kk28 := Lib.hid k25
    clear k25
    cases rb27 with
    | false =>
      have kvV0 : Sees V0 (w.heap.size + 4) w24 := sees_kept _ (kept_trans Kk13.out (kept_trans Kk21.out Kk28.out))
      go_wp2_with (refine stop_store 51 (.tmp 10) (.tmp 29) rfl ?_)
      intro _
      refine wpList_store_part_n (by rfl) 51 (.tmp 10) (.tmp 29) rfl (w.heap.size + 4) 0 #[.int .i64 0, .int .i64 0, .int .i64 0, .int .i64 0, .int .i64 0, .slice none 0 0, .int .i64 0, .int .i64 0, .int .i64 0, .int .i64 0, .slice none 0 0, .int .i64 0, .int .i64 0, .int .i64 0, .int .i64 0, .slice none 0 0, .int .i64 0, .int .i64 0, .int .i64 0, .int .i64 0, .slice none 0 0, .int .i64 0, .int .i64 0, .int .i64 0, .int .i64 0, .slice none 0 0] (by rfl) (by rfl) 51 (by kernel_rfl) (row_ok rfl) ?_
      intro W29 hW29
      clear kvV0
      subst hW29
      refine ⟨_, #[.int .i64 0, .int .i64 0, .int .i64 0, .int .i64 0, .int .i64 0, .slice none 0 0, .int .i64 0, .int .i64 0, .int .i64 0, .int .i64 0, .slice none 0 0, .int .i64 0, .int .i64 0, .int .i64 0, .int .i64 0, .slice none 0 0, .int .i64 0, .int .i64 0, .int .i64 0, .int .i64 0, .slice none 0 0, .int .i64 0, .int .i64 0, .int .i64 0, .int .i64 0, .slice none 0 0], (blk_at Hx5.out (kept_trans Kk13.out (kept_trans Kk21.out Kk28.out))), rfl, Nat.le_of_ble_eq_true rfl, ?_⟩
      intro W30 hW30
      go_wp2_with fail
      refine bodyPost_ret (results_cell_row rfl _ _ (w.heap.size + 4) 51 _ _ dh rfl (blk_same (blk_at Hx5.out (kept_trans Kk13.out (kept_trans Kk21.out Kk28.out))) hW30) dh1 (by cases dh <;> first | rfl | exact dh2) (by kernel_rfl)) rfl ?_
      rw [show cgRefl i a c e r = (⟨0, (.mk 0 0 0 0 []), (.mk 0 0 0 0 []), (.mk 0 0 0 0 []), (.mk 0 0 0 0 []), (.mk 0 0 0 0 [])⟩ : He) from by unfold cgRefl; rw [Hhb11.out, Hhb26.out]; (try rfl)]
      exact ⟨_, _, _, _, _, rfl, ⟨par_end (par_row' (liesQ_nil w24 (Par w V0.heap.size [] P)) hW30 (by omega) (by have := Z0.out; omega)) (by have := Z0.out; omega), par_end (par_row' (liesQ_nil w24 (Par w V0.heap.size [] P)) hW30 (by omega) (by have := Z0.out; omega)) (by have := Z0.out; omega), par_end (par_row' (liesQ_nil w24 (Par w V0.heap.size [] P)) hW30 (by omega) (by have := Z0.out; omega)) (by have := Z0.out; omega), par_end (par_row' (liesQ_nil w24 (Par w V0.heap.size [] P)) hW30 (by omega) (by have := Z0.out; omega)) (by have := Z0.out; omega), par_end (par_row' (liesQ_nil w24 (Par w V0.heap.size [] P)) hW30 (by omega) (by have := Z0.out; omega)) (by have := Z0.out; omega)⟩, kept_set (kept_trans Kk8.out (kept_trans Kk13.out (kept_trans Kk21.out Kk28.out))) hW30 (by omega)⟩
    | true =>
      have kvV0 : Sees V0 (w.heap.size + 4) w24 := sees_kept _ (kept_trans Kk13.out (kept_trans Kk21.out Kk28.out))
      go_wp2_with (refine stop_load 51 (.tmp 9) rfl ?_)
      intro _
      refine wpList_load_part (w.heap.size + 3) 0 51 (.tmp 9) #[.int .i64 r.i, .int .i64 r.a.k, .int .i64 r.a.i, .int .i64 r.a.j, .int .i64 r.a.n, (.slice ara r.a.kids.length cra), .int .i64 r.b.k, .int .i64 r.b.i, .int .i64 r.b.j, .int .i64 r.b.n, (.slice arb r.b.kids.length crb), .int .i64 r.x.k, .int .i64 r.x.i, .int .i64 r.x.j, .int .i64 r.x.n, (.slice arx r.x.kids.length crx), .int .i64 r.y.k, .int .i64 r.y.i, .int .i64 r.y.j, .int .i64 r.y.n, (.slice ary r.y.kids.length cry), .int .i64 r.h.k, .int .i64 r.h.i, .int .i64 r.h.j, .int .i64 r.h.n, (.slice arh r.h.kids.length crh)] dh (blk_at Hx4.out (kept_trans Kk13.out (kept_trans Kk21.out Kk28.out))) (by rfl) rfl (by rfl) (by rfl) dh1 (by cases dh <;> first | rfl | exact dh2) (by kernel_rfl) ?_
      go_wp2_with fail
      refine at_world (fun W32 hW32 => ?_)
      clear kvV0
      obtain ⟨k34, x33, z35⟩ := alloc1 hW32
      have Kk36 := Lib.hid k34
      clear k34
      have Hx33 := Lib.hid x33
      have Hz35 := Lib.hid z35
      clear x33 z35 hW32
      refine (csides1_any r (Par w V0.heap.size [] P) _ (w24.heap.size) (.slice ara r.a.kids.length cra) (.slice arb r.b.kids.length crb) (.slice arx r.x.kids.length crx) (.slice ary r.y.kids.length cry) (.slice arh r.h.kids.length crh) (show He.fine r from ⟨Gr.out.1, Gr.out.2.1, Gr.out.2.2.1, Gr.out.2.2.2.1, Gr.out.2.2.2.2.1, Gr.out.2.2.2.2.2⟩) ⟨(HLra.out.later (kept_trans Kk13.out (kept_trans Kk21.out (kept_trans Kk28.out Kk36.out)))), (HLrb.out.later (kept_trans Kk13.out (kept_trans Kk21.out (kept_trans Kk28.out Kk36.out)))), (HLrx.out.later (kept_trans Kk13.out (kept_trans Kk21.out (kept_trans Kk28.out Kk36.out)))), (HLry.out.later (kept_trans Kk13.out (kept_trans Kk21.out (kept_trans Kk28.out Kk36.out)))), (HLrh.out.later (kept_trans Kk13.out (kept_trans Kk21.out (kept_trans Kk28.out Kk36.out))))⟩ Hx33.out).mono ?_
      obtain ⟨rb40, hb39⟩ : ∃ qb, (toldB r) = qb := ⟨_, rfl⟩
      rw [hb39]
      have Hhb39 := Lib.hid hb39
      clear hb39
      rintro e w37 ⟨rfl, k38⟩
      have Kk41 := Lib.hid k38
      clear k38
      cases rb40 with
      | false =>
        have kvV0 : Sees V0 (w.heap.size + 4) w37 := sees_kept _ (kept_trans Kk13.out (kept_trans Kk21.out (kept_trans Kk28.out (kept_trans Kk36.out Kk41.out))))
        go_wp2_with (refine stop_store 51 (.tmp 10) (.tmp 29) rfl ?_)
        intro _
        refine wpList_store_part_n (by rfl) 51 (.tmp 10) (.tmp 29) rfl (w.heap.size + 4) 0 #[.int .i64 0, .int .i64 0, .int .i64 0, .int .i64 0, .int .i64 0, .slice none 0 0, .int .i64 0, .int .i64 0, .int .i64 0, .int .i64 0, .slice none 0 0, .int .i64 0, .int .i64 0, .int .i64 0, .int .i64 0, .slice none 0 0, .int .i64 0, .int .i64 0, .int .i64 0, .int .i64 0, .slice none 0 0, .int .i64 0, .int .i64 0, .int .i64 0, .int .i64 0, .slice none 0 0] (by rfl) (by rfl) 51 (by kernel_rfl) (row_ok rfl) ?_
        intro W42 hW42
        clear kvV0
        subst hW42
        refine ⟨_, #[.int .i64 0, .int .i64 0, .int .i64 0, .int .i64 0, .int .i64 0, .slice none 0 0, .int .i64 0, .int .i64 0, .int .i64 0, .int .i64 0, .slice none 0 0, .int .i64 0, .int .i64 0, .int .i64 0, .int .i64 0, .slice none 0 0, .int .i64 0, .int .i64 0, .int .i64 0, .int .i64 0, .slice none 0 0, .int .i64 0, .int .i64 0, .int .i64 0, .int .i64 0, .slice none 0 0], (blk_at Hx5.out (kept_trans Kk13.out (kept_trans Kk21.out (kept_trans Kk28.out (kept_trans Kk36.out Kk41.out))))), rfl, Nat.le_of_ble_eq_true rfl, ?_⟩
        intro W43 hW43
        go_wp2_with fail
        refine bodyPost_ret (results_cell_row rfl _ _ (w.heap.size + 4) 51 _ _ dh rfl (blk_same (blk_at Hx5.out (kept_trans Kk13.out (kept_trans Kk21.out (kept_trans Kk28.out (kept_trans Kk36.out Kk41.out))))) hW43) dh1 (by cases dh <;> first | rfl | exact dh2) (by kernel_rfl)) rfl ?_
        rw [show cgRefl i a c e r = (⟨0, (.mk 0 0 0 0 []), (.mk 0 0 0 0 []), (.mk 0 0 0 0 []), (.mk 0 0 0 0 []), (.mk 0 0 0 0 [])⟩ : He) from by unfold cgRefl; rw [Hhb11.out, Hhb26.out, Hhb39.out]; (try rfl)]
        exact ⟨_, _, _, _, _, rfl, ⟨par_end (par_row' (liesQ_nil w37 (Par w V0.heap.size [] P)) hW43 (by omega) (by have := Z0.out; omega)) (by have := Z0.out; omega), par_end (par_row' (liesQ_nil w37 (Par w V0.heap.size [] P)) hW43 (by omega) (by have := Z0.out; omega)) (by have := Z0.out; omega), par_end (par_row' (liesQ_nil w37 (Par w V0.heap.size [] P)) hW43 (by omega) (by have := Z0.out; omega)) (by have := Z0.out; omega), par_end (par_row' (liesQ_nil w37 (Par w V0.heap.size [] P)) hW43 (by omega) (by have := Z0.out; omega)) (by have := Z0.out; omega), par_end (par_row' (liesQ_nil w37 (Par w V0.heap.size [] P)) hW43 (by omega) (by have := Z0.out; omega)) (by have := Z0.out; omega)⟩, kept_set (kept_trans Kk8.out (kept_trans Kk13.out (kept_trans Kk21.out (kept_trans Kk28.out (kept_trans Kk36.out Kk41.out))))) hW43 (by omega)⟩
      | true =>
        have kvV0 : Sees V0 (w.heap.size + 4) w37 := sees_kept _ (kept_trans Kk13.out (kept_trans Kk21.out (kept_trans Kk28.out (kept_trans Kk36.out Kk41.out))))
        go_wp2_with fail
        clear kvV0
        obtain ⟨W44, h45⟩ : ∃ x, World.drew w37 = x := ⟨_, rfl⟩
        have k46 : Kept w37 W44 := by rw [← h45]; exact kept_drew (kept_refl _)
        have Kk47 := Lib.hid k46
        clear k46
        refine wp_region_held_drew (S := Sees W44 (w.heap.size + 4)) (by kernel_rfl) ?_ (fun hHeld => ?_)
        · (try dsimp only)
          rw [h45]
          exact sees_kept _ (kept_refl _)
        rw [h45] at hHeld ⊢
        clear h45
        refine take_at 0 30 cReflr3_0 (v := ?_) (Or.inl ⟨by rfl, ?_⟩) ?_
        rotate_left 1
        · ((intro w hSw; (try dsimp only at hSw); unfold cReflr3_0; go_simp) <;> with_reducible rfl)
        (try simp only [Act.put, List.setIfInBounds_toArray, List.set_cons_zero, List.set_cons_succ])
        refine take_at 1 31 cReflr3_1 (yields_part (w.heap.size) 0 32 (.tmp 6) #[.int .i64 a.k, .int .i64 a.i, .int .i64 a.j, .int .i64 a.n, (.slice aa a.kids.length ca)] du (fun _ h => sees_blk Hx1.out (by have := Z0.out; omega) (sees_of (kept_trans Kk13.out (kept_trans Kk21.out (kept_trans Kk28.out (kept_trans Kk36.out (kept_trans Kk41.out Kk47.out))))) h)) (by rfl) rfl (by rfl) (by rfl) hu1 (by cases du <;> first | rfl | exact hu2) size_term) ?_
        (try simp only [Act.put, List.setIfInBounds_toArray, List.set_cons_zero, List.set_cons_succ])
        refine take_at 2 32 cReflr3_2 (v := ?_) (Or.inl ⟨by rfl, ?_⟩) ?_
        rotate_left 1
        · ((intro w hSw; (try dsimp only at hSw); unfold cReflr3_2; go_simp) <;> with_reducible rfl)
        (try simp only [Act.put, List.setIfInBounds_toArray, List.set_cons_zero, List.set_cons_succ])
        refine take_at 3 33 cReflr3_3 (yields_part (w.heap.size + 3) 11 32 (.tmp 32) #[.int .i64 r.x.k, .int .i64 r.x.i, .int .i64 r.x.j, .int .i64 r.x.n, (.slice arx r.x.kids.length crx)] du (fun _ h => sees_blk Hx4.out (by have := Z0.out; omega) (sees_of (kept_trans Kk13.out (kept_trans Kk21.out (kept_trans Kk28.out (kept_trans Kk36.out (kept_trans Kk41.out Kk47.out))))) h)) (by rfl) rfl (by rfl) (by rfl) hu1 (by cases du <;> first | rfl | exact hu2) size_term) ?_
        (try simp only [Act.put, List.setIfInBounds_toArray, List.set_cons_zero, List.set_cons_succ])
        refine take_at 5 35 cReflr3_5 (yields_part (w.heap.size + 1) 0 32 (.tmp 7) #[.int .i64 c.k, .int .i64 c.i, .int .i64 c.j, .int .i64 c.n, (.slice ac c.kids.length cc)] du (fun _ h => sees_blk Hx2.out (by have := Z0.out; omega) (sees_of (kept_trans Kk13.out (kept_trans Kk21.out (kept_trans Kk28.out (kept_trans Kk36.out (kept_trans Kk41.out Kk47.out))))) h)) (by rfl) rfl (by rfl) (by rfl) hu1 (by cases du <;> first | rfl | exact hu2) size_term) ?_
        (try simp only [Act.put, List.setIfInBounds_toArray, List.set_cons_zero, List.set_cons_succ])
        refine take_at 6 36 cReflr3_6 (v := ?_) (Or.inl ⟨by rfl, ?_⟩) ?_
        rotate_left 1
        · ((intro w hSw; (try dsimp only at hSw); unfold cReflr3_6; go_simp) <;> with_reducible rfl)
        (try simp only [Act.put, List.setIfInBounds_toArray, List.set_cons_zero, List.set_cons_succ])
        refine take_at 7 37 cReflr3_7 (yields_part (w.heap.size + 3) 16 32 (.tmp 36) #[.int .i64 r.y.k, .int .i64 r.y.i, .int .i64 r.y.j, .int .i64 r.y.n, (.slice ary r.y.kids.length cry)] du (fun _ h => sees_blk Hx4.out (by have := Z0.out; omega) (sees_of (kept_trans Kk13.out (kept_trans Kk21.out (kept_trans Kk28.out (kept_trans Kk36.out (kept_trans Kk41.out Kk47.out))))) h)) (by rfl) rfl (by rfl) (by rfl) hu1 (by cases du <;> first | rfl | exact hu2) size_term) ?_
        (try simp only [Act.put, List.setIfInBounds_toArray, List.set_cons_zero, List.set_cons_succ])
        refine take_at 9 39 cReflr3_9 (v := ?_) (Or.inl ⟨by rfl, ?_⟩) ?_
        rotate_left 1
        · ((intro w hSw; (try dsimp only at hSw); unfold cReflr3_9; go_simp) <;> with_reducible rfl)
        (try simp only [Act.put, List.setIfInBounds_toArray, List.set_cons_zero, List.set_cons_succ])
        refine take_at 10 40 cReflr3_10 (yields_part (w.heap.size) 0 32 (.tmp 6) #[.int .i64 a.k, .int .i64 a.i, .int .i64 a.j, .int .i64 a.n, (.slice aa a.kids.length ca)] du (fun _ h => sees_blk Hx1.out (by have := Z0.out; omega) (sees_of (kept_trans Kk13.out (kept_trans Kk21.out (kept_trans Kk28.out (kept_trans Kk36.out (kept_trans Kk41.out Kk47.out))))) h)) (by rfl) rfl (by rfl) (by rfl) hu1 (by cases du <;> first | rfl | exact hu2) size_term) ?_
        (try simp only [Act.put, List.setIfInBounds_toArray, List.set_cons_zero, List.set_cons_succ])
        refine take_at 11 41 cReflr3_11 (yields_part (w.heap.size + 1) 0 32 (.tmp 7) #[.int .i64 c.k, .int .i64 c.i, .int .i64 c.j, .int .i64 c.n, (.slice ac c.kids.length cc)] du (fun _ h => sees_blk Hx2.out (by have := Z0.out; omega) (sees_of (kept_trans Kk13.out (kept_trans Kk21.out (kept_trans Kk28.out (kept_trans Kk36.out (kept_trans Kk41.out Kk47.out))))) h)) (by rfl) rfl (by rfl) (by rfl) hu1 (by cases du <;> first | rfl | exact hu2) size_term) ?_
        (try simp only [Act.put, List.setIfInBounds_toArray, List.set_cons_zero, List.set_cons_succ])
        refine take_at 12 42 cReflr3_12 (yields_part (w.heap.size + 2) 0 32 (.tmp 8) #[.int .i64 e.k, .int .i64 e.i, .int .i64 e.j, .int .i64 e.n, (.slice ae e.kids.length ce)] du (fun _ h => sees_blk Hx3.out (by have := Z0.out; omega) (sees_of (kept_trans Kk13.out (kept_trans Kk21.out (kept_trans Kk28.out (kept_trans Kk36.out (kept_trans Kk41.out Kk47.out))))) h)) (by rfl) rfl (by rfl) (by rfl) hu1 (by cases du <;> first | rfl | exact hu2) size_term) ?_
        (try simp only [Act.put, List.setIfInBounds_toArray, List.set_cons_zero, List.set_cons_succ])
        refine take_at 13 43 cReflr3_13 (v := ?_) (Or.inl ⟨by rfl, ?_⟩) ?_
        rotate_left 1
        · ((intro w hSw; (try dsimp only at hSw); unfold cReflr3_13; go_simp) <;> with_reducible rfl)
        (try simp only [Act.put, List.setIfInBounds_toArray, List.set_cons_zero, List.set_cons_succ])
        refine take_at 14 44 cReflr3_14 (yields_part (w.heap.size + 3) 11 32 (.tmp 43) #[.int .i64 r.x.k, .int .i64 r.x.i, .int .i64 r.x.j, .int .i64 r.x.n, (.slice arx r.x.kids.length crx)] du (fun _ h => sees_blk Hx4.out (by have := Z0.out; omega) (sees_of (kept_trans Kk13.out (kept_trans Kk21.out (kept_trans Kk28.out (kept_trans Kk36.out (kept_trans Kk41.out Kk47.out))))) h)) (by rfl) rfl (by rfl) (by rfl) hu1 (by cases du <;> first | rfl | exact hu2) size_term) ?_
        (try simp only [Act.put, List.setIfInBounds_toArray, List.set_cons_zero, List.set_cons_succ])
        refine take_at 15 45 cReflr3_15 (v := ?_) (Or.inl ⟨by rfl, ?_⟩) ?_
        rotate_left 1
        · ((intro w hSw; (try dsimp only at hSw); unfold cReflr3_15; go_simp) <;> with_reducible rfl)
        (try simp only [Act.put, List.setIfInBounds_toArray, List.set_cons_zero, List.set_cons_succ])
        refine take_at 16 46 cReflr3_16 (yields_part (w.heap.size + 3) 16 32 (.tmp 45) #[.int .i64 r.y.k, .int .i64 r.y.i, .int .i64 r.y.j, .int .i64 r.y.n, (.slice ary r.y.kids.length cry)] du (fun _ h => sees_blk Hx4.out (by have := Z0.out; omega) (sees_of (kept_trans Kk13.out (kept_trans Kk21.out (kept_trans Kk28.out (kept_trans Kk36.out (kept_trans Kk41.out Kk47.out))))) h)) (by rfl) rfl (by rfl) (by rfl) hu1 (by cases du <;> first | rfl | exact hu2) size_term) ?_
        (try simp only [Act.put, List.setIfInBounds_toArray, List.set_cons_zero, List.set_cons_succ])
        refine take_at 17 47 cReflr3_17 (v := ?_) (Or.inl ⟨by rfl, ?_⟩) ?_
        rotate_left 1
        · ((intro w hSw; (try dsimp only at hSw); unfold cReflr3_17; go_simp) <;> with_reducible rfl)
        (try simp only [Act.put, List.setIfInBounds_toArray, List.set_cons_zero, List.set_cons_succ])
        refine take_at 18 48 cReflr3_18 (yields_part (w.heap.size + 3) 21 32 (.tmp 47) #[.int .i64 r.h.k, .int .i64 r.h.i, .int .i64 r.h.j, .int .i64 r.h.n, (.slice arh r.h.kids.length crh)] du (fun _ h => sees_blk Hx4.out (by have := Z0.out; omega) (sees_of (kept_trans Kk13.out (kept_trans Kk21.out (kept_trans Kk28.out (kept_trans Kk36.out (kept_trans Kk41.out Kk47.out))))) h)) (by rfl) rfl (by rfl) (by rfl) hu1 (by cases du <;> first | rfl | exact hu2) size_term) ?_
        (try simp only [Act.put, List.setIfInBounds_toArray, List.set_cons_zero, List.set_cons_succ])
        apply (via_joinTACTACCTACC (K := fun W355 U63 a60 c61 U72 a69 c70 g79 U353 a350 c351 g359 => (Kept W44 W355) ∧ (nodeT 21 [a, r.x] = U63) ∧ (nodeT 21 [c, r.y] = U72) ∧ (useT 21 i 0 [a, c, e, r.x, r.y, r.h] = U353) ∧ (LiesQ W355 (Par w V0.heap.size (g359 :: []) P) U63.kids (.slice a60 U63.kids.length c61)) ∧ (LiesQ W355 (Par w V0.heap.size (g359 :: []) P) U72.kids (.slice a69 U72.kids.length c70)) ∧ (LiesQ W355 (Par w V0.heap.size (g359 :: []) P) U353.kids (.slice a350 U353.kids.length c351)) ∧ (W355.heap[g359]? = some (.cells #[.int .i64 0, .int .i64 0, .int .i64 0, .int .i64 0, .int .i64 0, .slice none 0 0, .int .i64 0, .int .i64 0, .int .i64 0, .int .i64 0, .slice none 0 0, .int .i64 0, .int .i64 0, .int .i64 0, .int .i64 0, .slice none 0 0, .int .i64 0, .int .i64 0, .int .i64 0, .int .i64 0, .slice none 0 0, .int .i64 0, .int .i64 0, .int .i64 0, .int .i64 0, .slice none 0 0] 51 (0, 0))) ∧ (V0.heap.size ≤ g359) ∧ (W44.heap.size ≤ g359) ∧ (W44.heap.size ≤ g359) ∧ (XLt (g359 :: []) W355)))
        intro HJj55
        apply (via_joinTACTACCC (K := fun w295 U63 a60 c61 U302 a299 c300 g215 g112 => (Kept W44 w295) ∧ (nodeT 21 [a, r.x] = U63) ∧ (nodeT 21 [c, r.y] = U302) ∧ (LiesQ w295 (Par w V0.heap.size (g112 :: []) P) U63.kids (.slice a60 U63.kids.length c61)) ∧ (LiesQ w295 (Par w V0.heap.size (g112 :: []) P) U302.kids (.slice a299 U302.kids.length c300)) ∧ (LiesQ w295 (Par w V0.heap.size (g112 :: []) P) ([a, c, e, r.x, r.y, r.h]) (.slice (some ⟨g215, 0, none⟩) 6 6)) ∧ (w295.heap[g112]? = some (.cells #[.int .i64 0, .int .i64 0, .int .i64 0, .int .i64 0, .int .i64 0, .slice none 0 0, .int .i64 0, .int .i64 0, .int .i64 0, .int .i64 0, .slice none 0 0, .int .i64 0, .int .i64 0, .int .i64 0, .int .i64 0, .slice none 0 0, .int .i64 0, .int .i64 0, .int .i64 0, .int .i64 0, .slice none 0 0, .int .i64 0, .int .i64 0, .int .i64 0, .int .i64 0, .slice none 0 0] 51 (0, 0))) ∧ (V0.heap.size ≤ g112) ∧ (W44.heap.size ≤ g112) ∧ (W44.heap.size ≤ g112) ∧ (XLt (g112 :: []) w295)))
        intro HJj54
        apply (via_joinTACTACC (K := fun W75 U63 a60 c61 U72 a69 c70 g79 => (Kept W44 W75) ∧ (nodeT 21 [a, r.x] = U63) ∧ (nodeT 21 [c, r.y] = U72) ∧ (LiesQ W75 (Par w V0.heap.size [] P) U63.kids (.slice a60 U63.kids.length c61)) ∧ (LiesQ W75 (Par w V0.heap.size [] P) U72.kids (.slice a69 U72.kids.length c70)) ∧ (LiesQ W75 (Par w V0.heap.size [] P) ([a, c, e, r.x, r.y, r.h]) (.slice (some ⟨g79, 0, none⟩) 6 6))))
        intro HJj53
        apply (via_joinTACTACC (K := fun W84 U63 a60 c61 U72 a69 c70 g88 => (Kept W44 W84) ∧ (nodeT 21 [a, r.x] = U63) ∧ (nodeT 21 [c, r.y] = U72) ∧ (LiesQ W84 (Par w V0.heap.size (g88 :: []) P) U63.kids (.slice a60 U63.kids.length c61)) ∧ (LiesQ W84 (Par w V0.heap.size (g88 :: []) P) U72.kids (.slice a69 U72.kids.length c70)) ∧ (W84.heap[g88]? = some (.cells #[.int .i64 0, .int .i64 0, .int .i64 0, .int .i64 0, .int .i64 0, .slice none 0 0, .int .i64 0, .int .i64 0, .int .i64 0, .int .i64 0, .slice none 0 0, .int .i64 0, .int .i64 0, .int .i64 0, .int .i64 0, .slice none 0 0, .int .i64 0, .int .i64 0, .int .i64 0, .int .i64 0, .slice none 0 0, .int .i64 0, .int .i64 0, .int .i64 0, .int .i64 0, .slice none 0 0] 51 (0, 0))) ∧ (V0.heap.size ≤ g88) ∧ (W44.heap.size ≤ g88) ∧ (W44.heap.size ≤ g88) ∧ (XLt (g88 :: []) W84)))
        intro HJj52
        apply (via_joinTACCC (K := fun W211 U63 a60 c61 g215 g112 => (Kept W44 W211) ∧ (nodeT 21 [a, r.x] = U63) ∧ (LiesQ W211 (Par w V0.heap.size (g112 :: []) P) U63.kids (.slice a60 U63.kids.length c61)) ∧ (LiesQ W211 (Par w V0.heap.size (g112 :: []) P) ([a, c, e, r.x, r.y, r.h]) (.slice (some ⟨g215, 0, none⟩) 6 6)) ∧ (W211.heap[g112]? = some (.cells #[.int .i64 0, .int .i64 0, .int .i64 0, .int .i64 0, .int .i64 0, .slice none 0 0, .int .i64 0, .int .i64 0, .int .i64 0, .int .i64 0, .slice none 0 0, .int .i64 0, .int .i64 0, .int .i64 0, .int .i64 0, .slice none 0 0, .int .i64 0, .int .i64 0, .int .i64 0, .int .i64 0, .slice none 0 0, .int .i64 0, .int .i64 0, .int .i64 0, .int .i64 0, .slice none 0 0] 51 (0, 0))) ∧ (V0.heap.size ≤ g112) ∧ (W44.heap.size ≤ g112) ∧ (W44.heap.size ≤ g112) ∧ (XLt (g112 :: []) W211)))
        intro HJj51
        apply (via_joinTACC (K := fun W99 U63 a60 c61 g103 => (Kept W44 W99) ∧ (nodeT 21 [a, r.x] = U63) ∧ (LiesQ W99 (Par w V0.heap.size [] P) U63.kids (.slice a60 U63.kids.length c61)) ∧ (LiesQ W99 (Par w V0.heap.size [] P) ([a, c, e, r.x, r.y, r.h]) (.slice (some ⟨g103, 0, none⟩) 6 6))))
        intro HJj50
        apply (via_joinCC (K := fun W140 g126 g144 => (Kept W44 W140) ∧ (LiesQ W140 (Par w V0.heap.size (g144 :: []) P) ([a, c, e, r.x, r.y, r.h]) (.slice (some ⟨g126, 0, none⟩) 6 6)) ∧ (W140.heap[g144]? = some (.cells #[.int .i64 0, .int .i64 0, .int .i64 0, .int .i64 0, .int .i64 0, .slice none 0 0, .int .i64 0, .int .i64 0, .int .i64 0, .int .i64 0, .slice none 0 0, .int .i64 0, .int .i64 0, .int .i64 0, .int .i64 0, .slice none 0 0, .int .i64 0, .int .i64 0, .int .i64 0, .int .i64 0, .slice none 0 0, .int .i64 0, .int .i64 0, .int .i64 0, .int .i64 0, .slice none 0 0] 51 (0, 0))) ∧ (V0.heap.size ≤ g144) ∧ (W44.heap.size ≤ g144) ∧ (W44.heap.size ≤ g144) ∧ (XLt (g144 :: []) W140)))
        intro HJj49
        apply (via_joinTACC (K := fun W108 U63 a60 c61 g112 => (Kept W44 W108) ∧ (nodeT 21 [a, r.x] = U63) ∧ (LiesQ W108 (Par w V0.heap.size (g112 :: []) P) U63.kids (.slice a60 U63.kids.length c61)) ∧ (W108.heap[g112]? = some (.cells #[.int .i64 0, .int .i64 0, .int .i64 0, .int .i64 0, .int .i64 0, .slice none 0 0, .int .i64 0, .int .i64 0, .int .i64 0, .int .i64 0, .slice none 0 0, .int .i64 0, .int .i64 0, .int .i64 0, .int .i64 0, .slice none 0 0, .int .i64 0, .int .i64 0, .int .i64 0, .int .i64 0, .slice none 0 0, .int .i64 0, .int .i64 0, .int .i64 0, .int .i64 0, .slice none 0 0] 51 (0, 0))) ∧ (V0.heap.size ≤ g112) ∧ (W44.heap.size ≤ g112) ∧ (W44.heap.size ≤ g112) ∧ (XLt (g112 :: []) W108)))
        intro HJj48
        · refine wpAnyH_ready (rs := [4, 19, 22]) (by kernel_rfl) (by simp) ?_
          refine AllReadyH.cons (o := cReflr3_4) rfl (fun K hK => ?_) ?_
          · unfold cReflr3_4
            go_simp
            refine (cmake2_any 21 a r.x (Par w V0.heap.size [] P) _ (.slice aa a.kids.length ca) (.slice arx r.x.kids.length crx) (show I64 21 from by unfold I64; decide) Ga.out (HLa.out.later (kept_trans Kk13.out (kept_trans Kk21.out (kept_trans Kk28.out (kept_trans Kk36.out (kept_trans Kk41.out Kk47.out)))))) Gr.out.2.2.2.1 (HLrx.out.later (kept_trans Kk13.out (kept_trans Kk21.out (kept_trans Kk28.out (kept_trans Kk36.out (kept_trans Kk41.out Kk47.out))))))).mono ?_
            obtain ⟨U63, hU63⟩ : ∃ qu, nodeT 21 [a, r.x] = qu := ⟨_, rfl⟩
            rw [hU63]
            have HU63 := Lib.hid hU63
            clear hU63
            rintro e w56 ⟨s58, rfl, hl59, k57⟩
            obtain ⟨a60, c61, S62, rfl, -⟩ := hl59.out
            have Kk64 := Lib.hid k57
            clear k57
            have Hhl59 : Hid (LiesQ w56 (Par w V0.heap.size [] P) U63.kids _) := par_give hl59 (Below.size (kept_trans Kk13.out (kept_trans Kk21.out (kept_trans Kk28.out (kept_trans Kk36.out (kept_trans Kk41.out Kk47.out)))))) (xlt_nil _)
            clear hl59
            (try clear hHeld)
            refine hK.out _ _ (sees_kept _ Kk64.out) (fun hHeld => ?_)
            clear hK K
            (try simp only [Act.put, List.setIfInBounds_toArray, List.set_cons_zero, List.set_cons_succ])
            refine wpAnyH_ready (rs := [8, 19, 22]) (by kernel_rfl) (by simp) ?_
            refine AllReadyH.cons (o := cReflr3_8) rfl (fun K hK => ?_) ?_
            · unfold cReflr3_8
              go_simp
              refine (cmake2_any 21 c r.y (Par w V0.heap.size [] P) _ (.slice ac c.kids.length cc) (.slice ary r.y.kids.length cry) (show I64 21 from by unfold I64; decide) Gc.out (HLc.out.later (kept_trans Kk13.out (kept_trans Kk21.out (kept_trans Kk28.out (kept_trans Kk36.out (kept_trans Kk41.out (kept_trans Kk47.out Kk64.out))))))) Gr.out.2.2.2.2.1 (HLry.out.later (kept_trans Kk13.out (kept_trans Kk21.out (kept_trans Kk28.out (kept_trans Kk36.out (kept_trans Kk41.out (kept_trans Kk47.out Kk64.out)))))))).mono ?_
              obtain ⟨U72, hU72⟩ : ∃ qu, nodeT 21 [c, r.y] = qu := ⟨_, rfl⟩
              rw [hU72]
              have HU72 := Lib.hid hU72
              clear hU72
              rintro e w65 ⟨s67, rfl, hl68, k66⟩
              obtain ⟨a69, c70, S71, rfl, -⟩ := hl68.out
              have Kk73 := Lib.hid k66
              clear k66
              have Hhl68 : Hid (LiesQ w65 (Par w V0.heap.size [] P) U72.kids _) := par_give hl68 (Below.size (kept_trans Kk13.out (kept_trans Kk21.out (kept_trans Kk28.out (kept_trans Kk36.out (kept_trans Kk41.out (kept_trans Kk47.out Kk64.out))))))) (xlt_nil _)
              clear hl68
              (try clear hHeld)
              refine hK.out _ _ (sees_kept _ (kept_trans Kk64.out Kk73.out)) (fun hHeld => ?_)
              clear hK K
              (try simp only [Act.put, List.setIfInBounds_toArray, List.set_cons_zero, List.set_cons_succ])
              refine wpAnyH_ready (rs := [19, 22]) (by kernel_rfl) (by simp) ?_
              refine AllReadyH.cons (o := cReflr3_19) rfl (fun K hK => ?_) ?_
              · unfold cReflr3_19
                go_simp
                refine at_K (fun W75 hW75 => ?_)
                obtain ⟨g79, hg80, Kk77, Hx76, Hz78, KV81, HN82⟩ := alloc1v (kept_trans Kk13.out (kept_trans Kk21.out (kept_trans Kk28.out (kept_trans Kk36.out (kept_trans Kk41.out (kept_trans Kk47.out (kept_trans Kk64.out Kk73.out))))))) hW75
                rw [hg80]
                clear hW75
                have HR83 := Lib.hid (q_row6 Hx76.out Ga.out (HLa.out.later KV81.out) Gc.out (HLc.out.later KV81.out) Ge.out (HLe.out.later KV81.out) Gr.out.2.2.2.1 (HLrx.out.later KV81.out) Gr.out.2.2.2.2.1 (HLry.out.later KV81.out) Gr.out.2.2.2.2.2 (HLrh.out.later KV81.out) (par_newg HN82.out (fun h => nomatch h)))
                clear hg80
                (try clear hHeld)
                refine hK.out _ _ (sees_kept _ (kept_trans Kk64.out (kept_trans Kk73.out Kk77.out))) (fun hHeld => ?_)
                clear hK K
                (try simp only [Act.put, List.setIfInBounds_toArray, List.set_cons_zero, List.set_cons_succ])
                exact HJj53 W75 U63 a60 c61 U72 a69 c70 g79 ⟨(kept_trans Kk64.out (kept_trans Kk73.out Kk77.out)), HU63.out, HU72.out, (Hhl59.out.later (kept_trans Kk73.out Kk77.out)), (Hhl68.out.later Kk77.out), HR83.out⟩
              refine AllReadyH.cons (o := cReflr3_22) rfl (fun K hK => ?_) ?_
              · unfold cReflr3_22
                go_simp
                refine at_K (fun W84 hW84 => ?_)
                obtain ⟨g88, hg89, Kk86, Hx85, Hz87, KV90, HN91⟩ := alloc1v (kept_trans Kk13.out (kept_trans Kk21.out (kept_trans Kk28.out (kept_trans Kk36.out (kept_trans Kk41.out (kept_trans Kk47.out (kept_trans Kk64.out Kk73.out))))))) hW84
                rw [hg89]
                clear hW84
                have HG92 : Hid (V0.heap.size ≤ g88) := (by show _ ≤ _; rw [← hg89]; exact (Below.size (kept_trans Kk13.out (kept_trans Kk21.out (kept_trans Kk28.out (kept_trans Kk36.out (kept_trans Kk41.out (kept_trans Kk47.out (kept_trans Kk64.out Kk73.out)))))))))
                have XL93 : Hid (XLt (g88 :: []) W84) := (by show XLt _ _; rw [← hg89]; exact xlt_more (xlt_nil _) Kk86.out (by have := Hz87.out; omega))
                have HP94 : Hid (w65.heap.size ≤ g88) := (by show _ ≤ _; rw [← hg89]; exact Nat.le_refl _)
                have HD95 : Hid (W44.heap.size ≤ g88) := (by show _ ≤ _; rw [← hg89]; exact Below.size (kept_trans Kk64.out Kk73.out))
                clear hg89
                (try clear hHeld)
                refine hK.out _ _ (sees_kept _ (kept_trans Kk64.out (kept_trans Kk73.out Kk86.out))) (fun hHeld => ?_)
                clear hK K
                (try simp only [Act.put, List.setIfInBounds_toArray, List.set_cons_zero, List.set_cons_succ])
                have pg96 : ∀ (l : List Tm) (s : Value), LiesQ w56 (Par w V0.heap.size [] P) l s → LiesQ W84 (Par w V0.heap.size (g88 :: []) P) l s := fun _ _ h => par_grow h (kept_trans Kk73.out Kk86.out) (List.forall_mem_cons.2 ⟨(Or.inr (Nat.le_trans (Below.size Kk73.out) HP94.out)), (fun _ h => nomatch h)⟩)
                have pg97 : ∀ (l : List Tm) (s : Value), LiesQ w65 (Par w V0.heap.size [] P) l s → LiesQ W84 (Par w V0.heap.size (g88 :: []) P) l s := fun _ _ h => par_grow h Kk86.out (List.forall_mem_cons.2 ⟨(Or.inr HP94.out), (fun _ h => nomatch h)⟩)
                exact HJj52 W84 U63 a60 c61 U72 a69 c70 g88 ⟨(kept_trans Kk64.out (kept_trans Kk73.out Kk86.out)), HU63.out, HU72.out, (pg96 _ _ Hhl59.out), (pg97 _ _ Hhl68.out), Hx85.out, HG92.out, (Nat.le_trans (Below.size (kept_trans Kk64.out Kk73.out)) HP94.out), HD95.out, XL93.out⟩
              exact AllReadyH.nil
            refine AllReadyH.cons (o := cReflr3_19) rfl (fun K hK => ?_) ?_
            · unfold cReflr3_19
              go_simp
              refine at_K (fun W99 hW99 => ?_)
              obtain ⟨g103, hg104, Kk101, Hx100, Hz102, KV105, HN106⟩ := alloc1v (kept_trans Kk13.out (kept_trans Kk21.out (kept_trans Kk28.out (kept_trans Kk36.out (kept_trans Kk41.out (kept_trans Kk47.out Kk64.out)))))) hW99
              rw [hg104]
              clear hW99
              have HR107 := Lib.hid (q_row6 Hx100.out Ga.out (HLa.out.later KV105.out) Gc.out (HLc.out.later KV105.out) Ge.out (HLe.out.later KV105.out) Gr.out.2.2.2.1 (HLrx.out.later KV105.out) Gr.out.2.2.2.2.1 (HLry.out.later KV105.out) Gr.out.2.2.2.2.2 (HLrh.out.later KV105.out) (par_newg HN106.out (fun h => nomatch h)))
              clear hg104
              (try clear hHeld)
              refine hK.out _ _ (sees_kept _ (kept_trans Kk64.out Kk101.out)) (fun hHeld => ?_)
              clear hK K
              (try simp only [Act.put, List.setIfInBounds_toArray, List.set_cons_zero, List.set_cons_succ])
              exact HJj50 W99 U63 a60 c61 g103 ⟨(kept_trans Kk64.out Kk101.out), HU63.out, (Hhl59.out.later Kk101.out), HR107.out⟩
            refine AllReadyH.cons (o := cReflr3_22) rfl (fun K hK => ?_) ?_
            · unfold cReflr3_22
              go_simp
              refine at_K (fun W108 hW108 => ?_)
              obtain ⟨g112, hg113, Kk110, Hx109, Hz111, KV114, HN115⟩ := alloc1v (kept_trans Kk13.out (kept_trans Kk21.out (kept_trans Kk28.out (kept_trans Kk36.out (kept_trans Kk41.out (kept_trans Kk47.out Kk64.out)))))) hW108
              rw [hg113]
              clear hW108
              have HG116 : Hid (V0.heap.size ≤ g112) := (by show _ ≤ _; rw [← hg113]; exact (Below.size (kept_trans Kk13.out (kept_trans Kk21.out (kept_trans Kk28.out (kept_trans Kk36.out (kept_trans Kk41.out (kept_trans Kk47.out Kk64.out))))))))
              have XL117 : Hid (XLt (g112 :: []) W108) := (by show XLt _ _; rw [← hg113]; exact xlt_more (xlt_nil _) Kk110.out (by have := Hz111.out; omega))
              have HP118 : Hid (w56.heap.size ≤ g112) := (by show _ ≤ _; rw [← hg113]; exact Nat.le_refl _)
              have HD119 : Hid (W44.heap.size ≤ g112) := (by show _ ≤ _; rw [← hg113]; exact Below.size Kk64.out)
              clear hg113
              (try clear hHeld)
              refine hK.out _ _ (sees_kept _ (kept_trans Kk64.out Kk110.out)) (fun hHeld => ?_)
              clear hK K
              (try simp only [Act.put, List.setIfInBounds_toArray, List.set_cons_zero, List.set_cons_succ])
              have pg120 : ∀ (l : List Tm) (s : Value), LiesQ w56 (Par w V0.heap.size [] P) l s → LiesQ W108 (Par w V0.heap.size (g112 :: []) P) l s := fun _ _ h => par_grow h Kk110.out (List.forall_mem_cons.2 ⟨(Or.inr HP118.out), (fun _ h => nomatch h)⟩)
              exact HJj48 W108 U63 a60 c61 g112 ⟨(kept_trans Kk64.out Kk110.out), HU63.out, (pg120 _ _ Hhl59.out), Hx109.out, HG116.out, (Nat.le_trans (Below.size Kk64.out) HP118.out), HD119.out, XL117.out⟩
            exact AllReadyH.nil
          refine AllReadyH.cons (o := cReflr3_19) rfl (fun K hK => ?_) ?_
          · unfold cReflr3_19
            go_simp
            refine at_K (fun W122 hW122 => ?_)
            obtain ⟨g126, hg127, Kk124, Hx123, Hz125, KV128, HN129⟩ := alloc1v (kept_trans Kk13.out (kept_trans Kk21.out (kept_trans Kk28.out (kept_trans Kk36.out (kept_trans Kk41.out Kk47.out))))) hW122
            rw [hg127]
            clear hW122
            have HR130 := Lib.hid (q_row6 Hx123.out Ga.out (HLa.out.later KV128.out) Gc.out (HLc.out.later KV128.out) Ge.out (HLe.out.later KV128.out) Gr.out.2.2.2.1 (HLrx.out.later KV128.out) Gr.out.2.2.2.2.1 (HLry.out.later KV128.out) Gr.out.2.2.2.2.2 (HLrh.out.later KV128.out) (par_newg HN129.out (fun h => nomatch h)))
            clear hg127
            (try clear hHeld)
            refine hK.out _ _ (sees_kept _ Kk124.out) (fun hHeld => ?_)
            clear hK K
            (try simp only [Act.put, List.setIfInBounds_toArray, List.set_cons_zero, List.set_cons_succ])
            refine wpAnyH_ready (rs := [4, 22]) (by kernel_rfl) (by simp) ?_
            refine AllReadyH.cons (o := cReflr3_4) rfl (fun K hK => ?_) ?_
            · unfold cReflr3_4
              go_simp
              refine (cmake2_any 21 a r.x (Par w V0.heap.size [] P) _ (.slice aa a.kids.length ca) (.slice arx r.x.kids.length crx) (show I64 21 from by unfold I64; decide) Ga.out (HLa.out.later KV128.out) Gr.out.2.2.2.1 (HLrx.out.later KV128.out)).mono ?_
              obtain ⟨U138, hU138⟩ : ∃ qu, nodeT 21 [a, r.x] = qu := ⟨_, rfl⟩
              rw [hU138]
              have HU138 := Lib.hid hU138
              clear hU138
              rintro e w131 ⟨s133, rfl, hl134, k132⟩
              obtain ⟨a135, c136, S137, rfl, -⟩ := hl134.out
              have Kk139 := Lib.hid k132
              clear k132
              have Hhl134 : Hid (LiesQ w131 (Par w V0.heap.size [] P) U138.kids _) := par_give hl134 (Below.size KV128.out) (xlt_nil _)
              clear hl134
              (try clear hHeld)
              refine hK.out _ _ (sees_kept _ (kept_trans Kk124.out Kk139.out)) (fun hHeld => ?_)
              clear hK K
              (try simp only [Act.put, List.setIfInBounds_toArray, List.set_cons_zero, List.set_cons_succ])
              exact HJj50 w131 U138 a135 c136 g126 ⟨(kept_trans Kk124.out Kk139.out), HU138.out, Hhl134.out, (HR130.out.later Kk139.out)⟩
            refine AllReadyH.cons (o := cReflr3_22) rfl (fun K hK => ?_) ?_
            · unfold cReflr3_22
              go_simp
              refine at_K (fun W140 hW140 => ?_)
              obtain ⟨g144, hg145, Kk142, Hx141, Hz143, KV146, HN147⟩ := alloc1v KV128.out hW140
              rw [hg145]
              clear hW140
              have HG148 : Hid (V0.heap.size ≤ g144) := (by show _ ≤ _; rw [← hg145]; exact (Below.size KV128.out))
              have XL149 : Hid (XLt (g144 :: []) W140) := (by show XLt _ _; rw [← hg145]; exact xlt_more (xlt_nil _) Kk142.out (by have := Hz143.out; omega))
              have HP150 : Hid (W122.heap.size ≤ g144) := (by show _ ≤ _; rw [← hg145]; exact Nat.le_refl _)
              have HD151 : Hid (W44.heap.size ≤ g144) := (by show _ ≤ _; rw [← hg145]; exact Below.size Kk124.out)
              clear hg145
              (try clear hHeld)
              refine hK.out _ _ (sees_kept _ (kept_trans Kk124.out Kk142.out)) (fun hHeld => ?_)
              clear hK K
              (try simp only [Act.put, List.setIfInBounds_toArray, List.set_cons_zero, List.set_cons_succ])
              have pg152 : ∀ (l : List Tm) (s : Value), LiesQ W122 (Par w V0.heap.size [] P) l s → LiesQ W140 (Par w V0.heap.size (g144 :: []) P) l s := fun _ _ h => par_grow h Kk142.out (List.forall_mem_cons.2 ⟨(Or.inr HP150.out), (fun _ h => nomatch h)⟩)
              exact HJj49 W140 g126 g144 ⟨(kept_trans Kk124.out Kk142.out), (pg152 _ _ HR130.out), Hx141.out, HG148.out, (Nat.le_trans (Below.size Kk124.out) HP150.out), HD151.out, XL149.out⟩
            exact AllReadyH.nil
          refine AllReadyH.cons (o := cReflr3_22) rfl (fun K hK => ?_) ?_
          · unfold cReflr3_22
            go_simp
            refine at_K (fun W153 hW153 => ?_)
            obtain ⟨g157, hg158, Kk155, Hx154, Hz156, KV159, HN160⟩ := alloc1v (kept_trans Kk13.out (kept_trans Kk21.out (kept_trans Kk28.out (kept_trans Kk36.out (kept_trans Kk41.out Kk47.out))))) hW153
            rw [hg158]
            clear hW153
            have HG161 : Hid (V0.heap.size ≤ g157) := (by show _ ≤ _; rw [← hg158]; exact (Below.size (kept_trans Kk13.out (kept_trans Kk21.out (kept_trans Kk28.out (kept_trans Kk36.out (kept_trans Kk41.out Kk47.out)))))))
            have XL162 : Hid (XLt (g157 :: []) W153) := (by show XLt _ _; rw [← hg158]; exact xlt_more (xlt_nil _) Kk155.out (by have := Hz156.out; omega))
            have HP163 : Hid (W44.heap.size ≤ g157) := (by show _ ≤ _; rw [← hg158]; exact Nat.le_refl _)
            have HD164 : Hid (W44.heap.size ≤ g157) := (by show _ ≤ _; rw [← hg158]; exact Below.size (kept_refl _))
            clear hg158
            (try clear hHeld)
            refine hK.out _ _ (sees_kept _ Kk155.out) (fun hHeld => ?_)
            clear hK K
            (try simp only [Act.put, List.setIfInBounds_toArray, List.set_cons_zero, List.set_cons_succ])
            refine wpAnyH_ready (rs := [4, 19]) (by kernel_rfl) (by simp) ?_
            refine AllReadyH.cons (o := cReflr3_4) rfl (fun K hK => ?_) ?_
            · unfold cReflr3_4
              go_simp
              refine (cmake2_any 21 a r.x (Par w V0.heap.size (g157 :: []) P) _ (.slice aa a.kids.length ca) (.slice arx r.x.kids.length crx) (show I64 21 from by unfold I64; decide) Ga.out (par_grow HLa.out KV159.out (List.forall_mem_cons.2 ⟨(Or.inr (Nat.le_trans (Below.size (kept_trans Kk13.out (kept_trans Kk21.out (kept_trans Kk28.out (kept_trans Kk36.out (kept_trans Kk41.out Kk47.out)))))) HP163.out)), (fun _ h => nomatch h)⟩)) Gr.out.2.2.2.1 (par_grow HLrx.out KV159.out (List.forall_mem_cons.2 ⟨(Or.inr (Nat.le_trans (Below.size (kept_trans Kk13.out (kept_trans Kk21.out (kept_trans Kk28.out (kept_trans Kk36.out (kept_trans Kk41.out Kk47.out)))))) HP163.out)), (fun _ h => nomatch h)⟩))).mono ?_
              obtain ⟨U172, hU172⟩ : ∃ qu, nodeT 21 [a, r.x] = qu := ⟨_, rfl⟩
              rw [hU172]
              have HU172 := Lib.hid hU172
              clear hU172
              rintro e w165 ⟨s167, rfl, hl168, k166⟩
              obtain ⟨a169, c170, S171, rfl, -⟩ := hl168.out
              have Kk173 := Lib.hid k166
              clear k166
              have Hhl168 : Hid (LiesQ w165 (Par w V0.heap.size (g157 :: []) P) U172.kids _) := par_give hl168 (Below.size KV159.out) XL162.out
              clear hl168
              (try clear hHeld)
              refine hK.out _ _ (sees_kept _ (kept_trans Kk155.out Kk173.out)) (fun hHeld => ?_)
              clear hK K
              (try simp only [Act.put, List.setIfInBounds_toArray, List.set_cons_zero, List.set_cons_succ])
              exact HJj48 w165 U172 a169 c170 g157 ⟨(kept_trans Kk155.out Kk173.out), HU172.out, Hhl168.out, (blk_at Hx154.out Kk173.out), HG161.out, (Nat.le_trans (Below.size (kept_refl _)) HP163.out), HD164.out, (xlt_later XL162.out Kk173.out)⟩
            refine AllReadyH.cons (o := cReflr3_19) rfl (fun K hK => ?_) ?_
            · unfold cReflr3_19
              go_simp
              refine at_K (fun W175 hW175 => ?_)
              obtain ⟨g179, hg180, Kk177, Hx176, Hz178, KV181, HN182⟩ := alloc1v KV159.out hW175
              rw [hg180]
              clear hW175
              have HR183 := Lib.hid (q_row6 (Q := (Par w V0.heap.size (g157 :: []) P)) Hx176.out Ga.out (par_grow HLa.out KV181.out (List.forall_mem_cons.2 ⟨(Or.inr (Nat.le_trans (Below.size (kept_trans Kk13.out (kept_trans Kk21.out (kept_trans Kk28.out (kept_trans Kk36.out (kept_trans Kk41.out Kk47.out)))))) HP163.out)), (fun _ h => nomatch h)⟩)) Gc.out (par_grow HLc.out KV181.out (List.forall_mem_cons.2 ⟨(Or.inr (Nat.le_trans (Below.size (kept_trans Kk13.out (kept_trans Kk21.out (kept_trans Kk28.out (kept_trans Kk36.out (kept_trans Kk41.out Kk47.out)))))) HP163.out)), (fun _ h => nomatch h)⟩)) Ge.out (par_grow HLe.out KV181.out (List.forall_mem_cons.2 ⟨(Or.inr (Nat.le_trans (Below.size (kept_trans Kk13.out (kept_trans Kk21.out (kept_trans Kk28.out (kept_trans Kk36.out (kept_trans Kk41.out Kk47.out)))))) HP163.out)), (fun _ h => nomatch h)⟩)) Gr.out.2.2.2.1 (par_grow HLrx.out KV181.out (List.forall_mem_cons.2 ⟨(Or.inr (Nat.le_trans (Below.size (kept_trans Kk13.out (kept_trans Kk21.out (kept_trans Kk28.out (kept_trans Kk36.out (kept_trans Kk41.out Kk47.out)))))) HP163.out)), (fun _ h => nomatch h)⟩)) Gr.out.2.2.2.2.1 (par_grow HLry.out KV181.out (List.forall_mem_cons.2 ⟨(Or.inr (Nat.le_trans (Below.size (kept_trans Kk13.out (kept_trans Kk21.out (kept_trans Kk28.out (kept_trans Kk36.out (kept_trans Kk41.out Kk47.out)))))) HP163.out)), (fun _ h => nomatch h)⟩)) Gr.out.2.2.2.2.2 (par_grow HLrh.out KV181.out (List.forall_mem_cons.2 ⟨(Or.inr (Nat.le_trans (Below.size (kept_trans Kk13.out (kept_trans Kk21.out (kept_trans Kk28.out (kept_trans Kk36.out (kept_trans Kk41.out Kk47.out)))))) HP163.out)), (fun _ h => nomatch h)⟩)) (par_newg HN182.out (fun h => Nat.lt_irrefl _ (Nat.lt_of_lt_of_le (XL162.out _ h) (Nat.le_of_eq hg180)))))
              clear hg180
              (try clear hHeld)
              refine hK.out _ _ (sees_kept _ (kept_trans Kk155.out Kk177.out)) (fun hHeld => ?_)
              clear hK K
              (try simp only [Act.put, List.setIfInBounds_toArray, List.set_cons_zero, List.set_cons_succ])
              exact HJj49 W175 g179 g157 ⟨(kept_trans Kk155.out Kk177.out), HR183.out, (blk_at Hx154.out Kk177.out), HG161.out, (Nat.le_trans (Below.size (kept_refl _)) HP163.out), HD164.out, (xlt_later XL162.out Kk177.out)⟩
            exact AllReadyH.nil
          exact AllReadyH.nil
        · intro W108 U63 a60 c61 g112 k184
          obtain ⟨q185, q186, q187, q188, q189, q190, q191, q192⟩ := k184
          have Kk193 := Lib.hid q185
          have KV194 := Lib.hid (kept_trans (kept_trans Kk13.out (kept_trans Kk21.out (kept_trans Kk28.out (kept_trans Kk36.out (kept_trans Kk41.out Kk47.out))))) Kk193.out)
          have HU63 := Lib.hid q186
          have HL195 := Lib.hid q187
          have HX196 := Lib.hid q188
          have HG197 := Lib.hid q189
          have HP198 := Lib.hid q190
          have HD199 := Lib.hid q191
          have XL200 := Lib.hid q192
          clear q185 q186 q187 q188 q189 q190 q191 q192
          have hHeld : Sees W44 (w.heap.size + 4) W108 := sees_kept _ Kk193.out
          refine wpAnyH_ready (rs := [8, 19]) (by kernel_rfl) (by simp) ?_
          refine AllReadyH.cons (o := cReflr3_8) rfl (fun K hK => ?_) ?_
          · unfold cReflr3_8
            go_simp
            refine (cmake2_any 21 c r.y (Par w V0.heap.size (g112 :: []) P) _ (.slice ac c.kids.length cc) (.slice ary r.y.kids.length cry) (show I64 21 from by unfold I64; decide) Gc.out (par_grow HLc.out KV194.out (List.forall_mem_cons.2 ⟨(Or.inr (Nat.le_trans (Below.size (kept_trans Kk13.out (kept_trans Kk21.out (kept_trans Kk28.out (kept_trans Kk36.out (kept_trans Kk41.out Kk47.out)))))) HP198.out)), (fun _ h => nomatch h)⟩)) Gr.out.2.2.2.2.1 (par_grow HLry.out KV194.out (List.forall_mem_cons.2 ⟨(Or.inr (Nat.le_trans (Below.size (kept_trans Kk13.out (kept_trans Kk21.out (kept_trans Kk28.out (kept_trans Kk36.out (kept_trans Kk41.out Kk47.out)))))) HP198.out)), (fun _ h => nomatch h)⟩))).mono ?_
            obtain ⟨U208, hU208⟩ : ∃ qu, nodeT 21 [c, r.y] = qu := ⟨_, rfl⟩
            rw [hU208]
            have HU208 := Lib.hid hU208
            clear hU208
            rintro e w201 ⟨s203, rfl, hl204, k202⟩
            obtain ⟨a205, c206, S207, rfl, -⟩ := hl204.out
            have Kk209 := Lib.hid k202
            clear k202
            have Hhl204 : Hid (LiesQ w201 (Par w V0.heap.size (g112 :: []) P) U208.kids _) := par_give hl204 (Below.size KV194.out) XL200.out
            clear hl204
            (try clear hHeld)
            refine hK.out _ _ (sees_kept _ (kept_trans Kk193.out Kk209.out)) (fun hHeld => ?_)
            clear hK K
            (try simp only [Act.put, List.setIfInBounds_toArray, List.set_cons_zero, List.set_cons_succ])
            exact HJj52 w201 U63 a60 c61 U208 a205 c206 g112 ⟨(kept_trans Kk193.out Kk209.out), HU63.out, HU208.out, (HL195.out.later Kk209.out), Hhl204.out, (blk_at HX196.out Kk209.out), HG197.out, (Nat.le_trans (Below.size (kept_refl _)) HP198.out), HD199.out, (xlt_later XL200.out Kk209.out)⟩
          refine AllReadyH.cons (o := cReflr3_19) rfl (fun K hK => ?_) ?_
          · unfold cReflr3_19
            go_simp
            refine at_K (fun W211 hW211 => ?_)
            obtain ⟨g215, hg216, Kk213, Hx212, Hz214, KV217, HN218⟩ := alloc1v KV194.out hW211
            rw [hg216]
            clear hW211
            have HR219 := Lib.hid (q_row6 (Q := (Par w V0.heap.size (g112 :: []) P)) Hx212.out Ga.out (par_grow HLa.out KV217.out (List.forall_mem_cons.2 ⟨(Or.inr (Nat.le_trans (Below.size (kept_trans Kk13.out (kept_trans Kk21.out (kept_trans Kk28.out (kept_trans Kk36.out (kept_trans Kk41.out Kk47.out)))))) HP198.out)), (fun _ h => nomatch h)⟩)) Gc.out (par_grow HLc.out KV217.out (List.forall_mem_cons.2 ⟨(Or.inr (Nat.le_trans (Below.size (kept_trans Kk13.out (kept_trans Kk21.out (kept_trans Kk28.out (kept_trans Kk36.out (kept_trans Kk41.out Kk47.out)))))) HP198.out)), (fun _ h => nomatch h)⟩)) Ge.out (par_grow HLe.out KV217.out (List.forall_mem_cons.2 ⟨(Or.inr (Nat.le_trans (Below.size (kept_trans Kk13.out (kept_trans Kk21.out (kept_trans Kk28.out (kept_trans Kk36.out (kept_trans Kk41.out Kk47.out)))))) HP198.out)), (fun _ h => nomatch h)⟩)) Gr.out.2.2.2.1 (par_grow HLrx.out KV217.out (List.forall_mem_cons.2 ⟨(Or.inr (Nat.le_trans (Below.size (kept_trans Kk13.out (kept_trans Kk21.out (kept_trans Kk28.out (kept_trans Kk36.out (kept_trans Kk41.out Kk47.out)))))) HP198.out)), (fun _ h => nomatch h)⟩)) Gr.out.2.2.2.2.1 (par_grow HLry.out KV217.out (List.forall_mem_cons.2 ⟨(Or.inr (Nat.le_trans (Below.size (kept_trans Kk13.out (kept_trans Kk21.out (kept_trans Kk28.out (kept_trans Kk36.out (kept_trans Kk41.out Kk47.out)))))) HP198.out)), (fun _ h => nomatch h)⟩)) Gr.out.2.2.2.2.2 (par_grow HLrh.out KV217.out (List.forall_mem_cons.2 ⟨(Or.inr (Nat.le_trans (Below.size (kept_trans Kk13.out (kept_trans Kk21.out (kept_trans Kk28.out (kept_trans Kk36.out (kept_trans Kk41.out Kk47.out)))))) HP198.out)), (fun _ h => nomatch h)⟩)) (par_newg HN218.out (fun h => Nat.lt_irrefl _ (Nat.lt_of_lt_of_le (XL200.out _ h) (Nat.le_of_eq hg216)))))
            clear hg216
            (try clear hHeld)
            refine hK.out _ _ (sees_kept _ (kept_trans Kk193.out Kk213.out)) (fun hHeld => ?_)
            clear hK K
            (try simp only [Act.put, List.setIfInBounds_toArray, List.set_cons_zero, List.set_cons_succ])
            exact HJj51 W211 U63 a60 c61 g215 g112 ⟨(kept_trans Kk193.out Kk213.out), HU63.out, (HL195.out.later Kk213.out), HR219.out, (blk_at HX196.out Kk213.out), HG197.out, (Nat.le_trans (Below.size (kept_refl _)) HP198.out), HD199.out, (xlt_later XL200.out Kk213.out)⟩
          exact AllReadyH.nil
        · intro W140 g126 g144 k220
          obtain ⟨q221, q222, q223, q224, q225, q226, q227⟩ := k220
          have Kk228 := Lib.hid q221
          have KV229 := Lib.hid (kept_trans (kept_trans Kk13.out (kept_trans Kk21.out (kept_trans Kk28.out (kept_trans Kk36.out (kept_trans Kk41.out Kk47.out))))) Kk228.out)
          have HL230 := Lib.hid q222
          have HX231 := Lib.hid q223
          have HG232 := Lib.hid q224
          have HP233 := Lib.hid q225
          have HD234 := Lib.hid q226
          have XL235 := Lib.hid q227
          clear q221 q222 q223 q224 q225 q226 q227
          have hHeld : Sees W44 (w.heap.size + 4) W140 := sees_kept _ Kk228.out
          refine wpAnyH_ready (rs := [4]) (by kernel_rfl) (by simp) ?_
          refine AllReadyH.cons (o := cReflr3_4) rfl (fun K hK => ?_) ?_
          · unfold cReflr3_4
            go_simp
            refine (cmake2_any 21 a r.x (Par w V0.heap.size (g144 :: []) P) _ (.slice aa a.kids.length ca) (.slice arx r.x.kids.length crx) (show I64 21 from by unfold I64; decide) Ga.out (par_grow HLa.out KV229.out (List.forall_mem_cons.2 ⟨(Or.inr (Nat.le_trans (Below.size (kept_trans Kk13.out (kept_trans Kk21.out (kept_trans Kk28.out (kept_trans Kk36.out (kept_trans Kk41.out Kk47.out)))))) HP233.out)), (fun _ h => nomatch h)⟩)) Gr.out.2.2.2.1 (par_grow HLrx.out KV229.out (List.forall_mem_cons.2 ⟨(Or.inr (Nat.le_trans (Below.size (kept_trans Kk13.out (kept_trans Kk21.out (kept_trans Kk28.out (kept_trans Kk36.out (kept_trans Kk41.out Kk47.out)))))) HP233.out)), (fun _ h => nomatch h)⟩))).mono ?_
            obtain ⟨U243, hU243⟩ : ∃ qu, nodeT 21 [a, r.x] = qu := ⟨_, rfl⟩
            rw [hU243]
            have HU243 := Lib.hid hU243
            clear hU243
            rintro e w236 ⟨s238, rfl, hl239, k237⟩
            obtain ⟨a240, c241, S242, rfl, -⟩ := hl239.out
            have Kk244 := Lib.hid k237
            clear k237
            have Hhl239 : Hid (LiesQ w236 (Par w V0.heap.size (g144 :: []) P) U243.kids _) := par_give hl239 (Below.size KV229.out) XL235.out
            clear hl239
            (try clear hHeld)
            refine hK.out _ _ (sees_kept _ (kept_trans Kk228.out Kk244.out)) (fun hHeld => ?_)
            clear hK K
            (try simp only [Act.put, List.setIfInBounds_toArray, List.set_cons_zero, List.set_cons_succ])
            exact HJj51 w236 U243 a240 c241 g126 g144 ⟨(kept_trans Kk228.out Kk244.out), HU243.out, Hhl239.out, (HL230.out.later Kk244.out), (blk_at HX231.out Kk244.out), HG232.out, (Nat.le_trans (Below.size (kept_refl _)) HP233.out), HD234.out, (xlt_later XL235.out Kk244.out)⟩
          exact AllReadyH.nil
        · intro W99 U63 a60 c61 g103 k245
          obtain ⟨q246, q247, q248, q249⟩ := k245
          have Kk250 := Lib.hid q246
          have KV251 := Lib.hid (kept_trans (kept_trans Kk13.out (kept_trans Kk21.out (kept_trans Kk28.out (kept_trans Kk36.out (kept_trans Kk41.out Kk47.out))))) Kk250.out)
          have HU63 := Lib.hid q247
          have HL252 := Lib.hid q248
          have HL253 := Lib.hid q249
          clear q246 q247 q248 q249
          have hHeld : Sees W44 (w.heap.size + 4) W99 := sees_kept _ Kk250.out
          refine wpAnyH_ready (rs := [8, 22]) (by kernel_rfl) (by simp) ?_
          refine AllReadyH.cons (o := cReflr3_8) rfl (fun K hK => ?_) ?_
          · unfold cReflr3_8
            go_simp
            refine (cmake2_any 21 c r.y (Par w V0.heap.size [] P) _ (.slice ac c.kids.length cc) (.slice ary r.y.kids.length cry) (show I64 21 from by unfold I64; decide) Gc.out (HLc.out.later KV251.out) Gr.out.2.2.2.2.1 (HLry.out.later KV251.out)).mono ?_
            obtain ⟨U261, hU261⟩ : ∃ qu, nodeT 21 [c, r.y] = qu := ⟨_, rfl⟩
            rw [hU261]
            have HU261 := Lib.hid hU261
            clear hU261
            rintro e w254 ⟨s256, rfl, hl257, k255⟩
            obtain ⟨a258, c259, S260, rfl, -⟩ := hl257.out
            have Kk262 := Lib.hid k255
            clear k255
            have Hhl257 : Hid (LiesQ w254 (Par w V0.heap.size [] P) U261.kids _) := par_give hl257 (Below.size KV251.out) (xlt_nil _)
            clear hl257
            (try clear hHeld)
            refine hK.out _ _ (sees_kept _ (kept_trans Kk250.out Kk262.out)) (fun hHeld => ?_)
            clear hK K
            (try simp only [Act.put, List.setIfInBounds_toArray, List.set_cons_zero, List.set_cons_succ])
            exact HJj53 w254 U63 a60 c61 U261 a258 c259 g103 ⟨(kept_trans Kk250.out Kk262.out), HU63.out, HU261.out, (HL252.out.later Kk262.out), Hhl257.out, (HL253.out.later Kk262.out)⟩
          refine AllReadyH.cons (o := cReflr3_22) rfl (fun K hK => ?_) ?_
          · unfold cReflr3_22
            go_simp
            refine at_K (fun W263 hW263 => ?_)
            obtain ⟨g267, hg268, Kk265, Hx264, Hz266, KV269, HN270⟩ := alloc1v KV251.out hW263
            rw [hg268]
            clear hW263
            have HG271 : Hid (V0.heap.size ≤ g267) := (by show _ ≤ _; rw [← hg268]; exact (Below.size KV251.out))
            have XL272 : Hid (XLt (g267 :: []) W263) := (by show XLt _ _; rw [← hg268]; exact xlt_more (xlt_nil _) Kk265.out (by have := Hz266.out; omega))
            have HP273 : Hid (W99.heap.size ≤ g267) := (by show _ ≤ _; rw [← hg268]; exact Nat.le_refl _)
            have HD274 : Hid (W44.heap.size ≤ g267) := (by show _ ≤ _; rw [← hg268]; exact Below.size Kk250.out)
            clear hg268
            (try clear hHeld)
            refine hK.out _ _ (sees_kept _ (kept_trans Kk250.out Kk265.out)) (fun hHeld => ?_)
            clear hK K
            (try simp only [Act.put, List.setIfInBounds_toArray, List.set_cons_zero, List.set_cons_succ])
            have pg275 : ∀ (l : List Tm) (s : Value), LiesQ W99 (Par w V0.heap.size [] P) l s → LiesQ W263 (Par w V0.heap.size (g267 :: []) P) l s := fun _ _ h => par_grow h Kk265.out (List.forall_mem_cons.2 ⟨(Or.inr HP273.out), (fun _ h => nomatch h)⟩)
            exact HJj51 W263 U63 a60 c61 g103 g267 ⟨(kept_trans Kk250.out Kk265.out), HU63.out, (pg275 _ _ HL252.out), (pg275 _ _ HL253.out), Hx264.out, HG271.out, (Nat.le_trans (Below.size Kk250.out) HP273.out), HD274.out, XL272.out⟩
          exact AllReadyH.nil
        · intro W211 U63 a60 c61 g215 g112 k276
          obtain ⟨q277, q278, q279, q280, q281, q282, q283, q284, q285⟩ := k276
          have Kk286 := Lib.hid q277
          have KV287 := Lib.hid (kept_trans (kept_trans Kk13.out (kept_trans Kk21.out (kept_trans Kk28.out (kept_trans Kk36.out (kept_trans Kk41.out Kk47.out))))) Kk286.out)
          have HU63 := Lib.hid q278
          have HL288 := Lib.hid q279
          have HL289 := Lib.hid q280
          have HX290 := Lib.hid q281
          have HG291 := Lib.hid q282
          have HP292 := Lib.hid q283
          have HD293 := Lib.hid q284
          have XL294 := Lib.hid q285
          clear q277 q278 q279 q280 q281 q282 q283 q284 q285
          have hHeld : Sees W44 (w.heap.size + 4) W211 := sees_kept _ Kk286.out
          refine wpAnyH_ready (rs := [8]) (by kernel_rfl) (by simp) ?_
          refine AllReadyH.cons (o := cReflr3_8) rfl (fun K hK => ?_) ?_
          · unfold cReflr3_8
            go_simp
            refine (cmake2_any 21 c r.y (Par w V0.heap.size (g112 :: []) P) _ (.slice ac c.kids.length cc) (.slice ary r.y.kids.length cry) (show I64 21 from by unfold I64; decide) Gc.out (par_grow HLc.out KV287.out (List.forall_mem_cons.2 ⟨(Or.inr (Nat.le_trans (Below.size (kept_trans Kk13.out (kept_trans Kk21.out (kept_trans Kk28.out (kept_trans Kk36.out (kept_trans Kk41.out Kk47.out)))))) HP292.out)), (fun _ h => nomatch h)⟩)) Gr.out.2.2.2.2.1 (par_grow HLry.out KV287.out (List.forall_mem_cons.2 ⟨(Or.inr (Nat.le_trans (Below.size (kept_trans Kk13.out (kept_trans Kk21.out (kept_trans Kk28.out (kept_trans Kk36.out (kept_trans Kk41.out Kk47.out)))))) HP292.out)), (fun _ h => nomatch h)⟩))).mono ?_
            obtain ⟨U302, hU302⟩ : ∃ qu, nodeT 21 [c, r.y] = qu := ⟨_, rfl⟩
            rw [hU302]
            have HU302 := Lib.hid hU302
            clear hU302
            rintro e w295 ⟨s297, rfl, hl298, k296⟩
            obtain ⟨a299, c300, S301, rfl, -⟩ := hl298.out
            have Kk303 := Lib.hid k296
            clear k296
            have Hhl298 : Hid (LiesQ w295 (Par w V0.heap.size (g112 :: []) P) U302.kids _) := par_give hl298 (Below.size KV287.out) XL294.out
            clear hl298
            (try clear hHeld)
            refine hK.out _ _ (sees_kept _ (kept_trans Kk286.out Kk303.out)) (fun hHeld => ?_)
            clear hK K
            (try simp only [Act.put, List.setIfInBounds_toArray, List.set_cons_zero, List.set_cons_succ])
            exact HJj54 w295 U63 a60 c61 U302 a299 c300 g215 g112 ⟨(kept_trans Kk286.out Kk303.out), HU63.out, HU302.out, (HL288.out.later Kk303.out), Hhl298.out, (HL289.out.later Kk303.out), (blk_at HX290.out Kk303.out), HG291.out, (Nat.le_trans (Below.size (kept_refl _)) HP292.out), HD293.out, (xlt_later XL294.out Kk303.out)⟩
          exact AllReadyH.nil
        · intro W84 U63 a60 c61 U72 a69 c70 g88 k304
          obtain ⟨q305, q306, q307, q308, q309, q310, q311, q312, q313, q314⟩ := k304
          have Kk315 := Lib.hid q305
          have KV316 := Lib.hid (kept_trans (kept_trans Kk13.out (kept_trans Kk21.out (kept_trans Kk28.out (kept_trans Kk36.out (kept_trans Kk41.out Kk47.out))))) Kk315.out)
          have HU63 := Lib.hid q306
          have HU72 := Lib.hid q307
          have HL317 := Lib.hid q308
          have HL318 := Lib.hid q309
          have HX319 := Lib.hid q310
          have HG320 := Lib.hid q311
          have HP321 := Lib.hid q312
          have HD322 := Lib.hid q313
          have XL323 := Lib.hid q314
          clear q305 q306 q307 q308 q309 q310 q311 q312 q313 q314
          have hHeld : Sees W44 (w.heap.size + 4) W84 := sees_kept _ Kk315.out
          refine wpAnyH_ready (rs := [19]) (by kernel_rfl) (by simp) ?_
          refine AllReadyH.cons (o := cReflr3_19) rfl (fun K hK => ?_) ?_
          · unfold cReflr3_19
            go_simp
            refine at_K (fun W325 hW325 => ?_)
            obtain ⟨g329, hg330, Kk327, Hx326, Hz328, KV331, HN332⟩ := alloc1v KV316.out hW325
            rw [hg330]
            clear hW325
            have HR333 := Lib.hid (q_row6 (Q := (Par w V0.heap.size (g88 :: []) P)) Hx326.out Ga.out (par_grow HLa.out KV331.out (List.forall_mem_cons.2 ⟨(Or.inr (Nat.le_trans (Below.size (kept_trans Kk13.out (kept_trans Kk21.out (kept_trans Kk28.out (kept_trans Kk36.out (kept_trans Kk41.out Kk47.out)))))) HP321.out)), (fun _ h => nomatch h)⟩)) Gc.out (par_grow HLc.out KV331.out (List.forall_mem_cons.2 ⟨(Or.inr (Nat.le_trans (Below.size (kept_trans Kk13.out (kept_trans Kk21.out (kept_trans Kk28.out (kept_trans Kk36.out (kept_trans Kk41.out Kk47.out)))))) HP321.out)), (fun _ h => nomatch h)⟩)) Ge.out (par_grow HLe.out KV331.out (List.forall_mem_cons.2 ⟨(Or.inr (Nat.le_trans (Below.size (kept_trans Kk13.out (kept_trans Kk21.out (kept_trans Kk28.out (kept_trans Kk36.out (kept_trans Kk41.out Kk47.out)))))) HP321.out)), (fun _ h => nomatch h)⟩)) Gr.out.2.2.2.1 (par_grow HLrx.out KV331.out (List.forall_mem_cons.2 ⟨(Or.inr (Nat.le_trans (Below.size (kept_trans Kk13.out (kept_trans Kk21.out (kept_trans Kk28.out (kept_trans Kk36.out (kept_trans Kk41.out Kk47.out)))))) HP321.out)), (fun _ h => nomatch h)⟩)) Gr.out.2.2.2.2.1 (par_grow HLry.out KV331.out (List.forall_mem_cons.2 ⟨(Or.inr (Nat.le_trans (Below.size (kept_trans Kk13.out (kept_trans Kk21.out (kept_trans Kk28.out (kept_trans Kk36.out (kept_trans Kk41.out Kk47.out)))))) HP321.out)), (fun _ h => nomatch h)⟩)) Gr.out.2.2.2.2.2 (par_grow HLrh.out KV331.out (List.forall_mem_cons.2 ⟨(Or.inr (Nat.le_trans (Below.size (kept_trans Kk13.out (kept_trans Kk21.out (kept_trans Kk28.out (kept_trans Kk36.out (kept_trans Kk41.out Kk47.out)))))) HP321.out)), (fun _ h => nomatch h)⟩)) (par_newg HN332.out (fun h => Nat.lt_irrefl _ (Nat.lt_of_lt_of_le (XL323.out _ h) (Nat.le_of_eq hg330)))))
            clear hg330
            (try clear hHeld)
            refine hK.out _ _ (sees_kept _ (kept_trans Kk315.out Kk327.out)) (fun hHeld => ?_)
            clear hK K
            (try simp only [Act.put, List.setIfInBounds_toArray, List.set_cons_zero, List.set_cons_succ])
            exact HJj54 W325 U63 a60 c61 U72 a69 c70 g329 g88 ⟨(kept_trans Kk315.out Kk327.out), HU63.out, HU72.out, (HL317.out.later Kk327.out), (HL318.out.later Kk327.out), HR333.out, (blk_at HX319.out Kk327.out), HG320.out, (Nat.le_trans (Below.size (kept_refl _)) HP321.out), HD322.out, (xlt_later XL323.out Kk327.out)⟩
          exact AllReadyH.nil
        · intro W75 U63 a60 c61 U72 a69 c70 g79 k334
          obtain ⟨q335, q336, q337, q338, q339, q340⟩ := k334
          have Kk341 := Lib.hid q335
          have KV342 := Lib.hid (kept_trans (kept_trans Kk13.out (kept_trans Kk21.out (kept_trans Kk28.out (kept_trans Kk36.out (kept_trans Kk41.out Kk47.out))))) Kk341.out)
          have HU63 := Lib.hid q336
          have HU72 := Lib.hid q337
          have HL343 := Lib.hid q338
          have HL344 := Lib.hid q339
          have HL345 := Lib.hid q340
          clear q335 q336 q337 q338 q339 q340
          have hHeld : Sees W44 (w.heap.size + 4) W75 := sees_kept _ Kk341.out
          refine wpAnyH_ready (rs := [20, 22]) (by kernel_rfl) (by simp) ?_
          refine AllReadyH.cons (o := cReflr3_20) rfl (fun K hK => ?_) ?_
          · unfold cReflr3_20
            go_simp
            refine (cuse_any 21 i 0 [a, c, e, r.x, r.y, r.h] (Par w V0.heap.size [] P) _ (.slice (some ⟨g79, 0, none⟩) 6 6) (show I64 21 from by unfold I64; decide) Ri.out (show I64 0 from by unfold I64; decide) HL345.out (List.forall_mem_cons.2 ⟨(plainL_iff.1 Hhb26.out _ (by simp)), (List.forall_mem_cons.2 ⟨(plainL_iff.1 Hhb26.out _ (by simp)), (List.forall_mem_cons.2 ⟨(plainL_iff.1 Hhb26.out _ (by simp)), (List.forall_mem_cons.2 ⟨(toldB_pl Hhb39.out _ (by simp)), (List.forall_mem_cons.2 ⟨(toldB_pl Hhb39.out _ (by simp)), (List.forall_mem_cons.2 ⟨(toldB_pl Hhb39.out _ (by simp)), (fun _ h => nomatch h)⟩)⟩)⟩)⟩)⟩)⟩) (Nat.le_of_ble_eq_true rfl)).mono ?_
            obtain ⟨U353, hU353⟩ : ∃ qu, useT 21 i 0 [a, c, e, r.x, r.y, r.h] = qu := ⟨_, rfl⟩
            rw [hU353]
            have HU353 := Lib.hid hU353
            clear hU353
            rintro e w346 ⟨s348, rfl, hl349, k347⟩
            obtain ⟨a350, c351, S352, rfl, -⟩ := hl349.out
            have Kk354 := Lib.hid k347
            clear k347
            have Hhl349 : Hid (LiesQ w346 (Par w V0.heap.size [] P) U353.kids _) := par_give hl349 (Below.size KV342.out) (xlt_nil _)
            clear hl349
            (try clear hHeld)
            refine hK.out _ _ (sees_kept _ (kept_trans Kk341.out Kk354.out)) (fun hHeld => ?_)
            clear hK K
            (try simp only [Act.put, List.setIfInBounds_toArray, List.set_cons_zero, List.set_cons_succ])
            refine take_at 21 51 cReflr3_21 (v := ?_) (Or.inl ⟨by rfl, ?_⟩) ?_
            rotate_left 1
            · ((intro w hSw; (try dsimp only at hSw); unfold cReflr3_21; go_simp) <;> with_reducible rfl)
            (try simp only [Act.put, List.setIfInBounds_toArray, List.set_cons_zero, List.set_cons_succ])
            refine wpAnyH_ready (rs := [22]) (by kernel_rfl) (by simp) ?_
            refine AllReadyH.cons (o := cReflr3_22) rfl (fun K hK => ?_) ?_
            · unfold cReflr3_22
              go_simp
              refine at_K (fun W355 hW355 => ?_)
              obtain ⟨g359, hg360, Kk357, Hx356, Hz358, KV361, HN362⟩ := alloc1v (kept_trans Kk13.out (kept_trans Kk21.out (kept_trans Kk28.out (kept_trans Kk36.out (kept_trans Kk41.out (kept_trans Kk47.out (kept_trans Kk341.out Kk354.out))))))) hW355
              rw [hg360]
              clear hW355
              have HG363 : Hid (V0.heap.size ≤ g359) := (by show _ ≤ _; rw [← hg360]; exact (Below.size (kept_trans Kk13.out (kept_trans Kk21.out (kept_trans Kk28.out (kept_trans Kk36.out (kept_trans Kk41.out (kept_trans Kk47.out (kept_trans Kk341.out Kk354.out)))))))))
              have XL364 : Hid (XLt (g359 :: []) W355) := (by show XLt _ _; rw [← hg360]; exact xlt_more (xlt_nil _) Kk357.out (by have := Hz358.out; omega))
              have HP365 : Hid (w346.heap.size ≤ g359) := (by show _ ≤ _; rw [← hg360]; exact Nat.le_refl _)
              have HD366 : Hid (W44.heap.size ≤ g359) := (by show _ ≤ _; rw [← hg360]; exact Below.size (kept_trans Kk341.out Kk354.out))
              clear hg360
              (try clear hHeld)
              refine hK.out _ _ (sees_kept _ (kept_trans Kk341.out (kept_trans Kk354.out Kk357.out))) (fun hHeld => ?_)
              clear hK K
              (try simp only [Act.put, List.setIfInBounds_toArray, List.set_cons_zero, List.set_cons_succ])
              have pg367 : ∀ (l : List Tm) (s : Value), LiesQ W75 (Par w V0.heap.size [] P) l s → LiesQ W355 (Par w V0.heap.size (g359 :: []) P) l s := fun _ _ h => par_grow h (kept_trans Kk354.out Kk357.out) (List.forall_mem_cons.2 ⟨(Or.inr (Nat.le_trans (Below.size Kk354.out) HP365.out)), (fun _ h => nomatch h)⟩)
              have pg368 : ∀ (l : List Tm) (s : Value), LiesQ w346 (Par w V0.heap.size [] P) l s → LiesQ W355 (Par w V0.heap.size (g359 :: []) P) l s := fun _ _ h => par_grow h Kk357.out (List.forall_mem_cons.2 ⟨(Or.inr HP365.out), (fun _ h => nomatch h)⟩)
              exact HJj55 W355 U63 a60 c61 U72 a69 c70 g79 U353 a350 c351 g359 ⟨(kept_trans Kk341.out (kept_trans Kk354.out Kk357.out)), HU63.out, HU72.out, HU353.out, (pg367 _ _ HL343.out), (pg367 _ _ HL344.out), (pg368 _ _ Hhl349.out), Hx356.out, HG363.out, (Nat.le_trans (Below.size (kept_trans Kk341.out Kk354.out)) HP365.out), HD366.out, XL364.out⟩
            exact AllReadyH.nil
          refine AllReadyH.cons (o := cReflr3_22) rfl (fun K hK => ?_) ?_
          · unfold cReflr3_22
            go_simp
            refine at_K (fun W369 hW369 => ?_)
            obtain ⟨g373, hg374, Kk371, Hx370, Hz372, KV375, HN376⟩ := alloc1v KV342.out hW369
            rw [hg374]
            clear hW369
            have HG377 : Hid (V0.heap.size ≤ g373) := (by show _ ≤ _; rw [← hg374]; exact (Below.size KV342.out))
            have XL378 : Hid (XLt (g373 :: []) W369) := (by show XLt _ _; rw [← hg374]; exact xlt_more (xlt_nil _) Kk371.out (by have := Hz372.out; omega))
            have HP379 : Hid (W75.heap.size ≤ g373) := (by show _ ≤ _; rw [← hg374]; exact Nat.le_refl _)
            have HD380 : Hid (W44.heap.size ≤ g373) := (by show _ ≤ _; rw [← hg374]; exact Below.size Kk341.out)
            clear hg374
            (try clear hHeld)
            refine hK.out _ _ (sees_kept _ (kept_trans Kk341.out Kk371.out)) (fun hHeld => ?_)
            clear hK K
            (try simp only [Act.put, List.setIfInBounds_toArray, List.set_cons_zero, List.set_cons_succ])
            have pg381 : ∀ (l : List Tm) (s : Value), LiesQ W75 (Par w V0.heap.size [] P) l s → LiesQ W369 (Par w V0.heap.size (g373 :: []) P) l s := fun _ _ h => par_grow h Kk371.out (List.forall_mem_cons.2 ⟨(Or.inr HP379.out), (fun _ h => nomatch h)⟩)
            exact HJj54 W369 U63 a60 c61 U72 a69 c70 g79 g373 ⟨(kept_trans Kk341.out Kk371.out), HU63.out, HU72.out, (pg381 _ _ HL343.out), (pg381 _ _ HL344.out), (pg381 _ _ HL345.out), Hx370.out, HG377.out, (Nat.le_trans (Below.size Kk341.out) HP379.out), HD380.out, XL378.out⟩
          exact AllReadyH.nil
        · intro w295 U63 a60 c61 U302 a299 c300 g215 g112 k382
          obtain ⟨q383, q384, q385, q386, q387, q388, q389, q390, q391, q392, q393⟩ := k382
          have Kk394 := Lib.hid q383
          have KV395 := Lib.hid (kept_trans (kept_trans Kk13.out (kept_trans Kk21.out (kept_trans Kk28.out (kept_trans Kk36.out (kept_trans Kk41.out Kk47.out))))) Kk394.out)
          have HU63 := Lib.hid q384
          have HU302 := Lib.hid q385
          have HL396 := Lib.hid q386
          have HL397 := Lib.hid q387
          have HL398 := Lib.hid q388
          have HX399 := Lib.hid q389
          have HG400 := Lib.hid q390
          have HP401 := Lib.hid q391
          have HD402 := Lib.hid q392
          have XL403 := Lib.hid q393
          clear q383 q384 q385 q386 q387 q388 q389 q390 q391 q392 q393
          have hHeld : Sees W44 (w.heap.size + 4) w295 := sees_kept _ Kk394.out
          refine wpAnyH_ready (rs := [20]) (by kernel_rfl) (by simp) ?_
          refine AllReadyH.cons (o := cReflr3_20) rfl (fun K hK => ?_) ?_
          · unfold cReflr3_20
            go_simp
            refine (cuse_any 21 i 0 [a, c, e, r.x, r.y, r.h] (Par w V0.heap.size (g112 :: []) P) _ (.slice (some ⟨g215, 0, none⟩) 6 6) (show I64 21 from by unfold I64; decide) Ri.out (show I64 0 from by unfold I64; decide) HL398.out (List.forall_mem_cons.2 ⟨(plainL_iff.1 Hhb26.out _ (by simp)), (List.forall_mem_cons.2 ⟨(plainL_iff.1 Hhb26.out _ (by simp)), (List.forall_mem_cons.2 ⟨(plainL_iff.1 Hhb26.out _ (by simp)), (List.forall_mem_cons.2 ⟨(toldB_pl Hhb39.out _ (by simp)), (List.forall_mem_cons.2 ⟨(toldB_pl Hhb39.out _ (by simp)), (List.forall_mem_cons.2 ⟨(toldB_pl Hhb39.out _ (by simp)), (fun _ h => nomatch h)⟩)⟩)⟩)⟩)⟩)⟩) (Nat.le_of_ble_eq_true rfl)).mono ?_
            obtain ⟨U411, hU411⟩ : ∃ qu, useT 21 i 0 [a, c, e, r.x, r.y, r.h] = qu := ⟨_, rfl⟩
            rw [hU411]
            have HU411 := Lib.hid hU411
            clear hU411
            rintro e w404 ⟨s406, rfl, hl407, k405⟩
            obtain ⟨a408, c409, S410, rfl, -⟩ := hl407.out
            have Kk412 := Lib.hid k405
            clear k405
            have Hhl407 : Hid (LiesQ w404 (Par w V0.heap.size (g112 :: []) P) U411.kids _) := par_give hl407 (Below.size KV395.out) XL403.out
            clear hl407
            (try clear hHeld)
            refine hK.out _ _ (sees_kept _ (kept_trans Kk394.out Kk412.out)) (fun hHeld => ?_)
            clear hK K
            (try simp only [Act.put, List.setIfInBounds_toArray, List.set_cons_zero, List.set_cons_succ])
            refine take_at 21 51 cReflr3_21 (v := ?_) (Or.inl ⟨by rfl, ?_⟩) ?_
            rotate_left 1
            · ((intro w hSw; (try dsimp only at hSw); unfold cReflr3_21; go_simp) <;> with_reducible rfl)
            (try simp only [Act.put, List.setIfInBounds_toArray, List.set_cons_zero, List.set_cons_succ])
            exact HJj55 w404 U63 a60 c61 U302 a299 c300 g215 U411 a408 c409 g112 ⟨(kept_trans Kk394.out Kk412.out), HU63.out, HU302.out, HU411.out, (HL396.out.later Kk412.out), (HL397.out.later Kk412.out), Hhl407.out, (blk_at HX399.out Kk412.out), HG400.out, (Nat.le_trans (Below.size (kept_refl _)) HP401.out), HD402.out, (xlt_later XL403.out Kk412.out)⟩
          exact AllReadyH.nil
        · intro W355 U63 a60 c61 U72 a69 c70 g79 U353 a350 c351 g359 k413
          obtain ⟨q414, q415, q416, q417, q418, q419, q420, q421, q422, q423, q424, q425⟩ := k413
          have Kk426 := Lib.hid q414
          have KV427 := Lib.hid (kept_trans (kept_trans Kk13.out (kept_trans Kk21.out (kept_trans Kk28.out (kept_trans Kk36.out (kept_trans Kk41.out Kk47.out))))) Kk426.out)
          have HU63 := Lib.hid q415
          have HU72 := Lib.hid q416
          have HU353 := Lib.hid q417
          have HL428 := Lib.hid q418
          have HL429 := Lib.hid q419
          have HL430 := Lib.hid q420
          have HX431 := Lib.hid q421
          have HG432 := Lib.hid q422
          have HP433 := Lib.hid q423
          have HD434 := Lib.hid q424
          have XL435 := Lib.hid q425
          clear q414 q415 q416 q417 q418 q419 q420 q421 q422 q423 q424 q425
          have hHeld : Sees W44 (w.heap.size + 4) W355 := sees_kept _ Kk426.out
          refine wpAnyH_ready (rs := [23]) (by kernel_rfl) (by simp) ?_
          refine AllReadyH.cons (o := cReflr3_23) rfl (fun K hK => ?_) ?_
          · unfold cReflr3_23
            refine step_store_part rfl 51 (.tmp 11) (.tmp 51) rfl (g359) 0 #[.int .i64 i, .int .i64 0, .int .i64 0, .int .i64 0, .int .i64 0, .slice none 0 0, .int .i64 0, .int .i64 0, .int .i64 0, .int .i64 0, .slice none 0 0, .int .i64 U63.k, .int .i64 U63.i, .int .i64 U63.j, .int .i64 U63.n, (.slice a60 U63.kids.length c61), .int .i64 U72.k, .int .i64 U72.i, .int .i64 U72.j, .int .i64 U72.n, (.slice a69 U72.kids.length c70), .int .i64 U353.k, .int .i64 U353.i, .int .i64 U353.j, .int .i64 U353.n, (.slice a350 U353.kids.length c351)] rfl rfl 51 (by kernel_rfl) (row_ok rfl) _ #[.int .i64 i, .int .i64 0, .int .i64 0, .int .i64 0, .int .i64 0, .slice none 0 0, .int .i64 0, .int .i64 0, .int .i64 0, .int .i64 0, .slice none 0 0, .int .i64 U63.k, .int .i64 U63.i, .int .i64 U63.j, .int .i64 U63.n, (.slice a60 U63.kids.length c61), .int .i64 U72.k, .int .i64 U72.i, .int .i64 U72.j, .int .i64 U72.n, (.slice a69 U72.kids.length c70), .int .i64 U353.k, .int .i64 U353.i, .int .i64 U353.j, .int .i64 U353.n, (.slice a350 U353.kids.length c351)] HX431.out rfl (Nat.le_of_ble_eq_true rfl) ?_
            intro W436 hW436
            have KB437 := Lib.hid (kept_set (kept_trans Kk8.out (kept_trans Kk13.out (kept_trans Kk21.out (kept_trans Kk28.out (kept_trans Kk36.out (kept_trans Kk41.out (kept_trans Kk47.out Kk426.out))))))) hW436 (by have := HG432.out; have := Z0.out; omega))
            have KB438 := Lib.hid (kept_set KV427.out hW436 HG432.out)
            have KB439 := Lib.hid (kept_set Kk426.out hW436 HD434.out)
            have HL440 : Hid (LiesQ W436 (Par w V0.heap.size (g359 :: []) P) a.kids _) := par_set (par_grow HLa.out KV427.out (List.forall_mem_cons.2 ⟨(Or.inr (Nat.le_trans (Below.size (kept_trans Kk13.out (kept_trans Kk21.out (kept_trans Kk28.out (kept_trans Kk36.out (kept_trans Kk41.out Kk47.out)))))) HP433.out)), (fun _ h => nomatch h)⟩)) hW436 (List.mem_cons_self ..) (by have := HG432.out; have := Z0.out; omega)
            have HL441 : Hid (LiesQ W436 (Par w V0.heap.size (g359 :: []) P) c.kids _) := par_set (par_grow HLc.out KV427.out (List.forall_mem_cons.2 ⟨(Or.inr (Nat.le_trans (Below.size (kept_trans Kk13.out (kept_trans Kk21.out (kept_trans Kk28.out (kept_trans Kk36.out (kept_trans Kk41.out Kk47.out)))))) HP433.out)), (fun _ h => nomatch h)⟩)) hW436 (List.mem_cons_self ..) (by have := HG432.out; have := Z0.out; omega)
            have HL442 : Hid (LiesQ W436 (Par w V0.heap.size (g359 :: []) P) e.kids _) := par_set (par_grow HLe.out KV427.out (List.forall_mem_cons.2 ⟨(Or.inr (Nat.le_trans (Below.size (kept_trans Kk13.out (kept_trans Kk21.out (kept_trans Kk28.out (kept_trans Kk36.out (kept_trans Kk41.out Kk47.out)))))) HP433.out)), (fun _ h => nomatch h)⟩)) hW436 (List.mem_cons_self ..) (by have := HG432.out; have := Z0.out; omega)
            have HL443 : Hid (LiesQ W436 (Par w V0.heap.size (g359 :: []) P) r.a.kids _) := par_set (par_grow HLra.out KV427.out (List.forall_mem_cons.2 ⟨(Or.inr (Nat.le_trans (Below.size (kept_trans Kk13.out (kept_trans Kk21.out (kept_trans Kk28.out (kept_trans Kk36.out (kept_trans Kk41.out Kk47.out)))))) HP433.out)), (fun _ h => nomatch h)⟩)) hW436 (List.mem_cons_self ..) (by have := HG432.out; have := Z0.out; omega)
            have HL444 : Hid (LiesQ W436 (Par w V0.heap.size (g359 :: []) P) r.b.kids _) := par_set (par_grow HLrb.out KV427.out (List.forall_mem_cons.2 ⟨(Or.inr (Nat.le_trans (Below.size (kept_trans Kk13.out (kept_trans Kk21.out (kept_trans Kk28.out (kept_trans Kk36.out (kept_trans Kk41.out Kk47.out)))))) HP433.out)), (fun _ h => nomatch h)⟩)) hW436 (List.mem_cons_self ..) (by have := HG432.out; have := Z0.out; omega)
            have HL445 : Hid (LiesQ W436 (Par w V0.heap.size (g359 :: []) P) r.x.kids _) := par_set (par_grow HLrx.out KV427.out (List.forall_mem_cons.2 ⟨(Or.inr (Nat.le_trans (Below.size (kept_trans Kk13.out (kept_trans Kk21.out (kept_trans Kk28.out (kept_trans Kk36.out (kept_trans Kk41.out Kk47.out)))))) HP433.out)), (fun _ h => nomatch h)⟩)) hW436 (List.mem_cons_self ..) (by have := HG432.out; have := Z0.out; omega)
            have HL446 : Hid (LiesQ W436 (Par w V0.heap.size (g359 :: []) P) r.y.kids _) := par_set (par_grow HLry.out KV427.out (List.forall_mem_cons.2 ⟨(Or.inr (Nat.le_trans (Below.size (kept_trans Kk13.out (kept_trans Kk21.out (kept_trans Kk28.out (kept_trans Kk36.out (kept_trans Kk41.out Kk47.out)))))) HP433.out)), (fun _ h => nomatch h)⟩)) hW436 (List.mem_cons_self ..) (by have := HG432.out; have := Z0.out; omega)
            have HL447 : Hid (LiesQ W436 (Par w V0.heap.size (g359 :: []) P) r.h.kids _) := par_set (par_grow HLrh.out KV427.out (List.forall_mem_cons.2 ⟨(Or.inr (Nat.le_trans (Below.size (kept_trans Kk13.out (kept_trans Kk21.out (kept_trans Kk28.out (kept_trans Kk36.out (kept_trans Kk41.out Kk47.out)))))) HP433.out)), (fun _ h => nomatch h)⟩)) hW436 (List.mem_cons_self ..) (by have := HG432.out; have := Z0.out; omega)
            have HL448 : Hid (LiesQ W436 (Par w V0.heap.size (g359 :: []) P) [a, c, e] _) := par_set (par_grow HR22.out (kept_trans Kk28.out (kept_trans Kk36.out (kept_trans Kk41.out (kept_trans Kk47.out Kk426.out)))) (List.forall_mem_cons.2 ⟨(Or.inr (Nat.le_trans (Below.size (kept_trans Kk28.out (kept_trans Kk36.out (kept_trans Kk41.out Kk47.out)))) HP433.out)), (fun _ h => nomatch h)⟩)) hW436 (List.mem_cons_self ..) (by have := HG432.out; have := Z0.out; omega)
            have HL449 : Hid (LiesQ W436 (Par w V0.heap.size (g359 :: []) P) U63.kids _) := par_set HL428.out hW436 (List.mem_cons_self ..) (by have := HG432.out; have := Z0.out; omega)
            have HL450 : Hid (LiesQ W436 (Par w V0.heap.size (g359 :: []) P) U72.kids _) := par_set HL429.out hW436 (List.mem_cons_self ..) (by have := HG432.out; have := Z0.out; omega)
            have HL451 : Hid (LiesQ W436 (Par w V0.heap.size (g359 :: []) P) U353.kids _) := par_set HL430.out hW436 (List.mem_cons_self ..) (by have := HG432.out; have := Z0.out; omega)
            have XL452 := Lib.hid (xlt_set XL435.out hW436)
            have HX453 := Lib.hid (blk_same HX431.out hW436)
            clear hW436
            clear hHeld
            refine hK.out _ _ (sees_kept _ KB439.out) (fun hHeld => ?_)
            clear hK K
            (try simp only [Act.put])
            refine wpAnyH_done (by kernel_rfl) ?_ _
            clear hHeld
            have kvV0 : Sees V0 (w.heap.size + 4) W436 := sees_kept _ KB438.out
            have kvW436 : Sees W436 (w.heap.size + 4) W436 := sees_kept _ (kept_refl _)
            go_wp2_with (refine stop_load 32 (.tmp 6) rfl ?_)
            intro _
            refine wpList_load_part (w.heap.size) 0 32 (.tmp 6) #[.int .i64 a.k, .int .i64 a.i, .int .i64 a.j, .int .i64 a.n, (.slice aa a.kids.length ca)] du (blk_at Hx1.out KB438.out) (by rfl) rfl (by rfl) (by rfl) hu1 (by cases du <;> first | rfl | exact hu2) size_term ?_
            go_wp2_with (refine stop_load 32 (.tmp 53) rfl ?_)
            intro _
            refine wpList_load_part (w.heap.size + 3) 11 32 (.tmp 53) #[.int .i64 r.x.k, .int .i64 r.x.i, .int .i64 r.x.j, .int .i64 r.x.n, (.slice arx r.x.kids.length crx)] du (blk_at Hx4.out KB438.out) (by rfl) rfl (by rfl) (by rfl) hu1 (by cases du <;> first | rfl | exact hu2) size_term ?_
            go_wp2_with (refine stop_load 32 (.tmp 55) rfl ?_)
            intro _
            refine wpList_load_part (w.heap.size + 3) 11 32 (.tmp 55) #[.int .i64 r.x.k, .int .i64 r.x.i, .int .i64 r.x.j, .int .i64 r.x.n, (.slice arx r.x.kids.length crx)] du (blk_at Hx4.out KB438.out) (by rfl) rfl (by rfl) (by rfl) hu1 (by cases du <;> first | rfl | exact hu2) size_term ?_
            go_wp2_with (refine stop_store 32 (.tmp 59) (.tmp 58) rfl ?_)
            intro _
            refine wpList_store_part_n (by rfl) 32 (.tmp 59) (.tmp 58) rfl (g359) 1 #[.int .i64 20, .int .i64 0, .int .i64 0, .int .i64 0, (.slice (some ⟨W436.heap.size, 0, none⟩) 3 3)] (by rfl) (by rfl) 51 size_term (row_ok rfl) ?_
            intro W455 hW455
            clear kvV0
            clear kvW436
            obtain ⟨k458, x457, z459⟩ := alloc1 hW455
            have Kk460 := Lib.hid k458
            clear k458
            have Hx457 := Lib.hid x457
            have Hz459 := Lib.hid z459
            clear x457 z459 hW455
            have HR461 := Lib.hid (q_row3 (Q := (Par w V0.heap.size (g359 :: []) P)) Hx457.out Ga.out (HL440.out.later Kk460.out) Gr.out.2.2.2.1 (HL445.out.later Kk460.out) Gr.out.2.2.2.1 (HL445.out.later Kk460.out) (par_new (Below.size KB438.out) XL452.out (Nat.le_refl _)))
            refine ⟨_, #[.int .i64 i, .int .i64 20, .int .i64 0, .int .i64 0, .int .i64 0, (.slice (some ⟨W436.heap.size, 0, none⟩) 3 3), .int .i64 0, .int .i64 0, .int .i64 0, .int .i64 0, .slice none 0 0, .int .i64 U63.k, .int .i64 U63.i, .int .i64 U63.j, .int .i64 U63.n, (.slice a60 U63.kids.length c61), .int .i64 U72.k, .int .i64 U72.i, .int .i64 U72.j, .int .i64 U72.n, (.slice a69 U72.kids.length c70), .int .i64 U353.k, .int .i64 U353.i, .int .i64 U353.j, .int .i64 U353.n, (.slice a350 U353.kids.length c351)], (blk_at HX453.out Kk460.out), rfl, Nat.le_of_ble_eq_true rfl, ?_⟩
            intro W456 hW456
            have KB462 := Lib.hid (kept_set (kept_trans KB437.out Kk460.out) hW456 (by have := HG432.out; have := Z0.out; omega))
            have KB463 := Lib.hid (kept_set (kept_trans KB438.out Kk460.out) hW456 HG432.out)
            have HL464 : Hid (LiesQ W456 (Par w V0.heap.size (g359 :: []) P) a.kids _) := par_set (HL440.out.later Kk460.out) hW456 (List.mem_cons_self ..) (by have := HG432.out; have := Z0.out; omega)
            have HL465 : Hid (LiesQ W456 (Par w V0.heap.size (g359 :: []) P) c.kids _) := par_set (HL441.out.later Kk460.out) hW456 (List.mem_cons_self ..) (by have := HG432.out; have := Z0.out; omega)
            have HL466 : Hid (LiesQ W456 (Par w V0.heap.size (g359 :: []) P) e.kids _) := par_set (HL442.out.later Kk460.out) hW456 (List.mem_cons_self ..) (by have := HG432.out; have := Z0.out; omega)
            have HL467 : Hid (LiesQ W456 (Par w V0.heap.size (g359 :: []) P) r.a.kids _) := par_set (HL443.out.later Kk460.out) hW456 (List.mem_cons_self ..) (by have := HG432.out; have := Z0.out; omega)
            have HL468 : Hid (LiesQ W456 (Par w V0.heap.size (g359 :: []) P) r.b.kids _) := par_set (HL444.out.later Kk460.out) hW456 (List.mem_cons_self ..) (by have := HG432.out; have := Z0.out; omega)
            have HL469 : Hid (LiesQ W456 (Par w V0.heap.size (g359 :: []) P) r.x.kids _) := par_set (HL445.out.later Kk460.out) hW456 (List.mem_cons_self ..) (by have := HG432.out; have := Z0.out; omega)
            have HL470 : Hid (LiesQ W456 (Par w V0.heap.size (g359 :: []) P) r.y.kids _) := par_set (HL446.out.later Kk460.out) hW456 (List.mem_cons_self ..) (by have := HG432.out; have := Z0.out; omega)
            have HL471 : Hid (LiesQ W456 (Par w V0.heap.size (g359 :: []) P) r.h.kids _) := par_set (HL447.out.later Kk460.out) hW456 (List.mem_cons_self ..) (by have := HG432.out; have := Z0.out; omega)
            have HL472 : Hid (LiesQ W456 (Par w V0.heap.size (g359 :: []) P) [a, c, e] _) := par_set (HL448.out.later Kk460.out) hW456 (List.mem_cons_self ..) (by have := HG432.out; have := Z0.out; omega)
            have HL473 : Hid (LiesQ W456 (Par w V0.heap.size (g359 :: []) P) U63.kids _) := par_set (HL449.out.later Kk460.out) hW456 (List.mem_cons_self ..) (by have := HG432.out; have := Z0.out; omega)
            have HL474 : Hid (LiesQ W456 (Par w V0.heap.size (g359 :: []) P) U72.kids _) := par_set (HL450.out.later Kk460.out) hW456 (List.mem_cons_self ..) (by have := HG432.out; have := Z0.out; omega)
            have HL475 : Hid (LiesQ W456 (Par w V0.heap.size (g359 :: []) P) U353.kids _) := par_set (HL451.out.later Kk460.out) hW456 (List.mem_cons_self ..) (by have := HG432.out; have := Z0.out; omega)
            have HL476 : Hid (LiesQ W456 (Par w V0.heap.size (g359 :: []) P) [a, r.x, r.x] _) := par_set HR461.out hW456 (List.mem_cons_self ..) (by have := HG432.out; have := Z0.out; omega)
            have XL477 := Lib.hid (xlt_set (xlt_later XL452.out Kk460.out) hW456)
            have HX478 := Lib.hid (blk_same (blk_at HX453.out Kk460.out) hW456)
            clear hW456
            have kvV0 : Sees V0 (w.heap.size + 4) W456 := sees_kept _ KB463.out
            have kvW456 : Sees W456 (w.heap.size + 4) W456 := sees_kept _ (kept_refl _)
            go_wp2_with (refine stop_load 32 (.tmp 7) rfl ?_)
            intro _
            refine wpList_load_part (w.heap.size + 1) 0 32 (.tmp 7) #[.int .i64 c.k, .int .i64 c.i, .int .i64 c.j, .int .i64 c.n, (.slice ac c.kids.length cc)] du (blk_at Hx2.out KB463.out) (by rfl) rfl (by rfl) (by rfl) hu1 (by cases du <;> first | rfl | exact hu2) size_term ?_
            go_wp2_with (refine stop_load 32 (.tmp 61) rfl ?_)
            intro _
            refine wpList_load_part (w.heap.size + 3) 16 32 (.tmp 61) #[.int .i64 r.y.k, .int .i64 r.y.i, .int .i64 r.y.j, .int .i64 r.y.n, (.slice ary r.y.kids.length cry)] du (blk_at Hx4.out KB463.out) (by rfl) rfl (by rfl) (by rfl) hu1 (by cases du <;> first | rfl | exact hu2) size_term ?_
            go_wp2_with (refine stop_load 32 (.tmp 63) rfl ?_)
            intro _
            refine wpList_load_part (w.heap.size + 3) 16 32 (.tmp 63) #[.int .i64 r.y.k, .int .i64 r.y.i, .int .i64 r.y.j, .int .i64 r.y.n, (.slice ary r.y.kids.length cry)] du (blk_at Hx4.out KB463.out) (by rfl) rfl (by rfl) (by rfl) hu1 (by cases du <;> first | rfl | exact hu2) size_term ?_
            go_wp2_with (refine stop_store 32 (.tmp 67) (.tmp 66) rfl ?_)
            intro _
            refine wpList_store_part_n (by rfl) 32 (.tmp 67) (.tmp 66) rfl (g359) 6 #[.int .i64 20, .int .i64 0, .int .i64 0, .int .i64 0, (.slice (some ⟨W456.heap.size, 0, none⟩) 3 3)] (by rfl) (by rfl) 51 size_term (row_ok rfl) ?_
            intro W480 hW480
            clear kvV0
            clear kvW456
            obtain ⟨k483, x482, z484⟩ := alloc1 hW480
            have Kk485 := Lib.hid k483
            clear k483
            have Hx482 := Lib.hid x482
            have Hz484 := Lib.hid z484
            clear x482 z484 hW480
            have HR486 := Lib.hid (q_row3 (Q := (Par w V0.heap.size (g359 :: []) P)) Hx482.out Gc.out (HL465.out.later Kk485.out) Gr.out.2.2.2.2.1 (HL470.out.later Kk485.out) Gr.out.2.2.2.2.1 (HL470.out.later Kk485.out) (par_new (Below.size KB463.out) XL477.out (Nat.le_refl _)))
            refine ⟨_, #[.int .i64 i, .int .i64 20, .int .i64 0, .int .i64 0, .int .i64 0, (.slice (some ⟨W436.heap.size, 0, none⟩) 3 3), .int .i64 20, .int .i64 0, .int .i64 0, .int .i64 0, (.slice (some ⟨W456.heap.size, 0, none⟩) 3 3), .int .i64 U63.k, .int .i64 U63.i, .int .i64 U63.j, .int .i64 U63.n, (.slice a60 U63.kids.length c61), .int .i64 U72.k, .int .i64 U72.i, .int .i64 U72.j, .int .i64 U72.n, (.slice a69 U72.kids.length c70), .int .i64 U353.k, .int .i64 U353.i, .int .i64 U353.j, .int .i64 U353.n, (.slice a350 U353.kids.length c351)], (blk_at HX478.out Kk485.out), rfl, Nat.le_of_ble_eq_true rfl, ?_⟩
            intro W481 hW481
            have KB487 := Lib.hid (kept_set (kept_trans KB462.out Kk485.out) hW481 (by have := HG432.out; have := Z0.out; omega))
            have KB488 := Lib.hid (kept_set (kept_trans KB463.out Kk485.out) hW481 HG432.out)
            have HL489 : Hid (LiesQ W481 (Par w V0.heap.size (g359 :: []) P) a.kids _) := par_set (HL464.out.later Kk485.out) hW481 (List.mem_cons_self ..) (by have := HG432.out; have := Z0.out; omega)
            have HL490 : Hid (LiesQ W481 (Par w V0.heap.size (g359 :: []) P) c.kids _) := par_set (HL465.out.later Kk485.out) hW481 (List.mem_cons_self ..) (by have := HG432.out; have := Z0.out; omega)
            have HL491 : Hid (LiesQ W481 (Par w V0.heap.size (g359 :: []) P) e.kids _) := par_set (HL466.out.later Kk485.out) hW481 (List.mem_cons_self ..) (by have := HG432.out; have := Z0.out; omega)
            have HL492 : Hid (LiesQ W481 (Par w V0.heap.size (g359 :: []) P) r.a.kids _) := par_set (HL467.out.later Kk485.out) hW481 (List.mem_cons_self ..) (by have := HG432.out; have := Z0.out; omega)
            have HL493 : Hid (LiesQ W481 (Par w V0.heap.size (g359 :: []) P) r.b.kids _) := par_set (HL468.out.later Kk485.out) hW481 (List.mem_cons_self ..) (by have := HG432.out; have := Z0.out; omega)
            have HL494 : Hid (LiesQ W481 (Par w V0.heap.size (g359 :: []) P) r.x.kids _) := par_set (HL469.out.later Kk485.out) hW481 (List.mem_cons_self ..) (by have := HG432.out; have := Z0.out; omega)
            have HL495 : Hid (LiesQ W481 (Par w V0.heap.size (g359 :: []) P) r.y.kids _) := par_set (HL470.out.later Kk485.out) hW481 (List.mem_cons_self ..) (by have := HG432.out; have := Z0.out; omega)
            have HL496 : Hid (LiesQ W481 (Par w V0.heap.size (g359 :: []) P) r.h.kids _) := par_set (HL471.out.later Kk485.out) hW481 (List.mem_cons_self ..) (by have := HG432.out; have := Z0.out; omega)
            have HL497 : Hid (LiesQ W481 (Par w V0.heap.size (g359 :: []) P) [a, c, e] _) := par_set (HL472.out.later Kk485.out) hW481 (List.mem_cons_self ..) (by have := HG432.out; have := Z0.out; omega)
            have HL498 : Hid (LiesQ W481 (Par w V0.heap.size (g359 :: []) P) U63.kids _) := par_set (HL473.out.later Kk485.out) hW481 (List.mem_cons_self ..) (by have := HG432.out; have := Z0.out; omega)
            have HL499 : Hid (LiesQ W481 (Par w V0.heap.size (g359 :: []) P) U72.kids _) := par_set (HL474.out.later Kk485.out) hW481 (List.mem_cons_self ..) (by have := HG432.out; have := Z0.out; omega)
            have HL500 : Hid (LiesQ W481 (Par w V0.heap.size (g359 :: []) P) U353.kids _) := par_set (HL475.out.later Kk485.out) hW481 (List.mem_cons_self ..) (by have := HG432.out; have := Z0.out; omega)
            have HL501 : Hid (LiesQ W481 (Par w V0.heap.size (g359 :: []) P) [a, r.x, r.x] _) := par_set (HL476.out.later Kk485.out) hW481 (List.mem_cons_self ..) (by have := HG432.out; have := Z0.out; omega)
            have HL502 : Hid (LiesQ W481 (Par w V0.heap.size (g359 :: []) P) [c, r.y, r.y] _) := par_set HR486.out hW481 (List.mem_cons_self ..) (by have := HG432.out; have := Z0.out; omega)
            have XL503 := Lib.hid (xlt_set (xlt_later XL477.out Kk485.out) hW481)
            have HX504 := Lib.hid (blk_same (blk_at HX478.out Kk485.out) hW481)
            clear hW481
            have kvV0 : Sees V0 (w.heap.size + 4) W481 := sees_kept _ KB488.out
            have kvW481 : Sees W481 (w.heap.size + 4) W481 := sees_kept _ (kept_refl _)
            go_wp2_with (refine stop_load 51 (.tmp 11) rfl ?_)
            intro _
            refine wpList_load_part (g359) 0 51 (.tmp 11) #[.int .i64 i, .int .i64 20, .int .i64 0, .int .i64 0, .int .i64 0, (.slice (some ⟨W436.heap.size, 0, none⟩) 3 3), .int .i64 20, .int .i64 0, .int .i64 0, .int .i64 0, (.slice (some ⟨W456.heap.size, 0, none⟩) 3 3), .int .i64 U63.k, .int .i64 U63.i, .int .i64 U63.j, .int .i64 U63.n, (.slice a60 U63.kids.length c61), .int .i64 U72.k, .int .i64 U72.i, .int .i64 U72.j, .int .i64 U72.n, (.slice a69 U72.kids.length c70), .int .i64 U353.k, .int .i64 U353.i, .int .i64 U353.j, .int .i64 U353.n, (.slice a350 U353.kids.length c351)] dh HX504.out (by rfl) rfl (by rfl) (by rfl) dh1 (by cases dh <;> first | rfl | exact dh2) (by kernel_rfl) ?_
            go_wp2_with fail
            clear kvV0
            clear kvW481
            refine (cfresh_any (⟨i, (.mk 20 0 0 0 [a, r.x, r.x]), (.mk 20 0 0 0 [c, r.y, r.y]), U63, U72, U353⟩ : He) (Par w V0.heap.size (g359 :: []) P) _ (.slice (some ⟨W436.heap.size, 0, none⟩) 3 3) (.slice (some ⟨W456.heap.size, 0, none⟩) 3 3) (.slice a60 U63.kids.length c61) (.slice a69 U72.kids.length c70) (.slice a350 U353.kids.length c351) (show He.fine (⟨i, (.mk 20 0 0 0 [a, r.x, r.x]), (.mk 20 0 0 0 [c, r.y, r.y]), U63, U72, U353⟩ : He) from ⟨Ri.out, (mk_fine (show I64 20 from by unfold I64; decide) (show I64 0 from by unfold I64; decide) (show I64 0 from by unfold I64; decide) (show I64 0 from by unfold I64; decide)), (mk_fine (show I64 20 from by unfold I64; decide) (show I64 0 from by unfold I64; decide) (show I64 0 from by unfold I64; decide) (show I64 0 from by unfold I64; decide)), (by rw [← HU63.out]; exact (node_fine (show I64 21 from by unfold I64; decide))), (by rw [← HU72.out]; exact (node_fine (show I64 21 from by unfold I64; decide))), (by rw [← HU353.out]; exact (use_fineJ (show I64 21 from by unfold I64; decide) Ri.out (show I64 0 from by unfold I64; decide)))⟩) ⟨HL501.out, HL502.out, HL498.out, HL499.out, HL500.out⟩ (Or.inl (show Tm.plainB (.mk 20 0 0 0 [a, r.x, r.x]) = true from node_plain (k := 20) (by rfl) (by rfl) (by rfl) (List.forall_mem_cons.2 ⟨(plainL_iff.1 Hhb26.out _ (by simp)), (List.forall_mem_cons.2 ⟨(toldB_pl Hhb39.out _ (by simp)), (List.forall_mem_cons.2 ⟨(toldB_pl Hhb39.out _ (by simp)), (fun _ h => nomatch h)⟩)⟩)⟩))) (Or.inl (show Tm.plainB (.mk 20 0 0 0 [c, r.y, r.y]) = true from node_plain (k := 20) (by rfl) (by rfl) (by rfl) (List.forall_mem_cons.2 ⟨(plainL_iff.1 Hhb26.out _ (by simp)), (List.forall_mem_cons.2 ⟨(toldB_pl Hhb39.out _ (by simp)), (List.forall_mem_cons.2 ⟨(toldB_pl Hhb39.out _ (by simp)), (fun _ h => nomatch h)⟩)⟩)⟩))) (Or.inl (by rw [← HU63.out]; exact (node_plain (by rfl) (by rfl) (by rfl) (List.forall_mem_cons.2 ⟨(plainL_iff.1 Hhb26.out _ (by simp)), (List.forall_mem_cons.2 ⟨(toldB_pl Hhb39.out _ (by simp)), (fun _ h => nomatch h)⟩)⟩)))) (Or.inl (by rw [← HU72.out]; exact (node_plain (by rfl) (by rfl) (by rfl) (List.forall_mem_cons.2 ⟨(plainL_iff.1 Hhb26.out _ (by simp)), (List.forall_mem_cons.2 ⟨(toldB_pl Hhb39.out _ (by simp)), (fun _ h => nomatch h)⟩)⟩))))).mono ?_
            obtain ⟨U507, hU507⟩ : ∃ qu, (⟨i, (.mk 20 0 0 0 [a, r.x, r.x]), (.mk 20 0 0 0 [c, r.y, r.y]), U63, U72, U353⟩ : He) = qu := ⟨_, rfl⟩
            rw [hU507]
            have HU507 := Lib.hid hU507
            clear hU507
            rintro e w505 ⟨s508, s509, s510, s511, s512, rfl, ⟨hl513, hl514, hl515, hl516, hl517⟩, k506⟩
            obtain ⟨a518, c519, S520, rfl, -⟩ := hl513.out
            obtain ⟨a521, c522, S523, rfl, -⟩ := hl514.out
            obtain ⟨a524, c525, S526, rfl, -⟩ := hl515.out
            obtain ⟨a527, c528, S529, rfl, -⟩ := hl516.out
            obtain ⟨a530, c531, S532, rfl, -⟩ := hl517.out
            have Kk533 := Lib.hid k506
            clear k506
            have Hhl513 : Hid (LiesQ w505 (Par w V0.heap.size (g359 :: []) P) U507.a.kids _) := par_give hl513 (Below.size KB488.out) XL503.out
            have Hhl514 : Hid (LiesQ w505 (Par w V0.heap.size (g359 :: []) P) U507.b.kids _) := par_give hl514 (Below.size KB488.out) XL503.out
            have Hhl515 : Hid (LiesQ w505 (Par w V0.heap.size (g359 :: []) P) U507.x.kids _) := par_give hl515 (Below.size KB488.out) XL503.out
            have Hhl516 : Hid (LiesQ w505 (Par w V0.heap.size (g359 :: []) P) U507.y.kids _) := par_give hl516 (Below.size KB488.out) XL503.out
            have Hhl517 : Hid (LiesQ w505 (Par w V0.heap.size (g359 :: []) P) U507.h.kids _) := par_give hl517 (Below.size KB488.out) XL503.out
            clear hl513 hl514 hl515 hl516 hl517
            have kvV0 : Sees V0 (w.heap.size + 4) w505 := sees_kept _ (kept_trans KB488.out Kk533.out)
            have kvW481 : Sees W481 (w.heap.size + 4) w505 := sees_kept _ Kk533.out
            go_wp2_with (refine stop_store 51 (.tmp 10) (.tmp 69) rfl ?_)
            intro _
            refine wpList_store_part_n (by rfl) 51 (.tmp 10) (.tmp 69) rfl (w.heap.size + 4) 0 #[.int .i64 U507.i, .int .i64 U507.a.k, .int .i64 U507.a.i, .int .i64 U507.a.j, .int .i64 U507.a.n, (.slice a518 U507.a.kids.length c519), .int .i64 U507.b.k, .int .i64 U507.b.i, .int .i64 U507.b.j, .int .i64 U507.b.n, (.slice a521 U507.b.kids.length c522), .int .i64 U507.x.k, .int .i64 U507.x.i, .int .i64 U507.x.j, .int .i64 U507.x.n, (.slice a524 U507.x.kids.length c525), .int .i64 U507.y.k, .int .i64 U507.y.i, .int .i64 U507.y.j, .int .i64 U507.y.n, (.slice a527 U507.y.kids.length c528), .int .i64 U507.h.k, .int .i64 U507.h.i, .int .i64 U507.h.j, .int .i64 U507.h.n, (.slice a530 U507.h.kids.length c531)] (by rfl) (by rfl) 51 (by kernel_rfl) (row_ok rfl) ?_
            intro W534 hW534
            clear kvV0
            clear kvW481
            subst hW534
            refine ⟨_, #[.int .i64 U507.i, .int .i64 U507.a.k, .int .i64 U507.a.i, .int .i64 U507.a.j, .int .i64 U507.a.n, (.slice a518 U507.a.kids.length c519), .int .i64 U507.b.k, .int .i64 U507.b.i, .int .i64 U507.b.j, .int .i64 U507.b.n, (.slice a521 U507.b.kids.length c522), .int .i64 U507.x.k, .int .i64 U507.x.i, .int .i64 U507.x.j, .int .i64 U507.x.n, (.slice a524 U507.x.kids.length c525), .int .i64 U507.y.k, .int .i64 U507.y.i, .int .i64 U507.y.j, .int .i64 U507.y.n, (.slice a527 U507.y.kids.length c528), .int .i64 U507.h.k, .int .i64 U507.h.i, .int .i64 U507.h.j, .int .i64 U507.h.n, (.slice a530 U507.h.kids.length c531)], (blk_at Hx5.out (kept_trans KB488.out Kk533.out)), rfl, Nat.le_of_ble_eq_true rfl, ?_⟩
            intro W535 hW535
            go_wp2_with fail
            refine bodyPost_ret (results_cell_row rfl _ _ (w.heap.size + 4) 51 _ _ dh rfl (blk_same (blk_at Hx5.out (kept_trans KB488.out Kk533.out)) hW535) dh1 (by cases dh <;> first | rfl | exact dh2) (by kernel_rfl)) rfl ?_
            rw [show cgRefl i a c e r = U507 from by unfold cgRefl; rw [Hhb11.out, Hhb26.out, Hhb39.out]; rw [← HU507.out]; rw [← HU353.out]; rw [← HU72.out]; rw [← HU63.out]; (try rfl)]
            exact ⟨_, _, _, _, _, rfl, ⟨par_end (par_row' Hhl513.out hW535 (by omega) (by have := Z0.out; omega)) (by have := Z0.out; omega), par_end (par_row' Hhl514.out hW535 (by omega) (by have := Z0.out; omega)) (by have := Z0.out; omega), par_end (par_row' Hhl515.out hW535 (by omega) (by have := Z0.out; omega)) (by have := Z0.out; omega), par_end (par_row' Hhl516.out hW535 (by omega) (by have := Z0.out; omega)) (by have := Z0.out; omega), par_end (par_row' Hhl517.out hW535 (by omega) (by have := Z0.out; omega)) (by have := Z0.out; omega)⟩, kept_set (kept_trans KB487.out Kk533.out) hW535 (by omega)⟩
          exact AllReadyH.nil

end Go.Proofs.Ytkdceahmknhojaa

namespace Go.Proofs.Ytkdceahmknhojaa
open Go.RowKit

set_option maxRecDepth 20000 in
set_option maxHeartbeats 4000000 in
theorem rtold_any (h : He) (P : Nat → Prop) (w : World) (sha : Value) (shb : Value) (shx : Value) (shy : Value) (shh : Value) (hfh : h.fine) (hlh : HQ w P h sha shb shx shy shh) : Calls Try.prog 126 #[hv h sha shb shx shy shh] w fun e w' => e = .returned (.bool (toldB h)) ∧ Kept w w' := by
  have Gh := Lib.hid hfh
  clear hfh
  obtain ⟨hlha, hlhb, hlhx, hlhy, hlhh⟩ := hlh
  obtain ⟨aha, cha, Sha, rfl, -⟩ := hlha.out
  obtain ⟨ahb, chb, Shb, rfl, -⟩ := hlhb.out
  obtain ⟨ahx, chx, Shx, rfl, -⟩ := hlhx.out
  obtain ⟨ahy, chy, Shy, rfl, -⟩ := hlhy.out
  obtain ⟨ahh, chh, Shh, rfl, -⟩ := hlhh.out
  obtain ⟨du, hu1, hu2⟩ := under_term
  obtain ⟨dr, dr1, dr2⟩ := under_of 45 (by kernel_rfl)
  unfold hv
  go_enter Try.func126, Try.ntmps126
  go_upto_region 1 with fail
  refine at_code (fun V0 hV0 => ?_)
  obtain ⟨k2, x1, z3⟩ := alloc1 hV0
  have Kk4 := Lib.hid k2
  clear k2
  have Hx1 := Lib.hid x1
  have Z0 := Lib.hid z3
  clear z3 x1 hV0
  have HLha : Hid (LiesQ V0 (Par w V0.heap.size [] P) h.a.kids _) := (par_in _ _ hlha).later Kk4.out
  clear hlha
  have HLhb : Hid (LiesQ V0 (Par w V0.heap.size [] P) h.b.kids _) := (par_in _ _ hlhb).later Kk4.out
  clear hlhb
  have HLhx : Hid (LiesQ V0 (Par w V0.heap.size [] P) h.x.kids _) := (par_in _ _ hlhx).later Kk4.out
  clear hlhx
  have HLhy : Hid (LiesQ V0 (Par w V0.heap.size [] P) h.y.kids _) := (par_in _ _ hlhy).later Kk4.out
  clear hlhy
  have HLhh : Hid (LiesQ V0 (Par w V0.heap.size [] P) h.h.kids _) := (par_in _ _ hlhh).later Kk4.out
  clear hlhh
  have kvV0 : SeesN V0 V0.heap.size V0 := seesN_kept _ (kept_refl _)
  go_wp2_with (refine stop_load 32 (.tmp 3) rfl ?_)
  intro _
  refine wpList_load_part (w.heap.size) 11 32 (.tmp 3) #[.int .i64 h.x.k, .int .i64 h.x.i, .int .i64 h.x.j, .int .i64 h.x.n, (.slice ahx h.x.kids.length chx)] du Hx1.out (by rfl) rfl (by rfl) (by rfl) hu1 (by cases du <;> first | rfl | exact hu2) size_term ?_
  go_wp2_with (refine stop_load 32 (.tmp 5) rfl ?_)
  intro _
  refine wpList_load_part (w.heap.size) 16 32 (.tmp 5) #[.int .i64 h.y.k, .int .i64 h.y.i, .int .i64 h.y.j, .int .i64 h.y.n, (.slice ahy h.y.kids.length chy)] du Hx1.out (by rfl) rfl (by rfl) (by rfl) hu1 (by cases du <;> first | rfl | exact hu2) size_term ?_
  go_wp2_with (refine stop_load 32 (.tmp 7) rfl ?_)
  intro _
  refine wpList_load_part (w.heap.size) 21 32 (.tmp 7) #[.int .i64 h.h.k, .int .i64 h.h.i, .int .i64 h.h.j, .int .i64 h.h.n, (.slice ahh h.h.kids.length chh)] du Hx1.out (by rfl) rfl (by rfl) (by rfl) hu1 (by cases du <;> first | rfl | exact hu2) size_term ?_
  go_wp2_with fail
  refine at_world (fun W6 hW6 => ?_)
  clear kvV0
  obtain ⟨k8, x7, z9⟩ := alloc1 hW6
  have Kk10 := Lib.hid k8
  clear k8
  have Hx7 := Lib.hid x7
  have Hz9 := Lib.hid z9
  clear x7 z9 hW6
  have HR11 := Lib.hid (q_row3 Hx7.out Gh.out.2.2.2.1 (HLhx.out.later Kk10.out) Gh.out.2.2.2.2.1 (HLhy.out.later Kk10.out) Gh.out.2.2.2.2.2 (HLhh.out.later Kk10.out) (par_new (Nat.le_refl _) (xlt_nil _) (Nat.le_refl _)))
  refine (rplain_any [h.x, h.y, h.h] _ _ HR11.out.lies).mono ?_
  obtain ⟨rb15, hb14⟩ : ∃ qb, (plainL [h.x, h.y, h.h]) = qb := ⟨_, rfl⟩
  rw [hb14]
  have Hhb14 := Lib.hid hb14
  clear hb14
  rintro e w12 ⟨rfl, k13⟩
  have Kk16 := Lib.hid k13
  clear k13
  cases rb15 with
  | false =>
    have kvV0 : SeesN V0 V0.heap.size w12 := seesN_kept _ (kept_trans Kk10.out Kk16.out)
    go_wp2
    go_ret
    exact ⟨ret_bool (Eq.symm (show toldB h = false from by unfold toldB; rw [Hhb14.out]; (try rfl))), (kept_trans Kk4.out (kept_trans Kk10.out Kk16.out))⟩
  | true =>
    have kvV0 : SeesN V0 V0.heap.size w12 := seesN_kept _ (kept_trans Kk10.out Kk16.out)
    go_wp2
    go_ret
    exact ⟨ret_bool (Eq.symm (show toldB h = true from by unfold toldB; rw [Hhb14.out]; (try rfl))), (kept_trans Kk4.out (kept_trans Kk10.out Kk16.out))⟩

end Go.Proofs.Ytkdceahmknhojaa
