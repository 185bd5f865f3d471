/-
  Facts and contracts that the proof of CongEqs uses.
-/
import Derived.Test.YtkdceahmknhojaaRows
import Derived.WalkKit
import Derived.Lib.Hide
import Derived.KernelRfl
import Derived.Deep.RegionWith
import Derived.Deep.RegionHeld3
import Derived.Deep.AppendLies
import Derived.Laws.Rows
import Derived.Laws.IdiomCopy
import Derived.Deep.Slices
import Derived.Lib.QuietBelow
import Derived.StillTailTactics
import Derived.BigQuiet
import Derived.IntWalk
import Derived.OwnWalk
import Derived.Deep.RegionLaw
import Derived.Deep.QuietTactic
import Derived.Deep.LoopGhost
import Derived.Deep.DeepCutAuto
import Derived.Deep.MidRow
import Derived.OrdersHeld
import Derived.Laws.Tables
import Derived.Laws.CopyOwn
import Derived.Laws.CopyRow
import Derived.Deep.Upon
import Derived.ArgAppend
import Derived.Deep.RegionHeld
import Derived.Lib.MinMax
import Derived.ProofKit
import Derived.OpenShut
import Derived.Carry
import Derived.ChangeSlices
import Derived.JoinedOf
import Derived.Test.YtkdceahmknhojaaCongEqsQ6
namespace Go.Proofs.Ytkdceahmknhojaa
open Go.RowKit

set_option maxRecDepth 20000 in
set_option maxHeartbeats 4000000 in
theorem rcEq_any (i : Int) (a : Tm) (c : Tm) (e : Tm) (r : He) (s : He) (P : Nat → Prop) (w : World) (sa : Value) (sc : Value) (se : Value) (sra : Value) (srb : Value) (srx : Value) (sry : Value) (srh : Value) (ssa : Value) (ssb : Value) (ssx : Value) (ssy : Value) (ssh : Value) (hri : I64 i) (hfa : a.fine) (hla : LiesQ w P a.kids sa) (hfc : c.fine) (hlc : LiesQ w P c.kids sc) (hfe : e.fine) (hle : LiesQ w P e.kids se) (hfr : r.fine) (hlr : HQ w P r sra srb srx sry srh) (hfs : s.fine) (hls : HQ w P s ssa ssb ssx ssy ssh) : Calls Try.prog 73 #[.int .i64 i, tv a sa, tv c sc, tv e se, hv r sra srb srx sry srh, hv s ssa ssb ssx ssy ssh] w (GivesP P (cgEq i a c e r s) w) := by
  have Ri := Lib.hid hri
  clear hri
  have Ga := Lib.hid hfa
  clear hfa
  obtain ⟨aa, ca, Sa, rfl, -⟩ := hla.out
  have Gc := Lib.hid hfc
  clear hfc
  obtain ⟨ac, cc, Sc, rfl, -⟩ := hlc.out
  have Ge := Lib.hid hfe
  clear hfe
  obtain ⟨ae, ce, Se, rfl, -⟩ := hle.out
  have Gr := Lib.hid hfr
  clear hfr
  obtain ⟨hlra, hlrb, hlrx, hlry, hlrh⟩ := hlr
  obtain ⟨ara, cra, Sra, rfl, -⟩ := hlra.out
  obtain ⟨arb, crb, Srb, rfl, -⟩ := hlrb.out
  obtain ⟨arx, crx, Srx, rfl, -⟩ := hlrx.out
  obtain ⟨ary, cry, Sry, rfl, -⟩ := hlry.out
  obtain ⟨arh, crh, Srh, rfl, -⟩ := hlrh.out
  have Gs := Lib.hid hfs
  clear hfs
  obtain ⟨hlsa, hlsb, hlsx, hlsy, hlsh⟩ := hls
  obtain ⟨asa, csa, Ssa, rfl, -⟩ := hlsa.out
  obtain ⟨asb, csb, Ssb, rfl, -⟩ := hlsb.out
  obtain ⟨asx, csx, Ssx, rfl, -⟩ := hlsx.out
  obtain ⟨asy, csy, Ssy, rfl, -⟩ := hlsy.out
  obtain ⟨ash, csh, Ssh, rfl, -⟩ := hlsh.out
  obtain ⟨du, hu1, hu2⟩ := under_term
  obtain ⟨dr, dr1, dr2⟩ := under_of 45 (by kernel_rfl)
  unfold hv
  unfold tv
  go_enter Try.func73, Try.ntmps73
  go_upto_region 1 with fail
  refine at_code (fun V0 hV0 => ?_)
  obtain ⟨k7, x1, x2, x3, x4, x5, x6, z8⟩ := alloc6 hV0
  have Kk9 := Lib.hid k7
  clear k7
  have Hx1 := Lib.hid x1
  have Hx2 := Lib.hid x2
  have Hx3 := Lib.hid x3
  have Hx4 := Lib.hid x4
  have Hx5 := Lib.hid x5
  have Hx6 := Lib.hid x6
  have Z0 := Lib.hid z8
  clear z8 x1 x2 x3 x4 x5 x6 hV0
  have HLa : Hid (LiesQ V0 (Par w V0.heap.size [] P) a.kids _) := (par_in _ _ hla).later Kk9.out
  clear hla
  have HLc : Hid (LiesQ V0 (Par w V0.heap.size [] P) c.kids _) := (par_in _ _ hlc).later Kk9.out
  clear hlc
  have HLe : Hid (LiesQ V0 (Par w V0.heap.size [] P) e.kids _) := (par_in _ _ hle).later Kk9.out
  clear hle
  have HLra : Hid (LiesQ V0 (Par w V0.heap.size [] P) r.a.kids _) := (par_in _ _ hlra).later Kk9.out
  clear hlra
  have HLrb : Hid (LiesQ V0 (Par w V0.heap.size [] P) r.b.kids _) := (par_in _ _ hlrb).later Kk9.out
  clear hlrb
  have HLrx : Hid (LiesQ V0 (Par w V0.heap.size [] P) r.x.kids _) := (par_in _ _ hlrx).later Kk9.out
  clear hlrx
  have HLry : Hid (LiesQ V0 (Par w V0.heap.size [] P) r.y.kids _) := (par_in _ _ hlry).later Kk9.out
  clear hlry
  have HLrh : Hid (LiesQ V0 (Par w V0.heap.size [] P) r.h.kids _) := (par_in _ _ hlrh).later Kk9.out
  clear hlrh
  have HLsa : Hid (LiesQ V0 (Par w V0.heap.size [] P) s.a.kids _) := (par_in _ _ hlsa).later Kk9.out
  clear hlsa
  have HLsb : Hid (LiesQ V0 (Par w V0.heap.size [] P) s.b.kids _) := (par_in _ _ hlsb).later Kk9.out
  clear hlsb
  have HLsx : Hid (LiesQ V0 (Par w V0.heap.size [] P) s.x.kids _) := (par_in _ _ hlsx).later Kk9.out
  clear hlsx
  have HLsy : Hid (LiesQ V0 (Par w V0.heap.size [] P) s.y.kids _) := (par_in _ _ hlsy).later Kk9.out
  clear hlsy
  have HLsh : Hid (LiesQ V0 (Par w V0.heap.size [] P) s.h.kids _) := (par_in _ _ hlsh).later Kk9.out
  clear hlsh
  have kvV0 : Sees V0 (w.heap.size + 5) V0 := sees_kept _ (kept_refl _)
  go_wp2_with fail
  clear kvV0
  refine (rlevel_any i 3 _ Ri.out (show I64 3 from by unfold I64; decide) (by decide) (by decide)).mono ?_
  obtain ⟨rb13, hb12⟩ : ∃ qb, (levN 3 i) = qb := ⟨_, rfl⟩
  rw [hb12]
  have Hhb12 := Lib.hid hb12
  clear hb12
  rintro e w10 ⟨rfl, k11⟩
  have Kk14 := Lib.hid k11
  clear k11
  cases rb13 with
  | false =>
    have kvV0 : Sees V0 (w.heap.size + 5) w10 := sees_kept _ Kk14.out
    go_wp2_with (refine stop_store 32 (.tmp 12) (.tmp 34) rfl ?_)
    intro _
    refine wpList_store_part_n (by rfl) 32 (.tmp 12) (.tmp 34) rfl (w.heap.size + 5) 0 #[.int .i64 0, .int .i64 0, .int .i64 0, .int .i64 0, .slice none 0 0] (by rfl) (by rfl) 32 size_term (row_ok rfl) ?_
    intro W15 hW15
    clear kvV0
    subst hW15
    refine ⟨_, #[.int .i64 0, .int .i64 0, .int .i64 0, .int .i64 0, .slice none 0 0], (blk_at Hx6.out Kk14.out), rfl, Nat.le_of_ble_eq_true rfl, ?_⟩
    intro W16 hW16
    go_wp2_with fail
    refine bodyPost_ret (results_cell_row rfl _ _ (w.heap.size + 5) 32 _ _ du rfl (blk_same (blk_at Hx6.out Kk14.out) hW16) hu1 (by cases du <;> first | rfl | exact hu2) size_term) rfl ?_
    rw [show cgEq i a c e r s = (Tm.mk 0 0 0 0 []) from by unfold cgEq; rw [Hhb12.out]; (try first | rfl | simp)]
    exact ⟨_, rfl, par_end (par_row' (liesQ_nil w10 (Par w V0.heap.size [] P)) hW16 (by omega) (by have := Z0.out; omega)) (by have := Z0.out; omega), kept_set (kept_trans Kk9.out Kk14.out) hW16 (by omega)⟩
  | true =>
    have kvV0 : Sees V0 (w.heap.size + 5) w10 := sees_kept _ Kk14.out
    go_wp2_with (refine stop_load 32 (.tmp 7) rfl ?_)
    intro _
    refine wpList_load_part (w.heap.size) 0 32 (.tmp 7) #[.int .i64 a.k, .int .i64 a.i, .int .i64 a.j, .int .i64 a.n, (.slice aa a.kids.length ca)] du (blk_at Hx1.out Kk14.out) (by rfl) rfl (by rfl) (by rfl) hu1 (by cases du <;> first | rfl | exact hu2) size_term ?_
    go_wp2_with (refine stop_load 32 (.tmp 8) rfl ?_)
    intro _
    refine wpList_load_part (w.heap.size + 1) 0 32 (.tmp 8) #[.int .i64 c.k, .int .i64 c.i, .int .i64 c.j, .int .i64 c.n, (.slice ac c.kids.length cc)] du (blk_at Hx2.out Kk14.out) (by rfl) rfl (by rfl) (by rfl) hu1 (by cases du <;> first | rfl | exact hu2) size_term ?_
    go_wp2_with (refine stop_load 32 (.tmp 9) rfl ?_)
    intro _
    refine wpList_load_part (w.heap.size + 2) 0 32 (.tmp 9) #[.int .i64 e.k, .int .i64 e.i, .int .i64 e.j, .int .i64 e.n, (.slice ae e.kids.length ce)] du (blk_at Hx3.out Kk14.out) (by rfl) rfl (by rfl) (by rfl) hu1 (by cases du <;> first | rfl | exact hu2) size_term ?_
    go_wp2_with fail
    refine at_world (fun W18 hW18 => ?_)
    clear kvV0
    obtain ⟨k20, x19, z21⟩ := alloc1 hW18
    have Kk22 := Lib.hid k20
    clear k20
    have Hx19 := Lib.hid x19
    have Hz21 := Lib.hid z21
    clear x19 z21 hW18
    have kq24 := (kept_trans Kk14.out Kk22.out)
    have HR23 := Lib.hid (q_row3 Hx19.out Ga.out (HLa.out.later kq24) Gc.out (HLc.out.later kq24) Ge.out (HLe.out.later kq24) (par_new (Below.size Kk14.out) (xlt_nil _) (Nat.le_refl _)))
    clear kq24
    refine (rplain_any [a, c, e] _ _ HR23.out.lies).mono ?_
    obtain ⟨rb28, hb27⟩ : ∃ qb, (plainL [a, c, e]) = qb := ⟨_, rfl⟩
    rw [hb27]
    have Hhb27 := Lib.hid hb27
    clear hb27
    rintro e w25 ⟨rfl, k26⟩
    have Kk29 := Lib.hid k26
    clear k26
    cases rb28 with
    | false =>
      have kvV0 : Sees V0 (w.heap.size + 5) w25 := sees_kept _ (kept_trans Kk14.out (kept_trans Kk22.out Kk29.out))
      go_wp2_with (refine stop_store 32 (.tmp 12) (.tmp 34) rfl ?_)
      intro _
      refine wpList_store_part_n (by rfl) 32 (.tmp 12) (.tmp 34) rfl (w.heap.size + 5) 0 #[.int .i64 0, .int .i64 0, .int .i64 0, .int .i64 0, .slice none 0 0] (by rfl) (by rfl) 32 size_term (row_ok rfl) ?_
      intro W30 hW30
      clear kvV0
      subst hW30
      refine ⟨_, #[.int .i64 0, .int .i64 0, .int .i64 0, .int .i64 0, .slice none 0 0], (blk_at Hx6.out (kept_trans Kk14.out (kept_trans Kk22.out Kk29.out))), rfl, Nat.le_of_ble_eq_true rfl, ?_⟩
      intro W31 hW31
      go_wp2_with fail
      refine bodyPost_ret (results_cell_row rfl _ _ (w.heap.size + 5) 32 _ _ du rfl (blk_same (blk_at Hx6.out (kept_trans Kk14.out (kept_trans Kk22.out Kk29.out))) hW31) hu1 (by cases du <;> first | rfl | exact hu2) size_term) rfl ?_
      rw [show cgEq i a c e r s = (Tm.mk 0 0 0 0 []) from by unfold cgEq; rw [Hhb12.out, Hhb27.out]; (try first | rfl | simp)]
      exact ⟨_, rfl, par_end (par_row' (liesQ_nil w25 (Par w V0.heap.size [] P)) hW31 (by omega) (by have := Z0.out; omega)) (by have := Z0.out; omega), kept_set (kept_trans Kk9.out (kept_trans Kk14.out (kept_trans Kk22.out Kk29.out))) hW31 (by omega)⟩
    | true =>
      have kvV0 : Sees V0 (w.heap.size + 5) w25 := sees_kept _ (kept_trans Kk14.out (kept_trans Kk22.out Kk29.out))
      go_wp2_with (refine stop_load 45 (.tmp 10) rfl ?_)
      intro _
      refine wpList_load_part (w.heap.size + 3) 0 45 (.tmp 10) #[.int .i64 r.i, .int .i64 r.a.k, .int .i64 r.a.i, .int .i64 r.a.j, .int .i64 r.a.n, (.slice ara r.a.kids.length cra), .int .i64 r.b.k, .int .i64 r.b.i, .int .i64 r.b.j, .int .i64 r.b.n, (.slice arb r.b.kids.length crb), .int .i64 r.x.k, .int .i64 r.x.i, .int .i64 r.x.j, .int .i64 r.x.n, (.slice arx r.x.kids.length crx), .int .i64 r.y.k, .int .i64 r.y.i, .int .i64 r.y.j, .int .i64 r.y.n, (.slice ary r.y.kids.length cry), .int .i64 r.h.k, .int .i64 r.h.i, .int .i64 r.h.j, .int .i64 r.h.n, (.slice arh r.h.kids.length crh)] dr (blk_at Hx4.out (kept_trans Kk14.out (kept_trans Kk22.out Kk29.out))) (by rfl) rfl (by rfl) (by rfl) dr1 (by cases dr <;> first | rfl | exact dr2) (by kernel_rfl) ?_
      go_wp2_with fail
      clear kvV0
      refine (rtold_any r (Par w V0.heap.size [] P) _ (.slice ara r.a.kids.length cra) (.slice arb r.b.kids.length crb) (.slice arx r.x.kids.length crx) (.slice ary r.y.kids.length cry) (.slice arh r.h.kids.length crh) (show He.fine r from ⟨Gr.out.1, Gr.out.2.1, Gr.out.2.2.1, Gr.out.2.2.2.1, Gr.out.2.2.2.2.1, Gr.out.2.2.2.2.2⟩) ⟨(HLra.out.later (kept_trans Kk14.out (kept_trans Kk22.out Kk29.out))), (HLrb.out.later (kept_trans Kk14.out (kept_trans Kk22.out Kk29.out))), (HLrx.out.later (kept_trans Kk14.out (kept_trans Kk22.out Kk29.out))), (HLry.out.later (kept_trans Kk14.out (kept_trans Kk22.out Kk29.out))), (HLrh.out.later (kept_trans Kk14.out (kept_trans Kk22.out Kk29.out)))⟩).mono ?_
      obtain ⟨rb35, hb34⟩ : ∃ qb, (toldB r) = qb := ⟨_, rfl⟩
      rw [hb34]
      have Hhb34 := Lib.hid hb34
      clear hb34
      rintro e w32 ⟨rfl, k33⟩
      have Kk36 := Lib.hid k33
      clear k33
      cases rb35 with
      | false =>
        have kvV0 : Sees V0 (w.heap.size + 5) w32 := sees_kept _ (kept_trans Kk14.out (kept_trans Kk22.out (kept_trans Kk29.out Kk36.out)))
        go_wp2_with (refine stop_store 32 (.tmp 12) (.tmp 34) rfl ?_)
        intro _
        refine wpList_store_part_n (by rfl) 32 (.tmp 12) (.tmp 34) rfl (w.heap.size + 5) 0 #[.int .i64 0, .int .i64 0, .int .i64 0, .int .i64 0, .slice none 0 0] (by rfl) (by rfl) 32 size_term (row_ok rfl) ?_
        intro W37 hW37
        clear kvV0
        subst hW37
        refine ⟨_, #[.int .i64 0, .int .i64 0, .int .i64 0, .int .i64 0, .slice none 0 0], (blk_at Hx6.out (kept_trans Kk14.out (kept_trans Kk22.out (kept_trans Kk29.out Kk36.out)))), rfl, Nat.le_of_ble_eq_true rfl, ?_⟩
        intro W38 hW38
        go_wp2_with fail
        refine bodyPost_ret (results_cell_row rfl _ _ (w.heap.size + 5) 32 _ _ du rfl (blk_same (blk_at Hx6.out (kept_trans Kk14.out (kept_trans Kk22.out (kept_trans Kk29.out Kk36.out)))) hW38) hu1 (by cases du <;> first | rfl | exact hu2) size_term) rfl ?_
        rw [show cgEq i a c e r s = (Tm.mk 0 0 0 0 []) from by unfold cgEq; rw [Hhb12.out, Hhb27.out, Hhb34.out]; (try first | rfl | simp)]
        exact ⟨_, rfl, par_end (par_row' (liesQ_nil w32 (Par w V0.heap.size [] P)) hW38 (by omega) (by have := Z0.out; omega)) (by have := Z0.out; omega), kept_set (kept_trans Kk9.out (kept_trans Kk14.out (kept_trans Kk22.out (kept_trans Kk29.out Kk36.out)))) hW38 (by omega)⟩
      | true =>
        have kvV0 : Sees V0 (w.heap.size + 5) w32 := sees_kept _ (kept_trans Kk14.out (kept_trans Kk22.out (kept_trans Kk29.out Kk36.out)))
        go_wp2_with (refine stop_load 45 (.tmp 11) rfl ?_)
        intro _
        refine wpList_load_part (w.heap.size + 4) 0 45 (.tmp 11) #[.int .i64 s.i, .int .i64 s.a.k, .int .i64 s.a.i, .int .i64 s.a.j, .int .i64 s.a.n, (.slice asa s.a.kids.length csa), .int .i64 s.b.k, .int .i64 s.b.i, .int .i64 s.b.j, .int .i64 s.b.n, (.slice asb s.b.kids.length csb), .int .i64 s.x.k, .int .i64 s.x.i, .int .i64 s.x.j, .int .i64 s.x.n, (.slice asx s.x.kids.length csx), .int .i64 s.y.k, .int .i64 s.y.i, .int .i64 s.y.j, .int .i64 s.y.n, (.slice asy s.y.kids.length csy), .int .i64 s.h.k, .int .i64 s.h.i, .int .i64 s.h.j, .int .i64 s.h.n, (.slice ash s.h.kids.length csh)] dr (blk_at Hx5.out (kept_trans Kk14.out (kept_trans Kk22.out (kept_trans Kk29.out Kk36.out)))) (by rfl) rfl (by rfl) (by rfl) dr1 (by cases dr <;> first | rfl | exact dr2) (by kernel_rfl) ?_
        go_wp2_with fail
        clear kvV0
        refine (rtold_any s (Par w V0.heap.size [] P) _ (.slice asa s.a.kids.length csa) (.slice asb s.b.kids.length csb) (.slice asx s.x.kids.length csx) (.slice asy s.y.kids.length csy) (.slice ash s.h.kids.length csh) (show He.fine s from ⟨Gs.out.1, Gs.out.2.1, Gs.out.2.2.1, Gs.out.2.2.2.1, Gs.out.2.2.2.2.1, Gs.out.2.2.2.2.2⟩) ⟨(HLsa.out.later (kept_trans Kk14.out (kept_trans Kk22.out (kept_trans Kk29.out Kk36.out)))), (HLsb.out.later (kept_trans Kk14.out (kept_trans Kk22.out (kept_trans Kk29.out Kk36.out)))), (HLsx.out.later (kept_trans Kk14.out (kept_trans Kk22.out (kept_trans Kk29.out Kk36.out)))), (HLsy.out.later (kept_trans Kk14.out (kept_trans Kk22.out (kept_trans Kk29.out Kk36.out)))), (HLsh.out.later (kept_trans Kk14.out (kept_trans Kk22.out (kept_trans Kk29.out Kk36.out))))⟩).mono ?_
        obtain ⟨rb42, hb41⟩ : ∃ qb, (toldB s) = qb := ⟨_, rfl⟩
        rw [hb41]
        have Hhb41 := Lib.hid hb41
        clear hb41
        rintro e w39 ⟨rfl, k40⟩
        have Kk43 := Lib.hid k40
        clear k40
        cases rb42 with
        | false =>
          have kvV0 : Sees V0 (w.heap.size + 5) w39 := sees_kept _ (kept_trans Kk14.out (kept_trans Kk22.out (kept_trans Kk29.out (kept_trans Kk36.out Kk43.out))))
          go_wp2_with (refine stop_store 32 (.tmp 12) (.tmp 34) rfl ?_)
          intro _
          refine wpList_store_part_n (by rfl) 32 (.tmp 12) (.tmp 34) rfl (w.heap.size + 5) 0 #[.int .i64 0, .int .i64 0, .int .i64 0, .int .i64 0, .slice none 0 0] (by rfl) (by rfl) 32 size_term (row_ok rfl) ?_
          intro W44 hW44
          clear kvV0
          subst hW44
          refine ⟨_, #[.int .i64 0, .int .i64 0, .int .i64 0, .int .i64 0, .slice none 0 0], (blk_at Hx6.out (kept_trans Kk14.out (kept_trans Kk22.out (kept_trans Kk29.out (kept_trans Kk36.out Kk43.out))))), rfl, Nat.le_of_ble_eq_true rfl, ?_⟩
          intro W45 hW45
          go_wp2_with fail
          refine bodyPost_ret (results_cell_row rfl _ _ (w.heap.size + 5) 32 _ _ du rfl (blk_same (blk_at Hx6.out (kept_trans Kk14.out (kept_trans Kk22.out (kept_trans Kk29.out (kept_trans Kk36.out Kk43.out))))) hW45) hu1 (by cases du <;> first | rfl | exact hu2) size_term) rfl ?_
          rw [show cgEq i a c e r s = (Tm.mk 0 0 0 0 []) from by unfold cgEq; rw [Hhb12.out, Hhb27.out, Hhb34.out, Hhb41.out]; (try first | rfl | simp)]
          exact ⟨_, rfl, par_end (par_row' (liesQ_nil w39 (Par w V0.heap.size [] P)) hW45 (by omega) (by have := Z0.out; omega)) (by have := Z0.out; omega), kept_set (kept_trans Kk9.out (kept_trans Kk14.out (kept_trans Kk22.out (kept_trans Kk29.out (kept_trans Kk36.out Kk43.out))))) hW45 (by omega)⟩
        | true =>
          have kvV0 : Sees V0 (w.heap.size + 5) w39 := sees_kept _ (kept_trans Kk14.out (kept_trans Kk22.out (kept_trans Kk29.out (kept_trans Kk36.out Kk43.out))))
          go_wp2_with (refine stop_load 32 (.tmp 7) rfl ?_)
          intro _
          refine wpList_load_part (w.heap.size) 0 32 (.tmp 7) #[.int .i64 a.k, .int .i64 a.i, .int .i64 a.j, .int .i64 a.n, (.slice aa a.kids.length ca)] du (blk_at Hx1.out (kept_trans Kk14.out (kept_trans Kk22.out (kept_trans Kk29.out (kept_trans Kk36.out Kk43.out))))) (by rfl) rfl (by rfl) (by rfl) hu1 (by cases du <;> first | rfl | exact hu2) size_term ?_
          go_wp2_with (refine stop_load 32 (.tmp 8) rfl ?_)
          intro _
          refine wpList_load_part (w.heap.size + 1) 0 32 (.tmp 8) #[.int .i64 c.k, .int .i64 c.i, .int .i64 c.j, .int .i64 c.n, (.slice ac c.kids.length cc)] du (blk_at Hx2.out (kept_trans Kk14.out (kept_trans Kk22.out (kept_trans Kk29.out (kept_trans Kk36.out Kk43.out))))) (by rfl) rfl (by rfl) (by rfl) hu1 (by cases du <;> first | rfl | exact hu2) size_term ?_
          go_wp2_with (refine stop_load 32 (.tmp 9) rfl ?_)
          intro _
          refine wpList_load_part (w.heap.size + 2) 0 32 (.tmp 9) #[.int .i64 e.k, .int .i64 e.i, .int .i64 e.j, .int .i64 e.n, (.slice ae e.kids.length ce)] du (blk_at Hx3.out (kept_trans Kk14.out (kept_trans Kk22.out (kept_trans Kk29.out (kept_trans Kk36.out Kk43.out))))) (by rfl) rfl (by rfl) (by rfl) hu1 (by cases du <;> first | rfl | exact hu2) size_term ?_
          go_wp2_with (refine stop_load 32 (.tmp 39) rfl ?_)
          intro _
          refine wpList_load_part (w.heap.size + 3) 11 32 (.tmp 39) #[.int .i64 r.x.k, .int .i64 r.x.i, .int .i64 r.x.j, .int .i64 r.x.n, (.slice arx r.x.kids.length crx)] du (blk_at Hx4.out (kept_trans Kk14.out (kept_trans Kk22.out (kept_trans Kk29.out (kept_trans Kk36.out Kk43.out))))) (by rfl) rfl (by rfl) (by rfl) hu1 (by cases du <;> first | rfl | exact hu2) size_term ?_
          go_wp2_with (refine stop_load 32 (.tmp 41) rfl ?_)
          intro _
          refine wpList_load_part (w.heap.size + 3) 16 32 (.tmp 41) #[.int .i64 r.y.k, .int .i64 r.y.i, .int .i64 r.y.j, .int .i64 r.y.n, (.slice ary r.y.kids.length cry)] du (blk_at Hx4.out (kept_trans Kk14.out (kept_trans Kk22.out (kept_trans Kk29.out (kept_trans Kk36.out Kk43.out))))) (by rfl) rfl (by rfl) (by rfl) hu1 (by cases du <;> first | rfl | exact hu2) size_term ?_
          go_wp2_with (refine stop_load 32 (.tmp 43) rfl ?_)
          intro _
          refine wpList_load_part (w.heap.size + 3) 21 32 (.tmp 43) #[.int .i64 r.h.k, .int .i64 r.h.i, .int .i64 r.h.j, .int .i64 r.h.n, (.slice arh r.h.kids.length crh)] du (blk_at Hx4.out (kept_trans Kk14.out (kept_trans Kk22.out (kept_trans Kk29.out (kept_trans Kk36.out Kk43.out))))) (by rfl) rfl (by rfl) (by rfl) hu1 (by cases du <;> first | rfl | exact hu2) size_term ?_
          go_wp2_with (refine stop_load 32 (.tmp 45) rfl ?_)
          intro _
          refine wpList_load_part (w.heap.size + 4) 11 32 (.tmp 45) #[.int .i64 s.x.k, .int .i64 s.x.i, .int .i64 s.x.j, .int .i64 s.x.n, (.slice asx s.x.kids.length csx)] du (blk_at Hx5.out (kept_trans Kk14.out (kept_trans Kk22.out (kept_trans Kk29.out (kept_trans Kk36.out Kk43.out))))) (by rfl) rfl (by rfl) (by rfl) hu1 (by cases du <;> first | rfl | exact hu2) size_term ?_
          go_wp2_with (refine stop_load 32 (.tmp 47) rfl ?_)
          intro _
          refine wpList_load_part (w.heap.size + 4) 16 32 (.tmp 47) #[.int .i64 s.y.k, .int .i64 s.y.i, .int .i64 s.y.j, .int .i64 s.y.n, (.slice asy s.y.kids.length csy)] du (blk_at Hx5.out (kept_trans Kk14.out (kept_trans Kk22.out (kept_trans Kk29.out (kept_trans Kk36.out Kk43.out))))) (by rfl) rfl (by rfl) (by rfl) hu1 (by cases du <;> first | rfl | exact hu2) size_term ?_
          go_wp2_with (refine stop_load 32 (.tmp 49) rfl ?_)
          intro _
          refine wpList_load_part (w.heap.size + 4) 21 32 (.tmp 49) #[.int .i64 s.h.k, .int .i64 s.h.i, .int .i64 s.h.j, .int .i64 s.h.n, (.slice ash s.h.kids.length csh)] du (blk_at Hx5.out (kept_trans Kk14.out (kept_trans Kk22.out (kept_trans Kk29.out (kept_trans Kk36.out Kk43.out))))) (by rfl) rfl (by rfl) (by rfl) hu1 (by cases du <;> first | rfl | exact hu2) size_term ?_
          go_wp2_with fail
          refine at_world (fun W47 hW47 => ?_)
          clear kvV0
          obtain ⟨k49, x48, z50⟩ := alloc1 hW47
          have Kk51 := Lib.hid k49
          clear k49
          have Hx48 := Lib.hid x48
          have Hz50 := Lib.hid z50
          clear x48 z50 hW47
          have kq53 := (kept_trans Kk14.out (kept_trans Kk22.out (kept_trans Kk29.out (kept_trans Kk36.out (kept_trans Kk43.out Kk51.out)))))
          have HR52 : Hid (LiesQ W47 (Par w V0.heap.size [] P) [a, c, e, r.x, r.y, r.h, s.x, s.y, s.h] (.slice (some ⟨w39.heap.size, 0, none⟩) 9 9)) := q_row [(a, (.slice aa a.kids.length ca)), (c, (.slice ac c.kids.length cc)), (e, (.slice ae e.kids.length ce)), (r.x, (.slice arx r.x.kids.length crx)), (r.y, (.slice ary r.y.kids.length cry)), (r.h, (.slice arh r.h.kids.length crh)), (s.x, (.slice asx s.x.kids.length csx)), (s.y, (.slice asy s.y.kids.length csy)), (s.h, (.slice ash s.h.kids.length csh))] _ rfl Hx48.out (par_new (Below.size (kept_trans Kk14.out (kept_trans Kk22.out (kept_trans Kk29.out (kept_trans Kk36.out Kk43.out))))) (xlt_nil _) (Nat.le_refl _)) (List.forall_mem_cons.2 ⟨⟨Ga.out, (HLa.out.later kq53)⟩, (List.forall_mem_cons.2 ⟨⟨Gc.out, (HLc.out.later kq53)⟩, (List.forall_mem_cons.2 ⟨⟨Ge.out, (HLe.out.later kq53)⟩, (List.forall_mem_cons.2 ⟨⟨Gr.out.2.2.2.1, (HLrx.out.later kq53)⟩, (List.forall_mem_cons.2 ⟨⟨Gr.out.2.2.2.2.1, (HLry.out.later kq53)⟩, (List.forall_mem_cons.2 ⟨⟨Gr.out.2.2.2.2.2, (HLrh.out.later kq53)⟩, (List.forall_mem_cons.2 ⟨⟨Gs.out.2.2.2.1, (HLsx.out.later kq53)⟩, (List.forall_mem_cons.2 ⟨⟨Gs.out.2.2.2.2.1, (HLsy.out.later kq53)⟩, (List.forall_mem_cons.2 ⟨⟨Gs.out.2.2.2.2.2, (HLsh.out.later kq53)⟩, (fun _ h => nomatch h)⟩)⟩)⟩)⟩)⟩)⟩)⟩)⟩)⟩) (Nat.le_of_ble_eq_true rfl)
          clear kq53
          refine (ruse_any 20 i 0 [a, c, e, r.x, r.y, r.h, s.x, s.y, s.h] (Par w V0.heap.size [] P) _ _ (show I64 20 from by unfold I64; decide) Ri.out (show I64 0 from by unfold I64; decide) HR52.out (Nat.le_of_ble_eq_true rfl)).mono ?_
          obtain ⟨U61, hU61⟩ : ∃ qu, useT 20 i 0 [a, c, e, r.x, r.y, r.h, s.x, s.y, s.h] = qu := ⟨_, rfl⟩
          rw [hU61]
          have HU61 := Lib.hid hU61
          clear hU61
          rintro e w54 ⟨s56, rfl, hl57, k55⟩
          obtain ⟨a58, c59, S60, rfl, -⟩ := hl57.out
          have Kk62 := Lib.hid k55
          clear k55
          have Hhl57 : Hid (LiesQ w54 (Par w V0.heap.size [] P) U61.kids _) := par_give hl57 (Below.size (kept_trans Kk14.out (kept_trans Kk22.out (kept_trans Kk29.out (kept_trans Kk36.out (kept_trans Kk43.out Kk51.out)))))) (xlt_nil _)
          clear hl57
          have kvV0 : Sees V0 (w.heap.size + 5) w54 := sees_kept _ (kept_trans Kk14.out (kept_trans Kk22.out (kept_trans Kk29.out (kept_trans Kk36.out (kept_trans Kk43.out (kept_trans Kk51.out Kk62.out))))))
          go_wp2_with (refine stop_store 32 (.tmp 12) (.tmp 52) rfl ?_)
          intro _
          refine wpList_store_part_n (by rfl) 32 (.tmp 12) (.tmp 52) rfl (w.heap.size + 5) 0 #[.int .i64 U61.k, .int .i64 U61.i, .int .i64 U61.j, .int .i64 U61.n, (.slice a58 U61.kids.length c59)] (by rfl) (by rfl) 32 size_term (row_ok rfl) ?_
          intro W63 hW63
          clear kvV0
          subst hW63
          refine ⟨_, #[.int .i64 U61.k, .int .i64 U61.i, .int .i64 U61.j, .int .i64 U61.n, (.slice a58 U61.kids.length c59)], (blk_at Hx6.out (kept_trans Kk14.out (kept_trans Kk22.out (kept_trans Kk29.out (kept_trans Kk36.out (kept_trans Kk43.out (kept_trans Kk51.out Kk62.out))))))), rfl, Nat.le_of_ble_eq_true rfl, ?_⟩
          intro W64 hW64
          go_wp2_with fail
          refine bodyPost_ret (results_cell_row rfl _ _ (w.heap.size + 5) 32 _ _ du rfl (blk_same (blk_at Hx6.out (kept_trans Kk14.out (kept_trans Kk22.out (kept_trans Kk29.out (kept_trans Kk36.out (kept_trans Kk43.out (kept_trans Kk51.out Kk62.out))))))) hW64) hu1 (by cases du <;> first | rfl | exact hu2) size_term) rfl ?_
          rw [show cgEq i a c e r s = U61 from by unfold cgEq; rw [Hhb12.out, Hhb27.out, Hhb34.out, Hhb41.out]; rw [← HU61.out]; (try first | rfl | simp)]
          exact ⟨_, rfl, par_end (par_row' Hhl57.out hW64 (by omega) (by have := Z0.out; omega)) (by have := Z0.out; omega), kept_set (kept_trans Kk9.out (kept_trans Kk14.out (kept_trans Kk22.out (kept_trans Kk29.out (kept_trans Kk36.out (kept_trans Kk43.out (kept_trans Kk51.out Kk62.out))))))) hW64 (by omega)⟩

def rcReflr3_0 : Oper := { dst := some 28, op := Go.Op.move (Go.Operand.tmp 0), type := 3, pos := "ref.go:199", after := #[], guard := none }
def rcReflr3_1 : Oper := { dst := some 29, op := Go.Op.load 32 (Go.Operand.tmp 6), type := 32, pos := "ref.go:199", after := #[], guard := none }
def rcReflr3_2 : Oper := { dst := some 30, op := Go.Op.fieldAddr 45 (Go.Operand.tmp 9) 3, type := 0, pos := "ref.go:199", after := #[], guard := none }
def rcReflr3_3 : Oper := { dst := some 31, op := Go.Op.load 32 (Go.Operand.tmp 30), type := 32, pos := "ref.go:199", after := #[{ on := 2, ground := Go.Ground.data }], guard := none }
def rcReflr3_4 : Oper := { dst := some 32, op := Go.Op.fieldAddr 45 (Go.Operand.tmp 9) 3, type := 0, pos := "ref.go:199", after := #[], guard := none }
def rcReflr3_5 : Oper := { dst := some 33, op := Go.Op.load 32 (Go.Operand.tmp 32), type := 32, pos := "ref.go:199", after := #[{ on := 4, ground := Go.Ground.data }], guard := none }
def rcReflr3_6 : Oper := { dst := some 34, op := Go.Op.buildSlice 30 3 #[(0, Go.Operand.tmp 29), (1, Go.Operand.tmp 31), (2, Go.Operand.tmp 33)], type := 30, pos := "ref.go:199", after := #[{ on := 1, ground := Go.Ground.data }, { on := 3, ground := Go.Ground.data }, { on := 5, ground := Go.Ground.data }], guard := none }
def rcReflr3_7 : Oper := { dst := some 35, op := Go.Op.call { callee := Go.Callee.value (Go.Operand.func 103), args := #[Go.Operand.const (Go.Value.int Go.IntKind.i64 20), Go.Operand.tmp 34], argTypes := #[3, 30] }, type := 32, pos := "ref.go:199", after := #[{ on := 6, ground := Go.Ground.data }], guard := none }
def rcReflr3_8 : Oper := { dst := some 36, op := Go.Op.load 32 (Go.Operand.tmp 7), type := 32, pos := "ref.go:199", after := #[], guard := none }
def rcReflr3_9 : Oper := { dst := some 37, op := Go.Op.fieldAddr 45 (Go.Operand.tmp 9) 4, type := 0, pos := "ref.go:199", after := #[], guard := none }
def rcReflr3_10 : Oper := { dst := some 38, op := Go.Op.load 32 (Go.Operand.tmp 37), type := 32, pos := "ref.go:199", after := #[{ on := 9, ground := Go.Ground.data }], guard := none }
def rcReflr3_11 : Oper := { dst := some 39, op := Go.Op.fieldAddr 45 (Go.Operand.tmp 9) 4, type := 0, pos := "ref.go:199", after := #[], guard := none }
def rcReflr3_12 : Oper := { dst := some 40, op := Go.Op.load 32 (Go.Operand.tmp 39), type := 32, pos := "ref.go:199", after := #[{ on := 11, ground := Go.Ground.data }], guard := none }
def rcReflr3_13 : Oper := { dst := some 41, op := Go.Op.buildSlice 30 3 #[(0, Go.Operand.tmp 36), (1, Go.Operand.tmp 38), (2, Go.Operand.tmp 40)], type := 30, pos := "ref.go:199", after := #[{ on := 8, ground := Go.Ground.data }, { on := 10, ground := Go.Ground.data }, { on := 12, ground := Go.Ground.data }], guard := none }
def rcReflr3_14 : Oper := { dst := some 42, op := Go.Op.call { callee := Go.Callee.value (Go.Operand.func 103), args := #[Go.Operand.const (Go.Value.int Go.IntKind.i64 20), Go.Operand.tmp 41], argTypes := #[3, 30] }, type := 32, pos := "ref.go:199", after := #[{ on := 13, ground := Go.Ground.data }, { on := 7, ground := Go.Ground.chain }], guard := none }
def rcReflr3_15 : Oper := { dst := some 43, op := Go.Op.load 32 (Go.Operand.tmp 6), type := 32, pos := "ref.go:199", after := #[], guard := none }
def rcReflr3_16 : Oper := { dst := some 44, op := Go.Op.fieldAddr 45 (Go.Operand.tmp 9) 3, type := 0, pos := "ref.go:199", after := #[], guard := none }
def rcReflr3_17 : Oper := { dst := some 45, op := Go.Op.load 32 (Go.Operand.tmp 44), type := 32, pos := "ref.go:199", after := #[{ on := 16, ground := Go.Ground.data }], guard := none }
def rcReflr3_18 : Oper := { dst := some 46, op := Go.Op.buildSlice 30 2 #[(0, Go.Operand.tmp 43), (1, Go.Operand.tmp 45)], type := 30, pos := "ref.go:199", after := #[{ on := 15, ground := Go.Ground.data }, { on := 17, ground := Go.Ground.data }], guard := none }
def rcReflr3_19 : Oper := { dst := some 47, op := Go.Op.call { callee := Go.Callee.value (Go.Operand.func 103), args := #[Go.Operand.const (Go.Value.int Go.IntKind.i64 21), Go.Operand.tmp 46], argTypes := #[3, 30] }, type := 32, pos := "ref.go:199", after := #[{ on := 18, ground := Go.Ground.data }, { on := 14, ground := Go.Ground.chain }], guard := none }
def rcReflr3_20 : Oper := { dst := some 48, op := Go.Op.load 32 (Go.Operand.tmp 7), type := 32, pos := "ref.go:199", after := #[], guard := none }
def rcReflr3_21 : Oper := { dst := some 49, op := Go.Op.fieldAddr 45 (Go.Operand.tmp 9) 4, type := 0, pos := "ref.go:199", after := #[], guard := none }
def rcReflr3_22 : Oper := { dst := some 50, op := Go.Op.load 32 (Go.Operand.tmp 49), type := 32, pos := "ref.go:199", after := #[{ on := 21, ground := Go.Ground.data }], guard := none }
def rcReflr3_23 : Oper := { dst := some 51, op := Go.Op.buildSlice 30 2 #[(0, Go.Operand.tmp 48), (1, Go.Operand.tmp 50)], type := 30, pos := "ref.go:199", after := #[{ on := 20, ground := Go.Ground.data }, { on := 22, ground := Go.Ground.data }], guard := none }
def rcReflr3_24 : Oper := { dst := some 52, op := Go.Op.call { callee := Go.Callee.value (Go.Operand.func 103), args := #[Go.Operand.const (Go.Value.int Go.IntKind.i64 21), Go.Operand.tmp 51], argTypes := #[3, 30] }, type := 32, pos := "ref.go:199", after := #[{ on := 23, ground := Go.Ground.data }, { on := 19, ground := Go.Ground.chain }], guard := none }
def rcReflr3_25 : Oper := { dst := some 53, op := Go.Op.move (Go.Operand.tmp 0), type := 3, pos := "ref.go:199", after := #[], guard := none }
def rcReflr3_26 : Oper := { dst := some 54, op := Go.Op.load 32 (Go.Operand.tmp 6), type := 32, pos := "ref.go:199", after := #[], guard := none }
def rcReflr3_27 : Oper := { dst := some 55, op := Go.Op.load 32 (Go.Operand.tmp 7), type := 32, pos := "ref.go:199", after := #[], guard := none }
def rcReflr3_28 : Oper := { dst := some 56, op := Go.Op.load 32 (Go.Operand.tmp 8), type := 32, pos := "ref.go:199", after := #[], guard := none }
def rcReflr3_29 : Oper := { dst := some 57, op := Go.Op.fieldAddr 45 (Go.Operand.tmp 9) 3, type := 0, pos := "ref.go:199", after := #[], guard := none }
def rcReflr3_30 : Oper := { dst := some 58, op := Go.Op.load 32 (Go.Operand.tmp 57), type := 32, pos := "ref.go:199", after := #[{ on := 29, ground := Go.Ground.data }], guard := none }
def rcReflr3_31 : Oper := { dst := some 59, op := Go.Op.fieldAddr 45 (Go.Operand.tmp 9) 4, type := 0, pos := "ref.go:199", after := #[], guard := none }
def rcReflr3_32 : Oper := { dst := some 60, op := Go.Op.load 32 (Go.Operand.tmp 59), type := 32, pos := "ref.go:199", after := #[{ on := 31, ground := Go.Ground.data }], guard := none }
def rcReflr3_33 : Oper := { dst := some 61, op := Go.Op.fieldAddr 45 (Go.Operand.tmp 9) 5, type := 0, pos := "ref.go:199", after := #[], guard := none }
def rcReflr3_34 : Oper := { dst := some 62, op := Go.Op.load 32 (Go.Operand.tmp 61), type := 32, pos := "ref.go:199", after := #[{ on := 33, ground := Go.Ground.data }], guard := none }
def rcReflr3_35 : Oper := { dst := some 63, op := Go.Op.buildSlice 30 6 #[(0, Go.Operand.tmp 54), (1, Go.Operand.tmp 55), (2, Go.Operand.tmp 56), (3, Go.Operand.tmp 58), (4, Go.Operand.tmp 60), (5, Go.Operand.tmp 62)], type := 30, pos := "ref.go:199", after := #[{ on := 26, ground := Go.Ground.data }, { on := 27, ground := Go.Ground.data }, { on := 28, ground := Go.Ground.data }, { on := 30, ground := Go.Ground.data }, { on := 32, ground := Go.Ground.data }, { on := 34, ground := Go.Ground.data }], guard := none }
def rcReflr3_36 : Oper := { dst := some 64, op := Go.Op.call { callee := Go.Callee.value (Go.Operand.func 109), args := #[Go.Operand.const (Go.Value.int Go.IntKind.i64 21), Go.Operand.tmp 53, Go.Operand.const (Go.Value.int Go.IntKind.i64 0), Go.Operand.tmp 63], argTypes := #[3, 3, 3, 30] }, type := 32, pos := "ref.go:199", after := #[{ on := 25, ground := Go.Ground.data }, { on := 35, ground := Go.Ground.data }, { on := 24, ground := Go.Ground.chain }], guard := none }
def rcReflr3_37 : Oper := { dst := some 65, op := Go.Op.build 45 #[(0, Go.Operand.tmp 28), (1, Go.Operand.tmp 35), (2, Go.Operand.tmp 42), (3, Go.Operand.tmp 47), (4, Go.Operand.tmp 52), (5, Go.Operand.tmp 64)], type := 45, pos := "ref.go:199", after := #[{ on := 0, ground := Go.Ground.data }, { on := 7, ground := Go.Ground.data }, { on := 14, ground := Go.Ground.data }, { on := 19, ground := Go.Ground.data }, { on := 24, ground := Go.Ground.data }, { on := 36, ground := Go.Ground.data }], guard := none }
def rcReflr3_38 : Oper := { dst := none, op := Go.Op.store 45 (Go.Operand.tmp 10) (Go.Operand.tmp 65), type := 0, pos := "ref.go:199", after := #[{ on := 37, ground := Go.Ground.data }, { on := 36, ground := Go.Ground.chain }, { on := 0, ground := Go.Ground.phase }, { on := 1, ground := Go.Ground.phase }, { on := 2, ground := Go.Ground.phase }, { on := 3, ground := Go.Ground.phase }, { on := 4, ground := Go.Ground.phase }, { on := 5, ground := Go.Ground.phase }, { on := 6, ground := Go.Ground.phase }, { on := 7, ground := Go.Ground.phase }, { on := 8, ground := Go.Ground.phase }, { on := 9, ground := Go.Ground.phase }, { on := 10, ground := Go.Ground.phase }, { on := 11, ground := Go.Ground.phase }, { on := 12, ground := Go.Ground.phase }, { on := 13, ground := Go.Ground.phase }, { on := 14, ground := Go.Ground.phase }, { on := 15, ground := Go.Ground.phase }, { on := 16, ground := Go.Ground.phase }, { on := 17, ground := Go.Ground.phase }, { on := 18, ground := Go.Ground.phase }, { on := 19, ground := Go.Ground.phase }, { on := 20, ground := Go.Ground.phase }, { on := 21, ground := Go.Ground.phase }, { on := 22, ground := Go.Ground.phase }, { on := 23, ground := Go.Ground.phase }, { on := 24, ground := Go.Ground.phase }, { on := 25, ground := Go.Ground.phase }, { on := 26, ground := Go.Ground.phase }, { on := 27, ground := Go.Ground.phase }, { on := 28, ground := Go.Ground.phase }, { on := 29, ground := Go.Ground.phase }, { on := 30, ground := Go.Ground.phase }, { on := 31, ground := Go.Ground.phase }, { on := 32, ground := Go.Ground.phase }, { on := 33, ground := Go.Ground.phase }, { on := 34, ground := Go.Ground.phase }, { on := 35, ground := Go.Ground.phase }, { on := 36, ground := Go.Ground.phase }, { on := 37, ground := Go.Ground.phase }], guard := none }
end Go.Proofs.Ytkdceahmknhojaa
