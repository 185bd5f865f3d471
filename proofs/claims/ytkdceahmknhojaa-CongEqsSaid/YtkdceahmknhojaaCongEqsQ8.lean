/-
  Facts and contracts that the proof of CongEqs uses.
-/
import Derived.Test.YtkdceahmknhojaaRows
import Derived.WalkKit
import Derived.Lib.Hide
import Derived.KernelRfl
import Derived.Deep.RegionWith
import Derived.Deep.RegionHeld3
import Derived.Deep.AppendLies
import Derived.Laws.Rows
import Derived.Laws.IdiomCopy
import Derived.Deep.Slices
import Derived.Lib.QuietBelow
import Derived.StillTailTactics
import Derived.BigQuiet
import Derived.IntWalk
import Derived.OwnWalk
import Derived.Deep.RegionLaw
import Derived.Deep.QuietTactic
import Derived.Deep.LoopGhost
import Derived.Deep.DeepCutAuto
import Derived.Deep.MidRow
import Derived.OrdersHeld
import Derived.Laws.Tables
import Derived.Laws.CopyOwn
import Derived.Laws.CopyRow
import Derived.Deep.Upon
import Derived.ArgAppend
import Derived.Deep.RegionHeld
import Derived.Lib.MinMax
import Derived.ProofKit
import Derived.OpenShut
import Derived.Carry
import Derived.ChangeSlices
import Derived.JoinedOf
import Derived.Test.YtkdceahmknhojaaCongEqsQ7
namespace Go.Proofs.Ytkdceahmknhojaa
open Go.RowKit
set_option maxRecDepth 20000 in
set_option maxHeartbeats 4000000 in
theorem rcRefl_any (i : Int) (a : Tm) (c : Tm) (e : Tm) (r : He) (P : Nat → Prop) (w : World) (sa : Value) (sc : Value) (se : Value) (sra : Value) (srb : Value) (srx : Value) (sry : Value) (srh : Value) (hri : I64 i) (hfa : a.fine) (hla : LiesQ w P a.kids sa) (hfc : c.fine) (hlc : LiesQ w P c.kids sc) (hfe : e.fine) (hle : LiesQ w P e.kids se) (hfr : r.fine) (hlr : HQ w P r sra srb srx sry srh) : Calls Try.prog 75 #[.int .i64 i, tv a sa, tv c sc, tv e se, hv r sra srb srx sry srh] w (GivesHP P (cgRefl i a c e r) w) := by
  have Ri := Lib.hid hri
  clear hri
  have Ga := Lib.hid hfa
  clear hfa
  obtain ⟨aa, ca, Sa, rfl, -⟩ := hla.out
  have Gc := Lib.hid hfc
  clear hfc
  obtain ⟨ac, cc, Sc, rfl, -⟩ := hlc.out
  have Ge := Lib.hid hfe
  clear hfe
  obtain ⟨ae, ce, Se, rfl, -⟩ := hle.out
  have Gr := Lib.hid hfr
  clear hfr
  obtain ⟨hlra, hlrb, hlrx, hlry, hlrh⟩ := hlr
  obtain ⟨ara, cra, Sra, rfl, -⟩ := hlra.out
  obtain ⟨arb, crb, Srb, rfl, -⟩ := hlrb.out
  obtain ⟨arx, crx, Srx, rfl, -⟩ := hlrx.out
  obtain ⟨ary, cry, Sry, rfl, -⟩ := hlry.out
  obtain ⟨arh, crh, Srh, rfl, -⟩ := hlrh.out
  obtain ⟨du, hu1, hu2⟩ := under_term
  obtain ⟨dr, dr1, dr2⟩ := under_of 45 (by kernel_rfl)
  unfold hv
  unfold tv
  go_enter Try.func75, Try.ntmps75
  go_upto_region 1 with fail
  refine at_code (fun V0 hV0 => ?_)
  obtain ⟨k6, x1, x2, x3, x4, x5, z7⟩ := alloc5 hV0
  have Kk8 := Lib.hid k6
  clear k6
  have Hx1 := Lib.hid x1
  have Hx2 := Lib.hid x2
  have Hx3 := Lib.hid x3
  have Hx4 := Lib.hid x4
  have Hx5 := Lib.hid x5
  have Z0 := Lib.hid z7
  clear z7 x1 x2 x3 x4 x5 hV0
  have HLa : Hid (LiesQ V0 (Par w V0.heap.size [] P) a.kids _) := (par_in _ _ hla).later Kk8.out
  clear hla
  have HLc : Hid (LiesQ V0 (Par w V0.heap.size [] P) c.kids _) := (par_in _ _ hlc).later Kk8.out
  clear hlc
  have HLe : Hid (LiesQ V0 (Par w V0.heap.size [] P) e.kids _) := (par_in _ _ hle).later Kk8.out
  clear hle
  have HLra : Hid (LiesQ V0 (Par w V0.heap.size [] P) r.a.kids _) := (par_in _ _ hlra).later Kk8.out
  clear hlra
  have HLrb : Hid (LiesQ V0 (Par w V0.heap.size [] P) r.b.kids _) := (par_in _ _ hlrb).later Kk8.out
  clear hlrb
  have HLrx : Hid (LiesQ V0 (Par w V0.heap.size [] P) r.x.kids _) := (par_in _ _ hlrx).later Kk8.out
  clear hlrx
  have HLry : Hid (LiesQ V0 (Par w V0.heap.size [] P) r.y.kids _) := (par_in _ _ hlry).later Kk8.out
  clear hlry
  have HLrh : Hid (LiesQ V0 (Par w V0.heap.size [] P) r.h.kids _) := (par_in _ _ hlrh).later Kk8.out
  clear hlrh
  have kvV0 : Sees V0 (w.heap.size + 4) V0 := sees_kept _ (kept_refl _)
  go_wp2_with fail
  clear kvV0
  refine (rlevel_any i 3 _ Ri.out (show I64 3 from by unfold I64; decide) (by decide) (by decide)).mono ?_
  obtain ⟨rb12, hb11⟩ : ∃ qb, (levN 3 i) = qb := ⟨_, rfl⟩
  rw [hb11]
  have Hhb11 := Lib.hid hb11
  clear hb11
  rintro e w9 ⟨rfl, k10⟩
  have Kk13 := Lib.hid k10
  clear k10
  cases rb12 with
  | false =>
    have kvV0 : Sees V0 (w.heap.size + 4) w9 := sees_kept _ Kk13.out
    go_wp2_with (refine stop_store 45 (.tmp 10) (.tmp 27) rfl ?_)
    intro _
    refine wpList_store_part_n (by rfl) 45 (.tmp 10) (.tmp 27) rfl (w.heap.size + 4) 0 #[.int .i64 0, .int .i64 0, .int .i64 0, .int .i64 0, .int .i64 0, .slice none 0 0, .int .i64 0, .int .i64 0, .int .i64 0, .int .i64 0, .slice none 0 0, .int .i64 0, .int .i64 0, .int .i64 0, .int .i64 0, .slice none 0 0, .int .i64 0, .int .i64 0, .int .i64 0, .int .i64 0, .slice none 0 0, .int .i64 0, .int .i64 0, .int .i64 0, .int .i64 0, .slice none 0 0] (by rfl) (by rfl) 45 (by kernel_rfl) (row_ok rfl) ?_
    intro W14 hW14
    clear kvV0
    subst hW14
    refine ⟨_, #[.int .i64 0, .int .i64 0, .int .i64 0, .int .i64 0, .int .i64 0, .slice none 0 0, .int .i64 0, .int .i64 0, .int .i64 0, .int .i64 0, .slice none 0 0, .int .i64 0, .int .i64 0, .int .i64 0, .int .i64 0, .slice none 0 0, .int .i64 0, .int .i64 0, .int .i64 0, .int .i64 0, .slice none 0 0, .int .i64 0, .int .i64 0, .int .i64 0, .int .i64 0, .slice none 0 0], (blk_at Hx5.out Kk13.out), rfl, Nat.le_of_ble_eq_true rfl, ?_⟩
    intro W15 hW15
    go_wp2_with fail
    refine bodyPost_ret (results_cell_row rfl _ _ (w.heap.size + 4) 45 _ _ dr rfl (blk_same (blk_at Hx5.out Kk13.out) hW15) dr1 (by cases dr <;> first | rfl | exact dr2) (by kernel_rfl)) rfl ?_
    rw [show cgRefl i a c e r = (⟨0, (.mk 0 0 0 0 []), (.mk 0 0 0 0 []), (.mk 0 0 0 0 []), (.mk 0 0 0 0 []), (.mk 0 0 0 0 [])⟩ : He) from by unfold cgRefl; rw [Hhb11.out]; (try first | rfl | simp)]
    exact ⟨_, _, _, _, _, rfl, ⟨par_end (par_row' (liesQ_nil w9 (Par w V0.heap.size [] P)) hW15 (by omega) (by have := Z0.out; omega)) (by have := Z0.out; omega), par_end (par_row' (liesQ_nil w9 (Par w V0.heap.size [] P)) hW15 (by omega) (by have := Z0.out; omega)) (by have := Z0.out; omega), par_end (par_row' (liesQ_nil w9 (Par w V0.heap.size [] P)) hW15 (by omega) (by have := Z0.out; omega)) (by have := Z0.out; omega), par_end (par_row' (liesQ_nil w9 (Par w V0.heap.size [] P)) hW15 (by omega) (by have := Z0.out; omega)) (by have := Z0.out; omega), par_end (par_row' (liesQ_nil w9 (Par w V0.heap.size [] P)) hW15 (by omega) (by have := Z0.out; omega)) (by have := Z0.out; omega)⟩, kept_set (kept_trans Kk8.out Kk13.out) hW15 (by omega)⟩
  | true =>
    have kvV0 : Sees V0 (w.heap.size + 4) w9 := sees_kept _ Kk13.out
    go_wp2_with (refine stop_load 32 (.tmp 6) rfl ?_)
    intro _
    refine wpList_load_part (w.heap.size) 0 32 (.tmp 6) #[.int .i64 a.k, .int .i64 a.i, .int .i64 a.j, .int .i64 a.n, (.slice aa a.kids.length ca)] du (blk_at Hx1.out Kk13.out) (by rfl) rfl (by rfl) (by rfl) hu1 (by cases du <;> first | rfl | exact hu2) size_term ?_
    go_wp2_with (refine stop_load 32 (.tmp 7) rfl ?_)
    intro _
    refine wpList_load_part (w.heap.size + 1) 0 32 (.tmp 7) #[.int .i64 c.k, .int .i64 c.i, .int .i64 c.j, .int .i64 c.n, (.slice ac c.kids.length cc)] du (blk_at Hx2.out Kk13.out) (by rfl) rfl (by rfl) (by rfl) hu1 (by cases du <;> first | rfl | exact hu2) size_term ?_
    go_wp2_with (refine stop_load 32 (.tmp 8) rfl ?_)
    intro _
    refine wpList_load_part (w.heap.size + 2) 0 32 (.tmp 8) #[.int .i64 e.k, .int .i64 e.i, .int .i64 e.j, .int .i64 e.n, (.slice ae e.kids.length ce)] du (blk_at Hx3.out Kk13.out) (by rfl) rfl (by rfl) (by rfl) hu1 (by cases du <;> first | rfl | exact hu2) size_term ?_
    go_wp2_with fail
    refine at_world (fun W17 hW17 => ?_)
    clear kvV0
    obtain ⟨k19, x18, z20⟩ := alloc1 hW17
    have Kk21 := Lib.hid k19
    clear k19
    have Hx18 := Lib.hid x18
    have Hz20 := Lib.hid z20
    clear x18 z20 hW17
    have kq23 := (kept_trans Kk13.out Kk21.out)
    have HR22 := Lib.hid (q_row3 Hx18.out Ga.out (HLa.out.later kq23) Gc.out (HLc.out.later kq23) Ge.out (HLe.out.later kq23) (par_new (Below.size Kk13.out) (xlt_nil _) (Nat.le_refl _)))
    clear kq23
    refine (rplain_any [a, c, e] _ _ HR22.out.lies).mono ?_
    obtain ⟨rb27, hb26⟩ : ∃ qb, (plainL [a, c, e]) = qb := ⟨_, rfl⟩
    rw [hb26]
    have Hhb26 := Lib.hid hb26
    clear hb26
    rintro e w24 ⟨rfl, k25⟩
    have Kk28 := Lib.hid k25
    clear k25
    cases rb27 with
    | false =>
      have kvV0 : Sees V0 (w.heap.size + 4) w24 := sees_kept _ (kept_trans Kk13.out (kept_trans Kk21.out Kk28.out))
      go_wp2_with (refine stop_store 45 (.tmp 10) (.tmp 27) rfl ?_)
      intro _
      refine wpList_store_part_n (by rfl) 45 (.tmp 10) (.tmp 27) rfl (w.heap.size + 4) 0 #[.int .i64 0, .int .i64 0, .int .i64 0, .int .i64 0, .int .i64 0, .slice none 0 0, .int .i64 0, .int .i64 0, .int .i64 0, .int .i64 0, .slice none 0 0, .int .i64 0, .int .i64 0, .int .i64 0, .int .i64 0, .slice none 0 0, .int .i64 0, .int .i64 0, .int .i64 0, .int .i64 0, .slice none 0 0, .int .i64 0, .int .i64 0, .int .i64 0, .int .i64 0, .slice none 0 0] (by rfl) (by rfl) 45 (by kernel_rfl) (row_ok rfl) ?_
      intro W29 hW29
      clear kvV0
      subst hW29
      refine ⟨_, #[.int .i64 0, .int .i64 0, .int .i64 0, .int .i64 0, .int .i64 0, .slice none 0 0, .int .i64 0, .int .i64 0, .int .i64 0, .int .i64 0, .slice none 0 0, .int .i64 0, .int .i64 0, .int .i64 0, .int .i64 0, .slice none 0 0, .int .i64 0, .int .i64 0, .int .i64 0, .int .i64 0, .slice none 0 0, .int .i64 0, .int .i64 0, .int .i64 0, .int .i64 0, .slice none 0 0], (blk_at Hx5.out (kept_trans Kk13.out (kept_trans Kk21.out Kk28.out))), rfl, Nat.le_of_ble_eq_true rfl, ?_⟩
      intro W30 hW30
      go_wp2_with fail
      refine bodyPost_ret (results_cell_row rfl _ _ (w.heap.size + 4) 45 _ _ dr rfl (blk_same (blk_at Hx5.out (kept_trans Kk13.out (kept_trans Kk21.out Kk28.out))) hW30) dr1 (by cases dr <;> first | rfl | exact dr2) (by kernel_rfl)) rfl ?_
      rw [show cgRefl i a c e r = (⟨0, (.mk 0 0 0 0 []), (.mk 0 0 0 0 []), (.mk 0 0 0 0 []), (.mk 0 0 0 0 []), (.mk 0 0 0 0 [])⟩ : He) from by unfold cgRefl; rw [Hhb11.out, Hhb26.out]; (try first | rfl | simp)]
      exact ⟨_, _, _, _, _, rfl, ⟨par_end (par_row' (liesQ_nil w24 (Par w V0.heap.size [] P)) hW30 (by omega) (by have := Z0.out; omega)) (by have := Z0.out; omega), par_end (par_row' (liesQ_nil w24 (Par w V0.heap.size [] P)) hW30 (by omega) (by have := Z0.out; omega)) (by have := Z0.out; omega), par_end (par_row' (liesQ_nil w24 (Par w V0.heap.size [] P)) hW30 (by omega) (by have := Z0.out; omega)) (by have := Z0.out; omega), par_end (par_row' (liesQ_nil w24 (Par w V0.heap.size [] P)) hW30 (by omega) (by have := Z0.out; omega)) (by have := Z0.out; omega), par_end (par_row' (liesQ_nil w24 (Par w V0.heap.size [] P)) hW30 (by omega) (by have := Z0.out; omega)) (by have := Z0.out; omega)⟩, kept_set (kept_trans Kk8.out (kept_trans Kk13.out (kept_trans Kk21.out Kk28.out))) hW30 (by omega)⟩
    | true =>
      have kvV0 : Sees V0 (w.heap.size + 4) w24 := sees_kept _ (kept_trans Kk13.out (kept_trans Kk21.out Kk28.out))
      go_wp2_with (refine stop_load 45 (.tmp 9) rfl ?_)
      intro _
      refine wpList_load_part (w.heap.size + 3) 0 45 (.tmp 9) #[.int .i64 r.i, .int .i64 r.a.k, .int .i64 r.a.i, .int .i64 r.a.j, .int .i64 r.a.n, (.slice ara r.a.kids.length cra), .int .i64 r.b.k, .int .i64 r.b.i, .int .i64 r.b.j, .int .i64 r.b.n, (.slice arb r.b.kids.length crb), .int .i64 r.x.k, .int .i64 r.x.i, .int .i64 r.x.j, .int .i64 r.x.n, (.slice arx r.x.kids.length crx), .int .i64 r.y.k, .int .i64 r.y.i, .int .i64 r.y.j, .int .i64 r.y.n, (.slice ary r.y.kids.length cry), .int .i64 r.h.k, .int .i64 r.h.i, .int .i64 r.h.j, .int .i64 r.h.n, (.slice arh r.h.kids.length crh)] dr (blk_at Hx4.out (kept_trans Kk13.out (kept_trans Kk21.out Kk28.out))) (by rfl) rfl (by rfl) (by rfl) dr1 (by cases dr <;> first | rfl | exact dr2) (by kernel_rfl) ?_
      go_wp2_with fail
      clear kvV0
      refine (rtold_any r (Par w V0.heap.size [] P) _ (.slice ara r.a.kids.length cra) (.slice arb r.b.kids.length crb) (.slice arx r.x.kids.length crx) (.slice ary r.y.kids.length cry) (.slice arh r.h.kids.length crh) (show He.fine r from ⟨Gr.out.1, Gr.out.2.1, Gr.out.2.2.1, Gr.out.2.2.2.1, Gr.out.2.2.2.2.1, Gr.out.2.2.2.2.2⟩) ⟨(HLra.out.later (kept_trans Kk13.out (kept_trans Kk21.out Kk28.out))), (HLrb.out.later (kept_trans Kk13.out (kept_trans Kk21.out Kk28.out))), (HLrx.out.later (kept_trans Kk13.out (kept_trans Kk21.out Kk28.out))), (HLry.out.later (kept_trans Kk13.out (kept_trans Kk21.out Kk28.out))), (HLrh.out.later (kept_trans Kk13.out (kept_trans Kk21.out Kk28.out)))⟩).mono ?_
      obtain ⟨rb34, hb33⟩ : ∃ qb, (toldB r) = qb := ⟨_, rfl⟩
      rw [hb33]
      have Hhb33 := Lib.hid hb33
      clear hb33
      rintro e w31 ⟨rfl, k32⟩
      have Kk35 := Lib.hid k32
      clear k32
      cases rb34 with
      | false =>
        have kvV0 : Sees V0 (w.heap.size + 4) w31 := sees_kept _ (kept_trans Kk13.out (kept_trans Kk21.out (kept_trans Kk28.out Kk35.out)))
        go_wp2_with (refine stop_store 45 (.tmp 10) (.tmp 27) rfl ?_)
        intro _
        refine wpList_store_part_n (by rfl) 45 (.tmp 10) (.tmp 27) rfl (w.heap.size + 4) 0 #[.int .i64 0, .int .i64 0, .int .i64 0, .int .i64 0, .int .i64 0, .slice none 0 0, .int .i64 0, .int .i64 0, .int .i64 0, .int .i64 0, .slice none 0 0, .int .i64 0, .int .i64 0, .int .i64 0, .int .i64 0, .slice none 0 0, .int .i64 0, .int .i64 0, .int .i64 0, .int .i64 0, .slice none 0 0, .int .i64 0, .int .i64 0, .int .i64 0, .int .i64 0, .slice none 0 0] (by rfl) (by rfl) 45 (by kernel_rfl) (row_ok rfl) ?_
        intro W36 hW36
        clear kvV0
        subst hW36
        refine ⟨_, #[.int .i64 0, .int .i64 0, .int .i64 0, .int .i64 0, .int .i64 0, .slice none 0 0, .int .i64 0, .int .i64 0, .int .i64 0, .int .i64 0, .slice none 0 0, .int .i64 0, .int .i64 0, .int .i64 0, .int .i64 0, .slice none 0 0, .int .i64 0, .int .i64 0, .int .i64 0, .int .i64 0, .slice none 0 0, .int .i64 0, .int .i64 0, .int .i64 0, .int .i64 0, .slice none 0 0], (blk_at Hx5.out (kept_trans Kk13.out (kept_trans Kk21.out (kept_trans Kk28.out Kk35.out)))), rfl, Nat.le_of_ble_eq_true rfl, ?_⟩
        intro W37 hW37
        go_wp2_with fail
        refine bodyPost_ret (results_cell_row rfl _ _ (w.heap.size + 4) 45 _ _ dr rfl (blk_same (blk_at Hx5.out (kept_trans Kk13.out (kept_trans Kk21.out (kept_trans Kk28.out Kk35.out)))) hW37) dr1 (by cases dr <;> first | rfl | exact dr2) (by kernel_rfl)) rfl ?_
        rw [show cgRefl i a c e r = (⟨0, (.mk 0 0 0 0 []), (.mk 0 0 0 0 []), (.mk 0 0 0 0 []), (.mk 0 0 0 0 []), (.mk 0 0 0 0 [])⟩ : He) from by unfold cgRefl; rw [Hhb11.out, Hhb26.out, Hhb33.out]; (try first | rfl | simp)]
        exact ⟨_, _, _, _, _, rfl, ⟨par_end (par_row' (liesQ_nil w31 (Par w V0.heap.size [] P)) hW37 (by omega) (by have := Z0.out; omega)) (by have := Z0.out; omega), par_end (par_row' (liesQ_nil w31 (Par w V0.heap.size [] P)) hW37 (by omega) (by have := Z0.out; omega)) (by have := Z0.out; omega), par_end (par_row' (liesQ_nil w31 (Par w V0.heap.size [] P)) hW37 (by omega) (by have := Z0.out; omega)) (by have := Z0.out; omega), par_end (par_row' (liesQ_nil w31 (Par w V0.heap.size [] P)) hW37 (by omega) (by have := Z0.out; omega)) (by have := Z0.out; omega), par_end (par_row' (liesQ_nil w31 (Par w V0.heap.size [] P)) hW37 (by omega) (by have := Z0.out; omega)) (by have := Z0.out; omega)⟩, kept_set (kept_trans Kk8.out (kept_trans Kk13.out (kept_trans Kk21.out (kept_trans Kk28.out Kk35.out)))) hW37 (by omega)⟩
      | true =>
        have kvV0 : Sees V0 (w.heap.size + 4) w31 := sees_kept _ (kept_trans Kk13.out (kept_trans Kk21.out (kept_trans Kk28.out Kk35.out)))
        go_wp2_with fail
        clear kvV0
        obtain ⟨W38, h39⟩ : ∃ x, World.drew w31 = x := ⟨_, rfl⟩
        have k40 : Kept w31 W38 := by rw [← h39]; exact kept_drew (kept_refl _)
        have Kk41 := Lib.hid k40
        clear k40
        refine wp_region_held_drew (S := Sees W38 (w.heap.size + 4)) (by kernel_rfl) ?_ (fun hHeld => ?_)
        · (try dsimp only)
          rw [h39]
          exact sees_kept _ (kept_refl _)
        rw [h39] at hHeld ⊢
        clear h39
        refine take_at 0 28 rcReflr3_0 (v := ?_) (Or.inl ⟨by rfl, ?_⟩) ?_
        rotate_left 1
        · ((intro w hSw; (try dsimp only at hSw); unfold rcReflr3_0; go_simp) <;> with_reducible rfl)
        (try simp only [Act.put, List.setIfInBounds_toArray, List.set_cons_zero, List.set_cons_succ])
        refine take_at 1 29 rcReflr3_1 (yields_part (w.heap.size) 0 32 (.tmp 6) #[.int .i64 a.k, .int .i64 a.i, .int .i64 a.j, .int .i64 a.n, (.slice aa a.kids.length ca)] du (fun _ h => sees_blk Hx1.out (by have := Z0.out; omega) (sees_of (kept_trans Kk13.out (kept_trans Kk21.out (kept_trans Kk28.out (kept_trans Kk35.out Kk41.out)))) h)) (by rfl) rfl (by rfl) (by rfl) hu1 (by cases du <;> first | rfl | exact hu2) size_term) ?_
        (try simp only [Act.put, List.setIfInBounds_toArray, List.set_cons_zero, List.set_cons_succ])
        refine take_at 2 30 rcReflr3_2 (v := ?_) (Or.inl ⟨by rfl, ?_⟩) ?_
        rotate_left 1
        · ((intro w hSw; (try dsimp only at hSw); unfold rcReflr3_2; go_simp) <;> with_reducible rfl)
        (try simp only [Act.put, List.setIfInBounds_toArray, List.set_cons_zero, List.set_cons_succ])
        refine take_at 3 31 rcReflr3_3 (yields_part (w.heap.size + 3) 11 32 (.tmp 30) #[.int .i64 r.x.k, .int .i64 r.x.i, .int .i64 r.x.j, .int .i64 r.x.n, (.slice arx r.x.kids.length crx)] du (fun _ h => sees_blk Hx4.out (by have := Z0.out; omega) (sees_of (kept_trans Kk13.out (kept_trans Kk21.out (kept_trans Kk28.out (kept_trans Kk35.out Kk41.out)))) h)) (by rfl) rfl (by rfl) (by rfl) hu1 (by cases du <;> first | rfl | exact hu2) size_term) ?_
        (try simp only [Act.put, List.setIfInBounds_toArray, List.set_cons_zero, List.set_cons_succ])
        refine take_at 4 32 rcReflr3_4 (v := ?_) (Or.inl ⟨by rfl, ?_⟩) ?_
        rotate_left 1
        · ((intro w hSw; (try dsimp only at hSw); unfold rcReflr3_4; go_simp) <;> with_reducible rfl)
        (try simp only [Act.put, List.setIfInBounds_toArray, List.set_cons_zero, List.set_cons_succ])
        refine take_at 5 33 rcReflr3_5 (yields_part (w.heap.size + 3) 11 32 (.tmp 32) #[.int .i64 r.x.k, .int .i64 r.x.i, .int .i64 r.x.j, .int .i64 r.x.n, (.slice arx r.x.kids.length crx)] du (fun _ h => sees_blk Hx4.out (by have := Z0.out; omega) (sees_of (kept_trans Kk13.out (kept_trans Kk21.out (kept_trans Kk28.out (kept_trans Kk35.out Kk41.out)))) h)) (by rfl) rfl (by rfl) (by rfl) hu1 (by cases du <;> first | rfl | exact hu2) size_term) ?_
        (try simp only [Act.put, List.setIfInBounds_toArray, List.set_cons_zero, List.set_cons_succ])
        refine take_at 8 36 rcReflr3_8 (yields_part (w.heap.size + 1) 0 32 (.tmp 7) #[.int .i64 c.k, .int .i64 c.i, .int .i64 c.j, .int .i64 c.n, (.slice ac c.kids.length cc)] du (fun _ h => sees_blk Hx2.out (by have := Z0.out; omega) (sees_of (kept_trans Kk13.out (kept_trans Kk21.out (kept_trans Kk28.out (kept_trans Kk35.out Kk41.out)))) h)) (by rfl) rfl (by rfl) (by rfl) hu1 (by cases du <;> first | rfl | exact hu2) size_term) ?_
        (try simp only [Act.put, List.setIfInBounds_toArray, List.set_cons_zero, List.set_cons_succ])
        refine take_at 9 37 rcReflr3_9 (v := ?_) (Or.inl ⟨by rfl, ?_⟩) ?_
        rotate_left 1
        · ((intro w hSw; (try dsimp only at hSw); unfold rcReflr3_9; go_simp) <;> with_reducible rfl)
        (try simp only [Act.put, List.setIfInBounds_toArray, List.set_cons_zero, List.set_cons_succ])
        refine take_at 10 38 rcReflr3_10 (yields_part (w.heap.size + 3) 16 32 (.tmp 37) #[.int .i64 r.y.k, .int .i64 r.y.i, .int .i64 r.y.j, .int .i64 r.y.n, (.slice ary r.y.kids.length cry)] du (fun _ h => sees_blk Hx4.out (by have := Z0.out; omega) (sees_of (kept_trans Kk13.out (kept_trans Kk21.out (kept_trans Kk28.out (kept_trans Kk35.out Kk41.out)))) h)) (by rfl) rfl (by rfl) (by rfl) hu1 (by cases du <;> first | rfl | exact hu2) size_term) ?_
        (try simp only [Act.put, List.setIfInBounds_toArray, List.set_cons_zero, List.set_cons_succ])
        refine take_at 11 39 rcReflr3_11 (v := ?_) (Or.inl ⟨by rfl, ?_⟩) ?_
        rotate_left 1
        · ((intro w hSw; (try dsimp only at hSw); unfold rcReflr3_11; go_simp) <;> with_reducible rfl)
        (try simp only [Act.put, List.setIfInBounds_toArray, List.set_cons_zero, List.set_cons_succ])
        refine take_at 12 40 rcReflr3_12 (yields_part (w.heap.size + 3) 16 32 (.tmp 39) #[.int .i64 r.y.k, .int .i64 r.y.i, .int .i64 r.y.j, .int .i64 r.y.n, (.slice ary r.y.kids.length cry)] du (fun _ h => sees_blk Hx4.out (by have := Z0.out; omega) (sees_of (kept_trans Kk13.out (kept_trans Kk21.out (kept_trans Kk28.out (kept_trans Kk35.out Kk41.out)))) h)) (by rfl) rfl (by rfl) (by rfl) hu1 (by cases du <;> first | rfl | exact hu2) size_term) ?_
        (try simp only [Act.put, List.setIfInBounds_toArray, List.set_cons_zero, List.set_cons_succ])
        refine take_at 15 43 rcReflr3_15 (yields_part (w.heap.size) 0 32 (.tmp 6) #[.int .i64 a.k, .int .i64 a.i, .int .i64 a.j, .int .i64 a.n, (.slice aa a.kids.length ca)] du (fun _ h => sees_blk Hx1.out (by have := Z0.out; omega) (sees_of (kept_trans Kk13.out (kept_trans Kk21.out (kept_trans Kk28.out (kept_trans Kk35.out Kk41.out)))) h)) (by rfl) rfl (by rfl) (by rfl) hu1 (by cases du <;> first | rfl | exact hu2) size_term) ?_
        (try simp only [Act.put, List.setIfInBounds_toArray, List.set_cons_zero, List.set_cons_succ])
        refine take_at 16 44 rcReflr3_16 (v := ?_) (Or.inl ⟨by rfl, ?_⟩) ?_
        rotate_left 1
        · ((intro w hSw; (try dsimp only at hSw); unfold rcReflr3_16; go_simp) <;> with_reducible rfl)
        (try simp only [Act.put, List.setIfInBounds_toArray, List.set_cons_zero, List.set_cons_succ])
        refine take_at 17 45 rcReflr3_17 (yields_part (w.heap.size + 3) 11 32 (.tmp 44) #[.int .i64 r.x.k, .int .i64 r.x.i, .int .i64 r.x.j, .int .i64 r.x.n, (.slice arx r.x.kids.length crx)] du (fun _ h => sees_blk Hx4.out (by have := Z0.out; omega) (sees_of (kept_trans Kk13.out (kept_trans Kk21.out (kept_trans Kk28.out (kept_trans Kk35.out Kk41.out)))) h)) (by rfl) rfl (by rfl) (by rfl) hu1 (by cases du <;> first | rfl | exact hu2) size_term) ?_
        (try simp only [Act.put, List.setIfInBounds_toArray, List.set_cons_zero, List.set_cons_succ])
        refine take_at 20 48 rcReflr3_20 (yields_part (w.heap.size + 1) 0 32 (.tmp 7) #[.int .i64 c.k, .int .i64 c.i, .int .i64 c.j, .int .i64 c.n, (.slice ac c.kids.length cc)] du (fun _ h => sees_blk Hx2.out (by have := Z0.out; omega) (sees_of (kept_trans Kk13.out (kept_trans Kk21.out (kept_trans Kk28.out (kept_trans Kk35.out Kk41.out)))) h)) (by rfl) rfl (by rfl) (by rfl) hu1 (by cases du <;> first | rfl | exact hu2) size_term) ?_
        (try simp only [Act.put, List.setIfInBounds_toArray, List.set_cons_zero, List.set_cons_succ])
        refine take_at 21 49 rcReflr3_21 (v := ?_) (Or.inl ⟨by rfl, ?_⟩) ?_
        rotate_left 1
        · ((intro w hSw; (try dsimp only at hSw); unfold rcReflr3_21; go_simp) <;> with_reducible rfl)
        (try simp only [Act.put, List.setIfInBounds_toArray, List.set_cons_zero, List.set_cons_succ])
        refine take_at 22 50 rcReflr3_22 (yields_part (w.heap.size + 3) 16 32 (.tmp 49) #[.int .i64 r.y.k, .int .i64 r.y.i, .int .i64 r.y.j, .int .i64 r.y.n, (.slice ary r.y.kids.length cry)] du (fun _ h => sees_blk Hx4.out (by have := Z0.out; omega) (sees_of (kept_trans Kk13.out (kept_trans Kk21.out (kept_trans Kk28.out (kept_trans Kk35.out Kk41.out)))) h)) (by rfl) rfl (by rfl) (by rfl) hu1 (by cases du <;> first | rfl | exact hu2) size_term) ?_
        (try simp only [Act.put, List.setIfInBounds_toArray, List.set_cons_zero, List.set_cons_succ])
        refine take_at 25 53 rcReflr3_25 (v := ?_) (Or.inl ⟨by rfl, ?_⟩) ?_
        rotate_left 1
        · ((intro w hSw; (try dsimp only at hSw); unfold rcReflr3_25; go_simp) <;> with_reducible rfl)
        (try simp only [Act.put, List.setIfInBounds_toArray, List.set_cons_zero, List.set_cons_succ])
        refine take_at 26 54 rcReflr3_26 (yields_part (w.heap.size) 0 32 (.tmp 6) #[.int .i64 a.k, .int .i64 a.i, .int .i64 a.j, .int .i64 a.n, (.slice aa a.kids.length ca)] du (fun _ h => sees_blk Hx1.out (by have := Z0.out; omega) (sees_of (kept_trans Kk13.out (kept_trans Kk21.out (kept_trans Kk28.out (kept_trans Kk35.out Kk41.out)))) h)) (by rfl) rfl (by rfl) (by rfl) hu1 (by cases du <;> first | rfl | exact hu2) size_term) ?_
        (try simp only [Act.put, List.setIfInBounds_toArray, List.set_cons_zero, List.set_cons_succ])
        refine take_at 27 55 rcReflr3_27 (yields_part (w.heap.size + 1) 0 32 (.tmp 7) #[.int .i64 c.k, .int .i64 c.i, .int .i64 c.j, .int .i64 c.n, (.slice ac c.kids.length cc)] du (fun _ h => sees_blk Hx2.out (by have := Z0.out; omega) (sees_of (kept_trans Kk13.out (kept_trans Kk21.out (kept_trans Kk28.out (kept_trans Kk35.out Kk41.out)))) h)) (by rfl) rfl (by rfl) (by rfl) hu1 (by cases du <;> first | rfl | exact hu2) size_term) ?_
        (try simp only [Act.put, List.setIfInBounds_toArray, List.set_cons_zero, List.set_cons_succ])
        refine take_at 28 56 rcReflr3_28 (yields_part (w.heap.size + 2) 0 32 (.tmp 8) #[.int .i64 e.k, .int .i64 e.i, .int .i64 e.j, .int .i64 e.n, (.slice ae e.kids.length ce)] du (fun _ h => sees_blk Hx3.out (by have := Z0.out; omega) (sees_of (kept_trans Kk13.out (kept_trans Kk21.out (kept_trans Kk28.out (kept_trans Kk35.out Kk41.out)))) h)) (by rfl) rfl (by rfl) (by rfl) hu1 (by cases du <;> first | rfl | exact hu2) size_term) ?_
        (try simp only [Act.put, List.setIfInBounds_toArray, List.set_cons_zero, List.set_cons_succ])
        refine take_at 29 57 rcReflr3_29 (v := ?_) (Or.inl ⟨by rfl, ?_⟩) ?_
        rotate_left 1
        · ((intro w hSw; (try dsimp only at hSw); unfold rcReflr3_29; go_simp) <;> with_reducible rfl)
        (try simp only [Act.put, List.setIfInBounds_toArray, List.set_cons_zero, List.set_cons_succ])
        refine take_at 30 58 rcReflr3_30 (yields_part (w.heap.size + 3) 11 32 (.tmp 57) #[.int .i64 r.x.k, .int .i64 r.x.i, .int .i64 r.x.j, .int .i64 r.x.n, (.slice arx r.x.kids.length crx)] du (fun _ h => sees_blk Hx4.out (by have := Z0.out; omega) (sees_of (kept_trans Kk13.out (kept_trans Kk21.out (kept_trans Kk28.out (kept_trans Kk35.out Kk41.out)))) h)) (by rfl) rfl (by rfl) (by rfl) hu1 (by cases du <;> first | rfl | exact hu2) size_term) ?_
        (try simp only [Act.put, List.setIfInBounds_toArray, List.set_cons_zero, List.set_cons_succ])
        refine take_at 31 59 rcReflr3_31 (v := ?_) (Or.inl ⟨by rfl, ?_⟩) ?_
        rotate_left 1
        · ((intro w hSw; (try dsimp only at hSw); unfold rcReflr3_31; go_simp) <;> with_reducible rfl)
        (try simp only [Act.put, List.setIfInBounds_toArray, List.set_cons_zero, List.set_cons_succ])
        refine take_at 32 60 rcReflr3_32 (yields_part (w.heap.size + 3) 16 32 (.tmp 59) #[.int .i64 r.y.k, .int .i64 r.y.i, .int .i64 r.y.j, .int .i64 r.y.n, (.slice ary r.y.kids.length cry)] du (fun _ h => sees_blk Hx4.out (by have := Z0.out; omega) (sees_of (kept_trans Kk13.out (kept_trans Kk21.out (kept_trans Kk28.out (kept_trans Kk35.out Kk41.out)))) h)) (by rfl) rfl (by rfl) (by rfl) hu1 (by cases du <;> first | rfl | exact hu2) size_term) ?_
        (try simp only [Act.put, List.setIfInBounds_toArray, List.set_cons_zero, List.set_cons_succ])
        refine take_at 33 61 rcReflr3_33 (v := ?_) (Or.inl ⟨by rfl, ?_⟩) ?_
        rotate_left 1
        · ((intro w hSw; (try dsimp only at hSw); unfold rcReflr3_33; go_simp) <;> with_reducible rfl)
        (try simp only [Act.put, List.setIfInBounds_toArray, List.set_cons_zero, List.set_cons_succ])
        refine take_at 34 62 rcReflr3_34 (yields_part (w.heap.size + 3) 21 32 (.tmp 61) #[.int .i64 r.h.k, .int .i64 r.h.i, .int .i64 r.h.j, .int .i64 r.h.n, (.slice arh r.h.kids.length crh)] du (fun _ h => sees_blk Hx4.out (by have := Z0.out; omega) (sees_of (kept_trans Kk13.out (kept_trans Kk21.out (kept_trans Kk28.out (kept_trans Kk35.out Kk41.out)))) h)) (by rfl) rfl (by rfl) (by rfl) hu1 (by cases du <;> first | rfl | exact hu2) size_term) ?_
        (try simp only [Act.put, List.setIfInBounds_toArray, List.set_cons_zero, List.set_cons_succ])
        apply (via_joinCTACCTACCTACCTACC (K := fun W2173 g99 U111 a108 c109 g118 U1296 a1293 c1294 g1303 U1942 a1939 c1940 g1949 U2170 a2167 c2168 g2177 => (Kept W38 W2173) ∧ (nodeT 20 [a, r.x, r.x] = U111) ∧ (nodeT 20 [c, r.y, r.y] = U1296) ∧ (nodeT 21 [a, r.x] = U1942) ∧ (nodeT 21 [c, r.y] = U2170) ∧ (LiesQ W2173 (Par w V0.heap.size [] P) U111.kids (.slice a108 U111.kids.length c109)) ∧ (LiesQ W2173 (Par w V0.heap.size [] P) U1296.kids (.slice a1293 U1296.kids.length c1294)) ∧ (LiesQ W2173 (Par w V0.heap.size [] P) U1942.kids (.slice a1939 U1942.kids.length c1940)) ∧ (LiesQ W2173 (Par w V0.heap.size [] P) U2170.kids (.slice a2167 U2170.kids.length c2168)) ∧ (LiesQ W2173 (Par w V0.heap.size [] P) ([a, c, e, r.x, r.y, r.h]) (.slice (some ⟨g2177, 0, none⟩) 6 6))))
        intro HJj93
        apply (via_joinCTACCTACCTACCC (K := fun w2114 g99 U1738 a1735 c1736 g1384 U2006 a2003 c2004 g843 U2121 a2118 c2119 g435 g188 => (Kept W38 w2114) ∧ (nodeT 20 [a, r.x, r.x] = U1738) ∧ (nodeT 20 [c, r.y, r.y] = U2006) ∧ (nodeT 21 [a, r.x] = U2121) ∧ (LiesQ w2114 (Par w V0.heap.size [] P) U1738.kids (.slice a1735 U1738.kids.length c1736)) ∧ (LiesQ w2114 (Par w V0.heap.size [] P) U2006.kids (.slice a2003 U2006.kids.length c2004)) ∧ (LiesQ w2114 (Par w V0.heap.size [] P) U2121.kids (.slice a2118 U2121.kids.length c2119)) ∧ (LiesQ w2114 (Par w V0.heap.size [] P) ([c, r.y]) (.slice (some ⟨g435, 0, none⟩) 2 2)) ∧ (LiesQ w2114 (Par w V0.heap.size [] P) ([a, c, e, r.x, r.y, r.h]) (.slice (some ⟨g188, 0, none⟩) 6 6))))
        intro HJj92
        apply (via_joinCTACCTACCTACC (K := fun W1945 g99 U111 a108 c109 g118 U1296 a1293 c1294 g1303 U1942 a1939 c1940 g1949 => (Kept W38 W1945) ∧ (nodeT 20 [a, r.x, r.x] = U111) ∧ (nodeT 20 [c, r.y, r.y] = U1296) ∧ (nodeT 21 [a, r.x] = U1942) ∧ (LiesQ W1945 (Par w V0.heap.size [] P) U111.kids (.slice a108 U111.kids.length c109)) ∧ (LiesQ W1945 (Par w V0.heap.size [] P) U1296.kids (.slice a1293 U1296.kids.length c1294)) ∧ (LiesQ W1945 (Par w V0.heap.size [] P) U1942.kids (.slice a1939 U1942.kids.length c1940)) ∧ (LiesQ W1945 (Par w V0.heap.size [] P) ([c, r.y]) (.slice (some ⟨g1949, 0, none⟩) 2 2))))
        intro HJj91
        apply (via_joinCTACCTACCTACC (K := fun W1955 g99 U111 a108 c109 g118 U1296 a1293 c1294 g1303 U1942 a1939 c1940 g1959 => (Kept W38 W1955) ∧ (nodeT 20 [a, r.x, r.x] = U111) ∧ (nodeT 20 [c, r.y, r.y] = U1296) ∧ (nodeT 21 [a, r.x] = U1942) ∧ (LiesQ W1955 (Par w V0.heap.size [] P) U111.kids (.slice a108 U111.kids.length c109)) ∧ (LiesQ W1955 (Par w V0.heap.size [] P) U1296.kids (.slice a1293 U1296.kids.length c1294)) ∧ (LiesQ W1955 (Par w V0.heap.size [] P) U1942.kids (.slice a1939 U1942.kids.length c1940)) ∧ (LiesQ W1955 (Par w V0.heap.size [] P) ([a, c, e, r.x, r.y, r.h]) (.slice (some ⟨g1959, 0, none⟩) 6 6))))
        intro HJj90
        apply (via_joinCTACCTACCCC (K := fun w1999 g99 U1738 a1735 c1736 g1384 U2006 a2003 c2004 g843 g435 g188 => (Kept W38 w1999) ∧ (nodeT 20 [a, r.x, r.x] = U1738) ∧ (nodeT 20 [c, r.y, r.y] = U2006) ∧ (LiesQ w1999 (Par w V0.heap.size [] P) U1738.kids (.slice a1735 U1738.kids.length c1736)) ∧ (LiesQ w1999 (Par w V0.heap.size [] P) U2006.kids (.slice a2003 U2006.kids.length c2004)) ∧ (LiesQ w1999 (Par w V0.heap.size [] P) ([a, r.x]) (.slice (some ⟨g843, 0, none⟩) 2 2)) ∧ (LiesQ w1999 (Par w V0.heap.size [] P) ([c, r.y]) (.slice (some ⟨g435, 0, none⟩) 2 2)) ∧ (LiesQ w1999 (Par w V0.heap.size [] P) ([a, c, e, r.x, r.y, r.h]) (.slice (some ⟨g188, 0, none⟩) 6 6))))
        intro HJj89
        apply (via_joinCTACCTACCC (K := fun w1872 g99 U1594 a1591 c1592 g1079 U1879 a1876 c1877 g586 g178 => (Kept W38 w1872) ∧ (nodeT 20 [a, r.x, r.x] = U1594) ∧ (nodeT 20 [c, r.y, r.y] = U1879) ∧ (LiesQ w1872 (Par w V0.heap.size [] P) U1594.kids (.slice a1591 U1594.kids.length c1592)) ∧ (LiesQ w1872 (Par w V0.heap.size [] P) U1879.kids (.slice a1876 U1879.kids.length c1877)) ∧ (LiesQ w1872 (Par w V0.heap.size [] P) ([a, r.x]) (.slice (some ⟨g586, 0, none⟩) 2 2)) ∧ (LiesQ w1872 (Par w V0.heap.size [] P) ([c, r.y]) (.slice (some ⟨g178, 0, none⟩) 2 2))))
        intro HJj88
        apply (via_joinCTACCTACCC (K := fun w1808 g99 U1492 a1489 c1490 g932 U1815 a1812 c1813 g425 g188 => (Kept W38 w1808) ∧ (nodeT 20 [a, r.x, r.x] = U1492) ∧ (nodeT 20 [c, r.y, r.y] = U1815) ∧ (LiesQ w1808 (Par w V0.heap.size [] P) U1492.kids (.slice a1489 U1492.kids.length c1490)) ∧ (LiesQ w1808 (Par w V0.heap.size [] P) U1815.kids (.slice a1812 U1815.kids.length c1813)) ∧ (LiesQ w1808 (Par w V0.heap.size [] P) ([a, r.x]) (.slice (some ⟨g425, 0, none⟩) 2 2)) ∧ (LiesQ w1808 (Par w V0.heap.size [] P) ([a, c, e, r.x, r.y, r.h]) (.slice (some ⟨g188, 0, none⟩) 6 6))))
        intro HJj87
        apply (via_joinCTACCTACCC (K := fun w1776 g99 U1430 a1427 c1428 g833 U1783 a1780 c1781 g435 g188 => (Kept W38 w1776) ∧ (nodeT 20 [a, r.x, r.x] = U1430) ∧ (nodeT 20 [c, r.y, r.y] = U1783) ∧ (LiesQ w1776 (Par w V0.heap.size [] P) U1430.kids (.slice a1427 U1430.kids.length c1428)) ∧ (LiesQ w1776 (Par w V0.heap.size [] P) U1783.kids (.slice a1780 U1783.kids.length c1781)) ∧ (LiesQ w1776 (Par w V0.heap.size [] P) ([c, r.y]) (.slice (some ⟨g435, 0, none⟩) 2 2)) ∧ (LiesQ w1776 (Par w V0.heap.size [] P) ([a, c, e, r.x, r.y, r.h]) (.slice (some ⟨g188, 0, none⟩) 6 6))))
        intro HJj86
        apply (via_joinCTACCCCC (K := fun w1731 g99 U1738 a1735 c1736 g1384 g843 g435 g188 => (Kept W38 w1731) ∧ (nodeT 20 [a, r.x, r.x] = U1738) ∧ (LiesQ w1731 (Par w V0.heap.size [] P) U1738.kids (.slice a1735 U1738.kids.length c1736)) ∧ (LiesQ w1731 (Par w V0.heap.size [] P) ([c, r.y, r.y]) (.slice (some ⟨g1384, 0, none⟩) 3 3)) ∧ (LiesQ w1731 (Par w V0.heap.size [] P) ([a, r.x]) (.slice (some ⟨g843, 0, none⟩) 2 2)) ∧ (LiesQ w1731 (Par w V0.heap.size [] P) ([c, r.y]) (.slice (some ⟨g435, 0, none⟩) 2 2)) ∧ (LiesQ w1731 (Par w V0.heap.size [] P) ([a, c, e, r.x, r.y, r.h]) (.slice (some ⟨g188, 0, none⟩) 6 6))))
        intro HJj85
        apply (via_joinCTACCTACC (K := fun W1299 g99 U111 a108 c109 g118 U1296 a1293 c1294 g1303 => (Kept W38 W1299) ∧ (nodeT 20 [a, r.x, r.x] = U111) ∧ (nodeT 20 [c, r.y, r.y] = U1296) ∧ (LiesQ W1299 (Par w V0.heap.size [] P) U111.kids (.slice a108 U111.kids.length c109)) ∧ (LiesQ W1299 (Par w V0.heap.size [] P) U1296.kids (.slice a1293 U1296.kids.length c1294)) ∧ (LiesQ W1299 (Par w V0.heap.size [] P) ([a, r.x]) (.slice (some ⟨g1303, 0, none⟩) 2 2))))
        intro HJj84
        apply (via_joinCTACCTACC (K := fun W1309 g99 U111 a108 c109 g118 U1296 a1293 c1294 g1313 => (Kept W38 W1309) ∧ (nodeT 20 [a, r.x, r.x] = U111) ∧ (nodeT 20 [c, r.y, r.y] = U1296) ∧ (LiesQ W1309 (Par w V0.heap.size [] P) U111.kids (.slice a108 U111.kids.length c109)) ∧ (LiesQ W1309 (Par w V0.heap.size [] P) U1296.kids (.slice a1293 U1296.kids.length c1294)) ∧ (LiesQ W1309 (Par w V0.heap.size [] P) ([c, r.y]) (.slice (some ⟨g1313, 0, none⟩) 2 2))))
        intro HJj83
        apply (via_joinCTACCCC (K := fun w1587 g99 U1594 a1591 c1592 g1079 g586 g178 => (Kept W38 w1587) ∧ (nodeT 20 [a, r.x, r.x] = U1594) ∧ (LiesQ w1587 (Par w V0.heap.size [] P) U1594.kids (.slice a1591 U1594.kids.length c1592)) ∧ (LiesQ w1587 (Par w V0.heap.size [] P) ([c, r.y, r.y]) (.slice (some ⟨g1079, 0, none⟩) 3 3)) ∧ (LiesQ w1587 (Par w V0.heap.size [] P) ([a, r.x]) (.slice (some ⟨g586, 0, none⟩) 2 2)) ∧ (LiesQ w1587 (Par w V0.heap.size [] P) ([c, r.y]) (.slice (some ⟨g178, 0, none⟩) 2 2))))
        intro HJj82
        apply (via_joinCTACCTACC (K := fun W1319 g99 U111 a108 c109 g118 U1296 a1293 c1294 g1323 => (Kept W38 W1319) ∧ (nodeT 20 [a, r.x, r.x] = U111) ∧ (nodeT 20 [c, r.y, r.y] = U1296) ∧ (LiesQ W1319 (Par w V0.heap.size [] P) U111.kids (.slice a108 U111.kids.length c109)) ∧ (LiesQ W1319 (Par w V0.heap.size [] P) U1296.kids (.slice a1293 U1296.kids.length c1294)) ∧ (LiesQ W1319 (Par w V0.heap.size [] P) ([a, c, e, r.x, r.y, r.h]) (.slice (some ⟨g1323, 0, none⟩) 6 6))))
        intro HJj81
        apply (via_joinCTACCCC (K := fun w1485 g99 U1492 a1489 c1490 g932 g425 g188 => (Kept W38 w1485) ∧ (nodeT 20 [a, r.x, r.x] = U1492) ∧ (LiesQ w1485 (Par w V0.heap.size [] P) U1492.kids (.slice a1489 U1492.kids.length c1490)) ∧ (LiesQ w1485 (Par w V0.heap.size [] P) ([c, r.y, r.y]) (.slice (some ⟨g932, 0, none⟩) 3 3)) ∧ (LiesQ w1485 (Par w V0.heap.size [] P) ([a, r.x]) (.slice (some ⟨g425, 0, none⟩) 2 2)) ∧ (LiesQ w1485 (Par w V0.heap.size [] P) ([a, c, e, r.x, r.y, r.h]) (.slice (some ⟨g188, 0, none⟩) 6 6))))
        intro HJj80
        apply (via_joinCTACCCC (K := fun w1423 g99 U1430 a1427 c1428 g833 g435 g188 => (Kept W38 w1423) ∧ (nodeT 20 [a, r.x, r.x] = U1430) ∧ (LiesQ w1423 (Par w V0.heap.size [] P) U1430.kids (.slice a1427 U1430.kids.length c1428)) ∧ (LiesQ w1423 (Par w V0.heap.size [] P) ([c, r.y, r.y]) (.slice (some ⟨g833, 0, none⟩) 3 3)) ∧ (LiesQ w1423 (Par w V0.heap.size [] P) ([c, r.y]) (.slice (some ⟨g435, 0, none⟩) 2 2)) ∧ (LiesQ w1423 (Par w V0.heap.size [] P) ([a, c, e, r.x, r.y, r.h]) (.slice (some ⟨g188, 0, none⟩) 6 6))))
        intro HJj79
        apply (via_joinCTACCCC (K := fun w1370 g99 U1377 a1374 c1375 g843 g435 g188 => (Kept W38 w1370) ∧ (nodeT 20 [a, r.x, r.x] = U1377) ∧ (LiesQ w1370 (Par w V0.heap.size [] P) U1377.kids (.slice a1374 U1377.kids.length c1375)) ∧ (LiesQ w1370 (Par w V0.heap.size [] P) ([a, r.x]) (.slice (some ⟨g843, 0, none⟩) 2 2)) ∧ (LiesQ w1370 (Par w V0.heap.size [] P) ([c, r.y]) (.slice (some ⟨g435, 0, none⟩) 2 2)) ∧ (LiesQ w1370 (Par w V0.heap.size [] P) ([a, c, e, r.x, r.y, r.h]) (.slice (some ⟨g188, 0, none⟩) 6 6))))
        intro HJj78
        apply (via_joinCCCCC (K := fun W1380 g99 g1384 g843 g435 g188 => (Kept W38 W1380) ∧ (LiesQ W1380 (Par w V0.heap.size [] P) ([a, r.x, r.x]) (.slice (some ⟨g99, 0, none⟩) 3 3)) ∧ (LiesQ W1380 (Par w V0.heap.size [] P) ([c, r.y, r.y]) (.slice (some ⟨g1384, 0, none⟩) 3 3)) ∧ (LiesQ W1380 (Par w V0.heap.size [] P) ([a, r.x]) (.slice (some ⟨g843, 0, none⟩) 2 2)) ∧ (LiesQ W1380 (Par w V0.heap.size [] P) ([c, r.y]) (.slice (some ⟨g435, 0, none⟩) 2 2)) ∧ (LiesQ W1380 (Par w V0.heap.size [] P) ([a, c, e, r.x, r.y, r.h]) (.slice (some ⟨g188, 0, none⟩) 6 6))))
        intro HJj77
        apply (via_joinCTACCC (K := fun w1212 g99 U1219 a1216 c1217 g699 g168 => (Kept W38 w1212) ∧ (nodeT 20 [a, r.x, r.x] = U1219) ∧ (LiesQ w1212 (Par w V0.heap.size [] P) U1219.kids (.slice a1216 U1219.kids.length c1217)) ∧ (LiesQ w1212 (Par w V0.heap.size [] P) ([c, r.y, r.y]) (.slice (some ⟨g699, 0, none⟩) 3 3)) ∧ (LiesQ w1212 (Par w V0.heap.size [] P) ([a, r.x]) (.slice (some ⟨g168, 0, none⟩) 2 2))))
        intro HJj76
        apply (via_joinCTACCC (K := fun w1134 g99 U1141 a1138 c1139 g576 g178 => (Kept W38 w1134) ∧ (nodeT 20 [a, r.x, r.x] = U1141) ∧ (LiesQ w1134 (Par w V0.heap.size [] P) U1141.kids (.slice a1138 U1141.kids.length c1139)) ∧ (LiesQ w1134 (Par w V0.heap.size [] P) ([c, r.y, r.y]) (.slice (some ⟨g576, 0, none⟩) 3 3)) ∧ (LiesQ w1134 (Par w V0.heap.size [] P) ([c, r.y]) (.slice (some ⟨g178, 0, none⟩) 2 2))))
        intro HJj75
        apply (via_joinCTACCC (K := fun w1065 g99 U1072 a1069 c1070 g586 g178 => (Kept W38 w1065) ∧ (nodeT 20 [a, r.x, r.x] = U1072) ∧ (LiesQ w1065 (Par w V0.heap.size [] P) U1072.kids (.slice a1069 U1072.kids.length c1070)) ∧ (LiesQ w1065 (Par w V0.heap.size [] P) ([a, r.x]) (.slice (some ⟨g586, 0, none⟩) 2 2)) ∧ (LiesQ w1065 (Par w V0.heap.size [] P) ([c, r.y]) (.slice (some ⟨g178, 0, none⟩) 2 2))))
        intro HJj74
        apply (via_joinCCCC (K := fun W1075 g99 g1079 g586 g178 => (Kept W38 W1075) ∧ (LiesQ W1075 (Par w V0.heap.size [] P) ([a, r.x, r.x]) (.slice (some ⟨g99, 0, none⟩) 3 3)) ∧ (LiesQ W1075 (Par w V0.heap.size [] P) ([c, r.y, r.y]) (.slice (some ⟨g1079, 0, none⟩) 3 3)) ∧ (LiesQ W1075 (Par w V0.heap.size [] P) ([a, r.x]) (.slice (some ⟨g586, 0, none⟩) 2 2)) ∧ (LiesQ W1075 (Par w V0.heap.size [] P) ([c, r.y]) (.slice (some ⟨g178, 0, none⟩) 2 2))))
        intro HJj73
        apply (via_joinCTACCC (K := fun w987 g99 U994 a991 c992 g415 g188 => (Kept W38 w987) ∧ (nodeT 20 [a, r.x, r.x] = U994) ∧ (LiesQ w987 (Par w V0.heap.size [] P) U994.kids (.slice a991 U994.kids.length c992)) ∧ (LiesQ w987 (Par w V0.heap.size [] P) ([c, r.y, r.y]) (.slice (some ⟨g415, 0, none⟩) 3 3)) ∧ (LiesQ w987 (Par w V0.heap.size [] P) ([a, c, e, r.x, r.y, r.h]) (.slice (some ⟨g188, 0, none⟩) 6 6))))
        intro HJj72
        apply (via_joinCTACCC (K := fun w918 g99 U925 a922 c923 g425 g188 => (Kept W38 w918) ∧ (nodeT 20 [a, r.x, r.x] = U925) ∧ (LiesQ w918 (Par w V0.heap.size [] P) U925.kids (.slice a922 U925.kids.length c923)) ∧ (LiesQ w918 (Par w V0.heap.size [] P) ([a, r.x]) (.slice (some ⟨g425, 0, none⟩) 2 2)) ∧ (LiesQ w918 (Par w V0.heap.size [] P) ([a, c, e, r.x, r.y, r.h]) (.slice (some ⟨g188, 0, none⟩) 6 6))))
        intro HJj71
        apply (via_joinCCCC (K := fun W928 g99 g932 g425 g188 => (Kept W38 W928) ∧ (LiesQ W928 (Par w V0.heap.size [] P) ([a, r.x, r.x]) (.slice (some ⟨g99, 0, none⟩) 3 3)) ∧ (LiesQ W928 (Par w V0.heap.size [] P) ([c, r.y, r.y]) (.slice (some ⟨g932, 0, none⟩) 3 3)) ∧ (LiesQ W928 (Par w V0.heap.size [] P) ([a, r.x]) (.slice (some ⟨g425, 0, none⟩) 2 2)) ∧ (LiesQ W928 (Par w V0.heap.size [] P) ([a, c, e, r.x, r.y, r.h]) (.slice (some ⟨g188, 0, none⟩) 6 6))))
        intro HJj70
        apply (via_joinCTACCC (K := fun w819 g99 U826 a823 c824 g435 g188 => (Kept W38 w819) ∧ (nodeT 20 [a, r.x, r.x] = U826) ∧ (LiesQ w819 (Par w V0.heap.size [] P) U826.kids (.slice a823 U826.kids.length c824)) ∧ (LiesQ w819 (Par w V0.heap.size [] P) ([c, r.y]) (.slice (some ⟨g435, 0, none⟩) 2 2)) ∧ (LiesQ w819 (Par w V0.heap.size [] P) ([a, c, e, r.x, r.y, r.h]) (.slice (some ⟨g188, 0, none⟩) 6 6))))
        intro HJj69
        apply (via_joinCCCC (K := fun W829 g99 g833 g435 g188 => (Kept W38 W829) ∧ (LiesQ W829 (Par w V0.heap.size [] P) ([a, r.x, r.x]) (.slice (some ⟨g99, 0, none⟩) 3 3)) ∧ (LiesQ W829 (Par w V0.heap.size [] P) ([c, r.y, r.y]) (.slice (some ⟨g833, 0, none⟩) 3 3)) ∧ (LiesQ W829 (Par w V0.heap.size [] P) ([c, r.y]) (.slice (some ⟨g435, 0, none⟩) 2 2)) ∧ (LiesQ W829 (Par w V0.heap.size [] P) ([a, c, e, r.x, r.y, r.h]) (.slice (some ⟨g188, 0, none⟩) 6 6))))
        intro HJj68
        apply (via_joinCCCC (K := fun W869 g198 g873 g473 g238 => (Kept W38 W869) ∧ (LiesQ W869 (Par w V0.heap.size [] P) ([c, r.y, r.y]) (.slice (some ⟨g198, 0, none⟩) 3 3)) ∧ (LiesQ W869 (Par w V0.heap.size [] P) ([a, r.x]) (.slice (some ⟨g873, 0, none⟩) 2 2)) ∧ (LiesQ W869 (Par w V0.heap.size [] P) ([c, r.y]) (.slice (some ⟨g473, 0, none⟩) 2 2)) ∧ (LiesQ W869 (Par w V0.heap.size [] P) ([a, c, e, r.x, r.y, r.h]) (.slice (some ⟨g238, 0, none⟩) 6 6))))
        intro HJj67
        apply (via_joinCCCC (K := fun W839 g99 g843 g435 g188 => (Kept W38 W839) ∧ (LiesQ W839 (Par w V0.heap.size [] P) ([a, r.x, r.x]) (.slice (some ⟨g99, 0, none⟩) 3 3)) ∧ (LiesQ W839 (Par w V0.heap.size [] P) ([a, r.x]) (.slice (some ⟨g843, 0, none⟩) 2 2)) ∧ (LiesQ W839 (Par w V0.heap.size [] P) ([c, r.y]) (.slice (some ⟨g435, 0, none⟩) 2 2)) ∧ (LiesQ W839 (Par w V0.heap.size [] P) ([a, c, e, r.x, r.y, r.h]) (.slice (some ⟨g188, 0, none⟩) 6 6))))
        intro HJj66
        apply (via_joinCTACC (K := fun W114 g99 U111 a108 c109 g118 => (Kept W38 W114) ∧ (nodeT 20 [a, r.x, r.x] = U111) ∧ (LiesQ W114 (Par w V0.heap.size [] P) U111.kids (.slice a108 U111.kids.length c109)) ∧ (LiesQ W114 (Par w V0.heap.size [] P) ([c, r.y, r.y]) (.slice (some ⟨g118, 0, none⟩) 3 3))))
        intro HJj65
        apply (via_joinCTACC (K := fun W124 g99 U111 a108 c109 g128 => (Kept W38 W124) ∧ (nodeT 20 [a, r.x, r.x] = U111) ∧ (LiesQ W124 (Par w V0.heap.size [] P) U111.kids (.slice a108 U111.kids.length c109)) ∧ (LiesQ W124 (Par w V0.heap.size [] P) ([a, r.x]) (.slice (some ⟨g128, 0, none⟩) 2 2))))
        intro HJj64
        apply (via_joinCCC (K := fun W695 g99 g699 g168 => (Kept W38 W695) ∧ (LiesQ W695 (Par w V0.heap.size [] P) ([a, r.x, r.x]) (.slice (some ⟨g99, 0, none⟩) 3 3)) ∧ (LiesQ W695 (Par w V0.heap.size [] P) ([c, r.y, r.y]) (.slice (some ⟨g699, 0, none⟩) 3 3)) ∧ (LiesQ W695 (Par w V0.heap.size [] P) ([a, r.x]) (.slice (some ⟨g168, 0, none⟩) 2 2))))
        intro HJj63
        apply (via_joinCTACC (K := fun W134 g99 U111 a108 c109 g138 => (Kept W38 W134) ∧ (nodeT 20 [a, r.x, r.x] = U111) ∧ (LiesQ W134 (Par w V0.heap.size [] P) U111.kids (.slice a108 U111.kids.length c109)) ∧ (LiesQ W134 (Par w V0.heap.size [] P) ([c, r.y]) (.slice (some ⟨g138, 0, none⟩) 2 2))))
        intro HJj62
        apply (via_joinCCC (K := fun W572 g99 g576 g178 => (Kept W38 W572) ∧ (LiesQ W572 (Par w V0.heap.size [] P) ([a, r.x, r.x]) (.slice (some ⟨g99, 0, none⟩) 3 3)) ∧ (LiesQ W572 (Par w V0.heap.size [] P) ([c, r.y, r.y]) (.slice (some ⟨g576, 0, none⟩) 3 3)) ∧ (LiesQ W572 (Par w V0.heap.size [] P) ([c, r.y]) (.slice (some ⟨g178, 0, none⟩) 2 2))))
        intro HJj61
        apply (via_joinCCC (K := fun W620 g198 g624 g228 => (Kept W38 W620) ∧ (LiesQ W620 (Par w V0.heap.size [] P) ([c, r.y, r.y]) (.slice (some ⟨g198, 0, none⟩) 3 3)) ∧ (LiesQ W620 (Par w V0.heap.size [] P) ([a, r.x]) (.slice (some ⟨g624, 0, none⟩) 2 2)) ∧ (LiesQ W620 (Par w V0.heap.size [] P) ([c, r.y]) (.slice (some ⟨g228, 0, none⟩) 2 2))))
        intro HJj60
        apply (via_joinCCC (K := fun W582 g99 g586 g178 => (Kept W38 W582) ∧ (LiesQ W582 (Par w V0.heap.size [] P) ([a, r.x, r.x]) (.slice (some ⟨g99, 0, none⟩) 3 3)) ∧ (LiesQ W582 (Par w V0.heap.size [] P) ([a, r.x]) (.slice (some ⟨g586, 0, none⟩) 2 2)) ∧ (LiesQ W582 (Par w V0.heap.size [] P) ([c, r.y]) (.slice (some ⟨g178, 0, none⟩) 2 2))))
        intro HJj59
        apply (via_joinCTACC (K := fun W144 g99 U111 a108 c109 g148 => (Kept W38 W144) ∧ (nodeT 20 [a, r.x, r.x] = U111) ∧ (LiesQ W144 (Par w V0.heap.size [] P) U111.kids (.slice a108 U111.kids.length c109)) ∧ (LiesQ W144 (Par w V0.heap.size [] P) ([a, c, e, r.x, r.y, r.h]) (.slice (some ⟨g148, 0, none⟩) 6 6))))
        intro HJj58
        apply (via_joinCCC (K := fun W411 g99 g415 g188 => (Kept W38 W411) ∧ (LiesQ W411 (Par w V0.heap.size [] P) ([a, r.x, r.x]) (.slice (some ⟨g99, 0, none⟩) 3 3)) ∧ (LiesQ W411 (Par w V0.heap.size [] P) ([c, r.y, r.y]) (.slice (some ⟨g415, 0, none⟩) 3 3)) ∧ (LiesQ W411 (Par w V0.heap.size [] P) ([a, c, e, r.x, r.y, r.h]) (.slice (some ⟨g188, 0, none⟩) 6 6))))
        intro HJj57
        apply (via_joinCCC (K := fun W459 g198 g463 g238 => (Kept W38 W459) ∧ (LiesQ W459 (Par w V0.heap.size [] P) ([c, r.y, r.y]) (.slice (some ⟨g198, 0, none⟩) 3 3)) ∧ (LiesQ W459 (Par w V0.heap.size [] P) ([a, r.x]) (.slice (some ⟨g463, 0, none⟩) 2 2)) ∧ (LiesQ W459 (Par w V0.heap.size [] P) ([a, c, e, r.x, r.y, r.h]) (.slice (some ⟨g238, 0, none⟩) 6 6))))
        intro HJj56
        apply (via_joinCCC (K := fun W421 g99 g425 g188 => (Kept W38 W421) ∧ (LiesQ W421 (Par w V0.heap.size [] P) ([a, r.x, r.x]) (.slice (some ⟨g99, 0, none⟩) 3 3)) ∧ (LiesQ W421 (Par w V0.heap.size [] P) ([a, r.x]) (.slice (some ⟨g425, 0, none⟩) 2 2)) ∧ (LiesQ W421 (Par w V0.heap.size [] P) ([a, c, e, r.x, r.y, r.h]) (.slice (some ⟨g188, 0, none⟩) 6 6))))
        intro HJj55
        apply (via_joinCCC (K := fun W507 g248 g511 g288 => (Kept W38 W507) ∧ (LiesQ W507 (Par w V0.heap.size [] P) ([a, r.x]) (.slice (some ⟨g248, 0, none⟩) 2 2)) ∧ (LiesQ W507 (Par w V0.heap.size [] P) ([c, r.y]) (.slice (some ⟨g511, 0, none⟩) 2 2)) ∧ (LiesQ W507 (Par w V0.heap.size [] P) ([a, c, e, r.x, r.y, r.h]) (.slice (some ⟨g288, 0, none⟩) 6 6))))
        intro HJj54
        apply (via_joinCCC (K := fun W469 g198 g473 g238 => (Kept W38 W469) ∧ (LiesQ W469 (Par w V0.heap.size [] P) ([c, r.y, r.y]) (.slice (some ⟨g198, 0, none⟩) 3 3)) ∧ (LiesQ W469 (Par w V0.heap.size [] P) ([c, r.y]) (.slice (some ⟨g473, 0, none⟩) 2 2)) ∧ (LiesQ W469 (Par w V0.heap.size [] P) ([a, c, e, r.x, r.y, r.h]) (.slice (some ⟨g238, 0, none⟩) 6 6))))
        intro HJj53
        apply (via_joinCCC (K := fun W431 g99 g435 g188 => (Kept W38 W431) ∧ (LiesQ W431 (Par w V0.heap.size [] P) ([a, r.x, r.x]) (.slice (some ⟨g99, 0, none⟩) 3 3)) ∧ (LiesQ W431 (Par w V0.heap.size [] P) ([c, r.y]) (.slice (some ⟨g435, 0, none⟩) 2 2)) ∧ (LiesQ W431 (Par w V0.heap.size [] P) ([a, c, e, r.x, r.y, r.h]) (.slice (some ⟨g188, 0, none⟩) 6 6))))
        intro HJj52
        apply (via_joinCC (K := fun W154 g99 g158 => (Kept W38 W154) ∧ (LiesQ W154 (Par w V0.heap.size [] P) ([a, r.x, r.x]) (.slice (some ⟨g99, 0, none⟩) 3 3)) ∧ (LiesQ W154 (Par w V0.heap.size [] P) ([c, r.y, r.y]) (.slice (some ⟨g158, 0, none⟩) 3 3))))
        intro HJj51
        apply (via_joinCC (K := fun W214 g198 g218 => (Kept W38 W214) ∧ (LiesQ W214 (Par w V0.heap.size [] P) ([c, r.y, r.y]) (.slice (some ⟨g198, 0, none⟩) 3 3)) ∧ (LiesQ W214 (Par w V0.heap.size [] P) ([a, r.x]) (.slice (some ⟨g218, 0, none⟩) 2 2))))
        intro HJj50
        apply (via_joinCC (K := fun W164 g99 g168 => (Kept W38 W164) ∧ (LiesQ W164 (Par w V0.heap.size [] P) ([a, r.x, r.x]) (.slice (some ⟨g99, 0, none⟩) 3 3)) ∧ (LiesQ W164 (Par w V0.heap.size [] P) ([a, r.x]) (.slice (some ⟨g168, 0, none⟩) 2 2))))
        intro HJj49
        apply (via_joinCC (K := fun W274 g248 g278 => (Kept W38 W274) ∧ (LiesQ W274 (Par w V0.heap.size [] P) ([a, r.x]) (.slice (some ⟨g248, 0, none⟩) 2 2)) ∧ (LiesQ W274 (Par w V0.heap.size [] P) ([c, r.y]) (.slice (some ⟨g278, 0, none⟩) 2 2))))
        intro HJj48
        apply (via_joinCC (K := fun W224 g198 g228 => (Kept W38 W224) ∧ (LiesQ W224 (Par w V0.heap.size [] P) ([c, r.y, r.y]) (.slice (some ⟨g198, 0, none⟩) 3 3)) ∧ (LiesQ W224 (Par w V0.heap.size [] P) ([c, r.y]) (.slice (some ⟨g228, 0, none⟩) 2 2))))
        intro HJj47
        apply (via_joinCC (K := fun W174 g99 g178 => (Kept W38 W174) ∧ (LiesQ W174 (Par w V0.heap.size [] P) ([a, r.x, r.x]) (.slice (some ⟨g99, 0, none⟩) 3 3)) ∧ (LiesQ W174 (Par w V0.heap.size [] P) ([c, r.y]) (.slice (some ⟨g178, 0, none⟩) 2 2))))
        intro HJj46
        apply (via_joinCC (K := fun W334 g298 g338 => (Kept W38 W334) ∧ (LiesQ W334 (Par w V0.heap.size [] P) ([c, r.y]) (.slice (some ⟨g298, 0, none⟩) 2 2)) ∧ (LiesQ W334 (Par w V0.heap.size [] P) ([a, c, e, r.x, r.y, r.h]) (.slice (some ⟨g338, 0, none⟩) 6 6))))
        intro HJj45
        apply (via_joinCC (K := fun W284 g248 g288 => (Kept W38 W284) ∧ (LiesQ W284 (Par w V0.heap.size [] P) ([a, r.x]) (.slice (some ⟨g248, 0, none⟩) 2 2)) ∧ (LiesQ W284 (Par w V0.heap.size [] P) ([a, c, e, r.x, r.y, r.h]) (.slice (some ⟨g288, 0, none⟩) 6 6))))
        intro HJj44
        apply (via_joinCC (K := fun W234 g198 g238 => (Kept W38 W234) ∧ (LiesQ W234 (Par w V0.heap.size [] P) ([c, r.y, r.y]) (.slice (some ⟨g198, 0, none⟩) 3 3)) ∧ (LiesQ W234 (Par w V0.heap.size [] P) ([a, c, e, r.x, r.y, r.h]) (.slice (some ⟨g238, 0, none⟩) 6 6))))
        intro HJj43
        apply (via_joinCC (K := fun W184 g99 g188 => (Kept W38 W184) ∧ (LiesQ W184 (Par w V0.heap.size [] P) ([a, r.x, r.x]) (.slice (some ⟨g99, 0, none⟩) 3 3)) ∧ (LiesQ W184 (Par w V0.heap.size [] P) ([a, c, e, r.x, r.y, r.h]) (.slice (some ⟨g188, 0, none⟩) 6 6))))
        intro HJj42
        · refine wpAnyH_ready (rs := [6, 13, 18, 23, 35]) (by kernel_rfl) (by simp) ?_
          refine AllReadyH.cons (o := rcReflr3_6) rfl (fun K hK => ?_) ?_
          · unfold rcReflr3_6
            go_simp
            refine at_K (fun W95 hW95 => ?_)
            obtain ⟨g99, hg100, Kk97, Hx96, Hz98, KV101, HN102⟩ := alloc1v (kept_trans Kk13.out (kept_trans Kk21.out (kept_trans Kk28.out (kept_trans Kk35.out Kk41.out)))) hW95
            rw [hg100]
            clear hW95
            have HR103 := Lib.hid (q_row3 Hx96.out Ga.out (HLa.out.later KV101.out) Gr.out.2.2.2.1 (HLrx.out.later KV101.out) Gr.out.2.2.2.1 (HLrx.out.later KV101.out) (par_newg HN102.out (fun h => nomatch h)))
            clear hg100
            (try clear hHeld)
            refine hK.out _ _ (sees_kept _ Kk97.out) (fun hHeld => ?_)
            clear hK K
            (try simp only [Act.put, List.setIfInBounds_toArray, List.set_cons_zero, List.set_cons_succ])
            refine wpAnyH_ready (rs := [7, 13, 18, 23, 35]) (by kernel_rfl) (by simp) ?_
            refine AllReadyH.cons (o := rcReflr3_7) rfl (fun K hK => ?_) ?_
            · unfold rcReflr3_7
              go_simp
              refine (rnode_any 20 [a, r.x, r.x] (Par w V0.heap.size [] P) _ _ (show I64 20 from by unfold I64; decide) HR103.out (Nat.le_of_ble_eq_true rfl)).mono ?_
              obtain ⟨U111, hU111⟩ : ∃ qu, nodeT 20 [a, r.x, r.x] = qu := ⟨_, rfl⟩
              rw [hU111]
              have HU111 := Lib.hid hU111
              clear hU111
              rintro e w104 ⟨s106, rfl, hl107, k105⟩
              obtain ⟨a108, c109, S110, rfl, -⟩ := hl107.out
              have Kk112 := Lib.hid k105
              clear k105
              have Hhl107 : Hid (LiesQ w104 (Par w V0.heap.size [] P) U111.kids _) := par_give hl107 (Below.size KV101.out) (xlt_nil _)
              clear hl107
              (try clear hHeld)
              refine hK.out _ _ (sees_kept _ (kept_trans Kk97.out Kk112.out)) (fun hHeld => ?_)
              clear hK K
              (try simp only [Act.put, List.setIfInBounds_toArray, List.set_cons_zero, List.set_cons_succ])
              refine wpAnyH_ready (rs := [13, 18, 23, 35]) (by kernel_rfl) (by simp) ?_
              refine AllReadyH.cons (o := rcReflr3_13) rfl (fun K hK => ?_) ?_
              · unfold rcReflr3_13
                go_simp
                refine at_K (fun W114 hW114 => ?_)
                obtain ⟨g118, hg119, Kk116, Hx115, Hz117, KV120, HN121⟩ := alloc1v (kept_trans Kk13.out (kept_trans Kk21.out (kept_trans Kk28.out (kept_trans Kk35.out (kept_trans Kk41.out (kept_trans Kk97.out Kk112.out)))))) hW114
                rw [hg119]
                clear hW114
                have HR122 := Lib.hid (q_row3 Hx115.out Gc.out (HLc.out.later KV120.out) Gr.out.2.2.2.2.1 (HLry.out.later KV120.out) Gr.out.2.2.2.2.1 (HLry.out.later KV120.out) (par_newg HN121.out (fun h => nomatch h)))
                clear hg119
                (try clear hHeld)
                refine hK.out _ _ (sees_kept _ (kept_trans Kk97.out (kept_trans Kk112.out Kk116.out))) (fun hHeld => ?_)
                clear hK K
                (try simp only [Act.put, List.setIfInBounds_toArray, List.set_cons_zero, List.set_cons_succ])
                exact HJj65 W114 g99 U111 a108 c109 g118 ⟨(kept_trans Kk97.out (kept_trans Kk112.out Kk116.out)), HU111.out, (Hhl107.out.later Kk116.out), HR122.out⟩
              refine AllReadyH.cons (o := rcReflr3_18) rfl (fun K hK => ?_) ?_
              · unfold rcReflr3_18
                go_simp
                refine at_K (fun W124 hW124 => ?_)
                obtain ⟨g128, hg129, Kk126, Hx125, Hz127, KV130, HN131⟩ := alloc1v (kept_trans Kk13.out (kept_trans Kk21.out (kept_trans Kk28.out (kept_trans Kk35.out (kept_trans Kk41.out (kept_trans Kk97.out Kk112.out)))))) hW124
                rw [hg129]
                clear hW124
                have HR132 := Lib.hid (q_row2 Hx125.out Ga.out (HLa.out.later KV130.out) Gr.out.2.2.2.1 (HLrx.out.later KV130.out) (par_newg HN131.out (fun h => nomatch h)))
                clear hg129
                (try clear hHeld)
                refine hK.out _ _ (sees_kept _ (kept_trans Kk97.out (kept_trans Kk112.out Kk126.out))) (fun hHeld => ?_)
                clear hK K
                (try simp only [Act.put, List.setIfInBounds_toArray, List.set_cons_zero, List.set_cons_succ])
                exact HJj64 W124 g99 U111 a108 c109 g128 ⟨(kept_trans Kk97.out (kept_trans Kk112.out Kk126.out)), HU111.out, (Hhl107.out.later Kk126.out), HR132.out⟩
              refine AllReadyH.cons (o := rcReflr3_23) rfl (fun K hK => ?_) ?_
              · unfold rcReflr3_23
                go_simp
                refine at_K (fun W134 hW134 => ?_)
                obtain ⟨g138, hg139, Kk136, Hx135, Hz137, KV140, HN141⟩ := alloc1v (kept_trans Kk13.out (kept_trans Kk21.out (kept_trans Kk28.out (kept_trans Kk35.out (kept_trans Kk41.out (kept_trans Kk97.out Kk112.out)))))) hW134
                rw [hg139]
                clear hW134
                have HR142 := Lib.hid (q_row2 Hx135.out Gc.out (HLc.out.later KV140.out) Gr.out.2.2.2.2.1 (HLry.out.later KV140.out) (par_newg HN141.out (fun h => nomatch h)))
                clear hg139
                (try clear hHeld)
                refine hK.out _ _ (sees_kept _ (kept_trans Kk97.out (kept_trans Kk112.out Kk136.out))) (fun hHeld => ?_)
                clear hK K
                (try simp only [Act.put, List.setIfInBounds_toArray, List.set_cons_zero, List.set_cons_succ])
                exact HJj62 W134 g99 U111 a108 c109 g138 ⟨(kept_trans Kk97.out (kept_trans Kk112.out Kk136.out)), HU111.out, (Hhl107.out.later Kk136.out), HR142.out⟩
              refine AllReadyH.cons (o := rcReflr3_35) rfl (fun K hK => ?_) ?_
              · unfold rcReflr3_35
                go_simp
                refine at_K (fun W144 hW144 => ?_)
                obtain ⟨g148, hg149, Kk146, Hx145, Hz147, KV150, HN151⟩ := alloc1v (kept_trans Kk13.out (kept_trans Kk21.out (kept_trans Kk28.out (kept_trans Kk35.out (kept_trans Kk41.out (kept_trans Kk97.out Kk112.out)))))) hW144
                rw [hg149]
                clear hW144
                have HR152 := Lib.hid (q_row6 Hx145.out Ga.out (HLa.out.later KV150.out) Gc.out (HLc.out.later KV150.out) Ge.out (HLe.out.later KV150.out) Gr.out.2.2.2.1 (HLrx.out.later KV150.out) Gr.out.2.2.2.2.1 (HLry.out.later KV150.out) Gr.out.2.2.2.2.2 (HLrh.out.later KV150.out) (par_newg HN151.out (fun h => nomatch h)))
                clear hg149
                (try clear hHeld)
                refine hK.out _ _ (sees_kept _ (kept_trans Kk97.out (kept_trans Kk112.out Kk146.out))) (fun hHeld => ?_)
                clear hK K
                (try simp only [Act.put, List.setIfInBounds_toArray, List.set_cons_zero, List.set_cons_succ])
                exact HJj58 W144 g99 U111 a108 c109 g148 ⟨(kept_trans Kk97.out (kept_trans Kk112.out Kk146.out)), HU111.out, (Hhl107.out.later Kk146.out), HR152.out⟩
              exact AllReadyH.nil
            refine AllReadyH.cons (o := rcReflr3_13) rfl (fun K hK => ?_) ?_
            · unfold rcReflr3_13
              go_simp
              refine at_K (fun W154 hW154 => ?_)
              obtain ⟨g158, hg159, Kk156, Hx155, Hz157, KV160, HN161⟩ := alloc1v KV101.out hW154
              rw [hg159]
              clear hW154
              have HR162 := Lib.hid (q_row3 Hx155.out Gc.out (HLc.out.later KV160.out) Gr.out.2.2.2.2.1 (HLry.out.later KV160.out) Gr.out.2.2.2.2.1 (HLry.out.later KV160.out) (par_newg HN161.out (fun h => nomatch h)))
              clear hg159
              (try clear hHeld)
              refine hK.out _ _ (sees_kept _ (kept_trans Kk97.out Kk156.out)) (fun hHeld => ?_)
              clear hK K
              (try simp only [Act.put, List.setIfInBounds_toArray, List.set_cons_zero, List.set_cons_succ])
              exact HJj51 W154 g99 g158 ⟨(kept_trans Kk97.out Kk156.out), (HR103.out.later Kk156.out), HR162.out⟩
            refine AllReadyH.cons (o := rcReflr3_18) rfl (fun K hK => ?_) ?_
            · unfold rcReflr3_18
              go_simp
              refine at_K (fun W164 hW164 => ?_)
              obtain ⟨g168, hg169, Kk166, Hx165, Hz167, KV170, HN171⟩ := alloc1v KV101.out hW164
              rw [hg169]
              clear hW164
              have HR172 := Lib.hid (q_row2 Hx165.out Ga.out (HLa.out.later KV170.out) Gr.out.2.2.2.1 (HLrx.out.later KV170.out) (par_newg HN171.out (fun h => nomatch h)))
              clear hg169
              (try clear hHeld)
              refine hK.out _ _ (sees_kept _ (kept_trans Kk97.out Kk166.out)) (fun hHeld => ?_)
              clear hK K
              (try simp only [Act.put, List.setIfInBounds_toArray, List.set_cons_zero, List.set_cons_succ])
              exact HJj49 W164 g99 g168 ⟨(kept_trans Kk97.out Kk166.out), (HR103.out.later Kk166.out), HR172.out⟩
            refine AllReadyH.cons (o := rcReflr3_23) rfl (fun K hK => ?_) ?_
            · unfold rcReflr3_23
              go_simp
              refine at_K (fun W174 hW174 => ?_)
              obtain ⟨g178, hg179, Kk176, Hx175, Hz177, KV180, HN181⟩ := alloc1v KV101.out hW174
              rw [hg179]
              clear hW174
              have HR182 := Lib.hid (q_row2 Hx175.out Gc.out (HLc.out.later KV180.out) Gr.out.2.2.2.2.1 (HLry.out.later KV180.out) (par_newg HN181.out (fun h => nomatch h)))
              clear hg179
              (try clear hHeld)
              refine hK.out _ _ (sees_kept _ (kept_trans Kk97.out Kk176.out)) (fun hHeld => ?_)
              clear hK K
              (try simp only [Act.put, List.setIfInBounds_toArray, List.set_cons_zero, List.set_cons_succ])
              exact HJj46 W174 g99 g178 ⟨(kept_trans Kk97.out Kk176.out), (HR103.out.later Kk176.out), HR182.out⟩
            refine AllReadyH.cons (o := rcReflr3_35) rfl (fun K hK => ?_) ?_
            · unfold rcReflr3_35
              go_simp
              refine at_K (fun W184 hW184 => ?_)
              obtain ⟨g188, hg189, Kk186, Hx185, Hz187, KV190, HN191⟩ := alloc1v KV101.out hW184
              rw [hg189]
              clear hW184
              have HR192 := Lib.hid (q_row6 Hx185.out Ga.out (HLa.out.later KV190.out) Gc.out (HLc.out.later KV190.out) Ge.out (HLe.out.later KV190.out) Gr.out.2.2.2.1 (HLrx.out.later KV190.out) Gr.out.2.2.2.2.1 (HLry.out.later KV190.out) Gr.out.2.2.2.2.2 (HLrh.out.later KV190.out) (par_newg HN191.out (fun h => nomatch h)))
              clear hg189
              (try clear hHeld)
              refine hK.out _ _ (sees_kept _ (kept_trans Kk97.out Kk186.out)) (fun hHeld => ?_)
              clear hK K
              (try simp only [Act.put, List.setIfInBounds_toArray, List.set_cons_zero, List.set_cons_succ])
              exact HJj42 W184 g99 g188 ⟨(kept_trans Kk97.out Kk186.out), (HR103.out.later Kk186.out), HR192.out⟩
            exact AllReadyH.nil
          refine AllReadyH.cons (o := rcReflr3_13) rfl (fun K hK => ?_) ?_
          · unfold rcReflr3_13
            go_simp
            refine at_K (fun W194 hW194 => ?_)
            obtain ⟨g198, hg199, Kk196, Hx195, Hz197, KV200, HN201⟩ := alloc1v (kept_trans Kk13.out (kept_trans Kk21.out (kept_trans Kk28.out (kept_trans Kk35.out Kk41.out)))) hW194
            rw [hg199]
            clear hW194
            have HR202 := Lib.hid (q_row3 Hx195.out Gc.out (HLc.out.later KV200.out) Gr.out.2.2.2.2.1 (HLry.out.later KV200.out) Gr.out.2.2.2.2.1 (HLry.out.later KV200.out) (par_newg HN201.out (fun h => nomatch h)))
            clear hg199
            (try clear hHeld)
            refine hK.out _ _ (sees_kept _ Kk196.out) (fun hHeld => ?_)
            clear hK K
            (try simp only [Act.put, List.setIfInBounds_toArray, List.set_cons_zero, List.set_cons_succ])
            refine wpAnyH_ready (rs := [6, 18, 23, 35]) (by kernel_rfl) (by simp) ?_
            refine AllReadyH.cons (o := rcReflr3_6) rfl (fun K hK => ?_) ?_
            · unfold rcReflr3_6
              go_simp
              refine at_K (fun W204 hW204 => ?_)
              obtain ⟨g208, hg209, Kk206, Hx205, Hz207, KV210, HN211⟩ := alloc1v KV200.out hW204
              rw [hg209]
              clear hW204
              have HR212 := Lib.hid (q_row3 Hx205.out Ga.out (HLa.out.later KV210.out) Gr.out.2.2.2.1 (HLrx.out.later KV210.out) Gr.out.2.2.2.1 (HLrx.out.later KV210.out) (par_newg HN211.out (fun h => nomatch h)))
              clear hg209
              (try clear hHeld)
              refine hK.out _ _ (sees_kept _ (kept_trans Kk196.out Kk206.out)) (fun hHeld => ?_)
              clear hK K
              (try simp only [Act.put, List.setIfInBounds_toArray, List.set_cons_zero, List.set_cons_succ])
              exact HJj51 W204 g208 g198 ⟨(kept_trans Kk196.out Kk206.out), HR212.out, (HR202.out.later Kk206.out)⟩
            refine AllReadyH.cons (o := rcReflr3_18) rfl (fun K hK => ?_) ?_
            · unfold rcReflr3_18
              go_simp
              refine at_K (fun W214 hW214 => ?_)
              obtain ⟨g218, hg219, Kk216, Hx215, Hz217, KV220, HN221⟩ := alloc1v KV200.out hW214
              rw [hg219]
              clear hW214
              have HR222 := Lib.hid (q_row2 Hx215.out Ga.out (HLa.out.later KV220.out) Gr.out.2.2.2.1 (HLrx.out.later KV220.out) (par_newg HN221.out (fun h => nomatch h)))
              clear hg219
              (try clear hHeld)
              refine hK.out _ _ (sees_kept _ (kept_trans Kk196.out Kk216.out)) (fun hHeld => ?_)
              clear hK K
              (try simp only [Act.put, List.setIfInBounds_toArray, List.set_cons_zero, List.set_cons_succ])
              exact HJj50 W214 g198 g218 ⟨(kept_trans Kk196.out Kk216.out), (HR202.out.later Kk216.out), HR222.out⟩
            refine AllReadyH.cons (o := rcReflr3_23) rfl (fun K hK => ?_) ?_
            · unfold rcReflr3_23
              go_simp
              refine at_K (fun W224 hW224 => ?_)
              obtain ⟨g228, hg229, Kk226, Hx225, Hz227, KV230, HN231⟩ := alloc1v KV200.out hW224
              rw [hg229]
              clear hW224
              have HR232 := Lib.hid (q_row2 Hx225.out Gc.out (HLc.out.later KV230.out) Gr.out.2.2.2.2.1 (HLry.out.later KV230.out) (par_newg HN231.out (fun h => nomatch h)))
              clear hg229
              (try clear hHeld)
              refine hK.out _ _ (sees_kept _ (kept_trans Kk196.out Kk226.out)) (fun hHeld => ?_)
              clear hK K
              (try simp only [Act.put, List.setIfInBounds_toArray, List.set_cons_zero, List.set_cons_succ])
              exact HJj47 W224 g198 g228 ⟨(kept_trans Kk196.out Kk226.out), (HR202.out.later Kk226.out), HR232.out⟩
            refine AllReadyH.cons (o := rcReflr3_35) rfl (fun K hK => ?_) ?_
            · unfold rcReflr3_35
              go_simp
              refine at_K (fun W234 hW234 => ?_)
              obtain ⟨g238, hg239, Kk236, Hx235, Hz237, KV240, HN241⟩ := alloc1v KV200.out hW234
              rw [hg239]
              clear hW234
              have HR242 := Lib.hid (q_row6 Hx235.out Ga.out (HLa.out.later KV240.out) Gc.out (HLc.out.later KV240.out) Ge.out (HLe.out.later KV240.out) Gr.out.2.2.2.1 (HLrx.out.later KV240.out) Gr.out.2.2.2.2.1 (HLry.out.later KV240.out) Gr.out.2.2.2.2.2 (HLrh.out.later KV240.out) (par_newg HN241.out (fun h => nomatch h)))
              clear hg239
              (try clear hHeld)
              refine hK.out _ _ (sees_kept _ (kept_trans Kk196.out Kk236.out)) (fun hHeld => ?_)
              clear hK K
              (try simp only [Act.put, List.setIfInBounds_toArray, List.set_cons_zero, List.set_cons_succ])
              exact HJj43 W234 g198 g238 ⟨(kept_trans Kk196.out Kk236.out), (HR202.out.later Kk236.out), HR242.out⟩
            exact AllReadyH.nil
          refine AllReadyH.cons (o := rcReflr3_18) rfl (fun K hK => ?_) ?_
          · unfold rcReflr3_18
            go_simp
            refine at_K (fun W244 hW244 => ?_)
            obtain ⟨g248, hg249, Kk246, Hx245, Hz247, KV250, HN251⟩ := alloc1v (kept_trans Kk13.out (kept_trans Kk21.out (kept_trans Kk28.out (kept_trans Kk35.out Kk41.out)))) hW244
            rw [hg249]
            clear hW244
            have HR252 := Lib.hid (q_row2 Hx245.out Ga.out (HLa.out.later KV250.out) Gr.out.2.2.2.1 (HLrx.out.later KV250.out) (par_newg HN251.out (fun h => nomatch h)))
            clear hg249
            (try clear hHeld)
            refine hK.out _ _ (sees_kept _ Kk246.out) (fun hHeld => ?_)
            clear hK K
            (try simp only [Act.put, List.setIfInBounds_toArray, List.set_cons_zero, List.set_cons_succ])
            refine wpAnyH_ready (rs := [6, 13, 23, 35]) (by kernel_rfl) (by simp) ?_
            refine AllReadyH.cons (o := rcReflr3_6) rfl (fun K hK => ?_) ?_
            · unfold rcReflr3_6
              go_simp
              refine at_K (fun W254 hW254 => ?_)
              obtain ⟨g258, hg259, Kk256, Hx255, Hz257, KV260, HN261⟩ := alloc1v KV250.out hW254
              rw [hg259]
              clear hW254
              have HR262 := Lib.hid (q_row3 Hx255.out Ga.out (HLa.out.later KV260.out) Gr.out.2.2.2.1 (HLrx.out.later KV260.out) Gr.out.2.2.2.1 (HLrx.out.later KV260.out) (par_newg HN261.out (fun h => nomatch h)))
              clear hg259
              (try clear hHeld)
              refine hK.out _ _ (sees_kept _ (kept_trans Kk246.out Kk256.out)) (fun hHeld => ?_)
              clear hK K
              (try simp only [Act.put, List.setIfInBounds_toArray, List.set_cons_zero, List.set_cons_succ])
              exact HJj49 W254 g258 g248 ⟨(kept_trans Kk246.out Kk256.out), HR262.out, (HR252.out.later Kk256.out)⟩
            refine AllReadyH.cons (o := rcReflr3_13) rfl (fun K hK => ?_) ?_
            · unfold rcReflr3_13
              go_simp
              refine at_K (fun W264 hW264 => ?_)
              obtain ⟨g268, hg269, Kk266, Hx265, Hz267, KV270, HN271⟩ := alloc1v KV250.out hW264
              rw [hg269]
              clear hW264
              have HR272 := Lib.hid (q_row3 Hx265.out Gc.out (HLc.out.later KV270.out) Gr.out.2.2.2.2.1 (HLry.out.later KV270.out) Gr.out.2.2.2.2.1 (HLry.out.later KV270.out) (par_newg HN271.out (fun h => nomatch h)))
              clear hg269
              (try clear hHeld)
              refine hK.out _ _ (sees_kept _ (kept_trans Kk246.out Kk266.out)) (fun hHeld => ?_)
              clear hK K
              (try simp only [Act.put, List.setIfInBounds_toArray, List.set_cons_zero, List.set_cons_succ])
              exact HJj50 W264 g268 g248 ⟨(kept_trans Kk246.out Kk266.out), HR272.out, (HR252.out.later Kk266.out)⟩
            refine AllReadyH.cons (o := rcReflr3_23) rfl (fun K hK => ?_) ?_
            · unfold rcReflr3_23
              go_simp
              refine at_K (fun W274 hW274 => ?_)
              obtain ⟨g278, hg279, Kk276, Hx275, Hz277, KV280, HN281⟩ := alloc1v KV250.out hW274
              rw [hg279]
              clear hW274
              have HR282 := Lib.hid (q_row2 Hx275.out Gc.out (HLc.out.later KV280.out) Gr.out.2.2.2.2.1 (HLry.out.later KV280.out) (par_newg HN281.out (fun h => nomatch h)))
              clear hg279
              (try clear hHeld)
              refine hK.out _ _ (sees_kept _ (kept_trans Kk246.out Kk276.out)) (fun hHeld => ?_)
              clear hK K
              (try simp only [Act.put, List.setIfInBounds_toArray, List.set_cons_zero, List.set_cons_succ])
              exact HJj48 W274 g248 g278 ⟨(kept_trans Kk246.out Kk276.out), (HR252.out.later Kk276.out), HR282.out⟩
            refine AllReadyH.cons (o := rcReflr3_35) rfl (fun K hK => ?_) ?_
            · unfold rcReflr3_35
              go_simp
              refine at_K (fun W284 hW284 => ?_)
              obtain ⟨g288, hg289, Kk286, Hx285, Hz287, KV290, HN291⟩ := alloc1v KV250.out hW284
              rw [hg289]
              clear hW284
              have HR292 := Lib.hid (q_row6 Hx285.out Ga.out (HLa.out.later KV290.out) Gc.out (HLc.out.later KV290.out) Ge.out (HLe.out.later KV290.out) Gr.out.2.2.2.1 (HLrx.out.later KV290.out) Gr.out.2.2.2.2.1 (HLry.out.later KV290.out) Gr.out.2.2.2.2.2 (HLrh.out.later KV290.out) (par_newg HN291.out (fun h => nomatch h)))
              clear hg289
              (try clear hHeld)
              refine hK.out _ _ (sees_kept _ (kept_trans Kk246.out Kk286.out)) (fun hHeld => ?_)
              clear hK K
              (try simp only [Act.put, List.setIfInBounds_toArray, List.set_cons_zero, List.set_cons_succ])
              exact HJj44 W284 g248 g288 ⟨(kept_trans Kk246.out Kk286.out), (HR252.out.later Kk286.out), HR292.out⟩
            exact AllReadyH.nil
          refine AllReadyH.cons (o := rcReflr3_23) rfl (fun K hK => ?_) ?_
          · unfold rcReflr3_23
            go_simp
            refine at_K (fun W294 hW294 => ?_)
            obtain ⟨g298, hg299, Kk296, Hx295, Hz297, KV300, HN301⟩ := alloc1v (kept_trans Kk13.out (kept_trans Kk21.out (kept_trans Kk28.out (kept_trans Kk35.out Kk41.out)))) hW294
            rw [hg299]
            clear hW294
            have HR302 := Lib.hid (q_row2 Hx295.out Gc.out (HLc.out.later KV300.out) Gr.out.2.2.2.2.1 (HLry.out.later KV300.out) (par_newg HN301.out (fun h => nomatch h)))
            clear hg299
            (try clear hHeld)
            refine hK.out _ _ (sees_kept _ Kk296.out) (fun hHeld => ?_)
            clear hK K
            (try simp only [Act.put, List.setIfInBounds_toArray, List.set_cons_zero, List.set_cons_succ])
            refine wpAnyH_ready (rs := [6, 13, 18, 35]) (by kernel_rfl) (by simp) ?_
            refine AllReadyH.cons (o := rcReflr3_6) rfl (fun K hK => ?_) ?_
            · unfold rcReflr3_6
              go_simp
              refine at_K (fun W304 hW304 => ?_)
              obtain ⟨g308, hg309, Kk306, Hx305, Hz307, KV310, HN311⟩ := alloc1v KV300.out hW304
              rw [hg309]
              clear hW304
              have HR312 := Lib.hid (q_row3 Hx305.out Ga.out (HLa.out.later KV310.out) Gr.out.2.2.2.1 (HLrx.out.later KV310.out) Gr.out.2.2.2.1 (HLrx.out.later KV310.out) (par_newg HN311.out (fun h => nomatch h)))
              clear hg309
              (try clear hHeld)
              refine hK.out _ _ (sees_kept _ (kept_trans Kk296.out Kk306.out)) (fun hHeld => ?_)
              clear hK K
              (try simp only [Act.put, List.setIfInBounds_toArray, List.set_cons_zero, List.set_cons_succ])
              exact HJj46 W304 g308 g298 ⟨(kept_trans Kk296.out Kk306.out), HR312.out, (HR302.out.later Kk306.out)⟩
            refine AllReadyH.cons (o := rcReflr3_13) rfl (fun K hK => ?_) ?_
            · unfold rcReflr3_13
              go_simp
              refine at_K (fun W314 hW314 => ?_)
              obtain ⟨g318, hg319, Kk316, Hx315, Hz317, KV320, HN321⟩ := alloc1v KV300.out hW314
              rw [hg319]
              clear hW314
              have HR322 := Lib.hid (q_row3 Hx315.out Gc.out (HLc.out.later KV320.out) Gr.out.2.2.2.2.1 (HLry.out.later KV320.out) Gr.out.2.2.2.2.1 (HLry.out.later KV320.out) (par_newg HN321.out (fun h => nomatch h)))
              clear hg319
              (try clear hHeld)
              refine hK.out _ _ (sees_kept _ (kept_trans Kk296.out Kk316.out)) (fun hHeld => ?_)
              clear hK K
              (try simp only [Act.put, List.setIfInBounds_toArray, List.set_cons_zero, List.set_cons_succ])
              exact HJj47 W314 g318 g298 ⟨(kept_trans Kk296.out Kk316.out), HR322.out, (HR302.out.later Kk316.out)⟩
            refine AllReadyH.cons (o := rcReflr3_18) rfl (fun K hK => ?_) ?_
            · unfold rcReflr3_18
              go_simp
              refine at_K (fun W324 hW324 => ?_)
              obtain ⟨g328, hg329, Kk326, Hx325, Hz327, KV330, HN331⟩ := alloc1v KV300.out hW324
              rw [hg329]
              clear hW324
              have HR332 := Lib.hid (q_row2 Hx325.out Ga.out (HLa.out.later KV330.out) Gr.out.2.2.2.1 (HLrx.out.later KV330.out) (par_newg HN331.out (fun h => nomatch h)))
              clear hg329
              (try clear hHeld)
              refine hK.out _ _ (sees_kept _ (kept_trans Kk296.out Kk326.out)) (fun hHeld => ?_)
              clear hK K
              (try simp only [Act.put, List.setIfInBounds_toArray, List.set_cons_zero, List.set_cons_succ])
              exact HJj48 W324 g328 g298 ⟨(kept_trans Kk296.out Kk326.out), HR332.out, (HR302.out.later Kk326.out)⟩
            refine AllReadyH.cons (o := rcReflr3_35) rfl (fun K hK => ?_) ?_
            · unfold rcReflr3_35
              go_simp
              refine at_K (fun W334 hW334 => ?_)
              obtain ⟨g338, hg339, Kk336, Hx335, Hz337, KV340, HN341⟩ := alloc1v KV300.out hW334
              rw [hg339]
              clear hW334
              have HR342 := Lib.hid (q_row6 Hx335.out Ga.out (HLa.out.later KV340.out) Gc.out (HLc.out.later KV340.out) Ge.out (HLe.out.later KV340.out) Gr.out.2.2.2.1 (HLrx.out.later KV340.out) Gr.out.2.2.2.2.1 (HLry.out.later KV340.out) Gr.out.2.2.2.2.2 (HLrh.out.later KV340.out) (par_newg HN341.out (fun h => nomatch h)))
              clear hg339
              (try clear hHeld)
              refine hK.out _ _ (sees_kept _ (kept_trans Kk296.out Kk336.out)) (fun hHeld => ?_)
              clear hK K
              (try simp only [Act.put, List.setIfInBounds_toArray, List.set_cons_zero, List.set_cons_succ])
              exact HJj45 W334 g298 g338 ⟨(kept_trans Kk296.out Kk336.out), (HR302.out.later Kk336.out), HR342.out⟩
            exact AllReadyH.nil
          refine AllReadyH.cons (o := rcReflr3_35) rfl (fun K hK => ?_) ?_
          · unfold rcReflr3_35
            go_simp
            refine at_K (fun W344 hW344 => ?_)
            obtain ⟨g348, hg349, Kk346, Hx345, Hz347, KV350, HN351⟩ := alloc1v (kept_trans Kk13.out (kept_trans Kk21.out (kept_trans Kk28.out (kept_trans Kk35.out Kk41.out)))) hW344
            rw [hg349]
            clear hW344
            have HR352 := Lib.hid (q_row6 Hx345.out Ga.out (HLa.out.later KV350.out) Gc.out (HLc.out.later KV350.out) Ge.out (HLe.out.later KV350.out) Gr.out.2.2.2.1 (HLrx.out.later KV350.out) Gr.out.2.2.2.2.1 (HLry.out.later KV350.out) Gr.out.2.2.2.2.2 (HLrh.out.later KV350.out) (par_newg HN351.out (fun h => nomatch h)))
            clear hg349
            (try clear hHeld)
            refine hK.out _ _ (sees_kept _ Kk346.out) (fun hHeld => ?_)
            clear hK K
            (try simp only [Act.put, List.setIfInBounds_toArray, List.set_cons_zero, List.set_cons_succ])
            refine wpAnyH_ready (rs := [6, 13, 18, 23]) (by kernel_rfl) (by simp) ?_
            refine AllReadyH.cons (o := rcReflr3_6) rfl (fun K hK => ?_) ?_
            · unfold rcReflr3_6
              go_simp
              refine at_K (fun W354 hW354 => ?_)
              obtain ⟨g358, hg359, Kk356, Hx355, Hz357, KV360, HN361⟩ := alloc1v KV350.out hW354
              rw [hg359]
              clear hW354
              have HR362 := Lib.hid (q_row3 Hx355.out Ga.out (HLa.out.later KV360.out) Gr.out.2.2.2.1 (HLrx.out.later KV360.out) Gr.out.2.2.2.1 (HLrx.out.later KV360.out) (par_newg HN361.out (fun h => nomatch h)))
              clear hg359
              (try clear hHeld)
              refine hK.out _ _ (sees_kept _ (kept_trans Kk346.out Kk356.out)) (fun hHeld => ?_)
              clear hK K
              (try simp only [Act.put, List.setIfInBounds_toArray, List.set_cons_zero, List.set_cons_succ])
              exact HJj42 W354 g358 g348 ⟨(kept_trans Kk346.out Kk356.out), HR362.out, (HR352.out.later Kk356.out)⟩
            refine AllReadyH.cons (o := rcReflr3_13) rfl (fun K hK => ?_) ?_
            · unfold rcReflr3_13
              go_simp
              refine at_K (fun W364 hW364 => ?_)
              obtain ⟨g368, hg369, Kk366, Hx365, Hz367, KV370, HN371⟩ := alloc1v KV350.out hW364
              rw [hg369]
              clear hW364
              have HR372 := Lib.hid (q_row3 Hx365.out Gc.out (HLc.out.later KV370.out) Gr.out.2.2.2.2.1 (HLry.out.later KV370.out) Gr.out.2.2.2.2.1 (HLry.out.later KV370.out) (par_newg HN371.out (fun h => nomatch h)))
              clear hg369
              (try clear hHeld)
              refine hK.out _ _ (sees_kept _ (kept_trans Kk346.out Kk366.out)) (fun hHeld => ?_)
              clear hK K
              (try simp only [Act.put, List.setIfInBounds_toArray, List.set_cons_zero, List.set_cons_succ])
              exact HJj43 W364 g368 g348 ⟨(kept_trans Kk346.out Kk366.out), HR372.out, (HR352.out.later Kk366.out)⟩
            refine AllReadyH.cons (o := rcReflr3_18) rfl (fun K hK => ?_) ?_
            · unfold rcReflr3_18
              go_simp
              refine at_K (fun W374 hW374 => ?_)
              obtain ⟨g378, hg379, Kk376, Hx375, Hz377, KV380, HN381⟩ := alloc1v KV350.out hW374
              rw [hg379]
              clear hW374
              have HR382 := Lib.hid (q_row2 Hx375.out Ga.out (HLa.out.later KV380.out) Gr.out.2.2.2.1 (HLrx.out.later KV380.out) (par_newg HN381.out (fun h => nomatch h)))
              clear hg379
              (try clear hHeld)
              refine hK.out _ _ (sees_kept _ (kept_trans Kk346.out Kk376.out)) (fun hHeld => ?_)
              clear hK K
              (try simp only [Act.put, List.setIfInBounds_toArray, List.set_cons_zero, List.set_cons_succ])
              exact HJj44 W374 g378 g348 ⟨(kept_trans Kk346.out Kk376.out), HR382.out, (HR352.out.later Kk376.out)⟩
            refine AllReadyH.cons (o := rcReflr3_23) rfl (fun K hK => ?_) ?_
            · unfold rcReflr3_23
              go_simp
              refine at_K (fun W384 hW384 => ?_)
              obtain ⟨g388, hg389, Kk386, Hx385, Hz387, KV390, HN391⟩ := alloc1v KV350.out hW384
              rw [hg389]
              clear hW384
              have HR392 := Lib.hid (q_row2 Hx385.out Gc.out (HLc.out.later KV390.out) Gr.out.2.2.2.2.1 (HLry.out.later KV390.out) (par_newg HN391.out (fun h => nomatch h)))
              clear hg389
              (try clear hHeld)
              refine hK.out _ _ (sees_kept _ (kept_trans Kk346.out Kk386.out)) (fun hHeld => ?_)
              clear hK K
              (try simp only [Act.put, List.setIfInBounds_toArray, List.set_cons_zero, List.set_cons_succ])
              exact HJj45 W384 g388 g348 ⟨(kept_trans Kk346.out Kk386.out), HR392.out, (HR352.out.later Kk386.out)⟩
            exact AllReadyH.nil
          exact AllReadyH.nil
        · intro W184 g99 g188 k393
          obtain ⟨q394, q395, q396⟩ := k393
          have Kk397 := Lib.hid q394
          have KV398 := Lib.hid (kept_trans (kept_trans Kk13.out (kept_trans Kk21.out (kept_trans Kk28.out (kept_trans Kk35.out Kk41.out)))) Kk397.out)
          have HL399 := Lib.hid q395
          have HL400 := Lib.hid q396
          clear q394 q395 q396
          have hHeld : Sees W38 (w.heap.size + 4) W184 := sees_kept _ Kk397.out
          refine wpAnyH_ready (rs := [7, 13, 18, 23]) (by kernel_rfl) (by simp) ?_
          refine AllReadyH.cons (o := rcReflr3_7) rfl (fun K hK => ?_) ?_
          · unfold rcReflr3_7
            go_simp
            refine (rnode_any 20 [a, r.x, r.x] (Par w V0.heap.size [] P) _ _ (show I64 20 from by unfold I64; decide) HL399.out (Nat.le_of_ble_eq_true rfl)).mono ?_
            obtain ⟨U408, hU408⟩ : ∃ qu, nodeT 20 [a, r.x, r.x] = qu := ⟨_, rfl⟩
            rw [hU408]
            have HU408 := Lib.hid hU408
            clear hU408
            rintro e w401 ⟨s403, rfl, hl404, k402⟩
            obtain ⟨a405, c406, S407, rfl, -⟩ := hl404.out
            have Kk409 := Lib.hid k402
            clear k402
            have Hhl404 : Hid (LiesQ w401 (Par w V0.heap.size [] P) U408.kids _) := par_give hl404 (Below.size KV398.out) (xlt_nil _)
            clear hl404
            (try clear hHeld)
            refine hK.out _ _ (sees_kept _ (kept_trans Kk397.out Kk409.out)) (fun hHeld => ?_)
            clear hK K
            (try simp only [Act.put, List.setIfInBounds_toArray, List.set_cons_zero, List.set_cons_succ])
            exact HJj58 w401 g99 U408 a405 c406 g188 ⟨(kept_trans Kk397.out Kk409.out), HU408.out, Hhl404.out, (HL400.out.later Kk409.out)⟩
          refine AllReadyH.cons (o := rcReflr3_13) rfl (fun K hK => ?_) ?_
          · unfold rcReflr3_13
            go_simp
            refine at_K (fun W411 hW411 => ?_)
            obtain ⟨g415, hg416, Kk413, Hx412, Hz414, KV417, HN418⟩ := alloc1v KV398.out hW411
            rw [hg416]
            clear hW411
            have HR419 := Lib.hid (q_row3 Hx412.out Gc.out (HLc.out.later KV417.out) Gr.out.2.2.2.2.1 (HLry.out.later KV417.out) Gr.out.2.2.2.2.1 (HLry.out.later KV417.out) (par_newg HN418.out (fun h => nomatch h)))
            clear hg416
            (try clear hHeld)
            refine hK.out _ _ (sees_kept _ (kept_trans Kk397.out Kk413.out)) (fun hHeld => ?_)
            clear hK K
            (try simp only [Act.put, List.setIfInBounds_toArray, List.set_cons_zero, List.set_cons_succ])
            exact HJj57 W411 g99 g415 g188 ⟨(kept_trans Kk397.out Kk413.out), (HL399.out.later Kk413.out), HR419.out, (HL400.out.later Kk413.out)⟩
          refine AllReadyH.cons (o := rcReflr3_18) rfl (fun K hK => ?_) ?_
          · unfold rcReflr3_18
            go_simp
            refine at_K (fun W421 hW421 => ?_)
            obtain ⟨g425, hg426, Kk423, Hx422, Hz424, KV427, HN428⟩ := alloc1v KV398.out hW421
            rw [hg426]
            clear hW421
            have HR429 := Lib.hid (q_row2 Hx422.out Ga.out (HLa.out.later KV427.out) Gr.out.2.2.2.1 (HLrx.out.later KV427.out) (par_newg HN428.out (fun h => nomatch h)))
            clear hg426
            (try clear hHeld)
            refine hK.out _ _ (sees_kept _ (kept_trans Kk397.out Kk423.out)) (fun hHeld => ?_)
            clear hK K
            (try simp only [Act.put, List.setIfInBounds_toArray, List.set_cons_zero, List.set_cons_succ])
            exact HJj55 W421 g99 g425 g188 ⟨(kept_trans Kk397.out Kk423.out), (HL399.out.later Kk423.out), HR429.out, (HL400.out.later Kk423.out)⟩
          refine AllReadyH.cons (o := rcReflr3_23) rfl (fun K hK => ?_) ?_
          · unfold rcReflr3_23
            go_simp
            refine at_K (fun W431 hW431 => ?_)
            obtain ⟨g435, hg436, Kk433, Hx432, Hz434, KV437, HN438⟩ := alloc1v KV398.out hW431
            rw [hg436]
            clear hW431
            have HR439 := Lib.hid (q_row2 Hx432.out Gc.out (HLc.out.later KV437.out) Gr.out.2.2.2.2.1 (HLry.out.later KV437.out) (par_newg HN438.out (fun h => nomatch h)))
            clear hg436
            (try clear hHeld)
            refine hK.out _ _ (sees_kept _ (kept_trans Kk397.out Kk433.out)) (fun hHeld => ?_)
            clear hK K
            (try simp only [Act.put, List.setIfInBounds_toArray, List.set_cons_zero, List.set_cons_succ])
            exact HJj52 W431 g99 g435 g188 ⟨(kept_trans Kk397.out Kk433.out), (HL399.out.later Kk433.out), HR439.out, (HL400.out.later Kk433.out)⟩
          exact AllReadyH.nil
        · intro W234 g198 g238 k440
          obtain ⟨q441, q442, q443⟩ := k440
          have Kk444 := Lib.hid q441
          have KV445 := Lib.hid (kept_trans (kept_trans Kk13.out (kept_trans Kk21.out (kept_trans Kk28.out (kept_trans Kk35.out Kk41.out)))) Kk444.out)
          have HL446 := Lib.hid q442
          have HL447 := Lib.hid q443
          clear q441 q442 q443
          have hHeld : Sees W38 (w.heap.size + 4) W234 := sees_kept _ Kk444.out
          refine wpAnyH_ready (rs := [6, 18, 23]) (by kernel_rfl) (by simp) ?_
          refine AllReadyH.cons (o := rcReflr3_6) rfl (fun K hK => ?_) ?_
          · unfold rcReflr3_6
            go_simp
            refine at_K (fun W449 hW449 => ?_)
            obtain ⟨g453, hg454, Kk451, Hx450, Hz452, KV455, HN456⟩ := alloc1v KV445.out hW449
            rw [hg454]
            clear hW449
            have HR457 := Lib.hid (q_row3 Hx450.out Ga.out (HLa.out.later KV455.out) Gr.out.2.2.2.1 (HLrx.out.later KV455.out) Gr.out.2.2.2.1 (HLrx.out.later KV455.out) (par_newg HN456.out (fun h => nomatch h)))
            clear hg454
            (try clear hHeld)
            refine hK.out _ _ (sees_kept _ (kept_trans Kk444.out Kk451.out)) (fun hHeld => ?_)
            clear hK K
            (try simp only [Act.put, List.setIfInBounds_toArray, List.set_cons_zero, List.set_cons_succ])
            exact HJj57 W449 g453 g198 g238 ⟨(kept_trans Kk444.out Kk451.out), HR457.out, (HL446.out.later Kk451.out), (HL447.out.later Kk451.out)⟩
          refine AllReadyH.cons (o := rcReflr3_18) rfl (fun K hK => ?_) ?_
          · unfold rcReflr3_18
            go_simp
            refine at_K (fun W459 hW459 => ?_)
            obtain ⟨g463, hg464, Kk461, Hx460, Hz462, KV465, HN466⟩ := alloc1v KV445.out hW459
            rw [hg464]
            clear hW459
            have HR467 := Lib.hid (q_row2 Hx460.out Ga.out (HLa.out.later KV465.out) Gr.out.2.2.2.1 (HLrx.out.later KV465.out) (par_newg HN466.out (fun h => nomatch h)))
            clear hg464
            (try clear hHeld)
            refine hK.out _ _ (sees_kept _ (kept_trans Kk444.out Kk461.out)) (fun hHeld => ?_)
            clear hK K
            (try simp only [Act.put, List.setIfInBounds_toArray, List.set_cons_zero, List.set_cons_succ])
            exact HJj56 W459 g198 g463 g238 ⟨(kept_trans Kk444.out Kk461.out), (HL446.out.later Kk461.out), HR467.out, (HL447.out.later Kk461.out)⟩
          refine AllReadyH.cons (o := rcReflr3_23) rfl (fun K hK => ?_) ?_
          · unfold rcReflr3_23
            go_simp
            refine at_K (fun W469 hW469 => ?_)
            obtain ⟨g473, hg474, Kk471, Hx470, Hz472, KV475, HN476⟩ := alloc1v KV445.out hW469
            rw [hg474]
            clear hW469
            have HR477 := Lib.hid (q_row2 Hx470.out Gc.out (HLc.out.later KV475.out) Gr.out.2.2.2.2.1 (HLry.out.later KV475.out) (par_newg HN476.out (fun h => nomatch h)))
            clear hg474
            (try clear hHeld)
            refine hK.out _ _ (sees_kept _ (kept_trans Kk444.out Kk471.out)) (fun hHeld => ?_)
            clear hK K
            (try simp only [Act.put, List.setIfInBounds_toArray, List.set_cons_zero, List.set_cons_succ])
            exact HJj53 W469 g198 g473 g238 ⟨(kept_trans Kk444.out Kk471.out), (HL446.out.later Kk471.out), HR477.out, (HL447.out.later Kk471.out)⟩
          exact AllReadyH.nil
        · intro W284 g248 g288 k478
          obtain ⟨q479, q480, q481⟩ := k478
          have Kk482 := Lib.hid q479
          have KV483 := Lib.hid (kept_trans (kept_trans Kk13.out (kept_trans Kk21.out (kept_trans Kk28.out (kept_trans Kk35.out Kk41.out)))) Kk482.out)
          have HL484 := Lib.hid q480
          have HL485 := Lib.hid q481
          clear q479 q480 q481
          have hHeld : Sees W38 (w.heap.size + 4) W284 := sees_kept _ Kk482.out
          refine wpAnyH_ready (rs := [6, 13, 23]) (by kernel_rfl) (by simp) ?_
          refine AllReadyH.cons (o := rcReflr3_6) rfl (fun K hK => ?_) ?_
          · unfold rcReflr3_6
            go_simp
            refine at_K (fun W487 hW487 => ?_)
            obtain ⟨g491, hg492, Kk489, Hx488, Hz490, KV493, HN494⟩ := alloc1v KV483.out hW487
            rw [hg492]
            clear hW487
            have HR495 := Lib.hid (q_row3 Hx488.out Ga.out (HLa.out.later KV493.out) Gr.out.2.2.2.1 (HLrx.out.later KV493.out) Gr.out.2.2.2.1 (HLrx.out.later KV493.out) (par_newg HN494.out (fun h => nomatch h)))
            clear hg492
            (try clear hHeld)
            refine hK.out _ _ (sees_kept _ (kept_trans Kk482.out Kk489.out)) (fun hHeld => ?_)
            clear hK K
            (try simp only [Act.put, List.setIfInBounds_toArray, List.set_cons_zero, List.set_cons_succ])
            exact HJj55 W487 g491 g248 g288 ⟨(kept_trans Kk482.out Kk489.out), HR495.out, (HL484.out.later Kk489.out), (HL485.out.later Kk489.out)⟩
          refine AllReadyH.cons (o := rcReflr3_13) rfl (fun K hK => ?_) ?_
          · unfold rcReflr3_13
            go_simp
            refine at_K (fun W497 hW497 => ?_)
            obtain ⟨g501, hg502, Kk499, Hx498, Hz500, KV503, HN504⟩ := alloc1v KV483.out hW497
            rw [hg502]
            clear hW497
            have HR505 := Lib.hid (q_row3 Hx498.out Gc.out (HLc.out.later KV503.out) Gr.out.2.2.2.2.1 (HLry.out.later KV503.out) Gr.out.2.2.2.2.1 (HLry.out.later KV503.out) (par_newg HN504.out (fun h => nomatch h)))
            clear hg502
            (try clear hHeld)
            refine hK.out _ _ (sees_kept _ (kept_trans Kk482.out Kk499.out)) (fun hHeld => ?_)
            clear hK K
            (try simp only [Act.put, List.setIfInBounds_toArray, List.set_cons_zero, List.set_cons_succ])
            exact HJj56 W497 g501 g248 g288 ⟨(kept_trans Kk482.out Kk499.out), HR505.out, (HL484.out.later Kk499.out), (HL485.out.later Kk499.out)⟩
          refine AllReadyH.cons (o := rcReflr3_23) rfl (fun K hK => ?_) ?_
          · unfold rcReflr3_23
            go_simp
            refine at_K (fun W507 hW507 => ?_)
            obtain ⟨g511, hg512, Kk509, Hx508, Hz510, KV513, HN514⟩ := alloc1v KV483.out hW507
            rw [hg512]
            clear hW507
            have HR515 := Lib.hid (q_row2 Hx508.out Gc.out (HLc.out.later KV513.out) Gr.out.2.2.2.2.1 (HLry.out.later KV513.out) (par_newg HN514.out (fun h => nomatch h)))
            clear hg512
            (try clear hHeld)
            refine hK.out _ _ (sees_kept _ (kept_trans Kk482.out Kk509.out)) (fun hHeld => ?_)
            clear hK K
            (try simp only [Act.put, List.setIfInBounds_toArray, List.set_cons_zero, List.set_cons_succ])
            exact HJj54 W507 g248 g511 g288 ⟨(kept_trans Kk482.out Kk509.out), (HL484.out.later Kk509.out), HR515.out, (HL485.out.later Kk509.out)⟩
          exact AllReadyH.nil
        · intro W334 g298 g338 k516
          obtain ⟨q517, q518, q519⟩ := k516
          have Kk520 := Lib.hid q517
          have KV521 := Lib.hid (kept_trans (kept_trans Kk13.out (kept_trans Kk21.out (kept_trans Kk28.out (kept_trans Kk35.out Kk41.out)))) Kk520.out)
          have HL522 := Lib.hid q518
          have HL523 := Lib.hid q519
          clear q517 q518 q519
          have hHeld : Sees W38 (w.heap.size + 4) W334 := sees_kept _ Kk520.out
          refine wpAnyH_ready (rs := [6, 13, 18]) (by kernel_rfl) (by simp) ?_
          refine AllReadyH.cons (o := rcReflr3_6) rfl (fun K hK => ?_) ?_
          · unfold rcReflr3_6
            go_simp
            refine at_K (fun W525 hW525 => ?_)
            obtain ⟨g529, hg530, Kk527, Hx526, Hz528, KV531, HN532⟩ := alloc1v KV521.out hW525
            rw [hg530]
            clear hW525
            have HR533 := Lib.hid (q_row3 Hx526.out Ga.out (HLa.out.later KV531.out) Gr.out.2.2.2.1 (HLrx.out.later KV531.out) Gr.out.2.2.2.1 (HLrx.out.later KV531.out) (par_newg HN532.out (fun h => nomatch h)))
            clear hg530
            (try clear hHeld)
            refine hK.out _ _ (sees_kept _ (kept_trans Kk520.out Kk527.out)) (fun hHeld => ?_)
            clear hK K
            (try simp only [Act.put, List.setIfInBounds_toArray, List.set_cons_zero, List.set_cons_succ])
            exact HJj52 W525 g529 g298 g338 ⟨(kept_trans Kk520.out Kk527.out), HR533.out, (HL522.out.later Kk527.out), (HL523.out.later Kk527.out)⟩
          refine AllReadyH.cons (o := rcReflr3_13) rfl (fun K hK => ?_) ?_
          · unfold rcReflr3_13
            go_simp
            refine at_K (fun W535 hW535 => ?_)
            obtain ⟨g539, hg540, Kk537, Hx536, Hz538, KV541, HN542⟩ := alloc1v KV521.out hW535
            rw [hg540]
            clear hW535
            have HR543 := Lib.hid (q_row3 Hx536.out Gc.out (HLc.out.later KV541.out) Gr.out.2.2.2.2.1 (HLry.out.later KV541.out) Gr.out.2.2.2.2.1 (HLry.out.later KV541.out) (par_newg HN542.out (fun h => nomatch h)))
            clear hg540
            (try clear hHeld)
            refine hK.out _ _ (sees_kept _ (kept_trans Kk520.out Kk537.out)) (fun hHeld => ?_)
            clear hK K
            (try simp only [Act.put, List.setIfInBounds_toArray, List.set_cons_zero, List.set_cons_succ])
            exact HJj53 W535 g539 g298 g338 ⟨(kept_trans Kk520.out Kk537.out), HR543.out, (HL522.out.later Kk537.out), (HL523.out.later Kk537.out)⟩
          refine AllReadyH.cons (o := rcReflr3_18) rfl (fun K hK => ?_) ?_
          · unfold rcReflr3_18
            go_simp
            refine at_K (fun W545 hW545 => ?_)
            obtain ⟨g549, hg550, Kk547, Hx546, Hz548, KV551, HN552⟩ := alloc1v KV521.out hW545
            rw [hg550]
            clear hW545
            have HR553 := Lib.hid (q_row2 Hx546.out Ga.out (HLa.out.later KV551.out) Gr.out.2.2.2.1 (HLrx.out.later KV551.out) (par_newg HN552.out (fun h => nomatch h)))
            clear hg550
            (try clear hHeld)
            refine hK.out _ _ (sees_kept _ (kept_trans Kk520.out Kk547.out)) (fun hHeld => ?_)
            clear hK K
            (try simp only [Act.put, List.setIfInBounds_toArray, List.set_cons_zero, List.set_cons_succ])
            exact HJj54 W545 g549 g298 g338 ⟨(kept_trans Kk520.out Kk547.out), HR553.out, (HL522.out.later Kk547.out), (HL523.out.later Kk547.out)⟩
          exact AllReadyH.nil
        · intro W174 g99 g178 k554
          obtain ⟨q555, q556, q557⟩ := k554
          have Kk558 := Lib.hid q555
          have KV559 := Lib.hid (kept_trans (kept_trans Kk13.out (kept_trans Kk21.out (kept_trans Kk28.out (kept_trans Kk35.out Kk41.out)))) Kk558.out)
          have HL560 := Lib.hid q556
          have HL561 := Lib.hid q557
          clear q555 q556 q557
          have hHeld : Sees W38 (w.heap.size + 4) W174 := sees_kept _ Kk558.out
          refine wpAnyH_ready (rs := [7, 13, 18, 35]) (by kernel_rfl) (by simp) ?_
          refine AllReadyH.cons (o := rcReflr3_7) rfl (fun K hK => ?_) ?_
          · unfold rcReflr3_7
            go_simp
            refine (rnode_any 20 [a, r.x, r.x] (Par w V0.heap.size [] P) _ _ (show I64 20 from by unfold I64; decide) HL560.out (Nat.le_of_ble_eq_true rfl)).mono ?_
            obtain ⟨U569, hU569⟩ : ∃ qu, nodeT 20 [a, r.x, r.x] = qu := ⟨_, rfl⟩
            rw [hU569]
            have HU569 := Lib.hid hU569
            clear hU569
            rintro e w562 ⟨s564, rfl, hl565, k563⟩
            obtain ⟨a566, c567, S568, rfl, -⟩ := hl565.out
            have Kk570 := Lib.hid k563
            clear k563
            have Hhl565 : Hid (LiesQ w562 (Par w V0.heap.size [] P) U569.kids _) := par_give hl565 (Below.size KV559.out) (xlt_nil _)
            clear hl565
            (try clear hHeld)
            refine hK.out _ _ (sees_kept _ (kept_trans Kk558.out Kk570.out)) (fun hHeld => ?_)
            clear hK K
            (try simp only [Act.put, List.setIfInBounds_toArray, List.set_cons_zero, List.set_cons_succ])
            exact HJj62 w562 g99 U569 a566 c567 g178 ⟨(kept_trans Kk558.out Kk570.out), HU569.out, Hhl565.out, (HL561.out.later Kk570.out)⟩
          refine AllReadyH.cons (o := rcReflr3_13) rfl (fun K hK => ?_) ?_
          · unfold rcReflr3_13
            go_simp
            refine at_K (fun W572 hW572 => ?_)
            obtain ⟨g576, hg577, Kk574, Hx573, Hz575, KV578, HN579⟩ := alloc1v KV559.out hW572
            rw [hg577]
            clear hW572
            have HR580 := Lib.hid (q_row3 Hx573.out Gc.out (HLc.out.later KV578.out) Gr.out.2.2.2.2.1 (HLry.out.later KV578.out) Gr.out.2.2.2.2.1 (HLry.out.later KV578.out) (par_newg HN579.out (fun h => nomatch h)))
            clear hg577
            (try clear hHeld)
            refine hK.out _ _ (sees_kept _ (kept_trans Kk558.out Kk574.out)) (fun hHeld => ?_)
            clear hK K
            (try simp only [Act.put, List.setIfInBounds_toArray, List.set_cons_zero, List.set_cons_succ])
            exact HJj61 W572 g99 g576 g178 ⟨(kept_trans Kk558.out Kk574.out), (HL560.out.later Kk574.out), HR580.out, (HL561.out.later Kk574.out)⟩
          refine AllReadyH.cons (o := rcReflr3_18) rfl (fun K hK => ?_) ?_
          · unfold rcReflr3_18
            go_simp
            refine at_K (fun W582 hW582 => ?_)
            obtain ⟨g586, hg587, Kk584, Hx583, Hz585, KV588, HN589⟩ := alloc1v KV559.out hW582
            rw [hg587]
            clear hW582
            have HR590 := Lib.hid (q_row2 Hx583.out Ga.out (HLa.out.later KV588.out) Gr.out.2.2.2.1 (HLrx.out.later KV588.out) (par_newg HN589.out (fun h => nomatch h)))
            clear hg587
            (try clear hHeld)
            refine hK.out _ _ (sees_kept _ (kept_trans Kk558.out Kk584.out)) (fun hHeld => ?_)
            clear hK K
            (try simp only [Act.put, List.setIfInBounds_toArray, List.set_cons_zero, List.set_cons_succ])
            exact HJj59 W582 g99 g586 g178 ⟨(kept_trans Kk558.out Kk584.out), (HL560.out.later Kk584.out), HR590.out, (HL561.out.later Kk584.out)⟩
          refine AllReadyH.cons (o := rcReflr3_35) rfl (fun K hK => ?_) ?_
          · unfold rcReflr3_35
            go_simp
            refine at_K (fun W592 hW592 => ?_)
            obtain ⟨g596, hg597, Kk594, Hx593, Hz595, KV598, HN599⟩ := alloc1v KV559.out hW592
            rw [hg597]
            clear hW592
            have HR600 := Lib.hid (q_row6 Hx593.out Ga.out (HLa.out.later KV598.out) Gc.out (HLc.out.later KV598.out) Ge.out (HLe.out.later KV598.out) Gr.out.2.2.2.1 (HLrx.out.later KV598.out) Gr.out.2.2.2.2.1 (HLry.out.later KV598.out) Gr.out.2.2.2.2.2 (HLrh.out.later KV598.out) (par_newg HN599.out (fun h => nomatch h)))
            clear hg597
            (try clear hHeld)
            refine hK.out _ _ (sees_kept _ (kept_trans Kk558.out Kk594.out)) (fun hHeld => ?_)
            clear hK K
            (try simp only [Act.put, List.setIfInBounds_toArray, List.set_cons_zero, List.set_cons_succ])
            exact HJj52 W592 g99 g178 g596 ⟨(kept_trans Kk558.out Kk594.out), (HL560.out.later Kk594.out), (HL561.out.later Kk594.out), HR600.out⟩
          exact AllReadyH.nil
        · intro W224 g198 g228 k601
          obtain ⟨q602, q603, q604⟩ := k601
          have Kk605 := Lib.hid q602
          have KV606 := Lib.hid (kept_trans (kept_trans Kk13.out (kept_trans Kk21.out (kept_trans Kk28.out (kept_trans Kk35.out Kk41.out)))) Kk605.out)
          have HL607 := Lib.hid q603
          have HL608 := Lib.hid q604
          clear q602 q603 q604
          have hHeld : Sees W38 (w.heap.size + 4) W224 := sees_kept _ Kk605.out
          refine wpAnyH_ready (rs := [6, 18, 35]) (by kernel_rfl) (by simp) ?_
          refine AllReadyH.cons (o := rcReflr3_6) rfl (fun K hK => ?_) ?_
          · unfold rcReflr3_6
            go_simp
            refine at_K (fun W610 hW610 => ?_)
            obtain ⟨g614, hg615, Kk612, Hx611, Hz613, KV616, HN617⟩ := alloc1v KV606.out hW610
            rw [hg615]
            clear hW610
            have HR618 := Lib.hid (q_row3 Hx611.out Ga.out (HLa.out.later KV616.out) Gr.out.2.2.2.1 (HLrx.out.later KV616.out) Gr.out.2.2.2.1 (HLrx.out.later KV616.out) (par_newg HN617.out (fun h => nomatch h)))
            clear hg615
            (try clear hHeld)
            refine hK.out _ _ (sees_kept _ (kept_trans Kk605.out Kk612.out)) (fun hHeld => ?_)
            clear hK K
            (try simp only [Act.put, List.setIfInBounds_toArray, List.set_cons_zero, List.set_cons_succ])
            exact HJj61 W610 g614 g198 g228 ⟨(kept_trans Kk605.out Kk612.out), HR618.out, (HL607.out.later Kk612.out), (HL608.out.later Kk612.out)⟩
          refine AllReadyH.cons (o := rcReflr3_18) rfl (fun K hK => ?_) ?_
          · unfold rcReflr3_18
            go_simp
            refine at_K (fun W620 hW620 => ?_)
            obtain ⟨g624, hg625, Kk622, Hx621, Hz623, KV626, HN627⟩ := alloc1v KV606.out hW620
            rw [hg625]
            clear hW620
            have HR628 := Lib.hid (q_row2 Hx621.out Ga.out (HLa.out.later KV626.out) Gr.out.2.2.2.1 (HLrx.out.later KV626.out) (par_newg HN627.out (fun h => nomatch h)))
            clear hg625
            (try clear hHeld)
            refine hK.out _ _ (sees_kept _ (kept_trans Kk605.out Kk622.out)) (fun hHeld => ?_)
            clear hK K
            (try simp only [Act.put, List.setIfInBounds_toArray, List.set_cons_zero, List.set_cons_succ])
            exact HJj60 W620 g198 g624 g228 ⟨(kept_trans Kk605.out Kk622.out), (HL607.out.later Kk622.out), HR628.out, (HL608.out.later Kk622.out)⟩
          refine AllReadyH.cons (o := rcReflr3_35) rfl (fun K hK => ?_) ?_
          · unfold rcReflr3_35
            go_simp
            refine at_K (fun W630 hW630 => ?_)
            obtain ⟨g634, hg635, Kk632, Hx631, Hz633, KV636, HN637⟩ := alloc1v KV606.out hW630
            rw [hg635]
            clear hW630
            have HR638 := Lib.hid (q_row6 Hx631.out Ga.out (HLa.out.later KV636.out) Gc.out (HLc.out.later KV636.out) Ge.out (HLe.out.later KV636.out) Gr.out.2.2.2.1 (HLrx.out.later KV636.out) Gr.out.2.2.2.2.1 (HLry.out.later KV636.out) Gr.out.2.2.2.2.2 (HLrh.out.later KV636.out) (par_newg HN637.out (fun h => nomatch h)))
            clear hg635
            (try clear hHeld)
            refine hK.out _ _ (sees_kept _ (kept_trans Kk605.out Kk632.out)) (fun hHeld => ?_)
            clear hK K
            (try simp only [Act.put, List.setIfInBounds_toArray, List.set_cons_zero, List.set_cons_succ])
            exact HJj53 W630 g198 g228 g634 ⟨(kept_trans Kk605.out Kk632.out), (HL607.out.later Kk632.out), (HL608.out.later Kk632.out), HR638.out⟩
          exact AllReadyH.nil
        · intro W274 g248 g278 k639
          obtain ⟨q640, q641, q642⟩ := k639
          have Kk643 := Lib.hid q640
          have KV644 := Lib.hid (kept_trans (kept_trans Kk13.out (kept_trans Kk21.out (kept_trans Kk28.out (kept_trans Kk35.out Kk41.out)))) Kk643.out)
          have HL645 := Lib.hid q641
          have HL646 := Lib.hid q642
          clear q640 q641 q642
          have hHeld : Sees W38 (w.heap.size + 4) W274 := sees_kept _ Kk643.out
          refine wpAnyH_ready (rs := [6, 13, 35]) (by kernel_rfl) (by simp) ?_
          refine AllReadyH.cons (o := rcReflr3_6) rfl (fun K hK => ?_) ?_
          · unfold rcReflr3_6
            go_simp
            refine at_K (fun W648 hW648 => ?_)
            obtain ⟨g652, hg653, Kk650, Hx649, Hz651, KV654, HN655⟩ := alloc1v KV644.out hW648
            rw [hg653]
            clear hW648
            have HR656 := Lib.hid (q_row3 Hx649.out Ga.out (HLa.out.later KV654.out) Gr.out.2.2.2.1 (HLrx.out.later KV654.out) Gr.out.2.2.2.1 (HLrx.out.later KV654.out) (par_newg HN655.out (fun h => nomatch h)))
            clear hg653
            (try clear hHeld)
            refine hK.out _ _ (sees_kept _ (kept_trans Kk643.out Kk650.out)) (fun hHeld => ?_)
            clear hK K
            (try simp only [Act.put, List.setIfInBounds_toArray, List.set_cons_zero, List.set_cons_succ])
            exact HJj59 W648 g652 g248 g278 ⟨(kept_trans Kk643.out Kk650.out), HR656.out, (HL645.out.later Kk650.out), (HL646.out.later Kk650.out)⟩
          refine AllReadyH.cons (o := rcReflr3_13) rfl (fun K hK => ?_) ?_
          · unfold rcReflr3_13
            go_simp
            refine at_K (fun W658 hW658 => ?_)
            obtain ⟨g662, hg663, Kk660, Hx659, Hz661, KV664, HN665⟩ := alloc1v KV644.out hW658
            rw [hg663]
            clear hW658
            have HR666 := Lib.hid (q_row3 Hx659.out Gc.out (HLc.out.later KV664.out) Gr.out.2.2.2.2.1 (HLry.out.later KV664.out) Gr.out.2.2.2.2.1 (HLry.out.later KV664.out) (par_newg HN665.out (fun h => nomatch h)))
            clear hg663
            (try clear hHeld)
            refine hK.out _ _ (sees_kept _ (kept_trans Kk643.out Kk660.out)) (fun hHeld => ?_)
            clear hK K
            (try simp only [Act.put, List.setIfInBounds_toArray, List.set_cons_zero, List.set_cons_succ])
            exact HJj60 W658 g662 g248 g278 ⟨(kept_trans Kk643.out Kk660.out), HR666.out, (HL645.out.later Kk660.out), (HL646.out.later Kk660.out)⟩
          refine AllReadyH.cons (o := rcReflr3_35) rfl (fun K hK => ?_) ?_
          · unfold rcReflr3_35
            go_simp
            refine at_K (fun W668 hW668 => ?_)
            obtain ⟨g672, hg673, Kk670, Hx669, Hz671, KV674, HN675⟩ := alloc1v KV644.out hW668
            rw [hg673]
            clear hW668
            have HR676 := Lib.hid (q_row6 Hx669.out Ga.out (HLa.out.later KV674.out) Gc.out (HLc.out.later KV674.out) Ge.out (HLe.out.later KV674.out) Gr.out.2.2.2.1 (HLrx.out.later KV674.out) Gr.out.2.2.2.2.1 (HLry.out.later KV674.out) Gr.out.2.2.2.2.2 (HLrh.out.later KV674.out) (par_newg HN675.out (fun h => nomatch h)))
            clear hg673
            (try clear hHeld)
            refine hK.out _ _ (sees_kept _ (kept_trans Kk643.out Kk670.out)) (fun hHeld => ?_)
            clear hK K
            (try simp only [Act.put, List.setIfInBounds_toArray, List.set_cons_zero, List.set_cons_succ])
            exact HJj54 W668 g248 g278 g672 ⟨(kept_trans Kk643.out Kk670.out), (HL645.out.later Kk670.out), (HL646.out.later Kk670.out), HR676.out⟩
          exact AllReadyH.nil
        · intro W164 g99 g168 k677
          obtain ⟨q678, q679, q680⟩ := k677
          have Kk681 := Lib.hid q678
          have KV682 := Lib.hid (kept_trans (kept_trans Kk13.out (kept_trans Kk21.out (kept_trans Kk28.out (kept_trans Kk35.out Kk41.out)))) Kk681.out)
          have HL683 := Lib.hid q679
          have HL684 := Lib.hid q680
          clear q678 q679 q680
          have hHeld : Sees W38 (w.heap.size + 4) W164 := sees_kept _ Kk681.out
          refine wpAnyH_ready (rs := [7, 13, 23, 35]) (by kernel_rfl) (by simp) ?_
          refine AllReadyH.cons (o := rcReflr3_7) rfl (fun K hK => ?_) ?_
          · unfold rcReflr3_7
            go_simp
            refine (rnode_any 20 [a, r.x, r.x] (Par w V0.heap.size [] P) _ _ (show I64 20 from by unfold I64; decide) HL683.out (Nat.le_of_ble_eq_true rfl)).mono ?_
            obtain ⟨U692, hU692⟩ : ∃ qu, nodeT 20 [a, r.x, r.x] = qu := ⟨_, rfl⟩
            rw [hU692]
            have HU692 := Lib.hid hU692
            clear hU692
            rintro e w685 ⟨s687, rfl, hl688, k686⟩
            obtain ⟨a689, c690, S691, rfl, -⟩ := hl688.out
            have Kk693 := Lib.hid k686
            clear k686
            have Hhl688 : Hid (LiesQ w685 (Par w V0.heap.size [] P) U692.kids _) := par_give hl688 (Below.size KV682.out) (xlt_nil _)
            clear hl688
            (try clear hHeld)
            refine hK.out _ _ (sees_kept _ (kept_trans Kk681.out Kk693.out)) (fun hHeld => ?_)
            clear hK K
            (try simp only [Act.put, List.setIfInBounds_toArray, List.set_cons_zero, List.set_cons_succ])
            exact HJj64 w685 g99 U692 a689 c690 g168 ⟨(kept_trans Kk681.out Kk693.out), HU692.out, Hhl688.out, (HL684.out.later Kk693.out)⟩
          refine AllReadyH.cons (o := rcReflr3_13) rfl (fun K hK => ?_) ?_
          · unfold rcReflr3_13
            go_simp
            refine at_K (fun W695 hW695 => ?_)
            obtain ⟨g699, hg700, Kk697, Hx696, Hz698, KV701, HN702⟩ := alloc1v KV682.out hW695
            rw [hg700]
            clear hW695
            have HR703 := Lib.hid (q_row3 Hx696.out Gc.out (HLc.out.later KV701.out) Gr.out.2.2.2.2.1 (HLry.out.later KV701.out) Gr.out.2.2.2.2.1 (HLry.out.later KV701.out) (par_newg HN702.out (fun h => nomatch h)))
            clear hg700
            (try clear hHeld)
            refine hK.out _ _ (sees_kept _ (kept_trans Kk681.out Kk697.out)) (fun hHeld => ?_)
            clear hK K
            (try simp only [Act.put, List.setIfInBounds_toArray, List.set_cons_zero, List.set_cons_succ])
            exact HJj63 W695 g99 g699 g168 ⟨(kept_trans Kk681.out Kk697.out), (HL683.out.later Kk697.out), HR703.out, (HL684.out.later Kk697.out)⟩
          refine AllReadyH.cons (o := rcReflr3_23) rfl (fun K hK => ?_) ?_
          · unfold rcReflr3_23
            go_simp
            refine at_K (fun W705 hW705 => ?_)
            obtain ⟨g709, hg710, Kk707, Hx706, Hz708, KV711, HN712⟩ := alloc1v KV682.out hW705
            rw [hg710]
            clear hW705
            have HR713 := Lib.hid (q_row2 Hx706.out Gc.out (HLc.out.later KV711.out) Gr.out.2.2.2.2.1 (HLry.out.later KV711.out) (par_newg HN712.out (fun h => nomatch h)))
            clear hg710
            (try clear hHeld)
            refine hK.out _ _ (sees_kept _ (kept_trans Kk681.out Kk707.out)) (fun hHeld => ?_)
            clear hK K
            (try simp only [Act.put, List.setIfInBounds_toArray, List.set_cons_zero, List.set_cons_succ])
            exact HJj59 W705 g99 g168 g709 ⟨(kept_trans Kk681.out Kk707.out), (HL683.out.later Kk707.out), (HL684.out.later Kk707.out), HR713.out⟩
          refine AllReadyH.cons (o := rcReflr3_35) rfl (fun K hK => ?_) ?_
          · unfold rcReflr3_35
            go_simp
            refine at_K (fun W715 hW715 => ?_)
            obtain ⟨g719, hg720, Kk717, Hx716, Hz718, KV721, HN722⟩ := alloc1v KV682.out hW715
            rw [hg720]
            clear hW715
            have HR723 := Lib.hid (q_row6 Hx716.out Ga.out (HLa.out.later KV721.out) Gc.out (HLc.out.later KV721.out) Ge.out (HLe.out.later KV721.out) Gr.out.2.2.2.1 (HLrx.out.later KV721.out) Gr.out.2.2.2.2.1 (HLry.out.later KV721.out) Gr.out.2.2.2.2.2 (HLrh.out.later KV721.out) (par_newg HN722.out (fun h => nomatch h)))
            clear hg720
            (try clear hHeld)
            refine hK.out _ _ (sees_kept _ (kept_trans Kk681.out Kk717.out)) (fun hHeld => ?_)
            clear hK K
            (try simp only [Act.put, List.setIfInBounds_toArray, List.set_cons_zero, List.set_cons_succ])
            exact HJj55 W715 g99 g168 g719 ⟨(kept_trans Kk681.out Kk717.out), (HL683.out.later Kk717.out), (HL684.out.later Kk717.out), HR723.out⟩
          exact AllReadyH.nil
        · intro W214 g198 g218 k724
          obtain ⟨q725, q726, q727⟩ := k724
          have Kk728 := Lib.hid q725
          have KV729 := Lib.hid (kept_trans (kept_trans Kk13.out (kept_trans Kk21.out (kept_trans Kk28.out (kept_trans Kk35.out Kk41.out)))) Kk728.out)
          have HL730 := Lib.hid q726
          have HL731 := Lib.hid q727
          clear q725 q726 q727
          have hHeld : Sees W38 (w.heap.size + 4) W214 := sees_kept _ Kk728.out
          refine wpAnyH_ready (rs := [6, 23, 35]) (by kernel_rfl) (by simp) ?_
          refine AllReadyH.cons (o := rcReflr3_6) rfl (fun K hK => ?_) ?_
          · unfold rcReflr3_6
            go_simp
            refine at_K (fun W733 hW733 => ?_)
            obtain ⟨g737, hg738, Kk735, Hx734, Hz736, KV739, HN740⟩ := alloc1v KV729.out hW733
            rw [hg738]
            clear hW733
            have HR741 := Lib.hid (q_row3 Hx734.out Ga.out (HLa.out.later KV739.out) Gr.out.2.2.2.1 (HLrx.out.later KV739.out) Gr.out.2.2.2.1 (HLrx.out.later KV739.out) (par_newg HN740.out (fun h => nomatch h)))
            clear hg738
            (try clear hHeld)
            refine hK.out _ _ (sees_kept _ (kept_trans Kk728.out Kk735.out)) (fun hHeld => ?_)
            clear hK K
            (try simp only [Act.put, List.setIfInBounds_toArray, List.set_cons_zero, List.set_cons_succ])
            exact HJj63 W733 g737 g198 g218 ⟨(kept_trans Kk728.out Kk735.out), HR741.out, (HL730.out.later Kk735.out), (HL731.out.later Kk735.out)⟩
          refine AllReadyH.cons (o := rcReflr3_23) rfl (fun K hK => ?_) ?_
          · unfold rcReflr3_23
            go_simp
            refine at_K (fun W743 hW743 => ?_)
            obtain ⟨g747, hg748, Kk745, Hx744, Hz746, KV749, HN750⟩ := alloc1v KV729.out hW743
            rw [hg748]
            clear hW743
            have HR751 := Lib.hid (q_row2 Hx744.out Gc.out (HLc.out.later KV749.out) Gr.out.2.2.2.2.1 (HLry.out.later KV749.out) (par_newg HN750.out (fun h => nomatch h)))
            clear hg748
            (try clear hHeld)
            refine hK.out _ _ (sees_kept _ (kept_trans Kk728.out Kk745.out)) (fun hHeld => ?_)
            clear hK K
            (try simp only [Act.put, List.setIfInBounds_toArray, List.set_cons_zero, List.set_cons_succ])
            exact HJj60 W743 g198 g218 g747 ⟨(kept_trans Kk728.out Kk745.out), (HL730.out.later Kk745.out), (HL731.out.later Kk745.out), HR751.out⟩
          refine AllReadyH.cons (o := rcReflr3_35) rfl (fun K hK => ?_) ?_
          · unfold rcReflr3_35
            go_simp
            refine at_K (fun W753 hW753 => ?_)
            obtain ⟨g757, hg758, Kk755, Hx754, Hz756, KV759, HN760⟩ := alloc1v KV729.out hW753
            rw [hg758]
            clear hW753
            have HR761 := Lib.hid (q_row6 Hx754.out Ga.out (HLa.out.later KV759.out) Gc.out (HLc.out.later KV759.out) Ge.out (HLe.out.later KV759.out) Gr.out.2.2.2.1 (HLrx.out.later KV759.out) Gr.out.2.2.2.2.1 (HLry.out.later KV759.out) Gr.out.2.2.2.2.2 (HLrh.out.later KV759.out) (par_newg HN760.out (fun h => nomatch h)))
            clear hg758
            (try clear hHeld)
            refine hK.out _ _ (sees_kept _ (kept_trans Kk728.out Kk755.out)) (fun hHeld => ?_)
            clear hK K
            (try simp only [Act.put, List.setIfInBounds_toArray, List.set_cons_zero, List.set_cons_succ])
            exact HJj56 W753 g198 g218 g757 ⟨(kept_trans Kk728.out Kk755.out), (HL730.out.later Kk755.out), (HL731.out.later Kk755.out), HR761.out⟩
          exact AllReadyH.nil
        · intro W154 g99 g158 k762
          obtain ⟨q763, q764, q765⟩ := k762
          have Kk766 := Lib.hid q763
          have KV767 := Lib.hid (kept_trans (kept_trans Kk13.out (kept_trans Kk21.out (kept_trans Kk28.out (kept_trans Kk35.out Kk41.out)))) Kk766.out)
          have HL768 := Lib.hid q764
          have HL769 := Lib.hid q765
          clear q763 q764 q765
          have hHeld : Sees W38 (w.heap.size + 4) W154 := sees_kept _ Kk766.out
          refine wpAnyH_ready (rs := [7, 18, 23, 35]) (by kernel_rfl) (by simp) ?_
          refine AllReadyH.cons (o := rcReflr3_7) rfl (fun K hK => ?_) ?_
          · unfold rcReflr3_7
            go_simp
            refine (rnode_any 20 [a, r.x, r.x] (Par w V0.heap.size [] P) _ _ (show I64 20 from by unfold I64; decide) HL768.out (Nat.le_of_ble_eq_true rfl)).mono ?_
            obtain ⟨U777, hU777⟩ : ∃ qu, nodeT 20 [a, r.x, r.x] = qu := ⟨_, rfl⟩
            rw [hU777]
            have HU777 := Lib.hid hU777
            clear hU777
            rintro e w770 ⟨s772, rfl, hl773, k771⟩
            obtain ⟨a774, c775, S776, rfl, -⟩ := hl773.out
            have Kk778 := Lib.hid k771
            clear k771
            have Hhl773 : Hid (LiesQ w770 (Par w V0.heap.size [] P) U777.kids _) := par_give hl773 (Below.size KV767.out) (xlt_nil _)
            clear hl773
            (try clear hHeld)
            refine hK.out _ _ (sees_kept _ (kept_trans Kk766.out Kk778.out)) (fun hHeld => ?_)
            clear hK K
            (try simp only [Act.put, List.setIfInBounds_toArray, List.set_cons_zero, List.set_cons_succ])
            exact HJj65 w770 g99 U777 a774 c775 g158 ⟨(kept_trans Kk766.out Kk778.out), HU777.out, Hhl773.out, (HL769.out.later Kk778.out)⟩
          refine AllReadyH.cons (o := rcReflr3_18) rfl (fun K hK => ?_) ?_
          · unfold rcReflr3_18
            go_simp
            refine at_K (fun W780 hW780 => ?_)
            obtain ⟨g784, hg785, Kk782, Hx781, Hz783, KV786, HN787⟩ := alloc1v KV767.out hW780
            rw [hg785]
            clear hW780
            have HR788 := Lib.hid (q_row2 Hx781.out Ga.out (HLa.out.later KV786.out) Gr.out.2.2.2.1 (HLrx.out.later KV786.out) (par_newg HN787.out (fun h => nomatch h)))
            clear hg785
            (try clear hHeld)
            refine hK.out _ _ (sees_kept _ (kept_trans Kk766.out Kk782.out)) (fun hHeld => ?_)
            clear hK K
            (try simp only [Act.put, List.setIfInBounds_toArray, List.set_cons_zero, List.set_cons_succ])
            exact HJj63 W780 g99 g158 g784 ⟨(kept_trans Kk766.out Kk782.out), (HL768.out.later Kk782.out), (HL769.out.later Kk782.out), HR788.out⟩
          refine AllReadyH.cons (o := rcReflr3_23) rfl (fun K hK => ?_) ?_
          · unfold rcReflr3_23
            go_simp
            refine at_K (fun W790 hW790 => ?_)
            obtain ⟨g794, hg795, Kk792, Hx791, Hz793, KV796, HN797⟩ := alloc1v KV767.out hW790
            rw [hg795]
            clear hW790
            have HR798 := Lib.hid (q_row2 Hx791.out Gc.out (HLc.out.later KV796.out) Gr.out.2.2.2.2.1 (HLry.out.later KV796.out) (par_newg HN797.out (fun h => nomatch h)))
            clear hg795
            (try clear hHeld)
            refine hK.out _ _ (sees_kept _ (kept_trans Kk766.out Kk792.out)) (fun hHeld => ?_)
            clear hK K
            (try simp only [Act.put, List.setIfInBounds_toArray, List.set_cons_zero, List.set_cons_succ])
            exact HJj61 W790 g99 g158 g794 ⟨(kept_trans Kk766.out Kk792.out), (HL768.out.later Kk792.out), (HL769.out.later Kk792.out), HR798.out⟩
          refine AllReadyH.cons (o := rcReflr3_35) rfl (fun K hK => ?_) ?_
          · unfold rcReflr3_35
            go_simp
            refine at_K (fun W800 hW800 => ?_)
            obtain ⟨g804, hg805, Kk802, Hx801, Hz803, KV806, HN807⟩ := alloc1v KV767.out hW800
            rw [hg805]
            clear hW800
            have HR808 := Lib.hid (q_row6 Hx801.out Ga.out (HLa.out.later KV806.out) Gc.out (HLc.out.later KV806.out) Ge.out (HLe.out.later KV806.out) Gr.out.2.2.2.1 (HLrx.out.later KV806.out) Gr.out.2.2.2.2.1 (HLry.out.later KV806.out) Gr.out.2.2.2.2.2 (HLrh.out.later KV806.out) (par_newg HN807.out (fun h => nomatch h)))
            clear hg805
            (try clear hHeld)
            refine hK.out _ _ (sees_kept _ (kept_trans Kk766.out Kk802.out)) (fun hHeld => ?_)
            clear hK K
            (try simp only [Act.put, List.setIfInBounds_toArray, List.set_cons_zero, List.set_cons_succ])
            exact HJj57 W800 g99 g158 g804 ⟨(kept_trans Kk766.out Kk802.out), (HL768.out.later Kk802.out), (HL769.out.later Kk802.out), HR808.out⟩
          exact AllReadyH.nil
        · intro W431 g99 g435 g188 k809
          obtain ⟨q810, q811, q812, q813⟩ := k809
          have Kk814 := Lib.hid q810
          have KV815 := Lib.hid (kept_trans (kept_trans Kk13.out (kept_trans Kk21.out (kept_trans Kk28.out (kept_trans Kk35.out Kk41.out)))) Kk814.out)
          have HL816 := Lib.hid q811
          have HL817 := Lib.hid q812
          have HL818 := Lib.hid q813
          clear q810 q811 q812 q813
          have hHeld : Sees W38 (w.heap.size + 4) W431 := sees_kept _ Kk814.out
          refine wpAnyH_ready (rs := [7, 13, 18]) (by kernel_rfl) (by simp) ?_
          refine AllReadyH.cons (o := rcReflr3_7) rfl (fun K hK => ?_) ?_
          · unfold rcReflr3_7
            go_simp
            refine (rnode_any 20 [a, r.x, r.x] (Par w V0.heap.size [] P) _ _ (show I64 20 from by unfold I64; decide) HL816.out (Nat.le_of_ble_eq_true rfl)).mono ?_
            obtain ⟨U826, hU826⟩ : ∃ qu, nodeT 20 [a, r.x, r.x] = qu := ⟨_, rfl⟩
            rw [hU826]
            have HU826 := Lib.hid hU826
            clear hU826
            rintro e w819 ⟨s821, rfl, hl822, k820⟩
            obtain ⟨a823, c824, S825, rfl, -⟩ := hl822.out
            have Kk827 := Lib.hid k820
            clear k820
            have Hhl822 : Hid (LiesQ w819 (Par w V0.heap.size [] P) U826.kids _) := par_give hl822 (Below.size KV815.out) (xlt_nil _)
            clear hl822
            (try clear hHeld)
            refine hK.out _ _ (sees_kept _ (kept_trans Kk814.out Kk827.out)) (fun hHeld => ?_)
            clear hK K
            (try simp only [Act.put, List.setIfInBounds_toArray, List.set_cons_zero, List.set_cons_succ])
            exact HJj69 w819 g99 U826 a823 c824 g435 g188 ⟨(kept_trans Kk814.out Kk827.out), HU826.out, Hhl822.out, (HL817.out.later Kk827.out), (HL818.out.later Kk827.out)⟩
          refine AllReadyH.cons (o := rcReflr3_13) rfl (fun K hK => ?_) ?_
          · unfold rcReflr3_13
            go_simp
            refine at_K (fun W829 hW829 => ?_)
            obtain ⟨g833, hg834, Kk831, Hx830, Hz832, KV835, HN836⟩ := alloc1v KV815.out hW829
            rw [hg834]
            clear hW829
            have HR837 := Lib.hid (q_row3 Hx830.out Gc.out (HLc.out.later KV835.out) Gr.out.2.2.2.2.1 (HLry.out.later KV835.out) Gr.out.2.2.2.2.1 (HLry.out.later KV835.out) (par_newg HN836.out (fun h => nomatch h)))
            clear hg834
            (try clear hHeld)
            refine hK.out _ _ (sees_kept _ (kept_trans Kk814.out Kk831.out)) (fun hHeld => ?_)
            clear hK K
            (try simp only [Act.put, List.setIfInBounds_toArray, List.set_cons_zero, List.set_cons_succ])
            exact HJj68 W829 g99 g833 g435 g188 ⟨(kept_trans Kk814.out Kk831.out), (HL816.out.later Kk831.out), HR837.out, (HL817.out.later Kk831.out), (HL818.out.later Kk831.out)⟩
          refine AllReadyH.cons (o := rcReflr3_18) rfl (fun K hK => ?_) ?_
          · unfold rcReflr3_18
            go_simp
            refine at_K (fun W839 hW839 => ?_)
            obtain ⟨g843, hg844, Kk841, Hx840, Hz842, KV845, HN846⟩ := alloc1v KV815.out hW839
            rw [hg844]
            clear hW839
            have HR847 := Lib.hid (q_row2 Hx840.out Ga.out (HLa.out.later KV845.out) Gr.out.2.2.2.1 (HLrx.out.later KV845.out) (par_newg HN846.out (fun h => nomatch h)))
            clear hg844
            (try clear hHeld)
            refine hK.out _ _ (sees_kept _ (kept_trans Kk814.out Kk841.out)) (fun hHeld => ?_)
            clear hK K
            (try simp only [Act.put, List.setIfInBounds_toArray, List.set_cons_zero, List.set_cons_succ])
            exact HJj66 W839 g99 g843 g435 g188 ⟨(kept_trans Kk814.out Kk841.out), (HL816.out.later Kk841.out), HR847.out, (HL817.out.later Kk841.out), (HL818.out.later Kk841.out)⟩
          exact AllReadyH.nil
        · intro W469 g198 g473 g238 k848
          obtain ⟨q849, q850, q851, q852⟩ := k848
          have Kk853 := Lib.hid q849
          have KV854 := Lib.hid (kept_trans (kept_trans Kk13.out (kept_trans Kk21.out (kept_trans Kk28.out (kept_trans Kk35.out Kk41.out)))) Kk853.out)
          have HL855 := Lib.hid q850
          have HL856 := Lib.hid q851
          have HL857 := Lib.hid q852
          clear q849 q850 q851 q852
          have hHeld : Sees W38 (w.heap.size + 4) W469 := sees_kept _ Kk853.out
          refine wpAnyH_ready (rs := [6, 18]) (by kernel_rfl) (by simp) ?_
          refine AllReadyH.cons (o := rcReflr3_6) rfl (fun K hK => ?_) ?_
          · unfold rcReflr3_6
            go_simp
            refine at_K (fun W859 hW859 => ?_)
            obtain ⟨g863, hg864, Kk861, Hx860, Hz862, KV865, HN866⟩ := alloc1v KV854.out hW859
            rw [hg864]
            clear hW859
            have HR867 := Lib.hid (q_row3 Hx860.out Ga.out (HLa.out.later KV865.out) Gr.out.2.2.2.1 (HLrx.out.later KV865.out) Gr.out.2.2.2.1 (HLrx.out.later KV865.out) (par_newg HN866.out (fun h => nomatch h)))
            clear hg864
            (try clear hHeld)
            refine hK.out _ _ (sees_kept _ (kept_trans Kk853.out Kk861.out)) (fun hHeld => ?_)
            clear hK K
            (try simp only [Act.put, List.setIfInBounds_toArray, List.set_cons_zero, List.set_cons_succ])
            exact HJj68 W859 g863 g198 g473 g238 ⟨(kept_trans Kk853.out Kk861.out), HR867.out, (HL855.out.later Kk861.out), (HL856.out.later Kk861.out), (HL857.out.later Kk861.out)⟩
          refine AllReadyH.cons (o := rcReflr3_18) rfl (fun K hK => ?_) ?_
          · unfold rcReflr3_18
            go_simp
            refine at_K (fun W869 hW869 => ?_)
            obtain ⟨g873, hg874, Kk871, Hx870, Hz872, KV875, HN876⟩ := alloc1v KV854.out hW869
            rw [hg874]
            clear hW869
            have HR877 := Lib.hid (q_row2 Hx870.out Ga.out (HLa.out.later KV875.out) Gr.out.2.2.2.1 (HLrx.out.later KV875.out) (par_newg HN876.out (fun h => nomatch h)))
            clear hg874
            (try clear hHeld)
            refine hK.out _ _ (sees_kept _ (kept_trans Kk853.out Kk871.out)) (fun hHeld => ?_)
            clear hK K
            (try simp only [Act.put, List.setIfInBounds_toArray, List.set_cons_zero, List.set_cons_succ])
            exact HJj67 W869 g198 g873 g473 g238 ⟨(kept_trans Kk853.out Kk871.out), (HL855.out.later Kk871.out), HR877.out, (HL856.out.later Kk871.out), (HL857.out.later Kk871.out)⟩
          exact AllReadyH.nil
        · intro W507 g248 g511 g288 k878
          obtain ⟨q879, q880, q881, q882⟩ := k878
          have Kk883 := Lib.hid q879
          have KV884 := Lib.hid (kept_trans (kept_trans Kk13.out (kept_trans Kk21.out (kept_trans Kk28.out (kept_trans Kk35.out Kk41.out)))) Kk883.out)
          have HL885 := Lib.hid q880
          have HL886 := Lib.hid q881
          have HL887 := Lib.hid q882
          clear q879 q880 q881 q882
          have hHeld : Sees W38 (w.heap.size + 4) W507 := sees_kept _ Kk883.out
          refine wpAnyH_ready (rs := [6, 13]) (by kernel_rfl) (by simp) ?_
          refine AllReadyH.cons (o := rcReflr3_6) rfl (fun K hK => ?_) ?_
          · unfold rcReflr3_6
            go_simp
            refine at_K (fun W889 hW889 => ?_)
            obtain ⟨g893, hg894, Kk891, Hx890, Hz892, KV895, HN896⟩ := alloc1v KV884.out hW889
            rw [hg894]
            clear hW889
            have HR897 := Lib.hid (q_row3 Hx890.out Ga.out (HLa.out.later KV895.out) Gr.out.2.2.2.1 (HLrx.out.later KV895.out) Gr.out.2.2.2.1 (HLrx.out.later KV895.out) (par_newg HN896.out (fun h => nomatch h)))
            clear hg894
            (try clear hHeld)
            refine hK.out _ _ (sees_kept _ (kept_trans Kk883.out Kk891.out)) (fun hHeld => ?_)
            clear hK K
            (try simp only [Act.put, List.setIfInBounds_toArray, List.set_cons_zero, List.set_cons_succ])
            exact HJj66 W889 g893 g248 g511 g288 ⟨(kept_trans Kk883.out Kk891.out), HR897.out, (HL885.out.later Kk891.out), (HL886.out.later Kk891.out), (HL887.out.later Kk891.out)⟩
          refine AllReadyH.cons (o := rcReflr3_13) rfl (fun K hK => ?_) ?_
          · unfold rcReflr3_13
            go_simp
            refine at_K (fun W899 hW899 => ?_)
            obtain ⟨g903, hg904, Kk901, Hx900, Hz902, KV905, HN906⟩ := alloc1v KV884.out hW899
            rw [hg904]
            clear hW899
            have HR907 := Lib.hid (q_row3 Hx900.out Gc.out (HLc.out.later KV905.out) Gr.out.2.2.2.2.1 (HLry.out.later KV905.out) Gr.out.2.2.2.2.1 (HLry.out.later KV905.out) (par_newg HN906.out (fun h => nomatch h)))
            clear hg904
            (try clear hHeld)
            refine hK.out _ _ (sees_kept _ (kept_trans Kk883.out Kk901.out)) (fun hHeld => ?_)
            clear hK K
            (try simp only [Act.put, List.setIfInBounds_toArray, List.set_cons_zero, List.set_cons_succ])
            exact HJj67 W899 g903 g248 g511 g288 ⟨(kept_trans Kk883.out Kk901.out), HR907.out, (HL885.out.later Kk901.out), (HL886.out.later Kk901.out), (HL887.out.later Kk901.out)⟩
          exact AllReadyH.nil
        · intro W421 g99 g425 g188 k908
          obtain ⟨q909, q910, q911, q912⟩ := k908
          have Kk913 := Lib.hid q909
          have KV914 := Lib.hid (kept_trans (kept_trans Kk13.out (kept_trans Kk21.out (kept_trans Kk28.out (kept_trans Kk35.out Kk41.out)))) Kk913.out)
          have HL915 := Lib.hid q910
          have HL916 := Lib.hid q911
          have HL917 := Lib.hid q912
          clear q909 q910 q911 q912
          have hHeld : Sees W38 (w.heap.size + 4) W421 := sees_kept _ Kk913.out
          refine wpAnyH_ready (rs := [7, 13, 23]) (by kernel_rfl) (by simp) ?_
          refine AllReadyH.cons (o := rcReflr3_7) rfl (fun K hK => ?_) ?_
          · unfold rcReflr3_7
            go_simp
            refine (rnode_any 20 [a, r.x, r.x] (Par w V0.heap.size [] P) _ _ (show I64 20 from by unfold I64; decide) HL915.out (Nat.le_of_ble_eq_true rfl)).mono ?_
            obtain ⟨U925, hU925⟩ : ∃ qu, nodeT 20 [a, r.x, r.x] = qu := ⟨_, rfl⟩
            rw [hU925]
            have HU925 := Lib.hid hU925
            clear hU925
            rintro e w918 ⟨s920, rfl, hl921, k919⟩
            obtain ⟨a922, c923, S924, rfl, -⟩ := hl921.out
            have Kk926 := Lib.hid k919
            clear k919
            have Hhl921 : Hid (LiesQ w918 (Par w V0.heap.size [] P) U925.kids _) := par_give hl921 (Below.size KV914.out) (xlt_nil _)
            clear hl921
            (try clear hHeld)
            refine hK.out _ _ (sees_kept _ (kept_trans Kk913.out Kk926.out)) (fun hHeld => ?_)
            clear hK K
            (try simp only [Act.put, List.setIfInBounds_toArray, List.set_cons_zero, List.set_cons_succ])
            exact HJj71 w918 g99 U925 a922 c923 g425 g188 ⟨(kept_trans Kk913.out Kk926.out), HU925.out, Hhl921.out, (HL916.out.later Kk926.out), (HL917.out.later Kk926.out)⟩
          refine AllReadyH.cons (o := rcReflr3_13) rfl (fun K hK => ?_) ?_
          · unfold rcReflr3_13
            go_simp
            refine at_K (fun W928 hW928 => ?_)
            obtain ⟨g932, hg933, Kk930, Hx929, Hz931, KV934, HN935⟩ := alloc1v KV914.out hW928
            rw [hg933]
            clear hW928
            have HR936 := Lib.hid (q_row3 Hx929.out Gc.out (HLc.out.later KV934.out) Gr.out.2.2.2.2.1 (HLry.out.later KV934.out) Gr.out.2.2.2.2.1 (HLry.out.later KV934.out) (par_newg HN935.out (fun h => nomatch h)))
            clear hg933
            (try clear hHeld)
            refine hK.out _ _ (sees_kept _ (kept_trans Kk913.out Kk930.out)) (fun hHeld => ?_)
            clear hK K
            (try simp only [Act.put, List.setIfInBounds_toArray, List.set_cons_zero, List.set_cons_succ])
            exact HJj70 W928 g99 g932 g425 g188 ⟨(kept_trans Kk913.out Kk930.out), (HL915.out.later Kk930.out), HR936.out, (HL916.out.later Kk930.out), (HL917.out.later Kk930.out)⟩
          refine AllReadyH.cons (o := rcReflr3_23) rfl (fun K hK => ?_) ?_
          · unfold rcReflr3_23
            go_simp
            refine at_K (fun W938 hW938 => ?_)
            obtain ⟨g942, hg943, Kk940, Hx939, Hz941, KV944, HN945⟩ := alloc1v KV914.out hW938
            rw [hg943]
            clear hW938
            have HR946 := Lib.hid (q_row2 Hx939.out Gc.out (HLc.out.later KV944.out) Gr.out.2.2.2.2.1 (HLry.out.later KV944.out) (par_newg HN945.out (fun h => nomatch h)))
            clear hg943
            (try clear hHeld)
            refine hK.out _ _ (sees_kept _ (kept_trans Kk913.out Kk940.out)) (fun hHeld => ?_)
            clear hK K
            (try simp only [Act.put, List.setIfInBounds_toArray, List.set_cons_zero, List.set_cons_succ])
            exact HJj66 W938 g99 g425 g942 g188 ⟨(kept_trans Kk913.out Kk940.out), (HL915.out.later Kk940.out), (HL916.out.later Kk940.out), HR946.out, (HL917.out.later Kk940.out)⟩
          exact AllReadyH.nil
        · intro W459 g198 g463 g238 k947
          obtain ⟨q948, q949, q950, q951⟩ := k947
          have Kk952 := Lib.hid q948
          have KV953 := Lib.hid (kept_trans (kept_trans Kk13.out (kept_trans Kk21.out (kept_trans Kk28.out (kept_trans Kk35.out Kk41.out)))) Kk952.out)
          have HL954 := Lib.hid q949
          have HL955 := Lib.hid q950
          have HL956 := Lib.hid q951
          clear q948 q949 q950 q951
          have hHeld : Sees W38 (w.heap.size + 4) W459 := sees_kept _ Kk952.out
          refine wpAnyH_ready (rs := [6, 23]) (by kernel_rfl) (by simp) ?_
          refine AllReadyH.cons (o := rcReflr3_6) rfl (fun K hK => ?_) ?_
          · unfold rcReflr3_6
            go_simp
            refine at_K (fun W958 hW958 => ?_)
            obtain ⟨g962, hg963, Kk960, Hx959, Hz961, KV964, HN965⟩ := alloc1v KV953.out hW958
            rw [hg963]
            clear hW958
            have HR966 := Lib.hid (q_row3 Hx959.out Ga.out (HLa.out.later KV964.out) Gr.out.2.2.2.1 (HLrx.out.later KV964.out) Gr.out.2.2.2.1 (HLrx.out.later KV964.out) (par_newg HN965.out (fun h => nomatch h)))
            clear hg963
            (try clear hHeld)
            refine hK.out _ _ (sees_kept _ (kept_trans Kk952.out Kk960.out)) (fun hHeld => ?_)
            clear hK K
            (try simp only [Act.put, List.setIfInBounds_toArray, List.set_cons_zero, List.set_cons_succ])
            exact HJj70 W958 g962 g198 g463 g238 ⟨(kept_trans Kk952.out Kk960.out), HR966.out, (HL954.out.later Kk960.out), (HL955.out.later Kk960.out), (HL956.out.later Kk960.out)⟩
          refine AllReadyH.cons (o := rcReflr3_23) rfl (fun K hK => ?_) ?_
          · unfold rcReflr3_23
            go_simp
            refine at_K (fun W968 hW968 => ?_)
            obtain ⟨g972, hg973, Kk970, Hx969, Hz971, KV974, HN975⟩ := alloc1v KV953.out hW968
            rw [hg973]
            clear hW968
            have HR976 := Lib.hid (q_row2 Hx969.out Gc.out (HLc.out.later KV974.out) Gr.out.2.2.2.2.1 (HLry.out.later KV974.out) (par_newg HN975.out (fun h => nomatch h)))
            clear hg973
            (try clear hHeld)
            refine hK.out _ _ (sees_kept _ (kept_trans Kk952.out Kk970.out)) (fun hHeld => ?_)
            clear hK K
            (try simp only [Act.put, List.setIfInBounds_toArray, List.set_cons_zero, List.set_cons_succ])
            exact HJj67 W968 g198 g463 g972 g238 ⟨(kept_trans Kk952.out Kk970.out), (HL954.out.later Kk970.out), (HL955.out.later Kk970.out), HR976.out, (HL956.out.later Kk970.out)⟩
          exact AllReadyH.nil
        · intro W411 g99 g415 g188 k977
          obtain ⟨q978, q979, q980, q981⟩ := k977
          have Kk982 := Lib.hid q978
          have KV983 := Lib.hid (kept_trans (kept_trans Kk13.out (kept_trans Kk21.out (kept_trans Kk28.out (kept_trans Kk35.out Kk41.out)))) Kk982.out)
          have HL984 := Lib.hid q979
          have HL985 := Lib.hid q980
          have HL986 := Lib.hid q981
          clear q978 q979 q980 q981
          have hHeld : Sees W38 (w.heap.size + 4) W411 := sees_kept _ Kk982.out
          refine wpAnyH_ready (rs := [7, 18, 23]) (by kernel_rfl) (by simp) ?_
          refine AllReadyH.cons (o := rcReflr3_7) rfl (fun K hK => ?_) ?_
          · unfold rcReflr3_7
            go_simp
            refine (rnode_any 20 [a, r.x, r.x] (Par w V0.heap.size [] P) _ _ (show I64 20 from by unfold I64; decide) HL984.out (Nat.le_of_ble_eq_true rfl)).mono ?_
            obtain ⟨U994, hU994⟩ : ∃ qu, nodeT 20 [a, r.x, r.x] = qu := ⟨_, rfl⟩
            rw [hU994]
            have HU994 := Lib.hid hU994
            clear hU994
            rintro e w987 ⟨s989, rfl, hl990, k988⟩
            obtain ⟨a991, c992, S993, rfl, -⟩ := hl990.out
            have Kk995 := Lib.hid k988
            clear k988
            have Hhl990 : Hid (LiesQ w987 (Par w V0.heap.size [] P) U994.kids _) := par_give hl990 (Below.size KV983.out) (xlt_nil _)
            clear hl990
            (try clear hHeld)
            refine hK.out _ _ (sees_kept _ (kept_trans Kk982.out Kk995.out)) (fun hHeld => ?_)
            clear hK K
            (try simp only [Act.put, List.setIfInBounds_toArray, List.set_cons_zero, List.set_cons_succ])
            exact HJj72 w987 g99 U994 a991 c992 g415 g188 ⟨(kept_trans Kk982.out Kk995.out), HU994.out, Hhl990.out, (HL985.out.later Kk995.out), (HL986.out.later Kk995.out)⟩
          refine AllReadyH.cons (o := rcReflr3_18) rfl (fun K hK => ?_) ?_
          · unfold rcReflr3_18
            go_simp
            refine at_K (fun W997 hW997 => ?_)
            obtain ⟨g1001, hg1002, Kk999, Hx998, Hz1000, KV1003, HN1004⟩ := alloc1v KV983.out hW997
            rw [hg1002]
            clear hW997
            have HR1005 := Lib.hid (q_row2 Hx998.out Ga.out (HLa.out.later KV1003.out) Gr.out.2.2.2.1 (HLrx.out.later KV1003.out) (par_newg HN1004.out (fun h => nomatch h)))
            clear hg1002
            (try clear hHeld)
            refine hK.out _ _ (sees_kept _ (kept_trans Kk982.out Kk999.out)) (fun hHeld => ?_)
            clear hK K
            (try simp only [Act.put, List.setIfInBounds_toArray, List.set_cons_zero, List.set_cons_succ])
            exact HJj70 W997 g99 g415 g1001 g188 ⟨(kept_trans Kk982.out Kk999.out), (HL984.out.later Kk999.out), (HL985.out.later Kk999.out), HR1005.out, (HL986.out.later Kk999.out)⟩
          refine AllReadyH.cons (o := rcReflr3_23) rfl (fun K hK => ?_) ?_
          · unfold rcReflr3_23
            go_simp
            refine at_K (fun W1007 hW1007 => ?_)
            obtain ⟨g1011, hg1012, Kk1009, Hx1008, Hz1010, KV1013, HN1014⟩ := alloc1v KV983.out hW1007
            rw [hg1012]
            clear hW1007
            have HR1015 := Lib.hid (q_row2 Hx1008.out Gc.out (HLc.out.later KV1013.out) Gr.out.2.2.2.2.1 (HLry.out.later KV1013.out) (par_newg HN1014.out (fun h => nomatch h)))
            clear hg1012
            (try clear hHeld)
            refine hK.out _ _ (sees_kept _ (kept_trans Kk982.out Kk1009.out)) (fun hHeld => ?_)
            clear hK K
            (try simp only [Act.put, List.setIfInBounds_toArray, List.set_cons_zero, List.set_cons_succ])
            exact HJj68 W1007 g99 g415 g1011 g188 ⟨(kept_trans Kk982.out Kk1009.out), (HL984.out.later Kk1009.out), (HL985.out.later Kk1009.out), HR1015.out, (HL986.out.later Kk1009.out)⟩
          exact AllReadyH.nil
        · intro W144 g99 U111 a108 c109 g148 k1016
          obtain ⟨q1017, q1018, q1019, q1020⟩ := k1016
          have Kk1021 := Lib.hid q1017
          have KV1022 := Lib.hid (kept_trans (kept_trans Kk13.out (kept_trans Kk21.out (kept_trans Kk28.out (kept_trans Kk35.out Kk41.out)))) Kk1021.out)
          have HU111 := Lib.hid q1018
          have HL1023 := Lib.hid q1019
          have HL1024 := Lib.hid q1020
          clear q1017 q1018 q1019 q1020
          have hHeld : Sees W38 (w.heap.size + 4) W144 := sees_kept _ Kk1021.out
          refine wpAnyH_ready (rs := [13, 18, 23]) (by kernel_rfl) (by simp) ?_
          refine AllReadyH.cons (o := rcReflr3_13) rfl (fun K hK => ?_) ?_
          · unfold rcReflr3_13
            go_simp
            refine at_K (fun W1026 hW1026 => ?_)
            obtain ⟨g1030, hg1031, Kk1028, Hx1027, Hz1029, KV1032, HN1033⟩ := alloc1v KV1022.out hW1026
            rw [hg1031]
            clear hW1026
            have HR1034 := Lib.hid (q_row3 Hx1027.out Gc.out (HLc.out.later KV1032.out) Gr.out.2.2.2.2.1 (HLry.out.later KV1032.out) Gr.out.2.2.2.2.1 (HLry.out.later KV1032.out) (par_newg HN1033.out (fun h => nomatch h)))
            clear hg1031
            (try clear hHeld)
            refine hK.out _ _ (sees_kept _ (kept_trans Kk1021.out Kk1028.out)) (fun hHeld => ?_)
            clear hK K
            (try simp only [Act.put, List.setIfInBounds_toArray, List.set_cons_zero, List.set_cons_succ])
            exact HJj72 W1026 g99 U111 a108 c109 g1030 g148 ⟨(kept_trans Kk1021.out Kk1028.out), HU111.out, (HL1023.out.later Kk1028.out), HR1034.out, (HL1024.out.later Kk1028.out)⟩
          refine AllReadyH.cons (o := rcReflr3_18) rfl (fun K hK => ?_) ?_
          · unfold rcReflr3_18
            go_simp
            refine at_K (fun W1036 hW1036 => ?_)
            obtain ⟨g1040, hg1041, Kk1038, Hx1037, Hz1039, KV1042, HN1043⟩ := alloc1v KV1022.out hW1036
            rw [hg1041]
            clear hW1036
            have HR1044 := Lib.hid (q_row2 Hx1037.out Ga.out (HLa.out.later KV1042.out) Gr.out.2.2.2.1 (HLrx.out.later KV1042.out) (par_newg HN1043.out (fun h => nomatch h)))
            clear hg1041
            (try clear hHeld)
            refine hK.out _ _ (sees_kept _ (kept_trans Kk1021.out Kk1038.out)) (fun hHeld => ?_)
            clear hK K
            (try simp only [Act.put, List.setIfInBounds_toArray, List.set_cons_zero, List.set_cons_succ])
            exact HJj71 W1036 g99 U111 a108 c109 g1040 g148 ⟨(kept_trans Kk1021.out Kk1038.out), HU111.out, (HL1023.out.later Kk1038.out), HR1044.out, (HL1024.out.later Kk1038.out)⟩
          refine AllReadyH.cons (o := rcReflr3_23) rfl (fun K hK => ?_) ?_
          · unfold rcReflr3_23
            go_simp
            refine at_K (fun W1046 hW1046 => ?_)
            obtain ⟨g1050, hg1051, Kk1048, Hx1047, Hz1049, KV1052, HN1053⟩ := alloc1v KV1022.out hW1046
            rw [hg1051]
            clear hW1046
            have HR1054 := Lib.hid (q_row2 Hx1047.out Gc.out (HLc.out.later KV1052.out) Gr.out.2.2.2.2.1 (HLry.out.later KV1052.out) (par_newg HN1053.out (fun h => nomatch h)))
            clear hg1051
            (try clear hHeld)
            refine hK.out _ _ (sees_kept _ (kept_trans Kk1021.out Kk1048.out)) (fun hHeld => ?_)
            clear hK K
            (try simp only [Act.put, List.setIfInBounds_toArray, List.set_cons_zero, List.set_cons_succ])
            exact HJj69 W1046 g99 U111 a108 c109 g1050 g148 ⟨(kept_trans Kk1021.out Kk1048.out), HU111.out, (HL1023.out.later Kk1048.out), HR1054.out, (HL1024.out.later Kk1048.out)⟩
          exact AllReadyH.nil
        · intro W582 g99 g586 g178 k1055
          obtain ⟨q1056, q1057, q1058, q1059⟩ := k1055
          have Kk1060 := Lib.hid q1056
          have KV1061 := Lib.hid (kept_trans (kept_trans Kk13.out (kept_trans Kk21.out (kept_trans Kk28.out (kept_trans Kk35.out Kk41.out)))) Kk1060.out)
          have HL1062 := Lib.hid q1057
          have HL1063 := Lib.hid q1058
          have HL1064 := Lib.hid q1059
          clear q1056 q1057 q1058 q1059
          have hHeld : Sees W38 (w.heap.size + 4) W582 := sees_kept _ Kk1060.out
          refine wpAnyH_ready (rs := [7, 13, 35]) (by kernel_rfl) (by simp) ?_
          refine AllReadyH.cons (o := rcReflr3_7) rfl (fun K hK => ?_) ?_
          · unfold rcReflr3_7
            go_simp
            refine (rnode_any 20 [a, r.x, r.x] (Par w V0.heap.size [] P) _ _ (show I64 20 from by unfold I64; decide) HL1062.out (Nat.le_of_ble_eq_true rfl)).mono ?_
            obtain ⟨U1072, hU1072⟩ : ∃ qu, nodeT 20 [a, r.x, r.x] = qu := ⟨_, rfl⟩
            rw [hU1072]
            have HU1072 := Lib.hid hU1072
            clear hU1072
            rintro e w1065 ⟨s1067, rfl, hl1068, k1066⟩
            obtain ⟨a1069, c1070, S1071, rfl, -⟩ := hl1068.out
            have Kk1073 := Lib.hid k1066
            clear k1066
            have Hhl1068 : Hid (LiesQ w1065 (Par w V0.heap.size [] P) U1072.kids _) := par_give hl1068 (Below.size KV1061.out) (xlt_nil _)
            clear hl1068
            (try clear hHeld)
            refine hK.out _ _ (sees_kept _ (kept_trans Kk1060.out Kk1073.out)) (fun hHeld => ?_)
            clear hK K
            (try simp only [Act.put, List.setIfInBounds_toArray, List.set_cons_zero, List.set_cons_succ])
            exact HJj74 w1065 g99 U1072 a1069 c1070 g586 g178 ⟨(kept_trans Kk1060.out Kk1073.out), HU1072.out, Hhl1068.out, (HL1063.out.later Kk1073.out), (HL1064.out.later Kk1073.out)⟩
          refine AllReadyH.cons (o := rcReflr3_13) rfl (fun K hK => ?_) ?_
          · unfold rcReflr3_13
            go_simp
            refine at_K (fun W1075 hW1075 => ?_)
            obtain ⟨g1079, hg1080, Kk1077, Hx1076, Hz1078, KV1081, HN1082⟩ := alloc1v KV1061.out hW1075
            rw [hg1080]
            clear hW1075
            have HR1083 := Lib.hid (q_row3 Hx1076.out Gc.out (HLc.out.later KV1081.out) Gr.out.2.2.2.2.1 (HLry.out.later KV1081.out) Gr.out.2.2.2.2.1 (HLry.out.later KV1081.out) (par_newg HN1082.out (fun h => nomatch h)))
            clear hg1080
            (try clear hHeld)
            refine hK.out _ _ (sees_kept _ (kept_trans Kk1060.out Kk1077.out)) (fun hHeld => ?_)
            clear hK K
            (try simp only [Act.put, List.setIfInBounds_toArray, List.set_cons_zero, List.set_cons_succ])
            exact HJj73 W1075 g99 g1079 g586 g178 ⟨(kept_trans Kk1060.out Kk1077.out), (HL1062.out.later Kk1077.out), HR1083.out, (HL1063.out.later Kk1077.out), (HL1064.out.later Kk1077.out)⟩
          refine AllReadyH.cons (o := rcReflr3_35) rfl (fun K hK => ?_) ?_
          · unfold rcReflr3_35
            go_simp
            refine at_K (fun W1085 hW1085 => ?_)
            obtain ⟨g1089, hg1090, Kk1087, Hx1086, Hz1088, KV1091, HN1092⟩ := alloc1v KV1061.out hW1085
            rw [hg1090]
            clear hW1085
            have HR1093 := Lib.hid (q_row6 Hx1086.out Ga.out (HLa.out.later KV1091.out) Gc.out (HLc.out.later KV1091.out) Ge.out (HLe.out.later KV1091.out) Gr.out.2.2.2.1 (HLrx.out.later KV1091.out) Gr.out.2.2.2.2.1 (HLry.out.later KV1091.out) Gr.out.2.2.2.2.2 (HLrh.out.later KV1091.out) (par_newg HN1092.out (fun h => nomatch h)))
            clear hg1090
            (try clear hHeld)
            refine hK.out _ _ (sees_kept _ (kept_trans Kk1060.out Kk1087.out)) (fun hHeld => ?_)
            clear hK K
            (try simp only [Act.put, List.setIfInBounds_toArray, List.set_cons_zero, List.set_cons_succ])
            exact HJj66 W1085 g99 g586 g178 g1089 ⟨(kept_trans Kk1060.out Kk1087.out), (HL1062.out.later Kk1087.out), (HL1063.out.later Kk1087.out), (HL1064.out.later Kk1087.out), HR1093.out⟩
          exact AllReadyH.nil
        · intro W620 g198 g624 g228 k1094
          obtain ⟨q1095, q1096, q1097, q1098⟩ := k1094
          have Kk1099 := Lib.hid q1095
          have KV1100 := Lib.hid (kept_trans (kept_trans Kk13.out (kept_trans Kk21.out (kept_trans Kk28.out (kept_trans Kk35.out Kk41.out)))) Kk1099.out)
          have HL1101 := Lib.hid q1096
          have HL1102 := Lib.hid q1097
          have HL1103 := Lib.hid q1098
          clear q1095 q1096 q1097 q1098
          have hHeld : Sees W38 (w.heap.size + 4) W620 := sees_kept _ Kk1099.out
          refine wpAnyH_ready (rs := [6, 35]) (by kernel_rfl) (by simp) ?_
          refine AllReadyH.cons (o := rcReflr3_6) rfl (fun K hK => ?_) ?_
          · unfold rcReflr3_6
            go_simp
            refine at_K (fun W1105 hW1105 => ?_)
            obtain ⟨g1109, hg1110, Kk1107, Hx1106, Hz1108, KV1111, HN1112⟩ := alloc1v KV1100.out hW1105
            rw [hg1110]
            clear hW1105
            have HR1113 := Lib.hid (q_row3 Hx1106.out Ga.out (HLa.out.later KV1111.out) Gr.out.2.2.2.1 (HLrx.out.later KV1111.out) Gr.out.2.2.2.1 (HLrx.out.later KV1111.out) (par_newg HN1112.out (fun h => nomatch h)))
            clear hg1110
            (try clear hHeld)
            refine hK.out _ _ (sees_kept _ (kept_trans Kk1099.out Kk1107.out)) (fun hHeld => ?_)
            clear hK K
            (try simp only [Act.put, List.setIfInBounds_toArray, List.set_cons_zero, List.set_cons_succ])
            exact HJj73 W1105 g1109 g198 g624 g228 ⟨(kept_trans Kk1099.out Kk1107.out), HR1113.out, (HL1101.out.later Kk1107.out), (HL1102.out.later Kk1107.out), (HL1103.out.later Kk1107.out)⟩
          refine AllReadyH.cons (o := rcReflr3_35) rfl (fun K hK => ?_) ?_
          · unfold rcReflr3_35
            go_simp
            refine at_K (fun W1115 hW1115 => ?_)
            obtain ⟨g1119, hg1120, Kk1117, Hx1116, Hz1118, KV1121, HN1122⟩ := alloc1v KV1100.out hW1115
            rw [hg1120]
            clear hW1115
            have HR1123 := Lib.hid (q_row6 Hx1116.out Ga.out (HLa.out.later KV1121.out) Gc.out (HLc.out.later KV1121.out) Ge.out (HLe.out.later KV1121.out) Gr.out.2.2.2.1 (HLrx.out.later KV1121.out) Gr.out.2.2.2.2.1 (HLry.out.later KV1121.out) Gr.out.2.2.2.2.2 (HLrh.out.later KV1121.out) (par_newg HN1122.out (fun h => nomatch h)))
            clear hg1120
            (try clear hHeld)
            refine hK.out _ _ (sees_kept _ (kept_trans Kk1099.out Kk1117.out)) (fun hHeld => ?_)
            clear hK K
            (try simp only [Act.put, List.setIfInBounds_toArray, List.set_cons_zero, List.set_cons_succ])
            exact HJj67 W1115 g198 g624 g228 g1119 ⟨(kept_trans Kk1099.out Kk1117.out), (HL1101.out.later Kk1117.out), (HL1102.out.later Kk1117.out), (HL1103.out.later Kk1117.out), HR1123.out⟩
          exact AllReadyH.nil
        · intro W572 g99 g576 g178 k1124
          obtain ⟨q1125, q1126, q1127, q1128⟩ := k1124
          have Kk1129 := Lib.hid q1125
          have KV1130 := Lib.hid (kept_trans (kept_trans Kk13.out (kept_trans Kk21.out (kept_trans Kk28.out (kept_trans Kk35.out Kk41.out)))) Kk1129.out)
          have HL1131 := Lib.hid q1126
          have HL1132 := Lib.hid q1127
          have HL1133 := Lib.hid q1128
          clear q1125 q1126 q1127 q1128
          have hHeld : Sees W38 (w.heap.size + 4) W572 := sees_kept _ Kk1129.out
          refine wpAnyH_ready (rs := [7, 18, 35]) (by kernel_rfl) (by simp) ?_
          refine AllReadyH.cons (o := rcReflr3_7) rfl (fun K hK => ?_) ?_
          · unfold rcReflr3_7
            go_simp
            refine (rnode_any 20 [a, r.x, r.x] (Par w V0.heap.size [] P) _ _ (show I64 20 from by unfold I64; decide) HL1131.out (Nat.le_of_ble_eq_true rfl)).mono ?_
            obtain ⟨U1141, hU1141⟩ : ∃ qu, nodeT 20 [a, r.x, r.x] = qu := ⟨_, rfl⟩
            rw [hU1141]
            have HU1141 := Lib.hid hU1141
            clear hU1141
            rintro e w1134 ⟨s1136, rfl, hl1137, k1135⟩
            obtain ⟨a1138, c1139, S1140, rfl, -⟩ := hl1137.out
            have Kk1142 := Lib.hid k1135
            clear k1135
            have Hhl1137 : Hid (LiesQ w1134 (Par w V0.heap.size [] P) U1141.kids _) := par_give hl1137 (Below.size KV1130.out) (xlt_nil _)
            clear hl1137
            (try clear hHeld)
            refine hK.out _ _ (sees_kept _ (kept_trans Kk1129.out Kk1142.out)) (fun hHeld => ?_)
            clear hK K
            (try simp only [Act.put, List.setIfInBounds_toArray, List.set_cons_zero, List.set_cons_succ])
            exact HJj75 w1134 g99 U1141 a1138 c1139 g576 g178 ⟨(kept_trans Kk1129.out Kk1142.out), HU1141.out, Hhl1137.out, (HL1132.out.later Kk1142.out), (HL1133.out.later Kk1142.out)⟩
          refine AllReadyH.cons (o := rcReflr3_18) rfl (fun K hK => ?_) ?_
          · unfold rcReflr3_18
            go_simp
            refine at_K (fun W1144 hW1144 => ?_)
            obtain ⟨g1148, hg1149, Kk1146, Hx1145, Hz1147, KV1150, HN1151⟩ := alloc1v KV1130.out hW1144
            rw [hg1149]
            clear hW1144
            have HR1152 := Lib.hid (q_row2 Hx1145.out Ga.out (HLa.out.later KV1150.out) Gr.out.2.2.2.1 (HLrx.out.later KV1150.out) (par_newg HN1151.out (fun h => nomatch h)))
            clear hg1149
            (try clear hHeld)
            refine hK.out _ _ (sees_kept _ (kept_trans Kk1129.out Kk1146.out)) (fun hHeld => ?_)
            clear hK K
            (try simp only [Act.put, List.setIfInBounds_toArray, List.set_cons_zero, List.set_cons_succ])
            exact HJj73 W1144 g99 g576 g1148 g178 ⟨(kept_trans Kk1129.out Kk1146.out), (HL1131.out.later Kk1146.out), (HL1132.out.later Kk1146.out), HR1152.out, (HL1133.out.later Kk1146.out)⟩
          refine AllReadyH.cons (o := rcReflr3_35) rfl (fun K hK => ?_) ?_
          · unfold rcReflr3_35
            go_simp
            refine at_K (fun W1154 hW1154 => ?_)
            obtain ⟨g1158, hg1159, Kk1156, Hx1155, Hz1157, KV1160, HN1161⟩ := alloc1v KV1130.out hW1154
            rw [hg1159]
            clear hW1154
            have HR1162 := Lib.hid (q_row6 Hx1155.out Ga.out (HLa.out.later KV1160.out) Gc.out (HLc.out.later KV1160.out) Ge.out (HLe.out.later KV1160.out) Gr.out.2.2.2.1 (HLrx.out.later KV1160.out) Gr.out.2.2.2.2.1 (HLry.out.later KV1160.out) Gr.out.2.2.2.2.2 (HLrh.out.later KV1160.out) (par_newg HN1161.out (fun h => nomatch h)))
            clear hg1159
            (try clear hHeld)
            refine hK.out _ _ (sees_kept _ (kept_trans Kk1129.out Kk1156.out)) (fun hHeld => ?_)
            clear hK K
            (try simp only [Act.put, List.setIfInBounds_toArray, List.set_cons_zero, List.set_cons_succ])
            exact HJj68 W1154 g99 g576 g178 g1158 ⟨(kept_trans Kk1129.out Kk1156.out), (HL1131.out.later Kk1156.out), (HL1132.out.later Kk1156.out), (HL1133.out.later Kk1156.out), HR1162.out⟩
          exact AllReadyH.nil
        · intro W134 g99 U111 a108 c109 g138 k1163
          obtain ⟨q1164, q1165, q1166, q1167⟩ := k1163
          have Kk1168 := Lib.hid q1164
          have KV1169 := Lib.hid (kept_trans (kept_trans Kk13.out (kept_trans Kk21.out (kept_trans Kk28.out (kept_trans Kk35.out Kk41.out)))) Kk1168.out)
          have HU111 := Lib.hid q1165
          have HL1170 := Lib.hid q1166
          have HL1171 := Lib.hid q1167
          clear q1164 q1165 q1166 q1167
          have hHeld : Sees W38 (w.heap.size + 4) W134 := sees_kept _ Kk1168.out
          refine wpAnyH_ready (rs := [13, 18, 35]) (by kernel_rfl) (by simp) ?_
          refine AllReadyH.cons (o := rcReflr3_13) rfl (fun K hK => ?_) ?_
          · unfold rcReflr3_13
            go_simp
            refine at_K (fun W1173 hW1173 => ?_)
            obtain ⟨g1177, hg1178, Kk1175, Hx1174, Hz1176, KV1179, HN1180⟩ := alloc1v KV1169.out hW1173
            rw [hg1178]
            clear hW1173
            have HR1181 := Lib.hid (q_row3 Hx1174.out Gc.out (HLc.out.later KV1179.out) Gr.out.2.2.2.2.1 (HLry.out.later KV1179.out) Gr.out.2.2.2.2.1 (HLry.out.later KV1179.out) (par_newg HN1180.out (fun h => nomatch h)))
            clear hg1178
            (try clear hHeld)
            refine hK.out _ _ (sees_kept _ (kept_trans Kk1168.out Kk1175.out)) (fun hHeld => ?_)
            clear hK K
            (try simp only [Act.put, List.setIfInBounds_toArray, List.set_cons_zero, List.set_cons_succ])
            exact HJj75 W1173 g99 U111 a108 c109 g1177 g138 ⟨(kept_trans Kk1168.out Kk1175.out), HU111.out, (HL1170.out.later Kk1175.out), HR1181.out, (HL1171.out.later Kk1175.out)⟩
          refine AllReadyH.cons (o := rcReflr3_18) rfl (fun K hK => ?_) ?_
          · unfold rcReflr3_18
            go_simp
            refine at_K (fun W1183 hW1183 => ?_)
            obtain ⟨g1187, hg1188, Kk1185, Hx1184, Hz1186, KV1189, HN1190⟩ := alloc1v KV1169.out hW1183
            rw [hg1188]
            clear hW1183
            have HR1191 := Lib.hid (q_row2 Hx1184.out Ga.out (HLa.out.later KV1189.out) Gr.out.2.2.2.1 (HLrx.out.later KV1189.out) (par_newg HN1190.out (fun h => nomatch h)))
            clear hg1188
            (try clear hHeld)
            refine hK.out _ _ (sees_kept _ (kept_trans Kk1168.out Kk1185.out)) (fun hHeld => ?_)
            clear hK K
            (try simp only [Act.put, List.setIfInBounds_toArray, List.set_cons_zero, List.set_cons_succ])
            exact HJj74 W1183 g99 U111 a108 c109 g1187 g138 ⟨(kept_trans Kk1168.out Kk1185.out), HU111.out, (HL1170.out.later Kk1185.out), HR1191.out, (HL1171.out.later Kk1185.out)⟩
          refine AllReadyH.cons (o := rcReflr3_35) rfl (fun K hK => ?_) ?_
          · unfold rcReflr3_35
            go_simp
            refine at_K (fun W1193 hW1193 => ?_)
            obtain ⟨g1197, hg1198, Kk1195, Hx1194, Hz1196, KV1199, HN1200⟩ := alloc1v KV1169.out hW1193
            rw [hg1198]
            clear hW1193
            have HR1201 := Lib.hid (q_row6 Hx1194.out Ga.out (HLa.out.later KV1199.out) Gc.out (HLc.out.later KV1199.out) Ge.out (HLe.out.later KV1199.out) Gr.out.2.2.2.1 (HLrx.out.later KV1199.out) Gr.out.2.2.2.2.1 (HLry.out.later KV1199.out) Gr.out.2.2.2.2.2 (HLrh.out.later KV1199.out) (par_newg HN1200.out (fun h => nomatch h)))
            clear hg1198
            (try clear hHeld)
            refine hK.out _ _ (sees_kept _ (kept_trans Kk1168.out Kk1195.out)) (fun hHeld => ?_)
            clear hK K
            (try simp only [Act.put, List.setIfInBounds_toArray, List.set_cons_zero, List.set_cons_succ])
            exact HJj69 W1193 g99 U111 a108 c109 g138 g1197 ⟨(kept_trans Kk1168.out Kk1195.out), HU111.out, (HL1170.out.later Kk1195.out), (HL1171.out.later Kk1195.out), HR1201.out⟩
          exact AllReadyH.nil
        · intro W695 g99 g699 g168 k1202
          obtain ⟨q1203, q1204, q1205, q1206⟩ := k1202
          have Kk1207 := Lib.hid q1203
          have KV1208 := Lib.hid (kept_trans (kept_trans Kk13.out (kept_trans Kk21.out (kept_trans Kk28.out (kept_trans Kk35.out Kk41.out)))) Kk1207.out)
          have HL1209 := Lib.hid q1204
          have HL1210 := Lib.hid q1205
          have HL1211 := Lib.hid q1206
          clear q1203 q1204 q1205 q1206
          have hHeld : Sees W38 (w.heap.size + 4) W695 := sees_kept _ Kk1207.out
          refine wpAnyH_ready (rs := [7, 23, 35]) (by kernel_rfl) (by simp) ?_
          refine AllReadyH.cons (o := rcReflr3_7) rfl (fun K hK => ?_) ?_
          · unfold rcReflr3_7
            go_simp
            refine (rnode_any 20 [a, r.x, r.x] (Par w V0.heap.size [] P) _ _ (show I64 20 from by unfold I64; decide) HL1209.out (Nat.le_of_ble_eq_true rfl)).mono ?_
            obtain ⟨U1219, hU1219⟩ : ∃ qu, nodeT 20 [a, r.x, r.x] = qu := ⟨_, rfl⟩
            rw [hU1219]
            have HU1219 := Lib.hid hU1219
            clear hU1219
            rintro e w1212 ⟨s1214, rfl, hl1215, k1213⟩
            obtain ⟨a1216, c1217, S1218, rfl, -⟩ := hl1215.out
            have Kk1220 := Lib.hid k1213
            clear k1213
            have Hhl1215 : Hid (LiesQ w1212 (Par w V0.heap.size [] P) U1219.kids _) := par_give hl1215 (Below.size KV1208.out) (xlt_nil _)
            clear hl1215
            (try clear hHeld)
            refine hK.out _ _ (sees_kept _ (kept_trans Kk1207.out Kk1220.out)) (fun hHeld => ?_)
            clear hK K
            (try simp only [Act.put, List.setIfInBounds_toArray, List.set_cons_zero, List.set_cons_succ])
            exact HJj76 w1212 g99 U1219 a1216 c1217 g699 g168 ⟨(kept_trans Kk1207.out Kk1220.out), HU1219.out, Hhl1215.out, (HL1210.out.later Kk1220.out), (HL1211.out.later Kk1220.out)⟩
          refine AllReadyH.cons (o := rcReflr3_23) rfl (fun K hK => ?_) ?_
          · unfold rcReflr3_23
            go_simp
            refine at_K (fun W1222 hW1222 => ?_)
            obtain ⟨g1226, hg1227, Kk1224, Hx1223, Hz1225, KV1228, HN1229⟩ := alloc1v KV1208.out hW1222
            rw [hg1227]
            clear hW1222
            have HR1230 := Lib.hid (q_row2 Hx1223.out Gc.out (HLc.out.later KV1228.out) Gr.out.2.2.2.2.1 (HLry.out.later KV1228.out) (par_newg HN1229.out (fun h => nomatch h)))
            clear hg1227
            (try clear hHeld)
            refine hK.out _ _ (sees_kept _ (kept_trans Kk1207.out Kk1224.out)) (fun hHeld => ?_)
            clear hK K
            (try simp only [Act.put, List.setIfInBounds_toArray, List.set_cons_zero, List.set_cons_succ])
            exact HJj73 W1222 g99 g699 g168 g1226 ⟨(kept_trans Kk1207.out Kk1224.out), (HL1209.out.later Kk1224.out), (HL1210.out.later Kk1224.out), (HL1211.out.later Kk1224.out), HR1230.out⟩
          refine AllReadyH.cons (o := rcReflr3_35) rfl (fun K hK => ?_) ?_
          · unfold rcReflr3_35
            go_simp
            refine at_K (fun W1232 hW1232 => ?_)
            obtain ⟨g1236, hg1237, Kk1234, Hx1233, Hz1235, KV1238, HN1239⟩ := alloc1v KV1208.out hW1232
            rw [hg1237]
            clear hW1232
            have HR1240 := Lib.hid (q_row6 Hx1233.out Ga.out (HLa.out.later KV1238.out) Gc.out (HLc.out.later KV1238.out) Ge.out (HLe.out.later KV1238.out) Gr.out.2.2.2.1 (HLrx.out.later KV1238.out) Gr.out.2.2.2.2.1 (HLry.out.later KV1238.out) Gr.out.2.2.2.2.2 (HLrh.out.later KV1238.out) (par_newg HN1239.out (fun h => nomatch h)))
            clear hg1237
            (try clear hHeld)
            refine hK.out _ _ (sees_kept _ (kept_trans Kk1207.out Kk1234.out)) (fun hHeld => ?_)
            clear hK K
            (try simp only [Act.put, List.setIfInBounds_toArray, List.set_cons_zero, List.set_cons_succ])
            exact HJj70 W1232 g99 g699 g168 g1236 ⟨(kept_trans Kk1207.out Kk1234.out), (HL1209.out.later Kk1234.out), (HL1210.out.later Kk1234.out), (HL1211.out.later Kk1234.out), HR1240.out⟩
          exact AllReadyH.nil
        · intro W124 g99 U111 a108 c109 g128 k1241
          obtain ⟨q1242, q1243, q1244, q1245⟩ := k1241
          have Kk1246 := Lib.hid q1242
          have KV1247 := Lib.hid (kept_trans (kept_trans Kk13.out (kept_trans Kk21.out (kept_trans Kk28.out (kept_trans Kk35.out Kk41.out)))) Kk1246.out)
          have HU111 := Lib.hid q1243
          have HL1248 := Lib.hid q1244
          have HL1249 := Lib.hid q1245
          clear q1242 q1243 q1244 q1245
          have hHeld : Sees W38 (w.heap.size + 4) W124 := sees_kept _ Kk1246.out
          refine wpAnyH_ready (rs := [13, 23, 35]) (by kernel_rfl) (by simp) ?_
          refine AllReadyH.cons (o := rcReflr3_13) rfl (fun K hK => ?_) ?_
          · unfold rcReflr3_13
            go_simp
            refine at_K (fun W1251 hW1251 => ?_)
            obtain ⟨g1255, hg1256, Kk1253, Hx1252, Hz1254, KV1257, HN1258⟩ := alloc1v KV1247.out hW1251
            rw [hg1256]
            clear hW1251
            have HR1259 := Lib.hid (q_row3 Hx1252.out Gc.out (HLc.out.later KV1257.out) Gr.out.2.2.2.2.1 (HLry.out.later KV1257.out) Gr.out.2.2.2.2.1 (HLry.out.later KV1257.out) (par_newg HN1258.out (fun h => nomatch h)))
            clear hg1256
            (try clear hHeld)
            refine hK.out _ _ (sees_kept _ (kept_trans Kk1246.out Kk1253.out)) (fun hHeld => ?_)
            clear hK K
            (try simp only [Act.put, List.setIfInBounds_toArray, List.set_cons_zero, List.set_cons_succ])
            exact HJj76 W1251 g99 U111 a108 c109 g1255 g128 ⟨(kept_trans Kk1246.out Kk1253.out), HU111.out, (HL1248.out.later Kk1253.out), HR1259.out, (HL1249.out.later Kk1253.out)⟩
          refine AllReadyH.cons (o := rcReflr3_23) rfl (fun K hK => ?_) ?_
          · unfold rcReflr3_23
            go_simp
            refine at_K (fun W1261 hW1261 => ?_)
            obtain ⟨g1265, hg1266, Kk1263, Hx1262, Hz1264, KV1267, HN1268⟩ := alloc1v KV1247.out hW1261
            rw [hg1266]
            clear hW1261
            have HR1269 := Lib.hid (q_row2 Hx1262.out Gc.out (HLc.out.later KV1267.out) Gr.out.2.2.2.2.1 (HLry.out.later KV1267.out) (par_newg HN1268.out (fun h => nomatch h)))
            clear hg1266
            (try clear hHeld)
            refine hK.out _ _ (sees_kept _ (kept_trans Kk1246.out Kk1263.out)) (fun hHeld => ?_)
            clear hK K
            (try simp only [Act.put, List.setIfInBounds_toArray, List.set_cons_zero, List.set_cons_succ])
            exact HJj74 W1261 g99 U111 a108 c109 g128 g1265 ⟨(kept_trans Kk1246.out Kk1263.out), HU111.out, (HL1248.out.later Kk1263.out), (HL1249.out.later Kk1263.out), HR1269.out⟩
          refine AllReadyH.cons (o := rcReflr3_35) rfl (fun K hK => ?_) ?_
          · unfold rcReflr3_35
            go_simp
            refine at_K (fun W1271 hW1271 => ?_)
            obtain ⟨g1275, hg1276, Kk1273, Hx1272, Hz1274, KV1277, HN1278⟩ := alloc1v KV1247.out hW1271
            rw [hg1276]
            clear hW1271
            have HR1279 := Lib.hid (q_row6 Hx1272.out Ga.out (HLa.out.later KV1277.out) Gc.out (HLc.out.later KV1277.out) Ge.out (HLe.out.later KV1277.out) Gr.out.2.2.2.1 (HLrx.out.later KV1277.out) Gr.out.2.2.2.2.1 (HLry.out.later KV1277.out) Gr.out.2.2.2.2.2 (HLrh.out.later KV1277.out) (par_newg HN1278.out (fun h => nomatch h)))
            clear hg1276
            (try clear hHeld)
            refine hK.out _ _ (sees_kept _ (kept_trans Kk1246.out Kk1273.out)) (fun hHeld => ?_)
            clear hK K
            (try simp only [Act.put, List.setIfInBounds_toArray, List.set_cons_zero, List.set_cons_succ])
            exact HJj71 W1271 g99 U111 a108 c109 g128 g1275 ⟨(kept_trans Kk1246.out Kk1273.out), HU111.out, (HL1248.out.later Kk1273.out), (HL1249.out.later Kk1273.out), HR1279.out⟩
          exact AllReadyH.nil
        · intro W114 g99 U111 a108 c109 g118 k1280
          obtain ⟨q1281, q1282, q1283, q1284⟩ := k1280
          have Kk1285 := Lib.hid q1281
          have KV1286 := Lib.hid (kept_trans (kept_trans Kk13.out (kept_trans Kk21.out (kept_trans Kk28.out (kept_trans Kk35.out Kk41.out)))) Kk1285.out)
          have HU111 := Lib.hid q1282
          have HL1287 := Lib.hid q1283
          have HL1288 := Lib.hid q1284
          clear q1281 q1282 q1283 q1284
          have hHeld : Sees W38 (w.heap.size + 4) W114 := sees_kept _ Kk1285.out
          refine wpAnyH_ready (rs := [14, 18, 23, 35]) (by kernel_rfl) (by simp) ?_
          refine AllReadyH.cons (o := rcReflr3_14) rfl (fun K hK => ?_) ?_
          · unfold rcReflr3_14
            go_simp
            refine (rnode_any 20 [c, r.y, r.y] (Par w V0.heap.size [] P) _ _ (show I64 20 from by unfold I64; decide) HL1288.out (Nat.le_of_ble_eq_true rfl)).mono ?_
            obtain ⟨U1296, hU1296⟩ : ∃ qu, nodeT 20 [c, r.y, r.y] = qu := ⟨_, rfl⟩
            rw [hU1296]
            have HU1296 := Lib.hid hU1296
            clear hU1296
            rintro e w1289 ⟨s1291, rfl, hl1292, k1290⟩
            obtain ⟨a1293, c1294, S1295, rfl, -⟩ := hl1292.out
            have Kk1297 := Lib.hid k1290
            clear k1290
            have Hhl1292 : Hid (LiesQ w1289 (Par w V0.heap.size [] P) U1296.kids _) := par_give hl1292 (Below.size KV1286.out) (xlt_nil _)
            clear hl1292
            (try clear hHeld)
            refine hK.out _ _ (sees_kept _ (kept_trans Kk1285.out Kk1297.out)) (fun hHeld => ?_)
            clear hK K
            (try simp only [Act.put, List.setIfInBounds_toArray, List.set_cons_zero, List.set_cons_succ])
            refine wpAnyH_ready (rs := [18, 23, 35]) (by kernel_rfl) (by simp) ?_
            refine AllReadyH.cons (o := rcReflr3_18) rfl (fun K hK => ?_) ?_
            · unfold rcReflr3_18
              go_simp
              refine at_K (fun W1299 hW1299 => ?_)
              obtain ⟨g1303, hg1304, Kk1301, Hx1300, Hz1302, KV1305, HN1306⟩ := alloc1v (kept_trans Kk13.out (kept_trans Kk21.out (kept_trans Kk28.out (kept_trans Kk35.out (kept_trans Kk41.out (kept_trans Kk1285.out Kk1297.out)))))) hW1299
              rw [hg1304]
              clear hW1299
              have HR1307 := Lib.hid (q_row2 Hx1300.out Ga.out (HLa.out.later KV1305.out) Gr.out.2.2.2.1 (HLrx.out.later KV1305.out) (par_newg HN1306.out (fun h => nomatch h)))
              clear hg1304
              (try clear hHeld)
              refine hK.out _ _ (sees_kept _ (kept_trans Kk1285.out (kept_trans Kk1297.out Kk1301.out))) (fun hHeld => ?_)
              clear hK K
              (try simp only [Act.put, List.setIfInBounds_toArray, List.set_cons_zero, List.set_cons_succ])
              exact HJj84 W1299 g99 U111 a108 c109 g118 U1296 a1293 c1294 g1303 ⟨(kept_trans Kk1285.out (kept_trans Kk1297.out Kk1301.out)), HU111.out, HU1296.out, (HL1287.out.later (kept_trans Kk1297.out Kk1301.out)), (Hhl1292.out.later Kk1301.out), HR1307.out⟩
            refine AllReadyH.cons (o := rcReflr3_23) rfl (fun K hK => ?_) ?_
            · unfold rcReflr3_23
              go_simp
              refine at_K (fun W1309 hW1309 => ?_)
              obtain ⟨g1313, hg1314, Kk1311, Hx1310, Hz1312, KV1315, HN1316⟩ := alloc1v (kept_trans Kk13.out (kept_trans Kk21.out (kept_trans Kk28.out (kept_trans Kk35.out (kept_trans Kk41.out (kept_trans Kk1285.out Kk1297.out)))))) hW1309
              rw [hg1314]
              clear hW1309
              have HR1317 := Lib.hid (q_row2 Hx1310.out Gc.out (HLc.out.later KV1315.out) Gr.out.2.2.2.2.1 (HLry.out.later KV1315.out) (par_newg HN1316.out (fun h => nomatch h)))
              clear hg1314
              (try clear hHeld)
              refine hK.out _ _ (sees_kept _ (kept_trans Kk1285.out (kept_trans Kk1297.out Kk1311.out))) (fun hHeld => ?_)
              clear hK K
              (try simp only [Act.put, List.setIfInBounds_toArray, List.set_cons_zero, List.set_cons_succ])
              exact HJj83 W1309 g99 U111 a108 c109 g118 U1296 a1293 c1294 g1313 ⟨(kept_trans Kk1285.out (kept_trans Kk1297.out Kk1311.out)), HU111.out, HU1296.out, (HL1287.out.later (kept_trans Kk1297.out Kk1311.out)), (Hhl1292.out.later Kk1311.out), HR1317.out⟩
            refine AllReadyH.cons (o := rcReflr3_35) rfl (fun K hK => ?_) ?_
            · unfold rcReflr3_35
              go_simp
              refine at_K (fun W1319 hW1319 => ?_)
              obtain ⟨g1323, hg1324, Kk1321, Hx1320, Hz1322, KV1325, HN1326⟩ := alloc1v (kept_trans Kk13.out (kept_trans Kk21.out (kept_trans Kk28.out (kept_trans Kk35.out (kept_trans Kk41.out (kept_trans Kk1285.out Kk1297.out)))))) hW1319
              rw [hg1324]
              clear hW1319
              have HR1327 := Lib.hid (q_row6 Hx1320.out Ga.out (HLa.out.later KV1325.out) Gc.out (HLc.out.later KV1325.out) Ge.out (HLe.out.later KV1325.out) Gr.out.2.2.2.1 (HLrx.out.later KV1325.out) Gr.out.2.2.2.2.1 (HLry.out.later KV1325.out) Gr.out.2.2.2.2.2 (HLrh.out.later KV1325.out) (par_newg HN1326.out (fun h => nomatch h)))
              clear hg1324
              (try clear hHeld)
              refine hK.out _ _ (sees_kept _ (kept_trans Kk1285.out (kept_trans Kk1297.out Kk1321.out))) (fun hHeld => ?_)
              clear hK K
              (try simp only [Act.put, List.setIfInBounds_toArray, List.set_cons_zero, List.set_cons_succ])
              exact HJj81 W1319 g99 U111 a108 c109 g118 U1296 a1293 c1294 g1323 ⟨(kept_trans Kk1285.out (kept_trans Kk1297.out Kk1321.out)), HU111.out, HU1296.out, (HL1287.out.later (kept_trans Kk1297.out Kk1321.out)), (Hhl1292.out.later Kk1321.out), HR1327.out⟩
            exact AllReadyH.nil
          refine AllReadyH.cons (o := rcReflr3_18) rfl (fun K hK => ?_) ?_
          · unfold rcReflr3_18
            go_simp
            refine at_K (fun W1329 hW1329 => ?_)
            obtain ⟨g1333, hg1334, Kk1331, Hx1330, Hz1332, KV1335, HN1336⟩ := alloc1v KV1286.out hW1329
            rw [hg1334]
            clear hW1329
            have HR1337 := Lib.hid (q_row2 Hx1330.out Ga.out (HLa.out.later KV1335.out) Gr.out.2.2.2.1 (HLrx.out.later KV1335.out) (par_newg HN1336.out (fun h => nomatch h)))
            clear hg1334
            (try clear hHeld)
            refine hK.out _ _ (sees_kept _ (kept_trans Kk1285.out Kk1331.out)) (fun hHeld => ?_)
            clear hK K
            (try simp only [Act.put, List.setIfInBounds_toArray, List.set_cons_zero, List.set_cons_succ])
            exact HJj76 W1329 g99 U111 a108 c109 g118 g1333 ⟨(kept_trans Kk1285.out Kk1331.out), HU111.out, (HL1287.out.later Kk1331.out), (HL1288.out.later Kk1331.out), HR1337.out⟩
          refine AllReadyH.cons (o := rcReflr3_23) rfl (fun K hK => ?_) ?_
          · unfold rcReflr3_23
            go_simp
            refine at_K (fun W1339 hW1339 => ?_)
            obtain ⟨g1343, hg1344, Kk1341, Hx1340, Hz1342, KV1345, HN1346⟩ := alloc1v KV1286.out hW1339
            rw [hg1344]
            clear hW1339
            have HR1347 := Lib.hid (q_row2 Hx1340.out Gc.out (HLc.out.later KV1345.out) Gr.out.2.2.2.2.1 (HLry.out.later KV1345.out) (par_newg HN1346.out (fun h => nomatch h)))
            clear hg1344
            (try clear hHeld)
            refine hK.out _ _ (sees_kept _ (kept_trans Kk1285.out Kk1341.out)) (fun hHeld => ?_)
            clear hK K
            (try simp only [Act.put, List.setIfInBounds_toArray, List.set_cons_zero, List.set_cons_succ])
            exact HJj75 W1339 g99 U111 a108 c109 g118 g1343 ⟨(kept_trans Kk1285.out Kk1341.out), HU111.out, (HL1287.out.later Kk1341.out), (HL1288.out.later Kk1341.out), HR1347.out⟩
          refine AllReadyH.cons (o := rcReflr3_35) rfl (fun K hK => ?_) ?_
          · unfold rcReflr3_35
            go_simp
            refine at_K (fun W1349 hW1349 => ?_)
            obtain ⟨g1353, hg1354, Kk1351, Hx1350, Hz1352, KV1355, HN1356⟩ := alloc1v KV1286.out hW1349
            rw [hg1354]
            clear hW1349
            have HR1357 := Lib.hid (q_row6 Hx1350.out Ga.out (HLa.out.later KV1355.out) Gc.out (HLc.out.later KV1355.out) Ge.out (HLe.out.later KV1355.out) Gr.out.2.2.2.1 (HLrx.out.later KV1355.out) Gr.out.2.2.2.2.1 (HLry.out.later KV1355.out) Gr.out.2.2.2.2.2 (HLrh.out.later KV1355.out) (par_newg HN1356.out (fun h => nomatch h)))
            clear hg1354
            (try clear hHeld)
            refine hK.out _ _ (sees_kept _ (kept_trans Kk1285.out Kk1351.out)) (fun hHeld => ?_)
            clear hK K
            (try simp only [Act.put, List.setIfInBounds_toArray, List.set_cons_zero, List.set_cons_succ])
            exact HJj72 W1349 g99 U111 a108 c109 g118 g1353 ⟨(kept_trans Kk1285.out Kk1351.out), HU111.out, (HL1287.out.later Kk1351.out), (HL1288.out.later Kk1351.out), HR1357.out⟩
          exact AllReadyH.nil
        · intro W839 g99 g843 g435 g188 k1358
          obtain ⟨q1359, q1360, q1361, q1362, q1363⟩ := k1358
          have Kk1364 := Lib.hid q1359
          have KV1365 := Lib.hid (kept_trans (kept_trans Kk13.out (kept_trans Kk21.out (kept_trans Kk28.out (kept_trans Kk35.out Kk41.out)))) Kk1364.out)
          have HL1366 := Lib.hid q1360
          have HL1367 := Lib.hid q1361
          have HL1368 := Lib.hid q1362
          have HL1369 := Lib.hid q1363
          clear q1359 q1360 q1361 q1362 q1363
          have hHeld : Sees W38 (w.heap.size + 4) W839 := sees_kept _ Kk1364.out
          refine wpAnyH_ready (rs := [7, 13]) (by kernel_rfl) (by simp) ?_
          refine AllReadyH.cons (o := rcReflr3_7) rfl (fun K hK => ?_) ?_
          · unfold rcReflr3_7
            go_simp
            refine (rnode_any 20 [a, r.x, r.x] (Par w V0.heap.size [] P) _ _ (show I64 20 from by unfold I64; decide) HL1366.out (Nat.le_of_ble_eq_true rfl)).mono ?_
            obtain ⟨U1377, hU1377⟩ : ∃ qu, nodeT 20 [a, r.x, r.x] = qu := ⟨_, rfl⟩
            rw [hU1377]
            have HU1377 := Lib.hid hU1377
            clear hU1377
            rintro e w1370 ⟨s1372, rfl, hl1373, k1371⟩
            obtain ⟨a1374, c1375, S1376, rfl, -⟩ := hl1373.out
            have Kk1378 := Lib.hid k1371
            clear k1371
            have Hhl1373 : Hid (LiesQ w1370 (Par w V0.heap.size [] P) U1377.kids _) := par_give hl1373 (Below.size KV1365.out) (xlt_nil _)
            clear hl1373
            (try clear hHeld)
            refine hK.out _ _ (sees_kept _ (kept_trans Kk1364.out Kk1378.out)) (fun hHeld => ?_)
            clear hK K
            (try simp only [Act.put, List.setIfInBounds_toArray, List.set_cons_zero, List.set_cons_succ])
            exact HJj78 w1370 g99 U1377 a1374 c1375 g843 g435 g188 ⟨(kept_trans Kk1364.out Kk1378.out), HU1377.out, Hhl1373.out, (HL1367.out.later Kk1378.out), (HL1368.out.later Kk1378.out), (HL1369.out.later Kk1378.out)⟩
          refine AllReadyH.cons (o := rcReflr3_13) rfl (fun K hK => ?_) ?_
          · unfold rcReflr3_13
            go_simp
            refine at_K (fun W1380 hW1380 => ?_)
            obtain ⟨g1384, hg1385, Kk1382, Hx1381, Hz1383, KV1386, HN1387⟩ := alloc1v KV1365.out hW1380
            rw [hg1385]
            clear hW1380
            have HR1388 := Lib.hid (q_row3 Hx1381.out Gc.out (HLc.out.later KV1386.out) Gr.out.2.2.2.2.1 (HLry.out.later KV1386.out) Gr.out.2.2.2.2.1 (HLry.out.later KV1386.out) (par_newg HN1387.out (fun h => nomatch h)))
            clear hg1385
            (try clear hHeld)
            refine hK.out _ _ (sees_kept _ (kept_trans Kk1364.out Kk1382.out)) (fun hHeld => ?_)
            clear hK K
            (try simp only [Act.put, List.setIfInBounds_toArray, List.set_cons_zero, List.set_cons_succ])
            exact HJj77 W1380 g99 g1384 g843 g435 g188 ⟨(kept_trans Kk1364.out Kk1382.out), (HL1366.out.later Kk1382.out), HR1388.out, (HL1367.out.later Kk1382.out), (HL1368.out.later Kk1382.out), (HL1369.out.later Kk1382.out)⟩
          exact AllReadyH.nil
        · intro W869 g198 g873 g473 g238 k1389
          obtain ⟨q1390, q1391, q1392, q1393, q1394⟩ := k1389
          have Kk1395 := Lib.hid q1390
          have KV1396 := Lib.hid (kept_trans (kept_trans Kk13.out (kept_trans Kk21.out (kept_trans Kk28.out (kept_trans Kk35.out Kk41.out)))) Kk1395.out)
          have HL1397 := Lib.hid q1391
          have HL1398 := Lib.hid q1392
          have HL1399 := Lib.hid q1393
          have HL1400 := Lib.hid q1394
          clear q1390 q1391 q1392 q1393 q1394
          have hHeld : Sees W38 (w.heap.size + 4) W869 := sees_kept _ Kk1395.out
          refine wpAnyH_ready (rs := [6]) (by kernel_rfl) (by simp) ?_
          refine AllReadyH.cons (o := rcReflr3_6) rfl (fun K hK => ?_) ?_
          · unfold rcReflr3_6
            go_simp
            refine at_K (fun W1402 hW1402 => ?_)
            obtain ⟨g1406, hg1407, Kk1404, Hx1403, Hz1405, KV1408, HN1409⟩ := alloc1v KV1396.out hW1402
            rw [hg1407]
            clear hW1402
            have HR1410 := Lib.hid (q_row3 Hx1403.out Ga.out (HLa.out.later KV1408.out) Gr.out.2.2.2.1 (HLrx.out.later KV1408.out) Gr.out.2.2.2.1 (HLrx.out.later KV1408.out) (par_newg HN1409.out (fun h => nomatch h)))
            clear hg1407
            (try clear hHeld)
            refine hK.out _ _ (sees_kept _ (kept_trans Kk1395.out Kk1404.out)) (fun hHeld => ?_)
            clear hK K
            (try simp only [Act.put, List.setIfInBounds_toArray, List.set_cons_zero, List.set_cons_succ])
            exact HJj77 W1402 g1406 g198 g873 g473 g238 ⟨(kept_trans Kk1395.out Kk1404.out), HR1410.out, (HL1397.out.later Kk1404.out), (HL1398.out.later Kk1404.out), (HL1399.out.later Kk1404.out), (HL1400.out.later Kk1404.out)⟩
          exact AllReadyH.nil
        · intro W829 g99 g833 g435 g188 k1411
          obtain ⟨q1412, q1413, q1414, q1415, q1416⟩ := k1411
          have Kk1417 := Lib.hid q1412
          have KV1418 := Lib.hid (kept_trans (kept_trans Kk13.out (kept_trans Kk21.out (kept_trans Kk28.out (kept_trans Kk35.out Kk41.out)))) Kk1417.out)
          have HL1419 := Lib.hid q1413
          have HL1420 := Lib.hid q1414
          have HL1421 := Lib.hid q1415
          have HL1422 := Lib.hid q1416
          clear q1412 q1413 q1414 q1415 q1416
          have hHeld : Sees W38 (w.heap.size + 4) W829 := sees_kept _ Kk1417.out
          refine wpAnyH_ready (rs := [7, 18]) (by kernel_rfl) (by simp) ?_
          refine AllReadyH.cons (o := rcReflr3_7) rfl (fun K hK => ?_) ?_
          · unfold rcReflr3_7
            go_simp
            refine (rnode_any 20 [a, r.x, r.x] (Par w V0.heap.size [] P) _ _ (show I64 20 from by unfold I64; decide) HL1419.out (Nat.le_of_ble_eq_true rfl)).mono ?_
            obtain ⟨U1430, hU1430⟩ : ∃ qu, nodeT 20 [a, r.x, r.x] = qu := ⟨_, rfl⟩
            rw [hU1430]
            have HU1430 := Lib.hid hU1430
            clear hU1430
            rintro e w1423 ⟨s1425, rfl, hl1426, k1424⟩
            obtain ⟨a1427, c1428, S1429, rfl, -⟩ := hl1426.out
            have Kk1431 := Lib.hid k1424
            clear k1424
            have Hhl1426 : Hid (LiesQ w1423 (Par w V0.heap.size [] P) U1430.kids _) := par_give hl1426 (Below.size KV1418.out) (xlt_nil _)
            clear hl1426
            (try clear hHeld)
            refine hK.out _ _ (sees_kept _ (kept_trans Kk1417.out Kk1431.out)) (fun hHeld => ?_)
            clear hK K
            (try simp only [Act.put, List.setIfInBounds_toArray, List.set_cons_zero, List.set_cons_succ])
            exact HJj79 w1423 g99 U1430 a1427 c1428 g833 g435 g188 ⟨(kept_trans Kk1417.out Kk1431.out), HU1430.out, Hhl1426.out, (HL1420.out.later Kk1431.out), (HL1421.out.later Kk1431.out), (HL1422.out.later Kk1431.out)⟩
          refine AllReadyH.cons (o := rcReflr3_18) rfl (fun K hK => ?_) ?_
          · unfold rcReflr3_18
            go_simp
            refine at_K (fun W1433 hW1433 => ?_)
            obtain ⟨g1437, hg1438, Kk1435, Hx1434, Hz1436, KV1439, HN1440⟩ := alloc1v KV1418.out hW1433
            rw [hg1438]
            clear hW1433
            have HR1441 := Lib.hid (q_row2 Hx1434.out Ga.out (HLa.out.later KV1439.out) Gr.out.2.2.2.1 (HLrx.out.later KV1439.out) (par_newg HN1440.out (fun h => nomatch h)))
            clear hg1438
            (try clear hHeld)
            refine hK.out _ _ (sees_kept _ (kept_trans Kk1417.out Kk1435.out)) (fun hHeld => ?_)
            clear hK K
            (try simp only [Act.put, List.setIfInBounds_toArray, List.set_cons_zero, List.set_cons_succ])
            exact HJj77 W1433 g99 g833 g1437 g435 g188 ⟨(kept_trans Kk1417.out Kk1435.out), (HL1419.out.later Kk1435.out), (HL1420.out.later Kk1435.out), HR1441.out, (HL1421.out.later Kk1435.out), (HL1422.out.later Kk1435.out)⟩
          exact AllReadyH.nil
        · intro w819 g99 U826 a823 c824 g435 g188 k1442
          obtain ⟨q1443, q1444, q1445, q1446, q1447⟩ := k1442
          have Kk1448 := Lib.hid q1443
          have KV1449 := Lib.hid (kept_trans (kept_trans Kk13.out (kept_trans Kk21.out (kept_trans Kk28.out (kept_trans Kk35.out Kk41.out)))) Kk1448.out)
          have HU826 := Lib.hid q1444
          have HL1450 := Lib.hid q1445
          have HL1451 := Lib.hid q1446
          have HL1452 := Lib.hid q1447
          clear q1443 q1444 q1445 q1446 q1447
          have hHeld : Sees W38 (w.heap.size + 4) w819 := sees_kept _ Kk1448.out
          refine wpAnyH_ready (rs := [13, 18]) (by kernel_rfl) (by simp) ?_
          refine AllReadyH.cons (o := rcReflr3_13) rfl (fun K hK => ?_) ?_
          · unfold rcReflr3_13
            go_simp
            refine at_K (fun W1454 hW1454 => ?_)
            obtain ⟨g1458, hg1459, Kk1456, Hx1455, Hz1457, KV1460, HN1461⟩ := alloc1v KV1449.out hW1454
            rw [hg1459]
            clear hW1454
            have HR1462 := Lib.hid (q_row3 Hx1455.out Gc.out (HLc.out.later KV1460.out) Gr.out.2.2.2.2.1 (HLry.out.later KV1460.out) Gr.out.2.2.2.2.1 (HLry.out.later KV1460.out) (par_newg HN1461.out (fun h => nomatch h)))
            clear hg1459
            (try clear hHeld)
            refine hK.out _ _ (sees_kept _ (kept_trans Kk1448.out Kk1456.out)) (fun hHeld => ?_)
            clear hK K
            (try simp only [Act.put, List.setIfInBounds_toArray, List.set_cons_zero, List.set_cons_succ])
            exact HJj79 W1454 g99 U826 a823 c824 g1458 g435 g188 ⟨(kept_trans Kk1448.out Kk1456.out), HU826.out, (HL1450.out.later Kk1456.out), HR1462.out, (HL1451.out.later Kk1456.out), (HL1452.out.later Kk1456.out)⟩
          refine AllReadyH.cons (o := rcReflr3_18) rfl (fun K hK => ?_) ?_
          · unfold rcReflr3_18
            go_simp
            refine at_K (fun W1464 hW1464 => ?_)
            obtain ⟨g1468, hg1469, Kk1466, Hx1465, Hz1467, KV1470, HN1471⟩ := alloc1v KV1449.out hW1464
            rw [hg1469]
            clear hW1464
            have HR1472 := Lib.hid (q_row2 Hx1465.out Ga.out (HLa.out.later KV1470.out) Gr.out.2.2.2.1 (HLrx.out.later KV1470.out) (par_newg HN1471.out (fun h => nomatch h)))
            clear hg1469
            (try clear hHeld)
            refine hK.out _ _ (sees_kept _ (kept_trans Kk1448.out Kk1466.out)) (fun hHeld => ?_)
            clear hK K
            (try simp only [Act.put, List.setIfInBounds_toArray, List.set_cons_zero, List.set_cons_succ])
            exact HJj78 W1464 g99 U826 a823 c824 g1468 g435 g188 ⟨(kept_trans Kk1448.out Kk1466.out), HU826.out, (HL1450.out.later Kk1466.out), HR1472.out, (HL1451.out.later Kk1466.out), (HL1452.out.later Kk1466.out)⟩
          exact AllReadyH.nil
        · intro W928 g99 g932 g425 g188 k1473
          obtain ⟨q1474, q1475, q1476, q1477, q1478⟩ := k1473
          have Kk1479 := Lib.hid q1474
          have KV1480 := Lib.hid (kept_trans (kept_trans Kk13.out (kept_trans Kk21.out (kept_trans Kk28.out (kept_trans Kk35.out Kk41.out)))) Kk1479.out)
          have HL1481 := Lib.hid q1475
          have HL1482 := Lib.hid q1476
          have HL1483 := Lib.hid q1477
          have HL1484 := Lib.hid q1478
          clear q1474 q1475 q1476 q1477 q1478
          have hHeld : Sees W38 (w.heap.size + 4) W928 := sees_kept _ Kk1479.out
          refine wpAnyH_ready (rs := [7, 23]) (by kernel_rfl) (by simp) ?_
          refine AllReadyH.cons (o := rcReflr3_7) rfl (fun K hK => ?_) ?_
          · unfold rcReflr3_7
            go_simp
            refine (rnode_any 20 [a, r.x, r.x] (Par w V0.heap.size [] P) _ _ (show I64 20 from by unfold I64; decide) HL1481.out (Nat.le_of_ble_eq_true rfl)).mono ?_
            obtain ⟨U1492, hU1492⟩ : ∃ qu, nodeT 20 [a, r.x, r.x] = qu := ⟨_, rfl⟩
            rw [hU1492]
            have HU1492 := Lib.hid hU1492
            clear hU1492
            rintro e w1485 ⟨s1487, rfl, hl1488, k1486⟩
            obtain ⟨a1489, c1490, S1491, rfl, -⟩ := hl1488.out
            have Kk1493 := Lib.hid k1486
            clear k1486
            have Hhl1488 : Hid (LiesQ w1485 (Par w V0.heap.size [] P) U1492.kids _) := par_give hl1488 (Below.size KV1480.out) (xlt_nil _)
            clear hl1488
            (try clear hHeld)
            refine hK.out _ _ (sees_kept _ (kept_trans Kk1479.out Kk1493.out)) (fun hHeld => ?_)
            clear hK K
            (try simp only [Act.put, List.setIfInBounds_toArray, List.set_cons_zero, List.set_cons_succ])
            exact HJj80 w1485 g99 U1492 a1489 c1490 g932 g425 g188 ⟨(kept_trans Kk1479.out Kk1493.out), HU1492.out, Hhl1488.out, (HL1482.out.later Kk1493.out), (HL1483.out.later Kk1493.out), (HL1484.out.later Kk1493.out)⟩
          refine AllReadyH.cons (o := rcReflr3_23) rfl (fun K hK => ?_) ?_
          · unfold rcReflr3_23
            go_simp
            refine at_K (fun W1495 hW1495 => ?_)
            obtain ⟨g1499, hg1500, Kk1497, Hx1496, Hz1498, KV1501, HN1502⟩ := alloc1v KV1480.out hW1495
            rw [hg1500]
            clear hW1495
            have HR1503 := Lib.hid (q_row2 Hx1496.out Gc.out (HLc.out.later KV1501.out) Gr.out.2.2.2.2.1 (HLry.out.later KV1501.out) (par_newg HN1502.out (fun h => nomatch h)))
            clear hg1500
            (try clear hHeld)
            refine hK.out _ _ (sees_kept _ (kept_trans Kk1479.out Kk1497.out)) (fun hHeld => ?_)
            clear hK K
            (try simp only [Act.put, List.setIfInBounds_toArray, List.set_cons_zero, List.set_cons_succ])
            exact HJj77 W1495 g99 g932 g425 g1499 g188 ⟨(kept_trans Kk1479.out Kk1497.out), (HL1481.out.later Kk1497.out), (HL1482.out.later Kk1497.out), (HL1483.out.later Kk1497.out), HR1503.out, (HL1484.out.later Kk1497.out)⟩
          exact AllReadyH.nil
        · intro w918 g99 U925 a922 c923 g425 g188 k1504
          obtain ⟨q1505, q1506, q1507, q1508, q1509⟩ := k1504
          have Kk1510 := Lib.hid q1505
          have KV1511 := Lib.hid (kept_trans (kept_trans Kk13.out (kept_trans Kk21.out (kept_trans Kk28.out (kept_trans Kk35.out Kk41.out)))) Kk1510.out)
          have HU925 := Lib.hid q1506
          have HL1512 := Lib.hid q1507
          have HL1513 := Lib.hid q1508
          have HL1514 := Lib.hid q1509
          clear q1505 q1506 q1507 q1508 q1509
          have hHeld : Sees W38 (w.heap.size + 4) w918 := sees_kept _ Kk1510.out
          refine wpAnyH_ready (rs := [13, 23]) (by kernel_rfl) (by simp) ?_
          refine AllReadyH.cons (o := rcReflr3_13) rfl (fun K hK => ?_) ?_
          · unfold rcReflr3_13
            go_simp
            refine at_K (fun W1516 hW1516 => ?_)
            obtain ⟨g1520, hg1521, Kk1518, Hx1517, Hz1519, KV1522, HN1523⟩ := alloc1v KV1511.out hW1516
            rw [hg1521]
            clear hW1516
            have HR1524 := Lib.hid (q_row3 Hx1517.out Gc.out (HLc.out.later KV1522.out) Gr.out.2.2.2.2.1 (HLry.out.later KV1522.out) Gr.out.2.2.2.2.1 (HLry.out.later KV1522.out) (par_newg HN1523.out (fun h => nomatch h)))
            clear hg1521
            (try clear hHeld)
            refine hK.out _ _ (sees_kept _ (kept_trans Kk1510.out Kk1518.out)) (fun hHeld => ?_)
            clear hK K
            (try simp only [Act.put, List.setIfInBounds_toArray, List.set_cons_zero, List.set_cons_succ])
            exact HJj80 W1516 g99 U925 a922 c923 g1520 g425 g188 ⟨(kept_trans Kk1510.out Kk1518.out), HU925.out, (HL1512.out.later Kk1518.out), HR1524.out, (HL1513.out.later Kk1518.out), (HL1514.out.later Kk1518.out)⟩
          refine AllReadyH.cons (o := rcReflr3_23) rfl (fun K hK => ?_) ?_
          · unfold rcReflr3_23
            go_simp
            refine at_K (fun W1526 hW1526 => ?_)
            obtain ⟨g1530, hg1531, Kk1528, Hx1527, Hz1529, KV1532, HN1533⟩ := alloc1v KV1511.out hW1526
            rw [hg1531]
            clear hW1526
            have HR1534 := Lib.hid (q_row2 Hx1527.out Gc.out (HLc.out.later KV1532.out) Gr.out.2.2.2.2.1 (HLry.out.later KV1532.out) (par_newg HN1533.out (fun h => nomatch h)))
            clear hg1531
            (try clear hHeld)
            refine hK.out _ _ (sees_kept _ (kept_trans Kk1510.out Kk1528.out)) (fun hHeld => ?_)
            clear hK K
            (try simp only [Act.put, List.setIfInBounds_toArray, List.set_cons_zero, List.set_cons_succ])
            exact HJj78 W1526 g99 U925 a922 c923 g425 g1530 g188 ⟨(kept_trans Kk1510.out Kk1528.out), HU925.out, (HL1512.out.later Kk1528.out), (HL1513.out.later Kk1528.out), HR1534.out, (HL1514.out.later Kk1528.out)⟩
          exact AllReadyH.nil
        · intro w987 g99 U994 a991 c992 g415 g188 k1535
          obtain ⟨q1536, q1537, q1538, q1539, q1540⟩ := k1535
          have Kk1541 := Lib.hid q1536
          have KV1542 := Lib.hid (kept_trans (kept_trans Kk13.out (kept_trans Kk21.out (kept_trans Kk28.out (kept_trans Kk35.out Kk41.out)))) Kk1541.out)
          have HU994 := Lib.hid q1537
          have HL1543 := Lib.hid q1538
          have HL1544 := Lib.hid q1539
          have HL1545 := Lib.hid q1540
          clear q1536 q1537 q1538 q1539 q1540
          have hHeld : Sees W38 (w.heap.size + 4) w987 := sees_kept _ Kk1541.out
          refine wpAnyH_ready (rs := [14, 18, 23]) (by kernel_rfl) (by simp) ?_
          refine AllReadyH.cons (o := rcReflr3_14) rfl (fun K hK => ?_) ?_
          · unfold rcReflr3_14
            go_simp
            refine (rnode_any 20 [c, r.y, r.y] (Par w V0.heap.size [] P) _ _ (show I64 20 from by unfold I64; decide) HL1544.out (Nat.le_of_ble_eq_true rfl)).mono ?_
            obtain ⟨U1553, hU1553⟩ : ∃ qu, nodeT 20 [c, r.y, r.y] = qu := ⟨_, rfl⟩
            rw [hU1553]
            have HU1553 := Lib.hid hU1553
            clear hU1553
            rintro e w1546 ⟨s1548, rfl, hl1549, k1547⟩
            obtain ⟨a1550, c1551, S1552, rfl, -⟩ := hl1549.out
            have Kk1554 := Lib.hid k1547
            clear k1547
            have Hhl1549 : Hid (LiesQ w1546 (Par w V0.heap.size [] P) U1553.kids _) := par_give hl1549 (Below.size KV1542.out) (xlt_nil _)
            clear hl1549
            (try clear hHeld)
            refine hK.out _ _ (sees_kept _ (kept_trans Kk1541.out Kk1554.out)) (fun hHeld => ?_)
            clear hK K
            (try simp only [Act.put, List.setIfInBounds_toArray, List.set_cons_zero, List.set_cons_succ])
            exact HJj81 w1546 g99 U994 a991 c992 g415 U1553 a1550 c1551 g188 ⟨(kept_trans Kk1541.out Kk1554.out), HU994.out, HU1553.out, (HL1543.out.later Kk1554.out), Hhl1549.out, (HL1545.out.later Kk1554.out)⟩
          refine AllReadyH.cons (o := rcReflr3_18) rfl (fun K hK => ?_) ?_
          · unfold rcReflr3_18
            go_simp
            refine at_K (fun W1556 hW1556 => ?_)
            obtain ⟨g1560, hg1561, Kk1558, Hx1557, Hz1559, KV1562, HN1563⟩ := alloc1v KV1542.out hW1556
            rw [hg1561]
            clear hW1556
            have HR1564 := Lib.hid (q_row2 Hx1557.out Ga.out (HLa.out.later KV1562.out) Gr.out.2.2.2.1 (HLrx.out.later KV1562.out) (par_newg HN1563.out (fun h => nomatch h)))
            clear hg1561
            (try clear hHeld)
            refine hK.out _ _ (sees_kept _ (kept_trans Kk1541.out Kk1558.out)) (fun hHeld => ?_)
            clear hK K
            (try simp only [Act.put, List.setIfInBounds_toArray, List.set_cons_zero, List.set_cons_succ])
            exact HJj80 W1556 g99 U994 a991 c992 g415 g1560 g188 ⟨(kept_trans Kk1541.out Kk1558.out), HU994.out, (HL1543.out.later Kk1558.out), (HL1544.out.later Kk1558.out), HR1564.out, (HL1545.out.later Kk1558.out)⟩
          refine AllReadyH.cons (o := rcReflr3_23) rfl (fun K hK => ?_) ?_
          · unfold rcReflr3_23
            go_simp
            refine at_K (fun W1566 hW1566 => ?_)
            obtain ⟨g1570, hg1571, Kk1568, Hx1567, Hz1569, KV1572, HN1573⟩ := alloc1v KV1542.out hW1566
            rw [hg1571]
            clear hW1566
            have HR1574 := Lib.hid (q_row2 Hx1567.out Gc.out (HLc.out.later KV1572.out) Gr.out.2.2.2.2.1 (HLry.out.later KV1572.out) (par_newg HN1573.out (fun h => nomatch h)))
            clear hg1571
            (try clear hHeld)
            refine hK.out _ _ (sees_kept _ (kept_trans Kk1541.out Kk1568.out)) (fun hHeld => ?_)
            clear hK K
            (try simp only [Act.put, List.setIfInBounds_toArray, List.set_cons_zero, List.set_cons_succ])
            exact HJj79 W1566 g99 U994 a991 c992 g415 g1570 g188 ⟨(kept_trans Kk1541.out Kk1568.out), HU994.out, (HL1543.out.later Kk1568.out), (HL1544.out.later Kk1568.out), HR1574.out, (HL1545.out.later Kk1568.out)⟩
          exact AllReadyH.nil
        · intro W1075 g99 g1079 g586 g178 k1575
          obtain ⟨q1576, q1577, q1578, q1579, q1580⟩ := k1575
          have Kk1581 := Lib.hid q1576
          have KV1582 := Lib.hid (kept_trans (kept_trans Kk13.out (kept_trans Kk21.out (kept_trans Kk28.out (kept_trans Kk35.out Kk41.out)))) Kk1581.out)
          have HL1583 := Lib.hid q1577
          have HL1584 := Lib.hid q1578
          have HL1585 := Lib.hid q1579
          have HL1586 := Lib.hid q1580
          clear q1576 q1577 q1578 q1579 q1580
          have hHeld : Sees W38 (w.heap.size + 4) W1075 := sees_kept _ Kk1581.out
          refine wpAnyH_ready (rs := [7, 35]) (by kernel_rfl) (by simp) ?_
          refine AllReadyH.cons (o := rcReflr3_7) rfl (fun K hK => ?_) ?_
          · unfold rcReflr3_7
            go_simp
            refine (rnode_any 20 [a, r.x, r.x] (Par w V0.heap.size [] P) _ _ (show I64 20 from by unfold I64; decide) HL1583.out (Nat.le_of_ble_eq_true rfl)).mono ?_
            obtain ⟨U1594, hU1594⟩ : ∃ qu, nodeT 20 [a, r.x, r.x] = qu := ⟨_, rfl⟩
            rw [hU1594]
            have HU1594 := Lib.hid hU1594
            clear hU1594
            rintro e w1587 ⟨s1589, rfl, hl1590, k1588⟩
            obtain ⟨a1591, c1592, S1593, rfl, -⟩ := hl1590.out
            have Kk1595 := Lib.hid k1588
            clear k1588
            have Hhl1590 : Hid (LiesQ w1587 (Par w V0.heap.size [] P) U1594.kids _) := par_give hl1590 (Below.size KV1582.out) (xlt_nil _)
            clear hl1590
            (try clear hHeld)
            refine hK.out _ _ (sees_kept _ (kept_trans Kk1581.out Kk1595.out)) (fun hHeld => ?_)
            clear hK K
            (try simp only [Act.put, List.setIfInBounds_toArray, List.set_cons_zero, List.set_cons_succ])
            exact HJj82 w1587 g99 U1594 a1591 c1592 g1079 g586 g178 ⟨(kept_trans Kk1581.out Kk1595.out), HU1594.out, Hhl1590.out, (HL1584.out.later Kk1595.out), (HL1585.out.later Kk1595.out), (HL1586.out.later Kk1595.out)⟩
          refine AllReadyH.cons (o := rcReflr3_35) rfl (fun K hK => ?_) ?_
          · unfold rcReflr3_35
            go_simp
            refine at_K (fun W1597 hW1597 => ?_)
            obtain ⟨g1601, hg1602, Kk1599, Hx1598, Hz1600, KV1603, HN1604⟩ := alloc1v KV1582.out hW1597
            rw [hg1602]
            clear hW1597
            have HR1605 := Lib.hid (q_row6 Hx1598.out Ga.out (HLa.out.later KV1603.out) Gc.out (HLc.out.later KV1603.out) Ge.out (HLe.out.later KV1603.out) Gr.out.2.2.2.1 (HLrx.out.later KV1603.out) Gr.out.2.2.2.2.1 (HLry.out.later KV1603.out) Gr.out.2.2.2.2.2 (HLrh.out.later KV1603.out) (par_newg HN1604.out (fun h => nomatch h)))
            clear hg1602
            (try clear hHeld)
            refine hK.out _ _ (sees_kept _ (kept_trans Kk1581.out Kk1599.out)) (fun hHeld => ?_)
            clear hK K
            (try simp only [Act.put, List.setIfInBounds_toArray, List.set_cons_zero, List.set_cons_succ])
            exact HJj77 W1597 g99 g1079 g586 g178 g1601 ⟨(kept_trans Kk1581.out Kk1599.out), (HL1583.out.later Kk1599.out), (HL1584.out.later Kk1599.out), (HL1585.out.later Kk1599.out), (HL1586.out.later Kk1599.out), HR1605.out⟩
          exact AllReadyH.nil
        · intro w1065 g99 U1072 a1069 c1070 g586 g178 k1606
          obtain ⟨q1607, q1608, q1609, q1610, q1611⟩ := k1606
          have Kk1612 := Lib.hid q1607
          have KV1613 := Lib.hid (kept_trans (kept_trans Kk13.out (kept_trans Kk21.out (kept_trans Kk28.out (kept_trans Kk35.out Kk41.out)))) Kk1612.out)
          have HU1072 := Lib.hid q1608
          have HL1614 := Lib.hid q1609
          have HL1615 := Lib.hid q1610
          have HL1616 := Lib.hid q1611
          clear q1607 q1608 q1609 q1610 q1611
          have hHeld : Sees W38 (w.heap.size + 4) w1065 := sees_kept _ Kk1612.out
          refine wpAnyH_ready (rs := [13, 35]) (by kernel_rfl) (by simp) ?_
          refine AllReadyH.cons (o := rcReflr3_13) rfl (fun K hK => ?_) ?_
          · unfold rcReflr3_13
            go_simp
            refine at_K (fun W1618 hW1618 => ?_)
            obtain ⟨g1622, hg1623, Kk1620, Hx1619, Hz1621, KV1624, HN1625⟩ := alloc1v KV1613.out hW1618
            rw [hg1623]
            clear hW1618
            have HR1626 := Lib.hid (q_row3 Hx1619.out Gc.out (HLc.out.later KV1624.out) Gr.out.2.2.2.2.1 (HLry.out.later KV1624.out) Gr.out.2.2.2.2.1 (HLry.out.later KV1624.out) (par_newg HN1625.out (fun h => nomatch h)))
            clear hg1623
            (try clear hHeld)
            refine hK.out _ _ (sees_kept _ (kept_trans Kk1612.out Kk1620.out)) (fun hHeld => ?_)
            clear hK K
            (try simp only [Act.put, List.setIfInBounds_toArray, List.set_cons_zero, List.set_cons_succ])
            exact HJj82 W1618 g99 U1072 a1069 c1070 g1622 g586 g178 ⟨(kept_trans Kk1612.out Kk1620.out), HU1072.out, (HL1614.out.later Kk1620.out), HR1626.out, (HL1615.out.later Kk1620.out), (HL1616.out.later Kk1620.out)⟩
          refine AllReadyH.cons (o := rcReflr3_35) rfl (fun K hK => ?_) ?_
          · unfold rcReflr3_35
            go_simp
            refine at_K (fun W1628 hW1628 => ?_)
            obtain ⟨g1632, hg1633, Kk1630, Hx1629, Hz1631, KV1634, HN1635⟩ := alloc1v KV1613.out hW1628
            rw [hg1633]
            clear hW1628
            have HR1636 := Lib.hid (q_row6 Hx1629.out Ga.out (HLa.out.later KV1634.out) Gc.out (HLc.out.later KV1634.out) Ge.out (HLe.out.later KV1634.out) Gr.out.2.2.2.1 (HLrx.out.later KV1634.out) Gr.out.2.2.2.2.1 (HLry.out.later KV1634.out) Gr.out.2.2.2.2.2 (HLrh.out.later KV1634.out) (par_newg HN1635.out (fun h => nomatch h)))
            clear hg1633
            (try clear hHeld)
            refine hK.out _ _ (sees_kept _ (kept_trans Kk1612.out Kk1630.out)) (fun hHeld => ?_)
            clear hK K
            (try simp only [Act.put, List.setIfInBounds_toArray, List.set_cons_zero, List.set_cons_succ])
            exact HJj78 W1628 g99 U1072 a1069 c1070 g586 g178 g1632 ⟨(kept_trans Kk1612.out Kk1630.out), HU1072.out, (HL1614.out.later Kk1630.out), (HL1615.out.later Kk1630.out), (HL1616.out.later Kk1630.out), HR1636.out⟩
          exact AllReadyH.nil
        · intro w1134 g99 U1141 a1138 c1139 g576 g178 k1637
          obtain ⟨q1638, q1639, q1640, q1641, q1642⟩ := k1637
          have Kk1643 := Lib.hid q1638
          have KV1644 := Lib.hid (kept_trans (kept_trans Kk13.out (kept_trans Kk21.out (kept_trans Kk28.out (kept_trans Kk35.out Kk41.out)))) Kk1643.out)
          have HU1141 := Lib.hid q1639
          have HL1645 := Lib.hid q1640
          have HL1646 := Lib.hid q1641
          have HL1647 := Lib.hid q1642
          clear q1638 q1639 q1640 q1641 q1642
          have hHeld : Sees W38 (w.heap.size + 4) w1134 := sees_kept _ Kk1643.out
          refine wpAnyH_ready (rs := [14, 18, 35]) (by kernel_rfl) (by simp) ?_
          refine AllReadyH.cons (o := rcReflr3_14) rfl (fun K hK => ?_) ?_
          · unfold rcReflr3_14
            go_simp
            refine (rnode_any 20 [c, r.y, r.y] (Par w V0.heap.size [] P) _ _ (show I64 20 from by unfold I64; decide) HL1646.out (Nat.le_of_ble_eq_true rfl)).mono ?_
            obtain ⟨U1655, hU1655⟩ : ∃ qu, nodeT 20 [c, r.y, r.y] = qu := ⟨_, rfl⟩
            rw [hU1655]
            have HU1655 := Lib.hid hU1655
            clear hU1655
            rintro e w1648 ⟨s1650, rfl, hl1651, k1649⟩
            obtain ⟨a1652, c1653, S1654, rfl, -⟩ := hl1651.out
            have Kk1656 := Lib.hid k1649
            clear k1649
            have Hhl1651 : Hid (LiesQ w1648 (Par w V0.heap.size [] P) U1655.kids _) := par_give hl1651 (Below.size KV1644.out) (xlt_nil _)
            clear hl1651
            (try clear hHeld)
            refine hK.out _ _ (sees_kept _ (kept_trans Kk1643.out Kk1656.out)) (fun hHeld => ?_)
            clear hK K
            (try simp only [Act.put, List.setIfInBounds_toArray, List.set_cons_zero, List.set_cons_succ])
            exact HJj83 w1648 g99 U1141 a1138 c1139 g576 U1655 a1652 c1653 g178 ⟨(kept_trans Kk1643.out Kk1656.out), HU1141.out, HU1655.out, (HL1645.out.later Kk1656.out), Hhl1651.out, (HL1647.out.later Kk1656.out)⟩
          refine AllReadyH.cons (o := rcReflr3_18) rfl (fun K hK => ?_) ?_
          · unfold rcReflr3_18
            go_simp
            refine at_K (fun W1658 hW1658 => ?_)
            obtain ⟨g1662, hg1663, Kk1660, Hx1659, Hz1661, KV1664, HN1665⟩ := alloc1v KV1644.out hW1658
            rw [hg1663]
            clear hW1658
            have HR1666 := Lib.hid (q_row2 Hx1659.out Ga.out (HLa.out.later KV1664.out) Gr.out.2.2.2.1 (HLrx.out.later KV1664.out) (par_newg HN1665.out (fun h => nomatch h)))
            clear hg1663
            (try clear hHeld)
            refine hK.out _ _ (sees_kept _ (kept_trans Kk1643.out Kk1660.out)) (fun hHeld => ?_)
            clear hK K
            (try simp only [Act.put, List.setIfInBounds_toArray, List.set_cons_zero, List.set_cons_succ])
            exact HJj82 W1658 g99 U1141 a1138 c1139 g576 g1662 g178 ⟨(kept_trans Kk1643.out Kk1660.out), HU1141.out, (HL1645.out.later Kk1660.out), (HL1646.out.later Kk1660.out), HR1666.out, (HL1647.out.later Kk1660.out)⟩
          refine AllReadyH.cons (o := rcReflr3_35) rfl (fun K hK => ?_) ?_
          · unfold rcReflr3_35
            go_simp
            refine at_K (fun W1668 hW1668 => ?_)
            obtain ⟨g1672, hg1673, Kk1670, Hx1669, Hz1671, KV1674, HN1675⟩ := alloc1v KV1644.out hW1668
            rw [hg1673]
            clear hW1668
            have HR1676 := Lib.hid (q_row6 Hx1669.out Ga.out (HLa.out.later KV1674.out) Gc.out (HLc.out.later KV1674.out) Ge.out (HLe.out.later KV1674.out) Gr.out.2.2.2.1 (HLrx.out.later KV1674.out) Gr.out.2.2.2.2.1 (HLry.out.later KV1674.out) Gr.out.2.2.2.2.2 (HLrh.out.later KV1674.out) (par_newg HN1675.out (fun h => nomatch h)))
            clear hg1673
            (try clear hHeld)
            refine hK.out _ _ (sees_kept _ (kept_trans Kk1643.out Kk1670.out)) (fun hHeld => ?_)
            clear hK K
            (try simp only [Act.put, List.setIfInBounds_toArray, List.set_cons_zero, List.set_cons_succ])
            exact HJj79 W1668 g99 U1141 a1138 c1139 g576 g178 g1672 ⟨(kept_trans Kk1643.out Kk1670.out), HU1141.out, (HL1645.out.later Kk1670.out), (HL1646.out.later Kk1670.out), (HL1647.out.later Kk1670.out), HR1676.out⟩
          exact AllReadyH.nil
        · intro w1212 g99 U1219 a1216 c1217 g699 g168 k1677
          obtain ⟨q1678, q1679, q1680, q1681, q1682⟩ := k1677
          have Kk1683 := Lib.hid q1678
          have KV1684 := Lib.hid (kept_trans (kept_trans Kk13.out (kept_trans Kk21.out (kept_trans Kk28.out (kept_trans Kk35.out Kk41.out)))) Kk1683.out)
          have HU1219 := Lib.hid q1679
          have HL1685 := Lib.hid q1680
          have HL1686 := Lib.hid q1681
          have HL1687 := Lib.hid q1682
          clear q1678 q1679 q1680 q1681 q1682
          have hHeld : Sees W38 (w.heap.size + 4) w1212 := sees_kept _ Kk1683.out
          refine wpAnyH_ready (rs := [14, 23, 35]) (by kernel_rfl) (by simp) ?_
          refine AllReadyH.cons (o := rcReflr3_14) rfl (fun K hK => ?_) ?_
          · unfold rcReflr3_14
            go_simp
            refine (rnode_any 20 [c, r.y, r.y] (Par w V0.heap.size [] P) _ _ (show I64 20 from by unfold I64; decide) HL1686.out (Nat.le_of_ble_eq_true rfl)).mono ?_
            obtain ⟨U1695, hU1695⟩ : ∃ qu, nodeT 20 [c, r.y, r.y] = qu := ⟨_, rfl⟩
            rw [hU1695]
            have HU1695 := Lib.hid hU1695
            clear hU1695
            rintro e w1688 ⟨s1690, rfl, hl1691, k1689⟩
            obtain ⟨a1692, c1693, S1694, rfl, -⟩ := hl1691.out
            have Kk1696 := Lib.hid k1689
            clear k1689
            have Hhl1691 : Hid (LiesQ w1688 (Par w V0.heap.size [] P) U1695.kids _) := par_give hl1691 (Below.size KV1684.out) (xlt_nil _)
            clear hl1691
            (try clear hHeld)
            refine hK.out _ _ (sees_kept _ (kept_trans Kk1683.out Kk1696.out)) (fun hHeld => ?_)
            clear hK K
            (try simp only [Act.put, List.setIfInBounds_toArray, List.set_cons_zero, List.set_cons_succ])
            exact HJj84 w1688 g99 U1219 a1216 c1217 g699 U1695 a1692 c1693 g168 ⟨(kept_trans Kk1683.out Kk1696.out), HU1219.out, HU1695.out, (HL1685.out.later Kk1696.out), Hhl1691.out, (HL1687.out.later Kk1696.out)⟩
          refine AllReadyH.cons (o := rcReflr3_23) rfl (fun K hK => ?_) ?_
          · unfold rcReflr3_23
            go_simp
            refine at_K (fun W1698 hW1698 => ?_)
            obtain ⟨g1702, hg1703, Kk1700, Hx1699, Hz1701, KV1704, HN1705⟩ := alloc1v KV1684.out hW1698
            rw [hg1703]
            clear hW1698
            have HR1706 := Lib.hid (q_row2 Hx1699.out Gc.out (HLc.out.later KV1704.out) Gr.out.2.2.2.2.1 (HLry.out.later KV1704.out) (par_newg HN1705.out (fun h => nomatch h)))
            clear hg1703
            (try clear hHeld)
            refine hK.out _ _ (sees_kept _ (kept_trans Kk1683.out Kk1700.out)) (fun hHeld => ?_)
            clear hK K
            (try simp only [Act.put, List.setIfInBounds_toArray, List.set_cons_zero, List.set_cons_succ])
            exact HJj82 W1698 g99 U1219 a1216 c1217 g699 g168 g1702 ⟨(kept_trans Kk1683.out Kk1700.out), HU1219.out, (HL1685.out.later Kk1700.out), (HL1686.out.later Kk1700.out), (HL1687.out.later Kk1700.out), HR1706.out⟩
          refine AllReadyH.cons (o := rcReflr3_35) rfl (fun K hK => ?_) ?_
          · unfold rcReflr3_35
            go_simp
            refine at_K (fun W1708 hW1708 => ?_)
            obtain ⟨g1712, hg1713, Kk1710, Hx1709, Hz1711, KV1714, HN1715⟩ := alloc1v KV1684.out hW1708
            rw [hg1713]
            clear hW1708
            have HR1716 := Lib.hid (q_row6 Hx1709.out Ga.out (HLa.out.later KV1714.out) Gc.out (HLc.out.later KV1714.out) Ge.out (HLe.out.later KV1714.out) Gr.out.2.2.2.1 (HLrx.out.later KV1714.out) Gr.out.2.2.2.2.1 (HLry.out.later KV1714.out) Gr.out.2.2.2.2.2 (HLrh.out.later KV1714.out) (par_newg HN1715.out (fun h => nomatch h)))
            clear hg1713
            (try clear hHeld)
            refine hK.out _ _ (sees_kept _ (kept_trans Kk1683.out Kk1710.out)) (fun hHeld => ?_)
            clear hK K
            (try simp only [Act.put, List.setIfInBounds_toArray, List.set_cons_zero, List.set_cons_succ])
            exact HJj80 W1708 g99 U1219 a1216 c1217 g699 g168 g1712 ⟨(kept_trans Kk1683.out Kk1710.out), HU1219.out, (HL1685.out.later Kk1710.out), (HL1686.out.later Kk1710.out), (HL1687.out.later Kk1710.out), HR1716.out⟩
          exact AllReadyH.nil
        · intro W1380 g99 g1384 g843 g435 g188 k1717
          obtain ⟨q1718, q1719, q1720, q1721, q1722, q1723⟩ := k1717
          have Kk1724 := Lib.hid q1718
          have KV1725 := Lib.hid (kept_trans (kept_trans Kk13.out (kept_trans Kk21.out (kept_trans Kk28.out (kept_trans Kk35.out Kk41.out)))) Kk1724.out)
          have HL1726 := Lib.hid q1719
          have HL1727 := Lib.hid q1720
          have HL1728 := Lib.hid q1721
          have HL1729 := Lib.hid q1722
          have HL1730 := Lib.hid q1723
          clear q1718 q1719 q1720 q1721 q1722 q1723
          have hHeld : Sees W38 (w.heap.size + 4) W1380 := sees_kept _ Kk1724.out
          refine wpAnyH_ready (rs := [7]) (by kernel_rfl) (by simp) ?_
          refine AllReadyH.cons (o := rcReflr3_7) rfl (fun K hK => ?_) ?_
          · unfold rcReflr3_7
            go_simp
            refine (rnode_any 20 [a, r.x, r.x] (Par w V0.heap.size [] P) _ _ (show I64 20 from by unfold I64; decide) HL1726.out (Nat.le_of_ble_eq_true rfl)).mono ?_
            obtain ⟨U1738, hU1738⟩ : ∃ qu, nodeT 20 [a, r.x, r.x] = qu := ⟨_, rfl⟩
            rw [hU1738]
            have HU1738 := Lib.hid hU1738
            clear hU1738
            rintro e w1731 ⟨s1733, rfl, hl1734, k1732⟩
            obtain ⟨a1735, c1736, S1737, rfl, -⟩ := hl1734.out
            have Kk1739 := Lib.hid k1732
            clear k1732
            have Hhl1734 : Hid (LiesQ w1731 (Par w V0.heap.size [] P) U1738.kids _) := par_give hl1734 (Below.size KV1725.out) (xlt_nil _)
            clear hl1734
            (try clear hHeld)
            refine hK.out _ _ (sees_kept _ (kept_trans Kk1724.out Kk1739.out)) (fun hHeld => ?_)
            clear hK K
            (try simp only [Act.put, List.setIfInBounds_toArray, List.set_cons_zero, List.set_cons_succ])
            exact HJj85 w1731 g99 U1738 a1735 c1736 g1384 g843 g435 g188 ⟨(kept_trans Kk1724.out Kk1739.out), HU1738.out, Hhl1734.out, (HL1727.out.later Kk1739.out), (HL1728.out.later Kk1739.out), (HL1729.out.later Kk1739.out), (HL1730.out.later Kk1739.out)⟩
          exact AllReadyH.nil
        · intro w1370 g99 U1377 a1374 c1375 g843 g435 g188 k1740
          obtain ⟨q1741, q1742, q1743, q1744, q1745, q1746⟩ := k1740
          have Kk1747 := Lib.hid q1741
          have KV1748 := Lib.hid (kept_trans (kept_trans Kk13.out (kept_trans Kk21.out (kept_trans Kk28.out (kept_trans Kk35.out Kk41.out)))) Kk1747.out)
          have HU1377 := Lib.hid q1742
          have HL1749 := Lib.hid q1743
          have HL1750 := Lib.hid q1744
          have HL1751 := Lib.hid q1745
          have HL1752 := Lib.hid q1746
          clear q1741 q1742 q1743 q1744 q1745 q1746
          have hHeld : Sees W38 (w.heap.size + 4) w1370 := sees_kept _ Kk1747.out
          refine wpAnyH_ready (rs := [13]) (by kernel_rfl) (by simp) ?_
          refine AllReadyH.cons (o := rcReflr3_13) rfl (fun K hK => ?_) ?_
          · unfold rcReflr3_13
            go_simp
            refine at_K (fun W1754 hW1754 => ?_)
            obtain ⟨g1758, hg1759, Kk1756, Hx1755, Hz1757, KV1760, HN1761⟩ := alloc1v KV1748.out hW1754
            rw [hg1759]
            clear hW1754
            have HR1762 := Lib.hid (q_row3 Hx1755.out Gc.out (HLc.out.later KV1760.out) Gr.out.2.2.2.2.1 (HLry.out.later KV1760.out) Gr.out.2.2.2.2.1 (HLry.out.later KV1760.out) (par_newg HN1761.out (fun h => nomatch h)))
            clear hg1759
            (try clear hHeld)
            refine hK.out _ _ (sees_kept _ (kept_trans Kk1747.out Kk1756.out)) (fun hHeld => ?_)
            clear hK K
            (try simp only [Act.put, List.setIfInBounds_toArray, List.set_cons_zero, List.set_cons_succ])
            exact HJj85 W1754 g99 U1377 a1374 c1375 g1758 g843 g435 g188 ⟨(kept_trans Kk1747.out Kk1756.out), HU1377.out, (HL1749.out.later Kk1756.out), HR1762.out, (HL1750.out.later Kk1756.out), (HL1751.out.later Kk1756.out), (HL1752.out.later Kk1756.out)⟩
          exact AllReadyH.nil
        · intro w1423 g99 U1430 a1427 c1428 g833 g435 g188 k1763
          obtain ⟨q1764, q1765, q1766, q1767, q1768, q1769⟩ := k1763
          have Kk1770 := Lib.hid q1764
          have KV1771 := Lib.hid (kept_trans (kept_trans Kk13.out (kept_trans Kk21.out (kept_trans Kk28.out (kept_trans Kk35.out Kk41.out)))) Kk1770.out)
          have HU1430 := Lib.hid q1765
          have HL1772 := Lib.hid q1766
          have HL1773 := Lib.hid q1767
          have HL1774 := Lib.hid q1768
          have HL1775 := Lib.hid q1769
          clear q1764 q1765 q1766 q1767 q1768 q1769
          have hHeld : Sees W38 (w.heap.size + 4) w1423 := sees_kept _ Kk1770.out
          refine wpAnyH_ready (rs := [14, 18]) (by kernel_rfl) (by simp) ?_
          refine AllReadyH.cons (o := rcReflr3_14) rfl (fun K hK => ?_) ?_
          · unfold rcReflr3_14
            go_simp
            refine (rnode_any 20 [c, r.y, r.y] (Par w V0.heap.size [] P) _ _ (show I64 20 from by unfold I64; decide) HL1773.out (Nat.le_of_ble_eq_true rfl)).mono ?_
            obtain ⟨U1783, hU1783⟩ : ∃ qu, nodeT 20 [c, r.y, r.y] = qu := ⟨_, rfl⟩
            rw [hU1783]
            have HU1783 := Lib.hid hU1783
            clear hU1783
            rintro e w1776 ⟨s1778, rfl, hl1779, k1777⟩
            obtain ⟨a1780, c1781, S1782, rfl, -⟩ := hl1779.out
            have Kk1784 := Lib.hid k1777
            clear k1777
            have Hhl1779 : Hid (LiesQ w1776 (Par w V0.heap.size [] P) U1783.kids _) := par_give hl1779 (Below.size KV1771.out) (xlt_nil _)
            clear hl1779
            (try clear hHeld)
            refine hK.out _ _ (sees_kept _ (kept_trans Kk1770.out Kk1784.out)) (fun hHeld => ?_)
            clear hK K
            (try simp only [Act.put, List.setIfInBounds_toArray, List.set_cons_zero, List.set_cons_succ])
            exact HJj86 w1776 g99 U1430 a1427 c1428 g833 U1783 a1780 c1781 g435 g188 ⟨(kept_trans Kk1770.out Kk1784.out), HU1430.out, HU1783.out, (HL1772.out.later Kk1784.out), Hhl1779.out, (HL1774.out.later Kk1784.out), (HL1775.out.later Kk1784.out)⟩
          refine AllReadyH.cons (o := rcReflr3_18) rfl (fun K hK => ?_) ?_
          · unfold rcReflr3_18
            go_simp
            refine at_K (fun W1786 hW1786 => ?_)
            obtain ⟨g1790, hg1791, Kk1788, Hx1787, Hz1789, KV1792, HN1793⟩ := alloc1v KV1771.out hW1786
            rw [hg1791]
            clear hW1786
            have HR1794 := Lib.hid (q_row2 Hx1787.out Ga.out (HLa.out.later KV1792.out) Gr.out.2.2.2.1 (HLrx.out.later KV1792.out) (par_newg HN1793.out (fun h => nomatch h)))
            clear hg1791
            (try clear hHeld)
            refine hK.out _ _ (sees_kept _ (kept_trans Kk1770.out Kk1788.out)) (fun hHeld => ?_)
            clear hK K
            (try simp only [Act.put, List.setIfInBounds_toArray, List.set_cons_zero, List.set_cons_succ])
            exact HJj85 W1786 g99 U1430 a1427 c1428 g833 g1790 g435 g188 ⟨(kept_trans Kk1770.out Kk1788.out), HU1430.out, (HL1772.out.later Kk1788.out), (HL1773.out.later Kk1788.out), HR1794.out, (HL1774.out.later Kk1788.out), (HL1775.out.later Kk1788.out)⟩
          exact AllReadyH.nil
        · intro w1485 g99 U1492 a1489 c1490 g932 g425 g188 k1795
          obtain ⟨q1796, q1797, q1798, q1799, q1800, q1801⟩ := k1795
          have Kk1802 := Lib.hid q1796
          have KV1803 := Lib.hid (kept_trans (kept_trans Kk13.out (kept_trans Kk21.out (kept_trans Kk28.out (kept_trans Kk35.out Kk41.out)))) Kk1802.out)
          have HU1492 := Lib.hid q1797
          have HL1804 := Lib.hid q1798
          have HL1805 := Lib.hid q1799
          have HL1806 := Lib.hid q1800
          have HL1807 := Lib.hid q1801
          clear q1796 q1797 q1798 q1799 q1800 q1801
          have hHeld : Sees W38 (w.heap.size + 4) w1485 := sees_kept _ Kk1802.out
          refine wpAnyH_ready (rs := [14, 23]) (by kernel_rfl) (by simp) ?_
          refine AllReadyH.cons (o := rcReflr3_14) rfl (fun K hK => ?_) ?_
          · unfold rcReflr3_14
            go_simp
            refine (rnode_any 20 [c, r.y, r.y] (Par w V0.heap.size [] P) _ _ (show I64 20 from by unfold I64; decide) HL1805.out (Nat.le_of_ble_eq_true rfl)).mono ?_
            obtain ⟨U1815, hU1815⟩ : ∃ qu, nodeT 20 [c, r.y, r.y] = qu := ⟨_, rfl⟩
            rw [hU1815]
            have HU1815 := Lib.hid hU1815
            clear hU1815
            rintro e w1808 ⟨s1810, rfl, hl1811, k1809⟩
            obtain ⟨a1812, c1813, S1814, rfl, -⟩ := hl1811.out
            have Kk1816 := Lib.hid k1809
            clear k1809
            have Hhl1811 : Hid (LiesQ w1808 (Par w V0.heap.size [] P) U1815.kids _) := par_give hl1811 (Below.size KV1803.out) (xlt_nil _)
            clear hl1811
            (try clear hHeld)
            refine hK.out _ _ (sees_kept _ (kept_trans Kk1802.out Kk1816.out)) (fun hHeld => ?_)
            clear hK K
            (try simp only [Act.put, List.setIfInBounds_toArray, List.set_cons_zero, List.set_cons_succ])
            exact HJj87 w1808 g99 U1492 a1489 c1490 g932 U1815 a1812 c1813 g425 g188 ⟨(kept_trans Kk1802.out Kk1816.out), HU1492.out, HU1815.out, (HL1804.out.later Kk1816.out), Hhl1811.out, (HL1806.out.later Kk1816.out), (HL1807.out.later Kk1816.out)⟩
          refine AllReadyH.cons (o := rcReflr3_23) rfl (fun K hK => ?_) ?_
          · unfold rcReflr3_23
            go_simp
            refine at_K (fun W1818 hW1818 => ?_)
            obtain ⟨g1822, hg1823, Kk1820, Hx1819, Hz1821, KV1824, HN1825⟩ := alloc1v KV1803.out hW1818
            rw [hg1823]
            clear hW1818
            have HR1826 := Lib.hid (q_row2 Hx1819.out Gc.out (HLc.out.later KV1824.out) Gr.out.2.2.2.2.1 (HLry.out.later KV1824.out) (par_newg HN1825.out (fun h => nomatch h)))
            clear hg1823
            (try clear hHeld)
            refine hK.out _ _ (sees_kept _ (kept_trans Kk1802.out Kk1820.out)) (fun hHeld => ?_)
            clear hK K
            (try simp only [Act.put, List.setIfInBounds_toArray, List.set_cons_zero, List.set_cons_succ])
            exact HJj85 W1818 g99 U1492 a1489 c1490 g932 g425 g1822 g188 ⟨(kept_trans Kk1802.out Kk1820.out), HU1492.out, (HL1804.out.later Kk1820.out), (HL1805.out.later Kk1820.out), (HL1806.out.later Kk1820.out), HR1826.out, (HL1807.out.later Kk1820.out)⟩
          exact AllReadyH.nil
        · intro W1319 g99 U111 a108 c109 g118 U1296 a1293 c1294 g1323 k1827
          obtain ⟨q1828, q1829, q1830, q1831, q1832, q1833⟩ := k1827
          have Kk1834 := Lib.hid q1828
          have KV1835 := Lib.hid (kept_trans (kept_trans Kk13.out (kept_trans Kk21.out (kept_trans Kk28.out (kept_trans Kk35.out Kk41.out)))) Kk1834.out)
          have HU111 := Lib.hid q1829
          have HU1296 := Lib.hid q1830
          have HL1836 := Lib.hid q1831
          have HL1837 := Lib.hid q1832
          have HL1838 := Lib.hid q1833
          clear q1828 q1829 q1830 q1831 q1832 q1833
          have hHeld : Sees W38 (w.heap.size + 4) W1319 := sees_kept _ Kk1834.out
          refine wpAnyH_ready (rs := [18, 23]) (by kernel_rfl) (by simp) ?_
          refine AllReadyH.cons (o := rcReflr3_18) rfl (fun K hK => ?_) ?_
          · unfold rcReflr3_18
            go_simp
            refine at_K (fun W1840 hW1840 => ?_)
            obtain ⟨g1844, hg1845, Kk1842, Hx1841, Hz1843, KV1846, HN1847⟩ := alloc1v KV1835.out hW1840
            rw [hg1845]
            clear hW1840
            have HR1848 := Lib.hid (q_row2 Hx1841.out Ga.out (HLa.out.later KV1846.out) Gr.out.2.2.2.1 (HLrx.out.later KV1846.out) (par_newg HN1847.out (fun h => nomatch h)))
            clear hg1845
            (try clear hHeld)
            refine hK.out _ _ (sees_kept _ (kept_trans Kk1834.out Kk1842.out)) (fun hHeld => ?_)
            clear hK K
            (try simp only [Act.put, List.setIfInBounds_toArray, List.set_cons_zero, List.set_cons_succ])
            exact HJj87 W1840 g99 U111 a108 c109 g118 U1296 a1293 c1294 g1844 g1323 ⟨(kept_trans Kk1834.out Kk1842.out), HU111.out, HU1296.out, (HL1836.out.later Kk1842.out), (HL1837.out.later Kk1842.out), HR1848.out, (HL1838.out.later Kk1842.out)⟩
          refine AllReadyH.cons (o := rcReflr3_23) rfl (fun K hK => ?_) ?_
          · unfold rcReflr3_23
            go_simp
            refine at_K (fun W1850 hW1850 => ?_)
            obtain ⟨g1854, hg1855, Kk1852, Hx1851, Hz1853, KV1856, HN1857⟩ := alloc1v KV1835.out hW1850
            rw [hg1855]
            clear hW1850
            have HR1858 := Lib.hid (q_row2 Hx1851.out Gc.out (HLc.out.later KV1856.out) Gr.out.2.2.2.2.1 (HLry.out.later KV1856.out) (par_newg HN1857.out (fun h => nomatch h)))
            clear hg1855
            (try clear hHeld)
            refine hK.out _ _ (sees_kept _ (kept_trans Kk1834.out Kk1852.out)) (fun hHeld => ?_)
            clear hK K
            (try simp only [Act.put, List.setIfInBounds_toArray, List.set_cons_zero, List.set_cons_succ])
            exact HJj86 W1850 g99 U111 a108 c109 g118 U1296 a1293 c1294 g1854 g1323 ⟨(kept_trans Kk1834.out Kk1852.out), HU111.out, HU1296.out, (HL1836.out.later Kk1852.out), (HL1837.out.later Kk1852.out), HR1858.out, (HL1838.out.later Kk1852.out)⟩
          exact AllReadyH.nil
        · intro w1587 g99 U1594 a1591 c1592 g1079 g586 g178 k1859
          obtain ⟨q1860, q1861, q1862, q1863, q1864, q1865⟩ := k1859
          have Kk1866 := Lib.hid q1860
          have KV1867 := Lib.hid (kept_trans (kept_trans Kk13.out (kept_trans Kk21.out (kept_trans Kk28.out (kept_trans Kk35.out Kk41.out)))) Kk1866.out)
          have HU1594 := Lib.hid q1861
          have HL1868 := Lib.hid q1862
          have HL1869 := Lib.hid q1863
          have HL1870 := Lib.hid q1864
          have HL1871 := Lib.hid q1865
          clear q1860 q1861 q1862 q1863 q1864 q1865
          have hHeld : Sees W38 (w.heap.size + 4) w1587 := sees_kept _ Kk1866.out
          refine wpAnyH_ready (rs := [14, 35]) (by kernel_rfl) (by simp) ?_
          refine AllReadyH.cons (o := rcReflr3_14) rfl (fun K hK => ?_) ?_
          · unfold rcReflr3_14
            go_simp
            refine (rnode_any 20 [c, r.y, r.y] (Par w V0.heap.size [] P) _ _ (show I64 20 from by unfold I64; decide) HL1869.out (Nat.le_of_ble_eq_true rfl)).mono ?_
            obtain ⟨U1879, hU1879⟩ : ∃ qu, nodeT 20 [c, r.y, r.y] = qu := ⟨_, rfl⟩
            rw [hU1879]
            have HU1879 := Lib.hid hU1879
            clear hU1879
            rintro e w1872 ⟨s1874, rfl, hl1875, k1873⟩
            obtain ⟨a1876, c1877, S1878, rfl, -⟩ := hl1875.out
            have Kk1880 := Lib.hid k1873
            clear k1873
            have Hhl1875 : Hid (LiesQ w1872 (Par w V0.heap.size [] P) U1879.kids _) := par_give hl1875 (Below.size KV1867.out) (xlt_nil _)
            clear hl1875
            (try clear hHeld)
            refine hK.out _ _ (sees_kept _ (kept_trans Kk1866.out Kk1880.out)) (fun hHeld => ?_)
            clear hK K
            (try simp only [Act.put, List.setIfInBounds_toArray, List.set_cons_zero, List.set_cons_succ])
            exact HJj88 w1872 g99 U1594 a1591 c1592 g1079 U1879 a1876 c1877 g586 g178 ⟨(kept_trans Kk1866.out Kk1880.out), HU1594.out, HU1879.out, (HL1868.out.later Kk1880.out), Hhl1875.out, (HL1870.out.later Kk1880.out), (HL1871.out.later Kk1880.out)⟩
          refine AllReadyH.cons (o := rcReflr3_35) rfl (fun K hK => ?_) ?_
          · unfold rcReflr3_35
            go_simp
            refine at_K (fun W1882 hW1882 => ?_)
            obtain ⟨g1886, hg1887, Kk1884, Hx1883, Hz1885, KV1888, HN1889⟩ := alloc1v KV1867.out hW1882
            rw [hg1887]
            clear hW1882
            have HR1890 := Lib.hid (q_row6 Hx1883.out Ga.out (HLa.out.later KV1888.out) Gc.out (HLc.out.later KV1888.out) Ge.out (HLe.out.later KV1888.out) Gr.out.2.2.2.1 (HLrx.out.later KV1888.out) Gr.out.2.2.2.2.1 (HLry.out.later KV1888.out) Gr.out.2.2.2.2.2 (HLrh.out.later KV1888.out) (par_newg HN1889.out (fun h => nomatch h)))
            clear hg1887
            (try clear hHeld)
            refine hK.out _ _ (sees_kept _ (kept_trans Kk1866.out Kk1884.out)) (fun hHeld => ?_)
            clear hK K
            (try simp only [Act.put, List.setIfInBounds_toArray, List.set_cons_zero, List.set_cons_succ])
            exact HJj85 W1882 g99 U1594 a1591 c1592 g1079 g586 g178 g1886 ⟨(kept_trans Kk1866.out Kk1884.out), HU1594.out, (HL1868.out.later Kk1884.out), (HL1869.out.later Kk1884.out), (HL1870.out.later Kk1884.out), (HL1871.out.later Kk1884.out), HR1890.out⟩
          exact AllReadyH.nil
        · intro W1309 g99 U111 a108 c109 g118 U1296 a1293 c1294 g1313 k1891
          obtain ⟨q1892, q1893, q1894, q1895, q1896, q1897⟩ := k1891
          have Kk1898 := Lib.hid q1892
          have KV1899 := Lib.hid (kept_trans (kept_trans Kk13.out (kept_trans Kk21.out (kept_trans Kk28.out (kept_trans Kk35.out Kk41.out)))) Kk1898.out)
          have HU111 := Lib.hid q1893
          have HU1296 := Lib.hid q1894
          have HL1900 := Lib.hid q1895
          have HL1901 := Lib.hid q1896
          have HL1902 := Lib.hid q1897
          clear q1892 q1893 q1894 q1895 q1896 q1897
          have hHeld : Sees W38 (w.heap.size + 4) W1309 := sees_kept _ Kk1898.out
          refine wpAnyH_ready (rs := [18, 35]) (by kernel_rfl) (by simp) ?_
          refine AllReadyH.cons (o := rcReflr3_18) rfl (fun K hK => ?_) ?_
          · unfold rcReflr3_18
            go_simp
            refine at_K (fun W1904 hW1904 => ?_)
            obtain ⟨g1908, hg1909, Kk1906, Hx1905, Hz1907, KV1910, HN1911⟩ := alloc1v KV1899.out hW1904
            rw [hg1909]
            clear hW1904
            have HR1912 := Lib.hid (q_row2 Hx1905.out Ga.out (HLa.out.later KV1910.out) Gr.out.2.2.2.1 (HLrx.out.later KV1910.out) (par_newg HN1911.out (fun h => nomatch h)))
            clear hg1909
            (try clear hHeld)
            refine hK.out _ _ (sees_kept _ (kept_trans Kk1898.out Kk1906.out)) (fun hHeld => ?_)
            clear hK K
            (try simp only [Act.put, List.setIfInBounds_toArray, List.set_cons_zero, List.set_cons_succ])
            exact HJj88 W1904 g99 U111 a108 c109 g118 U1296 a1293 c1294 g1908 g1313 ⟨(kept_trans Kk1898.out Kk1906.out), HU111.out, HU1296.out, (HL1900.out.later Kk1906.out), (HL1901.out.later Kk1906.out), HR1912.out, (HL1902.out.later Kk1906.out)⟩
          refine AllReadyH.cons (o := rcReflr3_35) rfl (fun K hK => ?_) ?_
          · unfold rcReflr3_35
            go_simp
            refine at_K (fun W1914 hW1914 => ?_)
            obtain ⟨g1918, hg1919, Kk1916, Hx1915, Hz1917, KV1920, HN1921⟩ := alloc1v KV1899.out hW1914
            rw [hg1919]
            clear hW1914
            have HR1922 := Lib.hid (q_row6 Hx1915.out Ga.out (HLa.out.later KV1920.out) Gc.out (HLc.out.later KV1920.out) Ge.out (HLe.out.later KV1920.out) Gr.out.2.2.2.1 (HLrx.out.later KV1920.out) Gr.out.2.2.2.2.1 (HLry.out.later KV1920.out) Gr.out.2.2.2.2.2 (HLrh.out.later KV1920.out) (par_newg HN1921.out (fun h => nomatch h)))
            clear hg1919
            (try clear hHeld)
            refine hK.out _ _ (sees_kept _ (kept_trans Kk1898.out Kk1916.out)) (fun hHeld => ?_)
            clear hK K
            (try simp only [Act.put, List.setIfInBounds_toArray, List.set_cons_zero, List.set_cons_succ])
            exact HJj86 W1914 g99 U111 a108 c109 g118 U1296 a1293 c1294 g1313 g1918 ⟨(kept_trans Kk1898.out Kk1916.out), HU111.out, HU1296.out, (HL1900.out.later Kk1916.out), (HL1901.out.later Kk1916.out), (HL1902.out.later Kk1916.out), HR1922.out⟩
          exact AllReadyH.nil
        · intro W1299 g99 U111 a108 c109 g118 U1296 a1293 c1294 g1303 k1923
          obtain ⟨q1924, q1925, q1926, q1927, q1928, q1929⟩ := k1923
          have Kk1930 := Lib.hid q1924
          have KV1931 := Lib.hid (kept_trans (kept_trans Kk13.out (kept_trans Kk21.out (kept_trans Kk28.out (kept_trans Kk35.out Kk41.out)))) Kk1930.out)
          have HU111 := Lib.hid q1925
          have HU1296 := Lib.hid q1926
          have HL1932 := Lib.hid q1927
          have HL1933 := Lib.hid q1928
          have HL1934 := Lib.hid q1929
          clear q1924 q1925 q1926 q1927 q1928 q1929
          have hHeld : Sees W38 (w.heap.size + 4) W1299 := sees_kept _ Kk1930.out
          refine wpAnyH_ready (rs := [19, 23, 35]) (by kernel_rfl) (by simp) ?_
          refine AllReadyH.cons (o := rcReflr3_19) rfl (fun K hK => ?_) ?_
          · unfold rcReflr3_19
            go_simp
            refine (rnode_any 21 [a, r.x] (Par w V0.heap.size [] P) _ _ (show I64 21 from by unfold I64; decide) HL1934.out (Nat.le_of_ble_eq_true rfl)).mono ?_
            obtain ⟨U1942, hU1942⟩ : ∃ qu, nodeT 21 [a, r.x] = qu := ⟨_, rfl⟩
            rw [hU1942]
            have HU1942 := Lib.hid hU1942
            clear hU1942
            rintro e w1935 ⟨s1937, rfl, hl1938, k1936⟩
            obtain ⟨a1939, c1940, S1941, rfl, -⟩ := hl1938.out
            have Kk1943 := Lib.hid k1936
            clear k1936
            have Hhl1938 : Hid (LiesQ w1935 (Par w V0.heap.size [] P) U1942.kids _) := par_give hl1938 (Below.size KV1931.out) (xlt_nil _)
            clear hl1938
            (try clear hHeld)
            refine hK.out _ _ (sees_kept _ (kept_trans Kk1930.out Kk1943.out)) (fun hHeld => ?_)
            clear hK K
            (try simp only [Act.put, List.setIfInBounds_toArray, List.set_cons_zero, List.set_cons_succ])
            refine wpAnyH_ready (rs := [23, 35]) (by kernel_rfl) (by simp) ?_
            refine AllReadyH.cons (o := rcReflr3_23) rfl (fun K hK => ?_) ?_
            · unfold rcReflr3_23
              go_simp
              refine at_K (fun W1945 hW1945 => ?_)
              obtain ⟨g1949, hg1950, Kk1947, Hx1946, Hz1948, KV1951, HN1952⟩ := alloc1v (kept_trans Kk13.out (kept_trans Kk21.out (kept_trans Kk28.out (kept_trans Kk35.out (kept_trans Kk41.out (kept_trans Kk1930.out Kk1943.out)))))) hW1945
              rw [hg1950]
              clear hW1945
              have HR1953 := Lib.hid (q_row2 Hx1946.out Gc.out (HLc.out.later KV1951.out) Gr.out.2.2.2.2.1 (HLry.out.later KV1951.out) (par_newg HN1952.out (fun h => nomatch h)))
              clear hg1950
              (try clear hHeld)
              refine hK.out _ _ (sees_kept _ (kept_trans Kk1930.out (kept_trans Kk1943.out Kk1947.out))) (fun hHeld => ?_)
              clear hK K
              (try simp only [Act.put, List.setIfInBounds_toArray, List.set_cons_zero, List.set_cons_succ])
              exact HJj91 W1945 g99 U111 a108 c109 g118 U1296 a1293 c1294 g1303 U1942 a1939 c1940 g1949 ⟨(kept_trans Kk1930.out (kept_trans Kk1943.out Kk1947.out)), HU111.out, HU1296.out, HU1942.out, (HL1932.out.later (kept_trans Kk1943.out Kk1947.out)), (HL1933.out.later (kept_trans Kk1943.out Kk1947.out)), (Hhl1938.out.later Kk1947.out), HR1953.out⟩
            refine AllReadyH.cons (o := rcReflr3_35) rfl (fun K hK => ?_) ?_
            · unfold rcReflr3_35
              go_simp
              refine at_K (fun W1955 hW1955 => ?_)
              obtain ⟨g1959, hg1960, Kk1957, Hx1956, Hz1958, KV1961, HN1962⟩ := alloc1v (kept_trans Kk13.out (kept_trans Kk21.out (kept_trans Kk28.out (kept_trans Kk35.out (kept_trans Kk41.out (kept_trans Kk1930.out Kk1943.out)))))) hW1955
              rw [hg1960]
              clear hW1955
              have HR1963 := Lib.hid (q_row6 Hx1956.out Ga.out (HLa.out.later KV1961.out) Gc.out (HLc.out.later KV1961.out) Ge.out (HLe.out.later KV1961.out) Gr.out.2.2.2.1 (HLrx.out.later KV1961.out) Gr.out.2.2.2.2.1 (HLry.out.later KV1961.out) Gr.out.2.2.2.2.2 (HLrh.out.later KV1961.out) (par_newg HN1962.out (fun h => nomatch h)))
              clear hg1960
              (try clear hHeld)
              refine hK.out _ _ (sees_kept _ (kept_trans Kk1930.out (kept_trans Kk1943.out Kk1957.out))) (fun hHeld => ?_)
              clear hK K
              (try simp only [Act.put, List.setIfInBounds_toArray, List.set_cons_zero, List.set_cons_succ])
              exact HJj90 W1955 g99 U111 a108 c109 g118 U1296 a1293 c1294 g1303 U1942 a1939 c1940 g1959 ⟨(kept_trans Kk1930.out (kept_trans Kk1943.out Kk1957.out)), HU111.out, HU1296.out, HU1942.out, (HL1932.out.later (kept_trans Kk1943.out Kk1957.out)), (HL1933.out.later (kept_trans Kk1943.out Kk1957.out)), (Hhl1938.out.later Kk1957.out), HR1963.out⟩
            exact AllReadyH.nil
          refine AllReadyH.cons (o := rcReflr3_23) rfl (fun K hK => ?_) ?_
          · unfold rcReflr3_23
            go_simp
            refine at_K (fun W1965 hW1965 => ?_)
            obtain ⟨g1969, hg1970, Kk1967, Hx1966, Hz1968, KV1971, HN1972⟩ := alloc1v KV1931.out hW1965
            rw [hg1970]
            clear hW1965
            have HR1973 := Lib.hid (q_row2 Hx1966.out Gc.out (HLc.out.later KV1971.out) Gr.out.2.2.2.2.1 (HLry.out.later KV1971.out) (par_newg HN1972.out (fun h => nomatch h)))
            clear hg1970
            (try clear hHeld)
            refine hK.out _ _ (sees_kept _ (kept_trans Kk1930.out Kk1967.out)) (fun hHeld => ?_)
            clear hK K
            (try simp only [Act.put, List.setIfInBounds_toArray, List.set_cons_zero, List.set_cons_succ])
            exact HJj88 W1965 g99 U111 a108 c109 g118 U1296 a1293 c1294 g1303 g1969 ⟨(kept_trans Kk1930.out Kk1967.out), HU111.out, HU1296.out, (HL1932.out.later Kk1967.out), (HL1933.out.later Kk1967.out), (HL1934.out.later Kk1967.out), HR1973.out⟩
          refine AllReadyH.cons (o := rcReflr3_35) rfl (fun K hK => ?_) ?_
          · unfold rcReflr3_35
            go_simp
            refine at_K (fun W1975 hW1975 => ?_)
            obtain ⟨g1979, hg1980, Kk1977, Hx1976, Hz1978, KV1981, HN1982⟩ := alloc1v KV1931.out hW1975
            rw [hg1980]
            clear hW1975
            have HR1983 := Lib.hid (q_row6 Hx1976.out Ga.out (HLa.out.later KV1981.out) Gc.out (HLc.out.later KV1981.out) Ge.out (HLe.out.later KV1981.out) Gr.out.2.2.2.1 (HLrx.out.later KV1981.out) Gr.out.2.2.2.2.1 (HLry.out.later KV1981.out) Gr.out.2.2.2.2.2 (HLrh.out.later KV1981.out) (par_newg HN1982.out (fun h => nomatch h)))
            clear hg1980
            (try clear hHeld)
            refine hK.out _ _ (sees_kept _ (kept_trans Kk1930.out Kk1977.out)) (fun hHeld => ?_)
            clear hK K
            (try simp only [Act.put, List.setIfInBounds_toArray, List.set_cons_zero, List.set_cons_succ])
            exact HJj87 W1975 g99 U111 a108 c109 g118 U1296 a1293 c1294 g1303 g1979 ⟨(kept_trans Kk1930.out Kk1977.out), HU111.out, HU1296.out, (HL1932.out.later Kk1977.out), (HL1933.out.later Kk1977.out), (HL1934.out.later Kk1977.out), HR1983.out⟩
          exact AllReadyH.nil
        · intro w1731 g99 U1738 a1735 c1736 g1384 g843 g435 g188 k1984
          obtain ⟨q1985, q1986, q1987, q1988, q1989, q1990, q1991⟩ := k1984
          have Kk1992 := Lib.hid q1985
          have KV1993 := Lib.hid (kept_trans (kept_trans Kk13.out (kept_trans Kk21.out (kept_trans Kk28.out (kept_trans Kk35.out Kk41.out)))) Kk1992.out)
          have HU1738 := Lib.hid q1986
          have HL1994 := Lib.hid q1987
          have HL1995 := Lib.hid q1988
          have HL1996 := Lib.hid q1989
          have HL1997 := Lib.hid q1990
          have HL1998 := Lib.hid q1991
          clear q1985 q1986 q1987 q1988 q1989 q1990 q1991
          have hHeld : Sees W38 (w.heap.size + 4) w1731 := sees_kept _ Kk1992.out
          refine wpAnyH_ready (rs := [14]) (by kernel_rfl) (by simp) ?_
          refine AllReadyH.cons (o := rcReflr3_14) rfl (fun K hK => ?_) ?_
          · unfold rcReflr3_14
            go_simp
            refine (rnode_any 20 [c, r.y, r.y] (Par w V0.heap.size [] P) _ _ (show I64 20 from by unfold I64; decide) HL1995.out (Nat.le_of_ble_eq_true rfl)).mono ?_
            obtain ⟨U2006, hU2006⟩ : ∃ qu, nodeT 20 [c, r.y, r.y] = qu := ⟨_, rfl⟩
            rw [hU2006]
            have HU2006 := Lib.hid hU2006
            clear hU2006
            rintro e w1999 ⟨s2001, rfl, hl2002, k2000⟩
            obtain ⟨a2003, c2004, S2005, rfl, -⟩ := hl2002.out
            have Kk2007 := Lib.hid k2000
            clear k2000
            have Hhl2002 : Hid (LiesQ w1999 (Par w V0.heap.size [] P) U2006.kids _) := par_give hl2002 (Below.size KV1993.out) (xlt_nil _)
            clear hl2002
            (try clear hHeld)
            refine hK.out _ _ (sees_kept _ (kept_trans Kk1992.out Kk2007.out)) (fun hHeld => ?_)
            clear hK K
            (try simp only [Act.put, List.setIfInBounds_toArray, List.set_cons_zero, List.set_cons_succ])
            exact HJj89 w1999 g99 U1738 a1735 c1736 g1384 U2006 a2003 c2004 g843 g435 g188 ⟨(kept_trans Kk1992.out Kk2007.out), HU1738.out, HU2006.out, (HL1994.out.later Kk2007.out), Hhl2002.out, (HL1996.out.later Kk2007.out), (HL1997.out.later Kk2007.out), (HL1998.out.later Kk2007.out)⟩
          exact AllReadyH.nil
        · intro w1776 g99 U1430 a1427 c1428 g833 U1783 a1780 c1781 g435 g188 k2008
          obtain ⟨q2009, q2010, q2011, q2012, q2013, q2014, q2015⟩ := k2008
          have Kk2016 := Lib.hid q2009
          have KV2017 := Lib.hid (kept_trans (kept_trans Kk13.out (kept_trans Kk21.out (kept_trans Kk28.out (kept_trans Kk35.out Kk41.out)))) Kk2016.out)
          have HU1430 := Lib.hid q2010
          have HU1783 := Lib.hid q2011
          have HL2018 := Lib.hid q2012
          have HL2019 := Lib.hid q2013
          have HL2020 := Lib.hid q2014
          have HL2021 := Lib.hid q2015
          clear q2009 q2010 q2011 q2012 q2013 q2014 q2015
          have hHeld : Sees W38 (w.heap.size + 4) w1776 := sees_kept _ Kk2016.out
          refine wpAnyH_ready (rs := [18]) (by kernel_rfl) (by simp) ?_
          refine AllReadyH.cons (o := rcReflr3_18) rfl (fun K hK => ?_) ?_
          · unfold rcReflr3_18
            go_simp
            refine at_K (fun W2023 hW2023 => ?_)
            obtain ⟨g2027, hg2028, Kk2025, Hx2024, Hz2026, KV2029, HN2030⟩ := alloc1v KV2017.out hW2023
            rw [hg2028]
            clear hW2023
            have HR2031 := Lib.hid (q_row2 Hx2024.out Ga.out (HLa.out.later KV2029.out) Gr.out.2.2.2.1 (HLrx.out.later KV2029.out) (par_newg HN2030.out (fun h => nomatch h)))
            clear hg2028
            (try clear hHeld)
            refine hK.out _ _ (sees_kept _ (kept_trans Kk2016.out Kk2025.out)) (fun hHeld => ?_)
            clear hK K
            (try simp only [Act.put, List.setIfInBounds_toArray, List.set_cons_zero, List.set_cons_succ])
            exact HJj89 W2023 g99 U1430 a1427 c1428 g833 U1783 a1780 c1781 g2027 g435 g188 ⟨(kept_trans Kk2016.out Kk2025.out), HU1430.out, HU1783.out, (HL2018.out.later Kk2025.out), (HL2019.out.later Kk2025.out), HR2031.out, (HL2020.out.later Kk2025.out), (HL2021.out.later Kk2025.out)⟩
          exact AllReadyH.nil
        · intro w1808 g99 U1492 a1489 c1490 g932 U1815 a1812 c1813 g425 g188 k2032
          obtain ⟨q2033, q2034, q2035, q2036, q2037, q2038, q2039⟩ := k2032
          have Kk2040 := Lib.hid q2033
          have KV2041 := Lib.hid (kept_trans (kept_trans Kk13.out (kept_trans Kk21.out (kept_trans Kk28.out (kept_trans Kk35.out Kk41.out)))) Kk2040.out)
          have HU1492 := Lib.hid q2034
          have HU1815 := Lib.hid q2035
          have HL2042 := Lib.hid q2036
          have HL2043 := Lib.hid q2037
          have HL2044 := Lib.hid q2038
          have HL2045 := Lib.hid q2039
          clear q2033 q2034 q2035 q2036 q2037 q2038 q2039
          have hHeld : Sees W38 (w.heap.size + 4) w1808 := sees_kept _ Kk2040.out
          refine wpAnyH_ready (rs := [19, 23]) (by kernel_rfl) (by simp) ?_
          refine AllReadyH.cons (o := rcReflr3_19) rfl (fun K hK => ?_) ?_
          · unfold rcReflr3_19
            go_simp
            refine (rnode_any 21 [a, r.x] (Par w V0.heap.size [] P) _ _ (show I64 21 from by unfold I64; decide) HL2044.out (Nat.le_of_ble_eq_true rfl)).mono ?_
            obtain ⟨U2053, hU2053⟩ : ∃ qu, nodeT 21 [a, r.x] = qu := ⟨_, rfl⟩
            rw [hU2053]
            have HU2053 := Lib.hid hU2053
            clear hU2053
            rintro e w2046 ⟨s2048, rfl, hl2049, k2047⟩
            obtain ⟨a2050, c2051, S2052, rfl, -⟩ := hl2049.out
            have Kk2054 := Lib.hid k2047
            clear k2047
            have Hhl2049 : Hid (LiesQ w2046 (Par w V0.heap.size [] P) U2053.kids _) := par_give hl2049 (Below.size KV2041.out) (xlt_nil _)
            clear hl2049
            (try clear hHeld)
            refine hK.out _ _ (sees_kept _ (kept_trans Kk2040.out Kk2054.out)) (fun hHeld => ?_)
            clear hK K
            (try simp only [Act.put, List.setIfInBounds_toArray, List.set_cons_zero, List.set_cons_succ])
            exact HJj90 w2046 g99 U1492 a1489 c1490 g932 U1815 a1812 c1813 g425 U2053 a2050 c2051 g188 ⟨(kept_trans Kk2040.out Kk2054.out), HU1492.out, HU1815.out, HU2053.out, (HL2042.out.later Kk2054.out), (HL2043.out.later Kk2054.out), Hhl2049.out, (HL2045.out.later Kk2054.out)⟩
          refine AllReadyH.cons (o := rcReflr3_23) rfl (fun K hK => ?_) ?_
          · unfold rcReflr3_23
            go_simp
            refine at_K (fun W2056 hW2056 => ?_)
            obtain ⟨g2060, hg2061, Kk2058, Hx2057, Hz2059, KV2062, HN2063⟩ := alloc1v KV2041.out hW2056
            rw [hg2061]
            clear hW2056
            have HR2064 := Lib.hid (q_row2 Hx2057.out Gc.out (HLc.out.later KV2062.out) Gr.out.2.2.2.2.1 (HLry.out.later KV2062.out) (par_newg HN2063.out (fun h => nomatch h)))
            clear hg2061
            (try clear hHeld)
            refine hK.out _ _ (sees_kept _ (kept_trans Kk2040.out Kk2058.out)) (fun hHeld => ?_)
            clear hK K
            (try simp only [Act.put, List.setIfInBounds_toArray, List.set_cons_zero, List.set_cons_succ])
            exact HJj89 W2056 g99 U1492 a1489 c1490 g932 U1815 a1812 c1813 g425 g2060 g188 ⟨(kept_trans Kk2040.out Kk2058.out), HU1492.out, HU1815.out, (HL2042.out.later Kk2058.out), (HL2043.out.later Kk2058.out), (HL2044.out.later Kk2058.out), HR2064.out, (HL2045.out.later Kk2058.out)⟩
          exact AllReadyH.nil
        · intro w1872 g99 U1594 a1591 c1592 g1079 U1879 a1876 c1877 g586 g178 k2065
          obtain ⟨q2066, q2067, q2068, q2069, q2070, q2071, q2072⟩ := k2065
          have Kk2073 := Lib.hid q2066
          have KV2074 := Lib.hid (kept_trans (kept_trans Kk13.out (kept_trans Kk21.out (kept_trans Kk28.out (kept_trans Kk35.out Kk41.out)))) Kk2073.out)
          have HU1594 := Lib.hid q2067
          have HU1879 := Lib.hid q2068
          have HL2075 := Lib.hid q2069
          have HL2076 := Lib.hid q2070
          have HL2077 := Lib.hid q2071
          have HL2078 := Lib.hid q2072
          clear q2066 q2067 q2068 q2069 q2070 q2071 q2072
          have hHeld : Sees W38 (w.heap.size + 4) w1872 := sees_kept _ Kk2073.out
          refine wpAnyH_ready (rs := [19, 35]) (by kernel_rfl) (by simp) ?_
          refine AllReadyH.cons (o := rcReflr3_19) rfl (fun K hK => ?_) ?_
          · unfold rcReflr3_19
            go_simp
            refine (rnode_any 21 [a, r.x] (Par w V0.heap.size [] P) _ _ (show I64 21 from by unfold I64; decide) HL2077.out (Nat.le_of_ble_eq_true rfl)).mono ?_
            obtain ⟨U2086, hU2086⟩ : ∃ qu, nodeT 21 [a, r.x] = qu := ⟨_, rfl⟩
            rw [hU2086]
            have HU2086 := Lib.hid hU2086
            clear hU2086
            rintro e w2079 ⟨s2081, rfl, hl2082, k2080⟩
            obtain ⟨a2083, c2084, S2085, rfl, -⟩ := hl2082.out
            have Kk2087 := Lib.hid k2080
            clear k2080
            have Hhl2082 : Hid (LiesQ w2079 (Par w V0.heap.size [] P) U2086.kids _) := par_give hl2082 (Below.size KV2074.out) (xlt_nil _)
            clear hl2082
            (try clear hHeld)
            refine hK.out _ _ (sees_kept _ (kept_trans Kk2073.out Kk2087.out)) (fun hHeld => ?_)
            clear hK K
            (try simp only [Act.put, List.setIfInBounds_toArray, List.set_cons_zero, List.set_cons_succ])
            exact HJj91 w2079 g99 U1594 a1591 c1592 g1079 U1879 a1876 c1877 g586 U2086 a2083 c2084 g178 ⟨(kept_trans Kk2073.out Kk2087.out), HU1594.out, HU1879.out, HU2086.out, (HL2075.out.later Kk2087.out), (HL2076.out.later Kk2087.out), Hhl2082.out, (HL2078.out.later Kk2087.out)⟩
          refine AllReadyH.cons (o := rcReflr3_35) rfl (fun K hK => ?_) ?_
          · unfold rcReflr3_35
            go_simp
            refine at_K (fun W2089 hW2089 => ?_)
            obtain ⟨g2093, hg2094, Kk2091, Hx2090, Hz2092, KV2095, HN2096⟩ := alloc1v KV2074.out hW2089
            rw [hg2094]
            clear hW2089
            have HR2097 := Lib.hid (q_row6 Hx2090.out Ga.out (HLa.out.later KV2095.out) Gc.out (HLc.out.later KV2095.out) Ge.out (HLe.out.later KV2095.out) Gr.out.2.2.2.1 (HLrx.out.later KV2095.out) Gr.out.2.2.2.2.1 (HLry.out.later KV2095.out) Gr.out.2.2.2.2.2 (HLrh.out.later KV2095.out) (par_newg HN2096.out (fun h => nomatch h)))
            clear hg2094
            (try clear hHeld)
            refine hK.out _ _ (sees_kept _ (kept_trans Kk2073.out Kk2091.out)) (fun hHeld => ?_)
            clear hK K
            (try simp only [Act.put, List.setIfInBounds_toArray, List.set_cons_zero, List.set_cons_succ])
            exact HJj89 W2089 g99 U1594 a1591 c1592 g1079 U1879 a1876 c1877 g586 g178 g2093 ⟨(kept_trans Kk2073.out Kk2091.out), HU1594.out, HU1879.out, (HL2075.out.later Kk2091.out), (HL2076.out.later Kk2091.out), (HL2077.out.later Kk2091.out), (HL2078.out.later Kk2091.out), HR2097.out⟩
          exact AllReadyH.nil
        · intro w1999 g99 U1738 a1735 c1736 g1384 U2006 a2003 c2004 g843 g435 g188 k2098
          obtain ⟨q2099, q2100, q2101, q2102, q2103, q2104, q2105, q2106⟩ := k2098
          have Kk2107 := Lib.hid q2099
          have KV2108 := Lib.hid (kept_trans (kept_trans Kk13.out (kept_trans Kk21.out (kept_trans Kk28.out (kept_trans Kk35.out Kk41.out)))) Kk2107.out)
          have HU1738 := Lib.hid q2100
          have HU2006 := Lib.hid q2101
          have HL2109 := Lib.hid q2102
          have HL2110 := Lib.hid q2103
          have HL2111 := Lib.hid q2104
          have HL2112 := Lib.hid q2105
          have HL2113 := Lib.hid q2106
          clear q2099 q2100 q2101 q2102 q2103 q2104 q2105 q2106
          have hHeld : Sees W38 (w.heap.size + 4) w1999 := sees_kept _ Kk2107.out
          refine wpAnyH_ready (rs := [19]) (by kernel_rfl) (by simp) ?_
          refine AllReadyH.cons (o := rcReflr3_19) rfl (fun K hK => ?_) ?_
          · unfold rcReflr3_19
            go_simp
            refine (rnode_any 21 [a, r.x] (Par w V0.heap.size [] P) _ _ (show I64 21 from by unfold I64; decide) HL2111.out (Nat.le_of_ble_eq_true rfl)).mono ?_
            obtain ⟨U2121, hU2121⟩ : ∃ qu, nodeT 21 [a, r.x] = qu := ⟨_, rfl⟩
            rw [hU2121]
            have HU2121 := Lib.hid hU2121
            clear hU2121
            rintro e w2114 ⟨s2116, rfl, hl2117, k2115⟩
            obtain ⟨a2118, c2119, S2120, rfl, -⟩ := hl2117.out
            have Kk2122 := Lib.hid k2115
            clear k2115
            have Hhl2117 : Hid (LiesQ w2114 (Par w V0.heap.size [] P) U2121.kids _) := par_give hl2117 (Below.size KV2108.out) (xlt_nil _)
            clear hl2117
            (try clear hHeld)
            refine hK.out _ _ (sees_kept _ (kept_trans Kk2107.out Kk2122.out)) (fun hHeld => ?_)
            clear hK K
            (try simp only [Act.put, List.setIfInBounds_toArray, List.set_cons_zero, List.set_cons_succ])
            exact HJj92 w2114 g99 U1738 a1735 c1736 g1384 U2006 a2003 c2004 g843 U2121 a2118 c2119 g435 g188 ⟨(kept_trans Kk2107.out Kk2122.out), HU1738.out, HU2006.out, HU2121.out, (HL2109.out.later Kk2122.out), (HL2110.out.later Kk2122.out), Hhl2117.out, (HL2112.out.later Kk2122.out), (HL2113.out.later Kk2122.out)⟩
          exact AllReadyH.nil
        · intro W1955 g99 U111 a108 c109 g118 U1296 a1293 c1294 g1303 U1942 a1939 c1940 g1959 k2123
          obtain ⟨q2124, q2125, q2126, q2127, q2128, q2129, q2130, q2131⟩ := k2123
          have Kk2132 := Lib.hid q2124
          have KV2133 := Lib.hid (kept_trans (kept_trans Kk13.out (kept_trans Kk21.out (kept_trans Kk28.out (kept_trans Kk35.out Kk41.out)))) Kk2132.out)
          have HU111 := Lib.hid q2125
          have HU1296 := Lib.hid q2126
          have HU1942 := Lib.hid q2127
          have HL2134 := Lib.hid q2128
          have HL2135 := Lib.hid q2129
          have HL2136 := Lib.hid q2130
          have HL2137 := Lib.hid q2131
          clear q2124 q2125 q2126 q2127 q2128 q2129 q2130 q2131
          have hHeld : Sees W38 (w.heap.size + 4) W1955 := sees_kept _ Kk2132.out
          refine wpAnyH_ready (rs := [23]) (by kernel_rfl) (by simp) ?_
          refine AllReadyH.cons (o := rcReflr3_23) rfl (fun K hK => ?_) ?_
          · unfold rcReflr3_23
            go_simp
            refine at_K (fun W2139 hW2139 => ?_)
            obtain ⟨g2143, hg2144, Kk2141, Hx2140, Hz2142, KV2145, HN2146⟩ := alloc1v KV2133.out hW2139
            rw [hg2144]
            clear hW2139
            have HR2147 := Lib.hid (q_row2 Hx2140.out Gc.out (HLc.out.later KV2145.out) Gr.out.2.2.2.2.1 (HLry.out.later KV2145.out) (par_newg HN2146.out (fun h => nomatch h)))
            clear hg2144
            (try clear hHeld)
            refine hK.out _ _ (sees_kept _ (kept_trans Kk2132.out Kk2141.out)) (fun hHeld => ?_)
            clear hK K
            (try simp only [Act.put, List.setIfInBounds_toArray, List.set_cons_zero, List.set_cons_succ])
            exact HJj92 W2139 g99 U111 a108 c109 g118 U1296 a1293 c1294 g1303 U1942 a1939 c1940 g2143 g1959 ⟨(kept_trans Kk2132.out Kk2141.out), HU111.out, HU1296.out, HU1942.out, (HL2134.out.later Kk2141.out), (HL2135.out.later Kk2141.out), (HL2136.out.later Kk2141.out), HR2147.out, (HL2137.out.later Kk2141.out)⟩
          exact AllReadyH.nil
        · intro W1945 g99 U111 a108 c109 g118 U1296 a1293 c1294 g1303 U1942 a1939 c1940 g1949 k2148
          obtain ⟨q2149, q2150, q2151, q2152, q2153, q2154, q2155, q2156⟩ := k2148
          have Kk2157 := Lib.hid q2149
          have KV2158 := Lib.hid (kept_trans (kept_trans Kk13.out (kept_trans Kk21.out (kept_trans Kk28.out (kept_trans Kk35.out Kk41.out)))) Kk2157.out)
          have HU111 := Lib.hid q2150
          have HU1296 := Lib.hid q2151
          have HU1942 := Lib.hid q2152
          have HL2159 := Lib.hid q2153
          have HL2160 := Lib.hid q2154
          have HL2161 := Lib.hid q2155
          have HL2162 := Lib.hid q2156
          clear q2149 q2150 q2151 q2152 q2153 q2154 q2155 q2156
          have hHeld : Sees W38 (w.heap.size + 4) W1945 := sees_kept _ Kk2157.out
          refine wpAnyH_ready (rs := [24, 35]) (by kernel_rfl) (by simp) ?_
          refine AllReadyH.cons (o := rcReflr3_24) rfl (fun K hK => ?_) ?_
          · unfold rcReflr3_24
            go_simp
            refine (rnode_any 21 [c, r.y] (Par w V0.heap.size [] P) _ _ (show I64 21 from by unfold I64; decide) HL2162.out (Nat.le_of_ble_eq_true rfl)).mono ?_
            obtain ⟨U2170, hU2170⟩ : ∃ qu, nodeT 21 [c, r.y] = qu := ⟨_, rfl⟩
            rw [hU2170]
            have HU2170 := Lib.hid hU2170
            clear hU2170
            rintro e w2163 ⟨s2165, rfl, hl2166, k2164⟩
            obtain ⟨a2167, c2168, S2169, rfl, -⟩ := hl2166.out
            have Kk2171 := Lib.hid k2164
            clear k2164
            have Hhl2166 : Hid (LiesQ w2163 (Par w V0.heap.size [] P) U2170.kids _) := par_give hl2166 (Below.size KV2158.out) (xlt_nil _)
            clear hl2166
            (try clear hHeld)
            refine hK.out _ _ (sees_kept _ (kept_trans Kk2157.out Kk2171.out)) (fun hHeld => ?_)
            clear hK K
            (try simp only [Act.put, List.setIfInBounds_toArray, List.set_cons_zero, List.set_cons_succ])
            refine wpAnyH_ready (rs := [35]) (by kernel_rfl) (by simp) ?_
            refine AllReadyH.cons (o := rcReflr3_35) rfl (fun K hK => ?_) ?_
            · unfold rcReflr3_35
              go_simp
              refine at_K (fun W2173 hW2173 => ?_)
              obtain ⟨g2177, hg2178, Kk2175, Hx2174, Hz2176, KV2179, HN2180⟩ := alloc1v (kept_trans Kk13.out (kept_trans Kk21.out (kept_trans Kk28.out (kept_trans Kk35.out (kept_trans Kk41.out (kept_trans Kk2157.out Kk2171.out)))))) hW2173
              rw [hg2178]
              clear hW2173
              have HR2181 := Lib.hid (q_row6 Hx2174.out Ga.out (HLa.out.later KV2179.out) Gc.out (HLc.out.later KV2179.out) Ge.out (HLe.out.later KV2179.out) Gr.out.2.2.2.1 (HLrx.out.later KV2179.out) Gr.out.2.2.2.2.1 (HLry.out.later KV2179.out) Gr.out.2.2.2.2.2 (HLrh.out.later KV2179.out) (par_newg HN2180.out (fun h => nomatch h)))
              clear hg2178
              (try clear hHeld)
              refine hK.out _ _ (sees_kept _ (kept_trans Kk2157.out (kept_trans Kk2171.out Kk2175.out))) (fun hHeld => ?_)
              clear hK K
              (try simp only [Act.put, List.setIfInBounds_toArray, List.set_cons_zero, List.set_cons_succ])
              exact HJj93 W2173 g99 U111 a108 c109 g118 U1296 a1293 c1294 g1303 U1942 a1939 c1940 g1949 U2170 a2167 c2168 g2177 ⟨(kept_trans Kk2157.out (kept_trans Kk2171.out Kk2175.out)), HU111.out, HU1296.out, HU1942.out, HU2170.out, (HL2159.out.later (kept_trans Kk2171.out Kk2175.out)), (HL2160.out.later (kept_trans Kk2171.out Kk2175.out)), (HL2161.out.later (kept_trans Kk2171.out Kk2175.out)), (Hhl2166.out.later Kk2175.out), HR2181.out⟩
            exact AllReadyH.nil
          refine AllReadyH.cons (o := rcReflr3_35) rfl (fun K hK => ?_) ?_
          · unfold rcReflr3_35
            go_simp
            refine at_K (fun W2183 hW2183 => ?_)
            obtain ⟨g2187, hg2188, Kk2185, Hx2184, Hz2186, KV2189, HN2190⟩ := alloc1v KV2158.out hW2183
            rw [hg2188]
            clear hW2183
            have HR2191 := Lib.hid (q_row6 Hx2184.out Ga.out (HLa.out.later KV2189.out) Gc.out (HLc.out.later KV2189.out) Ge.out (HLe.out.later KV2189.out) Gr.out.2.2.2.1 (HLrx.out.later KV2189.out) Gr.out.2.2.2.2.1 (HLry.out.later KV2189.out) Gr.out.2.2.2.2.2 (HLrh.out.later KV2189.out) (par_newg HN2190.out (fun h => nomatch h)))
            clear hg2188
            (try clear hHeld)
            refine hK.out _ _ (sees_kept _ (kept_trans Kk2157.out Kk2185.out)) (fun hHeld => ?_)
            clear hK K
            (try simp only [Act.put, List.setIfInBounds_toArray, List.set_cons_zero, List.set_cons_succ])
            exact HJj92 W2183 g99 U111 a108 c109 g118 U1296 a1293 c1294 g1303 U1942 a1939 c1940 g1949 g2187 ⟨(kept_trans Kk2157.out Kk2185.out), HU111.out, HU1296.out, HU1942.out, (HL2159.out.later Kk2185.out), (HL2160.out.later Kk2185.out), (HL2161.out.later Kk2185.out), (HL2162.out.later Kk2185.out), HR2191.out⟩
          exact AllReadyH.nil
        · intro w2114 g99 U1738 a1735 c1736 g1384 U2006 a2003 c2004 g843 U2121 a2118 c2119 g435 g188 k2192
          obtain ⟨q2193, q2194, q2195, q2196, q2197, q2198, q2199, q2200, q2201⟩ := k2192
          have Kk2202 := Lib.hid q2193
          have KV2203 := Lib.hid (kept_trans (kept_trans Kk13.out (kept_trans Kk21.out (kept_trans Kk28.out (kept_trans Kk35.out Kk41.out)))) Kk2202.out)
          have HU1738 := Lib.hid q2194
          have HU2006 := Lib.hid q2195
          have HU2121 := Lib.hid q2196
          have HL2204 := Lib.hid q2197
          have HL2205 := Lib.hid q2198
          have HL2206 := Lib.hid q2199
          have HL2207 := Lib.hid q2200
          have HL2208 := Lib.hid q2201
          clear q2193 q2194 q2195 q2196 q2197 q2198 q2199 q2200 q2201
          have hHeld : Sees W38 (w.heap.size + 4) w2114 := sees_kept _ Kk2202.out
          refine wpAnyH_ready (rs := [24]) (by kernel_rfl) (by simp) ?_
          refine AllReadyH.cons (o := rcReflr3_24) rfl (fun K hK => ?_) ?_
          · unfold rcReflr3_24
            go_simp
            refine (rnode_any 21 [c, r.y] (Par w V0.heap.size [] P) _ _ (show I64 21 from by unfold I64; decide) HL2207.out (Nat.le_of_ble_eq_true rfl)).mono ?_
            obtain ⟨U2216, hU2216⟩ : ∃ qu, nodeT 21 [c, r.y] = qu := ⟨_, rfl⟩
            rw [hU2216]
            have HU2216 := Lib.hid hU2216
            clear hU2216
            rintro e w2209 ⟨s2211, rfl, hl2212, k2210⟩
            obtain ⟨a2213, c2214, S2215, rfl, -⟩ := hl2212.out
            have Kk2217 := Lib.hid k2210
            clear k2210
            have Hhl2212 : Hid (LiesQ w2209 (Par w V0.heap.size [] P) U2216.kids _) := par_give hl2212 (Below.size KV2203.out) (xlt_nil _)
            clear hl2212
            (try clear hHeld)
            refine hK.out _ _ (sees_kept _ (kept_trans Kk2202.out Kk2217.out)) (fun hHeld => ?_)
            clear hK K
            (try simp only [Act.put, List.setIfInBounds_toArray, List.set_cons_zero, List.set_cons_succ])
            exact HJj93 w2209 g99 U1738 a1735 c1736 g1384 U2006 a2003 c2004 g843 U2121 a2118 c2119 g435 U2216 a2213 c2214 g188 ⟨(kept_trans Kk2202.out Kk2217.out), HU1738.out, HU2006.out, HU2121.out, HU2216.out, (HL2204.out.later Kk2217.out), (HL2205.out.later Kk2217.out), (HL2206.out.later Kk2217.out), Hhl2212.out, (HL2208.out.later Kk2217.out)⟩
          exact AllReadyH.nil
        · intro W2173 g99 U111 a108 c109 g118 U1296 a1293 c1294 g1303 U1942 a1939 c1940 g1949 U2170 a2167 c2168 g2177 k2218
          obtain ⟨q2219, q2220, q2221, q2222, q2223, q2224, q2225, q2226, q2227, q2228⟩ := k2218
          have Kk2229 := Lib.hid q2219
          have KV2230 := Lib.hid (kept_trans (kept_trans Kk13.out (kept_trans Kk21.out (kept_trans Kk28.out (kept_trans Kk35.out Kk41.out)))) Kk2229.out)
          have HU111 := Lib.hid q2220
          have HU1296 := Lib.hid q2221
          have HU1942 := Lib.hid q2222
          have HU2170 := Lib.hid q2223
          have HL2231 := Lib.hid q2224
          have HL2232 := Lib.hid q2225
          have HL2233 := Lib.hid q2226
          have HL2234 := Lib.hid q2227
          have HL2235 := Lib.hid q2228
          clear q2219 q2220 q2221 q2222 q2223 q2224 q2225 q2226 q2227 q2228
          have hHeld : Sees W38 (w.heap.size + 4) W2173 := sees_kept _ Kk2229.out
          refine wpAnyH_ready (rs := [36]) (by kernel_rfl) (by simp) ?_
          refine AllReadyH.cons (o := rcReflr3_36) rfl (fun K hK => ?_) ?_
          · unfold rcReflr3_36
            go_simp
            refine (ruse_any 21 i 0 [a, c, e, r.x, r.y, r.h] (Par w V0.heap.size [] P) _ _ (show I64 21 from by unfold I64; decide) Ri.out (show I64 0 from by unfold I64; decide) HL2235.out (Nat.le_of_ble_eq_true rfl)).mono ?_
            obtain ⟨U2243, hU2243⟩ : ∃ qu, useT 21 i 0 [a, c, e, r.x, r.y, r.h] = qu := ⟨_, rfl⟩
            rw [hU2243]
            have HU2243 := Lib.hid hU2243
            clear hU2243
            rintro e w2236 ⟨s2238, rfl, hl2239, k2237⟩
            obtain ⟨a2240, c2241, S2242, rfl, -⟩ := hl2239.out
            have Kk2244 := Lib.hid k2237
            clear k2237
            have Hhl2239 : Hid (LiesQ w2236 (Par w V0.heap.size [] P) U2243.kids _) := par_give hl2239 (Below.size KV2230.out) (xlt_nil _)
            clear hl2239
            clear hHeld
            refine hK.out _ _ (sees_kept _ (kept_trans Kk2229.out Kk2244.out)) (fun hHeld => ?_)
            clear hK K
            (try simp only [Act.put, List.setIfInBounds_toArray, List.set_cons_zero, List.set_cons_succ])
            refine take_at 37 65 rcReflr3_37 (v := ?_) (Or.inl ⟨by rfl, ?_⟩) ?_
            rotate_left 1
            · ((intro w hSw; (try dsimp only at hSw); unfold rcReflr3_37; go_simp) <;> with_reducible rfl)
            (try simp only [Act.put, List.setIfInBounds_toArray, List.set_cons_zero, List.set_cons_succ])
            refine wpAnyH_ready (rs := [38]) (by kernel_rfl) (by simp) ?_
            refine AllReadyH.cons (o := rcReflr3_38) rfl (fun K hK => ?_) ?_
            · unfold rcReflr3_38
              refine step_store_part rfl 45 (.tmp 10) (.tmp 65) rfl (w.heap.size + 4) 0 #[.int .i64 i, .int .i64 U111.k, .int .i64 U111.i, .int .i64 U111.j, .int .i64 U111.n, (.slice a108 U111.kids.length c109), .int .i64 U1296.k, .int .i64 U1296.i, .int .i64 U1296.j, .int .i64 U1296.n, (.slice a1293 U1296.kids.length c1294), .int .i64 U1942.k, .int .i64 U1942.i, .int .i64 U1942.j, .int .i64 U1942.n, (.slice a1939 U1942.kids.length c1940), .int .i64 U2170.k, .int .i64 U2170.i, .int .i64 U2170.j, .int .i64 U2170.n, (.slice a2167 U2170.kids.length c2168), .int .i64 U2243.k, .int .i64 U2243.i, .int .i64 U2243.j, .int .i64 U2243.n, (.slice a2240 U2243.kids.length c2241)] rfl rfl 45 (by kernel_rfl) (row_ok rfl) _ #[.int .i64 i, .int .i64 U111.k, .int .i64 U111.i, .int .i64 U111.j, .int .i64 U111.n, (.slice a108 U111.kids.length c109), .int .i64 U1296.k, .int .i64 U1296.i, .int .i64 U1296.j, .int .i64 U1296.n, (.slice a1293 U1296.kids.length c1294), .int .i64 U1942.k, .int .i64 U1942.i, .int .i64 U1942.j, .int .i64 U1942.n, (.slice a1939 U1942.kids.length c1940), .int .i64 U2170.k, .int .i64 U2170.i, .int .i64 U2170.j, .int .i64 U2170.n, (.slice a2167 U2170.kids.length c2168), .int .i64 U2243.k, .int .i64 U2243.i, .int .i64 U2243.j, .int .i64 U2243.n, (.slice a2240 U2243.kids.length c2241)] (blk_at Hx5.out (kept_trans Kk13.out (kept_trans Kk21.out (kept_trans Kk28.out (kept_trans Kk35.out (kept_trans Kk41.out (kept_trans Kk2229.out Kk2244.out))))))) rfl (Nat.le_of_ble_eq_true rfl) ?_
              intro W2245 hW2245
              clear hHeld
              refine hK.out _ _ (sees_set (kept_trans Kk2229.out Kk2244.out) hW2245) (fun hHeld => ?_)
              clear hK K
              (try simp only [Act.put])
              refine wpAnyH_done (by kernel_rfl) ?_ _
              clear hHeld
              go_wp2_with fail
              refine bodyPost_ret (results_cell_row rfl _ _ (w.heap.size + 4) 45 _ _ dr rfl (blk_same (blk_at Hx5.out (kept_trans Kk13.out (kept_trans Kk21.out (kept_trans Kk28.out (kept_trans Kk35.out (kept_trans Kk41.out (kept_trans Kk2229.out Kk2244.out))))))) hW2245) dr1 (by cases dr <;> first | rfl | exact dr2) (by kernel_rfl)) rfl ?_
              rw [show cgRefl i a c e r = (⟨i, U111, U1296, U1942, U2170, U2243⟩ : He) from by unfold cgRefl; rw [Hhb11.out, Hhb26.out, Hhb33.out]; rw [← HU2243.out]; rw [← HU2170.out]; rw [← HU1942.out]; rw [← HU1296.out]; rw [← HU111.out]; (try first | rfl | simp)]
              exact ⟨_, _, _, _, _, rfl, ⟨par_end (par_row' (HL2231.out.later Kk2244.out) hW2245 (by omega) (by have := Z0.out; omega)) (by have := Z0.out; omega), par_end (par_row' (HL2232.out.later Kk2244.out) hW2245 (by omega) (by have := Z0.out; omega)) (by have := Z0.out; omega), par_end (par_row' (HL2233.out.later Kk2244.out) hW2245 (by omega) (by have := Z0.out; omega)) (by have := Z0.out; omega), par_end (par_row' (HL2234.out.later Kk2244.out) hW2245 (by omega) (by have := Z0.out; omega)) (by have := Z0.out; omega), par_end (par_row' Hhl2239.out hW2245 (by omega) (by have := Z0.out; omega)) (by have := Z0.out; omega)⟩, kept_set (kept_trans Kk8.out (kept_trans Kk13.out (kept_trans Kk21.out (kept_trans Kk28.out (kept_trans Kk35.out (kept_trans Kk41.out (kept_trans Kk2229.out Kk2244.out))))))) hW2245 (by omega)⟩
            exact AllReadyH.nil
          exact AllReadyH.nil

end Go.Proofs.Ytkdceahmknhojaa
