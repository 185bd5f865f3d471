/-
  RuleLevels holds: for every input the call returns true, and the arguments read as before. No condition.
-/
import Derived.Test.YtjlppnmckobcfaaRows
import Derived.WalkKit
import Derived.Lib.Hide
import Derived.KernelRfl
import Derived.Deep.RegionWith
import Derived.Deep.RegionHeld3
import Derived.Deep.AppendLies
import Derived.Laws.Rows
import Derived.Laws.IdiomCopy
import Derived.Deep.Slices
import Derived.Deep.QuietTactic
import Derived.BigQuiet
import Derived.Lib.QuietBelow
import Derived.StillTailTactics
import Derived.IntWalk
import Derived.OwnWalk
import Derived.OrdersHeld
import Derived.Deep.DeepCutAuto
import Derived.Deep.RegionLaw
import Derived.Deep.LoopGhost
import Derived.Deep.MidRow
import Derived.Laws.Tables
import Derived.Laws.CopyOwn
import Derived.Laws.CopyRow
import Derived.Deep.RegionHeld
import Derived.ProofKit
import Derived.OpenShut
import Derived.Carry
import Derived.ChangeSlices
import Derived.JoinedOf
import Derived.Test.YtjlppnmckobcfaaRuleLevelsQ8
namespace Go.Proofs.Ytjlppnmckobcfaa
open Go.RowKit
set_option maxRecDepth 20000 in
set_option maxHeartbeats 4000000 in
theorem levels2n_any (c : List En) (more : List Jd) (p : Jd) (q : Jd) (P : Nat → Prop) (w : World) (sc : Value) (bon oon capon : Nat) (Con : Array Value) (Ton : TypeId) (fron : Nat × Nat) (spu : Value) (spv : Value) (spx : Value) (squ : Value) (sqv : Value) (sqx : Value) (smore : Value) (hlc : LiesE w c sc) (hfp : p.fine) (hfq : q.fine) (hlpu : LiesQ w P p.u.kids spu) (hlpv : LiesQ w P p.v.kids spv) (hlpx : LiesQ w P p.a.kids spx) (hlqu : LiesQ w P q.u.kids squ) (hlqv : LiesQ w P q.v.kids sqv) (hlqx : LiesQ w P q.a.kids sqx) (hbon : w.heap[bon]? = some (.cells Con Ton fron)) (hson0 : (Con.toList.drop oon).take 17 = [.bool p.eq, .int .i64 p.u.k, .int .i64 p.u.i, .int .i64 p.u.j, .int .i64 p.u.n, spu, .int .i64 p.v.k, .int .i64 p.v.i, .int .i64 p.v.j, .int .i64 p.v.n, spv, .int .i64 p.a.k, .int .i64 p.a.i, .int .i64 p.a.j, .int .i64 p.a.n, spx, .int .i64 p.i]) (hson1 : (Con.toList.drop (oon + 17)).take 17 = [.bool q.eq, .int .i64 q.u.k, .int .i64 q.u.i, .int .i64 q.u.j, .int .i64 q.u.n, squ, .int .i64 q.v.k, .int .i64 q.v.i, .int .i64 q.v.j, .int .i64 q.v.n, sqv, .int .i64 q.a.k, .int .i64 q.a.i, .int .i64 q.a.j, .int .i64 q.a.n, sqx, .int .i64 q.i]) (hlmore : LiesJ w more smore) (hcon : 2 ≤ capon) (hmon : capon ≤ maxLen) (hnemore : more.length ≠ 2) : Calls Try.prog 6 #[sc, .slice (some ⟨bon, oon, none⟩) 2 capon, smore] w fun e w' => e = .returned (.bool true) ∧ Kept w w' := by
  have HEc := Lib.hid hlc
  obtain ⟨ac, cc, Sc, rfl, -⟩ := hlc.out
  clear hlc
  have Gp := Lib.hid hfp
  clear hfp
  have Gq := Lib.hid hfq
  clear hfq
  obtain ⟨apu, cpu, Spu, rfl, -⟩ := hlpu.out
  obtain ⟨apv, cpv, Spv, rfl, -⟩ := hlpv.out
  obtain ⟨apx, cpx, Spx, rfl, -⟩ := hlpx.out
  obtain ⟨aqu, cqu, Squ, rfl, -⟩ := hlqu.out
  obtain ⟨aqv, cqv, Sqv, rfl, -⟩ := hlqv.out
  obtain ⟨aqx, cqx, Sqx, rfl, -⟩ := hlqx.out
  have HNon : Hid (bon < w.heap.size) := block_lt hbon
  have HBon := Lib.hid hbon
  have HSon0 := Lib.hid hson0
  have HSon1 := Lib.hid hson1
  clear hbon hson0 hson1
  have HEmore := Lib.hid hlmore
  obtain ⟨amore, cmore, Smore, rfl, -⟩ := hlmore.out
  clear hlmore
  have HCon := Lib.hid hcon
  have HMon := Lib.hid hmon
  clear hcon hmon
  have HNEmore := Lib.hid hnemore
  clear hnemore
  obtain ⟨dj, dj1, dj2⟩ := under_of 34 (by kernel_rfl)
  obtain ⟨du, hu1, hu2⟩ := under_term
  go_enter Try.func6, Try.ntmps6
  go_upto_region 1 with fail
  refine at_code (fun V0 hV0 => ?_)
  have k1 : Kept w V0 := by rw [← hV0]; exact kept_refl _
  have Z0 : Hid (V0.heap.size = w.heap.size + 0) := by show _ = _; rw [← hV0]; rfl
  clear hV0
  have Kk3 := Lib.hid k1
  clear k1
  have HLpu : Hid (LiesQ V0 (Par w V0.heap.size [] P) p.u.kids _) := (par_in _ _ hlpu).later Kk3.out
  clear hlpu
  have HLpv : Hid (LiesQ V0 (Par w V0.heap.size [] P) p.v.kids _) := (par_in _ _ hlpv).later Kk3.out
  clear hlpv
  have HLpx : Hid (LiesQ V0 (Par w V0.heap.size [] P) p.a.kids _) := (par_in _ _ hlpx).later Kk3.out
  clear hlpx
  have HLqu : Hid (LiesQ V0 (Par w V0.heap.size [] P) q.u.kids _) := (par_in _ _ hlqu).later Kk3.out
  clear hlqu
  have HLqv : Hid (LiesQ V0 (Par w V0.heap.size [] P) q.v.kids _) := (par_in _ _ hlqv).later Kk3.out
  clear hlqv
  have HLqx : Hid (LiesQ V0 (Par w V0.heap.size [] P) q.a.kids _) := (par_in _ _ hlqx).later Kk3.out
  clear hlqx
  have HBon := Lib.hid (blk_at HBon.out Kk3.out)
  have ld4 := partN_cell (r := V0.heap.size) HBon.out trivial (oon) (.bool p.eq) (row_cellW HSon0.out 0 (by decide))
  have ld5 := partN_cell (r := V0.heap.size) HBon.out trivial (oon + 16) (.int .i64 p.i) (row_cellW HSon0.out 16 (by decide))
  have ld6 := partN_cell (r := V0.heap.size) HBon.out trivial (oon + 17) (.bool q.eq) (row_cellW HSon1.out 0 (by decide))
  have ld7 := partN_cell (r := V0.heap.size) HBon.out trivial (oon + 17 + 16) (.int .i64 q.i) (row_cellW HSon1.out 16 (by decide))
  have kvV0 : SeesN V0 V0.heap.size V0 := seesN_kept _ (kept_refl _)
  go_wp2_with fail
  clear kvV0
  refine (lheavy15_any c [p, q] _ ((.slice ac c.length cc)) ((.slice (some ⟨bon, oon, none⟩) 2 capon)) (HEc.out.keep Kk3.out) (liesJ_row2 (j := p) (k := q) HBon.out HSon0.out HSon1.out HCon.out HMon.out Gp.out Gq.out ⟨HLpu.out.lies, HLpv.out.lies, HLpx.out.lies⟩ ⟨HLqu.out.lies, HLqv.out.lies, HLqx.out.lies⟩)).mono ?_
  rintro e w8 ⟨gb10, rfl, hg11, k9⟩
  have Hhg11 := Lib.hid hg11
  clear hg11
  have Kk12 := Lib.hid k9
  clear k9
  cases gb10 with
  | false =>
    have HIhg11 := Lib.hid (Hhg11.out rfl)
    have kvV0 : SeesN V0 V0.heap.size w8 := seesN_kept _ Kk12.out
    go_wp2_with fail
    clear kvV0
    refine (lheavy15_any c more _ ((.slice ac c.length cc)) ((.slice amore more.length cmore)) (HEc.out.keep (kept_trans Kk3.out Kk12.out)) (HEmore.out.keep (kept_trans Kk3.out Kk12.out))).mono ?_
    rintro e w13 ⟨gb15, rfl, hg16, k14⟩
    have Hhg16 := Lib.hid hg16
    clear hg16
    have Kk17 := Lib.hid k14
    clear k14
    cases gb15 with
    | false =>
      have HIhg16 := Lib.hid (Hhg16.out rfl)
      have kvV0 : SeesN V0 V0.heap.size w13 := seesN_kept _ (kept_trans Kk12.out Kk17.out)
      go_wp2_with fail
      clear kvV0
      refine (of12two_any c p q (Par w V0.heap.size [] P) w13 ((.slice ac c.length cc)) bon oon capon _ _ _ ((.slice apu p.u.kids.length cpu)) ((.slice apv p.v.kids.length cpv)) ((.slice apx p.a.kids.length cpx)) ((.slice aqu q.u.kids.length cqu)) ((.slice aqv q.v.kids.length cqv)) ((.slice aqx q.a.kids.length cqx)) (HEc.out.keep (kept_trans Kk3.out (kept_trans Kk12.out Kk17.out))) Gp.out Gq.out (HLpu.out.later (kept_trans Kk12.out Kk17.out)) (HLpv.out.later (kept_trans Kk12.out Kk17.out)) (HLpx.out.later (kept_trans Kk12.out Kk17.out)) (HLqu.out.later (kept_trans Kk12.out Kk17.out)) (HLqv.out.later (kept_trans Kk12.out Kk17.out)) (HLqx.out.later (kept_trans Kk12.out Kk17.out)) (blk_at HBon.out (kept_trans Kk12.out Kk17.out)) HSon0.out HSon1.out (Nat.le_trans HIhg11.out.1.1 (by decide)) (Nat.le_trans (HIhg11.out.2.2 _ (List.mem_cons_self ..)).1 (by decide)) (Nat.le_trans (HIhg11.out.2.2 _ (List.mem_cons_of_mem _ (List.mem_cons_self ..))).2.1 (by decide))).mono ?_
      rintro e w18 ⟨rb20, J21, s22, s23, s24, rfl, hf28, ⟨hl25, hl26, hl27⟩, hi29, k19⟩
      cases rb20 with
      | false =>
        have Hhf28 := Lib.hid hf28
        clear hf28
        (try clear hi29)
        obtain ⟨a30, c31, S32, rfl, -⟩ := hl25.out
        obtain ⟨a33, c34, S35, rfl, -⟩ := hl26.out
        obtain ⟨a36, c37, S38, rfl, -⟩ := hl27.out
        have Kk39 := Lib.hid k19
        clear k19
        have Hhl25 : Hid (LiesQ w18 (Par w V0.heap.size [] P) J21.u.kids _) := par_give hl25 (Below.size (kept_trans Kk12.out Kk17.out)) (xlt_nil _)
        have Hhl26 : Hid (LiesQ w18 (Par w V0.heap.size [] P) J21.v.kids _) := par_give hl26 (Below.size (kept_trans Kk12.out Kk17.out)) (xlt_nil _)
        have Hhl27 : Hid (LiesQ w18 (Par w V0.heap.size [] P) J21.a.kids _) := par_give hl27 (Below.size (kept_trans Kk12.out Kk17.out)) (xlt_nil _)
        clear hl25 hl26 hl27
        have kvV0 : SeesN V0 V0.heap.size w18 := seesN_kept _ (kept_trans Kk12.out (kept_trans Kk17.out Kk39.out))
        go_wp2_with (refine stop_store 34 (.tmp 7) (.tmp 23) rfl ?_)
        intro _
        refine wpList_store_part_n (by rfl) 34 (.tmp 7) (.tmp 23) rfl (w18.heap.size) 0 #[.bool J21.eq, .int .i64 J21.u.k, .int .i64 J21.u.i, .int .i64 J21.u.j, .int .i64 J21.u.n, (.slice a30 J21.u.kids.length c31), .int .i64 J21.v.k, .int .i64 J21.v.i, .int .i64 J21.v.j, .int .i64 J21.v.n, (.slice a33 J21.v.kids.length c34), .int .i64 J21.a.k, .int .i64 J21.a.i, .int .i64 J21.a.j, .int .i64 J21.a.n, (.slice a36 J21.a.kids.length c37), .int .i64 J21.i] (by rfl) (by rfl) 34 (by kernel_rfl) (row_ok rfl) ?_
        intro W40 hW40
        clear kvV0
        obtain ⟨k43, x42, z44⟩ := alloc1 hW40
        have Kk45 := Lib.hid k43
        clear k43
        have Hx42 := Lib.hid x42
        have Hz44 := Lib.hid z44
        clear x42 z44 hW40
        have HG46 : Hid (V0.heap.size ≤ w18.heap.size) := (Below.size (kept_trans Kk12.out (kept_trans Kk17.out Kk39.out)))
        have XL47 : Hid (XLt (w18.heap.size :: []) W40) := (xlt_more (xlt_nil _) Kk45.out (by have := Hz44.out; omega))
        refine ⟨_, #[.bool J21.eq, .int .i64 J21.u.k, .int .i64 J21.u.i, .int .i64 J21.u.j, .int .i64 J21.u.n, (.slice a30 J21.u.kids.length c31), .int .i64 J21.v.k, .int .i64 J21.v.i, .int .i64 J21.v.j, .int .i64 J21.v.n, (.slice a33 J21.v.kids.length c34), .int .i64 J21.a.k, .int .i64 J21.a.i, .int .i64 J21.a.j, .int .i64 J21.a.n, (.slice a36 J21.a.kids.length c37), .int .i64 J21.i], Hx42.out, rfl, Nat.le_of_ble_eq_true rfl, ?_⟩
        intro W41 hW41
        have KB48 := Lib.hid (kept_set (kept_trans Kk3.out (kept_trans Kk12.out (kept_trans Kk17.out (kept_trans Kk39.out Kk45.out)))) hW41 (by have := HG46.out; have := Z0.out; omega))
        have KB49 := Lib.hid (kept_set (kept_trans Kk12.out (kept_trans Kk17.out (kept_trans Kk39.out Kk45.out))) hW41 HG46.out)
        have HL50 : Hid (LiesQ W41 (Par w V0.heap.size (w18.heap.size :: []) P) J21.u.kids _) := par_set (par_grow Hhl25.out Kk45.out (List.forall_mem_cons.2 ⟨(Or.inr (Nat.le_refl w18.heap.size)), (fun _ h => nomatch h)⟩)) hW41 (List.mem_cons_self ..) (by have := HG46.out; have := Z0.out; omega)
        have HL51 : Hid (LiesQ W41 (Par w V0.heap.size (w18.heap.size :: []) P) J21.v.kids _) := par_set (par_grow Hhl26.out Kk45.out (List.forall_mem_cons.2 ⟨(Or.inr (Nat.le_refl w18.heap.size)), (fun _ h => nomatch h)⟩)) hW41 (List.mem_cons_self ..) (by have := HG46.out; have := Z0.out; omega)
        have HL52 : Hid (LiesQ W41 (Par w V0.heap.size (w18.heap.size :: []) P) J21.a.kids _) := par_set (par_grow Hhl27.out Kk45.out (List.forall_mem_cons.2 ⟨(Or.inr (Nat.le_refl w18.heap.size)), (fun _ h => nomatch h)⟩)) hW41 (List.mem_cons_self ..) (by have := HG46.out; have := Z0.out; omega)
        have HL53 : Hid (LiesQ W41 (Par w V0.heap.size (w18.heap.size :: []) P) p.u.kids _) := par_set (par_grow HLpu.out (kept_trans Kk12.out (kept_trans Kk17.out (kept_trans Kk39.out Kk45.out))) (List.forall_mem_cons.2 ⟨(Or.inr (Nat.le_trans (Below.size (kept_trans Kk12.out (kept_trans Kk17.out Kk39.out))) (Nat.le_refl w18.heap.size))), (fun _ h => nomatch h)⟩)) hW41 (List.mem_cons_self ..) (by have := HG46.out; have := Z0.out; omega)
        have HL54 : Hid (LiesQ W41 (Par w V0.heap.size (w18.heap.size :: []) P) p.v.kids _) := par_set (par_grow HLpv.out (kept_trans Kk12.out (kept_trans Kk17.out (kept_trans Kk39.out Kk45.out))) (List.forall_mem_cons.2 ⟨(Or.inr (Nat.le_trans (Below.size (kept_trans Kk12.out (kept_trans Kk17.out Kk39.out))) (Nat.le_refl w18.heap.size))), (fun _ h => nomatch h)⟩)) hW41 (List.mem_cons_self ..) (by have := HG46.out; have := Z0.out; omega)
        have HL55 : Hid (LiesQ W41 (Par w V0.heap.size (w18.heap.size :: []) P) p.a.kids _) := par_set (par_grow HLpx.out (kept_trans Kk12.out (kept_trans Kk17.out (kept_trans Kk39.out Kk45.out))) (List.forall_mem_cons.2 ⟨(Or.inr (Nat.le_trans (Below.size (kept_trans Kk12.out (kept_trans Kk17.out Kk39.out))) (Nat.le_refl w18.heap.size))), (fun _ h => nomatch h)⟩)) hW41 (List.mem_cons_self ..) (by have := HG46.out; have := Z0.out; omega)
        have HL56 : Hid (LiesQ W41 (Par w V0.heap.size (w18.heap.size :: []) P) q.u.kids _) := par_set (par_grow HLqu.out (kept_trans Kk12.out (kept_trans Kk17.out (kept_trans Kk39.out Kk45.out))) (List.forall_mem_cons.2 ⟨(Or.inr (Nat.le_trans (Below.size (kept_trans Kk12.out (kept_trans Kk17.out Kk39.out))) (Nat.le_refl w18.heap.size))), (fun _ h => nomatch h)⟩)) hW41 (List.mem_cons_self ..) (by have := HG46.out; have := Z0.out; omega)
        have HL57 : Hid (LiesQ W41 (Par w V0.heap.size (w18.heap.size :: []) P) q.v.kids _) := par_set (par_grow HLqv.out (kept_trans Kk12.out (kept_trans Kk17.out (kept_trans Kk39.out Kk45.out))) (List.forall_mem_cons.2 ⟨(Or.inr (Nat.le_trans (Below.size (kept_trans Kk12.out (kept_trans Kk17.out Kk39.out))) (Nat.le_refl w18.heap.size))), (fun _ h => nomatch h)⟩)) hW41 (List.mem_cons_self ..) (by have := HG46.out; have := Z0.out; omega)
        have HL58 : Hid (LiesQ W41 (Par w V0.heap.size (w18.heap.size :: []) P) q.a.kids _) := par_set (par_grow HLqx.out (kept_trans Kk12.out (kept_trans Kk17.out (kept_trans Kk39.out Kk45.out))) (List.forall_mem_cons.2 ⟨(Or.inr (Nat.le_trans (Below.size (kept_trans Kk12.out (kept_trans Kk17.out Kk39.out))) (Nat.le_refl w18.heap.size))), (fun _ h => nomatch h)⟩)) hW41 (List.mem_cons_self ..) (by have := HG46.out; have := Z0.out; omega)
        have XL59 := Lib.hid (xlt_set XL47.out hW41)
        have HX60 := Lib.hid (blk_same Hx42.out hW41)
        clear hW41
        have ld61 := partN_cell (r := V0.heap.size) HX60.out trivial 0 (.bool J21.eq) rfl
        have ld62 := partN_cell (r := V0.heap.size) HX60.out trivial 16 (.int .i64 J21.i) rfl
        have kvV0 : SeesN V0 V0.heap.size W41 := seesN_kept _ KB49.out
        have kvW41 : SeesN W41 V0.heap.size W41 := seesN_kept _ (kept_refl _)
        go_wp2_with fail
        clear kvV0
        clear kvW41
        refine (of12ne_any c more (Par w V0.heap.size (w18.heap.size :: []) P) W41 ((.slice ac c.length cc)) _ (HEc.out.keep KB48.out) (HEmore.out.keep KB48.out) HNEmore.out).mono ?_
        rintro e w63 ⟨s65, s66, s67, rfl, ⟨hl68, hl69, hl70⟩, k64⟩
        obtain ⟨a71, c72, S73, rfl, -⟩ := hl68.out
        obtain ⟨a74, c75, S76, rfl, -⟩ := hl69.out
        obtain ⟨a77, c78, S79, rfl, -⟩ := hl70.out
        have Kk80 := Lib.hid k64
        clear k64
        have Hhl68 : Hid (LiesQ w63 (Par w V0.heap.size (w18.heap.size :: []) P) Tm.zero.kids _) := par_give hl68 (Below.size KB49.out) XL59.out
        have Hhl69 : Hid (LiesQ w63 (Par w V0.heap.size (w18.heap.size :: []) P) Tm.zero.kids _) := par_give hl69 (Below.size KB49.out) XL59.out
        have Hhl70 : Hid (LiesQ w63 (Par w V0.heap.size (w18.heap.size :: []) P) Tm.zero.kids _) := par_give hl70 (Below.size KB49.out) XL59.out
        clear hl68 hl69 hl70
        have kvV0 : SeesN V0 V0.heap.size w63 := seesN_kept _ (kept_trans KB49.out Kk80.out)
        have kvW41 : SeesN W41 V0.heap.size w63 := seesN_kept _ Kk80.out
        go_wp2_with (refine stop_store 34 (.tmp 9) (.tmp 29) rfl ?_)
        intro _
        refine wpList_store_part_n (by rfl) 34 (.tmp 9) (.tmp 29) rfl (w63.heap.size) 0 #[.bool false, .int .i64 Tm.zero.k, .int .i64 Tm.zero.i, .int .i64 Tm.zero.j, .int .i64 Tm.zero.n, (.slice a71 Tm.zero.kids.length c72), .int .i64 Tm.zero.k, .int .i64 Tm.zero.i, .int .i64 Tm.zero.j, .int .i64 Tm.zero.n, (.slice a74 Tm.zero.kids.length c75), .int .i64 Tm.zero.k, .int .i64 Tm.zero.i, .int .i64 Tm.zero.j, .int .i64 Tm.zero.n, (.slice a77 Tm.zero.kids.length c78), .int .i64 0] (by rfl) (by rfl) 34 (by kernel_rfl) (row_ok rfl) ?_
        intro W81 hW81
        clear kvV0
        clear kvW41
        obtain ⟨k84, x83, z85⟩ := alloc1 hW81
        have Kk86 := Lib.hid k84
        clear k84
        have Hx83 := Lib.hid x83
        have Hz85 := Lib.hid z85
        clear x83 z85 hW81
        have HG87 : Hid (V0.heap.size ≤ w63.heap.size) := (Below.size (kept_trans KB49.out Kk80.out))
        have AP88 : Hid (w18.heap.size < w63.heap.size) := block_lt (blk_at HX60.out Kk80.out)
        have XL89 : Hid (XLt (w63.heap.size :: (w18.heap.size :: [])) W81) := (xlt_more (xlt_later XL59.out Kk80.out) Kk86.out (by have := Hz85.out; omega))
        refine ⟨_, #[.bool false, .int .i64 Tm.zero.k, .int .i64 Tm.zero.i, .int .i64 Tm.zero.j, .int .i64 Tm.zero.n, (.slice a71 Tm.zero.kids.length c72), .int .i64 Tm.zero.k, .int .i64 Tm.zero.i, .int .i64 Tm.zero.j, .int .i64 Tm.zero.n, (.slice a74 Tm.zero.kids.length c75), .int .i64 Tm.zero.k, .int .i64 Tm.zero.i, .int .i64 Tm.zero.j, .int .i64 Tm.zero.n, (.slice a77 Tm.zero.kids.length c78), .int .i64 0], Hx83.out, rfl, Nat.le_of_ble_eq_true rfl, ?_⟩
        intro W82 hW82
        have KB90 := Lib.hid (kept_set (kept_trans KB48.out (kept_trans Kk80.out Kk86.out)) hW82 (by have := HG87.out; have := Z0.out; omega))
        have KB91 := Lib.hid (kept_set (kept_trans KB49.out (kept_trans Kk80.out Kk86.out)) hW82 HG87.out)
        have HL92 : Hid (LiesQ W82 (Par w V0.heap.size (w63.heap.size :: (w18.heap.size :: [])) P) J21.u.kids _) := par_set (par_grow HL50.out (kept_trans Kk80.out Kk86.out) (List.forall_mem_cons.2 ⟨(Or.inr (Nat.le_trans (Below.size Kk80.out) (Nat.le_refl w63.heap.size))), (List.forall_mem_cons.2 ⟨(Or.inl (List.mem_cons_self ..)), (fun _ h => nomatch h)⟩)⟩)) hW82 (List.mem_cons_self ..) (by have := HG87.out; have := Z0.out; omega)
        have HL93 : Hid (LiesQ W82 (Par w V0.heap.size (w63.heap.size :: (w18.heap.size :: [])) P) J21.v.kids _) := par_set (par_grow HL51.out (kept_trans Kk80.out Kk86.out) (List.forall_mem_cons.2 ⟨(Or.inr (Nat.le_trans (Below.size Kk80.out) (Nat.le_refl w63.heap.size))), (List.forall_mem_cons.2 ⟨(Or.inl (List.mem_cons_self ..)), (fun _ h => nomatch h)⟩)⟩)) hW82 (List.mem_cons_self ..) (by have := HG87.out; have := Z0.out; omega)
        have HL94 : Hid (LiesQ W82 (Par w V0.heap.size (w63.heap.size :: (w18.heap.size :: [])) P) J21.a.kids _) := par_set (par_grow HL52.out (kept_trans Kk80.out Kk86.out) (List.forall_mem_cons.2 ⟨(Or.inr (Nat.le_trans (Below.size Kk80.out) (Nat.le_refl w63.heap.size))), (List.forall_mem_cons.2 ⟨(Or.inl (List.mem_cons_self ..)), (fun _ h => nomatch h)⟩)⟩)) hW82 (List.mem_cons_self ..) (by have := HG87.out; have := Z0.out; omega)
        have HL95 : Hid (LiesQ W82 (Par w V0.heap.size (w63.heap.size :: (w18.heap.size :: [])) P) Tm.zero.kids _) := par_set (par_grow Hhl68.out Kk86.out (List.forall_mem_cons.2 ⟨(Or.inr (Nat.le_refl w63.heap.size)), (List.forall_mem_cons.2 ⟨(Or.inl (List.mem_cons_self ..)), (fun _ h => nomatch h)⟩)⟩)) hW82 (List.mem_cons_self ..) (by have := HG87.out; have := Z0.out; omega)
        have HL96 : Hid (LiesQ W82 (Par w V0.heap.size (w63.heap.size :: (w18.heap.size :: [])) P) Tm.zero.kids _) := par_set (par_grow Hhl69.out Kk86.out (List.forall_mem_cons.2 ⟨(Or.inr (Nat.le_refl w63.heap.size)), (List.forall_mem_cons.2 ⟨(Or.inl (List.mem_cons_self ..)), (fun _ h => nomatch h)⟩)⟩)) hW82 (List.mem_cons_self ..) (by have := HG87.out; have := Z0.out; omega)
        have HL97 : Hid (LiesQ W82 (Par w V0.heap.size (w63.heap.size :: (w18.heap.size :: [])) P) Tm.zero.kids _) := par_set (par_grow Hhl70.out Kk86.out (List.forall_mem_cons.2 ⟨(Or.inr (Nat.le_refl w63.heap.size)), (List.forall_mem_cons.2 ⟨(Or.inl (List.mem_cons_self ..)), (fun _ h => nomatch h)⟩)⟩)) hW82 (List.mem_cons_self ..) (by have := HG87.out; have := Z0.out; omega)
        have HL98 : Hid (LiesQ W82 (Par w V0.heap.size (w63.heap.size :: (w18.heap.size :: [])) P) p.u.kids _) := par_set (par_grow HL53.out (kept_trans Kk80.out Kk86.out) (List.forall_mem_cons.2 ⟨(Or.inr (Nat.le_trans (Below.size Kk80.out) (Nat.le_refl w63.heap.size))), (List.forall_mem_cons.2 ⟨(Or.inl (List.mem_cons_self ..)), (fun _ h => nomatch h)⟩)⟩)) hW82 (List.mem_cons_self ..) (by have := HG87.out; have := Z0.out; omega)
        have HL99 : Hid (LiesQ W82 (Par w V0.heap.size (w63.heap.size :: (w18.heap.size :: [])) P) p.v.kids _) := par_set (par_grow HL54.out (kept_trans Kk80.out Kk86.out) (List.forall_mem_cons.2 ⟨(Or.inr (Nat.le_trans (Below.size Kk80.out) (Nat.le_refl w63.heap.size))), (List.forall_mem_cons.2 ⟨(Or.inl (List.mem_cons_self ..)), (fun _ h => nomatch h)⟩)⟩)) hW82 (List.mem_cons_self ..) (by have := HG87.out; have := Z0.out; omega)
        have HL100 : Hid (LiesQ W82 (Par w V0.heap.size (w63.heap.size :: (w18.heap.size :: [])) P) p.a.kids _) := par_set (par_grow HL55.out (kept_trans Kk80.out Kk86.out) (List.forall_mem_cons.2 ⟨(Or.inr (Nat.le_trans (Below.size Kk80.out) (Nat.le_refl w63.heap.size))), (List.forall_mem_cons.2 ⟨(Or.inl (List.mem_cons_self ..)), (fun _ h => nomatch h)⟩)⟩)) hW82 (List.mem_cons_self ..) (by have := HG87.out; have := Z0.out; omega)
        have HL101 : Hid (LiesQ W82 (Par w V0.heap.size (w63.heap.size :: (w18.heap.size :: [])) P) q.u.kids _) := par_set (par_grow HL56.out (kept_trans Kk80.out Kk86.out) (List.forall_mem_cons.2 ⟨(Or.inr (Nat.le_trans (Below.size Kk80.out) (Nat.le_refl w63.heap.size))), (List.forall_mem_cons.2 ⟨(Or.inl (List.mem_cons_self ..)), (fun _ h => nomatch h)⟩)⟩)) hW82 (List.mem_cons_self ..) (by have := HG87.out; have := Z0.out; omega)
        have HL102 : Hid (LiesQ W82 (Par w V0.heap.size (w63.heap.size :: (w18.heap.size :: [])) P) q.v.kids _) := par_set (par_grow HL57.out (kept_trans Kk80.out Kk86.out) (List.forall_mem_cons.2 ⟨(Or.inr (Nat.le_trans (Below.size Kk80.out) (Nat.le_refl w63.heap.size))), (List.forall_mem_cons.2 ⟨(Or.inl (List.mem_cons_self ..)), (fun _ h => nomatch h)⟩)⟩)) hW82 (List.mem_cons_self ..) (by have := HG87.out; have := Z0.out; omega)
        have HL103 : Hid (LiesQ W82 (Par w V0.heap.size (w63.heap.size :: (w18.heap.size :: [])) P) q.a.kids _) := par_set (par_grow HL58.out (kept_trans Kk80.out Kk86.out) (List.forall_mem_cons.2 ⟨(Or.inr (Nat.le_trans (Below.size Kk80.out) (Nat.le_refl w63.heap.size))), (List.forall_mem_cons.2 ⟨(Or.inl (List.mem_cons_self ..)), (fun _ h => nomatch h)⟩)⟩)) hW82 (List.mem_cons_self ..) (by have := HG87.out; have := Z0.out; omega)
        have XL104 := Lib.hid (xlt_set XL89.out hW82)
        have HX105 := Lib.hid (blk_other (blk_at HX60.out (kept_trans Kk80.out Kk86.out)) hW82 (by have := AP88.out; omega))
        have HX106 := Lib.hid (blk_same Hx83.out hW82)
        (try clear ld61)
        (try clear ld62)
        clear hW82
        have ld107 := partN_cell (r := V0.heap.size) HX105.out trivial 0 (.bool J21.eq) rfl
        have ld108 := partN_cell (r := V0.heap.size) HX105.out trivial 16 (.int .i64 J21.i) rfl
        have ld109 := partN_cell (r := V0.heap.size) HX106.out trivial 16 (.int .i64 0) rfl
        have kvV0 : SeesN V0 V0.heap.size W82 := seesN_kept _ KB91.out
        have kvW82 : SeesN W82 V0.heap.size W82 := seesN_kept _ (kept_refl _)
        go_wp2_with fail
        clear kvV0
        clear kvW82
        refine (wakes15_any _).mono ?_
        rintro e w110 ⟨rfl, k111⟩
        have Kk112 := Lib.hid k111
        clear k111
        have kvV0 : SeesN V0 V0.heap.size w110 := seesN_kept _ (kept_trans KB91.out Kk112.out)
        have kvW82 : SeesN W82 V0.heap.size w110 := seesN_kept _ Kk112.out
        go_wp2
        go_ret
        exact ⟨rfl, (kept_trans KB90.out Kk112.out)⟩
      | true =>
        obtain rfl := hi29 rfl
        (try clear hf28 hi29)
        obtain ⟨a113, c114, S115, rfl, -⟩ := hl25.out
        obtain ⟨a116, c117, S118, rfl, -⟩ := hl26.out
        obtain ⟨a119, c120, S121, rfl, -⟩ := hl27.out
        have Kk122 := Lib.hid k19
        clear k19
        have Hhl25 : Hid (LiesQ w18 (Par w V0.heap.size [] P) p.u.kids _) := par_give hl25 (Below.size (kept_trans Kk12.out Kk17.out)) (xlt_nil _)
        have Hhl26 : Hid (LiesQ w18 (Par w V0.heap.size [] P) Tm.zero.kids _) := par_give hl26 (Below.size (kept_trans Kk12.out Kk17.out)) (xlt_nil _)
        have Hhl27 : Hid (LiesQ w18 (Par w V0.heap.size [] P) q.v.kids _) := par_give hl27 (Below.size (kept_trans Kk12.out Kk17.out)) (xlt_nil _)
        clear hl25 hl26 hl27
        have kvV0 : SeesN V0 V0.heap.size w18 := seesN_kept _ (kept_trans Kk12.out (kept_trans Kk17.out Kk122.out))
        go_wp2_with (refine stop_store 34 (.tmp 7) (.tmp 23) rfl ?_)
        intro _
        refine wpList_store_part_n (by rfl) 34 (.tmp 7) (.tmp 23) rfl (w18.heap.size) 0 #[.bool false, .int .i64 p.u.k, .int .i64 p.u.i, .int .i64 p.u.j, .int .i64 p.u.n, (.slice a113 p.u.kids.length c114), .int .i64 Tm.zero.k, .int .i64 Tm.zero.i, .int .i64 Tm.zero.j, .int .i64 Tm.zero.n, (.slice a116 Tm.zero.kids.length c117), .int .i64 q.v.k, .int .i64 q.v.i, .int .i64 q.v.j, .int .i64 q.v.n, (.slice a119 q.v.kids.length c120), .int .i64 p.i] (by rfl) (by rfl) 34 (by kernel_rfl) (row_ok rfl) ?_
        intro W123 hW123
        clear kvV0
        obtain ⟨k126, x125, z127⟩ := alloc1 hW123
        have Kk128 := Lib.hid k126
        clear k126
        have Hx125 := Lib.hid x125
        have Hz127 := Lib.hid z127
        clear x125 z127 hW123
        have HG129 : Hid (V0.heap.size ≤ w18.heap.size) := (Below.size (kept_trans Kk12.out (kept_trans Kk17.out Kk122.out)))
        have XL130 : Hid (XLt (w18.heap.size :: []) W123) := (xlt_more (xlt_nil _) Kk128.out (by have := Hz127.out; omega))
        refine ⟨_, #[.bool false, .int .i64 p.u.k, .int .i64 p.u.i, .int .i64 p.u.j, .int .i64 p.u.n, (.slice a113 p.u.kids.length c114), .int .i64 Tm.zero.k, .int .i64 Tm.zero.i, .int .i64 Tm.zero.j, .int .i64 Tm.zero.n, (.slice a116 Tm.zero.kids.length c117), .int .i64 q.v.k, .int .i64 q.v.i, .int .i64 q.v.j, .int .i64 q.v.n, (.slice a119 q.v.kids.length c120), .int .i64 p.i], Hx125.out, rfl, Nat.le_of_ble_eq_true rfl, ?_⟩
        intro W124 hW124
        have KB131 := Lib.hid (kept_set (kept_trans Kk3.out (kept_trans Kk12.out (kept_trans Kk17.out (kept_trans Kk122.out Kk128.out)))) hW124 (by have := HG129.out; have := Z0.out; omega))
        have KB132 := Lib.hid (kept_set (kept_trans Kk12.out (kept_trans Kk17.out (kept_trans Kk122.out Kk128.out))) hW124 HG129.out)
        have HL133 : Hid (LiesQ W124 (Par w V0.heap.size (w18.heap.size :: []) P) p.u.kids _) := par_set (par_grow Hhl25.out Kk128.out (List.forall_mem_cons.2 ⟨(Or.inr (Nat.le_refl w18.heap.size)), (fun _ h => nomatch h)⟩)) hW124 (List.mem_cons_self ..) (by have := HG129.out; have := Z0.out; omega)
        have HL134 : Hid (LiesQ W124 (Par w V0.heap.size (w18.heap.size :: []) P) Tm.zero.kids _) := par_set (par_grow Hhl26.out Kk128.out (List.forall_mem_cons.2 ⟨(Or.inr (Nat.le_refl w18.heap.size)), (fun _ h => nomatch h)⟩)) hW124 (List.mem_cons_self ..) (by have := HG129.out; have := Z0.out; omega)
        have HL135 : Hid (LiesQ W124 (Par w V0.heap.size (w18.heap.size :: []) P) q.v.kids _) := par_set (par_grow Hhl27.out Kk128.out (List.forall_mem_cons.2 ⟨(Or.inr (Nat.le_refl w18.heap.size)), (fun _ h => nomatch h)⟩)) hW124 (List.mem_cons_self ..) (by have := HG129.out; have := Z0.out; omega)
        have HL136 : Hid (LiesQ W124 (Par w V0.heap.size (w18.heap.size :: []) P) p.u.kids _) := par_set (par_grow HLpu.out (kept_trans Kk12.out (kept_trans Kk17.out (kept_trans Kk122.out Kk128.out))) (List.forall_mem_cons.2 ⟨(Or.inr (Nat.le_trans (Below.size (kept_trans Kk12.out (kept_trans Kk17.out Kk122.out))) (Nat.le_refl w18.heap.size))), (fun _ h => nomatch h)⟩)) hW124 (List.mem_cons_self ..) (by have := HG129.out; have := Z0.out; omega)
        have HL137 : Hid (LiesQ W124 (Par w V0.heap.size (w18.heap.size :: []) P) p.v.kids _) := par_set (par_grow HLpv.out (kept_trans Kk12.out (kept_trans Kk17.out (kept_trans Kk122.out Kk128.out))) (List.forall_mem_cons.2 ⟨(Or.inr (Nat.le_trans (Below.size (kept_trans Kk12.out (kept_trans Kk17.out Kk122.out))) (Nat.le_refl w18.heap.size))), (fun _ h => nomatch h)⟩)) hW124 (List.mem_cons_self ..) (by have := HG129.out; have := Z0.out; omega)
        have HL138 : Hid (LiesQ W124 (Par w V0.heap.size (w18.heap.size :: []) P) p.a.kids _) := par_set (par_grow HLpx.out (kept_trans Kk12.out (kept_trans Kk17.out (kept_trans Kk122.out Kk128.out))) (List.forall_mem_cons.2 ⟨(Or.inr (Nat.le_trans (Below.size (kept_trans Kk12.out (kept_trans Kk17.out Kk122.out))) (Nat.le_refl w18.heap.size))), (fun _ h => nomatch h)⟩)) hW124 (List.mem_cons_self ..) (by have := HG129.out; have := Z0.out; omega)
        have HL139 : Hid (LiesQ W124 (Par w V0.heap.size (w18.heap.size :: []) P) q.u.kids _) := par_set (par_grow HLqu.out (kept_trans Kk12.out (kept_trans Kk17.out (kept_trans Kk122.out Kk128.out))) (List.forall_mem_cons.2 ⟨(Or.inr (Nat.le_trans (Below.size (kept_trans Kk12.out (kept_trans Kk17.out Kk122.out))) (Nat.le_refl w18.heap.size))), (fun _ h => nomatch h)⟩)) hW124 (List.mem_cons_self ..) (by have := HG129.out; have := Z0.out; omega)
        have HL140 : Hid (LiesQ W124 (Par w V0.heap.size (w18.heap.size :: []) P) q.v.kids _) := par_set (par_grow HLqv.out (kept_trans Kk12.out (kept_trans Kk17.out (kept_trans Kk122.out Kk128.out))) (List.forall_mem_cons.2 ⟨(Or.inr (Nat.le_trans (Below.size (kept_trans Kk12.out (kept_trans Kk17.out Kk122.out))) (Nat.le_refl w18.heap.size))), (fun _ h => nomatch h)⟩)) hW124 (List.mem_cons_self ..) (by have := HG129.out; have := Z0.out; omega)
        have HL141 : Hid (LiesQ W124 (Par w V0.heap.size (w18.heap.size :: []) P) q.a.kids _) := par_set (par_grow HLqx.out (kept_trans Kk12.out (kept_trans Kk17.out (kept_trans Kk122.out Kk128.out))) (List.forall_mem_cons.2 ⟨(Or.inr (Nat.le_trans (Below.size (kept_trans Kk12.out (kept_trans Kk17.out Kk122.out))) (Nat.le_refl w18.heap.size))), (fun _ h => nomatch h)⟩)) hW124 (List.mem_cons_self ..) (by have := HG129.out; have := Z0.out; omega)
        have XL142 := Lib.hid (xlt_set XL130.out hW124)
        have HX143 := Lib.hid (blk_same Hx125.out hW124)
        clear hW124
        have ld144 := partN_cell (r := V0.heap.size) HX143.out trivial 0 (.bool false) rfl
        have ld145 := partN_cell (r := V0.heap.size) HX143.out trivial 16 (.int .i64 p.i) rfl
        have kvV0 : SeesN V0 V0.heap.size W124 := seesN_kept _ KB132.out
        have kvW124 : SeesN W124 V0.heap.size W124 := seesN_kept _ (kept_refl _)
        go_wp2_with fail
        clear kvV0
        clear kvW124
        refine (of12ne_any c more (Par w V0.heap.size (w18.heap.size :: []) P) W124 ((.slice ac c.length cc)) _ (HEc.out.keep KB131.out) (HEmore.out.keep KB131.out) HNEmore.out).mono ?_
        rintro e w146 ⟨s148, s149, s150, rfl, ⟨hl151, hl152, hl153⟩, k147⟩
        obtain ⟨a154, c155, S156, rfl, -⟩ := hl151.out
        obtain ⟨a157, c158, S159, rfl, -⟩ := hl152.out
        obtain ⟨a160, c161, S162, rfl, -⟩ := hl153.out
        have Kk163 := Lib.hid k147
        clear k147
        have Hhl151 : Hid (LiesQ w146 (Par w V0.heap.size (w18.heap.size :: []) P) Tm.zero.kids _) := par_give hl151 (Below.size KB132.out) XL142.out
        have Hhl152 : Hid (LiesQ w146 (Par w V0.heap.size (w18.heap.size :: []) P) Tm.zero.kids _) := par_give hl152 (Below.size KB132.out) XL142.out
        have Hhl153 : Hid (LiesQ w146 (Par w V0.heap.size (w18.heap.size :: []) P) Tm.zero.kids _) := par_give hl153 (Below.size KB132.out) XL142.out
        clear hl151 hl152 hl153
        have kvV0 : SeesN V0 V0.heap.size w146 := seesN_kept _ (kept_trans KB132.out Kk163.out)
        have kvW124 : SeesN W124 V0.heap.size w146 := seesN_kept _ Kk163.out
        go_wp2_with (refine stop_store 34 (.tmp 9) (.tmp 29) rfl ?_)
        intro _
        refine wpList_store_part_n (by rfl) 34 (.tmp 9) (.tmp 29) rfl (w146.heap.size) 0 #[.bool false, .int .i64 Tm.zero.k, .int .i64 Tm.zero.i, .int .i64 Tm.zero.j, .int .i64 Tm.zero.n, (.slice a154 Tm.zero.kids.length c155), .int .i64 Tm.zero.k, .int .i64 Tm.zero.i, .int .i64 Tm.zero.j, .int .i64 Tm.zero.n, (.slice a157 Tm.zero.kids.length c158), .int .i64 Tm.zero.k, .int .i64 Tm.zero.i, .int .i64 Tm.zero.j, .int .i64 Tm.zero.n, (.slice a160 Tm.zero.kids.length c161), .int .i64 0] (by rfl) (by rfl) 34 (by kernel_rfl) (row_ok rfl) ?_
        intro W164 hW164
        clear kvV0
        clear kvW124
        obtain ⟨k167, x166, z168⟩ := alloc1 hW164
        have Kk169 := Lib.hid k167
        clear k167
        have Hx166 := Lib.hid x166
        have Hz168 := Lib.hid z168
        clear x166 z168 hW164
        have HG170 : Hid (V0.heap.size ≤ w146.heap.size) := (Below.size (kept_trans KB132.out Kk163.out))
        have AP171 : Hid (w18.heap.size < w146.heap.size) := block_lt (blk_at HX143.out Kk163.out)
        have XL172 : Hid (XLt (w146.heap.size :: (w18.heap.size :: [])) W164) := (xlt_more (xlt_later XL142.out Kk163.out) Kk169.out (by have := Hz168.out; omega))
        refine ⟨_, #[.bool false, .int .i64 Tm.zero.k, .int .i64 Tm.zero.i, .int .i64 Tm.zero.j, .int .i64 Tm.zero.n, (.slice a154 Tm.zero.kids.length c155), .int .i64 Tm.zero.k, .int .i64 Tm.zero.i, .int .i64 Tm.zero.j, .int .i64 Tm.zero.n, (.slice a157 Tm.zero.kids.length c158), .int .i64 Tm.zero.k, .int .i64 Tm.zero.i, .int .i64 Tm.zero.j, .int .i64 Tm.zero.n, (.slice a160 Tm.zero.kids.length c161), .int .i64 0], Hx166.out, rfl, Nat.le_of_ble_eq_true rfl, ?_⟩
        intro W165 hW165
        have KB173 := Lib.hid (kept_set (kept_trans KB131.out (kept_trans Kk163.out Kk169.out)) hW165 (by have := HG170.out; have := Z0.out; omega))
        have KB174 := Lib.hid (kept_set (kept_trans KB132.out (kept_trans Kk163.out Kk169.out)) hW165 HG170.out)
        have HL175 : Hid (LiesQ W165 (Par w V0.heap.size (w146.heap.size :: (w18.heap.size :: [])) P) p.u.kids _) := par_set (par_grow HL133.out (kept_trans Kk163.out Kk169.out) (List.forall_mem_cons.2 ⟨(Or.inr (Nat.le_trans (Below.size Kk163.out) (Nat.le_refl w146.heap.size))), (List.forall_mem_cons.2 ⟨(Or.inl (List.mem_cons_self ..)), (fun _ h => nomatch h)⟩)⟩)) hW165 (List.mem_cons_self ..) (by have := HG170.out; have := Z0.out; omega)
        have HL176 : Hid (LiesQ W165 (Par w V0.heap.size (w146.heap.size :: (w18.heap.size :: [])) P) Tm.zero.kids _) := par_set (par_grow HL134.out (kept_trans Kk163.out Kk169.out) (List.forall_mem_cons.2 ⟨(Or.inr (Nat.le_trans (Below.size Kk163.out) (Nat.le_refl w146.heap.size))), (List.forall_mem_cons.2 ⟨(Or.inl (List.mem_cons_self ..)), (fun _ h => nomatch h)⟩)⟩)) hW165 (List.mem_cons_self ..) (by have := HG170.out; have := Z0.out; omega)
        have HL177 : Hid (LiesQ W165 (Par w V0.heap.size (w146.heap.size :: (w18.heap.size :: [])) P) q.v.kids _) := par_set (par_grow HL135.out (kept_trans Kk163.out Kk169.out) (List.forall_mem_cons.2 ⟨(Or.inr (Nat.le_trans (Below.size Kk163.out) (Nat.le_refl w146.heap.size))), (List.forall_mem_cons.2 ⟨(Or.inl (List.mem_cons_self ..)), (fun _ h => nomatch h)⟩)⟩)) hW165 (List.mem_cons_self ..) (by have := HG170.out; have := Z0.out; omega)
        have HL178 : Hid (LiesQ W165 (Par w V0.heap.size (w146.heap.size :: (w18.heap.size :: [])) P) Tm.zero.kids _) := par_set (par_grow Hhl151.out Kk169.out (List.forall_mem_cons.2 ⟨(Or.inr (Nat.le_refl w146.heap.size)), (List.forall_mem_cons.2 ⟨(Or.inl (List.mem_cons_self ..)), (fun _ h => nomatch h)⟩)⟩)) hW165 (List.mem_cons_self ..) (by have := HG170.out; have := Z0.out; omega)
        have HL179 : Hid (LiesQ W165 (Par w V0.heap.size (w146.heap.size :: (w18.heap.size :: [])) P) Tm.zero.kids _) := par_set (par_grow Hhl152.out Kk169.out (List.forall_mem_cons.2 ⟨(Or.inr (Nat.le_refl w146.heap.size)), (List.forall_mem_cons.2 ⟨(Or.inl (List.mem_cons_self ..)), (fun _ h => nomatch h)⟩)⟩)) hW165 (List.mem_cons_self ..) (by have := HG170.out; have := Z0.out; omega)
        have HL180 : Hid (LiesQ W165 (Par w V0.heap.size (w146.heap.size :: (w18.heap.size :: [])) P) Tm.zero.kids _) := par_set (par_grow Hhl153.out Kk169.out (List.forall_mem_cons.2 ⟨(Or.inr (Nat.le_refl w146.heap.size)), (List.forall_mem_cons.2 ⟨(Or.inl (List.mem_cons_self ..)), (fun _ h => nomatch h)⟩)⟩)) hW165 (List.mem_cons_self ..) (by have := HG170.out; have := Z0.out; omega)
        have HL181 : Hid (LiesQ W165 (Par w V0.heap.size (w146.heap.size :: (w18.heap.size :: [])) P) p.u.kids _) := par_set (par_grow HL136.out (kept_trans Kk163.out Kk169.out) (List.forall_mem_cons.2 ⟨(Or.inr (Nat.le_trans (Below.size Kk163.out) (Nat.le_refl w146.heap.size))), (List.forall_mem_cons.2 ⟨(Or.inl (List.mem_cons_self ..)), (fun _ h => nomatch h)⟩)⟩)) hW165 (List.mem_cons_self ..) (by have := HG170.out; have := Z0.out; omega)
        have HL182 : Hid (LiesQ W165 (Par w V0.heap.size (w146.heap.size :: (w18.heap.size :: [])) P) p.v.kids _) := par_set (par_grow HL137.out (kept_trans Kk163.out Kk169.out) (List.forall_mem_cons.2 ⟨(Or.inr (Nat.le_trans (Below.size Kk163.out) (Nat.le_refl w146.heap.size))), (List.forall_mem_cons.2 ⟨(Or.inl (List.mem_cons_self ..)), (fun _ h => nomatch h)⟩)⟩)) hW165 (List.mem_cons_self ..) (by have := HG170.out; have := Z0.out; omega)
        have HL183 : Hid (LiesQ W165 (Par w V0.heap.size (w146.heap.size :: (w18.heap.size :: [])) P) p.a.kids _) := par_set (par_grow HL138.out (kept_trans Kk163.out Kk169.out) (List.forall_mem_cons.2 ⟨(Or.inr (Nat.le_trans (Below.size Kk163.out) (Nat.le_refl w146.heap.size))), (List.forall_mem_cons.2 ⟨(Or.inl (List.mem_cons_self ..)), (fun _ h => nomatch h)⟩)⟩)) hW165 (List.mem_cons_self ..) (by have := HG170.out; have := Z0.out; omega)
        have HL184 : Hid (LiesQ W165 (Par w V0.heap.size (w146.heap.size :: (w18.heap.size :: [])) P) q.u.kids _) := par_set (par_grow HL139.out (kept_trans Kk163.out Kk169.out) (List.forall_mem_cons.2 ⟨(Or.inr (Nat.le_trans (Below.size Kk163.out) (Nat.le_refl w146.heap.size))), (List.forall_mem_cons.2 ⟨(Or.inl (List.mem_cons_self ..)), (fun _ h => nomatch h)⟩)⟩)) hW165 (List.mem_cons_self ..) (by have := HG170.out; have := Z0.out; omega)
        have HL185 : Hid (LiesQ W165 (Par w V0.heap.size (w146.heap.size :: (w18.heap.size :: [])) P) q.v.kids _) := par_set (par_grow HL140.out (kept_trans Kk163.out Kk169.out) (List.forall_mem_cons.2 ⟨(Or.inr (Nat.le_trans (Below.size Kk163.out) (Nat.le_refl w146.heap.size))), (List.forall_mem_cons.2 ⟨(Or.inl (List.mem_cons_self ..)), (fun _ h => nomatch h)⟩)⟩)) hW165 (List.mem_cons_self ..) (by have := HG170.out; have := Z0.out; omega)
        have HL186 : Hid (LiesQ W165 (Par w V0.heap.size (w146.heap.size :: (w18.heap.size :: [])) P) q.a.kids _) := par_set (par_grow HL141.out (kept_trans Kk163.out Kk169.out) (List.forall_mem_cons.2 ⟨(Or.inr (Nat.le_trans (Below.size Kk163.out) (Nat.le_refl w146.heap.size))), (List.forall_mem_cons.2 ⟨(Or.inl (List.mem_cons_self ..)), (fun _ h => nomatch h)⟩)⟩)) hW165 (List.mem_cons_self ..) (by have := HG170.out; have := Z0.out; omega)
        have XL187 := Lib.hid (xlt_set XL172.out hW165)
        have HX188 := Lib.hid (blk_other (blk_at HX143.out (kept_trans Kk163.out Kk169.out)) hW165 (by have := AP171.out; omega))
        have HX189 := Lib.hid (blk_same Hx166.out hW165)
        (try clear ld144)
        (try clear ld145)
        clear hW165
        have ld190 := partN_cell (r := V0.heap.size) HX188.out trivial 0 (.bool false) rfl
        have ld191 := partN_cell (r := V0.heap.size) HX188.out trivial 16 (.int .i64 p.i) rfl
        have ld192 := partN_cell (r := V0.heap.size) HX189.out trivial 16 (.int .i64 0) rfl
        have kvV0 : SeesN V0 V0.heap.size W165 := seesN_kept _ KB174.out
        have kvW165 : SeesN W165 V0.heap.size W165 := seesN_kept _ (kept_refl _)
        go_wp2_with fail
        clear kvV0
        clear kvW165
        refine (wakes15_any _).mono ?_
        rintro e w193 ⟨rfl, k194⟩
        have Kk195 := Lib.hid k194
        clear k194
        have kvV0 : SeesN V0 V0.heap.size w193 := seesN_kept _ (kept_trans KB174.out Kk195.out)
        have kvW165 : SeesN W165 V0.heap.size w193 := seesN_kept _ Kk195.out
        go_wp2
        go_ret
        exact ⟨rfl, (kept_trans KB173.out Kk195.out)⟩
    | true =>
      have kvV0 : SeesN V0 V0.heap.size w13 := seesN_kept _ (kept_trans Kk12.out Kk17.out)
      go_wp2
      go_ret
      exact ⟨rfl, (kept_trans Kk3.out (kept_trans Kk12.out Kk17.out))⟩
  | true =>
    have kvV0 : SeesN V0 V0.heap.size w8 := seesN_kept _ Kk12.out
    go_wp2
    go_ret
    exact ⟨rfl, (kept_trans Kk3.out Kk12.out)⟩

set_option maxRecDepth 20000 in
set_option maxHeartbeats 4000000 in
theorem levelsn2_any (c : List En) (on : List Jd) (y : Jd) (z : Jd) (P : Nat → Prop) (w : World) (sc : Value) (son : Value) (bmo omo capmo : Nat) (Cmo : Array Value) (Tmo : TypeId) (frmo : Nat × Nat) (syu : Value) (syv : Value) (syx : Value) (szu : Value) (szv : Value) (szx : Value) (hlc : LiesE w c sc) (hlon : LiesJ w on son) (hfy : y.fine) (hfz : z.fine) (hlyu : LiesQ w P y.u.kids syu) (hlyv : LiesQ w P y.v.kids syv) (hlyx : LiesQ w P y.a.kids syx) (hlzu : LiesQ w P z.u.kids szu) (hlzv : LiesQ w P z.v.kids szv) (hlzx : LiesQ w P z.a.kids szx) (hbmo : w.heap[bmo]? = some (.cells Cmo Tmo frmo)) (hsmo0 : (Cmo.toList.drop omo).take 17 = [.bool y.eq, .int .i64 y.u.k, .int .i64 y.u.i, .int .i64 y.u.j, .int .i64 y.u.n, syu, .int .i64 y.v.k, .int .i64 y.v.i, .int .i64 y.v.j, .int .i64 y.v.n, syv, .int .i64 y.a.k, .int .i64 y.a.i, .int .i64 y.a.j, .int .i64 y.a.n, syx, .int .i64 y.i]) (hsmo1 : (Cmo.toList.drop (omo + 17)).take 17 = [.bool z.eq, .int .i64 z.u.k, .int .i64 z.u.i, .int .i64 z.u.j, .int .i64 z.u.n, szu, .int .i64 z.v.k, .int .i64 z.v.i, .int .i64 z.v.j, .int .i64 z.v.n, szv, .int .i64 z.a.k, .int .i64 z.a.i, .int .i64 z.a.j, .int .i64 z.a.n, szx, .int .i64 z.i]) (hneon : on.length ≠ 2) (hcmo : 2 ≤ capmo) (hmmo : capmo ≤ maxLen) : Calls Try.prog 6 #[sc, son, .slice (some ⟨bmo, omo, none⟩) 2 capmo] w fun e w' => e = .returned (.bool true) ∧ Kept w w' := by
  have HEc := Lib.hid hlc
  obtain ⟨ac, cc, Sc, rfl, -⟩ := hlc.out
  clear hlc
  have HEon := Lib.hid hlon
  obtain ⟨aon, con, Son, rfl, -⟩ := hlon.out
  clear hlon
  have Gy := Lib.hid hfy
  clear hfy
  have Gz := Lib.hid hfz
  clear hfz
  obtain ⟨ayu, cyu, Syu, rfl, -⟩ := hlyu.out
  obtain ⟨ayv, cyv, Syv, rfl, -⟩ := hlyv.out
  obtain ⟨ayx, cyx, Syx, rfl, -⟩ := hlyx.out
  obtain ⟨azu, czu, Szu, rfl, -⟩ := hlzu.out
  obtain ⟨azv, czv, Szv, rfl, -⟩ := hlzv.out
  obtain ⟨azx, czx, Szx, rfl, -⟩ := hlzx.out
  have HNmo : Hid (bmo < w.heap.size) := block_lt hbmo
  have HBmo := Lib.hid hbmo
  have HSmo0 := Lib.hid hsmo0
  have HSmo1 := Lib.hid hsmo1
  clear hbmo hsmo0 hsmo1
  have HNEon := Lib.hid hneon
  clear hneon
  have HCmo := Lib.hid hcmo
  have HMmo := Lib.hid hmmo
  clear hcmo hmmo
  obtain ⟨dj, dj1, dj2⟩ := under_of 34 (by kernel_rfl)
  obtain ⟨du, hu1, hu2⟩ := under_term
  go_enter Try.func6, Try.ntmps6
  go_upto_region 1 with fail
  refine at_code (fun V0 hV0 => ?_)
  have k1 : Kept w V0 := by rw [← hV0]; exact kept_refl _
  have Z0 : Hid (V0.heap.size = w.heap.size + 0) := by show _ = _; rw [← hV0]; rfl
  clear hV0
  have Kk3 := Lib.hid k1
  clear k1
  have HLyu : Hid (LiesQ V0 (Par w V0.heap.size [] P) y.u.kids _) := (par_in _ _ hlyu).later Kk3.out
  clear hlyu
  have HLyv : Hid (LiesQ V0 (Par w V0.heap.size [] P) y.v.kids _) := (par_in _ _ hlyv).later Kk3.out
  clear hlyv
  have HLyx : Hid (LiesQ V0 (Par w V0.heap.size [] P) y.a.kids _) := (par_in _ _ hlyx).later Kk3.out
  clear hlyx
  have HLzu : Hid (LiesQ V0 (Par w V0.heap.size [] P) z.u.kids _) := (par_in _ _ hlzu).later Kk3.out
  clear hlzu
  have HLzv : Hid (LiesQ V0 (Par w V0.heap.size [] P) z.v.kids _) := (par_in _ _ hlzv).later Kk3.out
  clear hlzv
  have HLzx : Hid (LiesQ V0 (Par w V0.heap.size [] P) z.a.kids _) := (par_in _ _ hlzx).later Kk3.out
  clear hlzx
  have HBmo := Lib.hid (blk_at HBmo.out Kk3.out)
  have ld4 := partN_cell (r := V0.heap.size) HBmo.out trivial (omo) (.bool y.eq) (row_cellW HSmo0.out 0 (by decide))
  have ld5 := partN_cell (r := V0.heap.size) HBmo.out trivial (omo + 16) (.int .i64 y.i) (row_cellW HSmo0.out 16 (by decide))
  have ld6 := partN_cell (r := V0.heap.size) HBmo.out trivial (omo + 17) (.bool z.eq) (row_cellW HSmo1.out 0 (by decide))
  have ld7 := partN_cell (r := V0.heap.size) HBmo.out trivial (omo + 17 + 16) (.int .i64 z.i) (row_cellW HSmo1.out 16 (by decide))
  have kvV0 : SeesN V0 V0.heap.size V0 := seesN_kept _ (kept_refl _)
  go_wp2_with fail
  clear kvV0
  refine (lheavy15_any c on _ ((.slice ac c.length cc)) ((.slice aon on.length con)) (HEc.out.keep Kk3.out) (HEon.out.keep Kk3.out)).mono ?_
  rintro e w8 ⟨gb10, rfl, hg11, k9⟩
  have Hhg11 := Lib.hid hg11
  clear hg11
  have Kk12 := Lib.hid k9
  clear k9
  cases gb10 with
  | false =>
    have HIhg11 := Lib.hid (Hhg11.out rfl)
    have kvV0 : SeesN V0 V0.heap.size w8 := seesN_kept _ Kk12.out
    go_wp2_with fail
    clear kvV0
    refine (lheavy15_any c [y, z] _ ((.slice ac c.length cc)) ((.slice (some ⟨bmo, omo, none⟩) 2 capmo)) (HEc.out.keep (kept_trans Kk3.out Kk12.out)) (liesJ_row2 (j := y) (k := z) (blk_at HBmo.out Kk12.out) HSmo0.out HSmo1.out HCmo.out HMmo.out Gy.out Gz.out ⟨(HLyu.out.later Kk12.out).lies, (HLyv.out.later Kk12.out).lies, (HLyx.out.later Kk12.out).lies⟩ ⟨(HLzu.out.later Kk12.out).lies, (HLzv.out.later Kk12.out).lies, (HLzx.out.later Kk12.out).lies⟩)).mono ?_
    rintro e w13 ⟨gb15, rfl, hg16, k14⟩
    have Hhg16 := Lib.hid hg16
    clear hg16
    have Kk17 := Lib.hid k14
    clear k14
    cases gb15 with
    | false =>
      have HIhg16 := Lib.hid (Hhg16.out rfl)
      have kvV0 : SeesN V0 V0.heap.size w13 := seesN_kept _ (kept_trans Kk12.out Kk17.out)
      go_wp2_with fail
      clear kvV0
      refine (of12ne_any c on (Par w V0.heap.size [] P) w13 ((.slice ac c.length cc)) _ (HEc.out.keep (kept_trans Kk3.out (kept_trans Kk12.out Kk17.out))) (HEon.out.keep (kept_trans Kk3.out (kept_trans Kk12.out Kk17.out))) HNEon.out).mono ?_
      rintro e w18 ⟨s20, s21, s22, rfl, ⟨hl23, hl24, hl25⟩, k19⟩
      obtain ⟨a26, c27, S28, rfl, -⟩ := hl23.out
      obtain ⟨a29, c30, S31, rfl, -⟩ := hl24.out
      obtain ⟨a32, c33, S34, rfl, -⟩ := hl25.out
      have Kk35 := Lib.hid k19
      clear k19
      have Hhl23 : Hid (LiesQ w18 (Par w V0.heap.size [] P) Tm.zero.kids _) := par_give hl23 (Below.size (kept_trans Kk12.out Kk17.out)) (xlt_nil _)
      have Hhl24 : Hid (LiesQ w18 (Par w V0.heap.size [] P) Tm.zero.kids _) := par_give hl24 (Below.size (kept_trans Kk12.out Kk17.out)) (xlt_nil _)
      have Hhl25 : Hid (LiesQ w18 (Par w V0.heap.size [] P) Tm.zero.kids _) := par_give hl25 (Below.size (kept_trans Kk12.out Kk17.out)) (xlt_nil _)
      clear hl23 hl24 hl25
      have kvV0 : SeesN V0 V0.heap.size w18 := seesN_kept _ (kept_trans Kk12.out (kept_trans Kk17.out Kk35.out))
      go_wp2_with (refine stop_store 34 (.tmp 7) (.tmp 23) rfl ?_)
      intro _
      refine wpList_store_part_n (by rfl) 34 (.tmp 7) (.tmp 23) rfl (w18.heap.size) 0 #[.bool false, .int .i64 Tm.zero.k, .int .i64 Tm.zero.i, .int .i64 Tm.zero.j, .int .i64 Tm.zero.n, (.slice a26 Tm.zero.kids.length c27), .int .i64 Tm.zero.k, .int .i64 Tm.zero.i, .int .i64 Tm.zero.j, .int .i64 Tm.zero.n, (.slice a29 Tm.zero.kids.length c30), .int .i64 Tm.zero.k, .int .i64 Tm.zero.i, .int .i64 Tm.zero.j, .int .i64 Tm.zero.n, (.slice a32 Tm.zero.kids.length c33), .int .i64 0] (by rfl) (by rfl) 34 (by kernel_rfl) (row_ok rfl) ?_
      intro W36 hW36
      clear kvV0
      obtain ⟨k39, x38, z40⟩ := alloc1 hW36
      have Kk41 := Lib.hid k39
      clear k39
      have Hx38 := Lib.hid x38
      have Hz40 := Lib.hid z40
      clear x38 z40 hW36
      have HG42 : Hid (V0.heap.size ≤ w18.heap.size) := (Below.size (kept_trans Kk12.out (kept_trans Kk17.out Kk35.out)))
      have XL43 : Hid (XLt (w18.heap.size :: []) W36) := (xlt_more (xlt_nil _) Kk41.out (by have := Hz40.out; omega))
      refine ⟨_, #[.bool false, .int .i64 Tm.zero.k, .int .i64 Tm.zero.i, .int .i64 Tm.zero.j, .int .i64 Tm.zero.n, (.slice a26 Tm.zero.kids.length c27), .int .i64 Tm.zero.k, .int .i64 Tm.zero.i, .int .i64 Tm.zero.j, .int .i64 Tm.zero.n, (.slice a29 Tm.zero.kids.length c30), .int .i64 Tm.zero.k, .int .i64 Tm.zero.i, .int .i64 Tm.zero.j, .int .i64 Tm.zero.n, (.slice a32 Tm.zero.kids.length c33), .int .i64 0], Hx38.out, rfl, Nat.le_of_ble_eq_true rfl, ?_⟩
      intro W37 hW37
      have KB44 := Lib.hid (kept_set (kept_trans Kk3.out (kept_trans Kk12.out (kept_trans Kk17.out (kept_trans Kk35.out Kk41.out)))) hW37 (by have := HG42.out; have := Z0.out; omega))
      have KB45 := Lib.hid (kept_set (kept_trans Kk12.out (kept_trans Kk17.out (kept_trans Kk35.out Kk41.out))) hW37 HG42.out)
      have HL46 : Hid (LiesQ W37 (Par w V0.heap.size (w18.heap.size :: []) P) Tm.zero.kids _) := par_set (par_grow Hhl23.out Kk41.out (List.forall_mem_cons.2 ⟨(Or.inr (Nat.le_refl w18.heap.size)), (fun _ h => nomatch h)⟩)) hW37 (List.mem_cons_self ..) (by have := HG42.out; have := Z0.out; omega)
      have HL47 : Hid (LiesQ W37 (Par w V0.heap.size (w18.heap.size :: []) P) Tm.zero.kids _) := par_set (par_grow Hhl24.out Kk41.out (List.forall_mem_cons.2 ⟨(Or.inr (Nat.le_refl w18.heap.size)), (fun _ h => nomatch h)⟩)) hW37 (List.mem_cons_self ..) (by have := HG42.out; have := Z0.out; omega)
      have HL48 : Hid (LiesQ W37 (Par w V0.heap.size (w18.heap.size :: []) P) Tm.zero.kids _) := par_set (par_grow Hhl25.out Kk41.out (List.forall_mem_cons.2 ⟨(Or.inr (Nat.le_refl w18.heap.size)), (fun _ h => nomatch h)⟩)) hW37 (List.mem_cons_self ..) (by have := HG42.out; have := Z0.out; omega)
      have HL49 : Hid (LiesQ W37 (Par w V0.heap.size (w18.heap.size :: []) P) y.u.kids _) := par_set (par_grow HLyu.out (kept_trans Kk12.out (kept_trans Kk17.out (kept_trans Kk35.out Kk41.out))) (List.forall_mem_cons.2 ⟨(Or.inr (Nat.le_trans (Below.size (kept_trans Kk12.out (kept_trans Kk17.out Kk35.out))) (Nat.le_refl w18.heap.size))), (fun _ h => nomatch h)⟩)) hW37 (List.mem_cons_self ..) (by have := HG42.out; have := Z0.out; omega)
      have HL50 : Hid (LiesQ W37 (Par w V0.heap.size (w18.heap.size :: []) P) y.v.kids _) := par_set (par_grow HLyv.out (kept_trans Kk12.out (kept_trans Kk17.out (kept_trans Kk35.out Kk41.out))) (List.forall_mem_cons.2 ⟨(Or.inr (Nat.le_trans (Below.size (kept_trans Kk12.out (kept_trans Kk17.out Kk35.out))) (Nat.le_refl w18.heap.size))), (fun _ h => nomatch h)⟩)) hW37 (List.mem_cons_self ..) (by have := HG42.out; have := Z0.out; omega)
      have HL51 : Hid (LiesQ W37 (Par w V0.heap.size (w18.heap.size :: []) P) y.a.kids _) := par_set (par_grow HLyx.out (kept_trans Kk12.out (kept_trans Kk17.out (kept_trans Kk35.out Kk41.out))) (List.forall_mem_cons.2 ⟨(Or.inr (Nat.le_trans (Below.size (kept_trans Kk12.out (kept_trans Kk17.out Kk35.out))) (Nat.le_refl w18.heap.size))), (fun _ h => nomatch h)⟩)) hW37 (List.mem_cons_self ..) (by have := HG42.out; have := Z0.out; omega)
      have HL52 : Hid (LiesQ W37 (Par w V0.heap.size (w18.heap.size :: []) P) z.u.kids _) := par_set (par_grow HLzu.out (kept_trans Kk12.out (kept_trans Kk17.out (kept_trans Kk35.out Kk41.out))) (List.forall_mem_cons.2 ⟨(Or.inr (Nat.le_trans (Below.size (kept_trans Kk12.out (kept_trans Kk17.out Kk35.out))) (Nat.le_refl w18.heap.size))), (fun _ h => nomatch h)⟩)) hW37 (List.mem_cons_self ..) (by have := HG42.out; have := Z0.out; omega)
      have HL53 : Hid (LiesQ W37 (Par w V0.heap.size (w18.heap.size :: []) P) z.v.kids _) := par_set (par_grow HLzv.out (kept_trans Kk12.out (kept_trans Kk17.out (kept_trans Kk35.out Kk41.out))) (List.forall_mem_cons.2 ⟨(Or.inr (Nat.le_trans (Below.size (kept_trans Kk12.out (kept_trans Kk17.out Kk35.out))) (Nat.le_refl w18.heap.size))), (fun _ h => nomatch h)⟩)) hW37 (List.mem_cons_self ..) (by have := HG42.out; have := Z0.out; omega)
      have HL54 : Hid (LiesQ W37 (Par w V0.heap.size (w18.heap.size :: []) P) z.a.kids _) := par_set (par_grow HLzx.out (kept_trans Kk12.out (kept_trans Kk17.out (kept_trans Kk35.out Kk41.out))) (List.forall_mem_cons.2 ⟨(Or.inr (Nat.le_trans (Below.size (kept_trans Kk12.out (kept_trans Kk17.out Kk35.out))) (Nat.le_refl w18.heap.size))), (fun _ h => nomatch h)⟩)) hW37 (List.mem_cons_self ..) (by have := HG42.out; have := Z0.out; omega)
      have XL55 := Lib.hid (xlt_set XL43.out hW37)
      have HX56 := Lib.hid (blk_same Hx38.out hW37)
      clear hW37
      have ld57 := partN_cell (r := V0.heap.size) HX56.out trivial 0 (.bool false) rfl
      have ld58 := partN_cell (r := V0.heap.size) HX56.out trivial 16 (.int .i64 0) rfl
      have kvV0 : SeesN V0 V0.heap.size W37 := seesN_kept _ KB45.out
      have kvW37 : SeesN W37 V0.heap.size W37 := seesN_kept _ (kept_refl _)
      go_wp2_with fail
      clear kvV0
      clear kvW37
      refine (of12two_any c y z (Par w V0.heap.size (w18.heap.size :: []) P) W37 ((.slice ac c.length cc)) bmo omo capmo _ _ _ ((.slice ayu y.u.kids.length cyu)) ((.slice ayv y.v.kids.length cyv)) ((.slice ayx y.a.kids.length cyx)) ((.slice azu z.u.kids.length czu)) ((.slice azv z.v.kids.length czv)) ((.slice azx z.a.kids.length czx)) (HEc.out.keep KB44.out) Gy.out Gz.out HL49.out HL50.out HL51.out HL52.out HL53.out HL54.out (blk_at HBmo.out KB45.out) HSmo0.out HSmo1.out (Nat.le_trans HIhg16.out.1.1 (by decide)) (Nat.le_trans (HIhg16.out.2.2 _ (List.mem_cons_self ..)).1 (by decide)) (Nat.le_trans (HIhg16.out.2.2 _ (List.mem_cons_of_mem _ (List.mem_cons_self ..))).2.1 (by decide))).mono ?_
      rintro e w59 ⟨rb61, J62, s63, s64, s65, rfl, hf69, ⟨hl66, hl67, hl68⟩, hi70, k60⟩
      cases rb61 with
      | false =>
        have Hhf69 := Lib.hid hf69
        clear hf69
        (try clear hi70)
        obtain ⟨a71, c72, S73, rfl, -⟩ := hl66.out
        obtain ⟨a74, c75, S76, rfl, -⟩ := hl67.out
        obtain ⟨a77, c78, S79, rfl, -⟩ := hl68.out
        have Kk80 := Lib.hid k60
        clear k60
        have Hhl66 : Hid (LiesQ w59 (Par w V0.heap.size (w18.heap.size :: []) P) J62.u.kids _) := par_give hl66 (Below.size KB45.out) XL55.out
        have Hhl67 : Hid (LiesQ w59 (Par w V0.heap.size (w18.heap.size :: []) P) J62.v.kids _) := par_give hl67 (Below.size KB45.out) XL55.out
        have Hhl68 : Hid (LiesQ w59 (Par w V0.heap.size (w18.heap.size :: []) P) J62.a.kids _) := par_give hl68 (Below.size KB45.out) XL55.out
        clear hl66 hl67 hl68
        have kvV0 : SeesN V0 V0.heap.size w59 := seesN_kept _ (kept_trans KB45.out Kk80.out)
        have kvW37 : SeesN W37 V0.heap.size w59 := seesN_kept _ Kk80.out
        go_wp2_with (refine stop_store 34 (.tmp 9) (.tmp 29) rfl ?_)
        intro _
        refine wpList_store_part_n (by rfl) 34 (.tmp 9) (.tmp 29) rfl (w59.heap.size) 0 #[.bool J62.eq, .int .i64 J62.u.k, .int .i64 J62.u.i, .int .i64 J62.u.j, .int .i64 J62.u.n, (.slice a71 J62.u.kids.length c72), .int .i64 J62.v.k, .int .i64 J62.v.i, .int .i64 J62.v.j, .int .i64 J62.v.n, (.slice a74 J62.v.kids.length c75), .int .i64 J62.a.k, .int .i64 J62.a.i, .int .i64 J62.a.j, .int .i64 J62.a.n, (.slice a77 J62.a.kids.length c78), .int .i64 J62.i] (by rfl) (by rfl) 34 (by kernel_rfl) (row_ok rfl) ?_
        intro W81 hW81
        clear kvV0
        clear kvW37
        obtain ⟨k84, x83, z85⟩ := alloc1 hW81
        have Kk86 := Lib.hid k84
        clear k84
        have Hx83 := Lib.hid x83
        have Hz85 := Lib.hid z85
        clear x83 z85 hW81
        have HG87 : Hid (V0.heap.size ≤ w59.heap.size) := (Below.size (kept_trans KB45.out Kk80.out))
        have AP88 : Hid (w18.heap.size < w59.heap.size) := block_lt (blk_at HX56.out Kk80.out)
        have XL89 : Hid (XLt (w59.heap.size :: (w18.heap.size :: [])) W81) := (xlt_more (xlt_later XL55.out Kk80.out) Kk86.out (by have := Hz85.out; omega))
        refine ⟨_, #[.bool J62.eq, .int .i64 J62.u.k, .int .i64 J62.u.i, .int .i64 J62.u.j, .int .i64 J62.u.n, (.slice a71 J62.u.kids.length c72), .int .i64 J62.v.k, .int .i64 J62.v.i, .int .i64 J62.v.j, .int .i64 J62.v.n, (.slice a74 J62.v.kids.length c75), .int .i64 J62.a.k, .int .i64 J62.a.i, .int .i64 J62.a.j, .int .i64 J62.a.n, (.slice a77 J62.a.kids.length c78), .int .i64 J62.i], Hx83.out, rfl, Nat.le_of_ble_eq_true rfl, ?_⟩
        intro W82 hW82
        have KB90 := Lib.hid (kept_set (kept_trans KB44.out (kept_trans Kk80.out Kk86.out)) hW82 (by have := HG87.out; have := Z0.out; omega))
        have KB91 := Lib.hid (kept_set (kept_trans KB45.out (kept_trans Kk80.out Kk86.out)) hW82 HG87.out)
        have HL92 : Hid (LiesQ W82 (Par w V0.heap.size (w59.heap.size :: (w18.heap.size :: [])) P) Tm.zero.kids _) := par_set (par_grow HL46.out (kept_trans Kk80.out Kk86.out) (List.forall_mem_cons.2 ⟨(Or.inr (Nat.le_trans (Below.size Kk80.out) (Nat.le_refl w59.heap.size))), (List.forall_mem_cons.2 ⟨(Or.inl (List.mem_cons_self ..)), (fun _ h => nomatch h)⟩)⟩)) hW82 (List.mem_cons_self ..) (by have := HG87.out; have := Z0.out; omega)
        have HL93 : Hid (LiesQ W82 (Par w V0.heap.size (w59.heap.size :: (w18.heap.size :: [])) P) Tm.zero.kids _) := par_set (par_grow HL47.out (kept_trans Kk80.out Kk86.out) (List.forall_mem_cons.2 ⟨(Or.inr (Nat.le_trans (Below.size Kk80.out) (Nat.le_refl w59.heap.size))), (List.forall_mem_cons.2 ⟨(Or.inl (List.mem_cons_self ..)), (fun _ h => nomatch h)⟩)⟩)) hW82 (List.mem_cons_self ..) (by have := HG87.out; have := Z0.out; omega)
        have HL94 : Hid (LiesQ W82 (Par w V0.heap.size (w59.heap.size :: (w18.heap.size :: [])) P) Tm.zero.kids _) := par_set (par_grow HL48.out (kept_trans Kk80.out Kk86.out) (List.forall_mem_cons.2 ⟨(Or.inr (Nat.le_trans (Below.size Kk80.out) (Nat.le_refl w59.heap.size))), (List.forall_mem_cons.2 ⟨(Or.inl (List.mem_cons_self ..)), (fun _ h => nomatch h)⟩)⟩)) hW82 (List.mem_cons_self ..) (by have := HG87.out; have := Z0.out; omega)
        have HL95 : Hid (LiesQ W82 (Par w V0.heap.size (w59.heap.size :: (w18.heap.size :: [])) P) J62.u.kids _) := par_set (par_grow Hhl66.out Kk86.out (List.forall_mem_cons.2 ⟨(Or.inr (Nat.le_refl w59.heap.size)), (List.forall_mem_cons.2 ⟨(Or.inl (List.mem_cons_self ..)), (fun _ h => nomatch h)⟩)⟩)) hW82 (List.mem_cons_self ..) (by have := HG87.out; have := Z0.out; omega)
        have HL96 : Hid (LiesQ W82 (Par w V0.heap.size (w59.heap.size :: (w18.heap.size :: [])) P) J62.v.kids _) := par_set (par_grow Hhl67.out Kk86.out (List.forall_mem_cons.2 ⟨(Or.inr (Nat.le_refl w59.heap.size)), (List.forall_mem_cons.2 ⟨(Or.inl (List.mem_cons_self ..)), (fun _ h => nomatch h)⟩)⟩)) hW82 (List.mem_cons_self ..) (by have := HG87.out; have := Z0.out; omega)
        have HL97 : Hid (LiesQ W82 (Par w V0.heap.size (w59.heap.size :: (w18.heap.size :: [])) P) J62.a.kids _) := par_set (par_grow Hhl68.out Kk86.out (List.forall_mem_cons.2 ⟨(Or.inr (Nat.le_refl w59.heap.size)), (List.forall_mem_cons.2 ⟨(Or.inl (List.mem_cons_self ..)), (fun _ h => nomatch h)⟩)⟩)) hW82 (List.mem_cons_self ..) (by have := HG87.out; have := Z0.out; omega)
        have HL98 : Hid (LiesQ W82 (Par w V0.heap.size (w59.heap.size :: (w18.heap.size :: [])) P) y.u.kids _) := par_set (par_grow HL49.out (kept_trans Kk80.out Kk86.out) (List.forall_mem_cons.2 ⟨(Or.inr (Nat.le_trans (Below.size Kk80.out) (Nat.le_refl w59.heap.size))), (List.forall_mem_cons.2 ⟨(Or.inl (List.mem_cons_self ..)), (fun _ h => nomatch h)⟩)⟩)) hW82 (List.mem_cons_self ..) (by have := HG87.out; have := Z0.out; omega)
        have HL99 : Hid (LiesQ W82 (Par w V0.heap.size (w59.heap.size :: (w18.heap.size :: [])) P) y.v.kids _) := par_set (par_grow HL50.out (kept_trans Kk80.out Kk86.out) (List.forall_mem_cons.2 ⟨(Or.inr (Nat.le_trans (Below.size Kk80.out) (Nat.le_refl w59.heap.size))), (List.forall_mem_cons.2 ⟨(Or.inl (List.mem_cons_self ..)), (fun _ h => nomatch h)⟩)⟩)) hW82 (List.mem_cons_self ..) (by have := HG87.out; have := Z0.out; omega)
        have HL100 : Hid (LiesQ W82 (Par w V0.heap.size (w59.heap.size :: (w18.heap.size :: [])) P) y.a.kids _) := par_set (par_grow HL51.out (kept_trans Kk80.out Kk86.out) (List.forall_mem_cons.2 ⟨(Or.inr (Nat.le_trans (Below.size Kk80.out) (Nat.le_refl w59.heap.size))), (List.forall_mem_cons.2 ⟨(Or.inl (List.mem_cons_self ..)), (fun _ h => nomatch h)⟩)⟩)) hW82 (List.mem_cons_self ..) (by have := HG87.out; have := Z0.out; omega)
        have HL101 : Hid (LiesQ W82 (Par w V0.heap.size (w59.heap.size :: (w18.heap.size :: [])) P) z.u.kids _) := par_set (par_grow HL52.out (kept_trans Kk80.out Kk86.out) (List.forall_mem_cons.2 ⟨(Or.inr (Nat.le_trans (Below.size Kk80.out) (Nat.le_refl w59.heap.size))), (List.forall_mem_cons.2 ⟨(Or.inl (List.mem_cons_self ..)), (fun _ h => nomatch h)⟩)⟩)) hW82 (List.mem_cons_self ..) (by have := HG87.out; have := Z0.out; omega)
        have HL102 : Hid (LiesQ W82 (Par w V0.heap.size (w59.heap.size :: (w18.heap.size :: [])) P) z.v.kids _) := par_set (par_grow HL53.out (kept_trans Kk80.out Kk86.out) (List.forall_mem_cons.2 ⟨(Or.inr (Nat.le_trans (Below.size Kk80.out) (Nat.le_refl w59.heap.size))), (List.forall_mem_cons.2 ⟨(Or.inl (List.mem_cons_self ..)), (fun _ h => nomatch h)⟩)⟩)) hW82 (List.mem_cons_self ..) (by have := HG87.out; have := Z0.out; omega)
        have HL103 : Hid (LiesQ W82 (Par w V0.heap.size (w59.heap.size :: (w18.heap.size :: [])) P) z.a.kids _) := par_set (par_grow HL54.out (kept_trans Kk80.out Kk86.out) (List.forall_mem_cons.2 ⟨(Or.inr (Nat.le_trans (Below.size Kk80.out) (Nat.le_refl w59.heap.size))), (List.forall_mem_cons.2 ⟨(Or.inl (List.mem_cons_self ..)), (fun _ h => nomatch h)⟩)⟩)) hW82 (List.mem_cons_self ..) (by have := HG87.out; have := Z0.out; omega)
        have XL104 := Lib.hid (xlt_set XL89.out hW82)
        have HX105 := Lib.hid (blk_other (blk_at HX56.out (kept_trans Kk80.out Kk86.out)) hW82 (by have := AP88.out; omega))
        have HX106 := Lib.hid (blk_same Hx83.out hW82)
        (try clear ld57)
        (try clear ld58)
        clear hW82
        have ld107 := partN_cell (r := V0.heap.size) HX105.out trivial 0 (.bool false) rfl
        have ld108 := partN_cell (r := V0.heap.size) HX105.out trivial 16 (.int .i64 0) rfl
        have ld109 := partN_cell (r := V0.heap.size) HX106.out trivial 16 (.int .i64 J62.i) rfl
        have kvV0 : SeesN V0 V0.heap.size W82 := seesN_kept _ KB91.out
        have kvW82 : SeesN W82 V0.heap.size W82 := seesN_kept _ (kept_refl _)
        go_wp2_with fail
        clear kvV0
        clear kvW82
        refine (wakes15_any _).mono ?_
        rintro e w110 ⟨rfl, k111⟩
        have Kk112 := Lib.hid k111
        clear k111
        have kvV0 : SeesN V0 V0.heap.size w110 := seesN_kept _ (kept_trans KB91.out Kk112.out)
        have kvW82 : SeesN W82 V0.heap.size w110 := seesN_kept _ Kk112.out
        go_wp2
        go_ret
        exact ⟨rfl, (kept_trans KB90.out Kk112.out)⟩
      | true =>
        obtain rfl := hi70 rfl
        (try clear hf69 hi70)
        obtain ⟨a113, c114, S115, rfl, -⟩ := hl66.out
        obtain ⟨a116, c117, S118, rfl, -⟩ := hl67.out
        obtain ⟨a119, c120, S121, rfl, -⟩ := hl68.out
        have Kk122 := Lib.hid k60
        clear k60
        have Hhl66 : Hid (LiesQ w59 (Par w V0.heap.size (w18.heap.size :: []) P) y.u.kids _) := par_give hl66 (Below.size KB45.out) XL55.out
        have Hhl67 : Hid (LiesQ w59 (Par w V0.heap.size (w18.heap.size :: []) P) Tm.zero.kids _) := par_give hl67 (Below.size KB45.out) XL55.out
        have Hhl68 : Hid (LiesQ w59 (Par w V0.heap.size (w18.heap.size :: []) P) z.v.kids _) := par_give hl68 (Below.size KB45.out) XL55.out
        clear hl66 hl67 hl68
        have kvV0 : SeesN V0 V0.heap.size w59 := seesN_kept _ (kept_trans KB45.out Kk122.out)
        have kvW37 : SeesN W37 V0.heap.size w59 := seesN_kept _ Kk122.out
        go_wp2_with (refine stop_store 34 (.tmp 9) (.tmp 29) rfl ?_)
        intro _
        refine wpList_store_part_n (by rfl) 34 (.tmp 9) (.tmp 29) rfl (w59.heap.size) 0 #[.bool false, .int .i64 y.u.k, .int .i64 y.u.i, .int .i64 y.u.j, .int .i64 y.u.n, (.slice a113 y.u.kids.length c114), .int .i64 Tm.zero.k, .int .i64 Tm.zero.i, .int .i64 Tm.zero.j, .int .i64 Tm.zero.n, (.slice a116 Tm.zero.kids.length c117), .int .i64 z.v.k, .int .i64 z.v.i, .int .i64 z.v.j, .int .i64 z.v.n, (.slice a119 z.v.kids.length c120), .int .i64 y.i] (by rfl) (by rfl) 34 (by kernel_rfl) (row_ok rfl) ?_
        intro W123 hW123
        clear kvV0
        clear kvW37
        obtain ⟨k126, x125, z127⟩ := alloc1 hW123
        have Kk128 := Lib.hid k126
        clear k126
        have Hx125 := Lib.hid x125
        have Hz127 := Lib.hid z127
        clear x125 z127 hW123
        have HG129 : Hid (V0.heap.size ≤ w59.heap.size) := (Below.size (kept_trans KB45.out Kk122.out))
        have AP130 : Hid (w18.heap.size < w59.heap.size) := block_lt (blk_at HX56.out Kk122.out)
        have XL131 : Hid (XLt (w59.heap.size :: (w18.heap.size :: [])) W123) := (xlt_more (xlt_later XL55.out Kk122.out) Kk128.out (by have := Hz127.out; omega))
        refine ⟨_, #[.bool false, .int .i64 y.u.k, .int .i64 y.u.i, .int .i64 y.u.j, .int .i64 y.u.n, (.slice a113 y.u.kids.length c114), .int .i64 Tm.zero.k, .int .i64 Tm.zero.i, .int .i64 Tm.zero.j, .int .i64 Tm.zero.n, (.slice a116 Tm.zero.kids.length c117), .int .i64 z.v.k, .int .i64 z.v.i, .int .i64 z.v.j, .int .i64 z.v.n, (.slice a119 z.v.kids.length c120), .int .i64 y.i], Hx125.out, rfl, Nat.le_of_ble_eq_true rfl, ?_⟩
        intro W124 hW124
        have KB132 := Lib.hid (kept_set (kept_trans KB44.out (kept_trans Kk122.out Kk128.out)) hW124 (by have := HG129.out; have := Z0.out; omega))
        have KB133 := Lib.hid (kept_set (kept_trans KB45.out (kept_trans Kk122.out Kk128.out)) hW124 HG129.out)
        have HL134 : Hid (LiesQ W124 (Par w V0.heap.size (w59.heap.size :: (w18.heap.size :: [])) P) Tm.zero.kids _) := par_set (par_grow HL46.out (kept_trans Kk122.out Kk128.out) (List.forall_mem_cons.2 ⟨(Or.inr (Nat.le_trans (Below.size Kk122.out) (Nat.le_refl w59.heap.size))), (List.forall_mem_cons.2 ⟨(Or.inl (List.mem_cons_self ..)), (fun _ h => nomatch h)⟩)⟩)) hW124 (List.mem_cons_self ..) (by have := HG129.out; have := Z0.out; omega)
        have HL135 : Hid (LiesQ W124 (Par w V0.heap.size (w59.heap.size :: (w18.heap.size :: [])) P) Tm.zero.kids _) := par_set (par_grow HL47.out (kept_trans Kk122.out Kk128.out) (List.forall_mem_cons.2 ⟨(Or.inr (Nat.le_trans (Below.size Kk122.out) (Nat.le_refl w59.heap.size))), (List.forall_mem_cons.2 ⟨(Or.inl (List.mem_cons_self ..)), (fun _ h => nomatch h)⟩)⟩)) hW124 (List.mem_cons_self ..) (by have := HG129.out; have := Z0.out; omega)
        have HL136 : Hid (LiesQ W124 (Par w V0.heap.size (w59.heap.size :: (w18.heap.size :: [])) P) Tm.zero.kids _) := par_set (par_grow HL48.out (kept_trans Kk122.out Kk128.out) (List.forall_mem_cons.2 ⟨(Or.inr (Nat.le_trans (Below.size Kk122.out) (Nat.le_refl w59.heap.size))), (List.forall_mem_cons.2 ⟨(Or.inl (List.mem_cons_self ..)), (fun _ h => nomatch h)⟩)⟩)) hW124 (List.mem_cons_self ..) (by have := HG129.out; have := Z0.out; omega)
        have HL137 : Hid (LiesQ W124 (Par w V0.heap.size (w59.heap.size :: (w18.heap.size :: [])) P) y.u.kids _) := par_set (par_grow Hhl66.out Kk128.out (List.forall_mem_cons.2 ⟨(Or.inr (Nat.le_refl w59.heap.size)), (List.forall_mem_cons.2 ⟨(Or.inl (List.mem_cons_self ..)), (fun _ h => nomatch h)⟩)⟩)) hW124 (List.mem_cons_self ..) (by have := HG129.out; have := Z0.out; omega)
        have HL138 : Hid (LiesQ W124 (Par w V0.heap.size (w59.heap.size :: (w18.heap.size :: [])) P) Tm.zero.kids _) := par_set (par_grow Hhl67.out Kk128.out (List.forall_mem_cons.2 ⟨(Or.inr (Nat.le_refl w59.heap.size)), (List.forall_mem_cons.2 ⟨(Or.inl (List.mem_cons_self ..)), (fun _ h => nomatch h)⟩)⟩)) hW124 (List.mem_cons_self ..) (by have := HG129.out; have := Z0.out; omega)
        have HL139 : Hid (LiesQ W124 (Par w V0.heap.size (w59.heap.size :: (w18.heap.size :: [])) P) z.v.kids _) := par_set (par_grow Hhl68.out Kk128.out (List.forall_mem_cons.2 ⟨(Or.inr (Nat.le_refl w59.heap.size)), (List.forall_mem_cons.2 ⟨(Or.inl (List.mem_cons_self ..)), (fun _ h => nomatch h)⟩)⟩)) hW124 (List.mem_cons_self ..) (by have := HG129.out; have := Z0.out; omega)
        have HL140 : Hid (LiesQ W124 (Par w V0.heap.size (w59.heap.size :: (w18.heap.size :: [])) P) y.u.kids _) := par_set (par_grow HL49.out (kept_trans Kk122.out Kk128.out) (List.forall_mem_cons.2 ⟨(Or.inr (Nat.le_trans (Below.size Kk122.out) (Nat.le_refl w59.heap.size))), (List.forall_mem_cons.2 ⟨(Or.inl (List.mem_cons_self ..)), (fun _ h => nomatch h)⟩)⟩)) hW124 (List.mem_cons_self ..) (by have := HG129.out; have := Z0.out; omega)
        have HL141 : Hid (LiesQ W124 (Par w V0.heap.size (w59.heap.size :: (w18.heap.size :: [])) P) y.v.kids _) := par_set (par_grow HL50.out (kept_trans Kk122.out Kk128.out) (List.forall_mem_cons.2 ⟨(Or.inr (Nat.le_trans (Below.size Kk122.out) (Nat.le_refl w59.heap.size))), (List.forall_mem_cons.2 ⟨(Or.inl (List.mem_cons_self ..)), (fun _ h => nomatch h)⟩)⟩)) hW124 (List.mem_cons_self ..) (by have := HG129.out; have := Z0.out; omega)
        have HL142 : Hid (LiesQ W124 (Par w V0.heap.size (w59.heap.size :: (w18.heap.size :: [])) P) y.a.kids _) := par_set (par_grow HL51.out (kept_trans Kk122.out Kk128.out) (List.forall_mem_cons.2 ⟨(Or.inr (Nat.le_trans (Below.size Kk122.out) (Nat.le_refl w59.heap.size))), (List.forall_mem_cons.2 ⟨(Or.inl (List.mem_cons_self ..)), (fun _ h => nomatch h)⟩)⟩)) hW124 (List.mem_cons_self ..) (by have := HG129.out; have := Z0.out; omega)
        have HL143 : Hid (LiesQ W124 (Par w V0.heap.size (w59.heap.size :: (w18.heap.size :: [])) P) z.u.kids _) := par_set (par_grow HL52.out (kept_trans Kk122.out Kk128.out) (List.forall_mem_cons.2 ⟨(Or.inr (Nat.le_trans (Below.size Kk122.out) (Nat.le_refl w59.heap.size))), (List.forall_mem_cons.2 ⟨(Or.inl (List.mem_cons_self ..)), (fun _ h => nomatch h)⟩)⟩)) hW124 (List.mem_cons_self ..) (by have := HG129.out; have := Z0.out; omega)
        have HL144 : Hid (LiesQ W124 (Par w V0.heap.size (w59.heap.size :: (w18.heap.size :: [])) P) z.v.kids _) := par_set (par_grow HL53.out (kept_trans Kk122.out Kk128.out) (List.forall_mem_cons.2 ⟨(Or.inr (Nat.le_trans (Below.size Kk122.out) (Nat.le_refl w59.heap.size))), (List.forall_mem_cons.2 ⟨(Or.inl (List.mem_cons_self ..)), (fun _ h => nomatch h)⟩)⟩)) hW124 (List.mem_cons_self ..) (by have := HG129.out; have := Z0.out; omega)
        have HL145 : Hid (LiesQ W124 (Par w V0.heap.size (w59.heap.size :: (w18.heap.size :: [])) P) z.a.kids _) := par_set (par_grow HL54.out (kept_trans Kk122.out Kk128.out) (List.forall_mem_cons.2 ⟨(Or.inr (Nat.le_trans (Below.size Kk122.out) (Nat.le_refl w59.heap.size))), (List.forall_mem_cons.2 ⟨(Or.inl (List.mem_cons_self ..)), (fun _ h => nomatch h)⟩)⟩)) hW124 (List.mem_cons_self ..) (by have := HG129.out; have := Z0.out; omega)
        have XL146 := Lib.hid (xlt_set XL131.out hW124)
        have HX147 := Lib.hid (blk_other (blk_at HX56.out (kept_trans Kk122.out Kk128.out)) hW124 (by have := AP130.out; omega))
        have HX148 := Lib.hid (blk_same Hx125.out hW124)
        (try clear ld57)
        (try clear ld58)
        clear hW124
        have ld149 := partN_cell (r := V0.heap.size) HX147.out trivial 0 (.bool false) rfl
        have ld150 := partN_cell (r := V0.heap.size) HX147.out trivial 16 (.int .i64 0) rfl
        have ld151 := partN_cell (r := V0.heap.size) HX148.out trivial 16 (.int .i64 y.i) rfl
        have kvV0 : SeesN V0 V0.heap.size W124 := seesN_kept _ KB133.out
        have kvW124 : SeesN W124 V0.heap.size W124 := seesN_kept _ (kept_refl _)
        go_wp2_with fail
        clear kvV0
        clear kvW124
        refine (wakes15_any _).mono ?_
        rintro e w152 ⟨rfl, k153⟩
        have Kk154 := Lib.hid k153
        clear k153
        have kvV0 : SeesN V0 V0.heap.size w152 := seesN_kept _ (kept_trans KB133.out Kk154.out)
        have kvW124 : SeesN W124 V0.heap.size w152 := seesN_kept _ Kk154.out
        go_wp2
        go_ret
        exact ⟨rfl, (kept_trans KB132.out Kk154.out)⟩
    | true =>
      have kvV0 : SeesN V0 V0.heap.size w13 := seesN_kept _ (kept_trans Kk12.out Kk17.out)
      go_wp2
      go_ret
      exact ⟨rfl, (kept_trans Kk3.out (kept_trans Kk12.out Kk17.out))⟩
  | true =>
    have kvV0 : SeesN V0 V0.heap.size w8 := seesN_kept _ Kk12.out
    go_wp2
    go_ret
    exact ⟨rfl, (kept_trans Kk3.out Kk12.out)⟩

set_option maxRecDepth 20000 in
set_option maxHeartbeats 4000000 in
theorem levelsnn_any (c : List En) (on : List Jd) (more : List Jd) (w : World) (sc : Value) (son : Value) (smore : Value) (hlc : LiesE w c sc) (hlon : LiesJ w on son) (hlmore : LiesJ w more smore) (hneon : on.length ≠ 2) (hnemore : more.length ≠ 2) : Calls Try.prog 6 #[sc, son, smore] w fun e w' => e = .returned (.bool true) ∧ Kept w w' := by
  have HEc := Lib.hid hlc
  obtain ⟨ac, cc, Sc, rfl, -⟩ := hlc.out
  clear hlc
  have HEon := Lib.hid hlon
  obtain ⟨aon, con, Son, rfl, -⟩ := hlon.out
  clear hlon
  have HEmore := Lib.hid hlmore
  obtain ⟨amore, cmore, Smore, rfl, -⟩ := hlmore.out
  clear hlmore
  have HNEon := Lib.hid hneon
  clear hneon
  have HNEmore := Lib.hid hnemore
  clear hnemore
  obtain ⟨dj, dj1, dj2⟩ := under_of 34 (by kernel_rfl)
  obtain ⟨du, hu1, hu2⟩ := under_term
  go_enter Try.func6, Try.ntmps6
  go_upto_region 1 with fail
  refine at_code (fun V0 hV0 => ?_)
  have k1 : Kept w V0 := by rw [← hV0]; exact kept_refl _
  have Z0 : Hid (V0.heap.size = w.heap.size + 0) := by show _ = _; rw [← hV0]; rfl
  clear hV0
  have Kk3 := Lib.hid k1
  clear k1
  have kvV0 : SeesN V0 V0.heap.size V0 := seesN_kept _ (kept_refl _)
  go_wp2_with fail
  clear kvV0
  refine (lheavy15_any c on _ ((.slice ac c.length cc)) ((.slice aon on.length con)) (HEc.out.keep Kk3.out) (HEon.out.keep Kk3.out)).mono ?_
  rintro e w4 ⟨gb6, rfl, hg7, k5⟩
  have Hhg7 := Lib.hid hg7
  clear hg7
  have Kk8 := Lib.hid k5
  clear k5
  cases gb6 with
  | false =>
    have HIhg7 := Lib.hid (Hhg7.out rfl)
    have kvV0 : SeesN V0 V0.heap.size w4 := seesN_kept _ Kk8.out
    go_wp2_with fail
    clear kvV0
    refine (lheavy15_any c more _ ((.slice ac c.length cc)) ((.slice amore more.length cmore)) (HEc.out.keep (kept_trans Kk3.out Kk8.out)) (HEmore.out.keep (kept_trans Kk3.out Kk8.out))).mono ?_
    rintro e w9 ⟨gb11, rfl, hg12, k10⟩
    have Hhg12 := Lib.hid hg12
    clear hg12
    have Kk13 := Lib.hid k10
    clear k10
    cases gb11 with
    | false =>
      have HIhg12 := Lib.hid (Hhg12.out rfl)
      have kvV0 : SeesN V0 V0.heap.size w9 := seesN_kept _ (kept_trans Kk8.out Kk13.out)
      go_wp2_with fail
      clear kvV0
      refine (of12ne_any c on (Par w V0.heap.size [] (fun _ => False)) w9 ((.slice ac c.length cc)) _ (HEc.out.keep (kept_trans Kk3.out (kept_trans Kk8.out Kk13.out))) (HEon.out.keep (kept_trans Kk3.out (kept_trans Kk8.out Kk13.out))) HNEon.out).mono ?_
      rintro e w14 ⟨s16, s17, s18, rfl, ⟨hl19, hl20, hl21⟩, k15⟩
      obtain ⟨a22, c23, S24, rfl, -⟩ := hl19.out
      obtain ⟨a25, c26, S27, rfl, -⟩ := hl20.out
      obtain ⟨a28, c29, S30, rfl, -⟩ := hl21.out
      have Kk31 := Lib.hid k15
      clear k15
      have Hhl19 : Hid (LiesQ w14 (Par w V0.heap.size [] (fun _ => False)) Tm.zero.kids _) := par_give hl19 (Below.size (kept_trans Kk8.out Kk13.out)) (xlt_nil _)
      have Hhl20 : Hid (LiesQ w14 (Par w V0.heap.size [] (fun _ => False)) Tm.zero.kids _) := par_give hl20 (Below.size (kept_trans Kk8.out Kk13.out)) (xlt_nil _)
      have Hhl21 : Hid (LiesQ w14 (Par w V0.heap.size [] (fun _ => False)) Tm.zero.kids _) := par_give hl21 (Below.size (kept_trans Kk8.out Kk13.out)) (xlt_nil _)
      clear hl19 hl20 hl21
      have kvV0 : SeesN V0 V0.heap.size w14 := seesN_kept _ (kept_trans Kk8.out (kept_trans Kk13.out Kk31.out))
      go_wp2_with (refine stop_store 34 (.tmp 7) (.tmp 23) rfl ?_)
      intro _
      refine wpList_store_part_n (by rfl) 34 (.tmp 7) (.tmp 23) rfl (w14.heap.size) 0 #[.bool false, .int .i64 Tm.zero.k, .int .i64 Tm.zero.i, .int .i64 Tm.zero.j, .int .i64 Tm.zero.n, (.slice a22 Tm.zero.kids.length c23), .int .i64 Tm.zero.k, .int .i64 Tm.zero.i, .int .i64 Tm.zero.j, .int .i64 Tm.zero.n, (.slice a25 Tm.zero.kids.length c26), .int .i64 Tm.zero.k, .int .i64 Tm.zero.i, .int .i64 Tm.zero.j, .int .i64 Tm.zero.n, (.slice a28 Tm.zero.kids.length c29), .int .i64 0] (by rfl) (by rfl) 34 (by kernel_rfl) (row_ok rfl) ?_
      intro W32 hW32
      clear kvV0
      obtain ⟨k35, x34, z36⟩ := alloc1 hW32
      have Kk37 := Lib.hid k35
      clear k35
      have Hx34 := Lib.hid x34
      have Hz36 := Lib.hid z36
      clear x34 z36 hW32
      have HG38 : Hid (V0.heap.size ≤ w14.heap.size) := (Below.size (kept_trans Kk8.out (kept_trans Kk13.out Kk31.out)))
      have XL39 : Hid (XLt (w14.heap.size :: []) W32) := (xlt_more (xlt_nil _) Kk37.out (by have := Hz36.out; omega))
      refine ⟨_, #[.bool false, .int .i64 Tm.zero.k, .int .i64 Tm.zero.i, .int .i64 Tm.zero.j, .int .i64 Tm.zero.n, (.slice a22 Tm.zero.kids.length c23), .int .i64 Tm.zero.k, .int .i64 Tm.zero.i, .int .i64 Tm.zero.j, .int .i64 Tm.zero.n, (.slice a25 Tm.zero.kids.length c26), .int .i64 Tm.zero.k, .int .i64 Tm.zero.i, .int .i64 Tm.zero.j, .int .i64 Tm.zero.n, (.slice a28 Tm.zero.kids.length c29), .int .i64 0], Hx34.out, rfl, Nat.le_of_ble_eq_true rfl, ?_⟩
      intro W33 hW33
      have KB40 := Lib.hid (kept_set (kept_trans Kk3.out (kept_trans Kk8.out (kept_trans Kk13.out (kept_trans Kk31.out Kk37.out)))) hW33 (by have := HG38.out; have := Z0.out; omega))
      have KB41 := Lib.hid (kept_set (kept_trans Kk8.out (kept_trans Kk13.out (kept_trans Kk31.out Kk37.out))) hW33 HG38.out)
      have HL42 : Hid (LiesQ W33 (Par w V0.heap.size (w14.heap.size :: []) (fun _ => False)) Tm.zero.kids _) := par_set (par_grow Hhl19.out Kk37.out (List.forall_mem_cons.2 ⟨(Or.inr (Nat.le_refl w14.heap.size)), (fun _ h => nomatch h)⟩)) hW33 (List.mem_cons_self ..) (by have := HG38.out; have := Z0.out; omega)
      have HL43 : Hid (LiesQ W33 (Par w V0.heap.size (w14.heap.size :: []) (fun _ => False)) Tm.zero.kids _) := par_set (par_grow Hhl20.out Kk37.out (List.forall_mem_cons.2 ⟨(Or.inr (Nat.le_refl w14.heap.size)), (fun _ h => nomatch h)⟩)) hW33 (List.mem_cons_self ..) (by have := HG38.out; have := Z0.out; omega)
      have HL44 : Hid (LiesQ W33 (Par w V0.heap.size (w14.heap.size :: []) (fun _ => False)) Tm.zero.kids _) := par_set (par_grow Hhl21.out Kk37.out (List.forall_mem_cons.2 ⟨(Or.inr (Nat.le_refl w14.heap.size)), (fun _ h => nomatch h)⟩)) hW33 (List.mem_cons_self ..) (by have := HG38.out; have := Z0.out; omega)
      have XL45 := Lib.hid (xlt_set XL39.out hW33)
      have HX46 := Lib.hid (blk_same Hx34.out hW33)
      clear hW33
      have ld47 := partN_cell (r := V0.heap.size) HX46.out trivial 0 (.bool false) rfl
      have ld48 := partN_cell (r := V0.heap.size) HX46.out trivial 16 (.int .i64 0) rfl
      have kvV0 : SeesN V0 V0.heap.size W33 := seesN_kept _ KB41.out
      have kvW33 : SeesN W33 V0.heap.size W33 := seesN_kept _ (kept_refl _)
      go_wp2_with fail
      clear kvV0
      clear kvW33
      refine (of12ne_any c more (Par w V0.heap.size (w14.heap.size :: []) (fun _ => False)) W33 ((.slice ac c.length cc)) _ (HEc.out.keep KB40.out) (HEmore.out.keep KB40.out) HNEmore.out).mono ?_
      rintro e w49 ⟨s51, s52, s53, rfl, ⟨hl54, hl55, hl56⟩, k50⟩
      obtain ⟨a57, c58, S59, rfl, -⟩ := hl54.out
      obtain ⟨a60, c61, S62, rfl, -⟩ := hl55.out
      obtain ⟨a63, c64, S65, rfl, -⟩ := hl56.out
      have Kk66 := Lib.hid k50
      clear k50
      have Hhl54 : Hid (LiesQ w49 (Par w V0.heap.size (w14.heap.size :: []) (fun _ => False)) Tm.zero.kids _) := par_give hl54 (Below.size KB41.out) XL45.out
      have Hhl55 : Hid (LiesQ w49 (Par w V0.heap.size (w14.heap.size :: []) (fun _ => False)) Tm.zero.kids _) := par_give hl55 (Below.size KB41.out) XL45.out
      have Hhl56 : Hid (LiesQ w49 (Par w V0.heap.size (w14.heap.size :: []) (fun _ => False)) Tm.zero.kids _) := par_give hl56 (Below.size KB41.out) XL45.out
      clear hl54 hl55 hl56
      have kvV0 : SeesN V0 V0.heap.size w49 := seesN_kept _ (kept_trans KB41.out Kk66.out)
      have kvW33 : SeesN W33 V0.heap.size w49 := seesN_kept _ Kk66.out
      go_wp2_with (refine stop_store 34 (.tmp 9) (.tmp 29) rfl ?_)
      intro _
      refine wpList_store_part_n (by rfl) 34 (.tmp 9) (.tmp 29) rfl (w49.heap.size) 0 #[.bool false, .int .i64 Tm.zero.k, .int .i64 Tm.zero.i, .int .i64 Tm.zero.j, .int .i64 Tm.zero.n, (.slice a57 Tm.zero.kids.length c58), .int .i64 Tm.zero.k, .int .i64 Tm.zero.i, .int .i64 Tm.zero.j, .int .i64 Tm.zero.n, (.slice a60 Tm.zero.kids.length c61), .int .i64 Tm.zero.k, .int .i64 Tm.zero.i, .int .i64 Tm.zero.j, .int .i64 Tm.zero.n, (.slice a63 Tm.zero.kids.length c64), .int .i64 0] (by rfl) (by rfl) 34 (by kernel_rfl) (row_ok rfl) ?_
      intro W67 hW67
      clear kvV0
      clear kvW33
      obtain ⟨k70, x69, z71⟩ := alloc1 hW67
      have Kk72 := Lib.hid k70
      clear k70
      have Hx69 := Lib.hid x69
      have Hz71 := Lib.hid z71
      clear x69 z71 hW67
      have HG73 : Hid (V0.heap.size ≤ w49.heap.size) := (Below.size (kept_trans KB41.out Kk66.out))
      have AP74 : Hid (w14.heap.size < w49.heap.size) := block_lt (blk_at HX46.out Kk66.out)
      have XL75 : Hid (XLt (w49.heap.size :: (w14.heap.size :: [])) W67) := (xlt_more (xlt_later XL45.out Kk66.out) Kk72.out (by have := Hz71.out; omega))
      refine ⟨_, #[.bool false, .int .i64 Tm.zero.k, .int .i64 Tm.zero.i, .int .i64 Tm.zero.j, .int .i64 Tm.zero.n, (.slice a57 Tm.zero.kids.length c58), .int .i64 Tm.zero.k, .int .i64 Tm.zero.i, .int .i64 Tm.zero.j, .int .i64 Tm.zero.n, (.slice a60 Tm.zero.kids.length c61), .int .i64 Tm.zero.k, .int .i64 Tm.zero.i, .int .i64 Tm.zero.j, .int .i64 Tm.zero.n, (.slice a63 Tm.zero.kids.length c64), .int .i64 0], Hx69.out, rfl, Nat.le_of_ble_eq_true rfl, ?_⟩
      intro W68 hW68
      have KB76 := Lib.hid (kept_set (kept_trans KB40.out (kept_trans Kk66.out Kk72.out)) hW68 (by have := HG73.out; have := Z0.out; omega))
      have KB77 := Lib.hid (kept_set (kept_trans KB41.out (kept_trans Kk66.out Kk72.out)) hW68 HG73.out)
      have HL78 : Hid (LiesQ W68 (Par w V0.heap.size (w49.heap.size :: (w14.heap.size :: [])) (fun _ => False)) Tm.zero.kids _) := par_set (par_grow HL42.out (kept_trans Kk66.out Kk72.out) (List.forall_mem_cons.2 ⟨(Or.inr (Nat.le_trans (Below.size Kk66.out) (Nat.le_refl w49.heap.size))), (List.forall_mem_cons.2 ⟨(Or.inl (List.mem_cons_self ..)), (fun _ h => nomatch h)⟩)⟩)) hW68 (List.mem_cons_self ..) (by have := HG73.out; have := Z0.out; omega)
      have HL79 : Hid (LiesQ W68 (Par w V0.heap.size (w49.heap.size :: (w14.heap.size :: [])) (fun _ => False)) Tm.zero.kids _) := par_set (par_grow HL43.out (kept_trans Kk66.out Kk72.out) (List.forall_mem_cons.2 ⟨(Or.inr (Nat.le_trans (Below.size Kk66.out) (Nat.le_refl w49.heap.size))), (List.forall_mem_cons.2 ⟨(Or.inl (List.mem_cons_self ..)), (fun _ h => nomatch h)⟩)⟩)) hW68 (List.mem_cons_self ..) (by have := HG73.out; have := Z0.out; omega)
      have HL80 : Hid (LiesQ W68 (Par w V0.heap.size (w49.heap.size :: (w14.heap.size :: [])) (fun _ => False)) Tm.zero.kids _) := par_set (par_grow HL44.out (kept_trans Kk66.out Kk72.out) (List.forall_mem_cons.2 ⟨(Or.inr (Nat.le_trans (Below.size Kk66.out) (Nat.le_refl w49.heap.size))), (List.forall_mem_cons.2 ⟨(Or.inl (List.mem_cons_self ..)), (fun _ h => nomatch h)⟩)⟩)) hW68 (List.mem_cons_self ..) (by have := HG73.out; have := Z0.out; omega)
      have HL81 : Hid (LiesQ W68 (Par w V0.heap.size (w49.heap.size :: (w14.heap.size :: [])) (fun _ => False)) Tm.zero.kids _) := par_set (par_grow Hhl54.out Kk72.out (List.forall_mem_cons.2 ⟨(Or.inr (Nat.le_refl w49.heap.size)), (List.forall_mem_cons.2 ⟨(Or.inl (List.mem_cons_self ..)), (fun _ h => nomatch h)⟩)⟩)) hW68 (List.mem_cons_self ..) (by have := HG73.out; have := Z0.out; omega)
      have HL82 : Hid (LiesQ W68 (Par w V0.heap.size (w49.heap.size :: (w14.heap.size :: [])) (fun _ => False)) Tm.zero.kids _) := par_set (par_grow Hhl55.out Kk72.out (List.forall_mem_cons.2 ⟨(Or.inr (Nat.le_refl w49.heap.size)), (List.forall_mem_cons.2 ⟨(Or.inl (List.mem_cons_self ..)), (fun _ h => nomatch h)⟩)⟩)) hW68 (List.mem_cons_self ..) (by have := HG73.out; have := Z0.out; omega)
      have HL83 : Hid (LiesQ W68 (Par w V0.heap.size (w49.heap.size :: (w14.heap.size :: [])) (fun _ => False)) Tm.zero.kids _) := par_set (par_grow Hhl56.out Kk72.out (List.forall_mem_cons.2 ⟨(Or.inr (Nat.le_refl w49.heap.size)), (List.forall_mem_cons.2 ⟨(Or.inl (List.mem_cons_self ..)), (fun _ h => nomatch h)⟩)⟩)) hW68 (List.mem_cons_self ..) (by have := HG73.out; have := Z0.out; omega)
      have XL84 := Lib.hid (xlt_set XL75.out hW68)
      have HX85 := Lib.hid (blk_other (blk_at HX46.out (kept_trans Kk66.out Kk72.out)) hW68 (by have := AP74.out; omega))
      have HX86 := Lib.hid (blk_same Hx69.out hW68)
      (try clear ld47)
      (try clear ld48)
      clear hW68
      have ld87 := partN_cell (r := V0.heap.size) HX85.out trivial 0 (.bool false) rfl
      have ld88 := partN_cell (r := V0.heap.size) HX85.out trivial 16 (.int .i64 0) rfl
      have ld89 := partN_cell (r := V0.heap.size) HX86.out trivial 16 (.int .i64 0) rfl
      have kvV0 : SeesN V0 V0.heap.size W68 := seesN_kept _ KB77.out
      have kvW68 : SeesN W68 V0.heap.size W68 := seesN_kept _ (kept_refl _)
      go_wp2_with fail
      clear kvV0
      clear kvW68
      refine (wakes15_any _).mono ?_
      rintro e w90 ⟨rfl, k91⟩
      have Kk92 := Lib.hid k91
      clear k91
      have kvV0 : SeesN V0 V0.heap.size w90 := seesN_kept _ (kept_trans KB77.out Kk92.out)
      have kvW68 : SeesN W68 V0.heap.size w90 := seesN_kept _ Kk92.out
      go_wp2
      go_ret
      exact ⟨rfl, (kept_trans KB76.out Kk92.out)⟩
    | true =>
      have kvV0 : SeesN V0 V0.heap.size w9 := seesN_kept _ (kept_trans Kk8.out Kk13.out)
      go_wp2
      go_ret
      exact ⟨rfl, (kept_trans Kk3.out (kept_trans Kk8.out Kk13.out))⟩
  | true =>
    have kvV0 : SeesN V0 V0.heap.size w4 := seesN_kept _ Kk8.out
    go_wp2
    go_ret
    exact ⟨rfl, (kept_trans Kk3.out Kk8.out)⟩

theorem ruleLevels_any (c : List En) (on more : List Jd) (w : World) (sc sj sk : Value) (hl : LiesE w c sc) (hj : LiesJ w on sj) (hk : LiesJ w more sk) : Calls Try.prog 6 #[sc, sj, sk] w fun e w' => e = .returned (.bool true) ∧ Kept w w' := by
  have two : ∀ l : List Jd, l.length = 2 → ∃ p q, l = [p, q] := fun l h => by
    match l, h with
    | [p, q], _ => exact ⟨p, q, rfl⟩
  by_cases h1 : on.length = 2
  · obtain ⟨p, q, rfl⟩ := two on h1
    obtain ⟨b, o, cap, C, T, fr, su, sv, sa, tu, tv, ta, rfl, h, h0, h1, lp, lq, fp, fq, hc, hm⟩ := liesJ_two hj
    by_cases h2 : more.length = 2
    · obtain ⟨y, z, rfl⟩ := two more h2
      obtain ⟨b', o', cap', C', T', fr', su', sv', sa', tu', tv', ta', rfl, h', h0', h1', ly, lz, fy, fz, hc', hm'⟩ := liesJ_two hk
      exact levels22_any c p q y z (fun b => b < w.heap.size) w sc b o cap C T fr su sv sa tu tv ta b' o' cap' C' T' fr' su' sv' sa' tu' tv' ta' hl fp fq lp.1.q lp.2.1.q lp.2.2.q lq.1.q lq.2.1.q lq.2.2.q h h0 h1 fy fz ly.1.q ly.2.1.q ly.2.2.q lz.1.q lz.2.1.q lz.2.2.q h' h0' h1' hc hm hc' hm'
    · exact levels2n_any c more p q (fun b => b < w.heap.size) w sc b o cap C T fr su sv sa tu tv ta sk hl fp fq lp.1.q lp.2.1.q lp.2.2.q lq.1.q lq.2.1.q lq.2.2.q h h0 h1 hk hc hm h2
  · by_cases h2 : more.length = 2
    · obtain ⟨y, z, rfl⟩ := two more h2
      obtain ⟨b', o', cap', C', T', fr', su', sv', sa', tu', tv', ta', rfl, h', h0', h1', ly, lz, fy, fz, hc', hm'⟩ := liesJ_two hk
      exact levelsn2_any c on y z (fun b => b < w.heap.size) w sc sj b' o' cap' C' T' fr' su' sv' sa' tu' tv' ta' hl hj fy fz ly.1.q ly.2.1.q ly.2.2.q lz.1.q lz.2.1.q lz.2.2.q h' h0' h1' h1 hc' hm'
    · exact levelsnn_any c on more w sc sj sk hl hj hk h1 h2

end Go.Proofs.Ytjlppnmckobcfaa

namespace Go.Proofs.Ytjlppnmckobcfaa
open Go.ChangeShapes Go.WideShapes Go.ChangeAt Go.RowKit

theorem own : ownKnob Try.prog.godebug = none := by kernel_rfl
theorem cells_int : Try.prog.cellsOf 3 = 1 := by kernel_rfl
theorem cells_kids : Try.prog.cellsOf 30 = 1 := by kernel_rfl
theorem cells_term : Try.prog.cellsOf 32 = 5 := by kernel_rfl
theorem laidOut : laidOutB Try.prog = true := by kernel_rfl

instance instOpenTm : Inhabited (Tm × Value) := ⟨(.mk 0 0 0 0 [], .nilIface)⟩

theorem list5 {α : Type} {l : List α} (h : l.length = 5) : ∃ a b c d e, l = [a, b, c, d, e] := by
  match l, h with
  | [a, b, c, d, e], _ => exact ⟨a, b, c, d, e, rfl⟩

theorem wf_I64 {x : Int} (h : (Lit.int .i64 x).wf = true) : I64 x := by
  simp [Lit.wf] at h
  have hm : IntKind.i64.min = -9223372036854775808 := by decide
  rw [hm] at h
  exact h

set_option maxRecDepth 100000 in
theorem open_term {H : Type} {enc : TypeId × Value → H} {w : World} {base : Nat} {sp : Nat → Bool} {hd : Bool} : ∀ (fuel : Nat) (cs : List Value) (x : DataW H × List MemPlace),
    DataW.trod enc Try.prog w base sp hd fuel 32 cs = some x → ∃ (t : Tm) (s : Value), cs = [.int .i64 t.k, .int .i64 t.i, .int .i64 t.j, .int .i64 t.n, s] ∧ t.fine ∧ Lies w t.kids s := by
  intro fuel
  induction fuel using Nat.strongRecOn with
  | _ fuel ih =>
    intro cs x h
    obtain ⟨xs, n, rfl, rfl, hl, hlen, hf⟩ := DataW.trod_struct Try.underlying32 h
    rw [cells_term] at hl
    obtain ⟨v0, v1, v2, v3, v4, rfl⟩ := list5 hl
    obtain ⟨y0, y1, y2, y3, y4, rfl⟩ := list5 hlen
    have g0 := hf 0 _ rfl
    have g1 := hf 1 _ rfl
    have g2 := hf 2 _ rfl
    have g3 := hf 3 _ rfl
    have g4 := hf 4 _ rfl
    simp [cells_int, cells_kids] at g0 g1 g2 g3 g4
    obtain ⟨k, e0, -, w0⟩ := DataW.trod_int Try.underlying3 g0
    obtain ⟨i, e1, -, w1⟩ := DataW.trod_int Try.underlying3 g1
    obtain ⟨j, e2, -, w2⟩ := DataW.trod_int Try.underlying3 g2
    obtain ⟨m, e3, -, w3⟩ := DataW.trod_int Try.underlying3 g3
    simp at e0 e1 e2 e3
    subst e0 e1 e2 e3
    rcases DataW.trod_slice Try.underlying30 g4 with ⟨e4, -⟩ | ⟨a, len, cap, elems, rest, n', rfl, e4, -, hb, hlc, hm, hlen', hel, -, -⟩
    · simp at e4
      subst e4
      exact ⟨.mk k i j m [], _, rfl, ⟨wf_I64 w0, wf_I64 w1, wf_I64 w2, wf_I64 w3⟩, .mk [] none 0 (fun _ => .nilIface) (Nat.le_refl _) (by decide) (fun _ h => by cases h) (fun _ h => by cases h) (fun _ h => by cases h)⟩
    · simp at e4
      subst e4
      have key : ∀ i, i < len → ∃ p : Tm × Value, p.1.fine ∧ Lies w p.1.kids p.2 ∧ ∃ b o, a = ⟨b, o, none⟩ ∧ Node w b (o + i * 5) p.1 p.2 := by
        intro i hi
        have h1 := hel i hi
        rw [cells_term, List.getElem?_eq_getElem (by omega)] at h1
        obtain ⟨cs', h2, h3⟩ := Option.bind_eq_some_iff.1 h1
        obtain ⟨t, s, rfl, hfine, hlies⟩ := ih n' (by omega) _ _ h3
        obtain ⟨-, -, hcell⟩ := World.cells?_some h2
        have hs0 : a.spot = none := by
          have h1 := hel 0 (by omega)
          rw [cells_term, List.getElem?_eq_getElem (by omega)] at h1
          obtain ⟨cs0, h2, -⟩ := Option.bind_eq_some_iff.1 h1
          obtain ⟨-, hl0, hc0⟩ := World.cells?_some h2
          have c0 := hc0 0 (by omega)
          rw [List.getElem?_eq_getElem (by omega)] at c0
          simpa [Addr.add] using World.cell?_spot c0
        obtain ⟨b, o, spot⟩ := a
        simp only at hs0
        subst hs0
        refine ⟨(t, s), hfine, hlies, b, o, rfl, ?_⟩
        have hc : ∀ q, q < 5 → w.cell? ⟨b, o + i * 5 + q, none⟩ = [Value.int .i64 t.k, .int .i64 t.i, .int .i64 t.j, .int .i64 t.n, s][q]? := fun q hq => by
          have := hcell q hq
          rwa [add_plain, add_plain] at this
        exact ⟨hc 0 (by omega), hc 1 (by omega), hc 2 (by omega), hc 3 (by omega), hc 4 (by omega)⟩
      obtain ⟨f, hf'⟩ := Go.Deep.choose_lt (α := Tm × Value) (p := fun i p => p.1.fine ∧ Lies w p.1.kids p.2 ∧ ∃ b o, a = ⟨b, o, none⟩ ∧ Node w b (o + i * 5) p.1 p.2) key
      have hl5 : ((List.range len).map fun i => (f i).1).length = len := by simp
      refine ⟨.mk k i j m ((List.range len).map fun i => (f i).1), _, rfl, ⟨wf_I64 w0, wf_I64 w1, wf_I64 w2, wf_I64 w3⟩, ?_⟩
      have := Lies.mk (w := w) ((List.range len).map fun i => (f i).1) (some a) cap (fun i => (f i).2) (by simpa using hlc) hm
        (fun x hx => by
          obtain ⟨i, hi, rfl⟩ := List.mem_map.1 hx
          exact (hf' i (List.mem_range.1 hi)).1)
        (fun i hi => by
          obtain ⟨b, o, ha, hn⟩ := (hf' i (by simpa using hi)).2.2
          exact ⟨b, o, by rw [ha], by simpa using hn⟩)
        (fun i hi => by simpa using (hf' i (by simpa using hi)).2.1)
      rwa [hl5] at this
end Go.Proofs.Ytjlppnmckobcfaa

namespace Go.Proofs.Ytjlppnmckobcfaa
open Go.ChangeShapes Go.WideShapes Go.ChangeAt Go.RowKit

theorem cells_entry : Try.prog.cellsOf 52 = 6 := by kernel_rfl
instance instOpenEn : Inhabited (En × Value) := ⟨(⟨.mk 0 0 0 0 [], 0⟩, .nilIface)⟩
theorem list6 {α : Type} {l : List α} (h : l.length = 6) : ∃ a b c d e f, l = [a, b, c, d, e, f] := by
  match l, h with
  | [a, b, c, d, e, f], _ => exact ⟨a, b, c, d, e, f, rfl⟩
theorem list2 {α : Type} {l : List α} (h : l.length = 2) : ∃ a b, l = [a, b] := by
  match l, h with
  | [a, b], _ => exact ⟨a, b, rfl⟩

set_option maxRecDepth 100000 in
theorem open_entry {H : Type} {enc : TypeId × Value → H} {w : World} {base : Nat} {sp : Nat → Bool} {hd : Bool} (fuel : Nat) (cs : List Value) (x : DataW H × List MemPlace)
    (h : DataW.trod enc Try.prog w base sp hd fuel 52 cs = some x) : ∃ (e : En) (s : Value), cs = [.int .i64 e.a.k, .int .i64 e.a.i, .int .i64 e.a.j, .int .i64 e.a.n, s, .int .i64 e.i] ∧ e.fine ∧ Lies w e.a.kids s := by
  obtain ⟨xs, n, rfl, rfl, hl, hlen, hf⟩ := DataW.trod_struct Try.underlying52 h
  rw [cells_entry] at hl
  obtain ⟨v0, v1, v2, v3, v4, v5, rfl⟩ := list6 hl
  obtain ⟨y0, y1, rfl⟩ := list2 hlen
  have g0 := hf 0 _ rfl
  have g1 := hf 1 _ rfl
  simp [cells_int, cells_term] at g0 g1
  obtain ⟨t, s, hcs, hfine, hlies⟩ := open_term n _ _ g0
  obtain ⟨i, e1, -, w1⟩ := DataW.trod_int Try.underlying3 g1
  simp at e1 hcs
  subst e1
  obtain ⟨rfl, rfl, rfl, rfl, rfl⟩ := hcs
  exact ⟨⟨t, i⟩, v4, rfl, ⟨hfine, wf_I64 w1⟩, hlies⟩

set_option maxRecDepth 100000 in
theorem open_argE {H : Type} {enc : TypeId × Value → H} {w : World} {r : Reach} {b0 base : Nat} {sp : Nat → Bool} {hd : Bool} {v : Value} {d : DataW H} {p : List MemPlace} (hv : Value.okWide Try.prog w r b0 22 v)
    (h : DataW.Trod enc Try.prog w base sp hd 22 v d p) : ∃ l : List En, LiesE w l v := by
  obtain ⟨a0, len0, cap0, rfl⟩ := okWide_slice Try.underlying22 hv
  obtain ⟨fuel, hf⟩ := h
  rcases DataW.trod_slice Try.underlying22 hf with ⟨e4, -⟩ | ⟨a, len, cap, elems, rest, n', rfl, e4, -, hb, hlc, hm, hlen', hel, -, -⟩
  · simp [Value.cells] at e4
    obtain ⟨rfl, rfl, rfl⟩ := e4
    exact ⟨[], liesE_nil _⟩
  · simp [Value.cells] at e4
    obtain ⟨rfl, rfl, rfl⟩ := e4
    have key : ∀ i, i < len0 → ∃ p : En × Value, p.1.fine ∧ Lies w p.1.a.kids p.2 ∧ ∃ b o, a = ⟨b, o, none⟩ ∧ ENode w b (o + i * 6) p.1 p.2 := by
      intro i hi
      have h1 := hel i hi
      rw [cells_entry, List.getElem?_eq_getElem (by omega)] at h1
      obtain ⟨cs', h2, h3⟩ := Option.bind_eq_some_iff.1 h1
      obtain ⟨t, s, rfl, hfine, hlies⟩ := open_entry n' _ _ h3
      obtain ⟨-, -, hcell⟩ := World.cells?_some h2
      have hs0 : a.spot = none := by
        have h1 := hel 0 (by omega)
        rw [cells_entry, List.getElem?_eq_getElem (by omega)] at h1
        obtain ⟨cs0, h2, -⟩ := Option.bind_eq_some_iff.1 h1
        obtain ⟨-, hl0, hc0⟩ := World.cells?_some h2
        have c0 := hc0 0 (by omega)
        rw [List.getElem?_eq_getElem (by omega)] at c0
        simpa [Addr.add] using World.cell?_spot c0
      obtain ⟨b, o, spot⟩ := a
      simp only at hs0
      subst hs0
      refine ⟨(t, s), hfine, hlies, b, o, rfl, ?_⟩
      have hc : ∀ q, q < 6 → w.cell? ⟨b, o + i * 6 + q, none⟩ = [Value.int .i64 t.a.k, .int .i64 t.a.i, .int .i64 t.a.j, .int .i64 t.a.n, s, .int .i64 t.i][q]? := fun q hq => by
        have := hcell q hq
        rwa [add_plain, add_plain] at this
      exact ⟨hc 0 (by omega), hc 1 (by omega), hc 2 (by omega), hc 3 (by omega), hc 4 (by omega), hc 5 (by omega)⟩
    obtain ⟨f, hf'⟩ := Go.Deep.choose_lt (α := En × Value) (p := fun i p => p.1.fine ∧ Lies w p.1.a.kids p.2 ∧ ∃ b o, a = ⟨b, o, none⟩ ∧ ENode w b (o + i * 6) p.1 p.2) key
    have hl5 : ((List.range len0).map fun i => (f i).1).length = len0 := by simp
    refine ⟨(List.range len0).map fun i => (f i).1, some a, cap0, (fun i => (f i).2), by rw [hl5], by simpa using hlc, hm, ?_, ?_, ?_⟩
    · intro x hx
      obtain ⟨i, hi, rfl⟩ := List.mem_map.1 hx
      exact (hf' i (List.mem_range.1 hi)).1
    · intro i hi
      obtain ⟨b, o, ha, hn⟩ := (hf' i (by simpa using hi)).2.2
      exact ⟨b, o, by rw [ha], by simpa using hn⟩
    · intro i hi
      simpa using (hf' i (by simpa using hi)).2.1
end Go.Proofs.Ytjlppnmckobcfaa

namespace Go.Proofs.Ytjlppnmckobcfaa
open Go.ChangeShapes Go.WideShapes Go.ChangeAt Go.RowKit

theorem cells_judg : Try.prog.cellsOf 34 = 17 := by kernel_rfl
theorem cells_bool : Try.prog.cellsOf 4 = 1 := by kernel_rfl
theorem list17 {α : Type} {l : List α} (h : l.length = 17) : ∃ v0 v1 v2 v3 v4 v5 v6 v7 v8 v9 v10 v11 v12 v13 v14 v15 v16, l = [v0, v1, v2, v3, v4, v5, v6, v7, v8, v9, v10, v11, v12, v13, v14, v15, v16] := by
  match l, h with
  | [v0, v1, v2, v3, v4, v5, v6, v7, v8, v9, v10, v11, v12, v13, v14, v15, v16], _ => exact ⟨v0, v1, v2, v3, v4, v5, v6, v7, v8, v9, v10, v11, v12, v13, v14, v15, v16, rfl⟩
set_option maxRecDepth 100000 in
theorem open_judg {H : Type} {enc : TypeId × Value → H} {w : World} {base : Nat} {sp : Nat → Bool} {hd : Bool} (fuel : Nat) (cs : List Value) (x : DataW H × List MemPlace)
    (h : DataW.trod enc Try.prog w base sp hd fuel 34 cs = some x) : ∃ (j : Jd) (su sv sa : Value), cs = [.bool j.eq, .int .i64 j.u.k, .int .i64 j.u.i, .int .i64 j.u.j, .int .i64 j.u.n, su, .int .i64 j.v.k, .int .i64 j.v.i, .int .i64 j.v.j, .int .i64 j.v.n, sv, .int .i64 j.a.k, .int .i64 j.a.i, .int .i64 j.a.j, .int .i64 j.a.n, sa, .int .i64 j.i] ∧ j.fine ∧ JLies w j su sv sa := by
  obtain ⟨xs, n, rfl, rfl, hl, hlen, hf⟩ := DataW.trod_struct Try.underlying34 h
  rw [cells_judg] at hl
  obtain ⟨v0, v1, v2, v3, v4, v5, v6, v7, v8, v9, v10, v11, v12, v13, v14, v15, v16, rfl⟩ := list17 hl
  obtain ⟨y0, y1, y2, y3, y4, rfl⟩ := list5 hlen
  have g0 := hf 0 _ rfl
  have g1 := hf 1 _ rfl
  have g2 := hf 2 _ rfl
  have g3 := hf 3 _ rfl
  have g4 := hf 4 _ rfl
  simp [cells_int, cells_term, cells_bool] at g0 g1 g2 g3 g4
  obtain ⟨e, he, -⟩ := DataW.trod_bool Try.underlying4 g0
  obtain ⟨tu, su, hcu, hfu, hlu⟩ := open_term n _ _ g1
  obtain ⟨tv, sv, hcv, hfv, hlv⟩ := open_term n _ _ g2
  obtain ⟨ta, sa, hca, hfa, hla⟩ := open_term n _ _ g3
  obtain ⟨i, ei, -, wi⟩ := DataW.trod_int Try.underlying3 g4
  simp at he ei hcu hcv hca
  subst he ei
  obtain ⟨rfl, rfl, rfl, rfl, rfl⟩ := hcu
  obtain ⟨rfl, rfl, rfl, rfl, rfl⟩ := hcv
  obtain ⟨rfl, rfl, rfl, rfl, rfl⟩ := hca
  exact ⟨⟨e, tu, tv, ta, i⟩, _, _, _, rfl, ⟨hfu, hfv, hfa, wf_I64 wi⟩, hlu, hlv, hla⟩
end Go.Proofs.Ytjlppnmckobcfaa

namespace Go.Proofs.Ytjlppnmckobcfaa
open Go.ChangeShapes Go.WideShapes Go.ChangeAt Go.RowKit

instance instOpenJd : Inhabited (Jd × (Value × Value × Value)) := ⟨(⟨false, .mk 0 0 0 0 [], .mk 0 0 0 0 [], .mk 0 0 0 0 [], 0⟩, (.nilIface, .nilIface, .nilIface))⟩
theorem liesJ_nil (w : World) : LiesJ w [] (.slice none 0 0) := ⟨none, 0, fun _ => (.nilIface, .nilIface, .nilIface), rfl, Nat.le_refl _, by decide, (fun _ h => by cases h), (fun _ h => by cases h), (fun _ h => by cases h)⟩
set_option maxRecDepth 100000 in
theorem open_argJs {H : Type} {enc : TypeId × Value → H} {w : World} {r : Reach} {b0 base : Nat} {sp : Nat → Bool} {hd : Bool} {v : Value} {d : DataW H} {p : List MemPlace} (hv : Value.okWide Try.prog w r b0 23 v)
    (h : DataW.Trod enc Try.prog w base sp hd 23 v d p) : ∃ l : List Jd, LiesJ w l v := by
  obtain ⟨a0, len0, cap0, rfl⟩ := okWide_slice Try.underlying23 hv
  obtain ⟨fuel, hf⟩ := h
  rcases DataW.trod_slice Try.underlying23 hf with ⟨e4, -⟩ | ⟨a, len, cap, elems, rest, n', rfl, e4, -, hb, hlc, hm, hlen', hel, -, -⟩
  · simp [Value.cells] at e4
    obtain ⟨rfl, rfl, rfl⟩ := e4
    exact ⟨[], liesJ_nil _⟩
  · simp [Value.cells] at e4
    obtain ⟨rfl, rfl, rfl⟩ := e4
    have key : ∀ i, i < len0 → ∃ p : Jd × (Value × Value × Value), p.1.fine ∧ JLies w p.1 p.2.1 p.2.2.1 p.2.2.2 ∧ ∃ b o, a = ⟨b, o, none⟩ ∧ JNode w b (o + i * 17) p.1 p.2.1 p.2.2.1 p.2.2.2 := by
      intro i hi
      have h1 := hel i hi
      rw [cells_judg, List.getElem?_eq_getElem (by omega)] at h1
      obtain ⟨cs', h2, h3⟩ := Option.bind_eq_some_iff.1 h1
      obtain ⟨t, su, sv, sa, rfl, hfine, hlies⟩ := open_judg n' _ _ h3
      obtain ⟨-, -, hcell⟩ := World.cells?_some h2
      have hs0 : a.spot = none := by
        have h1 := hel 0 (by omega)
        rw [cells_judg, List.getElem?_eq_getElem (by omega)] at h1
        obtain ⟨cs0, h2, -⟩ := Option.bind_eq_some_iff.1 h1
        obtain ⟨-, hl0, hc0⟩ := World.cells?_some h2
        have c0 := hc0 0 (by omega)
        rw [List.getElem?_eq_getElem (by omega)] at c0
        simpa [Addr.add] using World.cell?_spot c0
      obtain ⟨b, o, spot⟩ := a
      simp only at hs0
      subst hs0
      refine ⟨(t, (su, sv, sa)), hfine, hlies, b, o, rfl, ?_⟩
      have hc : ∀ q, q < 17 → w.cell? ⟨b, o + i * 17 + q, none⟩ = [Value.bool t.eq, .int .i64 t.u.k, .int .i64 t.u.i, .int .i64 t.u.j, .int .i64 t.u.n, su, .int .i64 t.v.k, .int .i64 t.v.i, .int .i64 t.v.j, .int .i64 t.v.n, sv, .int .i64 t.a.k, .int .i64 t.a.i, .int .i64 t.a.j, .int .i64 t.a.n, sa, .int .i64 t.i][q]? := fun q hq => by
        have := hcell q hq
        rwa [add_plain, add_plain] at this
      exact ⟨hc 0 (by omega), hc 1 (by omega), hc 2 (by omega), hc 3 (by omega), hc 4 (by omega), hc 5 (by omega), hc 6 (by omega), hc 7 (by omega), hc 8 (by omega), hc 9 (by omega), hc 10 (by omega), hc 11 (by omega), hc 12 (by omega), hc 13 (by omega), hc 14 (by omega), hc 15 (by omega), hc 16 (by omega)⟩
    obtain ⟨f, hf'⟩ := Go.Deep.choose_lt (α := Jd × (Value × Value × Value)) (p := fun i p => p.1.fine ∧ JLies w p.1 p.2.1 p.2.2.1 p.2.2.2 ∧ ∃ b o, a = ⟨b, o, none⟩ ∧ JNode w b (o + i * 17) p.1 p.2.1 p.2.2.1 p.2.2.2) key
    have hl5 : ((List.range len0).map fun i => (f i).1).length = len0 := by simp
    refine ⟨(List.range len0).map fun i => (f i).1, some a, cap0, (fun i => (f i).2), by rw [hl5], by simpa using hlc, hm, ?_, ?_, ?_⟩
    · intro x hx
      obtain ⟨i, hi, rfl⟩ := List.mem_map.1 hx
      exact (hf' i (List.mem_range.1 hi)).1
    · intro i hi
      obtain ⟨b, o, ha, hn⟩ := (hf' i (by simpa using hi)).2.2
      exact ⟨b, o, by rw [ha], by simpa using hn⟩
    · intro i hi
      simpa using (hf' i (by simpa using hi)).2.1
end Go.Proofs.Ytjlppnmckobcfaa

namespace Go.Proofs.Ytjlppnmckobcfaa
open Go.ChangeShapes Go.WideShapes

def code (l : List Nat) : List Char := l.map Char.ofNat
def joinN : List (List Nat) → List Nat
  | [] => []
  | [a] => a
  | a :: b :: r => a ++ 32 :: joinN (b :: r)

theorem words_one : ∀ a : List Nat, (a.all fun n => Char.ofNat n != Char.ofNat 32) = true → wordsSigns (code a) = [code a]
  | [], _ => rfl
  | n :: a, h => by
    simp only [List.all_cons, Bool.and_eq_true, bne_iff_ne] at h
    have ih := words_one a h.2
    show wordsSigns (Char.ofNat n :: code a) = _
    rw [wordsSigns]
    · rw [ih]; rfl
    · exact h.1
theorem words_more : ∀ (a : List Nat) (r : List Char), (a.all fun n => Char.ofNat n != Char.ofNat 32) = true → wordsSigns (code a ++ Char.ofNat 32 :: r) = code a :: wordsSigns r
  | [], r, _ => by
    show wordsSigns (Char.ofNat 32 :: r) = _
    rw [show Char.ofNat 32 = _ from rfl, wordsSigns]; rfl
  | n :: a, r, h => by
    simp only [List.all_cons, Bool.and_eq_true, bne_iff_ne] at h
    have ih := words_more a r h.2
    show wordsSigns (Char.ofNat n :: (code a ++ Char.ofNat 32 :: r)) = _
    rw [wordsSigns]
    · rw [ih]; rfl
    · exact h.1
theorem words_join : ∀ ws : List (List Nat), ws ≠ [] → (ws.all fun w => w.all fun n => Char.ofNat n != Char.ofNat 32) = true → wordsSigns (code (joinN ws)) = ws.map code
  | [], h, _ => absurd rfl h
  | [a], _, h => by simp only [List.all_cons, List.all_nil, Bool.and_true] at h; exact words_one a h
  | a :: b :: r, _, h => by
    have h' := h
    rw [List.all_cons, Bool.and_eq_true] at h'
    have ih := words_join (b :: r) (by simp) h'.2
    show wordsSigns (code (a ++ 32 :: joinN (b :: r))) = _
    rw [show code (a ++ 32 :: joinN (b :: r)) = code a ++ Char.ofNat 32 :: code (joinN (b :: r)) from by simp [code], words_more a _ h'.1, ih]; rfl

def cutWords : List (List Nat) := [[104, 97, 114, 110, 101, 115, 115],
  [53, 51, 99, 49, 102, 98, 57, 98, 51, 97, 52, 49, 101, 52, 53, 56, 97, 102, 52, 48, 48, 52, 56, 50, 53, 54, 51, 100, 99, 49, 99, 51, 53, 49, 50, 99, 57, 54, 97, 98, 49, 102, 50, 51, 99, 55, 102, 102, 97, 54, 49, 97, 97, 52, 99, 99, 52, 101, 100, 101, 50, 99, 101, 51],
  [99, 117, 116],
  [97, 116],
  [116, 114, 97, 110, 115, 104, 105, 112, 47, 116, 114, 97, 110, 115, 104, 105, 112, 108, 97, 119, 49, 53, 46, 80, 114, 101, 109, 105, 115, 101, 69, 120, 97, 99, 116],
  [116, 114, 97, 110, 115, 104, 105, 112, 47, 116, 114, 97, 110, 115, 104, 105, 112, 108, 97, 119, 49, 53, 46, 82, 117, 108, 101, 82, 105, 103, 104, 116],
  [116, 114, 97, 110, 115, 104, 105, 112, 47, 116, 114, 97, 110, 115, 104, 105, 112, 108, 97, 119, 49, 53, 46, 82, 117, 108, 101, 84, 117, 114, 110, 101, 100],
  [116, 114, 97, 110, 115, 104, 105, 112, 47, 116, 114, 97, 110, 115, 104, 105, 112, 108, 97, 119, 49, 53, 46, 82, 117, 108, 101, 76, 101, 118, 101, 108, 115]]

set_option maxRecDepth 100000 in
theorem cut_words : wordsSigns Try.prog.initOrder.toList = cutWords.map code := by
  have h : Try.prog.initOrder.toList = code (joinN cutWords) := by
    show (String.ofList (code (joinN cutWords))).toList = _
    exact String.toList_ofList
  rw [h]
  exact words_join cutWords (by simp [cutWords]) (by decide +kernel)

theorem cut_behind : behindMainWord (cutWords.map code) = code [99, 117, 116] :: cutWords.tail.tail.tail.map code := by kernel_rfl
theorem cut_lifts : stripLifts liftWords (code [99, 117, 116] :: cutWords.tail.tail.tail.map code) = ([], code [99, 117, 116] :: cutWords.tail.tail.tail.map code) := by kernel_rfl
theorem cut1 : (code [99, 117, 116] == "gc".toList) = false := by kernel_rfl
theorem cut2 : (code [99, 117, 116] == "spec".toList) = false := by kernel_rfl
theorem cut3 : (code [99, 117, 116] == "cut".toList) = true := by kernel_rfl
theorem cut_all : behindMainWord (wordsSigns Try.prog.initOrder.toList) = code [99, 117, 116] :: cutWords.tail.tail.tail.map code := by rw [cut_words, cut_behind]
theorem make_of (P : Program) {c : List Char} {rest : List (List Char)} (h : behindMainWord (wordsSigns P.initOrder.toList) = c :: rest) (h1 : (c == "gc".toList) = false) (h2 : (c == "spec".toList) = false) (h3 : (c == "cut".toList) = true) : P.make = some .cut := by
  unfold Program.make; rw [h]
  simp only [h1, h2, h3, Bool.or_self, Bool.false_eq_true, if_false, Bool.true_or, if_true]
theorem mayEnter_of (P : Program) {c : List Char} {rest : List (List Char)} (h : behindMainWord (wordsSigns P.initOrder.toList) = c :: rest) (h3 : ((stripLifts liftWords (c :: rest)).2.head? == some "cut".toList) = true)
    (h4 : (stripLifts liftWords (c :: rest)).1 = []) (h5 : P.laysLater = false) (h6 : P.bearsReflect = false) (h7 : P.doorFits [] = true) : P.mayEnter = true := by
  unfold Program.mayEnter; rw [h]
  refine Bool.or_eq_true_iff.2 (Or.inr ?_)
  rw [h3, h4, h5, h6, h7]; rfl
theorem row_make : Try.prog.make = some .cut := make_of Try.prog cut_all cut1 cut2 cut3
theorem row_mayEnter : Try.prog.mayEnter = true := mayEnter_of Try.prog cut_all (by rw [cut_lifts]; kernel_rfl) (by rw [cut_lifts]) (by kernel_rfl) (by kernel_rfl) (by kernel_rfl)
theorem row_lifts : Try.prog.liftsFinal = false := by unfold Program.liftsFinal Program.headLifts; rw [cut_all, cut_lifts]; kernel_rfl
end Go.Proofs.Ytjlppnmckobcfaa

namespace Go.Proofs.Ytjlppnmckobcfaa.lawRuleLevels
open Go.ChangeShapes Go.WideShapes Go.ChangeAt Go.RowKit

set_option maxRecDepth 100000 in
theorem lifted (os : Os) (started : os.Started) (H : Type) (enc : TypeId × Value → H) :
    ReturnsInHanded {} Try.checked os 6 .any (Rows.ruleLevelsSpec.pre6 enc Try.prog Try.f6 Rows.ruleLevelsRow.domain false) (Rows.ruleLevelsSpec.post enc Try.prog Try.f6 false true false false) := by
  refine returnsInHanded_of_change (C := Try.checked) own started (by kernel_rfl) Try.func6
    (ChangeSpec.witness6 (enc := enc) (C := Try.checked) false ⟨#[], #[.slice none 0 0, .slice none 0 0, .slice none 0 0], []⟩ 8 (by kernel_rfl) (by kernel_rfl) (by kernel_rfl) (by kernel_rfl)) ?_
  intro W base args ds gs before hval0 hW hcnd _
  have hval : ∀ (j : Nat) t v, Try.f6.params[j]? = some t → args[j]? = some v → Value.okWide Try.prog W .any base t v := hval0
  have hW' := hW
  obtain ⟨p, q, hA0, hV, rfl, hfz, hnd⟩ := hW
  have hA : DataW.TrodAll enc Try.prog W 0 (fun _ => true) true Try.f6.params.toList args.toList ds p := hA0
  rw [Try.params6] at hA hval
  obtain ⟨v0, vs0, d0, ds0, p0, q0, hargs0, rfl, rfl, h0, r0⟩ := trodAll_cons hA
  obtain ⟨v1, vs1, d1, ds1, p1, q1, hargs1, rfl, rfl, h1, r1⟩ := trodAll_cons r0
  obtain ⟨v2, vs2, d2, ds2, p2, q2, hargs2, rfl, rfl, h2, r2⟩ := trodAll_cons r1
  obtain ⟨rfl, rfl, rfl⟩ := trodAll_nil r2
  obtain rfl : args = #[v0, v1, v2] := by cases args; simp_all
  obtain ⟨rfl, rfl⟩ := trodVars_none hV
  have h0k := h0
  have hlt0 : ∀ x ∈ p0, x.block < W.heap.size := fun x hx => by have := hW'.lt x (by simp [hx]); simpa using this
  obtain ⟨l0, hl0⟩ := open_argE (hval 0 22 v0 rfl rfl) h0
  have h1k := h1
  have hlt1 : ∀ x ∈ p1, x.block < W.heap.size := fun x hx => by have := hW'.lt x (by simp [hx]); simpa using this
  obtain ⟨l1, hl1⟩ := open_argJs (hval 1 23 v1 rfl rfl) h1
  have h2k := h2
  have hlt2 : ∀ x ∈ p2, x.block < W.heap.size := fun x hx => by have := hW'.lt x (by simp [hx]); simpa using this
  obtain ⟨l2, hl2⟩ := open_argJs (hval 2 23 v2 rfl rfl) h2
  clear hA0 hval0
  simp only [List.append_nil] at hW'
  refine (ruleLevels_any l0 l1 l2 W _ _ _ hl0 hl1 hl2).mono fun e W' ⟨he, hb⟩ => ?_
  subst he
  exact ⟨_, rfl, _, _, _, [], _, [], hW', trodAll_cons_mk (shut_bool Try.underlying4 _) trodAll_mk0, (trodAll_cons_mk (Below.trod laidOut (by kernel_rfl) (of_decide_eq_true (by kernel_rfl)) h0k hb hlt0) (trodAll_cons_mk (Below.trod laidOut (by kernel_rfl) (of_decide_eq_true (by kernel_rfl)) h1k hb hlt1) (trodAll_cons_mk (Below.trod laidOut (by kernel_rfl) (of_decide_eq_true (by kernel_rfl)) h2k hb hlt2) trodAll_mk0))), rfl, hb.frame _, fun h => by cases h⟩

theorem closed : joinedFacts Try.prog 6 Try.f6 Rows.ruleLevelsSpec Rows.ruleLevelsRow = true := by
  unfold joinedFacts
  rw [row_mayEnter, row_lifts, row_make]
  kernel_rfl

theorem proved : Rows.RuleLevelsSaid :=
  OpenClaim.holds_of_wide 6 Try.f6 rfl rfl rfl rfl rfl rfl rfl ⟨rfl, rfl, rfl, rfl, rfl⟩ rfl rfl rfl rfl rfl (by kernel_rfl) Try.func6 closed
    (of_decide_eq_true (by kernel_rfl)) (by unfold Func.isWrapper; first | (rw [if_pos (by decide +kernel)]; kernel_rfl) | (rw [if_neg (by decide +kernel)]; exact ⟨rfl, rfl⟩))
    (fun os started H enc _ => lifted os started H enc)
#print axioms proved
end Go.Proofs.Ytjlppnmckobcfaa.lawRuleLevels
