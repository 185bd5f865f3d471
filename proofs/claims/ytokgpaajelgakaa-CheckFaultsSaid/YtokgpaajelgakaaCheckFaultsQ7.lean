/-
  CheckFaults holds: for every input the call returns true, and the arguments read as before. No condition.
-/
import Derived.WalkKit
import Derived.Lib.Hide
import Derived.Deep.RegionHeld3
import Derived.Test.YtokgpaajelgakaaRows
import Derived.KernelRfl
import Derived.Deep.RegionWith
import Derived.Deep.AppendLies
import Derived.Laws.Rows
import Derived.Laws.IdiomCopy
import Derived.Deep.Slices
import Derived.Deep.QuietTactic
import Derived.BigQuiet
import Derived.Lib.QuietBelow
import Derived.StillTailTactics
import Derived.IntWalk
import Derived.OwnWalk
import Derived.OrdersHeld
import Derived.Deep.DeepCutAuto
import Derived.Maps.AppendAt
import Derived.Lib.Builder
import Derived.Deep.RegionLaw
import Derived.Below
import Derived.Laws.CopyRow
import Derived.Lib.MinMax
import Derived.Deep.LoopGhost
import Derived.Deep.MidRow
import Derived.Laws.Tables
import Derived.Laws.CopyOwn
import Derived.Deep.RegionHeld
import Derived.Deep.Upon
import Derived.ArgAppend
import Derived.Laws.EntriesVeiled
import GoSem.Core.Float
import Derived.ProofKit
import Derived.LoopTactic
import Derived.Laws.Cover2
import Derived.Laws.FloatArith
import Derived.Laws.Externs
import Derived.OpenShut
import Derived.Carry
import Derived.ChangeSlices
import Derived.JoinedOf
import Derived.Test.YtokgpaajelgakaaCheckFaultsQ6
namespace Go.Proofs.Ytokgpaajelgakaa.Ck
open Go Go.RowKit
open Se (ofB Sml sizeJ zJ)
def ckq_0 : Oper := { dst := some 90, op := Go.Op.load 33 (Go.Operand.tmp 15), type := 33, pos := "check.go:107", after := #[], guard := none }
def ckq_1 : Oper := { dst := some 91, op := Go.Op.call { callee := Go.Callee.value (Go.Operand.func 46), args := #[Go.Operand.tmp 90], argTypes := #[33] }, type := 3, pos := "check.go:107", after := #[{ on := 0, ground := Go.Ground.data }], guard := none }
def ckq_2 : Oper := { dst := some 92, op := Go.Op.move (Go.Operand.tmp 0), type := 82, pos := "check.go:107", after := #[], guard := none }
def ckq_3 : Oper := { dst := some 93, op := Go.Op.nilCheck (Go.Operand.tmp 92), type := 0, pos := "check.go:107", after := #[{ on := 2, ground := Go.Ground.data }], guard := none }
def ckq_4 : Oper := { dst := some 94, op := Go.Op.fieldAddr 61 (Go.Operand.tmp 93) 0, type := 0, pos := "check.go:107", after := #[{ on := 3, ground := Go.Ground.data }], guard := none }
def ckq_5 : Oper := { dst := some 95, op := Go.Op.load 26 (Go.Operand.tmp 94), type := 26, pos := "check.go:107", after := #[{ on := 4, ground := Go.Ground.data }], guard := none }
def ckq_6 : Oper := { dst := some 96, op := Go.Op.call { callee := Go.Callee.value (Go.Operand.func 45), args := #[Go.Operand.tmp 91, Go.Operand.tmp 95], argTypes := #[3, 26] }, type := 4, pos := "check.go:107", after := #[{ on := 1, ground := Go.Ground.data }, { on := 5, ground := Go.Ground.data }, { on := 1, ground := Go.Ground.chain }], guard := none }
def ckq_7 : Oper := { dst := some 97, op := Go.Op.unOp Go.UnOp.not 4 (Go.Operand.tmp 96), type := 4, pos := "check.go:107", after := #[{ on := 6, ground := Go.Ground.data }], guard := none }
set_option maxRecDepth 20000 in
set_option maxHeartbeats 8000000 in
theorem ckjudge_any (N0 K m : Nat) (hm : Mild m) (t : Dv.Tm) : ∀ (c : List En) (w : World) (sc s pv : Value) (p : List Int) (P : Nat → Prop), Se.LiesEQ w P c sc → Dv.Lies w t.kids s → t.fine → St N0 K m pv p w → c.length + t.size ≤ 101 → Smc c → p.length + t.size ≤ 1000 →
  Calls Try.prog 24 #[.pointer (some ⟨K, 0, none⟩), sc, Dv.tv t s] w (GivesCk N0 K m P p (judgeB m c t) w) := by
 induction t using Dv.Tm.ind with
 | h t ih =>
 intro c w sc s pv p P hlc hl hft hst hcs hsc hps
 obtain ⟨a, cap, S, rfl, hc, hmx, hf, hn, hk⟩ := hl.out
 unfold Dv.tv
 unfold maxLen at hmx
 obtain ⟨dj, dj1, dj2⟩ := under_of 33 (by kernel_rfl)
 have IH := Lib.hid ih
 have HL := Lib.hid hl
 have HC := Lib.hid hlc
 have HF := Lib.hid hf
 have HFT := Lib.hid hft
 have HSC := Lib.hid hsc
 have HPS := Lib.hid hps
 have HCS := Lib.hid hcs
 have HSE := Lib.hid hst.sees
 have H0 := Lib.hid (StC.new (t := t) (s := .slice a t.kids.length cap) hst)
 have hKw := hst.lt
 have hlo := Lib.hid hst.lo
 clear ih hn hk hf hl hlc hst hft hsc hps hcs
 go_enter Try.func24, Try.ntmps24
 go_wp2_with fail
 go_loopw [8, 20] (fun onv i wr => ∃ (j : Nat) (ps : List PJ) (pv' : Value), j ≤ t.kids.length ∧ i = .int .i64 j ∧ Hid (ps.length = j) ∧ Hid (kidsB m c t.k 0 [] t.kids = kidsB m c t.k j (ps.map (·.1)) (t.kids.drop j)) ∧ Hid (∀ q ∈ ps, Smj q.1) ∧ Hid (MadeK (w.heap.size + 2) wr onv ps) ∧ Hid (StC N0 K m w t (.slice a t.kids.length cap) pv' p wr)) (fun _ i _ => t.kids.length - (intOf i).toNat)
 case atStart => exact ⟨0, [], pv, Nat.zero_le _, rfl, rfl, by simp [Hid], Lib.hid (fun _ h => by cases h), Lib.hid (madeK_nil _ _), H0⟩
 case round =>
  clear H0
  obtain ⟨j, ps, pv', hj, rfl, hpl, hkb, hsm, hmk, hsd⟩ := hrel
  obtain ⟨y0, y1, y2⟩ := hsd.out.cells
  by_cases hlt : j < t.kids.length
  ·have hlt' : (j : Int) < (t.kids.length : Int) := by omega
   obtain ⟨a1, cap1, S1, he1, -, -, -, hn1, hk1⟩ := (dlies_fr hsd.out.fr HSE.out HL.out).out
   obtain ⟨b, o, ha, hx⟩ := hn1 j hlt
   have hq := hk1 j hlt
   obtain ⟨a', cap', S', hS, -⟩ := hq.out
   rw [hS] at hx hq
   obtain ⟨x0, x1, x2⟩ := hx
   simp only [Value.slice.injEq] at he1
   obtain ⟨rfl, -, -⟩ := he1
   subst ha
   have HQ := Lib.hid hq
   clear hS hq hn1 hk1
   go_upto_region 5 with fail
   clear x0 x1 x2
   have HV := Lib.hid (((Below.refl wr.heap.size wr).alloc (Nat.le_refl _) (.cells #[.int .i64 (t.kids[j]).k, .int .i64 (t.kids[j]).i, .slice a' (t.kids[j]).kids.length cap'] 25)) : Kept wr _)
   have hvp : (wr.alloc (.cells #[.int .i64 (t.kids[j]).k, .int .i64 (t.kids[j]).i, .slice a' (t.kids[j]).kids.length cap'] 25)).heap[wr.heap.size]? = some (Obj.cells #[.int .i64 (t.kids[j]).k, .int .i64 (t.kids[j]).i, .slice a' (t.kids[j]).kids.length cap'] 25 (0, 0)) := alloc_new _ _
   have hvs : (wr.alloc (.cells #[.int .i64 (t.kids[j]).k, .int .i64 (t.kids[j]).i, .slice a' (t.kids[j]).kids.length cap'] 25)).heap.size = wr.heap.size + 1 := by simp
   obtain ⟨D, hD⟩ : ∃ D, wr.heap.size = D := ⟨_, rfl⟩
   rw [hD] at hvp hvs
   rw [hD]
   generalize wr.alloc (.cells #[.int .i64 (t.kids[j]).k, .int .i64 (t.kids[j]).i, .slice a' (t.kids[j]).kids.length cap'] 25) = V at HV hvp hvs ⊢
   have HVP := Lib.hid hvp
   have HVS := Lib.hid hvs
   have HD := Lib.hid hD
   have HSD := Lib.hid (hsd.out.later HV.out)
   have HMK := Lib.hid (madeK_later hmk.out HV.out)
   have HQV := Lib.hid (HQ.out.keep HV.out)
   clear hvp hvs hsd hmk y0 y1 y2 HQ hD
   obtain ⟨y0, y1, y2⟩ := HSD.out.cells
   have HJ := Lib.hid (madeK_lies HMK.out)
   have HOB := Lib.hid (show ∀ b, V.heap.size ≤ b → (w.heap.size + 2 ≤ b ∧ u8.ownBlock ≠ some b) from fun b hb => ⟨by have := HSD.out.size; omega, fun e => by have := madeK_block HMK.out e; omega⟩)
   go_wp2_with fail
   refine (premiseP_any c (ps.map (·.1)) t.k (j : Int) V sc _ (Se.liesEQ_lies (liesEQ_fr HSD.out.fr HSE.out HC.out)) (Se.liesJQ_lies HJ.out) HFT.out.1 (by unfold I64; omega) (by have := HCS.out; omega) (fun e he => by have := HSC.out.ents e he; omega) (fun x hx => by obtain ⟨q, hq, rfl⟩ := List.mem_map.1 hx; have := hsm.out q hq; unfold Smj at this; exact ⟨by omega, by omega⟩)).mono ?_
   obtain ⟨cc, hcc⟩ : ∃ cc, (premB c t.k (j : Int) (ps.map (·.1))).1 = cc := ⟨_, rfl⟩
   have HCC := Lib.hid hcc
   have hsmm := smc_prem (r := t.k) (kid := (j : Int)) HSC.out (fun x hx => by obtain ⟨q, hq, rfl⟩ := List.mem_map.1 hx; exact hsm.out q hq)
   rw [hcc] at hsmm
   have HSM := Lib.hid hsmm
   clear hsmm
   cases hp : (premB c t.k (j : Int) (ps.map (·.1))).2 with
   | false =>
    as_aux_lemma =>
     rintro e w1 ⟨s1, rfl, hl1, hk1⟩
     (try rw [hp])
     have HSD1 := Lib.hid (HSD.out.later hk1)
     have HP := Lib.hid (judge_no hkb.out hlt hp)
     obtain ⟨as1, cs1, Ss1, rfl, -⟩ := hl1.out
     clear hl1 hk1 y0 y1 y2 HJ HMK
     go_wp2_with (refine stop_store 33 (.tmp 6) (.tmp 36) rfl ?_)
     intro _
     refine wpList_store_part_n (by rfl) 33 (.tmp 6) (.tmp 36) rfl (w.heap.size + 1) 0 zAgg (by rfl) (by rfl) 33 (by kernel_rfl) (row_ok rfl) ?_
     intro W hW
     subst hW
     refine ⟨_, zAgg, HSD1.out.res, rfl, Nat.le_of_ble_eq_true rfl, ?_⟩
     intro W2 hW2
     go_wp2_with fail
     (try simp only [Exit.inBlock, Exit.then])
     refine bodyPost_ret (results_cell_tmp rfl _ _ (w.heap.size + 1) 33 _ _ dj rfl (HSD1.out.set hW2).1 dj1 (by cases dj <;> first | rfl | exact dj2) (by kernel_rfl)) rfl ?_
     rw [HP.out]
     have HZ := HSD1.out.set hW2
     exact ⟨HZ.2.2, _, rfl, by rw [List.append_nil]; exact HZ.2.1⟩
   | true =>
    rintro e w1 ⟨s1, rfl, hl1, hk1⟩
    (try rw [hp])
    rw [hcc] at hl1
    have HP := Lib.hid hp
    clear hcc hp
    have HSD1 := Lib.hid (HSD.out.later hk1)
    have HMK1 := Lib.hid (madeK_later HMK.out hk1)
    have HQ1 := Lib.hid (HQV.out.keep hk1)
    have HVP1 := Lib.hid ((hk1.block D (by have := HVS.out; omega)).trans HVP.out)
    have hz1 : V.heap.size ≤ w1.heap.size := hk1.size
    have HL1 := Lib.hid (liesEP_q hl1)
    obtain ⟨as1, cs1, Ss1, rfl, -⟩ := hl1.out
    obtain ⟨ap, cp, he, hpc, hpm⟩ := HSD1.out.st.row.slc
    subst he
    clear hl1 hk1 y0 y1 y2 HJ HMK HQV
    obtain ⟨k0, k1⟩ := HSD1.out.st.cells
    have hA : Kept w1 (w1.alloc (.cells #[.int .i64 (j : Int)] 3)) := (Below.refl w1.heap.size w1).alloc (Nat.le_refl _) _
    have HAC := Lib.hid (show (w1.alloc (.cells #[.int .i64 (j : Int)] 3)).cell? ⟨w1.heap.size, 0, none⟩ = some (.int .i64 (j : Int)) from by rw [Lib.cell_of_heap (alloc_new _ _)]; rfl)
    have HSA := Lib.hid (HSD1.out.later hA)
    have HAS := Lib.hid (show (w1.alloc (.cells #[.int .i64 (j : Int)] 3)).heap.size = w1.heap.size + 1 by simp)
    have HAK := Lib.hid hA
    clear hA
    go_upto_region 9 with (at_builtin; refine wpList_append_path rfl (.tmp 41) (.tmp 43) rfl N0 K (.slice ap p.length cp) p HSA.out.st.row rfl ⟨w1.heap.size, 0, none⟩ 1 (j : Int) (by rfl) HAC.out (by have := HPS.out; omega) (by have := HSA.out.st.lo; have := HSA.out.st.lt; omega) ?_; intro g cg w2 hr2 hrow2 hfr2; have hb2 := (hrow2 K HSA.out.st.lt (not_row HSA.out.st.box (by decide))).trans HSA.out.st.box; have k1' : w2.cell? ⟨K, 1, none⟩ = some (.slice ap p.length cp) := (by rw [Lib.cell_of_heap hb2]; rfl); have k1f : w2.frozen? ⟨K, 1, none⟩ = false := (by simp [World.frozen?, hb2]); have HB2 := Lib.hid hb2; have HR2 := Lib.hid hr2; have HF2 := Lib.hid hfr2; clear hr2 hrow2 hfr2 hb2)
    have hst3 := St.set HB2.out HSA.out.st.lo HR2.out
    have hlen : (p ++ [(j : Int)]).length = p.length + 1 := by simp
    generalize w2.setCell ⟨K, 1, none⟩ (.slice (some ⟨g, 0, none⟩) (p.length + 1) cg) = w3 at hst3 ⊢
    have HST3 := Lib.hid hst3.1
    have HF3 := Lib.hid ((Fr.of HAK.out : Fr N0 K w1 _).trans (HF2.out.trans hst3.2))
    clear hst3 k0 k1 k1' k1f
    have HSD3 := Lib.hid (HSD1.out.step HF3.out HST3.out)
    have HL3 := Lib.hid (liesEQ_fr HF3.out HSD1.out.st.sees HL1.out)
    have HQ3 := Lib.hid (dlies_fr HF3.out HSD1.out.st.sees HQ1.out)
    have HMK3 := Lib.hid (madeK_fr HMK1.out HF3.out HSD1.out.st.sees (by omega))
    have hvp3 := (HF3.out.block D (by have := HVS.out; have := hz1; omega) (Or.inr ⟨by have := HSD.out.size; have := HVS.out; have := HD.out; omega, not_row HVP1.out (by decide)⟩)).trans HVP1.out
    have z0 : w3.cell? ⟨D, 0, none⟩ = some (.int .i64 (t.kids[j]).k) := by rw [Lib.cell_of_heap hvp3]; rfl
    have z1 : w3.cell? ⟨D, 1, none⟩ = some (.int .i64 (t.kids[j]).i) := by rw [Lib.cell_of_heap hvp3]; rfl
    have z2 : w3.cell? ⟨D, 2, none⟩ = some (.slice a' (t.kids[j]).kids.length cap') := by rw [Lib.cell_of_heap hvp3]; rfl
    clear hvp3
    go_wp2_with fail
    have HCALL := Lib.hid (IH.out t.kids[j] (List.getElem_mem hlt) cc w3 (.slice as1 cc.length cs1) (.slice a' (t.kids[j]).kids.length cap') (.slice (some ⟨g, 0, none⟩) (p.length + 1) cg) (p ++ [(j : Int)]) (fun b => V.heap.size ≤ b) HL3.out HQ3.out (HF.out _ (List.getElem_mem hlt)) HST3.out (by have := dsize_kid (List.getElem_mem hlt); have := HSM.out.2; have := HCS.out; omega) HSM.out.1 (by have := dsize_kid (List.getElem_mem hlt); have := HPS.out; omega))
    cases hx : judgeB m cc t.kids[j] with
    | error ea =>
     as_aux_lemma =>
      obtain ⟨er, q⟩ := ea
      have HX := Lib.hid (judge_err hkb.out hlt HP.out (by rw [HCC.out]; exact hx))
      have her := judgeB_err m _ _ hx
      have HCE := HCALL.out
      rw [hx] at HCE
      have HCE2 := Lib.hid HCE
      clear HCALL HCE hx
      refine HCE2.out.mono ?_
      rintro e w4 ⟨hf4, pv4, rfl, hs4⟩
      go_wp2_with (refine stop_store 33 (.tmp 13) (.tmp 52) rfl ?_)
      intro _
      refine wpList_store_part_n (by rfl) 33 (.tmp 13) (.tmp 52) rfl (w4.heap.size) 0 zAgg (by rfl) (by rfl) 33 (by kernel_rfl) (row_ok rfl) ?_
      intro W hW
      subst hW
      refine ⟨_, zAgg, alloc_new _ _, rfl, Nat.le_of_ble_eq_true rfl, ?_⟩
      intro w5 hwn
      have hfr := fresh_judg hwn
      clear hwn
      have HSD5 := Lib.hid ((HSD3.out.step hf4 hs4).later hfr.1)
      clear hfr
      clear hf4 hs4 z0 z1 z2 HCE2
      rcases her with her | her
      ·obtain rfl : er = 3 := her
       go_wp2_with (refine stop_store 33 (.tmp 6) (.tmp 56) rfl ?_)
       intro _
       refine wpList_store_part_n (by rfl) 33 (.tmp 6) (.tmp 56) rfl (w.heap.size + 1) 0 zAgg (by rfl) (by rfl) 33 (by kernel_rfl) (row_ok rfl) ?_
       intro W hW
       subst hW
       refine ⟨_, zAgg, HSD5.out.res, rfl, Nat.le_of_ble_eq_true rfl, ?_⟩
       intro W2 hW2
       go_wp2_with fail
       (try simp only [Exit.inBlock, Exit.then])
       refine bodyPost_ret (results_cell_tmp rfl _ _ (w.heap.size + 1) 33 _ _ dj rfl (HSD5.out.set hW2).1 dj1 (by cases dj <;> first | rfl | exact dj2) (by kernel_rfl)) rfl ?_
       rw [HX.out]
       have HZ := HSD5.out.set hW2
       exact ⟨HZ.2.2, _, rfl, by have h := HZ.2.1; rw [List.append_assoc] at h; exact h⟩
      ·obtain rfl : er = 4 := her
       go_wp2_with (refine stop_store 33 (.tmp 6) (.tmp 56) rfl ?_)
       intro _
       refine wpList_store_part_n (by rfl) 33 (.tmp 6) (.tmp 56) rfl (w.heap.size + 1) 0 zAgg (by rfl) (by rfl) 33 (by kernel_rfl) (row_ok rfl) ?_
       intro W hW
       subst hW
       refine ⟨_, zAgg, HSD5.out.res, rfl, Nat.le_of_ble_eq_true rfl, ?_⟩
       intro W2 hW2
       go_wp2_with fail
       (try simp only [Exit.inBlock, Exit.then])
       refine bodyPost_ret (results_cell_tmp rfl _ _ (w.heap.size + 1) 33 _ _ dj rfl (HSD5.out.set hW2).1 dj1 (by cases dj <;> first | rfl | exact dj2) (by kernel_rfl)) rfl ?_
       rw [HX.out]
       have HZ := HSD5.out.set hW2
       exact ⟨HZ.2.2, _, rfl, by have h := HZ.2.1; rw [List.append_assoc] at h; exact h⟩
    | ok x =>
     have HX := Lib.hid (judge_step hkb.out hlt HP.out (by rw [HCC.out]; exact hx))
     have HXS := Lib.hid (judgeB_small hm _ cc (by have := dsize_kid (List.getElem_mem hlt); have := HSM.out.2; have := HCS.out; omega) HSM.out.1 hx)
     have HCE := HCALL.out
     rw [hx] at HCE
     have HCE2 := Lib.hid HCE
     clear HCALL HCE hx
     refine HCE2.out.mono ?_
     rintro e w4 ⟨hf4, su, sv, sa, pv4, rfl, hs4, hfx, hu, hv, ha⟩
     obtain ⟨au, cu, Su, rfl, -⟩ := hu.out
     obtain ⟨av, cv, Sv, rfl, -⟩ := hv.out
     obtain ⟨aa, ca, Sa, rfl, -⟩ := ha.out
     obtain ⟨g4, c4, rfl, hc4, hc4m⟩ := rowI_some hs4.row
     have HSD4 := Lib.hid (HSD3.out.step hf4 hs4)
     have HMK4 := Lib.hid (madeK_fr HMK3.out hf4 HST3.out.sees (by omega))
     have HU := Lib.hid hu
     have HV' := Lib.hid hv
     have HA := Lib.hid ha
     have HFX := Lib.hid hfx
     have hz4 := hf4.size
     clear hf4 hs4 z0 z1 z2 HCE2 hu hv ha hfx
     go_wp2_with (refine stop_store 33 (.tmp 13) (.tmp 52) rfl ?_)
     intro _
     refine wpList_store_part_n (by rfl) 33 (.tmp 13) (.tmp 52) rfl (w4.heap.size) 0 #[.bool x.eq, .int .i64 x.u.k, .int .i64 x.u.i, .int .i64 x.u.j, .int .i64 x.u.n, (.slice au x.u.kids.length cu), .int .i64 x.v.k, .int .i64 x.v.i, .int .i64 x.v.j, .int .i64 x.v.n, (.slice av x.v.kids.length cv), .int .i64 x.a.k, .int .i64 x.a.i, .int .i64 x.a.j, .int .i64 x.a.n, (.slice aa x.a.kids.length ca), .int .i64 x.i] (by rfl) (by rfl) 33 (by kernel_rfl) (row_ok rfl) ?_
     intro W hW
     subst hW
     refine ⟨_, #[.bool x.eq, .int .i64 x.u.k, .int .i64 x.u.i, .int .i64 x.u.j, .int .i64 x.u.n, (.slice au x.u.kids.length cu), .int .i64 x.v.k, .int .i64 x.v.i, .int .i64 x.v.j, .int .i64 x.v.n, (.slice av x.v.kids.length cv), .int .i64 x.a.k, .int .i64 x.a.i, .int .i64 x.a.j, .int .i64 x.a.n, (.slice aa x.a.kids.length ca), .int .i64 x.i], alloc_new _ _, rfl, Nat.le_of_ble_eq_true rfl, ?_⟩
     intro w5 hwn
     have hfr := fresh_judg hwn
     clear hwn
     obtain ⟨hk5, hjb, hz5⟩ := hfr
     obtain ⟨E, hE⟩ : ∃ E, w4.heap.size = E := ⟨_, rfl⟩
     rw [hE] at hjb hz5
     rw [hE]
     go_upto_region 12 with fail
     have HSD5 := Lib.hid (HSD4.out.later hk5)
     have HMK5 := Lib.hid (madeK_later HMK4.out hk5)
     have HU5 := Lib.hid (HU.out.later hk5)
     have HV5 := Lib.hid (HV'.out.later hk5)
     have HA5 := Lib.hid (HA.out.later hk5)
     have HJB := Lib.hid hjb
     have HE := Lib.hid hE
     have HZ5 := Lib.hid hz5
     clear hk5 hjb hE hz5
     have k1 := HSD5.out.st.cells.2
     have k1f := HSD5.out.st.free 1
     have hw1 : IntKind.i64.wrap ((p.length : Nat) : Int) = ((p.length : Nat) : Int) := IntWalk.i64_in _ (by have := HPS.out; omega)
     have hle' : ((p.length : Nat) : Int) ≤ (c4 : Int) := by omega
     have hle : p.length ≤ c4 := by omega
     have hpl2 : p.length ≤ 1000 := by have := HPS.out; omega
     have hst6 := St.set HSD5.out.st.box HSD5.out.st.lo HSD5.out.st.row.pop
     have HST6 := Lib.hid hst6.1.drew
     have HF6 := Lib.hid hst6.2.drew
     have HSD6 := Lib.hid (HSD5.out.step HF6.out HST6.out)
     have HMK6 := Lib.hid (madeK_fr HMK5.out HF6.out HSD5.out.st.sees (by omega))
     have HU6 := Lib.hid (liesQ_fr HF6.out HSD5.out.st.sees HU5.out)
     have HV6 := Lib.hid (liesQ_fr HF6.out HSD5.out.st.sees HV5.out)
     have HA6 := Lib.hid (liesQ_fr HF6.out HSD5.out.st.sees HA5.out)
     have HJB6 := Lib.hid ((HF6.out.block E (by have := HZ5.out; omega) (Or.inr ⟨by have := HSD4.out.size; have := HE.out; omega, not_row HJB.out (by decide)⟩)).trans HJB.out)
     have HZ6 := Lib.hid (show (w5.setCell ⟨K, 1, none⟩ (.slice (some ⟨g4, 0, none⟩) p.length c4)).drew.heap.size = E + 1 by show (w5.setCell ⟨K, 1, none⟩ (.slice (some ⟨g4, 0, none⟩) p.length c4)).heap.size = _; simp [HZ5.out])
     obtain ⟨w6, hw6⟩ : ∃ w6, (w5.setCell ⟨K, 1, none⟩ (.slice (some ⟨g4, 0, none⟩) p.length c4)).drew = w6 := ⟨_, rfl⟩
     rw [hw6] at HST6 HF6 HSD6 HMK6 HU6 HV6 HA6 HJB6 HZ6
     have HW6 := Lib.hid hw6
     clear hst6 hw6 HSD5 HMK5 HU5 HV5 HA5 HJB
     have hk7 : Kept w6 (w6.alloc (.cells #[.bool x.eq, .int .i64 x.u.k, .int .i64 x.u.i, .int .i64 x.u.j, .int .i64 x.u.n, (.slice au x.u.kids.length cu), .int .i64 x.v.k, .int .i64 x.v.i, .int .i64 x.v.j, .int .i64 x.v.n, (.slice av x.v.kids.length cv), .int .i64 x.a.k, .int .i64 x.a.i, .int .i64 x.a.j, .int .i64 x.a.n, (.slice aa x.a.kids.length ca), .int .i64 x.i] 33)) := (Below.refl w6.heap.size w6).alloc (Nat.le_refl _) _
     have HSD7 := Lib.hid (HSD6.out.later hk7)
     have HMK7 := Lib.hid (madeK_later HMK6.out hk7)
     have hzw : w.heap.size + 2 ≤ V.heap.size := HSD.out.size
     have hzv : V.heap.size ≤ w3.heap.size := by have := HF3.out.size; omega
     have HPX := Lib.hid (show ∀ b, (V.heap.size ≤ b ∨ w3.heap.size ≤ b) → (w.heap.size + 2 ≤ b ∧ u8.ownBlock ≠ some b) from fun b hb => HOB.out b (by omega))
     have HKX := Lib.hid (show LiesQ (w6.alloc (.cells #[.bool x.eq, .int .i64 x.u.k, .int .i64 x.u.i, .int .i64 x.u.j, .int .i64 x.u.n, (.slice au x.u.kids.length cu), .int .i64 x.v.k, .int .i64 x.v.i, .int .i64 x.v.j, .int .i64 x.v.n, (.slice av x.v.kids.length cv), .int .i64 x.a.k, .int .i64 x.a.i, .int .i64 x.a.j, .int .i64 x.a.n, (.slice aa x.a.kids.length ca), .int .i64 x.i] 33)) (fun b => w.heap.size + 2 ≤ b ∧ u8.ownBlock ≠ some b) x.u.kids (.slice au x.u.kids.length cu) ∧ LiesQ (w6.alloc (.cells #[.bool x.eq, .int .i64 x.u.k, .int .i64 x.u.i, .int .i64 x.u.j, .int .i64 x.u.n, (.slice au x.u.kids.length cu), .int .i64 x.v.k, .int .i64 x.v.i, .int .i64 x.v.j, .int .i64 x.v.n, (.slice av x.v.kids.length cv), .int .i64 x.a.k, .int .i64 x.a.i, .int .i64 x.a.j, .int .i64 x.a.n, (.slice aa x.a.kids.length ca), .int .i64 x.i] 33)) (fun b => w.heap.size + 2 ≤ b ∧ u8.ownBlock ≠ some b) x.v.kids (.slice av x.v.kids.length cv) ∧ LiesQ (w6.alloc (.cells #[.bool x.eq, .int .i64 x.u.k, .int .i64 x.u.i, .int .i64 x.u.j, .int .i64 x.u.n, (.slice au x.u.kids.length cu), .int .i64 x.v.k, .int .i64 x.v.i, .int .i64 x.v.j, .int .i64 x.v.n, (.slice av x.v.kids.length cv), .int .i64 x.a.k, .int .i64 x.a.i, .int .i64 x.a.j, .int .i64 x.a.n, (.slice aa x.a.kids.length ca), .int .i64 x.i] 33)) (fun b => w.heap.size + 2 ≤ b ∧ u8.ownBlock ≠ some b) x.a.kids (.slice aa x.a.kids.length ca) from ⟨(HU6.out.later hk7).wide HPX.out, (HV6.out.later hk7).wide HPX.out, (HA6.out.later hk7).wide HPX.out⟩)
     have HZ7 := Lib.hid (show (w6.alloc (.cells #[.bool x.eq, .int .i64 x.u.k, .int .i64 x.u.i, .int .i64 x.u.j, .int .i64 x.u.n, (.slice au x.u.kids.length cu), .int .i64 x.v.k, .int .i64 x.v.i, .int .i64 x.v.j, .int .i64 x.v.n, (.slice av x.v.kids.length cv), .int .i64 x.a.k, .int .i64 x.a.i, .int .i64 x.a.j, .int .i64 x.a.n, (.slice aa x.a.kids.length ca), .int .i64 x.i] 33)).heap.size = w6.heap.size + 1 by simp)
     have hw2 : IntKind.i64.wrap ((j : Int) + 1) = (j : Int) + 1 := IntWalk.i64_in _ (by omega)
     obtain ⟨i0, hi⟩ := info_parts info_judg
     have HI := Lib.hid hi
     have HPLJ := Lib.hid (show ps.length ≤ 1000 by have h1 := hpl.out; have h2 := HCS.out; have h3 := kids_le t; omega)
     have HWZ := Lib.hid (show w.heap.size + 2 ≤ (w6.alloc (.cells #[.bool x.eq, .int .i64 x.u.k, .int .i64 x.u.i, .int .i64 x.u.j, .int .i64 x.u.n, (.slice au x.u.kids.length cu), .int .i64 x.v.k, .int .i64 x.v.i, .int .i64 x.v.j, .int .i64 x.v.n, (.slice av x.v.kids.length cv), .int .i64 x.a.k, .int .i64 x.a.i, .int .i64 x.a.j, .int .i64 x.a.n, (.slice aa x.a.kids.length ca), .int .i64 x.i] 33)).heap.size by have h1 := HSD7.out.size; exact h1)
     clear hk7 hi HU6 HV6 HA6 HMK6
     go_region_law fail
     all_goals
      try rw [HW6.out]
      go_wp2_with (refine stop_load 33 (.tmp 13) rfl ?_)
      intro _
      refine wpList_load_part (E) (0) 33 (.tmp 13) #[.bool x.eq, .int .i64 x.u.k, .int .i64 x.u.i, .int .i64 x.u.j, .int .i64 x.u.n, (.slice au x.u.kids.length cu), .int .i64 x.v.k, .int .i64 x.v.i, .int .i64 x.v.j, .int .i64 x.v.n, (.slice av x.v.kids.length cv), .int .i64 x.a.k, .int .i64 x.a.i, .int .i64 x.a.j, .int .i64 x.a.n, (.slice aa x.a.kids.length ca), .int .i64 x.i] dj HJB6.out (by rfl) rfl (by rfl) (by rfl) dj1 (by cases dj <;> first | rfl | exact dj2) (by kernel_rfl) ?_
      go_wp2_with (at_builtin; refine wpList_append_lies _ rfl (.tmp 72) (.tmp 74) 50 rfl (w.heap.size + 2) 33 i0 _ 17 184 (by kernel_rfl) HI.out.1 HI.out.2.1 HI.out.2.2.1 HI.out.2.2.2 rfl (by decide) u8 ps.length (cells17 ps) rfl HMK7.out.own ⟨w6.heap.size, 0, none⟩ 1 1 (cells17 [(x, (.slice au x.u.kids.length cu, .slice av x.v.kids.length cv, .slice aa x.a.kids.length ca))]) rfl rfl (newsJ w6 x _ _ _ _) (oneJ x _ _ _) (by decide) (by have := HPLJ.out; unfold maxLen; omega) (by have := HPLJ.out; omega) HWZ.out _ rfl ?_; intro g7 c7 w7 hown7 hgrow7 hat7 _; have HMK8 := Lib.hid (madeK_step HMK7.out (p := (x, (.slice au x.u.kids.length cu, .slice av x.v.kids.length cv, .slice aa x.a.kids.length ca))) HFX.out HKX.out hown7 hgrow7 hat7); have HSD8 := Lib.hid (HSD7.out.grow hgrow7 (fun b hb => madeK_row HMK7.out hb)); clear hown7 hgrow7 hat7)
      go_roundw
      case rel => exact ⟨j + 1, ps ++ [(x, (.slice au x.u.kids.length cu, .slice av x.v.kids.length cv, .slice aa x.a.kids.length ca))], _, hlt, by go_num, by have := hpl.out; simp [Hid]; omega, by rw [List.map_append]; exact HX, Lib.hid (fun q hq => by rcases List.mem_append.1 hq with hq | hq; exact hsm.out q hq; rw [List.mem_singleton.1 hq]; exact HXS.out), HMK8, HSD8⟩
      case measure => simp [intOf]; omega
  ·have hje : t.kids.length ≤ j := by omega
   have HKE := Lib.hid (judge_end hkb.out hje)
   have hSd := hsd.out.size
   have HCQ := Lib.hid (Se.liesEQ_keep (liesEQ_fr hsd.out.fr HSE.out (Se.liesEQ_keep (Q := fun b => P b ∧ b < w.heap.size) HC.out (fun b _ _ => rfl) (fun b hb hlt => ⟨hb, hlt⟩))) (Q := fun b => (P b ∧ b < w.heap.size) ∨ w.heap.size + 2 ≤ b) (fun b _ _ => rfl) (fun b hb _ => Or.inl hb))
   have HJQ := Lib.hid (Se.liesJQ_keep (madeK_lies hmk.out) (Q := fun b => (P b ∧ b < w.heap.size) ∨ w.heap.size + 2 ≤ b) (fun b _ _ => rfl) (fun b hb _ => Or.inr hb))
   have HSL := Lib.hid (show Sml c (ps.map (·.1)) from ⟨by have := HCS.out; omega, HSC.out.ents, fun x hx => by obtain ⟨q, hq, rfl⟩ := List.mem_map.1 hx; exact hsm.out q hq⟩)
   have HSD := Lib.hid hsd.out
   clear hsd hmk
   go_wp2_with fail
   refine (ofC_any HCQ.out HJQ.out HFT.out.1 HFT.out.2 HSL.out).mono ?_
   rintro e w1 ⟨su, sv, sa, rfl, hfx, hu, hv, ha, hk1⟩
   have HSD1 := Lib.hid (HSD.out.later hk1)
   have hz1 := hk1.size
   obtain ⟨au, cu, Su, rfl, -⟩ := hu.out
   obtain ⟨av, cv, Sv, rfl, -⟩ := hv.out
   obtain ⟨aa, ca, Sa, rfl, -⟩ := ha.out
   have HU := Lib.hid hu
   have HV := Lib.hid hv
   have HA := Lib.hid ha
   have HFX := Lib.hid hfx
   clear hu hv ha hfx hk1 y0 y1 y2 HSD
   cases ho : ofB c t.k t.i (ps.map (·.1)) with
   | none =>
    as_aux_lemma =>
     have HR := Lib.hid (show judgeB m c t = .error (3, []) by rw [HKE.out]; unfold endB; rw [ho])
     clear HU HV HA HFX HSL HJQ HCQ HKE
     simp only [Option.getD_none, Option.isSome_none]
     go_wp2_with (refine stop_store 33 (.tmp 15) (.tmp 85) rfl ?_)
     intro _
     refine wpList_store_part_n (by rfl) 33 (.tmp 15) (.tmp 85) rfl (w1.heap.size) 0 #[.bool zJ.eq, .int .i64 zJ.u.k, .int .i64 zJ.u.i, .int .i64 zJ.u.j, .int .i64 zJ.u.n, (.slice au zJ.u.kids.length cu), .int .i64 zJ.v.k, .int .i64 zJ.v.i, .int .i64 zJ.v.j, .int .i64 zJ.v.n, (.slice av zJ.v.kids.length cv), .int .i64 zJ.a.k, .int .i64 zJ.a.i, .int .i64 zJ.a.j, .int .i64 zJ.a.n, (.slice aa zJ.a.kids.length ca), .int .i64 zJ.i] (by rfl) (by rfl) 33 (by kernel_rfl) (row_ok rfl) ?_
     intro W hW
     subst hW
     refine ⟨_, #[.bool zJ.eq, .int .i64 zJ.u.k, .int .i64 zJ.u.i, .int .i64 zJ.u.j, .int .i64 zJ.u.n, (.slice au zJ.u.kids.length cu), .int .i64 zJ.v.k, .int .i64 zJ.v.i, .int .i64 zJ.v.j, .int .i64 zJ.v.n, (.slice av zJ.v.kids.length cv), .int .i64 zJ.a.k, .int .i64 zJ.a.i, .int .i64 zJ.a.j, .int .i64 zJ.a.n, (.slice aa zJ.a.kids.length ca), .int .i64 zJ.i], alloc_new _ _, rfl, Nat.le_of_ble_eq_true rfl, ?_⟩
     intro w2 hwn
     have hfr := fresh_judg hwn
     clear hwn
     have HSD4 := Lib.hid (HSD1.out.later hfr.1)
     clear hfr
     go_wp2_with (refine stop_store 33 (.tmp 6) (.tmp 89) rfl ?_)
     intro _
     refine wpList_store_part_n (by rfl) 33 (.tmp 6) (.tmp 89) rfl (w.heap.size + 1) 0 zAgg (by rfl) (by rfl) 33 (by kernel_rfl) (row_ok rfl) ?_
     intro W hW
     subst hW
     refine ⟨_, zAgg, HSD4.out.res, rfl, Nat.le_of_ble_eq_true rfl, ?_⟩
     intro W2 hW2
     go_wp2_with fail
     (try simp only [Exit.inBlock, Exit.then])
     refine bodyPost_ret (results_cell_tmp rfl _ _ (w.heap.size + 1) 33 _ _ dj rfl (HSD4.out.set hW2).1 dj1 (by cases dj <;> first | rfl | exact dj2) (by kernel_rfl)) rfl ?_
     rw [HR.out]
     have HZ := HSD4.out.set hW2
     exact ⟨HZ.2.2, _, rfl, by rw [List.append_nil]; exact HZ.2.1⟩
   | some x =>
    simp only [ho, Option.getD_some, Option.isSome_some] at HU HV HA HFX ⊢
    have HOK := Lib.hid (Se.ofB_smallw HSL.out ho)
    go_wp2_with (refine stop_store 33 (.tmp 15) (.tmp 85) rfl ?_)
    intro _
    refine wpList_store_part_n (by rfl) 33 (.tmp 15) (.tmp 85) rfl (w1.heap.size) 0 #[.bool x.eq, .int .i64 x.u.k, .int .i64 x.u.i, .int .i64 x.u.j, .int .i64 x.u.n, (.slice au x.u.kids.length cu), .int .i64 x.v.k, .int .i64 x.v.i, .int .i64 x.v.j, .int .i64 x.v.n, (.slice av x.v.kids.length cv), .int .i64 x.a.k, .int .i64 x.a.i, .int .i64 x.a.j, .int .i64 x.a.n, (.slice aa x.a.kids.length ca), .int .i64 x.i] (by rfl) (by rfl) 33 (by kernel_rfl) (row_ok rfl) ?_
    intro W hW
    subst hW
    refine ⟨_, #[.bool x.eq, .int .i64 x.u.k, .int .i64 x.u.i, .int .i64 x.u.j, .int .i64 x.u.n, (.slice au x.u.kids.length cu), .int .i64 x.v.k, .int .i64 x.v.i, .int .i64 x.v.j, .int .i64 x.v.n, (.slice av x.v.kids.length cv), .int .i64 x.a.k, .int .i64 x.a.i, .int .i64 x.a.j, .int .i64 x.a.n, (.slice aa x.a.kids.length ca), .int .i64 x.i], alloc_new _ _, rfl, Nat.le_of_ble_eq_true rfl, ?_⟩
    intro w2 hwn
    have hfr := fresh_judg hwn
    clear hwn
    obtain ⟨hk2, hjb, hz2⟩ := hfr
    obtain ⟨E, hE⟩ : ∃ E, w1.heap.size = E := ⟨_, rfl⟩
    rw [hE] at hjb hz2
    rw [hE]
    go_upto_region 18 with fail
    have HSD3 := Lib.hid (HSD1.out.later hk2)
    have HU2 := Lib.hid (HU.out.later hk2)
    have HV2 := Lib.hid (HV.out.later hk2)
    have HA2 := Lib.hid (HA.out.later hk2)
    have HJB := Lib.hid hjb
    have r0 := HSD3.out.st.cells.1
    clear hk2 hjb hE hz2 HU HV HA HSD1
    have HSZ := Lib.hid (fun (W : World) (hW : Below w2.heap.size w2 W) => Se.cksize_any x W _ _ _ _ HFX.out (HU2.out.later hW) (HV2.out.later hW) (HA2.out.later hW) HOK.out.u HOK.out.v HOK.out.a)
    cases hwb : withinB (sizeJ x) m with
    | true =>
     as_aux_lemma =>
      have HR := Lib.hid (show judgeB m c t = .ok x by rw [HKE.out]; unfold endB; rw [ho]; simp only [hwb, if_true])
      have HWB := Lib.hid hwb
      clear HSL HJQ HCQ HKE ho hwb
      have HDR := Lib.hid (show Below w2.heap.size w2 w2.drew from ⟨rfl, rfl, rfl, Nat.le_refl _, fun _ _ => rfl⟩)
      have HSZD := Lib.hid (HSZ.out w2.drew HDR.out)
      refine wp_region_held_drew (S := fun w' => w'.heap[E]? = some (Obj.cells #[.bool x.eq, .int .i64 x.u.k, .int .i64 x.u.i, .int .i64 x.u.j, .int .i64 x.u.n, (.slice au x.u.kids.length cu), .int .i64 x.v.k, .int .i64 x.v.i, .int .i64 x.v.j, .int .i64 x.v.n, (.slice av x.v.kids.length cv), .int .i64 x.a.k, .int .i64 x.a.i, .int .i64 x.a.j, .int .i64 x.a.n, (.slice aa x.a.kids.length ca), .int .i64 x.i] 33 (0, 0)) ∧ (w'.cell? ⟨K, 0, none⟩ = some (.float .f64 m) ∧ Below w2.heap.size w2 w')) (by kernel_rfl) ?_ (fun hHeld => ?_)
      ·(try dsimp only)
       (first | exact hHeld | exact ⟨(HBN.out.block E (Array.getElem?_eq_some_iff.1 HJB.out).1).trans HJB.out, (HBN.out.cell (by exact HSD3.out.st.lt)).trans r0, HBN.out⟩ | exact ⟨HJB.out, r0, HDR.out⟩)
      refine take_at 0 90 ckq_0 (yields_row E 33 33 (.tmp 15) #[.bool x.eq, .int .i64 x.u.k, .int .i64 x.u.i, .int .i64 x.u.j, .int .i64 x.u.n, (.slice au x.u.kids.length cu), .int .i64 x.v.k, .int .i64 x.v.i, .int .i64 x.v.j, .int .i64 x.v.n, (.slice av x.v.kids.length cv), .int .i64 x.a.k, .int .i64 x.a.i, .int .i64 x.a.j, .int .i64 x.a.n, (.slice aa x.a.kids.length ca), .int .i64 x.i] _ dj (by rfl) rfl (by rfl) (fun w' h => h.1) dj1 (by cases dj <;> first | rfl | exact dj2) (by kernel_rfl)) ?_
      (try simp only [Act.put, List.setIfInBounds_toArray, List.set_cons_zero, List.set_cons_succ])
      refine take_at 2 92 ckq_2 (v := ?_) (Or.inl ⟨by rfl, ?_⟩) ?_
      rotate_left 1
      ·((intro w hSw; (try dsimp only at hSw); unfold ckq_2; go_simp) <;> with_reducible rfl)
      (try simp only [Act.put, List.setIfInBounds_toArray, List.set_cons_zero, List.set_cons_succ])
      refine take_at 3 93 ckq_3 (v := ?_) (Or.inl ⟨by rfl, ?_⟩) ?_
      rotate_left 1
      ·((intro w hSw; (try dsimp only at hSw); unfold ckq_3; go_simp) <;> with_reducible rfl)
      (try simp only [Act.put, List.setIfInBounds_toArray, List.set_cons_zero, List.set_cons_succ])
      refine take_at 4 94 ckq_4 (v := ?_) (Or.inl ⟨by rfl, ?_⟩) ?_
      rotate_left 1
      ·((intro w hSw; (try dsimp only at hSw); unfold ckq_4; go_simp) <;> with_reducible rfl)
      (try simp only [Act.put, List.setIfInBounds_toArray, List.set_cons_zero, List.set_cons_succ])
      refine take_at 5 95 ckq_5 (v := ?_) (Or.inl ⟨by rfl, ?_⟩) ?_
      rotate_left 1
      ·((intro w hSw; (try dsimp only at hSw); obtain ⟨hS0, hS1, hS2⟩ := hSw; unfold ckq_5; go_simp) <;> with_reducible rfl)
      (try simp only [Act.put, List.setIfInBounds_toArray, List.set_cons_zero, List.set_cons_succ])
      refine wpAnyH_ready (rs := [1]) (by kernel_rfl) (by simp) ?_
      refine AllReadyH.cons (o := ckq_1) rfl (fun K hK => ?_) ?_
      ·unfold ckq_1
       go_simp
       (go_at_call 46; with_reducible refine Calls.mono HSZD.out ?_)
       rintro e wn ⟨rfl, hbn⟩
       have HBN := Lib.hid (show Below w2.heap.size w2 wn from ⟨hbn.os, hbn.tape, hbn.output, hbn.size, fun b hb => hbn.block b hb⟩)
       clear hbn
       refine hK.out _ _ ?_ (fun hHeld => ?_)
       ·(try dsimp only)
        (first | exact hHeld | exact ⟨(HBN.out.block E (Array.getElem?_eq_some_iff.1 HJB.out).1).trans HJB.out, (HBN.out.cell (by exact HSD3.out.st.lt)).trans r0, HBN.out⟩ | exact ⟨HJB.out, r0, HDR.out⟩)
       clear hK K
       (try simp only [Act.put, List.setIfInBounds_toArray, List.set_cons_zero, List.set_cons_succ])
       refine wpAnyH_ready (rs := [6]) (by kernel_rfl) (by simp) ?_
       refine AllReadyH.cons (o := ckq_6) rfl (fun K hK => ?_) ?_
       ·unfold ckq_6
        go_simp
        (go_at_call 45; with_reducible refine Calls.mono (within_any (sizeJ x) m _) ?_)
        rintro e wn2 ⟨rfl, rfl⟩
        rw [HWB.out]
        refine hK.out _ _ ?_ (fun hHeld => ?_)
        ·(try dsimp only)
         (first | exact hHeld | exact ⟨(HBN.out.block E (Array.getElem?_eq_some_iff.1 HJB.out).1).trans HJB.out, (HBN.out.cell (by exact HSD3.out.st.lt)).trans r0, HBN.out⟩ | exact ⟨HJB.out, r0, HDR.out⟩)
        clear hK K
        (try simp only [Act.put, List.setIfInBounds_toArray, List.set_cons_zero, List.set_cons_succ])
        refine take_at 7 97 ckq_7 (v := ?_) (Or.inl ⟨by rfl, ?_⟩) ?_
        rotate_left 1
        ·((intro w hSw; (try dsimp only at hSw); unfold ckq_7; go_simp) <;> with_reducible rfl)
        (try simp only [Act.put, List.setIfInBounds_toArray, List.set_cons_zero, List.set_cons_succ])
        refine wpAnyH_done (by kernel_rfl) ?_ _
        have HSD4 := Lib.hid (HSD3.out.later HBN.out)
        have HU4 := Lib.hid (HU2.out.later HBN.out)
        have HV4 := Lib.hid (HV2.out.later HBN.out)
        have HA4 := Lib.hid (HA2.out.later HBN.out)
        have HJB4 := Lib.hid ((HBN.out.block E (Array.getElem?_eq_some_iff.1 HJB.out).1).trans HJB.out)
        clear hHeld r0
        go_wp2_with (refine stop_load 33 (.tmp 15) rfl ?_)
        intro _
        refine wpList_load_part (E) (0) 33 (.tmp 15) #[.bool x.eq, .int .i64 x.u.k, .int .i64 x.u.i, .int .i64 x.u.j, .int .i64 x.u.n, (.slice au x.u.kids.length cu), .int .i64 x.v.k, .int .i64 x.v.i, .int .i64 x.v.j, .int .i64 x.v.n, (.slice av x.v.kids.length cv), .int .i64 x.a.k, .int .i64 x.a.i, .int .i64 x.a.j, .int .i64 x.a.n, (.slice aa x.a.kids.length ca), .int .i64 x.i] dj HJB4.out (by rfl) rfl (by rfl) (by rfl) dj1 (by cases dj <;> first | rfl | exact dj2) (by kernel_rfl) ?_
        go_wp2_with (refine stop_store 33 (.tmp 6) (.tmp 99) rfl ?_)
        intro _
        refine wpList_store_part_n (by rfl) 33 (.tmp 6) (.tmp 99) rfl (w.heap.size + 1) 0 #[.bool x.eq, .int .i64 x.u.k, .int .i64 x.u.i, .int .i64 x.u.j, .int .i64 x.u.n, (.slice au x.u.kids.length cu), .int .i64 x.v.k, .int .i64 x.v.i, .int .i64 x.v.j, .int .i64 x.v.n, (.slice av x.v.kids.length cv), .int .i64 x.a.k, .int .i64 x.a.i, .int .i64 x.a.j, .int .i64 x.a.n, (.slice aa x.a.kids.length ca), .int .i64 x.i] (by rfl) (by rfl) 33 (by kernel_rfl) (row_ok rfl) ?_
        intro W hW
        subst hW
        refine ⟨_, #[.bool x.eq, .int .i64 x.u.k, .int .i64 x.u.i, .int .i64 x.u.j, .int .i64 x.u.n, (.slice au x.u.kids.length cu), .int .i64 x.v.k, .int .i64 x.v.i, .int .i64 x.v.j, .int .i64 x.v.n, (.slice av x.v.kids.length cv), .int .i64 x.a.k, .int .i64 x.a.i, .int .i64 x.a.j, .int .i64 x.a.n, (.slice aa x.a.kids.length ca), .int .i64 x.i], HSD4.out.res, rfl, Nat.le_of_ble_eq_true rfl, ?_⟩
        intro W2 hW2
        go_wp2_with fail
        (try simp only [Exit.inBlock, Exit.then])
        refine bodyPost_ret (results_cell_tmp rfl _ _ (w.heap.size + 1) 33 _ _ dj rfl (HSD4.out.set hW2).1 dj1 (by cases dj <;> first | rfl | exact dj2) (by kernel_rfl)) rfl ?_
        rw [HR.out]
        have HZ := HSD4.out.set hW2
        exact ⟨HZ.2.2, _, _, _, _, rfl, HZ.2.1, HFX.out, liesQ_set hW2 HU4.out (fun b hb => by rcases hb with (⟨_, hb⟩ | hb) | hb <;> omega) (fun b hb => by rcases hb with (⟨hb, _⟩ | hb) | hb; exact Or.inl hb; exact Or.inr (by omega); exact Or.inr (by omega)), liesQ_set hW2 HV4.out (fun b hb => by rcases hb with (⟨_, hb⟩ | hb) | hb <;> omega) (fun b hb => by rcases hb with (⟨hb, _⟩ | hb) | hb; exact Or.inl hb; exact Or.inr (by omega); exact Or.inr (by omega)), liesQ_set hW2 HA4.out (fun b hb => by rcases hb with (⟨_, hb⟩ | hb) | hb <;> omega) (fun b hb => by rcases hb with (⟨hb, _⟩ | hb) | hb; exact Or.inl hb; exact Or.inr (by omega); exact Or.inr (by omega))⟩
       exact AllReadyH.nil
      exact AllReadyH.nil
    | false =>
     as_aux_lemma =>
      have HR := Lib.hid (show judgeB m c t = .error (4, []) by rw [HKE.out]; unfold endB; rw [ho]; simp only [hwb, Bool.false_eq_true, if_false])
      have HWB := Lib.hid hwb
      clear HSL HJQ HCQ HKE ho hwb
      have HDR := Lib.hid (show Below w2.heap.size w2 w2.drew from ⟨rfl, rfl, rfl, Nat.le_refl _, fun _ _ => rfl⟩)
      have HSZD := Lib.hid (HSZ.out w2.drew HDR.out)
      refine wp_region_held_drew (S := fun w' => w'.heap[E]? = some (Obj.cells #[.bool x.eq, .int .i64 x.u.k, .int .i64 x.u.i, .int .i64 x.u.j, .int .i64 x.u.n, (.slice au x.u.kids.length cu), .int .i64 x.v.k, .int .i64 x.v.i, .int .i64 x.v.j, .int .i64 x.v.n, (.slice av x.v.kids.length cv), .int .i64 x.a.k, .int .i64 x.a.i, .int .i64 x.a.j, .int .i64 x.a.n, (.slice aa x.a.kids.length ca), .int .i64 x.i] 33 (0, 0)) ∧ (w'.cell? ⟨K, 0, none⟩ = some (.float .f64 m) ∧ Below w2.heap.size w2 w')) (by kernel_rfl) ?_ (fun hHeld => ?_)
      ·(try dsimp only)
       (first | exact hHeld | exact ⟨(HBN.out.block E (Array.getElem?_eq_some_iff.1 HJB.out).1).trans HJB.out, (HBN.out.cell (by exact HSD3.out.st.lt)).trans r0, HBN.out⟩ | exact ⟨HJB.out, r0, HDR.out⟩)
      refine take_at 0 90 ckq_0 (yields_row E 33 33 (.tmp 15) #[.bool x.eq, .int .i64 x.u.k, .int .i64 x.u.i, .int .i64 x.u.j, .int .i64 x.u.n, (.slice au x.u.kids.length cu), .int .i64 x.v.k, .int .i64 x.v.i, .int .i64 x.v.j, .int .i64 x.v.n, (.slice av x.v.kids.length cv), .int .i64 x.a.k, .int .i64 x.a.i, .int .i64 x.a.j, .int .i64 x.a.n, (.slice aa x.a.kids.length ca), .int .i64 x.i] _ dj (by rfl) rfl (by rfl) (fun w' h => h.1) dj1 (by cases dj <;> first | rfl | exact dj2) (by kernel_rfl)) ?_
      (try simp only [Act.put, List.setIfInBounds_toArray, List.set_cons_zero, List.set_cons_succ])
      refine take_at 2 92 ckq_2 (v := ?_) (Or.inl ⟨by rfl, ?_⟩) ?_
      rotate_left 1
      ·((intro w hSw; (try dsimp only at hSw); unfold ckq_2; go_simp) <;> with_reducible rfl)
      (try simp only [Act.put, List.setIfInBounds_toArray, List.set_cons_zero, List.set_cons_succ])
      refine take_at 3 93 ckq_3 (v := ?_) (Or.inl ⟨by rfl, ?_⟩) ?_
      rotate_left 1
      ·((intro w hSw; (try dsimp only at hSw); unfold ckq_3; go_simp) <;> with_reducible rfl)
      (try simp only [Act.put, List.setIfInBounds_toArray, List.set_cons_zero, List.set_cons_succ])
      refine take_at 4 94 ckq_4 (v := ?_) (Or.inl ⟨by rfl, ?_⟩) ?_
      rotate_left 1
      ·((intro w hSw; (try dsimp only at hSw); unfold ckq_4; go_simp) <;> with_reducible rfl)
      (try simp only [Act.put, List.setIfInBounds_toArray, List.set_cons_zero, List.set_cons_succ])
      refine take_at 5 95 ckq_5 (v := ?_) (Or.inl ⟨by rfl, ?_⟩) ?_
      rotate_left 1
      ·((intro w hSw; (try dsimp only at hSw); obtain ⟨hS0, hS1, hS2⟩ := hSw; unfold ckq_5; go_simp) <;> with_reducible rfl)
      (try simp only [Act.put, List.setIfInBounds_toArray, List.set_cons_zero, List.set_cons_succ])
      refine wpAnyH_ready (rs := [1]) (by kernel_rfl) (by simp) ?_
      refine AllReadyH.cons (o := ckq_1) rfl (fun K hK => ?_) ?_
      ·unfold ckq_1
       go_simp
       (go_at_call 46; with_reducible refine Calls.mono HSZD.out ?_)
       rintro e wn ⟨rfl, hbn⟩
       have HBN := Lib.hid (show Below w2.heap.size w2 wn from ⟨hbn.os, hbn.tape, hbn.output, hbn.size, fun b hb => hbn.block b hb⟩)
       clear hbn
       refine hK.out _ _ ?_ (fun hHeld => ?_)
       ·(try dsimp only)
        (first | exact hHeld | exact ⟨(HBN.out.block E (Array.getElem?_eq_some_iff.1 HJB.out).1).trans HJB.out, (HBN.out.cell (by exact HSD3.out.st.lt)).trans r0, HBN.out⟩ | exact ⟨HJB.out, r0, HDR.out⟩)
       clear hK K
       (try simp only [Act.put, List.setIfInBounds_toArray, List.set_cons_zero, List.set_cons_succ])
       refine wpAnyH_ready (rs := [6]) (by kernel_rfl) (by simp) ?_
       refine AllReadyH.cons (o := ckq_6) rfl (fun K hK => ?_) ?_
       ·unfold ckq_6
        go_simp
        (go_at_call 45; with_reducible refine Calls.mono (within_any (sizeJ x) m _) ?_)
        rintro e wn2 ⟨rfl, rfl⟩
        rw [HWB.out]
        refine hK.out _ _ ?_ (fun hHeld => ?_)
        ·(try dsimp only)
         (first | exact hHeld | exact ⟨(HBN.out.block E (Array.getElem?_eq_some_iff.1 HJB.out).1).trans HJB.out, (HBN.out.cell (by exact HSD3.out.st.lt)).trans r0, HBN.out⟩ | exact ⟨HJB.out, r0, HDR.out⟩)
        clear hK K
        (try simp only [Act.put, List.setIfInBounds_toArray, List.set_cons_zero, List.set_cons_succ])
        refine take_at 7 97 ckq_7 (v := ?_) (Or.inl ⟨by rfl, ?_⟩) ?_
        rotate_left 1
        ·((intro w hSw; (try dsimp only at hSw); unfold ckq_7; go_simp) <;> with_reducible rfl)
        (try simp only [Act.put, List.setIfInBounds_toArray, List.set_cons_zero, List.set_cons_succ])
        refine wpAnyH_done (by kernel_rfl) ?_ _
        have HSD4 := Lib.hid (HSD3.out.later HBN.out)
        have HU4 := Lib.hid (HU2.out.later HBN.out)
        have HV4 := Lib.hid (HV2.out.later HBN.out)
        have HA4 := Lib.hid (HA2.out.later HBN.out)
        have HJB4 := Lib.hid ((HBN.out.block E (Array.getElem?_eq_some_iff.1 HJB.out).1).trans HJB.out)
        clear hHeld r0
        go_wp2_with (refine stop_store 33 (.tmp 6) (.tmp 98) rfl ?_)
        intro _
        refine wpList_store_part_n (by rfl) 33 (.tmp 6) (.tmp 98) rfl (w.heap.size + 1) 0 zAgg (by rfl) (by rfl) 33 (by kernel_rfl) (row_ok rfl) ?_
        intro W hW
        subst hW
        refine ⟨_, zAgg, HSD4.out.res, rfl, Nat.le_of_ble_eq_true rfl, ?_⟩
        intro W2 hW2
        go_wp2_with fail
        (try simp only [Exit.inBlock, Exit.then])
        refine bodyPost_ret (results_cell_tmp rfl _ _ (w.heap.size + 1) 33 _ _ dj rfl (HSD4.out.set hW2).1 dj1 (by cases dj <;> first | rfl | exact dj2) (by kernel_rfl)) rfl ?_
        rw [HR.out]
        have HZ := HSD4.out.set hW2
        exact ⟨HZ.2.2, _, rfl, by rw [List.append_nil]; exact HZ.2.1⟩
       exact AllReadyH.nil
      exact AllReadyH.nil
end Go.Proofs.Ytokgpaajelgakaa.Ck
namespace Go.Proofs.Ytokgpaajelgakaa.Dv
open Go.RowKit
def Makes (u : Tm) (w : World) (e : Ending) (w' : World) : Prop := ∃ s' : Value, e = .returned (tv u s') ∧ LiesP w' (Own w.heap.size w') u.kids s' ∧ Below w.heap.size w w'
def MakesAll (l : List Tm) (w : World) (e : Ending) (w' : World) : Prop := ∃ s' : Value, e = .returned s' ∧ LiesP w' (Own w.heap.size w') l s' ∧ Below w.heap.size w w'
theorem LiesP.out {w : World} {P : Nat → Prop} {l : List Tm} {s : Value} (h : LiesP w P l s) : ∃ (a : Option Addr) (cap : Nat), s = .slice a l.length cap ∧ l.length ≤ cap ∧ cap ≤ maxLen := by
  cases h with
  | mk l a cap S hc hm hf hn hk => exact ⟨a, cap, rfl, hc, hm⟩
def Boxes (w : World) (t : Tm) (s : Value) (w' : World) : Prop := Below (w.heap.size + 2) ((w.alloc (boxOf t s)).alloc (.cells #[.int .i64 0, .int .i64 0, .slice none 0 0] 25)) w'
theorem boxes_start (w : World) (t : Tm) (s : Value) : Boxes w t s ((w.alloc (.cells #[.int .i64 t.k, .int .i64 t.i, s] 25)).alloc (.cells #[.int .i64 0, .int .i64 0, .slice none 0 0] 25)) := Below.refl _ _
theorem boxes_held {w w' : World} {t : Tm} {s : Value} (h : Boxes w t s w') : Held w t s w' :=
  ((Below.refl (w.heap.size + 1) (w.alloc (boxOf t s))).alloc (by simp) _).trans (Below.mono h (by omega))
theorem boxes_cells {w w' : World} {t : Tm} {s : Value} (h : Boxes w t s w') : w'.cell? ⟨w.heap.size, 0, none⟩ = some (.int .i64 t.k) ∧ w'.cell? ⟨w.heap.size, 1, none⟩ = some (.int .i64 t.i) ∧ w'.cell? ⟨w.heap.size, 2, none⟩ = some s ∧
    w'.cell? ⟨w.heap.size + 1, 0, none⟩ = some (.int .i64 0) ∧ w'.cell? ⟨w.heap.size + 1, 1, none⟩ = some (.int .i64 0) ∧ w'.cell? ⟨w.heap.size + 1, 2, none⟩ = some (.slice none 0 0) ∧ w'.frozen? ⟨w.heap.size + 1, 0, none⟩ = false ∧ w'.frozen? ⟨w.heap.size + 1, 1, none⟩ = false ∧ w'.frozen? ⟨w.heap.size + 1, 2, none⟩ = false := by
  obtain ⟨h0, h1, h2⟩ := held_cells (boxes_held h)
  have hs : (w.alloc (boxOf t s)).heap.size = w.heap.size + 1 := by simp
  have := box_cells (w := w.alloc (boxOf t s)) (by rw [hs]; exact h)
  rw [hs] at this
  obtain ⟨y0, y1, y2⟩ := this
  have fr : ∀ q, w'.frozen? ⟨w.heap.size + 1, q, none⟩ = false := fun q => by
    rw [Below.frozen h (p := ⟨w.heap.size + 1, q, none⟩) (by simp)]
    unfold World.frozen?
    rw [show (⟨w.heap.size + 1, q, none⟩ : Addr).block = (w.alloc (boxOf t s)).heap.size by simp, alloc_new]
    rfl
  exact ⟨h0, h1, h2, y0, y1, y2, fr _, fr _, fr _⟩
theorem boxes_call {w w1 w2 : World} {t : Tm} {s : Value} (h : Boxes w t s w1) (hb : Below w1.heap.size w1 w2) : Boxes w t s w2 := below_call h hb (by have := Below.size h; simpa using this)
theorem boxes_block {w w1 : World} {t : Tm} {s : Value} (h : Boxes w t s w1) : w1.heap[w.heap.size + 1]? = some (.cells #[.int .i64 0, .int .i64 0, .slice none 0 0] 25 (0, 0)) := by
  rw [Below.block h _ (by omega)]
  exact heap_alloc2_new _ _ _
theorem boxes_lies {w w1 : World} {t : Tm} {s s' : Value} {l : List Tm} (h : Boxes w t s w1) (hl : Lies w l s') : Lies w1 l s' := held_lies (boxes_held h) hl
theorem len_sizes : ∀ l : List Tm, l.length ≤ sizes l
  | [] => by simp
  | t :: r => by have := len_sizes r; have := t.size_eq; simp only [sizes, List.length_cons]; omega
theorem size_mem : ∀ (l : List Tm) (x : Tm), x ∈ l → x.size ≤ sizes l
  | t :: r, x, h => by
    simp only [sizes]
    rcases List.mem_cons.1 h with rfl | h
    · omega
    · have := size_mem r x h; omega
theorem under_term : ∃ d, Try.prog.underlying 25 = some d ∧ (match d with | .struct _ | .array _ _ => true | _ => false) = true := by
  have h : (Try.prog.underlying 25).map (fun d => match d with | .struct _ | .array _ _ => true | _ => false) = some true := by kernel_rfl
  cases e : Try.prog.underlying 25 with
  | none => rw [e] at h; cases h
  | some d => rw [e] at h; exact ⟨d, rfl, Option.some.inj h⟩
theorem size_term : (Try.prog.info? 25).map (·.size) = some 3 := by kernel_rfl
end Go.Proofs.Ytokgpaajelgakaa.Dv
namespace Go.Proofs.Ytokgpaajelgakaa.Dv
open Go.RowKit
theorem held_and4 {w w' : World} {t : Tm} {s v : Value} {p : Addr} (h : Held w t s w') (hp : w.cell? p = some v) : w'.cell? p = some v ∧ w'.cell? ⟨w.heap.size, 0, none⟩ = some (.int .i64 t.k) ∧ w'.cell? ⟨w.heap.size, 1, none⟩ = some (.int .i64 t.i) ∧ w'.cell? ⟨w.heap.size, 2, none⟩ = some s :=
  ⟨cell_lat (held_below h) hp, held_cells h⟩
theorem keep4 {W : World} {b1 b2 g o : Nat} {v y0 y1 y2 : Value} (h : W.cell? ⟨b1, 2, none⟩ = some v ∧ W.cell? ⟨b2, 0, none⟩ = some y0 ∧ W.cell? ⟨b2, 1, none⟩ = some y1 ∧ W.cell? ⟨b2, 2, none⟩ = some y2) (h1 : b1 ≠ g) (h2 : b2 ≠ g) (u0 u1 u2 : Value) :
    (((W.setCell ⟨g, o, none⟩ u0).setCell ⟨g, o + 1, none⟩ u1).setCell ⟨g, o + 2, none⟩ u2).cell? ⟨b1, 2, none⟩ = some v ∧ (((W.setCell ⟨g, o, none⟩ u0).setCell ⟨g, o + 1, none⟩ u1).setCell ⟨g, o + 2, none⟩ u2).cell? ⟨b2, 0, none⟩ = some y0 ∧
      (((W.setCell ⟨g, o, none⟩ u0).setCell ⟨g, o + 1, none⟩ u1).setCell ⟨g, o + 2, none⟩ u2).cell? ⟨b2, 1, none⟩ = some y1 ∧ (((W.setCell ⟨g, o, none⟩ u0).setCell ⟨g, o + 1, none⟩ u1).setCell ⟨g, o + 2, none⟩ u2).cell? ⟨b2, 2, none⟩ = some y2 := by
  have oth : ∀ {W : World} {b p q : Nat} {u : Value}, b ≠ g → (W.setCell ⟨g, q, none⟩ u).cell? ⟨b, p, none⟩ = W.cell? ⟨b, p, none⟩ := fun hb => World.cell?_setCell_other _ _ _ _ (fun e => hb (congrArg Addr.block e).symm)
  exact ⟨by rw [oth h1, oth h1, oth h1]; exact h.1, by rw [oth h2, oth h2, oth h2]; exact h.2.1, by rw [oth h2, oth h2, oth h2]; exact h.2.2.1, by rw [oth h2, oth h2, oth h2]; exact h.2.2.2⟩
set_option maxRecDepth 20000 in
set_option maxHeartbeats 2000000 in
theorem dcopy_any (t : Tm) : ∀ (w : World) (s : Value), Lies w t.kids s → t.size ≤ 1000000 → Calls Try.prog 38 #[tv t s] w (Makes t w) := by
  induction t using Tm.ind with
  | h t ih =>
    intro w s hl hsz
    obtain ⟨a, cap, S, rfl, hc, hm, hf, hn, hk⟩ := hl.out
    have hlen : t.kids.length ≤ 1000000 := by have := len_sizes t.kids; rw [t.size_eq] at hsz; omega
    have HSM := Lib.hid (show ∀ x ∈ t.kids, x.size ≤ 1000000 from fun x hx => by have := size_mem t.kids x hx; rw [t.size_eq] at hsz; omega)
    unfold tv
    unfold maxLen at hm
    obtain ⟨du, hu1, hu2⟩ := under_term
    have HFI := Lib.hid hf
    have IH := Lib.hid ih
    have HN := Lib.hid hn
    have HK := Lib.hid hk
    have hd0 := desk_start w t t (.slice a t.kids.length cap) (.slice none 0 0)
    clear ih hn hk hf hl hsz
    by_cases h0 : t.kids.length = 0
    · have h1 : decide ((0 : Int) < (t.kids.length : Int)) = false := decide_eq_false (by omega)
      have h2 : ¬ (0 < t.kids.length) := by omega
      have HNL := Lib.hid (List.eq_nil_of_length_eq_zero h0)
      have H00 := Lib.hid h0
      clear h0
      go_enter Try.func38, Try.ntmps38
      go_wp2_with fail
      go_loopw [23] (fun i wr => i = .int .i64 0 ∧ Desk w t t (.slice a t.kids.length cap) (.slice none 0 0) wr) (fun _ _ => 0)
      case atStart => exact ⟨rfl, hd0⟩
      case round =>
        clear hd0
        obtain ⟨rfl, hdk⟩ := hrel
        obtain ⟨q0, q1, q2⟩ := desk_blocks hdk
        obtain ⟨d0, d1, d2⟩ := five_cells q0
        obtain ⟨y0, y1, y2⟩ := five_cells q2
        obtain ⟨z0, z1, z2⟩ := five_cells q1
        obtain ⟨f0, f1, f2⟩ := five_free q1
        clear q0 q2
        go_wp2_with fail
        (try simp only [Exit.inBlock, Exit.then])
        refine bodyPost_ret (results_cell_row rfl _ _ (w.heap.size + 1) _ _ _ du rfl (five_set q1) hu1 (by cases du <;> first | rfl | exact hu2) size_term) rfl ?_
        refine ⟨_, rfl, ?_, ((((desk_under hdk).setCell (by simp) _).setCell (by simp) _).setCell (by simp) _)⟩
        rw [HNL.out]
        exact liesP_nil _ _
    · have h0' : 0 < t.kids.length := by omega
      have h1 : decide ((0 : Int) < (t.kids.length : Int)) = true := decide_eq_true (by omega)
      have h0'' : (0 : Int) < (t.kids.length : Int) := by omega
      obtain ⟨i0, hi, hz0, hz1, hz2⟩ := info_parts info_term
      have HI := Lib.hid (And.intro hi (And.intro hz0 (And.intro hz1 hz2)))
      clear hi hz0 hz1 hz2 h0
      go_enter Try.func38, Try.ntmps38
      go_wp2_with (at_make; refine wpList_make_full _ rfl _ _ 23 rfl (w.heap.size + 3) 25 i0 _ 3 (by kernel_rfl) HI.out.1 HI.out.2.1 HI.out.2.2.1 _ _ _ _ t.kids.length rfl rfl rfl rfl ?bytes ?max ?base ?next)
      case bytes => rw [HI.out.2.2.2]; omega
      case max => unfold maxLen; omega
      case base => simp
      case next =>
      intro w1 hown hgrow
      have hful := full_made hown
      have hbel : Below (w.heap.size + 3) _ w1 := (Below.refl _ _).grown hgrow (by simp) (by simp)
      have hd1 : Desk w t t _ _ w1 := hbel
      clear hbel hgrow hown
      obtain ⟨q0, q1, q2⟩ := desk_blocks hd1
      obtain ⟨d0, d1, d2⟩ := five_cells q0
      obtain ⟨y0, y1, y2⟩ := five_cells q2
      obtain ⟨f0, f1, f2⟩ := five_free q2
      have hd2 := desk_set (v' := .slice (some ⟨w.heap.size + 3, 0, none⟩) t.kids.length t.kids.length) hd1
      obtain ⟨p0, -, -⟩ := desk_blocks hd2
      obtain ⟨b0, b1, b2⟩ := five_cells p0
      clear q0 q1 q2 p0
      have hf2 := hful.below (b := w.heap.size + 2) (o := 2) (by omega) (.slice (some ⟨w.heap.size + 3, 0, none⟩) t.kids.length t.kids.length)
      clear hd1 hful hd0
      go_wp2_with fail
      go_loopw [23] (fun i wr => ∃ (q : Nat) (xs : List (Tm × Value)), q ≤ t.kids.length ∧ i = .int .i64 q ∧ Hid (xs.length = t.kids.length) ∧ Hid ((xs.map (·.1)).take q = t.kids.take q) ∧ Full (w.heap.size + 3) wr (w.heap.size + 3) xs ∧ Desk w t t (.slice a t.kids.length cap) (.slice (some ⟨w.heap.size + 3, 0, none⟩) t.kids.length t.kids.length) wr) (fun i _ => t.kids.length - (intOf i).toNat)
      case atStart => exact ⟨0, _, Nat.zero_le _, rfl, List.length_replicate, rfl, hf2, hd2⟩
      case round =>
        clear hd2 hf2 d0 d1 d2 y0 y1 y2 f0 f1 f2 b0 b1 b2
        obtain ⟨q, xs, hq0, rfl, hxl, hxs, hfu, hdk⟩ := hrel
        have HXL := Lib.hid hxl.out
        have HXS := Lib.hid hxs.out
        clear hxl hxs
        have hsz := desk_size hdk
        have hb := desk_under hdk
        obtain ⟨q0, q1, q2⟩ := desk_blocks hdk
        obtain ⟨d0, d1, d2⟩ := five_cells q0
        obtain ⟨y0, y1, y2⟩ := five_cells q2
        clear q0 q2
        by_cases hlt : q < t.kids.length
        · obtain ⟨b, o, rfl, hx⟩ := HN.out q hlt
          obtain ⟨c0, c1, c2⟩ := hx.below hb hx.lt
          have hq := (HK.out q hlt).keep hb
          obtain ⟨a', cap', S', hS, -⟩ := hq.out
          rw [hS] at c2 hq
          have HM := Lib.hid (List.getElem_mem hlt)
          have hH0 := held_start wr t.kids[q] (.slice a' t.kids[q].kids.length cap')
          have CALL := Lib.hid (IH.out _ HM.out _ _ (held_lies (held_drew hH0) hq) (HSM.out _ HM.out))
          have hjlt : (q : Int) < (t.kids.length : Int) := by omega
          have hxq : q < xs.length := by rw [HXL.out]; exact hlt
          have HXQ := Lib.hid hxq
          have hne1 : w.heap.size + 2 ≠ w.heap.size + 3 := by omega
          have hne2 : wr.heap.size ≠ w.heap.size + 3 := by have := full_lt hfu; omega
          have HFU := Lib.hid hfu
          have HDK := Lib.hid hdk
          obtain ⟨g0, g1, g2⟩ := held_cells hH0
          clear hS hq hfu hdk hxq d0 d1 d2 q1
          go_wp2_with fail
          go_region_held3 (fun w' => w'.cell? ⟨w.heap.size + 2, 2, none⟩ = some (.slice (some ⟨w.heap.size + 3, 0, none⟩) t.kids.length t.kids.length) ∧ w'.cell? ⟨wr.heap.size, 0, none⟩ = some (.int .i64 t.kids[q].k) ∧ w'.cell? ⟨wr.heap.size, 1, none⟩ = some (.int .i64 t.kids[q].i) ∧ w'.cell? ⟨wr.heap.size, 2, none⟩ = some (.slice a' t.kids[q].kids.length cap'))
            (first | ((with_reducible refine keep4 ?_ hne1 hne2 _ _ _); with_reducible assumption) | ((with_reducible refine held_and4 ?_ y2); repeat (first | with_reducible assumption | with_reducible exact hH0 | with_reducible refine held_drew ?_ | with_reducible refine held_alloc ?_ _)))
            (first | (go_at_call 38; ((with_reducible refine Calls.mono CALL.out ?_); rintro e wn ⟨s2, rfl, hl2, hbn⟩; obtain ⟨a2, cap2, rfl, -, -⟩ := hl2.out; have HL2 := Lib.hid hl2; have hh := held_call (held_drew hH0) hbn; have HFN := Lib.hid (HFU.out.later (held_below hh)); obtain ⟨x0, x1, x2⟩ := HFN.out.node q HXQ.out; have f0 := full_open HFN.out (q * 3); have f1 := full_open HFN.out (q * 3 + 1); have f2 := full_open HFN.out (q * 3 + 2); clear hl2 hbn)))
          have hdW := desk_trans HDK.out (below_from (held_below hh) hsz)
          have hLF := HFU.out.fresh hsz (HL2.out.from (B' := wr.heap.size) (by simp))
          go_wp2
          go_roundw
          case rel => exact ⟨q + 1, xs.set q (t.kids[q], .slice a2 t.kids[q].kids.length cap2), hlt, by go_num, by simp [Hid, HXL.out], by rw [Hid, List.map_set, take_set_next _ _ _ (by simpa using HXQ.out), HXS.out, List.take_append_getElem hlt], HFN.out.fill HXQ.out (HFI.out _ HM.out) hLF, desk_put hdW (Nat.le_refl _) _ _ _⟩
          case measure => simp [intOf]; omega
        · have : q = t.kids.length := by omega
          subst this
          obtain ⟨z0, z1, z2⟩ := five_cells q1
          obtain ⟨f0, f1, f2⟩ := five_free q1
          go_wp2_with fail
          (try simp only [Exit.inBlock, Exit.then])
          refine bodyPost_ret (results_cell_row rfl _ _ (w.heap.size + 1) _ _ _ du rfl (five_set q1) hu1 (by cases du <;> first | rfl | exact hu2) size_term) rfl ?_
          have hxe : xs.map (·.1) = t.kids := by
            have := HXS.out
            rwa [List.take_length, ← HXL.out, ← List.length_map (f := (·.1)), List.take_length] at this
          have hll := hfu.lies (cap := t.kids.length) (by rw [HXL.out]; exact Nat.le_refl _) (by unfold maxLen; omega)
          rw [hxe, HXL.out] at hll
          exact ⟨_, rfl, liesP_fives hll (by omega) (by omega) _ _ _, ((((desk_under hdk).setCell (by simp) _).setCell (by simp) _).setCell (by simp) _)⟩
end Go.Proofs.Ytokgpaajelgakaa.Dv
namespace Go.Proofs.Ytokgpaajelgakaa.Dv
open Go.RowKit
def Tm.at : List Int → Tm → Option Tm
  | [], t => some t
  | k :: r, t => if 0 ≤ k ∧ k < t.kids.length then ((t.kids[k.toNat]?).getD .zero).at r else none
theorem at_nil (t : Tm) : t.at [] = some t := rfl
theorem at_step {t : Tm} {l : List Int} {p : Nat} (hp : p < l.length) {k : Nat} (hk : k < t.kids.length) (he : l[p] = (k : Int)) : t.at (l.drop p) = (t.kids[k]).at (l.drop (p + 1)) := by
  rw [List.drop_eq_getElem_cons hp, he]
  simp only [Tm.at]
  rw [if_pos (by omega), show ((k : Int)).toNat = k by omega, List.getElem?_eq_getElem hk]; rfl
theorem at_out {t : Tm} {l : List Int} {p : Nat} (hp : p < l.length) (he : ¬ (0 ≤ l[p] ∧ l[p] < t.kids.length)) : t.at (l.drop p) = none := by
  rw [List.drop_eq_getElem_cons hp]
  simp only [Tm.at]
  rw [if_neg he]
def AtSome (u : Tm) (w : World) (e : Ending) (w' : World) : Prop := (∃ s' : Value, e = .returned (.tuple #[tv u s', .bool true]) ∧ Lies w' u.kids s') ∧ Below w.heap.size w w'
def AtNone (w : World) (e : Ending) (w' : World) : Prop := e = .returned (.tuple #[tv .zero (.slice none 0 0), .bool false]) ∧ Below w.heap.size w w'
def GivesAt : Option Tm → World → Ending → World → Prop
  | some u => AtSome u
  | none => AtNone
structure Two (w : World) (u : Tm) (su : Value) (w' : World) : Prop where
  below : Below w.heap.size w w'
  cur : w'.heap[w.heap.size]? = some (.cells #[.int .i64 u.k, .int .i64 u.i, su] 25 (0, 0))
  res : w'.heap[w.heap.size + 1]? = some zeroObj
theorem two_start (w : World) (t : Tm) (s : Value) : Two w t s ((w.alloc (.cells #[.int .i64 t.k, .int .i64 t.i, s] 25)).alloc (.cells #[.int .i64 0, .int .i64 0, .slice none 0 0] 25)) :=
  ⟨((Below.refl _ _).alloc (Nat.le_refl _) _).alloc (by simp) _, by rw [Below.heap_alloc _ _ _ (by simp), alloc_new], by have := alloc_new (w.alloc (.cells #[.int .i64 t.k, .int .i64 t.i, s] 25)) zeroObj; simpa using this⟩
theorem two_set {w w1 : World} {t u : Tm} {s su : Value} (h : Two w t s w1) : Two w u su (((w1.setCell ⟨w.heap.size, 0, none⟩ (.int .i64 u.k)).setCell ⟨w.heap.size, 1, none⟩ (.int .i64 u.i)).setCell ⟨w.heap.size, 2, none⟩ su) := by
  refine ⟨((h.below.setCell (Nat.le_refl _) _).setCell (Nat.le_refl _) _).setCell (Nat.le_refl _) _, five_set h.cur, ?_⟩
  rw [Below.heap_setCell _ _ _ _ (by show w.heap.size + 1 ≠ w.heap.size; omega), Below.heap_setCell _ _ _ _ (by show w.heap.size + 1 ≠ w.heap.size; omega), Below.heap_setCell _ _ _ _ (by show w.heap.size + 1 ≠ w.heap.size; omega)]
  exact h.res
set_option maxRecDepth 20000 in
set_option maxHeartbeats 2000000 in
theorem dat_any (t : Tm) (l : List Int) (w : World) (s r : Value) (hl : Lies w t.kids s) (hp : LiesI w l r) (hsz : t.size ≤ 1000000) : Calls Try.prog 19 #[tv t s, r] w (GivesAt (t.at l) w) := by
  obtain ⟨a, cap, S, rfl, -⟩ := hl.out
  obtain ⟨pa, pcap, rfl, pc, pm, pn⟩ := hp.out
  unfold tv
  unfold maxLen at pm
  obtain ⟨du, hu1, hu2⟩ := under_term
  have H0 := two_start w t (.slice a t.kids.length cap)
  have PN := Lib.hid pn
  have HL := Lib.hid hl
  have HSZ := Lib.hid hsz
  obtain ⟨V, hV⟩ : ∃ V, t.at l = V := ⟨_, rfl⟩
  have HV := Lib.hid hV
  rw [hV]
  clear hV pn hl hp hsz
  go_enter Try.func19, Try.ntmps19
  go_wp2_with fail
  go_loopw [10] (fun iv wr => ∃ (p : Nat) (u : Tm) (au : Option Addr) (cu : Nat), p ≤ l.length ∧ iv = .int .i64 p ∧ Hid (u.at (l.drop p) = V) ∧ Hid (u.size ≤ 1000000) ∧ Hid (Lies w u.kids (.slice au u.kids.length cu)) ∧ Two w u (.slice au u.kids.length cu) wr) (fun iv _ => l.length - (intOf iv).toNat)
  case atStart => exact ⟨0, t, a, cap, Nat.zero_le _, rfl, HV.out, HSZ.out, HL.out, H0⟩
  case round =>
    clear H0 HV HSZ HL
    obtain ⟨p, u, au, cu, hp0, rfl, hV, hsz, hl, h2⟩ := hrel
    obtain ⟨d0, d1, d2⟩ := five_cells h2.cur
    obtain ⟨z0, z1, z2⟩ := five_cells h2.res
    obtain ⟨f0, f1, f2⟩ := five_free h2.res
    obtain ⟨g0, g1, g2⟩ := five_free h2.cur
    by_cases hlt : p < l.length
    · obtain ⟨pb, po, rfl, hx⟩ := PN.out p hlt
      have hc := (h2.below.cell (World.block_lt_of_cell? _ _ hx)).trans hx
      obtain ⟨x, hxe⟩ : ∃ x, l[p] = x := ⟨_, rfl⟩
      rw [hxe] at hc
      by_cases hin : 0 ≤ x ∧ x < u.kids.length
      · obtain ⟨k, rfl⟩ : ∃ k : Nat, x = (k : Int) := ⟨x.toNat, by omega⟩
        have hk : k < u.kids.length := by omega
        have e1 : decide ((k : Int) < 0) = false := decide_eq_false (by omega)
        have e2 : decide ((u.kids.length : Int) ≤ (k : Int)) = false := decide_eq_false (by omega)
        have j1 : (k : Int) < (u.kids.length : Int) := by omega
        obtain ⟨ua, ucap, US, hus, uc, um, uf, un, uk⟩ := hl.out.out
        obtain ⟨b, o, hab, hy⟩ := un k hk
        simp only [Value.slice.injEq] at hus
        obtain ⟨rfl, -, rfl⟩ := hus
        subst hab
        obtain ⟨y0, y1, y2⟩ := hy.below h2.below hy.lt
        have hkl := uk k hk
        obtain ⟨a', cap', S', hS, -⟩ := hkl.out
        rw [hS] at hkl y2
        have hst := at_step hlt hk hxe
        have HST := Lib.hid (hst.symm.trans hV.out)
        have HKS := Lib.hid (show (u.kids[k]).size ≤ 1000000 by have := size_mem u.kids _ (List.getElem_mem hk); have := u.size_eq; have := hsz.out; omega)
        have HKL := Lib.hid hkl
        have H3 := two_set (u := u.kids[k]) (su := .slice a' u.kids[k].kids.length cap') h2
        have HH := Lib.hid h2
        clear hS hkl hst h2 hl hsz hV hin hx hy uf un uk uc um hxe
        go_wp2
        go_roundw
        case rel => exact ⟨p + 1, u.kids[k], a', cap', hlt, by go_num, HST.out, HKS.out, HKL.out, H3⟩
        case measure => simp [intOf]; omega
      · have hst := at_out hlt (by rw [hxe]; exact hin)
        have HVN := Lib.hid (hV.out.symm.trans hst)
        have hb := h2.below
        have hr := h2.res
        clear hst hV hl hsz
        by_cases hneg : x < 0
        · have e1 : decide (x < 0) = true := decide_eq_true hneg
          go_wp2
          refine bodyPost_ret (results_cell_tmp rfl _ _ (w.heap.size + 1) _ _ _ du rfl (five_set hr) hu1 (by cases du <;> first | rfl | exact hu2) size_term) rfl ?_
          rw [HVN.out]
          exact ⟨rfl, below_five hb (by omega) _ _ _⟩
        · have e1 : decide (x < 0) = false := decide_eq_false hneg
          have e2 : decide ((u.kids.length : Int) ≤ x) = true := decide_eq_true (by omega)
          go_wp2
          refine bodyPost_ret (results_cell_tmp rfl _ _ (w.heap.size + 1) _ _ _ du rfl (five_set hr) hu1 (by cases du <;> first | rfl | exact hu2) size_term) rfl ?_
          rw [HVN.out]
          exact ⟨rfl, below_five hb (by omega) _ _ _⟩
    · have : p = l.length := by omega
      subst this
      have HVS := Lib.hid (show V = some u by rw [← hV.out, List.drop_length]; rfl)
      have hlu := hl.out.keep h2.below
      have hb := h2.below
      have hr := h2.res
      have HR := Lib.hid hr
      have HB := Lib.hid hb
      have HSU := Lib.hid hsz.out
      have HLU := Lib.hid hlu
      clear hV hl hsz h2 hlu hr hb z0 z1 z2 f0 f1 f2
      go_wp2_with fail
      refine (dcopy_any u _ _ HLU.out HSU.out).mono ?_
      rintro e w3 ⟨s3, rfl, hl3, hb3⟩
      obtain ⟨a3, cap3, rfl, -, -⟩ := hl3.out
      have hr3 := (hb3.block (w.heap.size + 1) ((Array.getElem?_eq_some_iff.1 HR.out).1)).trans HR.out
      have hb4 := HB.out.trans (hb3.mono HB.out.size)
      obtain ⟨z0, z1, z2⟩ := five_cells hr3
      obtain ⟨f0, f1, f2⟩ := five_free hr3
      have hs1 : w.heap.size + 1 < wr.heap.size := (Array.getElem?_eq_some_iff.1 HR.out).1
      go_wp2
      refine bodyPost_ret (results_cell_tmp rfl _ _ (w.heap.size + 1) _ _ _ du rfl (five_set hr3) hu1 (by cases du <;> first | rfl | exact hu2) size_term) rfl ?_
      rw [HVS.out]
      exact ⟨⟨_, rfl, (liesP_fives (N := 0) hl3 hs1 (Nat.zero_le _) _ _ _).lies⟩, below_five hb4 (by omega) _ _ _⟩
end Go.Proofs.Ytokgpaajelgakaa.Dv
namespace Go.Proofs.Ytokgpaajelgakaa.Ck
open Go Go.RowKit
open Se (ofB Sml sizeJ zJ)
def judgeT (m : Nat) (c : List En) (d : Dv.Tm) : CR := if d.rightB = true then (if purC c = true then judgeB m c d else .error (1, [])) else .error (1, [])
theorem step_1000 : Fl.leD (Fl.fi 1001) (Fl.fi 1000) = false := by kernel_rfl
theorem read_1000 : Ieee.double.read 4652007308841189376 = Fl.fi 1000 := by kernel_rfl
theorem mild_of {m : Nat} (h : ∀ n : Int, withinB n m = true → Fl.leD (Fl.fi n) (Fl.fi 1000) = true) : Mild m := by
 intro n h0 h1 hw
 have h2 := h n hw
 rcases Int.lt_or_le 1000 n with h3 | h3
 ·have h4 : Fl.leD (Fl.fi 1001) (Fl.fi n) = true := Fl.fi_mono (by decide) (by omega) (by omega)
  have h5 := Fl.leD_trans h4 h2
  rw [step_1000] at h5
  cases h5
 ·exact h3
theorem mild_1000 : Mild 4652007308841189376 := mild_of fun n h => by rw [withinB_eq, read_1000] at h; exact h
theorem mild_2 : Mild 4611686018427387904 := mild_of fun n h => Fl.leD_trans h (by kernel_rfl)
theorem mild_1 : Mild 4607182418800017408 := mild_of fun n h => Fl.leD_trans h (by kernel_rfl)
theorem rights_mem : ∀ {l : List Dv.Tm} {x : Dv.Tm}, Dv.rights l = true → x ∈ l → x.rightB = true
 | a :: r, x, h, hx => by
  simp only [Dv.rights, Bool.and_eq_true] at h
  rcases List.mem_cons.1 hx with rfl | hx
  ·exact h.1
  ·exact rights_mem h.2 hx
theorem dright_fine {t : Dv.Tm} (h : t.rightB = true) : t.fine := by
 rw [Dv.Tm.rightB_eq, Bool.and_eq_true] at h
 have h1 := h.1
 unfold Dv.nodeOk at h1
 simp only [Bool.and_eq_true, decide_eq_true_eq] at h1
 obtain ⟨⟨⟨h2, -⟩, h3⟩, h4⟩ := h1
 have hk : 1 ≤ t.k ∧ t.k ≤ 28 := by
  unfold Dv.dkidsN at h2
  split at h2
  ·assumption
  ·omega
 have hm : Dv.mostN t.k ≤ 1000000 := by unfold Dv.mostN; split <;> omega
 exact ⟨by unfold I64; omega, by unfold I64; omega⟩
theorem right_kid {t x : Dv.Tm} (h : t.rightB = true) (hx : x ∈ t.kids) : x.rightB = true := by
 rw [Dv.Tm.rightB_eq, Bool.and_eq_true] at h
 exact rights_mem h.2 hx
theorem endB_path {m : Nat} {c : List En} {r i : Int} {on : List Jd} {e : Int × List Int} (h : endB m c r i on = .error e) : e.2 = [] := by
 unfold endB at h
 split at h
 ·cases h; rfl
 ·split at h
  ·cases h
  ·cases h; rfl
theorem judgeB_path {m : Nat} (t : Dv.Tm) : ∀ (c : List En) {er : Int} {q : List Int}, judgeB m c t = .error (er, q) → t.rightB = true → (∃ x, t.at q = some x ∧ x.rightB = true) ∧ q.length + 1 ≤ t.size := by
 induction t using Dv.Tm.ind with
 | h t ih =>
  intro c er q h hr
  have key : ∀ (l : List Dv.Tm) (k : Nat) (on : List Jd), t.kids.drop k = l → ∀ {er : Int} {q : List Int}, kidsB m c t.k k on l = .error (er, q) → (∃ x, t.at q = some x ∧ x.rightB = true) ∧ q.length + 1 ≤ t.size := by
   intro l
   induction l with
   | nil => intro k on _ er q h; rw [kidsB] at h; cases h
   | cons d l ihl =>
    intro k on hl er q h
    have hk : k < t.kids.length := by
     rcases Nat.lt_or_ge k t.kids.length with h1 | h1
     ·exact h1
     ·rw [List.drop_eq_nil_of_le h1] at hl; cases hl
    have hd : t.kids[k] = d := by rw [List.drop_eq_getElem_cons hk] at hl; exact (List.cons.inj hl).1
    have hl2 : t.kids.drop (k + 1) = l := by rw [List.drop_eq_getElem_cons hk] at hl; exact (List.cons.inj hl).2
    have hdm : d ∈ t.kids := by rw [← hd]; exact List.getElem_mem hk
    cases hp : (premB c t.k k on).2 with
    | false =>
     rw [kidsB_no hp] at h
     cases h
     exact ⟨⟨t, Dv.at_nil t, hr⟩, by have := dsize_pos t; simpa using this⟩
    | true =>
     cases hx : judgeB m (premB c t.k k on).1 d with
     | error e2 =>
      rw [kidsB_err hp hx] at h
      obtain ⟨e3, q3⟩ := e2
      cases h
      obtain ⟨⟨x, h1, h2⟩, h3⟩ := ih d hdm _ hx (right_kid hr hdm)
      refine ⟨⟨x, ?_, h2⟩, ?_⟩
      ·have := Dv.at_step (t := t) (l := (k : Int) :: q3) (p := 0) (by simp) hk rfl
       simp only [List.drop_zero, Nat.zero_add, List.drop_succ_cons] at this
       rw [this, hd]
       exact h1
      ·have := dsize_kid hdm
       simp only [List.length_cons]
       omega
     | ok y =>
      rw [kidsB_ok hp hx] at h
      exact ihl _ _ hl2 h
  rw [judgeB_eq] at h
  split at h
  ·rename_i e2 he
   cases h
   exact key _ _ _ (by simp) he
  ·have := endB_path h
   simp only at this
   subst this
   exact ⟨⟨t, Dv.at_nil t, hr⟩, by have := dsize_pos t; simpa using this⟩
end Go.Proofs.Ytokgpaajelgakaa.Ck
namespace Go.Proofs.Ytokgpaajelgakaa.Ck
open Go Go.RowKit
open Se (ofB Sml sizeJ zJ)
def GivesTQ (N : Nat) (x : CR) (w : World) (e : Ending) (w' : World) : Prop := Kept w w' ∧ match x with
 | .ok j => ∃ su sv sa, e = .returned (.tuple #[jv j su sv sa, .int .i64 0, .slice none 0 0]) ∧ j.fine ∧ LiesQ w' (fun b => b < N ∨ w.heap.size ≤ b) j.u.kids su ∧ LiesQ w' (fun b => b < N ∨ w.heap.size ≤ b) j.v.kids sv ∧ LiesQ w' (fun b => b < N ∨ w.heap.size ≤ b) j.a.kids sa
 | .error (er, q) => ∃ pv, e = .returned (.tuple #[.agg zAgg, .int .i64 er, pv]) ∧ RowI w.heap.size w' pv q
def GivesT (x : CR) (w : World) (e : Ending) (w' : World) : Prop := Kept w w' ∧ match x with
 | .ok j => ∃ su sv sa, e = .returned (.tuple #[jv j su sv sa, .int .i64 0, .slice none 0 0]) ∧ j.fine ∧ JLies w' j su sv sa
 | .error (er, q) => ∃ pv, e = .returned (.tuple #[.agg zAgg, .int .i64 er, pv]) ∧ LiesI w' q pv
theorem RowI.lies {N0 : Nat} {w : World} {pv : Value} {p : List Int} (h : RowI N0 w pv p) : LiesI w p pv := by
 rcases h with ⟨rfl, rfl⟩ | ⟨g, cap, cur, rfl, -, hh, h1, h2, h3, h4, -⟩
 ·exact ⟨none, 0, rfl, Nat.le_refl _, by decide, fun _ h => by cases h⟩
 ·refine ⟨_, cap, rfl, h1, h2, fun i hi => ⟨g, 0, rfl, ?_⟩⟩
  rw [Lib.cell_of_heap hh, Nat.zero_add]
  have := congrArg (fun l => l[i]?) h4
  simp only [List.getElem?_take, if_pos hi, List.getElem?_map, List.getElem?_eq_getElem hi, Option.map_some] at this
  simpa using this
theorem fresh_any {w W : World} {T : TypeId} {old new : Array Value} (hW : (w.alloc (.cells old T)).setRow w.heap.size new = W) : Kept w W ∧ W.heap[w.heap.size]? = some (Obj.cells new T (0, 0)) ∧ W.heap.size = w.heap.size + 1 :=
 ⟨setRow_kept hW (((Below.refl w.heap.size w).alloc (Nat.le_refl _) _) : Kept w _) (Nat.le_refl _), by subst hW; exact setRow_heap _ _ _ _ _ _ (alloc_new _ _), by subst hW; simp⟩
theorem rowI_set {N0 : Nat} {w' W : World} {g : Nat} {old new : Array Value} {pv : Value} {p : List Int} (hW : w'.setRow g new = W) (h : w'.heap[g]? = some (Obj.cells old 33 (0, 0))) (hr : RowI N0 w' pv p) : RowI N0 W pv p := by
 subst hW
 exact hr.same fun b _ hb => setRow_other w' g b _ fun e => by subst e; exact not_row h (by decide) hb
def ckr_0 : Oper := { dst := some 31, op := Go.Op.build 33 #[], type := 33, pos := "check.go:23", after := #[], guard := none }
def ckr_1 : Oper := { dst := some 32, op := Go.Op.move (Go.Operand.tmp 11), type := 34, pos := "check.go:23", after := #[{ on := 4, ground := Go.Ground.gcOnly Go.Departure.lateStores }], guard := none }
def ckr_2 : Oper := { dst := some 33, op := Go.Op.fieldAddr 61 (Go.Operand.tmp 9) 1, type := 0, pos := "check.go:23", after := #[{ on := 5, ground := Go.Ground.gcOnly Go.Departure.lateStores }], guard := none }
def ckr_3 : Oper := { dst := some 34, op := Go.Op.load 35 (Go.Operand.tmp 33), type := 35, pos := "check.go:23", after := #[{ on := 2, ground := Go.Ground.data }, { on := 5, ground := Go.Ground.gcOnly Go.Departure.lateStores }], guard := none }
def ckr_4 : Oper := { dst := none, op := Go.Op.store 33 (Go.Operand.tmp 6) (Go.Operand.tmp 31), type := 0, pos := "check.go:23", after := #[{ on := 0, ground := Go.Ground.data }, { on := 0, ground := Go.Ground.phase }, { on := 1, ground := Go.Ground.textOnly Go.Departure.lateStores }, { on := 2, ground := Go.Ground.textOnly Go.Departure.lateStores }, { on := 3, ground := Go.Ground.textOnly Go.Departure.lateStores }], guard := none }
def ckr_5 : Oper := { dst := some 7, op := Go.Op.assign (Go.Operand.tmp 32), type := 34, pos := "check.go:23", after := #[{ on := 1, ground := Go.Ground.data }, { on := 4, ground := Go.Ground.chain }, { on := 0, ground := Go.Ground.phase }, { on := 1, ground := Go.Ground.phase }, { on := 2, ground := Go.Ground.textOnly Go.Departure.lateStores }, { on := 3, ground := Go.Ground.textOnly Go.Departure.lateStores }, { on := 4, ground := Go.Ground.phase }], guard := none }
def ckr_6 : Oper := { dst := some 8, op := Go.Op.assign (Go.Operand.tmp 34), type := 35, pos := "check.go:23", after := #[{ on := 3, ground := Go.Ground.data }, { on := 5, ground := Go.Ground.chain }, { on := 0, ground := Go.Ground.phase }, { on := 1, ground := Go.Ground.phase }, { on := 2, ground := Go.Ground.phase }, { on := 3, ground := Go.Ground.phase }, { on := 4, ground := Go.Ground.phase }, { on := 5, ground := Go.Ground.phase }], guard := none }
set_option maxRecDepth 20000 in
set_option maxHeartbeats 8000000 in
theorem ckJudgeQ_any (m : Nat) (hm : Mild m) (d : Dv.Tm) (c : List En) (w0 w : World) (hk0 : Kept w0 w) (sc s : Value) (hlc : LiesE w0 c sc) (hl : Dv.Lies w0 d.kids s) (hcs : c.length + d.size ≤ 101) (hsc : Smc c) :
  Calls Try.prog 9 #[sc, Dv.tv d s, .float .f64 m] w (GivesTQ w0.heap.size (judgeT m c d) w) := by
 obtain ⟨a, cap, S, rfl, hc, hmx, -, -, -⟩ := hl.out
 obtain ⟨dj, dj1, dj2⟩ := under_of 33 (by kernel_rfl)
 unfold Dv.tv
 have HL := Lib.hid hl
 have HC := Lib.hid hlc
 have HK0 := Lib.hid hk0
 have hz0 := hk0.size
 clear hl hlc hk0
 go_enter Try.func9, Try.ntmps9
 go_upto_region 1 with fail
 obtain ⟨V, hV⟩ : ∃ V, (w.alloc (.cells #[.int .i64 d.k, .int .i64 d.i, .slice a d.kids.length cap] 25)).alloc (.cells zAgg 33) = V := ⟨_, rfl⟩
 obtain ⟨hkV, hb0, hb1, hsV⟩ := alloc2 hV
 rw [hV]
 have HKV := Lib.hid hkV
 have HB1 := Lib.hid hb1
 have HSV := Lib.hid hsV
 have y0 : V.cell? ⟨w.heap.size, 0, none⟩ = some (.int .i64 d.k) := by rw [Lib.cell_of_heap hb0]; rfl
 have y1 : V.cell? ⟨w.heap.size, 1, none⟩ = some (.int .i64 d.i) := by rw [Lib.cell_of_heap hb0]; rfl
 have y2 : V.cell? ⟨w.heap.size, 2, none⟩ = some (.slice a d.kids.length cap) := by rw [Lib.cell_of_heap hb0]; rfl
 have HB0 := Lib.hid hb0
 clear hV hkV hb0 hb1 hsV
 cases hr : d.rightB with
 | false =>
  as_aux_lemma =>
   have HJ := Lib.hid (show judgeT m c d = .error (1, []) by unfold judgeT; rw [hr]; rfl)
   have HR := Lib.hid hr
   clear hr
   go_wp2_with fail
   refine (Dv.dright_any d _ _ (HL.out.keep (kept_trans HK0.out HKV.out))).mono ?_
   rintro e w1 ⟨rfl, hk1⟩
   rw [HR.out]
   have HK1 := Lib.hid (kept_trans HKV.out hk1)
   have HB1n := Lib.hid ((Below.block hk1 _ (by have := HSV.out; omega)).trans HB1.out)
   clear y0 y1 y2 hk1
   go_wp2_with (refine stop_store 33 (.tmp 6) (.tmp 20) rfl ?_)
   intro _
   refine wpList_store_part_n (by rfl) 33 (.tmp 6) (.tmp 20) rfl (w.heap.size + 1) 0 zAgg (by rfl) (by rfl) 33 (by kernel_rfl) (row_ok rfl) ?_
   intro W hW
   subst hW
   refine ⟨_, zAgg, HB1n.out, rfl, Nat.le_of_ble_eq_true rfl, ?_⟩
   intro W2 hW2
   go_wp2_with fail
   (try simp only [Exit.inBlock, Exit.then])
   refine bodyPost_ret (results_cell_tmp2 rfl _ _ (w.heap.size + 1) 33 _ _ dj rfl (setRow_new hW2 HB1n.out) dj1 (by cases dj <;> first | rfl | exact dj2) (by kernel_rfl)) rfl ?_
   rw [HJ.out]
   exact ⟨setRow_kept hW2 HK1.out (by omega), _, rfl, Or.inl ⟨rfl, rfl⟩⟩
 | true =>
  have HR := Lib.hid hr
  cases hp : purC c with
  | false =>
   as_aux_lemma =>
    have HJ := Lib.hid (show judgeT m c d = .error (1, []) by unfold judgeT; rw [hr, hp]; rfl)
    have HP := Lib.hid hp
    clear hr hp
    go_wp2_with fail
    refine (Dv.dright_any d _ _ (HL.out.keep (kept_trans HK0.out HKV.out))).mono ?_
    rintro e w1 ⟨rfl, hk1⟩
    rw [HR.out]
    have HK1 := Lib.hid (kept_trans HKV.out hk1)
    have HB1n := Lib.hid ((Below.block hk1 _ (by have := HSV.out; omega)).trans HB1.out)
    clear y0 y1 y2 hk1
    go_wp2_with fail
    refine (ckpure_any c _ _ (HC.out.keep (kept_trans HK0.out HK1.out))).mono ?_
    rintro e w2 ⟨rfl, hk2⟩
    rw [HP.out]
    have HK2 := Lib.hid (kept_trans HK1.out hk2)
    have HB2n := Lib.hid ((Below.block hk2 _ (Array.getElem?_eq_some_iff.1 HB1n.out).1).trans HB1n.out)
    clear hk2
    go_wp2_with (refine stop_store 33 (.tmp 6) (.tmp 20) rfl ?_)
    intro _
    refine wpList_store_part_n (by rfl) 33 (.tmp 6) (.tmp 20) rfl (w.heap.size + 1) 0 zAgg (by rfl) (by rfl) 33 (by kernel_rfl) (row_ok rfl) ?_
    intro W hW
    subst hW
    refine ⟨_, zAgg, HB2n.out, rfl, Nat.le_of_ble_eq_true rfl, ?_⟩
    intro W2 hW2
    go_wp2_with fail
    (try simp only [Exit.inBlock, Exit.then])
    refine bodyPost_ret (results_cell_tmp2 rfl _ _ (w.heap.size + 1) 33 _ _ dj rfl (setRow_new hW2 HB2n.out) dj1 (by cases dj <;> first | rfl | exact dj2) (by kernel_rfl)) rfl ?_
    rw [HJ.out]
    exact ⟨setRow_kept hW2 HK2.out (by omega), _, rfl, Or.inl ⟨rfl, rfl⟩⟩
  | true =>
   have HJ := Lib.hid (show judgeT m c d = judgeB m c d by unfold judgeT; rw [hr, hp]; rfl)
   have hfd := dright_fine hr
   have HP := Lib.hid hp
   clear hr hp
   go_wp2_with fail
   refine (Dv.dright_any d _ _ (HL.out.keep (kept_trans HK0.out HKV.out))).mono ?_
   rintro e w1 ⟨rfl, hk1⟩
   rw [HR.out]
   have HK1 := Lib.hid (kept_trans HKV.out hk1)
   have HB1n := Lib.hid ((Below.block hk1 _ (by have := HSV.out; omega)).trans HB1.out)
   have HB0n := Lib.hid ((Below.block hk1 _ (Array.getElem?_eq_some_iff.1 HB0.out).1).trans HB0.out)
   clear y0 y1 y2 hk1
   go_wp2_with fail
   refine (ckpure_any c _ _ (HC.out.keep (kept_trans HK0.out HK1.out))).mono ?_
   rintro e w2 ⟨rfl, hk2⟩
   rw [HP.out]
   have HK2 := Lib.hid (kept_trans HK1.out hk2)
   have HB2n := Lib.hid ((Below.block hk2 _ (Array.getElem?_eq_some_iff.1 HB1n.out).1).trans HB1n.out)
   have HB3n := Lib.hid ((Below.block hk2 _ (Array.getElem?_eq_some_iff.1 HB0n.out).1).trans HB0n.out)
   clear hk2
   go_wp2_with (refine stop_store 61 (.tmp 9) (.tmp 22) rfl ?_)
   intro _
   refine wpList_store_part_n (by rfl) 61 (.tmp 9) (.tmp 22) rfl (w2.heap.size) 0 #[.float .f64 m, .slice none 0 0] (by rfl) (by rfl) 61 (by kernel_rfl) (row_ok rfl) ?_
   intro W hW
   subst hW
   refine ⟨_, #[.float .f64 m, .slice none 0 0], alloc_new _ _, rfl, Nat.le_of_ble_eq_true rfl, ?_⟩
   intro W3 hW3
   obtain ⟨hk3, hb3, hs3⟩ := fresh_any hW3
   obtain ⟨K, hK⟩ : ∃ K, w2.heap.size = K := ⟨_, rfl⟩
   rw [hK] at hb3 hs3
   rw [hK]
   have HK3 := Lib.hid (kept_trans HK2.out hk3)
   have HR3 := Lib.hid ((Below.block hk3 _ (Array.getElem?_eq_some_iff.1 HB2n.out).1).trans HB2n.out)
   have hb0' := (Below.block hk3 _ (Array.getElem?_eq_some_iff.1 HB3n.out).1).trans HB3n.out
   have y0 : W3.cell? ⟨w.heap.size, 0, none⟩ = some (.int .i64 d.k) := by rw [Lib.cell_of_heap hb0']; rfl
   have y1 : W3.cell? ⟨w.heap.size, 1, none⟩ = some (.int .i64 d.i) := by rw [Lib.cell_of_heap hb0']; rfl
   have y2 : W3.cell? ⟨w.heap.size, 2, none⟩ = some (.slice a d.kids.length cap) := by rw [Lib.cell_of_heap hb0']; rfl
   have hwK : w.heap.size + 1 < K := by have := (Array.getElem?_eq_some_iff.1 HB2n.out).1; omega
   have HST := Lib.hid (show St w.heap.size K m (.slice none 0 0) [] W3 from ⟨hb3, by omega, Or.inl ⟨rfl, rfl⟩⟩)
   have HCALL := Lib.hid (ckjudge_any w.heap.size K m hm d c W3 sc (.slice a d.kids.length cap) (.slice none 0 0) [] (fun b => b < w0.heap.size) (Se.liesEQ_keep (Se.liesE_q HC.out) (fun b _ hb => (kept_trans HK0.out HK3.out).block b hb) (fun b h _ => h)) (HL.out.keep (kept_trans HK0.out HK3.out)) hfd HST.out hcs hsc (by simp; omega))
   clear hb0' hW3 hk3 hb3 hs3 hK
   go_wp2_with fail
   cases hx : judgeB m c d with
   | error ea =>
    obtain ⟨er, q⟩ := ea
    have her := judgeB_err m _ _ hx
    have HCE := HCALL.out
    rw [hx] at HCE
    have HCE2 := Lib.hid HCE
    have HX := Lib.hid hx
    clear HCALL HCE hx
    refine HCE2.out.mono ?_
    rintro e w4 ⟨hf4, pv4, rfl, hs4⟩
    obtain ⟨ap, cp, he, hpc, hpm⟩ := hs4.row.slc
    subst he
    have HK4 := Lib.hid ((((Fr.of HK3.out : Fr w.heap.size K w W3).trans hf4).kept rfl) : Kept w w4)
    have hr4 := (hf4.block (w.heap.size + 1) (Array.getElem?_eq_some_iff.1 HR3.out).1 (Or.inr ⟨by omega, not_row HR3.out (by decide)⟩)).trans HR3.out
    have HST4 := Lib.hid hs4
    have HR4 := Lib.hid hr4
    clear hs4 hr4 HCE2
    rcases her with her | her
    ·obtain rfl : er = 3 := her
     go_wp2_with (refine stop_store 33 (.tmp 10) (.tmp 27) rfl ?_)
     intro _
     refine wpList_store_part_n (by rfl) 33 (.tmp 10) (.tmp 27) rfl (w4.heap.size) 0 zAgg (by rfl) (by rfl) 33 (by kernel_rfl) (row_ok rfl) ?_
     intro W hW
     subst hW
     refine ⟨_, zAgg, alloc_new _ _, rfl, Nat.le_of_ble_eq_true rfl, ?_⟩
     intro w5 hwn
     have hfr := fresh_judg hwn
     clear hwn
     have hk5 := hfr.1
     go_upto_region 6 with fail
     have HST5 := Lib.hid (HST4.out.later hk5)
     have HR5 := Lib.hid ((Below.block hk5 _ (Array.getElem?_eq_some_iff.1 HR4.out).1).trans HR4.out)
     have HK5 := Lib.hid (kept_trans HK4.out hk5)
     clear hk5 hfr
     have k1 := HST5.out.cells.2
     have HNK := Lib.hid (show K ≠ w.heap.size + 1 by omega)
     have HK5D := Lib.hid (show Kept w w5.drew from ⟨HK5.out.os, HK5.out.tape, HK5.out.output, HK5.out.size, fun b hb => HK5.out.block b hb⟩)
     refine wp_region_held_drew (S := fun w' => w'.cell? ⟨K, 1, none⟩ = some (.slice ap ([] ++ q).length cp) ∧ w'.heap[w.heap.size + 1]? = some (Obj.cells zAgg 33 (0, 0))) (by kernel_rfl) ?_ (fun hHeld => ?_)
     ·(try dsimp only)
      (first | exact ⟨(by rw [← hW2]; exact (cell_setRow_other _ _ _ _ (show _ ≠ _ from HNK.out)).trans k1), setRow_new hW2 HR5.out⟩ | exact ⟨k1, HR5.out⟩)
     refine take_at 0 31 ckr_0 (v := ?_) (Or.inl ⟨by rfl, ?_⟩) ?_
     rotate_left 1
     ·((intro w hSw; (try dsimp only at hSw); unfold ckr_0; go_simp) <;> with_reducible rfl)
     (try simp only [Act.put, List.setIfInBounds_toArray, List.set_cons_zero, List.set_cons_succ])
     refine take_at 1 32 ckr_1 (v := ?_) (Or.inl ⟨by rfl, ?_⟩) ?_
     rotate_left 1
     ·((intro w hSw; (try dsimp only at hSw); unfold ckr_1; go_simp) <;> with_reducible rfl)
     (try simp only [Act.put, List.setIfInBounds_toArray, List.set_cons_zero, List.set_cons_succ])
     refine take_at 2 33 ckr_2 (v := ?_) (Or.inl ⟨by rfl, ?_⟩) ?_
     rotate_left 1
     ·((intro w hSw; (try dsimp only at hSw); unfold ckr_2; go_simp) <;> with_reducible rfl)
     (try simp only [Act.put, List.setIfInBounds_toArray, List.set_cons_zero, List.set_cons_succ])
     refine take_at 3 34 ckr_3 (v := ?_) (Or.inl ⟨by rfl, ?_⟩) ?_
     rotate_left 1
     ·((intro w hSw; (try dsimp only at hSw); obtain ⟨hS0, hS1⟩ := hSw; unfold ckr_3; go_simp) <;> with_reducible rfl)
     (try simp only [Act.put, List.setIfInBounds_toArray, List.set_cons_zero, List.set_cons_succ])
     refine wpAnyH_ready (rs := [4]) (by kernel_rfl) (by simp) ?_
     refine AllReadyH.cons (o := ckr_4) rfl (fun K hK => ?_) ?_
     ·unfold ckr_4
      refine step_store_part rfl 33 (.tmp 6) (.tmp 31) rfl (w.heap.size + 1) 0 zAgg rfl rfl 33 (by kernel_rfl) (row_ok rfl) _ zAgg HR5.out rfl (Nat.le_of_ble_eq_true rfl) ?_
      intro W2 hW2
      refine hK.out _ _ ?_ (fun hHeld => ?_)
      ·(try dsimp only)
       (first | exact ⟨(by rw [← hW2]; exact (cell_setRow_other _ _ _ _ (show _ ≠ _ from HNK.out)).trans k1), setRow_new hW2 HR5.out⟩ | exact ⟨k1, HR5.out⟩)
      clear hK K
      (try simp only [Act.put])
      refine take_at 5 7 ckr_5 (v := ?_) (Or.inl ⟨by rfl, ?_⟩) ?_
      rotate_left 1
      ·((intro w hSw; (try dsimp only at hSw); unfold ckr_5; go_simp) <;> with_reducible rfl)
      (try simp only [Act.put, List.setIfInBounds_toArray, List.set_cons_zero, List.set_cons_succ])
      refine take_at 6 8 ckr_6 (v := ?_) (Or.inl ⟨by rfl, ?_⟩) ?_
      rotate_left 1
      ·((intro w hSw; (try dsimp only at hSw); unfold ckr_6; go_simp) <;> with_reducible rfl)
      (try simp only [Act.put, List.setIfInBounds_toArray, List.set_cons_zero, List.set_cons_succ])
      refine wpAnyH_done (by kernel_rfl) ?_ _
      clear hHeld
      go_wp2_with fail
      (try simp only [Exit.inBlock, Exit.then])
      refine bodyPost_ret (results_cell_tmp2 rfl _ _ (w.heap.size + 1) 33 _ _ dj rfl (setRow_new hW2 HR5.out) dj1 (by cases dj <;> first | rfl | exact dj2) (by kernel_rfl)) rfl ?_
      rw [HJ.out, HX.out]
      exact ⟨setRow_kept hW2 HK5D.out (by omega), _, rfl, by simpa using rowI_set hW2 HR5.out HST5.out.drew.row⟩
     exact AllReadyH.nil
    ·obtain rfl : er = 4 := her
     go_wp2_with (refine stop_store 33 (.tmp 10) (.tmp 27) rfl ?_)
     intro _
     refine wpList_store_part_n (by rfl) 33 (.tmp 10) (.tmp 27) rfl (w4.heap.size) 0 zAgg (by rfl) (by rfl) 33 (by kernel_rfl) (row_ok rfl) ?_
     intro W hW
     subst hW
     refine ⟨_, zAgg, alloc_new _ _, rfl, Nat.le_of_ble_eq_true rfl, ?_⟩
     intro w5 hwn
     have hfr := fresh_judg hwn
     clear hwn
     have hk5 := hfr.1
     go_upto_region 6 with fail
     have HST5 := Lib.hid (HST4.out.later hk5)
     have HR5 := Lib.hid ((Below.block hk5 _ (Array.getElem?_eq_some_iff.1 HR4.out).1).trans HR4.out)
     have HK5 := Lib.hid (kept_trans HK4.out hk5)
     clear hk5 hfr
     have k1 := HST5.out.cells.2
     have HNK := Lib.hid (show K ≠ w.heap.size + 1 by omega)
     have HK5D := Lib.hid (show Kept w w5.drew from ⟨HK5.out.os, HK5.out.tape, HK5.out.output, HK5.out.size, fun b hb => HK5.out.block b hb⟩)
     refine wp_region_held_drew (S := fun w' => w'.cell? ⟨K, 1, none⟩ = some (.slice ap ([] ++ q).length cp) ∧ w'.heap[w.heap.size + 1]? = some (Obj.cells zAgg 33 (0, 0))) (by kernel_rfl) ?_ (fun hHeld => ?_)
     ·(try dsimp only)
      (first | exact ⟨(by rw [← hW2]; exact (cell_setRow_other _ _ _ _ (show _ ≠ _ from HNK.out)).trans k1), setRow_new hW2 HR5.out⟩ | exact ⟨k1, HR5.out⟩)
     refine take_at 0 31 ckr_0 (v := ?_) (Or.inl ⟨by rfl, ?_⟩) ?_
     rotate_left 1
     ·((intro w hSw; (try dsimp only at hSw); unfold ckr_0; go_simp) <;> with_reducible rfl)
     (try simp only [Act.put, List.setIfInBounds_toArray, List.set_cons_zero, List.set_cons_succ])
     refine take_at 1 32 ckr_1 (v := ?_) (Or.inl ⟨by rfl, ?_⟩) ?_
     rotate_left 1
     ·((intro w hSw; (try dsimp only at hSw); unfold ckr_1; go_simp) <;> with_reducible rfl)
     (try simp only [Act.put, List.setIfInBounds_toArray, List.set_cons_zero, List.set_cons_succ])
     refine take_at 2 33 ckr_2 (v := ?_) (Or.inl ⟨by rfl, ?_⟩) ?_
     rotate_left 1
     ·((intro w hSw; (try dsimp only at hSw); unfold ckr_2; go_simp) <;> with_reducible rfl)
     (try simp only [Act.put, List.setIfInBounds_toArray, List.set_cons_zero, List.set_cons_succ])
     refine take_at 3 34 ckr_3 (v := ?_) (Or.inl ⟨by rfl, ?_⟩) ?_
     rotate_left 1
     ·((intro w hSw; (try dsimp only at hSw); obtain ⟨hS0, hS1⟩ := hSw; unfold ckr_3; go_simp) <;> with_reducible rfl)
     (try simp only [Act.put, List.setIfInBounds_toArray, List.set_cons_zero, List.set_cons_succ])
     refine wpAnyH_ready (rs := [4]) (by kernel_rfl) (by simp) ?_
     refine AllReadyH.cons (o := ckr_4) rfl (fun K hK => ?_) ?_
     ·unfold ckr_4
      refine step_store_part rfl 33 (.tmp 6) (.tmp 31) rfl (w.heap.size + 1) 0 zAgg rfl rfl 33 (by kernel_rfl) (row_ok rfl) _ zAgg HR5.out rfl (Nat.le_of_ble_eq_true rfl) ?_
      intro W2 hW2
      refine hK.out _ _ ?_ (fun hHeld => ?_)
      ·(try dsimp only)
       (first | exact ⟨(by rw [← hW2]; exact (cell_setRow_other _ _ _ _ (show _ ≠ _ from HNK.out)).trans k1), setRow_new hW2 HR5.out⟩ | exact ⟨k1, HR5.out⟩)
      clear hK K
      (try simp only [Act.put])
      refine take_at 5 7 ckr_5 (v := ?_) (Or.inl ⟨by rfl, ?_⟩) ?_
      rotate_left 1
      ·((intro w hSw; (try dsimp only at hSw); unfold ckr_5; go_simp) <;> with_reducible rfl)
      (try simp only [Act.put, List.setIfInBounds_toArray, List.set_cons_zero, List.set_cons_succ])
      refine take_at 6 8 ckr_6 (v := ?_) (Or.inl ⟨by rfl, ?_⟩) ?_
      rotate_left 1
      ·((intro w hSw; (try dsimp only at hSw); unfold ckr_6; go_simp) <;> with_reducible rfl)
      (try simp only [Act.put, List.setIfInBounds_toArray, List.set_cons_zero, List.set_cons_succ])
      refine wpAnyH_done (by kernel_rfl) ?_ _
      clear hHeld
      go_wp2_with fail
      (try simp only [Exit.inBlock, Exit.then])
      refine bodyPost_ret (results_cell_tmp2 rfl _ _ (w.heap.size + 1) 33 _ _ dj rfl (setRow_new hW2 HR5.out) dj1 (by cases dj <;> first | rfl | exact dj2) (by kernel_rfl)) rfl ?_
      rw [HJ.out, HX.out]
      exact ⟨setRow_kept hW2 HK5D.out (by omega), _, rfl, by simpa using rowI_set hW2 HR5.out HST5.out.drew.row⟩
     exact AllReadyH.nil
   | ok x =>
    have HCE := HCALL.out
    rw [hx] at HCE
    have HCE2 := Lib.hid HCE
    have HX := Lib.hid hx
    clear HCALL HCE hx
    refine HCE2.out.mono ?_
    rintro e w4 ⟨hf4, su, sv, sa, pv4, rfl, hs4, hfx, hu, hv, ha⟩
    obtain ⟨au, cu, Su, rfl, -⟩ := hu.out
    obtain ⟨av, cv, Sv, rfl, -⟩ := hv.out
    obtain ⟨aa, ca, Sa, rfl, -⟩ := ha.out
    have HK4 := Lib.hid ((((Fr.of HK3.out : Fr w.heap.size K w W3).trans hf4).kept rfl) : Kept w w4)
    have hr4 := (hf4.block (w.heap.size + 1) (Array.getElem?_eq_some_iff.1 HR3.out).1 (Or.inr ⟨by omega, not_row HR3.out (by decide)⟩)).trans HR3.out
    have hsz3 : K + 1 ≤ W3.heap.size := HST.out.lt
    have hsz4 := hf4.size
    go_wp2_with (refine stop_store 33 (.tmp 10) (.tmp 27) rfl ?_)
    intro _
    refine wpList_store_part_n (by rfl) 33 (.tmp 10) (.tmp 27) rfl (w4.heap.size) 0 #[.bool x.eq, .int .i64 x.u.k, .int .i64 x.u.i, .int .i64 x.u.j, .int .i64 x.u.n, (.slice au x.u.kids.length cu), .int .i64 x.v.k, .int .i64 x.v.i, .int .i64 x.v.j, .int .i64 x.v.n, (.slice av x.v.kids.length cv), .int .i64 x.a.k, .int .i64 x.a.i, .int .i64 x.a.j, .int .i64 x.a.n, (.slice aa x.a.kids.length ca), .int .i64 x.i] (by rfl) (by rfl) 33 (by kernel_rfl) (row_ok rfl) ?_
    intro W hW
    subst hW
    refine ⟨_, #[.bool x.eq, .int .i64 x.u.k, .int .i64 x.u.i, .int .i64 x.u.j, .int .i64 x.u.n, (.slice au x.u.kids.length cu), .int .i64 x.v.k, .int .i64 x.v.i, .int .i64 x.v.j, .int .i64 x.v.n, (.slice av x.v.kids.length cv), .int .i64 x.a.k, .int .i64 x.a.i, .int .i64 x.a.j, .int .i64 x.a.n, (.slice aa x.a.kids.length ca), .int .i64 x.i], alloc_new _ _, rfl, Nat.le_of_ble_eq_true rfl, ?_⟩
    intro W5 hwn
    have hfr := fresh_judg hwn
    clear hwn
    obtain ⟨hk5, hb5, hs5⟩ := hfr
    obtain ⟨E, hE⟩ : ∃ E, w4.heap.size = E := ⟨_, rfl⟩
    rw [hE] at hb5 hs5
    rw [hE]
    go_upto_region 7 with fail
    have HK5 := Lib.hid (kept_trans HK4.out hk5)
    have HR5 := Lib.hid ((Below.block hk5 _ (Array.getElem?_eq_some_iff.1 hr4).1).trans hr4)
    have HB5 := Lib.hid hb5
    have HU5 := Lib.hid (hu.later hk5)
    have HV5 := Lib.hid (hv.later hk5)
    have HA5 := Lib.hid (ha.later hk5)
    have HFX := Lib.hid hfx
    clear hk5 hb5 hs5 hE hu hv ha hfx hs4 hf4 HCE2
    go_wp2_with (refine stop_load 33 (.tmp 10) rfl ?_)
    intro _
    refine wpList_load_part (E) (0) 33 (.tmp 10) #[.bool x.eq, .int .i64 x.u.k, .int .i64 x.u.i, .int .i64 x.u.j, .int .i64 x.u.n, (.slice au x.u.kids.length cu), .int .i64 x.v.k, .int .i64 x.v.i, .int .i64 x.v.j, .int .i64 x.v.n, (.slice av x.v.kids.length cv), .int .i64 x.a.k, .int .i64 x.a.i, .int .i64 x.a.j, .int .i64 x.a.n, (.slice aa x.a.kids.length ca), .int .i64 x.i] dj HB5.out (by rfl) rfl (by rfl) (by rfl) dj1 (by cases dj <;> first | rfl | exact dj2) (by kernel_rfl) ?_
    go_wp2_with (refine stop_store 33 (.tmp 6) (.tmp 35) rfl ?_)
    intro _
    refine wpList_store_part_n (by rfl) 33 (.tmp 6) (.tmp 35) rfl (w.heap.size + 1) 0 #[.bool x.eq, .int .i64 x.u.k, .int .i64 x.u.i, .int .i64 x.u.j, .int .i64 x.u.n, (.slice au x.u.kids.length cu), .int .i64 x.v.k, .int .i64 x.v.i, .int .i64 x.v.j, .int .i64 x.v.n, (.slice av x.v.kids.length cv), .int .i64 x.a.k, .int .i64 x.a.i, .int .i64 x.a.j, .int .i64 x.a.n, (.slice aa x.a.kids.length ca), .int .i64 x.i] (by rfl) (by rfl) 33 (by kernel_rfl) (row_ok rfl) ?_
    intro W hW
    subst hW
    refine ⟨_, #[.bool x.eq, .int .i64 x.u.k, .int .i64 x.u.i, .int .i64 x.u.j, .int .i64 x.u.n, (.slice au x.u.kids.length cu), .int .i64 x.v.k, .int .i64 x.v.i, .int .i64 x.v.j, .int .i64 x.v.n, (.slice av x.v.kids.length cv), .int .i64 x.a.k, .int .i64 x.a.i, .int .i64 x.a.j, .int .i64 x.a.n, (.slice aa x.a.kids.length ca), .int .i64 x.i], HR5.out, rfl, Nat.le_of_ble_eq_true rfl, ?_⟩
    intro W2 hW2
    go_wp2_with fail
    (try simp only [Exit.inBlock, Exit.then])
    refine bodyPost_ret (results_cell_tmp2 rfl _ _ (w.heap.size + 1) 33 _ _ dj rfl (setRow_new hW2 HR5.out) dj1 (by cases dj <;> first | rfl | exact dj2) (by kernel_rfl)) rfl ?_
    rw [HJ.out, HX.out]
    have hzW : w.heap.size ≤ W3.heap.size := HK3.out.size
    have hne : ∀ b, (b < w0.heap.size ∨ W3.heap.size ≤ b) → b ≠ w.heap.size + 1 := fun b hb => by omega
    have hnw : ∀ b, (b < w0.heap.size ∨ W3.heap.size ≤ b) → (b < w0.heap.size ∨ w.heap.size ≤ b) := fun b hb => by omega
    exact ⟨setRow_kept hW2 HK5.out (by omega), _, _, _, rfl, HFX.out, liesQ_set hW2 HU5.out hne hnw, liesQ_set hW2 HV5.out hne hnw, liesQ_set hW2 HA5.out hne hnw⟩
theorem ckJudge_any (m : Nat) (hm : Mild m) (d : Dv.Tm) (c : List En) (w : World) (sc s : Value) (hlc : LiesE w c sc) (hl : Dv.Lies w d.kids s) (hcs : c.length + d.size ≤ 101) (hsc : Smc c) :
  Calls Try.prog 9 #[sc, Dv.tv d s, .float .f64 m] w (GivesT (judgeT m c d) w) := by
 refine (ckJudgeQ_any m hm d c w w (kept_refl w) sc s hlc hl hcs hsc).mono fun e w' h => ?_
 obtain ⟨hk, h⟩ := h
 refine ⟨hk, ?_⟩
 cases hr : judgeT m c d with
 | ok j =>
  rw [hr] at h
  obtain ⟨su, sv, sa, rfl, hf, hu, hv, ha⟩ := h
  exact ⟨su, sv, sa, rfl, hf, hu.lies, hv.lies, ha.lies⟩
 | error ea =>
  obtain ⟨er, q⟩ := ea
  rw [hr] at h
  obtain ⟨pv, rfl, hp⟩ := h
  exact ⟨pv, rfl, hp.lies⟩
end Go.Proofs.Ytokgpaajelgakaa.Ck
namespace Go.Proofs.Ytokgpaajelgakaa.Dv
open Go.RowKit
mutual
def Tm.deep : Tm → Nat
  | .mk _ _ l => deeps l + 1
def deeps : List Tm → Nat
  | [] => 0
  | t :: r => max t.deep (deeps r)
end
theorem deeps_take (l : List Tm) (k : Nat) (h : k < l.length) : deeps (l.take (k + 1)) = max (deeps (l.take k)) (l[k]).deep := by
  induction l generalizing k with
  | nil => simp at h
  | cons a r ih =>
    cases k with
    | zero => simp [deeps]
    | succ k => simp only [List.take_succ_cons, deeps, List.getElem_cons_succ]; rw [ih k (by simpa using h)]; omega
theorem Tm.deep_eq (t : Tm) : t.deep = deeps t.kids + 1 := by cases t; rfl
theorem deep_le_size (t : Tm) : t.deep ≤ t.size := by
  induction t using Tm.ind with
  | h t ih =>
    rw [t.deep_eq, t.size_eq]
    have : ∀ l : List Tm, (∀ x ∈ l, x.deep ≤ x.size) → deeps l ≤ sizes l := by
      intro l hl
      induction l with
      | nil => simp [deeps]
      | cons a r ihr => simp only [deeps, sizes]; have := ihr (fun x hx => hl x (List.mem_cons_of_mem _ hx)); have := hl a List.mem_cons_self; omega
    have := this t.kids ih
    omega
end Go.Proofs.Ytokgpaajelgakaa.Dv
namespace Go.Proofs.Ytokgpaajelgakaa.Dv
open Go.RowKit
def Weighed (t : Tm) (most deep : Int) (w : World) (e : Ending) (w' : World) : Prop :=
  ∃ r : Int, e = .returned (.int .i64 r) ∧ 1 ≤ r ∧ r ≤ most + 1 ∧ (r ≤ most → r = t.size ∧ (t.deep : Int) ≤ deep + 1) ∧ Below w.heap.size w w'
set_option maxHeartbeats 800000 in
theorem dweigh_any (t : Tm) : ∀ (w : World) (s : Value) (most deep : Int), Lies w t.kids s → 0 ≤ most → most ≤ 100000 → -1 ≤ deep → deep ≤ 100000 →
    Calls Try.prog 25 #[tv t s, .int .i64 most, .int .i64 deep] w (Weighed t most deep w) := by
  induction t using Tm.ind with
  | h t ih =>
    intro w s most deep hl h0 h1 h2 h3
    obtain ⟨a, cap, S, rfl, hc, hm, hf, hn, hk⟩ := hl.out
    unfold tv
    have hsz := t.size_eq
    have hdp := t.deep_eq
    unfold maxLen at hm
    have IH := Lib.hid ih
    have HN := Lib.hid hn
    have HK := Lib.hid hk
    have HSZ := Lib.hid hsz
    have HDP := Lib.hid hdp
    clear ih hn hk hf hl hsz hdp
    by_cases hd : deep < 0
    · go_enter Try.func25, Try.ntmps25
      go_wp2
      go_ret
      exact ⟨most + 1, rfl, by omega, by omega, fun h => by omega, (Below.refl _ _).alloc (Nat.le_refl _) _⟩
    go_enter Try.func25, Try.ntmps25
    have hcell : ∀ (wr : World), Below (w.heap.size + 1) (w.alloc (.cells #[.int .i64 t.k, .int .i64 t.i, .slice a t.kids.length cap] 25)) wr → wr.cell? ⟨w.heap.size, 2, none⟩ = some (.slice a t.kids.length cap) := fun wr h => by
      rw [h.cell (p := ⟨w.heap.size, 2, none⟩) (by exact Nat.lt_succ_self _), World.cell?_alloc_at _ _ _ _ rfl]; rfl
    have HC := Lib.hid hcell
    clear hcell
    go_wp2
    go_loopw [7, 8] (fun nv iv wr => ∃ (k : Nat) (n : Int), k ≤ t.kids.length ∧ iv = .int .i64 k ∧ nv = .int .i64 n ∧ 1 ≤ n ∧ n ≤ most + 1 ∧ Hid (n ≤ most → n = ((1 + sizes (t.kids.take k) : Nat) : Int) ∧ (deeps (t.kids.take k) : Int) ≤ deep) ∧
        Below (w.heap.size + 1) (w.alloc (.cells #[.int .i64 t.k, .int .i64 t.i, .slice a t.kids.length cap] 25)) wr) (fun _ i _ => t.kids.length - (intOf i).toNat)
    case atStart => exact ⟨0, 1, Nat.zero_le _, rfl, rfl, by omega, by omega, fun _ => ⟨by simp [sizes], by simp [deeps]; omega⟩, Below.refl _ _⟩
    case round =>
      obtain ⟨k, n, hk, rfl, rfl, hn1, hn2, hrel, hb⟩ := hrel
      have hc4 := HC.out wr hb
      have hb0 : Below w.heap.size w wr := ((Below.refl _ _).alloc (Nat.le_refl _) _).trans (hb.mono (by omega))
      by_cases hlt : k < t.kids.length
      · by_cases hnm : n ≤ most
        · obtain ⟨b, o, rfl, hx⟩ := HN.out k hlt
          have hy := hx.below hb0 hx.lt
          obtain ⟨c0, c1, c2⟩ := hy
          have hq := HK.out k hlt
          obtain ⟨a', cap', S', hS, -⟩ := hq.out
          rw [hS] at c2 hq
          have HQ := Lib.hid (hq.keep hb0)
          clear hS hq
          have HM := Lib.hid (List.getElem_mem hlt)
          have HT := Lib.hid (sizes_take t.kids k hlt)
          have HT2 := Lib.hid (deeps_take t.kids k hlt)
          go_wp2_with fail
          refine (IH.out _ HM.out _ _ _ _ HQ.out (by omega) (by omega) (by omega) (by omega)).mono ?_
          rintro e w' ⟨r, rfl, hr1, hr2, hr3, hb'⟩
          have HR3 := Lib.hid hr3
          have HB' := hb.trans (hb'.mono (by have := hb.size; simpa using this))
          clear hb' hb hb0 hc4 hr3
          go_wp2
          go_roundw
          case rel =>
            refine ⟨k + 1, n + r, by omega, by go_num, rfl, by omega, by omega, ?_, HB'⟩
            intro hle
            obtain ⟨e1, e2⟩ := hrel.out hnm
            obtain ⟨e3, e4⟩ := HR3.out (by omega)
            rw [HT.out, HT2.out, e1, e3]
            exact ⟨by simp; omega, by omega⟩
          case measure => simp [intOf]; omega
        · go_wp2
          go_ret
          exact ⟨n, rfl, by omega, by omega, fun h => absurd h (by omega), hb0⟩
      · have : k = t.kids.length := by omega
        subst this
        go_wp2
        all_goals go_ret
        all_goals
          refine ⟨n, rfl, by omega, by omega, fun h => ?_, hb0⟩
          obtain ⟨e1, e2⟩ := hrel.out h
          rw [List.take_length] at e1 e2
          rw [HSZ.out, HDP.out]
          exact ⟨by rw [e1]; simp; omega, by omega⟩
def NotGreat (t : Tm) (most : Int) (w : World) (e : Ending) (w' : World) : Prop :=
  ∃ g : Bool, e = .returned (.bool g) ∧ (g = false → (t.size : Int) ≤ most ∧ t.deep ≤ 201) ∧ Below w.heap.size w w'
set_option maxHeartbeats 800000 in
theorem dgreat_any (t : Tm) (w : World) (s : Value) (most : Int) (hl : Lies w t.kids s) (h0 : 0 ≤ most) (h1 : most ≤ 100000) :
    Calls Try.prog 14 #[tv t s, .int .i64 most] w (NotGreat t most w) := by
  obtain ⟨a, cap, S, hs, -⟩ := hl.out
  subst hs
  have HB : Below w.heap.size w (w.alloc (.cells #[.int .i64 t.k, .int .i64 t.i, .slice a t.kids.length cap] 25)) := (Below.refl _ _).alloc (Nat.le_refl _) _
  have HL := Lib.hid (hl.keep HB)
  clear hl
  unfold tv
  go_enter Try.func14, Try.ntmps14
  go_wp2_with fail
  refine (dweigh_any t _ _ _ _ HL.out h0 h1 (by omega) (by omega)).mono ?_
  rintro e w' ⟨r, rfl, hr1, hr2, hr3, hb'⟩
  have HR3 := Lib.hid hr3
  have HB' := HB.trans (hb'.mono HB.size)
  clear hr3 hb' HB
  go_wp2
  go_ret
  refine ⟨_, rfl, fun h => ?_, HB'⟩
  have hrm : r ≤ most := by simpa using h
  obtain ⟨e3, e4⟩ := HR3.out hrm
  omega
end Go.Proofs.Ytokgpaajelgakaa.Dv
namespace Go.Proofs.Ytokgpaajelgakaa.Ck
open Go Go.RowKit
open Se (ofB Sml sizeJ zJ)
def HeavyG (c : List En) (d : Dv.Tm) (w : World) (e : Ending) (w' : World) : Prop :=
  ∃ g : Bool, e = .returned (.bool g) ∧ (g = false → c.length ≤ 60 ∧ (∀ x ∈ c, x.a.size ≤ 60) ∧ d.size ≤ 40) ∧ Kept w w'
set_option maxRecDepth 20000 in
set_option maxHeartbeats 4000000 in
theorem heavy_any (c : List En) (d : Dv.Tm) (w : World) (sc s : Value) (hc : LiesE w c sc) (hl : Dv.Lies w d.kids s) : Calls Try.prog 7 #[sc, Dv.tv d s] w (HeavyG c d w) := by
  obtain ⟨a, cap, S, rfl, -⟩ := hl.out
  unfold Dv.tv
  have HC := Lib.hid hc
  have HL := Lib.hid hl
  have hA : Kept w (w.alloc (.cells #[.int .i64 d.k, .int .i64 d.i, .slice a d.kids.length cap] 25)) := (Below.refl w.heap.size w).alloc (Nat.le_refl _) _
  have HA := Lib.hid hA
  clear hc hl hA
  go_enter Try.func7, Try.ntmps7
  go_upto_region 1 with fail
  have hb0 : (w.alloc (.cells #[.int .i64 d.k, .int .i64 d.i, .slice a d.kids.length cap] 25)).heap[w.heap.size]? = some (Obj.cells #[.int .i64 d.k, .int .i64 d.i, .slice a d.kids.length cap] 25 (0, 0)) := alloc_new _ _
  generalize w.alloc (.cells #[.int .i64 d.k, .int .i64 d.i, .slice a d.kids.length cap] 25) = V at HA hb0 ⊢
  have HB0 := Lib.hid hb0
  clear hb0
  go_wp2_with fail
  refine (greatctx_any c 60 _ _ (HC.out.keep HA.out) (by decide)).mono ?_
  rintro e w1 ⟨g, rfl, hg, hk1⟩
  have HK1 := Lib.hid (kept_trans HA.out hk1)
  have hb1 := (Below.block hk1 _ (Array.getElem?_eq_some_iff.1 HB0.out).1).trans HB0.out
  have y0 : w1.cell? ⟨w.heap.size, 0, none⟩ = some (.int .i64 d.k) := by rw [Lib.cell_of_heap hb1]; rfl
  have y1 : w1.cell? ⟨w.heap.size, 1, none⟩ = some (.int .i64 d.i) := by rw [Lib.cell_of_heap hb1]; rfl
  have y2 : w1.cell? ⟨w.heap.size, 2, none⟩ = some (.slice a d.kids.length cap) := by rw [Lib.cell_of_heap hb1]; rfl
  have HG := Lib.hid hg
  clear hb1 hk1 hg
  cases g with
  | true =>
    go_wp2_with fail
    go_ret
    exact ⟨true, rfl, (fun h => by cases h), HK1.out⟩
  | false =>
    go_wp2_with fail
    refine (Dv.dgreat_any d _ _ 40 (HL.out.keep HK1.out) (by decide) (by decide)).mono ?_
    rintro e w2 ⟨g2, rfl, hg2, hk2⟩
    have HG2 := Lib.hid hg2
    have HK2 := Lib.hid (kept_trans HK1.out hk2)
    clear hg2 hk2 y0 y1 y2
    go_wp2_with fail
    go_ret
    refine ⟨g2, rfl, fun h => ?_, HK2.out⟩
    have h1 := HG.out (by first | rfl | trivial)
    have h2 := HG2.out h
    exact ⟨h1.1, fun x hx => by have := (h1.2 x hx).1; omega, by omega⟩
theorem wake_ok : judgeT 4611686018427387904 [] (.mk 1 0 []) = .ok ⟨false, .mk 1 0 0 0 [], .zero, .mk 1 1 0 0 [], 2⟩ := by kernel_rfl
theorem wake_no : judgeT 4607182418800017408 [] (.mk 1 0 []) = .error (4, []) := by kernel_rfl
theorem dlies_none (w : World) : Dv.Lies w [] (.slice none 0 0) := .mk [] none 0 (fun _ => .nilIface) (Nat.le_refl _) (by decide) (fun _ h => by cases h) (fun _ h => by cases h) (fun _ h => by cases h)
set_option maxRecDepth 20000 in
set_option maxHeartbeats 4000000 in
theorem wakes16_any (w : World) : Calls Try.prog 10 #[] w fun e w' => e = .returned (.bool true) ∧ Kept w w' := by
  have C2 := Lib.hid (fun (W : World) => ckJudge_any 4611686018427387904 mild_2 (.mk 1 0 []) [] W _ _ (liesE_nil W) (dlies_none W) (by decide) ⟨fun _ h => by cases h⟩)
  have C1 := Lib.hid (fun (W : World) => ckJudge_any 4607182418800017408 mild_1 (.mk 1 0 []) [] W _ _ (liesE_nil W) (dlies_none W) (by decide) ⟨fun _ h => by cases h⟩)
  rw [wake_ok] at C2
  rw [wake_no] at C1
  go_enter Try.func10, Try.ntmps10
  go_wp2_with fail
  refine (C2.out _).mono ?_
  rintro e w1 ⟨hk1, su, sv, sa, rfl, hf, hu, hv, ha⟩
  obtain ⟨au, cu, -, rfl, -⟩ := hu.out
  obtain ⟨av, cv, -, rfl, -⟩ := hv.out
  obtain ⟨aa, ca, -, rfl, -⟩ := ha.out
  have HK1 := Lib.hid hk1
  clear hk1 hf hu hv ha
  go_wp2_with (refine stop_store 33 (.tmp 1) (.tmp 10) rfl ?_)
  intro _
  refine wpList_store_part_n (by rfl) 33 (.tmp 1) (.tmp 10) rfl (w1.heap.size) 0 #[.bool false, .int .i64 1, .int .i64 0, .int .i64 0, .int .i64 0, (.slice au 0 cu), .int .i64 0, .int .i64 0, .int .i64 0, .int .i64 0, (.slice av 0 cv), .int .i64 1, .int .i64 1, .int .i64 0, .int .i64 0, (.slice aa 0 ca), .int .i64 2] (by rfl) (by rfl) 33 (by kernel_rfl) (row_ok rfl) ?_
  intro W hW
  subst hW
  refine ⟨_, #[.bool false, .int .i64 1, .int .i64 0, .int .i64 0, .int .i64 0, (.slice au 0 cu), .int .i64 0, .int .i64 0, .int .i64 0, .int .i64 0, (.slice av 0 cv), .int .i64 1, .int .i64 1, .int .i64 0, .int .i64 0, (.slice aa 0 ca), .int .i64 2], alloc_new _ _, rfl, Nat.le_of_ble_eq_true rfl, ?_⟩
  intro w2 hwn
  have hfr := fresh_judg hwn
  clear hwn
  have HK2 := Lib.hid (kept_trans HK1.out hfr.1)
  have HB2 := Lib.hid hfr.2.1
  have HZ2 := Lib.hid hfr.2.2
  clear hfr
  go_wp2_with fail
  refine (C1.out _).mono ?_
  rintro e w3 ⟨hk3, pv, rfl, hp⟩
  obtain ⟨pa, pc, rfl, -⟩ := hp.out
  have HK3 := Lib.hid (kept_trans HK2.out hk3)
  have HB3 := Lib.hid ((Below.block hk3 _ (Array.getElem?_eq_some_iff.1 HB2.out).1).trans HB2.out)
  clear hk3 hp
  go_wp2_with (refine stop_store 33 (.tmp 4) (.tmp 16) rfl ?_)
  intro _
  refine wpList_store_part_n (by rfl) 33 (.tmp 4) (.tmp 16) rfl (w3.heap.size) 0 zAgg (by rfl) (by rfl) 33 (by kernel_rfl) (row_ok rfl) ?_
  intro W hW
  subst hW
  refine ⟨_, zAgg, alloc_new _ _, rfl, Nat.le_of_ble_eq_true rfl, ?_⟩
  intro w4 hwn
  have hfr := fresh_judg hwn
  clear hwn
  have HK4 := Lib.hid (kept_trans HK3.out hfr.1)
  have hb4 := (Below.block hfr.1 _ (Array.getElem?_eq_some_iff.1 HB3.out).1).trans HB3.out
  have y16 : w4.cell? ⟨w1.heap.size, 16, none⟩ = some (.int .i64 2) := by rw [Lib.cell_of_heap hb4]; rfl
  have y12 : w4.cell? ⟨w1.heap.size, 12, none⟩ = some (.int .i64 1) := by rw [Lib.cell_of_heap hb4]; rfl
  clear hfr hb4
  go_wp2_with fail
  go_ret
  exact ⟨rfl, HK4.out⟩
end Go.Proofs.Ytokgpaajelgakaa.Ck
namespace Go.Proofs.Ytokgpaajelgakaa.Ck
open Go Go.RowKit
open Se (ofB Sml sizeJ zJ)
theorem judgeT_err {m : Nat} {c : List En} {d : Dv.Tm} {er : Int} {q : List Int} (h : judgeT m c d = .error (er, q)) : (er = 1 ∧ q = []) ∨ (er = 3 ∧ ∃ x, d.at q = some x ∧ x.rightB = true) ∨ er = 4 := by
 unfold judgeT at h
 split at h
 ·rename_i hr
  split at h
  ·rcases judgeB_err m d c h with e | e
   ·exact Or.inr (Or.inl ⟨e, (judgeB_path d c h hr).1⟩)
   ·exact Or.inr (Or.inr e)
  ·cases h; exact Or.inl ⟨rfl, rfl⟩
 ·cases h; exact Or.inl ⟨rfl, rfl⟩
set_option maxRecDepth 20000 in
set_option maxHeartbeats 8000000 in
theorem checkFaults_any (c : List En) (d : Dv.Tm) (w : World) (sc s : Value) (hc : LiesE w c sc) (hl : Dv.Lies w d.kids s) : Calls Try.prog 6 #[sc, Dv.tv d s] w fun e w' => e = .returned (.bool true) ∧ Kept w w' := by
 obtain ⟨a, cap, S, rfl, -⟩ := hl.out
 unfold Dv.tv
 have HC := Lib.hid hc
 have HL := Lib.hid hl
 have hA : Kept w (w.alloc (.cells #[.int .i64 d.k, .int .i64 d.i, .slice a d.kids.length cap] 25)) := (Below.refl w.heap.size w).alloc (Nat.le_refl _) _
 have HA := Lib.hid hA
 clear hc hl hA
 go_enter Try.func6, Try.ntmps6
 go_upto_region 1 with fail
 have hb0 : (w.alloc (.cells #[.int .i64 d.k, .int .i64 d.i, .slice a d.kids.length cap] 25)).heap[w.heap.size]? = some (Obj.cells #[.int .i64 d.k, .int .i64 d.i, .slice a d.kids.length cap] 25 (0, 0)) := alloc_new _ _
 generalize w.alloc (.cells #[.int .i64 d.k, .int .i64 d.i, .slice a d.kids.length cap] 25) = V at HA hb0 ⊢
 have HB0 := Lib.hid hb0
 have y0 : V.cell? ⟨w.heap.size, 0, none⟩ = some (.int .i64 d.k) := by rw [Lib.cell_of_heap hb0]; rfl
 have y1 : V.cell? ⟨w.heap.size, 1, none⟩ = some (.int .i64 d.i) := by rw [Lib.cell_of_heap hb0]; rfl
 have y2 : V.cell? ⟨w.heap.size, 2, none⟩ = some (.slice a d.kids.length cap) := by rw [Lib.cell_of_heap hb0]; rfl
 clear hb0
 have HWK := Lib.hid wakes16_any
 go_wp2_with fail
 refine (heavy_any c d _ _ _ (HC.out.keep HA.out) (HL.out.keep HA.out)).mono ?_
 rintro e w1 ⟨g, rfl, hg, hk1⟩
 have HK1 := Lib.hid (kept_trans HA.out hk1)
 have HG := Lib.hid hg
 have HB1 := Lib.hid ((Below.block hk1 _ (Array.getElem?_eq_some_iff.1 HB0.out).1).trans HB0.out)
 have z0 : w1.cell? ⟨w.heap.size, 0, none⟩ = some (.int .i64 d.k) := by rw [Lib.cell_of_heap HB1.out]; rfl
 have z1 : w1.cell? ⟨w.heap.size, 1, none⟩ = some (.int .i64 d.i) := by rw [Lib.cell_of_heap HB1.out]; rfl
 have z2 : w1.cell? ⟨w.heap.size, 2, none⟩ = some (.slice a d.kids.length cap) := by rw [Lib.cell_of_heap HB1.out]; rfl
 clear y0 y1 y2 hk1 hg
 cases g with
 | true =>
  go_wp2_with fail
  go_ret
  exact ⟨rfl, HK1.out⟩
 | false =>
  have hsz := HG.out rfl
  have HSZ := Lib.hid hsz
  have HCALL := Lib.hid (ckJudge_any 4652007308841189376 mild_1000 d c w1 sc _ (HC.out.keep HK1.out) (HL.out.keep HK1.out) (by omega) ⟨fun x hx => by have := hsz.2.1 x hx; omega⟩)
  clear hsz
  go_wp2_with fail
  cases hx : judgeT 4652007308841189376 c d with
  | ok x =>
   have HCE := HCALL.out
   rw [hx] at HCE
   have HCE2 := Lib.hid HCE
   clear HCALL HCE hx
   refine HCE2.out.mono ?_
   rintro e w2 ⟨hk2, su, sv, sa, rfl, hfx, hu, hv, ha⟩
   obtain ⟨au, cu, -, rfl, -⟩ := hu.out
   obtain ⟨av, cv, -, rfl, -⟩ := hv.out
   obtain ⟨aa, ca, -, rfl, -⟩ := ha.out
   have HK2 := Lib.hid (kept_trans HK1.out hk2)
   clear hk2 hu hv ha hfx HCE2 z0 z1 z2
   go_wp2_with (refine stop_store 33 (.tmp 5) (.tmp 17) rfl ?_)
   intro _
   refine wpList_store_part_n (by rfl) 33 (.tmp 5) (.tmp 17) rfl (w2.heap.size) 0 #[.bool x.eq, .int .i64 x.u.k, .int .i64 x.u.i, .int .i64 x.u.j, .int .i64 x.u.n, (.slice au x.u.kids.length cu), .int .i64 x.v.k, .int .i64 x.v.i, .int .i64 x.v.j, .int .i64 x.v.n, (.slice av x.v.kids.length cv), .int .i64 x.a.k, .int .i64 x.a.i, .int .i64 x.a.j, .int .i64 x.a.n, (.slice aa x.a.kids.length ca), .int .i64 x.i] (by rfl) (by rfl) 33 (by kernel_rfl) (row_ok rfl) ?_
   intro W hW
   subst hW
   refine ⟨_, #[.bool x.eq, .int .i64 x.u.k, .int .i64 x.u.i, .int .i64 x.u.j, .int .i64 x.u.n, (.slice au x.u.kids.length cu), .int .i64 x.v.k, .int .i64 x.v.i, .int .i64 x.v.j, .int .i64 x.v.n, (.slice av x.v.kids.length cv), .int .i64 x.a.k, .int .i64 x.a.i, .int .i64 x.a.j, .int .i64 x.a.n, (.slice aa x.a.kids.length ca), .int .i64 x.i], alloc_new _ _, rfl, Nat.le_of_ble_eq_true rfl, ?_⟩
   intro w3 hwn
   have hfr := fresh_judg hwn
   clear hwn
   have HK3 := Lib.hid (kept_trans HK2.out hfr.1)
   clear hfr
   go_wp2_with fail
   refine (HWK.out _).mono ?_
   rintro e w4 ⟨rfl, hk4⟩
   go_wp2_with fail
   go_ret
   exact ⟨rfl, kept_trans HK3.out hk4⟩
  | error ea =>
   obtain ⟨er, q⟩ := ea
   have her := judgeT_err hx
   have HCE := HCALL.out
   rw [hx] at HCE
   have HCE2 := Lib.hid HCE
   clear HCALL HCE hx
   refine HCE2.out.mono ?_
   rintro e w2 ⟨hk2, pv, rfl, hp⟩
   obtain ⟨pa, pc, rfl, -⟩ := hp.out
   have HP := Lib.hid hp
   have HK2 := Lib.hid (kept_trans HK1.out hk2)
   have HB2 := Lib.hid ((Below.block hk2 _ (Array.getElem?_eq_some_iff.1 HB1.out).1).trans HB1.out)
   clear hk2 hp HCE2 z0 z1 z2
   rcases her with ⟨her, hq⟩ | ⟨her, hat⟩ | her
   ·subst her hq
    go_wp2_with (refine stop_store 33 (.tmp 5) (.tmp 17) rfl ?_)
    intro _
    refine wpList_store_part_n (by rfl) 33 (.tmp 5) (.tmp 17) rfl (w2.heap.size) 0 zAgg (by rfl) (by rfl) 33 (by kernel_rfl) (row_ok rfl) ?_
    intro W hW
    subst hW
    refine ⟨_, zAgg, alloc_new _ _, rfl, Nat.le_of_ble_eq_true rfl, ?_⟩
    intro w3 hwn
    have hfr := fresh_judg hwn
    clear hwn
    have HK3 := Lib.hid (kept_trans HK2.out hfr.1)
    clear hfr
    go_wp2_with fail
    refine (HWK.out _).mono ?_
    rintro e w4 ⟨rfl, hk4⟩
    go_wp2_with fail
    go_ret
    exact ⟨rfl, kept_trans HK3.out hk4⟩
   ·subst her
    obtain ⟨x, hat, hxr⟩ := hat
    have HAT := Lib.hid hat
    have HXR := Lib.hid hxr
    clear hat hxr
    go_wp2_with (refine stop_store 33 (.tmp 5) (.tmp 17) rfl ?_)
    intro _
    refine wpList_store_part_n (by rfl) 33 (.tmp 5) (.tmp 17) rfl (w2.heap.size) 0 zAgg (by rfl) (by rfl) 33 (by kernel_rfl) (row_ok rfl) ?_
    intro W hW
    subst hW
    refine ⟨_, zAgg, alloc_new _ _, rfl, Nat.le_of_ble_eq_true rfl, ?_⟩
    intro w3 hwn
    have hfr := fresh_judg hwn
    clear hwn
    have HK3 := Lib.hid (kept_trans HK2.out hfr.1)
    have HP3 := Lib.hid (HP.out.keep hfr.1)
    have HB3 := Lib.hid ((Below.block hfr.1 _ (Array.getElem?_eq_some_iff.1 HB2.out).1).trans HB2.out)
    have z0 : w3.cell? ⟨w.heap.size, 0, none⟩ = some (.int .i64 d.k) := by rw [Lib.cell_of_heap HB3.out]; rfl
    have z1 : w3.cell? ⟨w.heap.size, 1, none⟩ = some (.int .i64 d.i) := by rw [Lib.cell_of_heap HB3.out]; rfl
    have z2 : w3.cell? ⟨w.heap.size, 2, none⟩ = some (.slice a d.kids.length cap) := by rw [Lib.cell_of_heap HB3.out]; rfl
    clear hfr
    go_wp2_with fail
    have HATC := Lib.hid (Dv.dat_any d q w3 (.slice a d.kids.length cap) (.slice pa q.length pc) (HL.out.keep HK3.out) HP3.out (by have := HSZ.out.2.2; omega))
    rw [HAT.out] at HATC
    refine HATC.out.mono ?_
    rintro e w4 ⟨⟨s4, rfl, hl4⟩, hk4⟩
    obtain ⟨a4, c4, S4, rfl, -⟩ := hl4.out
    have HK4 := Lib.hid (kept_trans HK3.out hk4)
    have HL4 := Lib.hid hl4
    clear hk4 hl4 z0 z1 z2
    go_upto_region 7 with fail
    have hk5 : Kept w4 (w4.alloc (.cells #[.int .i64 x.k, .int .i64 x.i, .slice a4 x.kids.length c4] 25)) := (Below.refl w4.heap.size w4).alloc (Nat.le_refl _) _
    have hb5 : (w4.alloc (.cells #[.int .i64 x.k, .int .i64 x.i, .slice a4 x.kids.length c4] 25)).heap[w4.heap.size]? = some (Obj.cells #[.int .i64 x.k, .int .i64 x.i, .slice a4 x.kids.length c4] 25 (0, 0)) := alloc_new _ _
    generalize w4.alloc (.cells #[.int .i64 x.k, .int .i64 x.i, .slice a4 x.kids.length c4] 25) = w5 at hk5 hb5 ⊢
    have HK5 := Lib.hid (kept_trans HK4.out hk5)
    have HL5 := Lib.hid (HL4.out.keep hk5)
    have z0 : w5.cell? ⟨w4.heap.size, 0, none⟩ = some (.int .i64 x.k) := by rw [Lib.cell_of_heap hb5]; rfl
    have z1 : w5.cell? ⟨w4.heap.size, 1, none⟩ = some (.int .i64 x.i) := by rw [Lib.cell_of_heap hb5]; rfl
    have z2 : w5.cell? ⟨w4.heap.size, 2, none⟩ = some (.slice a4 x.kids.length c4) := by rw [Lib.cell_of_heap hb5]; rfl
    clear hk5 hb5
    go_wp2_with fail
    refine (Dv.drefright_any x _ _ HL5.out).mono ?_
    rintro e w6 ⟨rfl, hk6⟩
    rw [HXR.out]
    have HK6 := Lib.hid (kept_trans HK5.out hk6)
    clear z0 z1 z2 hk6
    go_wp2_with fail
    refine (HWK.out _).mono ?_
    rintro e w7 ⟨rfl, hk7⟩
    go_wp2_with fail
    go_ret
    exact ⟨rfl, kept_trans HK6.out hk7⟩
   ·subst her
    go_wp2_with (refine stop_store 33 (.tmp 5) (.tmp 17) rfl ?_)
    intro _
    refine wpList_store_part_n (by rfl) 33 (.tmp 5) (.tmp 17) rfl (w2.heap.size) 0 zAgg (by rfl) (by rfl) 33 (by kernel_rfl) (row_ok rfl) ?_
    intro W hW
    subst hW
    refine ⟨_, zAgg, alloc_new _ _, rfl, Nat.le_of_ble_eq_true rfl, ?_⟩
    intro w3 hwn
    have hfr := fresh_judg hwn
    clear hwn
    have HK3 := Lib.hid (kept_trans HK2.out hfr.1)
    clear hfr
    go_wp2_with fail
    refine (HWK.out _).mono ?_
    rintro e w4 ⟨rfl, hk4⟩
    go_wp2_with fail
    go_ret
    exact ⟨rfl, kept_trans HK3.out hk4⟩
end Go.Proofs.Ytokgpaajelgakaa.Ck
namespace Go.Proofs.Ytokgpaajelgakaa
open Go.ChangeShapes Go.WideShapes Go.ChangeAt Go.RowKit
theorem own : ownKnob Try.prog.godebug = none := by kernel_rfl
theorem cells_int : Try.prog.cellsOf 3 = 1 := by kernel_rfl
theorem cells_kids : Try.prog.cellsOf 29 = 1 := by kernel_rfl
theorem cells_term : Try.prog.cellsOf 31 = 5 := by kernel_rfl
theorem laidOut : laidOutB Try.prog = true := by kernel_rfl
instance instOpenTm : Inhabited (Tm × Value) := ⟨(.mk 0 0 0 0 [], .nilIface)⟩
theorem list5 {α : Type} {l : List α} (h : l.length = 5) : ∃ a b c d e, l = [a, b, c, d, e] := by
  match l, h with
  | [a, b, c, d, e], _ => exact ⟨a, b, c, d, e, rfl⟩
set_option maxRecDepth 100000 in
theorem open_term {H : Type} {enc : TypeId × Value → H} {w : World} {base : Nat} {sp : Nat → Bool} {hd : Bool} : ∀ (fuel : Nat) (cs : List Value) (x : DataW H × List MemPlace),
    DataW.trod enc Try.prog w base sp hd fuel 31 cs = some x → ∃ (t : Tm) (s : Value), cs = [.int .i64 t.k, .int .i64 t.i, .int .i64 t.j, .int .i64 t.n, s] ∧ t.fine ∧ Lies w t.kids s := by
  intro fuel
  induction fuel using Nat.strongRecOn with
  | _ fuel ih =>
    intro cs x h
    obtain ⟨xs, n, rfl, rfl, hl, hlen, hf⟩ := DataW.trod_struct Try.underlying31 h
    rw [cells_term] at hl
    obtain ⟨v0, v1, v2, v3, v4, rfl⟩ := list5 hl
    obtain ⟨y0, y1, y2, y3, y4, rfl⟩ := list5 hlen
    have g0 := hf 0 _ rfl
    have g1 := hf 1 _ rfl
    have g2 := hf 2 _ rfl
    have g3 := hf 3 _ rfl
    have g4 := hf 4 _ rfl
    simp [cells_int, cells_kids] at g0 g1 g2 g3 g4
    obtain ⟨k, e0, -, w0⟩ := DataW.trod_int Try.underlying3 g0
    obtain ⟨i, e1, -, w1⟩ := DataW.trod_int Try.underlying3 g1
    obtain ⟨j, e2, -, w2⟩ := DataW.trod_int Try.underlying3 g2
    obtain ⟨m, e3, -, w3⟩ := DataW.trod_int Try.underlying3 g3
    simp at e0 e1 e2 e3
    subst e0 e1 e2 e3
    rcases DataW.trod_slice Try.underlying29 g4 with ⟨e4, -⟩ | ⟨a, len, cap, elems, rest, n', rfl, e4, -, hb, hlc, hm, hlen', hel, -, -⟩
    · simp at e4
      subst e4
      exact ⟨.mk k i j m [], _, rfl, ⟨wf_I64 w0, wf_I64 w1, wf_I64 w2, wf_I64 w3⟩, .mk [] none 0 (fun _ => .nilIface) (Nat.le_refl _) (by decide) (fun _ h => by cases h) (fun _ h => by cases h) (fun _ h => by cases h)⟩
    · simp at e4
      subst e4
      have key : ∀ i, i < len → ∃ p : Tm × Value, p.1.fine ∧ Lies w p.1.kids p.2 ∧ ∃ b o, a = ⟨b, o, none⟩ ∧ Node w b (o + i * 5) p.1 p.2 := by
        intro i hi
        have h1 := hel i hi
        rw [cells_term, List.getElem?_eq_getElem (by omega)] at h1
        obtain ⟨cs', h2, h3⟩ := Option.bind_eq_some_iff.1 h1
        obtain ⟨t, s, rfl, hfine, hlies⟩ := ih n' (by omega) _ _ h3
        obtain ⟨-, -, hcell⟩ := World.cells?_some h2
        have hs0 : a.spot = none := by
          have h1 := hel 0 (by omega)
          rw [cells_term, List.getElem?_eq_getElem (by omega)] at h1
          obtain ⟨cs0, h2, -⟩ := Option.bind_eq_some_iff.1 h1
          obtain ⟨-, hl0, hc0⟩ := World.cells?_some h2
          have c0 := hc0 0 (by omega)
          rw [List.getElem?_eq_getElem (by omega)] at c0
          simpa [Addr.add] using World.cell?_spot c0
        obtain ⟨b, o, spot⟩ := a
        simp only at hs0
        subst hs0
        refine ⟨(t, s), hfine, hlies, b, o, rfl, ?_⟩
        have hc : ∀ q, q < 5 → w.cell? ⟨b, o + i * 5 + q, none⟩ = [Value.int .i64 t.k, .int .i64 t.i, .int .i64 t.j, .int .i64 t.n, s][q]? := fun q hq => by
          have := hcell q hq
          rwa [add_plain, add_plain] at this
        exact ⟨hc 0 (by omega), hc 1 (by omega), hc 2 (by omega), hc 3 (by omega), hc 4 (by omega)⟩
      obtain ⟨f, hf'⟩ := Go.Deep.choose_lt (α := Tm × Value) (p := fun i p => p.1.fine ∧ Lies w p.1.kids p.2 ∧ ∃ b o, a = ⟨b, o, none⟩ ∧ Node w b (o + i * 5) p.1 p.2) key
      have hl5 : ((List.range len).map fun i => (f i).1).length = len := by simp
      refine ⟨.mk k i j m ((List.range len).map fun i => (f i).1), _, rfl, ⟨wf_I64 w0, wf_I64 w1, wf_I64 w2, wf_I64 w3⟩, ?_⟩
      have := Lies.mk (w := w) ((List.range len).map fun i => (f i).1) (some a) cap (fun i => (f i).2) (by simpa using hlc) hm
        (fun x hx => by
          obtain ⟨i, hi, rfl⟩ := List.mem_map.1 hx
          exact (hf' i (List.mem_range.1 hi)).1)
        (fun i hi => by
          obtain ⟨b, o, ha, hn⟩ := (hf' i (by simpa using hi)).2.2
          exact ⟨b, o, by rw [ha], by simpa using hn⟩)
        (fun i hi => by simpa using (hf' i (by simpa using hi)).2.1)
      rwa [hl5] at this
set_option maxRecDepth 100000 in
theorem open_arg {H : Type} {enc : TypeId × Value → H} {W : World} {r : Reach} {b0 base : Nat} {sp : Nat → Bool} {hd : Bool} {v : Value} {d : DataW H} {p : List MemPlace} (hv : Value.okWide Try.prog W r b0 31 v)
    (h : DataW.Trod enc Try.prog W base sp hd 31 v d p) : ∃ (t : Tm) (s : Value), Lies W t.kids s ∧ v = tv t s := by
  obtain ⟨cs, rfl, hsz⟩ := okWide_struct Try.underlying31 hv
  obtain ⟨fuel, hf⟩ := h
  obtain ⟨t, s, hcs, -, hl⟩ := open_term fuel _ _ hf
  refine ⟨t, s, hl, ?_⟩
  have : cs.toList = [.int .i64 t.k, .int .i64 t.i, .int .i64 t.j, .int .i64 t.n, s] := by simpa [Value.cells] using hcs
  rw [show cs = #[.int .i64 t.k, .int .i64 t.i, .int .i64 t.j, .int .i64 t.n, s] from by cases cs; simp_all]
end Go.Proofs.Ytokgpaajelgakaa
namespace Go.Proofs.Ytokgpaajelgakaa
open Go.ChangeShapes Go.WideShapes Go.ChangeAt Go.RowKit
theorem cells_entry : Try.prog.cellsOf 74 = 6 := by kernel_rfl
instance instOpenEn : Inhabited (En × Value) := ⟨(⟨.mk 0 0 0 0 [], 0⟩, .nilIface)⟩
theorem list6 {α : Type} {l : List α} (h : l.length = 6) : ∃ a b c d e f, l = [a, b, c, d, e, f] := by
  match l, h with
  | [a, b, c, d, e, f], _ => exact ⟨a, b, c, d, e, f, rfl⟩
theorem list2 {α : Type} {l : List α} (h : l.length = 2) : ∃ a b, l = [a, b] := by
  match l, h with
  | [a, b], _ => exact ⟨a, b, rfl⟩
set_option maxRecDepth 100000 in
theorem open_entry {H : Type} {enc : TypeId × Value → H} {w : World} {base : Nat} {sp : Nat → Bool} {hd : Bool} (fuel : Nat) (cs : List Value) (x : DataW H × List MemPlace)
    (h : DataW.trod enc Try.prog w base sp hd fuel 74 cs = some x) : ∃ (e : En) (s : Value), cs = [.int .i64 e.a.k, .int .i64 e.a.i, .int .i64 e.a.j, .int .i64 e.a.n, s, .int .i64 e.i] ∧ e.fine ∧ Lies w e.a.kids s := by
  obtain ⟨xs, n, rfl, rfl, hl, hlen, hf⟩ := DataW.trod_struct Try.underlying74 h
  rw [cells_entry] at hl
  obtain ⟨v0, v1, v2, v3, v4, v5, rfl⟩ := list6 hl
  obtain ⟨y0, y1, rfl⟩ := list2 hlen
  have g0 := hf 0 _ rfl
  have g1 := hf 1 _ rfl
  simp [cells_int, cells_term] at g0 g1
  obtain ⟨t, s, hcs, hfine, hlies⟩ := open_term n _ _ g0
  obtain ⟨i, e1, -, w1⟩ := DataW.trod_int Try.underlying3 g1
  simp at e1 hcs
  subst e1
  obtain ⟨rfl, rfl, rfl, rfl, rfl⟩ := hcs
  exact ⟨⟨t, i⟩, v4, rfl, ⟨hfine, wf_I64 w1⟩, hlies⟩
set_option maxRecDepth 100000 in
theorem open_argE {H : Type} {enc : TypeId × Value → H} {w : World} {r : Reach} {b0 base : Nat} {sp : Nat → Bool} {hd : Bool} {v : Value} {d : DataW H} {p : List MemPlace} (hv : Value.okWide Try.prog w r b0 22 v)
    (h : DataW.Trod enc Try.prog w base sp hd 22 v d p) : ∃ l : List En, LiesE w l v := by
  obtain ⟨a0, len0, cap0, rfl⟩ := okWide_slice Try.underlying22 hv
  obtain ⟨fuel, hf⟩ := h
  rcases DataW.trod_slice Try.underlying22 hf with ⟨e4, -⟩ | ⟨a, len, cap, elems, rest, n', rfl, e4, -, hb, hlc, hm, hlen', hel, -, -⟩
  · simp [Value.cells] at e4
    obtain ⟨rfl, rfl, rfl⟩ := e4
    exact ⟨[], liesE_nil _⟩
  · simp [Value.cells] at e4
    obtain ⟨rfl, rfl, rfl⟩ := e4
    have key : ∀ i, i < len0 → ∃ p : En × Value, p.1.fine ∧ Lies w p.1.a.kids p.2 ∧ ∃ b o, a = ⟨b, o, none⟩ ∧ ENode w b (o + i * 6) p.1 p.2 := by
      intro i hi
      have h1 := hel i hi
      rw [cells_entry, List.getElem?_eq_getElem (by omega)] at h1
      obtain ⟨cs', h2, h3⟩ := Option.bind_eq_some_iff.1 h1
      obtain ⟨t, s, rfl, hfine, hlies⟩ := open_entry n' _ _ h3
      obtain ⟨-, -, hcell⟩ := World.cells?_some h2
      have hs0 : a.spot = none := by
        have h1 := hel 0 (by omega)
        rw [cells_entry, List.getElem?_eq_getElem (by omega)] at h1
        obtain ⟨cs0, h2, -⟩ := Option.bind_eq_some_iff.1 h1
        obtain ⟨-, hl0, hc0⟩ := World.cells?_some h2
        have c0 := hc0 0 (by omega)
        rw [List.getElem?_eq_getElem (by omega)] at c0
        simpa [Addr.add] using World.cell?_spot c0
      obtain ⟨b, o, spot⟩ := a
      simp only at hs0
      subst hs0
      refine ⟨(t, s), hfine, hlies, b, o, rfl, ?_⟩
      have hc : ∀ q, q < 6 → w.cell? ⟨b, o + i * 6 + q, none⟩ = [Value.int .i64 t.a.k, .int .i64 t.a.i, .int .i64 t.a.j, .int .i64 t.a.n, s, .int .i64 t.i][q]? := fun q hq => by
        have := hcell q hq
        rwa [add_plain, add_plain] at this
      exact ⟨hc 0 (by omega), hc 1 (by omega), hc 2 (by omega), hc 3 (by omega), hc 4 (by omega), hc 5 (by omega)⟩
    obtain ⟨f, hf'⟩ := Go.Deep.choose_lt (α := En × Value) (p := fun i p => p.1.fine ∧ Lies w p.1.a.kids p.2 ∧ ∃ b o, a = ⟨b, o, none⟩ ∧ ENode w b (o + i * 6) p.1 p.2) key
    have hl5 : ((List.range len0).map fun i => (f i).1).length = len0 := by simp
    refine ⟨(List.range len0).map fun i => (f i).1, some a, cap0, (fun i => (f i).2), by rw [hl5], by simpa using hlc, hm, ?_, ?_, ?_⟩
    · intro x hx
      obtain ⟨i, hi, rfl⟩ := List.mem_map.1 hx
      exact (hf' i (List.mem_range.1 hi)).1
    · intro i hi
      obtain ⟨b, o, ha, hn⟩ := (hf' i (by simpa using hi)).2.2
      exact ⟨b, o, by rw [ha], by simpa using hn⟩
    · intro i hi
      simpa using (hf' i (by simpa using hi)).2.1
end Go.Proofs.Ytokgpaajelgakaa
namespace Go.Proofs.Ytokgpaajelgakaa.Dv
open Go.ChangeShapes Go.WideShapes Go.ChangeAt Go.RowKit
theorem cells_kids : Try.prog.cellsOf 23 = 1 := by kernel_rfl
theorem cells_term : Try.prog.cellsOf 25 = 3 := by kernel_rfl
instance instOpenTm : Inhabited (Tm × Value) := ⟨(.mk 0 0 [], .nilIface)⟩
theorem list3 {α : Type} {l : List α} (h : l.length = 3) : ∃ a b c, l = [a, b, c] := by
  match l, h with
  | [a, b, c], _ => exact ⟨a, b, c, rfl⟩
set_option maxRecDepth 100000 in
theorem open_term {H : Type} {enc : TypeId × Value → H} {w : World} {base : Nat} {sp : Nat → Bool} {hd : Bool} : ∀ (fuel : Nat) (cs : List Value) (x : DataW H × List MemPlace),
    DataW.trod enc Try.prog w base sp hd fuel 25 cs = some x → ∃ (t : Tm) (s : Value), cs = [.int .i64 t.k, .int .i64 t.i, s] ∧ t.fine ∧ Lies w t.kids s := by
  intro fuel
  induction fuel using Nat.strongRecOn with
  | _ fuel ih =>
    intro cs x h
    obtain ⟨xs, n, rfl, rfl, hl, hlen, hf⟩ := DataW.trod_struct Try.underlying25 h
    rw [cells_term] at hl
    obtain ⟨v0, v1, v2, rfl⟩ := list3 hl
    obtain ⟨y0, y1, y2, rfl⟩ := list3 hlen
    have g0 := hf 0 _ rfl
    have g1 := hf 1 _ rfl
    have g2 := hf 2 _ rfl
    simp [cells_int, cells_kids] at g0 g1 g2
    obtain ⟨k, e0, -, w0⟩ := DataW.trod_int Try.underlying3 g0
    obtain ⟨i, e1, -, w1⟩ := DataW.trod_int Try.underlying3 g1
    simp at e0 e1
    subst e0 e1
    rcases DataW.trod_slice Try.underlying23 g2 with ⟨e4, -⟩ | ⟨a, len, cap, elems, rest, n', rfl, e4, -, hb, hlc, hm, hlen', hel, -, -⟩
    · simp at e4
      subst e4
      exact ⟨.mk k i [], _, rfl, ⟨wf_I64 w0, wf_I64 w1⟩, .mk [] none 0 (fun _ => .nilIface) (Nat.le_refl _) (by decide) (fun _ h => by cases h) (fun _ h => by cases h) (fun _ h => by cases h)⟩
    · simp at e4
      subst e4
      have key : ∀ i, i < len → ∃ p : Tm × Value, p.1.fine ∧ Lies w p.1.kids p.2 ∧ ∃ b o, a = ⟨b, o, none⟩ ∧ Node w b (o + i * 3) p.1 p.2 := by
        intro i hi
        have h1 := hel i hi
        rw [cells_term, List.getElem?_eq_getElem (by omega)] at h1
        obtain ⟨cs', h2, h3⟩ := Option.bind_eq_some_iff.1 h1
        obtain ⟨t, s, rfl, hfine, hlies⟩ := ih n' (by omega) _ _ h3
        obtain ⟨-, -, hcell⟩ := World.cells?_some h2
        have hs0 : a.spot = none := by
          have h1 := hel 0 (by omega)
          rw [cells_term, List.getElem?_eq_getElem (by omega)] at h1
          obtain ⟨cs0, h2, -⟩ := Option.bind_eq_some_iff.1 h1
          obtain ⟨-, hl0, hc0⟩ := World.cells?_some h2
          have c0 := hc0 0 (by omega)
          rw [List.getElem?_eq_getElem (by omega)] at c0
          simpa [Addr.add] using World.cell?_spot c0
        obtain ⟨b, o, spot⟩ := a
        simp only at hs0
        subst hs0
        refine ⟨(t, s), hfine, hlies, b, o, rfl, ?_⟩
        have hc : ∀ q, q < 3 → w.cell? ⟨b, o + i * 3 + q, none⟩ = [Value.int .i64 t.k, .int .i64 t.i, s][q]? := fun q hq => by
          have := hcell q hq
          rwa [add_plain, add_plain] at this
        exact ⟨hc 0 (by omega), hc 1 (by omega), hc 2 (by omega)⟩
      obtain ⟨f, hf'⟩ := Go.Deep.choose_lt (α := Tm × Value) (p := fun i p => p.1.fine ∧ Lies w p.1.kids p.2 ∧ ∃ b o, a = ⟨b, o, none⟩ ∧ Node w b (o + i * 3) p.1 p.2) key
      have hl5 : ((List.range len).map fun i => (f i).1).length = len := by simp
      refine ⟨.mk k i ((List.range len).map fun i => (f i).1), _, rfl, ⟨wf_I64 w0, wf_I64 w1⟩, ?_⟩
      have := Lies.mk (w := w) ((List.range len).map fun i => (f i).1) (some a) cap (fun i => (f i).2) (by simpa using hlc) hm
        (fun x hx => by
          obtain ⟨i, hi, rfl⟩ := List.mem_map.1 hx
          exact (hf' i (List.mem_range.1 hi)).1)
        (fun i hi => by
          obtain ⟨b, o, ha, hn⟩ := (hf' i (by simpa using hi)).2.2
          exact ⟨b, o, by rw [ha], by simpa using hn⟩)
        (fun i hi => by simpa using (hf' i (by simpa using hi)).2.1)
      rwa [hl5] at this
set_option maxRecDepth 100000 in
theorem open_arg {H : Type} {enc : TypeId × Value → H} {W : World} {r : Reach} {b0 base : Nat} {sp : Nat → Bool} {hd : Bool} {v : Value} {d : DataW H} {p : List MemPlace} (hv : Value.okWide Try.prog W r b0 25 v)
    (h : DataW.Trod enc Try.prog W base sp hd 25 v d p) : ∃ (t : Tm) (s : Value), Lies W t.kids s ∧ v = tv t s := by
  obtain ⟨cs, rfl, hsz⟩ := okWide_struct Try.underlying25 hv
  obtain ⟨fuel, hf⟩ := h
  obtain ⟨t, s, hcs, -, hl⟩ := open_term fuel _ _ hf
  refine ⟨t, s, hl, ?_⟩
  have : cs.toList = [.int .i64 t.k, .int .i64 t.i, s] := by simpa [Value.cells] using hcs
  rw [show cs = #[.int .i64 t.k, .int .i64 t.i, s] from by cases cs; simp_all]
end Go.Proofs.Ytokgpaajelgakaa.Dv
namespace Go.Proofs.Ytokgpaajelgakaa
open Go.ChangeShapes Go.WideShapes
def code (l : List Nat) : List Char := l.map Char.ofNat
def joinN : List (List Nat) → List Nat
  | [] => []
  | [a] => a
  | a :: b :: r => a ++ 32 :: joinN (b :: r)
theorem words_one : ∀ a : List Nat, (a.all fun n => Char.ofNat n != Char.ofNat 32) = true → wordsSigns (code a) = [code a]
  | [], _ => rfl
  | n :: a, h => by
    simp only [List.all_cons, Bool.and_eq_true, bne_iff_ne] at h
    have ih := words_one a h.2
    show wordsSigns (Char.ofNat n :: code a) = _
    rw [wordsSigns]
    · rw [ih]; rfl
    · exact h.1
theorem words_more : ∀ (a : List Nat) (r : List Char), (a.all fun n => Char.ofNat n != Char.ofNat 32) = true → wordsSigns (code a ++ Char.ofNat 32 :: r) = code a :: wordsSigns r
  | [], r, _ => by
    show wordsSigns (Char.ofNat 32 :: r) = _
    rw [show Char.ofNat 32 = _ from rfl, wordsSigns]; rfl
  | n :: a, r, h => by
    simp only [List.all_cons, Bool.and_eq_true, bne_iff_ne] at h
    have ih := words_more a r h.2
    show wordsSigns (Char.ofNat n :: (code a ++ Char.ofNat 32 :: r)) = _
    rw [wordsSigns]
    · rw [ih]; rfl
    · exact h.1
theorem words_join : ∀ ws : List (List Nat), ws ≠ [] → (ws.all fun w => w.all fun n => Char.ofNat n != Char.ofNat 32) = true → wordsSigns (code (joinN ws)) = ws.map code
  | [], h, _ => absurd rfl h
  | [a], _, h => by simp only [List.all_cons, List.all_nil, Bool.and_true] at h; exact words_one a h
  | a :: b :: r, _, h => by
    have h' := h
    rw [List.all_cons, Bool.and_eq_true] at h'
    have ih := words_join (b :: r) (by simp) h'.2
    show wordsSigns (code (a ++ 32 :: joinN (b :: r))) = _
    rw [show code (a ++ 32 :: joinN (b :: r)) = code a ++ Char.ofNat 32 :: code (joinN (b :: r)) from by simp [code], words_more a _ h'.1, ih]; rfl
def cutWords : List (List Nat) := [[104, 97, 114, 110, 101, 115, 115],
  [102, 53, 48, 101, 53, 50, 99, 100, 53, 98, 50, 97, 54, 56, 54, 52, 100, 97, 97, 97, 100, 97, 49, 99, 56, 56, 50, 48, 49, 99, 99, 98, 53, 54, 99, 48, 97, 54, 50, 101, 52, 48, 57, 52, 100, 51, 53, 51, 54, 99, 53, 99, 51, 101, 98, 100, 100, 50, 56, 98, 56, 51, 102, 57],
  [99, 117, 116],
  [97, 116],
  [116, 114, 97, 110, 115, 104, 105, 112, 47, 116, 114, 97, 110, 115, 104, 105, 112, 108, 97, 119, 49, 54, 46, 67, 104, 101, 99, 107, 77, 111, 114, 101],
  [116, 114, 97, 110, 115, 104, 105, 112, 47, 116, 114, 97, 110, 115, 104, 105, 112, 108, 97, 119, 49, 54, 46, 67, 104, 101, 99, 107, 76, 101, 118, 101, 108, 115],
  [116, 114, 97, 110, 115, 104, 105, 112, 47, 116, 114, 97, 110, 115, 104, 105, 112, 108, 97, 119, 49, 54, 46, 67, 104, 101, 99, 107, 80, 97, 114, 116, 115],
  [116, 114, 97, 110, 115, 104, 105, 112, 47, 116, 114, 97, 110, 115, 104, 105, 112, 108, 97, 119, 49, 54, 46, 67, 104, 101, 99, 107, 70, 97, 117, 108, 116, 115]]
set_option maxRecDepth 100000 in
theorem cut_words : wordsSigns Try.prog.initOrder.toList = cutWords.map code := by
  have h : Try.prog.initOrder.toList = code (joinN cutWords) := by
    show (String.ofList (code (joinN cutWords))).toList = _
    exact String.toList_ofList
  rw [h]
  exact words_join cutWords (by simp [cutWords]) (by decide +kernel)
theorem cut_behind : behindMainWord (cutWords.map code) = code [99, 117, 116] :: cutWords.tail.tail.tail.map code := by kernel_rfl
theorem cut_lifts : stripLifts liftWords (code [99, 117, 116] :: cutWords.tail.tail.tail.map code) = ([], code [99, 117, 116] :: cutWords.tail.tail.tail.map code) := by kernel_rfl
theorem cut1 : (code [99, 117, 116] == "gc".toList) = false := by kernel_rfl
theorem cut2 : (code [99, 117, 116] == "spec".toList) = false := by kernel_rfl
theorem cut3 : (code [99, 117, 116] == "cut".toList) = true := by kernel_rfl
theorem cut_all : behindMainWord (wordsSigns Try.prog.initOrder.toList) = code [99, 117, 116] :: cutWords.tail.tail.tail.map code := by rw [cut_words, cut_behind]
theorem make_of (P : Program) {c : List Char} {rest : List (List Char)} (h : behindMainWord (wordsSigns P.initOrder.toList) = c :: rest) (h1 : (c == "gc".toList) = false) (h2 : (c == "spec".toList) = false) (h3 : (c == "cut".toList) = true) : P.make = some .cut := by
  unfold Program.make; rw [h]
  simp only [h1, h2, h3, Bool.or_self, Bool.false_eq_true, if_false, Bool.true_or, if_true]
theorem mayEnter_of (P : Program) {c : List Char} {rest : List (List Char)} (h : behindMainWord (wordsSigns P.initOrder.toList) = c :: rest) (h3 : ((stripLifts liftWords (c :: rest)).2.head? == some "cut".toList) = true)
    (h4 : (stripLifts liftWords (c :: rest)).1 = []) (h5 : P.laysLater = false) (h6 : P.bearsReflect = false) (h7 : P.doorFits [] = true) : P.mayEnter = true := by
  unfold Program.mayEnter; rw [h]
  refine Bool.or_eq_true_iff.2 (Or.inr ?_)
  rw [h3, h4, h5, h6, h7]; rfl
theorem row_make : Try.prog.make = some .cut := make_of Try.prog cut_all cut1 cut2 cut3
theorem row_mayEnter : Try.prog.mayEnter = true := mayEnter_of Try.prog cut_all (by rw [cut_lifts]; kernel_rfl) (by rw [cut_lifts]) (by kernel_rfl) (by kernel_rfl) (by kernel_rfl)
theorem row_lifts : Try.prog.liftsFinal = false := by unfold Program.liftsFinal Program.headLifts; rw [cut_all, cut_lifts]; kernel_rfl
end Go.Proofs.Ytokgpaajelgakaa
namespace Go.Proofs.Ytokgpaajelgakaa.lawCheckFaults
open Go.ChangeShapes Go.WideShapes Go.ChangeAt Go.RowKit
set_option maxRecDepth 100000 in
theorem lifted (os : Os) (started : os.Started) (H : Type) (enc : TypeId × Value → H) :
    ReturnsInHanded {} Try.checked os 6 .any (Rows.checkFaultsSpec.pre6 enc Try.prog Try.f6 Rows.checkFaultsRow.domain false) (Rows.checkFaultsSpec.post enc Try.prog Try.f6 false true false false) := by
  refine returnsInHanded_of_change (C := Try.checked) own started (by kernel_rfl) Try.func6
    (ChangeSpec.witness6 (enc := enc) (C := Try.checked) false ⟨#[], #[.slice none 0 0, .agg #[.int .i64 0, .int .i64 0, .slice none 0 0]], []⟩ 8 (by kernel_rfl) (by kernel_rfl) (by kernel_rfl) (by kernel_rfl)) ?_
  intro W base args ds gs before hval0 hW hcnd _
  have hval : ∀ (j : Nat) t v, Try.f6.params[j]? = some t → args[j]? = some v → Value.okWide Try.prog W .any base t v := hval0
  have hW' := hW
  obtain ⟨p, q, hA0, hV, rfl, hfz, hnd⟩ := hW
  have hA : DataW.TrodAll enc Try.prog W 0 (fun _ => true) true Try.f6.params.toList args.toList ds p := hA0
  rw [Try.params6] at hA hval
  obtain ⟨v0, vs0, d0, ds0, p0, q0, hargs0, rfl, rfl, h0, r0⟩ := trodAll_cons hA
  obtain ⟨v1, vs1, d1, ds1, p1, q1, hargs1, rfl, rfl, h1, r1⟩ := trodAll_cons r0
  obtain ⟨rfl, rfl, rfl⟩ := trodAll_nil r1
  obtain rfl : args = #[v0, v1] := by cases args; simp_all
  obtain ⟨rfl, rfl⟩ := trodVars_none hV
  have h0k := h0
  have hlt0 : ∀ x ∈ p0, x.block < W.heap.size := fun x hx => by have := hW'.lt x (by simp [hx]); simpa using this
  obtain ⟨l0, hl0⟩ := open_argE (hval 0 22 v0 rfl rfl) h0
  have h1k := h1
  have hlt1 : ∀ x ∈ p1, x.block < W.heap.size := fun x hx => by have := hW'.lt x (by simp [hx]); simpa using this
  obtain ⟨t1, s1, hl1, hv1⟩ := Dv.open_arg (hval 1 25 v1 rfl rfl) h1
  subst hv1
  clear hA0 hval0
  simp only [List.append_nil] at hW'
  refine (Ck.checkFaults_any l0 t1 W _ s1 hl0 hl1).mono fun e W' ⟨he, hb⟩ => ?_
  subst he
  exact ⟨_, rfl, _, _, _, [], _, [], hW', trodAll_cons_mk (shut_bool Try.underlying4 _) trodAll_mk0, (trodAll_cons_mk (Below.trod laidOut (by kernel_rfl) (of_decide_eq_true (by kernel_rfl)) h0k hb hlt0) (trodAll_cons_mk (Below.trod laidOut (by kernel_rfl) (of_decide_eq_true (by kernel_rfl)) h1k hb hlt1) trodAll_mk0)), rfl, hb.frame _, fun h => by cases h⟩
theorem closed : joinedFacts Try.prog 6 Try.f6 Rows.checkFaultsSpec Rows.checkFaultsRow = true := by
  unfold joinedFacts
  rw [row_mayEnter, row_lifts, row_make]
  kernel_rfl
theorem proved : Rows.CheckFaultsSaid :=
  OpenClaim.holds_of_wide 6 Try.f6 rfl rfl rfl rfl rfl rfl rfl ⟨rfl, rfl, rfl, rfl, rfl⟩ rfl rfl rfl rfl rfl (by kernel_rfl) Try.func6 closed
    (of_decide_eq_true (by kernel_rfl)) (by unfold Func.isWrapper; first | (rw [if_pos (by decide +kernel)]; kernel_rfl) | (rw [if_neg (by decide +kernel)]; exact ⟨rfl, rfl⟩))
    (fun os started H enc _ => lifted os started H enc)
#print axioms proved
end Go.Proofs.Ytokgpaajelgakaa.lawCheckFaults