/-
  CheckLevels holds: for every input the call returns true, and the arguments read as before. No condition.
-/
import Derived.Test.YtgnllglbopaheaaRows
import Derived.WalkKit
import Derived.Lib.Hide
import Derived.KernelRfl
import Derived.Deep.RegionWith
import Derived.Deep.RegionHeld3
import Derived.Deep.AppendLies
import Derived.Laws.Rows
import Derived.Laws.IdiomCopy
import Derived.Deep.Slices
import Derived.Lib.QuietBelow
import Derived.StillTailTactics
import Derived.BigQuiet
import Derived.IntWalk
import Derived.OwnWalk
import Derived.Deep.RegionLaw
import Derived.Deep.QuietTactic
import Derived.Deep.LoopGhost
import Derived.Deep.DeepCutAuto
import Derived.Deep.MidRow
import Derived.OrdersHeld
import Derived.Laws.Tables
import Derived.Laws.CopyOwn
import Derived.Laws.CopyRow
import Derived.Maps.AppendAt
import Derived.Lib.Builder
import Derived.Shelf.Spec.SlicesInsertGrow
import Derived.Below
import Derived.Lib.MinMax
import Derived.Deep.RegionHeld
import Derived.Deep.Upon
import Derived.ArgAppend
import Derived.Laws.EntriesVeiled
import GoSem.Core.Float
import Derived.ProofKit
import Derived.LoopTactic
import Derived.Laws.Cover2
import Derived.Laws.FloatArith
import Derived.Laws.Externs
import Derived.RowKit
import Derived.Deep.Cut
import Derived.Deep.CutBlock
import Derived.OpenShut
import Derived.Carry
import Derived.ChangeSlices
import Derived.JoinedOf
import Derived.Test.YtgnllglbopaheaaCheckLevelsQ6
namespace Go.Proofs.Ytgnllglbopaheaa.Ck
open Go Go.RowKit
open Se (ofB Sml sizeJ zJ)
def GivesTP (P:Nat→Prop) (x:CR) (w:World) (e:Ending) (w':World):Prop:=Kept w w'∧match x with
 | .ok j=>∃ su sv sa,e=.returned (.tuple #[jv j su sv sa,.int .i64 0,.slice none 0 0])∧j.fine∧LiesQ w' (fun b=>P b∨w.heap.size≤b) j.u.kids su∧LiesQ w' (fun b=>P b∨w.heap.size≤b) j.v.kids sv∧LiesQ w' (fun b=>P b∨w.heap.size≤b) j.a.kids sa
 | .error (er,q)=>∃ pv,e=.returned (.tuple #[.agg zAgg,.int .i64 er,pv])∧RowI w.heap.size w' pv q
abbrev GivesTQ (N:Nat):=GivesTP (fun b=>b<N)
def GivesT (x:CR) (w:World) (e:Ending) (w':World):Prop:=Kept w w'∧match x with
 | .ok j=>∃ su sv sa,e=.returned (.tuple #[jv j su sv sa,.int .i64 0,.slice none 0 0])∧j.fine∧JLies w' j su sv sa
 | .error (er,q)=>∃ pv,e=.returned (.tuple #[.agg zAgg,.int .i64 er,pv])∧LiesI w' q pv
theorem RowI.lies {N0:Nat} {w:World} {pv:Value} {p:List Int} (h:RowI N0 w pv p):LiesI w p pv:=by
 rcases h with ⟨rfl,rfl⟩ | ⟨g,cap,cur,rfl,-,hh,h1,h2,h3,h4,-⟩
 ·exact⟨none,0,rfl,Nat.le_refl _,by decide,fun _ h=>by cases h⟩
 ·refine⟨_,cap,rfl,h1,h2,fun i hi=>⟨g,0,rfl,?_⟩⟩
  rw [Lib.cell_of_heap hh,Nat.zero_add]
  have:=congrArg (fun l=>l[i]?) h4
  simp only [List.getElem?_take,if_pos hi,List.getElem?_map,List.getElem?_eq_getElem hi,Option.map_some] at this
  simpa using this
theorem fresh_any {w W:World} {T:TypeId} {old new:Array Value} (hW:(w.alloc (.cells old T)).setRow w.heap.size new=W):Kept w W∧W.heap[w.heap.size]? =some (Obj.cells new T (0,0))∧W.heap.size=w.heap.size+1 :=
 ⟨setRow_kept hW (((Below.refl w.heap.size w).alloc (Nat.le_refl _) _):Kept w _) (Nat.le_refl _),by subst hW;exact setRow_heap _ _ _ _ _ _ (alloc_new _ _),by subst hW;simp⟩
theorem rowI_set {N0:Nat} {w' W:World} {g:Nat} {old new:Array Value} {pv:Value} {p:List Int} (hW:w'.setRow g new=W) (h:w'.heap[g]? =some (Obj.cells old 40 (0,0))) (hr:RowI N0 w' pv p):RowI N0 W pv p:=by
 subst hW
 exact hr.same fun b _ hb=>setRow_other w' g b _ fun e=>by subst e;exact not_row h (by decide) hb
def ckr_0:Oper:={dst:=some 31,op:=Go.Op.build 40 #[],type:=40,pos := "check.go:23",after:=#[],guard:=none}
def ckr_1:Oper:={dst:=some 32,op:=Go.Op.move (Go.Operand.tmp 11),type:=30,pos := "check.go:23",after:=#[{on:=4,ground:=Go.Ground.gcOnly Go.Departure.lateStores}],guard:=none}
def ckr_2:Oper:={dst:=some 33,op:=Go.Op.fieldAddr 52 (Go.Operand.tmp 9) 1,type:=0,pos := "check.go:23",after:=#[{on:=5,ground:=Go.Ground.gcOnly Go.Departure.lateStores}],guard:=none}
def ckr_3:Oper:={dst:=some 34,op:=Go.Op.load 31 (Go.Operand.tmp 33),type:=31,pos := "check.go:23",after:=#[{on:=2,ground:=Go.Ground.data},{on:=5,ground:=Go.Ground.gcOnly Go.Departure.lateStores}],guard:=none}
def ckr_4:Oper:={dst:=none,op:=Go.Op.store 40 (Go.Operand.tmp 6) (Go.Operand.tmp 31),type:=0,pos := "check.go:23",after:=#[{on:=0,ground:=Go.Ground.data},{on:=0,ground:=Go.Ground.phase},{on:=1,ground:=Go.Ground.textOnly Go.Departure.lateStores},{on:=2,ground:=Go.Ground.textOnly Go.Departure.lateStores},{on:=3,ground:=Go.Ground.textOnly Go.Departure.lateStores}],guard:=none}
def ckr_5:Oper:={dst:=some 7,op:=Go.Op.assign (Go.Operand.tmp 32),type:=30,pos := "check.go:23",after:=#[{on:=1,ground:=Go.Ground.data},{on:=4,ground:=Go.Ground.chain},{on:=0,ground:=Go.Ground.phase},{on:=1,ground:=Go.Ground.phase},{on:=2,ground:=Go.Ground.textOnly Go.Departure.lateStores},{on:=3,ground:=Go.Ground.textOnly Go.Departure.lateStores},{on:=4,ground:=Go.Ground.phase}],guard:=none}
def ckr_6:Oper:={dst:=some 8,op:=Go.Op.assign (Go.Operand.tmp 34),type:=31,pos := "check.go:23",after:=#[{on:=3,ground:=Go.Ground.data},{on:=5,ground:=Go.Ground.chain},{on:=0,ground:=Go.Ground.phase},{on:=1,ground:=Go.Ground.phase},{on:=2,ground:=Go.Ground.phase},{on:=3,ground:=Go.Ground.phase},{on:=4,ground:=Go.Ground.phase},{on:=5,ground:=Go.Ground.phase}],guard:=none}
set_option maxRecDepth 20000 in
set_option maxHeartbeats 8000000 in
theorem ckJudgeP_any (P:Nat→Prop) (m:Nat) (hm:Mild m) (d:Dv.Tm) (c:List En) (w0 w:World) (hk0:Kept w0 w) (sc s:Value) (hlc:Se.LiesEQ w0 P c sc) (hl:Dv.Lies w0 d.kids s) (hcs:c.length+d.size≤101) (hsc:Smc c) :
 Calls Try.prog 8 #[sc,Dv.tv d s,.float .f64 m] w (GivesTP P (judgeT m c d) w):=by
 obtain⟨a,cap,S,rfl,hc,hmx,-,-,-⟩:=hl.out
 obtain⟨dj,dj1,dj2⟩:=under_of 40 (by kernel_rfl)
 unfold Dv.tv
 have HL:=Lib.hid hl
 have HC:=Lib.hid hlc
 have HK0:=Lib.hid hk0
 have hz0:=hk0.size
 clear hl hlc hk0
 go_enter Try.func8,Try.ntmps8
 go_upto_region 1 with fail
 obtain⟨V,hV⟩:∃ V,(w.alloc (.cells #[.int .i64 d.k,.int .i64 d.i,.slice a d.kids.length cap] 24)).alloc (.cells zAgg 40)=V:=⟨_,rfl⟩
 obtain⟨hkV,hb0,hb1,hsV⟩:=alloc2 hV
 rw [hV]
 have HKV:=Lib.hid hkV
 have HB1:=Lib.hid hb1
 have HSV:=Lib.hid hsV
 have y0:V.cell? ⟨w.heap.size,0,none⟩=some (.int .i64 d.k):=by rw [Lib.cell_of_heap hb0];rfl
 have y1:V.cell? ⟨w.heap.size,1,none⟩=some (.int .i64 d.i):=by rw [Lib.cell_of_heap hb0];rfl
 have y2:V.cell? ⟨w.heap.size,2,none⟩=some (.slice a d.kids.length cap):=by rw [Lib.cell_of_heap hb0];rfl
 have HB0:=Lib.hid hb0
 clear hV hkV hb0 hb1 hsV
 cases hr:d.rightB with
 | false =>
  as_aux_lemma =>
   have HJ:=Lib.hid (show judgeT m c d=.error (1,[]) by unfold judgeT;rw [hr];rfl)
   have HR:=Lib.hid hr
   clear hr
   go_wp2_with fail
   refine(Dv.dright_any d _ _ (HL.out.keep (kept_trans HK0.out HKV.out))).mono ?_
   rintro e w1 ⟨rfl,hk1⟩
   rw [HR.out]
   have HK1:=Lib.hid (kept_trans HKV.out hk1)
   have HB1n:=Lib.hid ((Below.block hk1 _ (by have:=HSV.out;omega)).trans HB1.out)
   clear y0 y1 y2 hk1
   go_wp2_with (refine stop_store 40 (.tmp 6) (.tmp 20) rfl ?_)
   intro _
   refine wpList_store_part_n (by rfl) 40 (.tmp 6) (.tmp 20) rfl (w.heap.size+1) 0 zAgg (by rfl) (by rfl) 40 (by kernel_rfl) (row_ok rfl) ?_
   intro W hW
   subst hW
   refine⟨_,zAgg,HB1n.out,rfl,Nat.le_of_ble_eq_true rfl,?_⟩
   intro W2 hW2
   go_wp2_with fail
   (try simp only [Exit.inBlock,Exit.then])
   refine bodyPost_ret (results_cell_tmp2 rfl _ _ (w.heap.size+1) 40 _ _ dj rfl (setRow_new hW2 HB1n.out) dj1 (by cases dj<;>first | rfl | exact dj2) (by kernel_rfl)) rfl ?_
   rw [HJ.out]
   exact⟨setRow_kept hW2 HK1.out (by omega),_,rfl,Or.inl ⟨rfl,rfl⟩⟩
 | true =>
  have HR:=Lib.hid hr
  cases hp:purC c with
  | false =>
   as_aux_lemma =>
    have HJ:=Lib.hid (show judgeT m c d=.error (1,[]) by unfold judgeT;rw [hr,hp];rfl)
    have HP:=Lib.hid hp
    clear hr hp
    go_wp2_with fail
    refine(Dv.dright_any d _ _ (HL.out.keep (kept_trans HK0.out HKV.out))).mono ?_
    rintro e w1 ⟨rfl,hk1⟩
    rw [HR.out]
    have HK1:=Lib.hid (kept_trans HKV.out hk1)
    have HB1n:=Lib.hid ((Below.block hk1 _ (by have:=HSV.out;omega)).trans HB1.out)
    clear y0 y1 y2 hk1
    go_wp2_with fail
    refine(ckpure_any c _ _ ((Se.liesEQ_lies HC.out).keep (kept_trans HK0.out HK1.out))).mono ?_
    rintro e w2 ⟨rfl,hk2⟩
    rw [HP.out]
    have HK2:=Lib.hid (kept_trans HK1.out hk2)
    have HB2n:=Lib.hid ((Below.block hk2 _ (Array.getElem?_eq_some_iff.1 HB1n.out).1).trans HB1n.out)
    clear hk2
    go_wp2_with (refine stop_store 40 (.tmp 6) (.tmp 20) rfl ?_)
    intro _
    refine wpList_store_part_n (by rfl) 40 (.tmp 6) (.tmp 20) rfl (w.heap.size+1) 0 zAgg (by rfl) (by rfl) 40 (by kernel_rfl) (row_ok rfl) ?_
    intro W hW
    subst hW
    refine⟨_,zAgg,HB2n.out,rfl,Nat.le_of_ble_eq_true rfl,?_⟩
    intro W2 hW2
    go_wp2_with fail
    (try simp only [Exit.inBlock,Exit.then])
    refine bodyPost_ret (results_cell_tmp2 rfl _ _ (w.heap.size+1) 40 _ _ dj rfl (setRow_new hW2 HB2n.out) dj1 (by cases dj<;>first | rfl | exact dj2) (by kernel_rfl)) rfl ?_
    rw [HJ.out]
    exact⟨setRow_kept hW2 HK2.out (by omega),_,rfl,Or.inl ⟨rfl,rfl⟩⟩
  | true =>
   have HJ:=Lib.hid (show judgeT m c d=judgeB m c d by unfold judgeT;rw [hr,hp];rfl)
   have hfd:=dright_fine hr
   have HP:=Lib.hid hp
   clear hr hp
   go_wp2_with fail
   refine(Dv.dright_any d _ _ (HL.out.keep (kept_trans HK0.out HKV.out))).mono ?_
   rintro e w1 ⟨rfl,hk1⟩
   rw [HR.out]
   have HK1:=Lib.hid (kept_trans HKV.out hk1)
   have HB1n:=Lib.hid ((Below.block hk1 _ (by have:=HSV.out;omega)).trans HB1.out)
   have HB0n:=Lib.hid ((Below.block hk1 _ (Array.getElem?_eq_some_iff.1 HB0.out).1).trans HB0.out)
   clear y0 y1 y2 hk1
   go_wp2_with fail
   refine(ckpure_any c _ _ ((Se.liesEQ_lies HC.out).keep (kept_trans HK0.out HK1.out))).mono ?_
   rintro e w2 ⟨rfl,hk2⟩
   rw [HP.out]
   have HK2:=Lib.hid (kept_trans HK1.out hk2)
   have HB2n:=Lib.hid ((Below.block hk2 _ (Array.getElem?_eq_some_iff.1 HB1n.out).1).trans HB1n.out)
   have HB3n:=Lib.hid ((Below.block hk2 _ (Array.getElem?_eq_some_iff.1 HB0n.out).1).trans HB0n.out)
   clear hk2
   go_wp2_with (refine stop_store 52 (.tmp 9) (.tmp 22) rfl ?_)
   intro _
   refine wpList_store_part_n (by rfl) 52 (.tmp 9) (.tmp 22) rfl (w2.heap.size) 0 #[.float .f64 m,.slice none 0 0] (by rfl) (by rfl) 52 (by kernel_rfl) (row_ok rfl) ?_
   intro W hW
   subst hW
   refine⟨_,#[.float .f64 m,.slice none 0 0],alloc_new _ _,rfl,Nat.le_of_ble_eq_true rfl,?_⟩
   intro W3 hW3
   obtain⟨hk3,hb3,hs3⟩:=fresh_any hW3
   obtain⟨K,hK⟩:∃ K,w2.heap.size=K:=⟨_,rfl⟩
   rw [hK] at hb3 hs3
   rw [hK]
   have HK3:=Lib.hid (kept_trans HK2.out hk3)
   have HR3:=Lib.hid ((Below.block hk3 _ (Array.getElem?_eq_some_iff.1 HB2n.out).1).trans HB2n.out)
   have hb0':=(Below.block hk3 _ (Array.getElem?_eq_some_iff.1 HB3n.out).1).trans HB3n.out
   have y0:W3.cell? ⟨w.heap.size,0,none⟩=some (.int .i64 d.k):=by rw [Lib.cell_of_heap hb0'];rfl
   have y1:W3.cell? ⟨w.heap.size,1,none⟩=some (.int .i64 d.i):=by rw [Lib.cell_of_heap hb0'];rfl
   have y2:W3.cell? ⟨w.heap.size,2,none⟩=some (.slice a d.kids.length cap):=by rw [Lib.cell_of_heap hb0'];rfl
   have hwK:w.heap.size+1<K:=by have:=(Array.getElem?_eq_some_iff.1 HB2n.out).1;omega
   have HST:=Lib.hid (show St w.heap.size K m (.slice none 0 0) [] W3 from⟨hb3,by omega,Or.inl ⟨rfl,rfl⟩⟩)
   have HCALL:=Lib.hid (ckjudge_any w.heap.size K m hm d c W3 sc (.slice a d.kids.length cap) (.slice none 0 0) [] (fun b=>P b∧b<w0.heap.size) (Se.liesEQ_keep HC.out (fun b _ hb=>(kept_trans HK0.out HK3.out).block b hb) (fun b h hlt=>⟨h,hlt⟩)) (HL.out.keep (kept_trans HK0.out HK3.out)) hfd HST.out hcs hsc (by simp;omega))
   clear hb0' hW3 hk3 hb3 hs3 hK
   go_wp2_with fail
   cases hx:judgeB m c d with
   | error ea =>
    obtain⟨er,q⟩:=ea
    have her:=judgeB_err m _ _ hx
    have HCE:=HCALL.out
    rw [hx] at HCE
    have HCE2:=Lib.hid HCE
    have HX:=Lib.hid hx
    clear HCALL HCE hx
    refine HCE2.out.mono ?_
    rintro e w4 ⟨hf4,pv4,rfl,hs4⟩
    obtain⟨ap,cp,he,hpc,hpm⟩:=hs4.row.slc
    subst he
    have HK4:=Lib.hid ((((Fr.of HK3.out:Fr w.heap.size K w W3).trans hf4).kept rfl):Kept w w4)
    have hr4:=(hf4.block (w.heap.size+1) (Array.getElem?_eq_some_iff.1 HR3.out).1 (Or.inr ⟨by omega,not_row HR3.out (by decide)⟩)).trans HR3.out
    have HST4:=Lib.hid hs4
    have HR4:=Lib.hid hr4
    clear hs4 hr4 HCE2
    rcases her with her | her
    ·obtain rfl:er=3:=her
     go_wp2_with (refine stop_store 40 (.tmp 10) (.tmp 27) rfl ?_)
     intro _
     refine wpList_store_part_n (by rfl) 40 (.tmp 10) (.tmp 27) rfl (w4.heap.size) 0 zAgg (by rfl) (by rfl) 40 (by kernel_rfl) (row_ok rfl) ?_
     intro W hW
     subst hW
     refine⟨_,zAgg,alloc_new _ _,rfl,Nat.le_of_ble_eq_true rfl,?_⟩
     intro w5 hwn
     have hfr:=fresh_judg hwn
     clear hwn
     have hk5:=hfr.1
     go_upto_region 6 with fail
     have HST5:=Lib.hid (HST4.out.later hk5)
     have HR5:=Lib.hid ((Below.block hk5 _ (Array.getElem?_eq_some_iff.1 HR4.out).1).trans HR4.out)
     have HK5:=Lib.hid (kept_trans HK4.out hk5)
     clear hk5 hfr
     have k1:=HST5.out.cells.2
     have HNK:=Lib.hid (show K≠w.heap.size+1 by omega)
     have HK5D:=Lib.hid (show Kept w w5.drew from⟨HK5.out.os,HK5.out.tape,HK5.out.output,HK5.out.size,fun b hb=>HK5.out.block b hb⟩)
     refine wp_region_held_drew (S:=fun w'=>w'.cell? ⟨K,1,none⟩=some (.slice ap ([]++q).length cp)∧w'.heap[w.heap.size+1]? =some (Obj.cells zAgg 40 (0,0))) (by kernel_rfl) ?_ (fun hHeld=>?_)
     ·(try dsimp only)
      (first | exact⟨(by rw [←hW2];exact(cell_setRow_other _ _ _ _ (show _≠_ from HNK.out)).trans k1),setRow_new hW2 HR5.out⟩ | exact⟨k1,HR5.out⟩)
     refine take_at 0 31 ckr_0 (v:=?_) (Or.inl ⟨by rfl,?_⟩) ?_
     rotate_left 1
     ·((intro w hSw;(try dsimp only at hSw);unfold ckr_0;go_simp)<;>with_reducible rfl)
     (try simp only [Act.put,List.setIfInBounds_toArray,List.set_cons_zero,List.set_cons_succ])
     refine take_at 1 32 ckr_1 (v:=?_) (Or.inl ⟨by rfl,?_⟩) ?_
     rotate_left 1
     ·((intro w hSw;(try dsimp only at hSw);unfold ckr_1;go_simp)<;>with_reducible rfl)
     (try simp only [Act.put,List.setIfInBounds_toArray,List.set_cons_zero,List.set_cons_succ])
     refine take_at 2 33 ckr_2 (v:=?_) (Or.inl ⟨by rfl,?_⟩) ?_
     rotate_left 1
     ·((intro w hSw;(try dsimp only at hSw);unfold ckr_2;go_simp)<;>with_reducible rfl)
     (try simp only [Act.put,List.setIfInBounds_toArray,List.set_cons_zero,List.set_cons_succ])
     refine take_at 3 34 ckr_3 (v:=?_) (Or.inl ⟨by rfl,?_⟩) ?_
     rotate_left 1
     ·((intro w hSw;(try dsimp only at hSw);obtain⟨hS0,hS1⟩:=hSw;unfold ckr_3;go_simp)<;>with_reducible rfl)
     (try simp only [Act.put,List.setIfInBounds_toArray,List.set_cons_zero,List.set_cons_succ])
     refine wpAnyH_ready (rs:=[4]) (by kernel_rfl) (by simp) ?_
     refine AllReadyH.cons (o:=ckr_4) rfl (fun K hK=>?_) ?_
     ·unfold ckr_4
      refine step_store_part rfl 40 (.tmp 6) (.tmp 31) rfl (w.heap.size+1) 0 zAgg rfl rfl 40 (by kernel_rfl) (row_ok rfl) _ zAgg HR5.out rfl (Nat.le_of_ble_eq_true rfl) ?_
      intro W2 hW2
      refine hK.out _ _ ?_ (fun hHeld=>?_)
      ·(try dsimp only)
       (first | exact⟨(by rw [←hW2];exact(cell_setRow_other _ _ _ _ (show _≠_ from HNK.out)).trans k1),setRow_new hW2 HR5.out⟩ | exact⟨k1,HR5.out⟩)
      clear hK K
      (try simp only [Act.put])
      refine take_at 5 7 ckr_5 (v:=?_) (Or.inl ⟨by rfl,?_⟩) ?_
      rotate_left 1
      ·((intro w hSw;(try dsimp only at hSw);unfold ckr_5;go_simp)<;>with_reducible rfl)
      (try simp only [Act.put,List.setIfInBounds_toArray,List.set_cons_zero,List.set_cons_succ])
      refine take_at 6 8 ckr_6 (v:=?_) (Or.inl ⟨by rfl,?_⟩) ?_
      rotate_left 1
      ·((intro w hSw;(try dsimp only at hSw);unfold ckr_6;go_simp)<;>with_reducible rfl)
      (try simp only [Act.put,List.setIfInBounds_toArray,List.set_cons_zero,List.set_cons_succ])
      refine wpAnyH_done (by kernel_rfl) ?_ _
      clear hHeld
      go_wp2_with fail
      (try simp only [Exit.inBlock,Exit.then])
      refine bodyPost_ret (results_cell_tmp2 rfl _ _ (w.heap.size+1) 40 _ _ dj rfl (setRow_new hW2 HR5.out) dj1 (by cases dj<;>first | rfl | exact dj2) (by kernel_rfl)) rfl ?_
      rw [HJ.out,HX.out]
      exact⟨setRow_kept hW2 HK5D.out (by omega),_,rfl,by simpa using rowI_set hW2 HR5.out HST5.out.drew.row⟩
     exact AllReadyH.nil
    ·obtain rfl:er=4:=her
     go_wp2_with (refine stop_store 40 (.tmp 10) (.tmp 27) rfl ?_)
     intro _
     refine wpList_store_part_n (by rfl) 40 (.tmp 10) (.tmp 27) rfl (w4.heap.size) 0 zAgg (by rfl) (by rfl) 40 (by kernel_rfl) (row_ok rfl) ?_
     intro W hW
     subst hW
     refine⟨_,zAgg,alloc_new _ _,rfl,Nat.le_of_ble_eq_true rfl,?_⟩
     intro w5 hwn
     have hfr:=fresh_judg hwn
     clear hwn
     have hk5:=hfr.1
     go_upto_region 6 with fail
     have HST5:=Lib.hid (HST4.out.later hk5)
     have HR5:=Lib.hid ((Below.block hk5 _ (Array.getElem?_eq_some_iff.1 HR4.out).1).trans HR4.out)
     have HK5:=Lib.hid (kept_trans HK4.out hk5)
     clear hk5 hfr
     have k1:=HST5.out.cells.2
     have HNK:=Lib.hid (show K≠w.heap.size+1 by omega)
     have HK5D:=Lib.hid (show Kept w w5.drew from⟨HK5.out.os,HK5.out.tape,HK5.out.output,HK5.out.size,fun b hb=>HK5.out.block b hb⟩)
     refine wp_region_held_drew (S:=fun w'=>w'.cell? ⟨K,1,none⟩=some (.slice ap ([]++q).length cp)∧w'.heap[w.heap.size+1]? =some (Obj.cells zAgg 40 (0,0))) (by kernel_rfl) ?_ (fun hHeld=>?_)
     ·(try dsimp only)
      (first | exact⟨(by rw [←hW2];exact(cell_setRow_other _ _ _ _ (show _≠_ from HNK.out)).trans k1),setRow_new hW2 HR5.out⟩ | exact⟨k1,HR5.out⟩)
     refine take_at 0 31 ckr_0 (v:=?_) (Or.inl ⟨by rfl,?_⟩) ?_
     rotate_left 1
     ·((intro w hSw;(try dsimp only at hSw);unfold ckr_0;go_simp)<;>with_reducible rfl)
     (try simp only [Act.put,List.setIfInBounds_toArray,List.set_cons_zero,List.set_cons_succ])
     refine take_at 1 32 ckr_1 (v:=?_) (Or.inl ⟨by rfl,?_⟩) ?_
     rotate_left 1
     ·((intro w hSw;(try dsimp only at hSw);unfold ckr_1;go_simp)<;>with_reducible rfl)
     (try simp only [Act.put,List.setIfInBounds_toArray,List.set_cons_zero,List.set_cons_succ])
     refine take_at 2 33 ckr_2 (v:=?_) (Or.inl ⟨by rfl,?_⟩) ?_
     rotate_left 1
     ·((intro w hSw;(try dsimp only at hSw);unfold ckr_2;go_simp)<;>with_reducible rfl)
     (try simp only [Act.put,List.setIfInBounds_toArray,List.set_cons_zero,List.set_cons_succ])
     refine take_at 3 34 ckr_3 (v:=?_) (Or.inl ⟨by rfl,?_⟩) ?_
     rotate_left 1
     ·((intro w hSw;(try dsimp only at hSw);obtain⟨hS0,hS1⟩:=hSw;unfold ckr_3;go_simp)<;>with_reducible rfl)
     (try simp only [Act.put,List.setIfInBounds_toArray,List.set_cons_zero,List.set_cons_succ])
     refine wpAnyH_ready (rs:=[4]) (by kernel_rfl) (by simp) ?_
     refine AllReadyH.cons (o:=ckr_4) rfl (fun K hK=>?_) ?_
     ·unfold ckr_4
      refine step_store_part rfl 40 (.tmp 6) (.tmp 31) rfl (w.heap.size+1) 0 zAgg rfl rfl 40 (by kernel_rfl) (row_ok rfl) _ zAgg HR5.out rfl (Nat.le_of_ble_eq_true rfl) ?_
      intro W2 hW2
      refine hK.out _ _ ?_ (fun hHeld=>?_)
      ·(try dsimp only)
       (first | exact⟨(by rw [←hW2];exact(cell_setRow_other _ _ _ _ (show _≠_ from HNK.out)).trans k1),setRow_new hW2 HR5.out⟩ | exact⟨k1,HR5.out⟩)
      clear hK K
      (try simp only [Act.put])
      refine take_at 5 7 ckr_5 (v:=?_) (Or.inl ⟨by rfl,?_⟩) ?_
      rotate_left 1
      ·((intro w hSw;(try dsimp only at hSw);unfold ckr_5;go_simp)<;>with_reducible rfl)
      (try simp only [Act.put,List.setIfInBounds_toArray,List.set_cons_zero,List.set_cons_succ])
      refine take_at 6 8 ckr_6 (v:=?_) (Or.inl ⟨by rfl,?_⟩) ?_
      rotate_left 1
      ·((intro w hSw;(try dsimp only at hSw);unfold ckr_6;go_simp)<;>with_reducible rfl)
      (try simp only [Act.put,List.setIfInBounds_toArray,List.set_cons_zero,List.set_cons_succ])
      refine wpAnyH_done (by kernel_rfl) ?_ _
      clear hHeld
      go_wp2_with fail
      (try simp only [Exit.inBlock,Exit.then])
      refine bodyPost_ret (results_cell_tmp2 rfl _ _ (w.heap.size+1) 40 _ _ dj rfl (setRow_new hW2 HR5.out) dj1 (by cases dj<;>first | rfl | exact dj2) (by kernel_rfl)) rfl ?_
      rw [HJ.out,HX.out]
      exact⟨setRow_kept hW2 HK5D.out (by omega),_,rfl,by simpa using rowI_set hW2 HR5.out HST5.out.drew.row⟩
     exact AllReadyH.nil
   | ok x =>
    have HCE:=HCALL.out
    rw [hx] at HCE
    have HCE2:=Lib.hid HCE
    have HX:=Lib.hid hx
    clear HCALL HCE hx
    refine HCE2.out.mono ?_
    rintro e w4 ⟨hf4,su,sv,sa,pv4,rfl,hs4,hfx,hu,hv,ha⟩
    obtain⟨au,cu,Su,rfl,-⟩:=hu.out
    obtain⟨av,cv,Sv,rfl,-⟩:=hv.out
    obtain⟨aa,ca,Sa,rfl,-⟩:=ha.out
    have HK4:=Lib.hid ((((Fr.of HK3.out:Fr w.heap.size K w W3).trans hf4).kept rfl):Kept w w4)
    have hr4:=(hf4.block (w.heap.size+1) (Array.getElem?_eq_some_iff.1 HR3.out).1 (Or.inr ⟨by omega,not_row HR3.out (by decide)⟩)).trans HR3.out
    have hsz3:K+1≤W3.heap.size:=HST.out.lt
    have hsz4:=hf4.size
    go_wp2_with (refine stop_store 40 (.tmp 10) (.tmp 27) rfl ?_)
    intro _
    refine wpList_store_part_n (by rfl) 40 (.tmp 10) (.tmp 27) rfl (w4.heap.size) 0 #[.bool x.eq,.int .i64 x.u.k,.int .i64 x.u.i,.int .i64 x.u.j,.int .i64 x.u.n,(.slice au x.u.kids.length cu),.int .i64 x.v.k,.int .i64 x.v.i,.int .i64 x.v.j,.int .i64 x.v.n,(.slice av x.v.kids.length cv),.int .i64 x.a.k,.int .i64 x.a.i,.int .i64 x.a.j,.int .i64 x.a.n,(.slice aa x.a.kids.length ca),.int .i64 x.i] (by rfl) (by rfl) 40 (by kernel_rfl) (row_ok rfl) ?_
    intro W hW
    subst hW
    refine⟨_,#[.bool x.eq,.int .i64 x.u.k,.int .i64 x.u.i,.int .i64 x.u.j,.int .i64 x.u.n,(.slice au x.u.kids.length cu),.int .i64 x.v.k,.int .i64 x.v.i,.int .i64 x.v.j,.int .i64 x.v.n,(.slice av x.v.kids.length cv),.int .i64 x.a.k,.int .i64 x.a.i,.int .i64 x.a.j,.int .i64 x.a.n,(.slice aa x.a.kids.length ca),.int .i64 x.i],alloc_new _ _,rfl,Nat.le_of_ble_eq_true rfl,?_⟩
    intro W5 hwn
    have hfr:=fresh_judg hwn
    clear hwn
    obtain⟨hk5,hb5,hs5⟩:=hfr
    obtain⟨E,hE⟩:∃ E,w4.heap.size=E:=⟨_,rfl⟩
    rw [hE] at hb5 hs5
    rw [hE]
    go_upto_region 7 with fail
    have HK5:=Lib.hid (kept_trans HK4.out hk5)
    have HR5:=Lib.hid ((Below.block hk5 _ (Array.getElem?_eq_some_iff.1 hr4).1).trans hr4)
    have HB5:=Lib.hid hb5
    have HU5:=Lib.hid (hu.later hk5)
    have HV5:=Lib.hid (hv.later hk5)
    have HA5:=Lib.hid (ha.later hk5)
    have HFX:=Lib.hid hfx
    clear hk5 hb5 hs5 hE hu hv ha hfx hs4 hf4 HCE2
    go_wp2_with (refine stop_load 40 (.tmp 10) rfl ?_)
    intro _
    refine wpList_load_part (E) (0) 40 (.tmp 10) #[.bool x.eq,.int .i64 x.u.k,.int .i64 x.u.i,.int .i64 x.u.j,.int .i64 x.u.n,(.slice au x.u.kids.length cu),.int .i64 x.v.k,.int .i64 x.v.i,.int .i64 x.v.j,.int .i64 x.v.n,(.slice av x.v.kids.length cv),.int .i64 x.a.k,.int .i64 x.a.i,.int .i64 x.a.j,.int .i64 x.a.n,(.slice aa x.a.kids.length ca),.int .i64 x.i] dj HB5.out (by rfl) rfl (by rfl) (by rfl) dj1 (by cases dj<;>first | rfl | exact dj2) (by kernel_rfl) ?_
    go_wp2_with (refine stop_store 40 (.tmp 6) (.tmp 35) rfl ?_)
    intro _
    refine wpList_store_part_n (by rfl) 40 (.tmp 6) (.tmp 35) rfl (w.heap.size+1) 0 #[.bool x.eq,.int .i64 x.u.k,.int .i64 x.u.i,.int .i64 x.u.j,.int .i64 x.u.n,(.slice au x.u.kids.length cu),.int .i64 x.v.k,.int .i64 x.v.i,.int .i64 x.v.j,.int .i64 x.v.n,(.slice av x.v.kids.length cv),.int .i64 x.a.k,.int .i64 x.a.i,.int .i64 x.a.j,.int .i64 x.a.n,(.slice aa x.a.kids.length ca),.int .i64 x.i] (by rfl) (by rfl) 40 (by kernel_rfl) (row_ok rfl) ?_
    intro W hW
    subst hW
    refine⟨_,#[.bool x.eq,.int .i64 x.u.k,.int .i64 x.u.i,.int .i64 x.u.j,.int .i64 x.u.n,(.slice au x.u.kids.length cu),.int .i64 x.v.k,.int .i64 x.v.i,.int .i64 x.v.j,.int .i64 x.v.n,(.slice av x.v.kids.length cv),.int .i64 x.a.k,.int .i64 x.a.i,.int .i64 x.a.j,.int .i64 x.a.n,(.slice aa x.a.kids.length ca),.int .i64 x.i],HR5.out,rfl,Nat.le_of_ble_eq_true rfl,?_⟩
    intro W2 hW2
    go_wp2_with fail
    (try simp only [Exit.inBlock,Exit.then])
    refine bodyPost_ret (results_cell_tmp2 rfl _ _ (w.heap.size+1) 40 _ _ dj rfl (setRow_new hW2 HR5.out) dj1 (by cases dj<;>first | rfl | exact dj2) (by kernel_rfl)) rfl ?_
    rw [HJ.out,HX.out]
    have hzW:w.heap.size≤W3.heap.size:=HK3.out.size
    have hne:∀ b,((P b∧b<w0.heap.size)∨W3.heap.size≤b)→b≠w.heap.size+1:=fun b hb=>by rcases hb with ⟨_,hb⟩ | hb<;>omega
    have hnw:∀ b,((P b∧b<w0.heap.size)∨W3.heap.size≤b)→(P b∨w.heap.size≤b):=fun b hb=>by rcases hb with ⟨hb,_⟩ | hb;exact Or.inl hb;exact Or.inr (by omega)
    exact⟨setRow_kept hW2 HK5.out (by omega),_,_,_,rfl,HFX.out,liesQ_set hW2 HU5.out hne hnw,liesQ_set hW2 HV5.out hne hnw,liesQ_set hW2 HA5.out hne hnw⟩
theorem ckJudgeQ_any (m:Nat) (hm:Mild m) (d:Dv.Tm) (c:List En) (w0 w:World) (hk0:Kept w0 w) (sc s:Value) (hlc:LiesE w0 c sc) (hl:Dv.Lies w0 d.kids s) (hcs:c.length+d.size≤101) (hsc:Smc c) :
 Calls Try.prog 8 #[sc,Dv.tv d s,.float .f64 m] w (GivesTQ w0.heap.size (judgeT m c d) w) :=
 ckJudgeP_any _ m hm d c w0 w hk0 sc s (Se.liesE_q hlc) hl hcs hsc
theorem ckJudge_any (m:Nat) (hm:Mild m) (d:Dv.Tm) (c:List En) (w:World) (sc s:Value) (hlc:LiesE w c sc) (hl:Dv.Lies w d.kids s) (hcs:c.length+d.size≤101) (hsc:Smc c) :
 Calls Try.prog 8 #[sc,Dv.tv d s,.float .f64 m] w (GivesT (judgeT m c d) w):=by
 refine(ckJudgeQ_any m hm d c w w (kept_refl w) sc s hlc hl hcs hsc).mono fun e w' h=>?_
 obtain⟨hk,h⟩:=h
 refine⟨hk,?_⟩
 cases hr:judgeT m c d with
 | ok j =>
  rw [hr] at h
  obtain⟨su,sv,sa,rfl,hf,hu,hv,ha⟩:=h
  exact⟨su,sv,sa,rfl,hf,hu.lies,hv.lies,ha.lies⟩
 | error ea =>
  obtain⟨er,q⟩:=ea
  rw [hr] at h
  obtain⟨pv,rfl,hp⟩:=h
  exact⟨pv,rfl,hp.lies⟩
end Go.Proofs.Ytgnllglbopaheaa.Ck

namespace Go.Proofs.Ytgnllglbopaheaa.Dv
open Go.RowKit
mutual
def Tm.deep:Tm→Nat
 | .mk _ _ l=>deeps l+1
def deeps:List Tm→Nat
 | []=>0
 | t::r=>max t.deep (deeps r)
end
theorem deeps_take (l:List Tm) (k:Nat) (h:k<l.length):deeps (l.take (k+1))=max (deeps (l.take k)) (l[k]).deep:=by
 induction l generalizing k with
 | nil=>simp at h
 | cons a r ih =>
  cases k with
  | zero=>simp [deeps]
  | succ k=>simp only [List.take_succ_cons,deeps,List.getElem_cons_succ];rw [ih k (by simpa using h)];omega
theorem Tm.deep_eq (t:Tm):t.deep=deeps t.kids+1:=by cases t;rfl
theorem deep_le_size (t:Tm):t.deep≤t.size:=by
 induction t using Tm.ind with
 | h t ih =>
  rw [t.deep_eq,t.size_eq]
  have:∀ l:List Tm,(∀ x ∈ l,x.deep≤x.size)→deeps l≤sizes l:=by
   intro l hl
   induction l with
   | nil=>simp [deeps]
   | cons a r ihr=>simp only [deeps,sizes];have:=ihr (fun x hx=>hl x (List.mem_cons_of_mem _ hx));have:=hl a List.mem_cons_self;omega
  have:=this t.kids ih
  omega
end Go.Proofs.Ytgnllglbopaheaa.Dv

namespace Go.Proofs.Ytgnllglbopaheaa.Dv
open Go.RowKit
def Weighed (t:Tm) (most deep:Int) (w:World) (e:Ending) (w':World):Prop :=
 ∃ r:Int,e=.returned (.int .i64 r)∧1≤r∧r≤most+1∧(r≤most→r=t.size∧(t.deep:Int)≤deep+1)∧Below w.heap.size w w'
set_option maxHeartbeats 800000 in
theorem dweigh_any (t:Tm):∀ (w:World) (s:Value) (most deep:Int),Lies w t.kids s→0≤most→most≤100000→-1≤deep→deep≤100000 →
 Calls Try.prog 10 #[tv t s,.int .i64 most,.int .i64 deep] w (Weighed t most deep w):=by
 induction t using Tm.ind with
 | h t ih =>
  intro w s most deep hl h0 h1 h2 h3
  obtain⟨a,cap,S,rfl,hc,hm,hf,hn,hk⟩:=hl.out
  unfold tv
  have hsz:=t.size_eq
  have hdp:=t.deep_eq
  unfold maxLen at hm
  have IH:=Lib.hid ih
  have HN:=Lib.hid hn
  have HK:=Lib.hid hk
  have HSZ:=Lib.hid hsz
  have HDP:=Lib.hid hdp
  clear ih hn hk hf hl hsz hdp
  by_cases hd:deep<0
  ·go_enter Try.func10,Try.ntmps10
   go_wp2
   go_ret
   exact⟨most+1,rfl,by omega,by omega,fun h=>by omega,(Below.refl _ _).alloc (Nat.le_refl _) _⟩
  go_enter Try.func10,Try.ntmps10
  have hcell:∀ (wr:World),Below (w.heap.size+1) (w.alloc (.cells #[.int .i64 t.k,.int .i64 t.i,.slice a t.kids.length cap] 24)) wr→wr.cell? ⟨w.heap.size,2,none⟩=some (.slice a t.kids.length cap):=fun wr h=>by
   rw [h.cell (p:=⟨w.heap.size,2,none⟩) (by exact Nat.lt_succ_self _),World.cell?_alloc_at _ _ _ _ rfl];rfl
  have HC:=Lib.hid hcell
  clear hcell
  go_wp2
  go_loopw [7,8] (fun nv iv wr=>∃ (k:Nat) (n:Int),k≤t.kids.length∧iv=.int .i64 k∧nv=.int .i64 n∧1≤n∧n≤most+1∧Hid (n≤most→n=((1+sizes (t.kids.take k):Nat):Int)∧(deeps (t.kids.take k):Int)≤deep) ∧
   Below (w.heap.size+1) (w.alloc (.cells #[.int .i64 t.k,.int .i64 t.i,.slice a t.kids.length cap] 24)) wr) (fun _ i _=>t.kids.length-(intOf i).toNat)
  case atStart=>exact⟨0,1,Nat.zero_le _,rfl,rfl,by omega,by omega,fun _=>⟨by simp [sizes],by simp [deeps];omega⟩,Below.refl _ _⟩
  case round =>
   obtain⟨k,n,hk,rfl,rfl,hn1,hn2,hrel,hb⟩:=hrel
   have hc4:=HC.out wr hb
   have hb0:Below w.heap.size w wr:=((Below.refl _ _).alloc (Nat.le_refl _) _).trans (hb.mono (by omega))
   by_cases hlt:k<t.kids.length
   ·by_cases hnm:n≤most
    ·obtain⟨b,o,rfl,hx⟩:=HN.out k hlt
     have hy:=hx.below hb0 hx.lt
     obtain⟨c0,c1,c2⟩:=hy
     have hq:=HK.out k hlt
     obtain⟨a',cap',S',hS,-⟩:=hq.out
     rw [hS] at c2 hq
     have HQ:=Lib.hid (hq.keep hb0)
     clear hS hq
     have HM:=Lib.hid (List.getElem_mem hlt)
     have HT:=Lib.hid (sizes_take t.kids k hlt)
     have HT2:=Lib.hid (deeps_take t.kids k hlt)
     go_wp2_with fail
     refine(IH.out _ HM.out _ _ _ _ HQ.out (by omega) (by omega) (by omega) (by omega)).mono ?_
     rintro e w' ⟨r,rfl,hr1,hr2,hr3,hb'⟩
     have HR3:=Lib.hid hr3
     have HB':=hb.trans (hb'.mono (by have:=hb.size;simpa using this))
     clear hb' hb hb0 hc4 hr3
     go_wp2
     go_roundw
     case rel =>
      refine⟨k+1,n+r,by omega,by go_num,rfl,by omega,by omega,?_,HB'⟩
      intro hle
      obtain⟨e1,e2⟩:=hrel.out hnm
      obtain⟨e3,e4⟩:=HR3.out (by omega)
      rw [HT.out,HT2.out,e1,e3]
      exact⟨by simp;omega,by omega⟩
     case measure=>simp [intOf];omega
    ·go_wp2
     go_ret
     exact⟨n,rfl,by omega,by omega,fun h=>absurd h (by omega),hb0⟩
   ·have:k=t.kids.length:=by omega
    subst this
    go_wp2
    all_goals go_ret
    all_goals
     refine⟨n,rfl,by omega,by omega,fun h=>?_,hb0⟩
     obtain⟨e1,e2⟩:=hrel.out h
     rw [List.take_length] at e1 e2
     rw [HSZ.out,HDP.out]
     exact⟨by rw [e1];simp;omega,by omega⟩
def NotGreat (t:Tm) (most:Int) (w:World) (e:Ending) (w':World):Prop :=
 ∃ g:Bool,e=.returned (.bool g)∧(g=false→(t.size:Int)≤most∧t.deep≤201)∧Below w.heap.size w w'
set_option maxHeartbeats 800000 in
theorem dgreat_any (t:Tm) (w:World) (s:Value) (most:Int) (hl:Lies w t.kids s) (h0:0≤most) (h1:most≤100000) :
 Calls Try.prog 5 #[tv t s,.int .i64 most] w (NotGreat t most w):=by
 obtain⟨a,cap,S,hs,-⟩:=hl.out
 subst hs
 have HB:Below w.heap.size w (w.alloc (.cells #[.int .i64 t.k,.int .i64 t.i,.slice a t.kids.length cap] 24)):=(Below.refl _ _).alloc (Nat.le_refl _) _
 have HL:=Lib.hid (hl.keep HB)
 clear hl
 unfold tv
 go_enter Try.func5,Try.ntmps5
 go_wp2_with fail
 refine(dweigh_any t _ _ _ _ HL.out h0 h1 (by omega) (by omega)).mono ?_
 rintro e w' ⟨r,rfl,hr1,hr2,hr3,hb'⟩
 have HR3:=Lib.hid hr3
 have HB':=HB.trans (hb'.mono HB.size)
 clear hr3 hb' HB
 go_wp2
 go_ret
 refine⟨_,rfl,fun h=>?_,HB'⟩
 have hrm:r≤most:=by simpa using h
 obtain⟨e3,e4⟩:=HR3.out hrm
 omega
end Go.Proofs.Ytgnllglbopaheaa.Dv

namespace Go.Proofs.Ytgnllglbopaheaa.Ck
open Go Go.RowKit
open Se (ofB Sml sizeJ zJ)
theorem wake_ok:judgeT 4611686018427387904 [] (.mk 1 0 [])=.ok ⟨false,.mk 1 0 0 0 [],.zero,.mk 1 1 0 0 [],2⟩:=by kernel_rfl
theorem wake_no:judgeT 4607182418800017408 [] (.mk 1 0 [])=.error (4,[]):=by kernel_rfl
theorem dlies_none (w:World):Dv.Lies w [] (.slice none 0 0):=.mk [] none 0 (fun _=>.nilIface) (Nat.le_refl _) (by decide) (fun _ h=>by cases h) (fun _ h=>by cases h) (fun _ h=>by cases h)
set_option maxRecDepth 20000 in
set_option maxHeartbeats 4000000 in
theorem wakes16_any (w:World):Calls Try.prog 7 #[] w fun e w'=>e=.returned (.bool true)∧Kept w w':=by
 have C2:=Lib.hid (fun(W:World)=>ckJudge_any 4611686018427387904 mild_2 (.mk 1 0 []) [] W _ _ (liesE_nil W) (dlies_none W) (by decide) ⟨fun _ h=>by cases h⟩)
 have C1:=Lib.hid (fun(W:World)=>ckJudge_any 4607182418800017408 mild_1 (.mk 1 0 []) [] W _ _ (liesE_nil W) (dlies_none W) (by decide) ⟨fun _ h=>by cases h⟩)
 rw [wake_ok] at C2
 rw [wake_no] at C1
 go_enter Try.func7,Try.ntmps7
 go_wp2_with fail
 refine(C2.out _).mono ?_
 rintro e w1 ⟨hk1,su,sv,sa,rfl,hf,hu,hv,ha⟩
 obtain⟨au,cu,-,rfl,-⟩:=hu.out
 obtain⟨av,cv,-,rfl,-⟩:=hv.out
 obtain⟨aa,ca,-,rfl,-⟩:=ha.out
 have HK1:=Lib.hid hk1
 clear hk1 hf hu hv ha
 go_wp2_with (refine stop_store 40 (.tmp 1) (.tmp 10) rfl ?_)
 intro _
 refine wpList_store_part_n (by rfl) 40 (.tmp 1) (.tmp 10) rfl (w1.heap.size) 0 #[.bool false,.int .i64 1,.int .i64 0,.int .i64 0,.int .i64 0,(.slice au 0 cu),.int .i64 0,.int .i64 0,.int .i64 0,.int .i64 0,(.slice av 0 cv),.int .i64 1,.int .i64 1,.int .i64 0,.int .i64 0,(.slice aa 0 ca),.int .i64 2] (by rfl) (by rfl) 40 (by kernel_rfl) (row_ok rfl) ?_
 intro W hW
 subst hW
 refine⟨_,#[.bool false,.int .i64 1,.int .i64 0,.int .i64 0,.int .i64 0,(.slice au 0 cu),.int .i64 0,.int .i64 0,.int .i64 0,.int .i64 0,(.slice av 0 cv),.int .i64 1,.int .i64 1,.int .i64 0,.int .i64 0,(.slice aa 0 ca),.int .i64 2],alloc_new _ _,rfl,Nat.le_of_ble_eq_true rfl,?_⟩
 intro w2 hwn
 have hfr:=fresh_judg hwn
 clear hwn
 have HK2:=Lib.hid (kept_trans HK1.out hfr.1)
 have HB2:=Lib.hid hfr.2.1
 have HZ2:=Lib.hid hfr.2.2
 clear hfr
 go_wp2_with fail
 refine(C1.out _).mono ?_
 rintro e w3 ⟨hk3,pv,rfl,hp⟩
 obtain⟨pa,pc,rfl,-⟩:=hp.out
 have HK3:=Lib.hid (kept_trans HK2.out hk3)
 have HB3:=Lib.hid ((Below.block hk3 _ (Array.getElem?_eq_some_iff.1 HB2.out).1).trans HB2.out)
 clear hk3 hp
 go_wp2_with (refine stop_store 40 (.tmp 4) (.tmp 16) rfl ?_)
 intro _
 refine wpList_store_part_n (by rfl) 40 (.tmp 4) (.tmp 16) rfl (w3.heap.size) 0 zAgg (by rfl) (by rfl) 40 (by kernel_rfl) (row_ok rfl) ?_
 intro W hW
 subst hW
 refine⟨_,zAgg,alloc_new _ _,rfl,Nat.le_of_ble_eq_true rfl,?_⟩
 intro w4 hwn
 have hfr:=fresh_judg hwn
 clear hwn
 have HK4:=Lib.hid (kept_trans HK3.out hfr.1)
 have hb4:=(Below.block hfr.1 _ (Array.getElem?_eq_some_iff.1 HB3.out).1).trans HB3.out
 have y16:w4.cell? ⟨w1.heap.size,16,none⟩=some (.int .i64 2):=by rw [Lib.cell_of_heap hb4];rfl
 have y12:w4.cell? ⟨w1.heap.size,12,none⟩=some (.int .i64 1):=by rw [Lib.cell_of_heap hb4];rfl
 clear hfr hb4
 go_wp2_with fail
 go_ret
 exact⟨rfl,HK4.out⟩
end Go.Proofs.Ytgnllglbopaheaa.Ck

namespace Go.Proofs.Ytgnllglbopaheaa.Ck
open Go Go.RowKit
open Se (ofB Sml sizeJ zJ)
structure BoxK (g:Nat) (B:Array Value) (W w':World):Prop where
 box:w'.heap[g]? =some (Obj.cells B 24 (0,0))
 kept:Kept W w'
def outJ:CR→Jd
 | .ok j=>j
 | .error _=>zJ
def outE:CR→Int
 | .ok _=>0
 | .error e=>e.1
def outQ:CR→List Int
 | .ok _=>[]
 | .error e=>e.2
theorem ckJudgeU_any (m:Nat) (hm:Mild m) (d:Dv.Tm) (c:List En) (w0 w:World) (hk0:Kept w0 w) (sc s:Value) (hlc:LiesE w0 c sc) (hl:Dv.Lies w0 d.kids s) (hcs:c.length+d.size≤101) (hsc:Smc c) :
 Calls Try.prog 8 #[sc,Dv.tv d s,.float .f64 m] w fun e w'=>∃ su sv sa pv,e=.returned (.tuple #[jv (outJ (judgeT m c d)) su sv sa,.int .i64 (outE (judgeT m c d)),pv])∧LiesQ w' (fun b=>b<w0.heap.size∨w.heap.size≤b) (outJ (judgeT m c d)).u.kids su∧LiesQ w' (fun b=>b<w0.heap.size∨w.heap.size≤b) (outJ (judgeT m c d)).v.kids sv∧LiesQ w' (fun b=>b<w0.heap.size∨w.heap.size≤b) (outJ (judgeT m c d)).a.kids sa∧RowI w.heap.size w' pv (outQ (judgeT m c d))∧Kept w w':=by
 refine(ckJudgeQ_any m hm d c w0 w hk0 sc s hlc hl hcs hsc).mono fun e w' h=>?_
 obtain⟨hk,h⟩:=h
 cases hr:judgeT m c d with
 | ok j =>
  rw [hr] at h
  obtain⟨su,sv,sa,rfl,-,hu,hv,ha⟩:=h
  exact⟨su,sv,sa,_,rfl,hu,hv,ha,Or.inl ⟨rfl,rfl⟩,hk⟩
 | error ea =>
  obtain⟨er,q⟩:=ea
  rw [hr] at h
  obtain⟨pv,rfl,hp⟩:=h
  exact⟨.slice none 0 0,.slice none 0 0,.slice none 0 0,pv,rfl,liesQ_nil _ _,liesQ_nil _ _,liesQ_nil _ _,hp,hk⟩
theorem judgeT_len {m:Nat} {c:List En} {d:Dv.Tm}:(outQ (judgeT m c d)).length+1≤d.size:=by
 have hz:=dsize_pos d
 cases hr:judgeT m c d with
 | ok j=>simpa [outQ] using hz
 | error ea =>
  obtain⟨er,q⟩:=ea
  unfold judgeT at hr
  split at hr
  ·rename_i h1
   split at hr
   ·exact(judgeB_path d c hr h1).2
   ·cases hr;simpa [outQ] using hz
  ·cases hr;simpa [outQ] using hz
end Go.Proofs.Ytgnllglbopaheaa.Ck

namespace Go.Proofs.Ytgnllglbopaheaa.Lv
open Go Go.RowKit
abbrev Env:=Int→Int
def ext (i:Int) (G:Env):Env:=fun v=>if v=0 then i else G (v-1)
def bnd (k:Int) (q:Nat) (i:Int) (G:Env):Env:=if bindsN k q=1 then ext i G else G
def req (k:Int) (q:Nat) (i j:Int):Int :=
 if k=10∨k=11 then(if q=0 then i+1 else i)
 else if q=0 then i+1
 else if q=1 then j+1
 else if k=4 then j
 else if k=5 then(if q=2 then max i j else i)
 else if k=7 then(if q=2 then i else j)
 else max i j
def hd (k i j:Int):Int:=if k=1 then i+2 else if k=3∨k=6 then max i j+1 else if k=4∨k=7 then max i j else if k=5∨k=9 then j else if k=10 then i+1 else i
def lv (G:Env) (t:Tm):Int:=if t.k=2 then G t.i else hd t.k t.i t.j
mutual
def WL:Env→Tm→Prop
 | G,.mk k i j _ l=>if k=2 then 0≤i else(1≤k∧k≤11)∧WLs G k i j 0 l
def WLs:Env→Int→Int→Int→Nat→List Tm→Prop
 | _,_,_,_,_,[]=>True
 | G,k,i,j,q,x::r=>(WL (bnd k q i G) x∧lv (bnd k q i G) x=req k q i j)∧WLs G k i j (q+1) r
end
theorem wl_var {G:Env} {t:Tm} (h:t.k=2):WL G t↔0≤t.i:=by
 cases t with
 | mk k i j n l =>
  have e:k=2:=h
  subst e
  simp only [WL,if_true]
  exact Iff.rfl
theorem wl_node {G:Env} {t:Tm} (h:t.k≠2):WL G t↔(1≤t.k∧t.k≤11)∧WLs G t.k t.i t.j 0 t.kids:=by
 cases t with
 | mk k i j n l =>
  have e:k≠2:=h
  simp only [WL,if_neg e]
  exact Iff.rfl
theorem wls_get {G:Env} {k i j:Int}:∀ {l:List Tm} {q:Nat},WLs G k i j q l↔∀ p (h:p<l.length),WL (bnd k (q+p) i G) l[p]∧lv (bnd k (q+p) i G) l[p]=req k (q+p) i j
 | [],q=>by simp [WLs]
 | x::r,q=>by
  simp only [WLs,wls_get (l:=r)]
  constructor
  ·rintro⟨h0,h1⟩ p hp
   match p,hp with
   | 0,_=>exact h0
   | p+1,hp =>
    have:=h1 p (by simpa using hp)
    rw [show q+1+p=q+(p+1) by omega] at this
    exact this
  ·intro h
   refine⟨by have:=h 0 (by simp);simpa using this,fun p hp=>?_⟩
   have:=h (p+1) (by simpa using hp)
   rw [show q+(p+1)=q+1+p by omega] at this
   exact this
theorem binds_le {k:Int} {q:Nat} (h:1≤k∧k≤11):bindsN k q=0∨bindsN k q=1:=by
 unfold bindsN
 split
 ·split<;>simp
 ·split
  ·split<;>simp
  ·split
   ·omega
   ·simp
theorem putG_wl {g:Int→Int→Bool→Option Tm} {R:Int→Env→Env→Prop} (hR:∀ b G G' i,R b G G'→R (b+1) (ext i G) (ext i G')) (hg:∀ b G G' v x,R b G G'→0≤v→g v b false=some x→WL G' x∧lv G' x=G v) (t:Tm) :
 ∀ b G G' x,R b G G'→WL G t→t.putG g b false=some x→WL G' x∧lv G' x=lv G t:=by
 induction t using Tm.ind with
 | h t ih =>
  intro b G G' x hr hw hx
  by_cases h2:t.k=2
  ·rw [Tm.putG_var _ _ _ _ h2] at hx
   have:=hg b G G' t.i x hr ((wl_var h2).1 hw) hx
   rw [show lv G t=G t.i from if_pos h2]
   exact this
  ·rw [Tm.putG_node _ _ _ _ h2] at hx
   obtain⟨hk,hs⟩:=(wl_node h2).1 hw
   have h12:(t.k==12)=false:=by
    have:t.k≠12:=by omega
    simpa using this
   simp only [h12,Bool.false_and,Bool.or_false] at hx
   cases ho:optK (fun q x=>x.putG g (b+bindsN t.k q) false) 0 t.kids with
   | none=>rw [ho] at hx;cases hx
   | some m =>
    rw [ho] at hx
    obtain rfl:=Option.some.inj hx
    have hlen:=optK_length ho
    refine⟨(wl_node (t:=.mk t.k t.i t.j t.n m) h2).2 ⟨hk,wls_get.2 fun p hp=>?_⟩,?_⟩
    ·have hp':p<t.kids.length:=by rw [←hlen];exact hp
     have h1:=(wls_get.1 hs) p hp'
     have h3:=optK_get ho p hp' hp
     simp only [Nat.zero_add] at h1 h3 ⊢
     have hr':R (b+bindsN t.k p) (bnd t.k p t.i G) (bnd t.k p t.i G'):=by
      unfold bnd
      rcases binds_le (q:=p) hk with e | e
      ·rw [e,if_neg (by decide),if_neg (by decide),Int.add_zero];exact hr
      ·rw [e,if_pos rfl,if_pos rfl];exact hR _ _ _ _ hr
     have:=ih t.kids[p] (List.getElem_mem hp') _ _ _ _ hr' h1.1 h3
     exact⟨this.1,this.2.trans h1.2⟩
    ·show lv G' (.mk t.k t.i t.j t.n m)=lv G t
     unfold lv
     rw [if_neg (show(Tm.mk t.k t.i t.j t.n m).k≠2 from h2),if_neg h2]
     rfl
def RL (k c:Int) (b:Int) (G G':Env):Prop:=∀ v,0≤v→(v-b<c→G v=G' v)∧(c≤v-b→G v=G' (v+k))
theorem rl_ext {k c:Int} (hk:0≤k):∀ b G G' i,0≤b+c→RL k c b G G'→RL k c (b+1) (ext i G) (ext i G'):=by
 intro b G G' i hb h v hv
 unfold ext
 by_cases h0:v=0
 ·subst h0
  exact⟨fun _=>rfl,fun h=>by omega⟩
 ·rw [if_neg h0,if_neg h0]
  have h1:=h (v-1) (by omega)
  refine⟨fun h2=>h1.1 (by omega),fun h2=>?_⟩
  rw [if_neg (by omega),h1.2 (by omega)]
  congr 1
  omega
theorem each_wl {k c:Int} (hk:0≤k) (hc:0≤c) {t x:Tm} {G G':Env} (hr:RL k c 0 G G') (hw:WL G t) (hx:t.each (liftF k c) 0=some x):WL G' x∧lv G' x=lv G t:=by
 rw [each_putG _ _ _ false] at hx
 refine putG_wl (R:=fun b G G'=>0≤b∧RL k c b G G') (fun b G G' i h=>⟨by omega,rl_ext hk b G G' i (by omega) h.2⟩) ?_ t 0 G G' x ⟨Int.le_refl _,hr⟩ hw hx
 intro b G G' v x h hv hx
 cases hf:liftF k c v b with
 | none=>rw [hf] at hx;cases hx
 | some y =>
  rw [hf] at hx
  obtain rfl:=Option.some.inj hx
  unfold liftF at hf
  have h1:=h.2 v hv
  split at hf
  ·rename_i h2
   obtain rfl:=Option.some.inj hf
   exact⟨(wl_var (t:=.mk 2 v 0 0 []) rfl).2 hv,(h1.1 h2).symm⟩
  ·split at hf
   ·cases hf
   ·rename_i h2 _
    obtain rfl:=Option.some.inj hf
    exact⟨(wl_var (t:=.mk 2 (v+k) 0 0 []) rfl).2 (by show 0≤v+k;omega),(h1.2 (by omega)).symm⟩
def RP (G0:Env) (u:Tm) (b:Int) (G G':Env):Prop:=0≤b∧∀ v,0≤v→(v<b→G v=G' v)∧(v=b→G v=lv G0 u)∧(b<v→G v=G' (v-1))∧(b≤v→G' v=G0 (v-b))
theorem rp_ext {G0:Env} {u:Tm}:∀ b G G' i,RP G0 u b G G'→RP G0 u (b+1) (ext i G) (ext i G'):=by
 intro b G G' i ⟨hb,h⟩
 refine⟨by omega,fun v hv=>?_⟩
 by_cases h0:v=0
 ·subst h0
  exact⟨fun _=>rfl,fun h=>by omega,fun h=>by omega,fun h=>by omega⟩
 ·have h1:=h (v-1) (by omega)
  unfold ext
  rw [if_neg h0,if_neg h0]
  refine⟨fun h2=>h1.1 (by omega),fun h2=>h1.2.1 (by omega),fun h2=>?_,fun h2=>?_⟩
  ·rw [if_neg (by omega)];exact h1.2.2.1 (by omega)
  ·rw [h1.2.2.2 (by omega)];congr 1;omega
theorem put_wl {t u x:Tm} {G:Env} (ht:WL (ext (lv G u) G) t) (hu:WL G u) (hx:t.putG (gPut u) 0 false=some x):WL G x∧lv G x=lv (ext (lv G u) G) t:=by
 refine putG_wl (R:=RP G u) (fun b G1 G2 i h=>rp_ext b G1 G2 i h) ?_ t 0 _ _ x ⟨Int.le_refl _,fun v hv=>?_⟩ ht hx
 ·intro b G1 G2 v y ⟨hb,hr⟩ hv hy
  have h1:=hr v hv
  unfold gPut at hy
  split at hy
  ·rename_i h2
   obtain rfl:=Option.some.inj hy
   exact⟨(wl_var (t:=varT v) rfl).2 hv,(h1.1 h2).symm⟩
  ·split at hy
   ·rename_i h2 h3
    rw [if_neg (by decide)] at hy
    have:=each_wl (k:=b) (c:=0) hb (Int.le_refl _) (G:=G) (G':=G2) (fun w hw=>⟨fun h=>by omega,fun h=>by
     rw [(hr (w+b) (by omega)).2.2.2 (by omega)];congr 1;omega⟩) hu hy
    exact⟨this.1,this.2.trans (h1.2.1 h3).symm⟩
   ·rename_i h2 h3
    obtain rfl:=Option.some.inj hy
    exact⟨(wl_var (t:=varT (v-1)) rfl).2 (by show 0≤v-1;omega),(h1.2.2.1 (by omega)).symm⟩
 ·unfold ext
  refine⟨fun h=>by omega,fun h=>?_,fun h=>?_,fun h=>?_⟩
  ·rw [if_pos h]
  ·rw [if_neg (by omega)]
  ·congr 1;omega
end Go.Proofs.Ytgnllglbopaheaa.Lv

namespace Go.Proofs.Ytgnllglbopaheaa.Lv
open Go Go.RowKit Se
theorem wl_nd {G:Env} {k i j:Int} {l:List Tm} (h:k≠2):WL G (nd k i j l)↔(1≤k∧k≤11)∧WLs G k i j 0 l:=wl_node (t:=nd k i j l) h
theorem n_two {G:Env} {k i j:Int} {x y:Tm} (hk:k=3∨k=6):WL G (nd k i j [x,y])↔(WL G x∧lv G x=i+1)∧(WL (ext i G) y∧lv (ext i G) y=j+1):=by
 rcases hk with rfl | rfl<;>rw [wl_nd (by decide)]<;>simp [WLs,bnd,req,bindsN]
theorem n_lam {G:Env} {i j:Int} {x y t:Tm}:WL G (nd 4 i j [x,y,t])↔(WL G x∧lv G x=i+1)∧(WL (ext i G) y∧lv (ext i G) y=j+1)∧(WL (ext i G) t∧lv (ext i G) t=j):=by
 rw [wl_nd (by decide)];simp [WLs,bnd,req,bindsN]
theorem n_app {G:Env} {i j:Int} {x y t u:Tm}:WL G (nd 5 i j [x,y,t,u])↔(WL G x∧lv G x=i+1)∧(WL (ext i G) y∧lv (ext i G) y=j+1)∧(WL G t∧lv G t=max i j)∧(WL G u∧lv G u=i):=by
 rw [wl_nd (by decide)];simp [WLs,bnd,req,bindsN]
theorem n_pair {G:Env} {i j:Int} {x y t u:Tm}:WL G (nd 7 i j [x,y,t,u])↔(WL G x∧lv G x=i+1)∧(WL (ext i G) y∧lv (ext i G) y=j+1)∧(WL G t∧lv G t=i)∧(WL G u∧lv G u=j):=by
 rw [wl_nd (by decide)];simp [WLs,bnd,req,bindsN]
theorem n_fst {G:Env} {k i j:Int} {x y t:Tm} (hk:k=8∨k=9):WL G (nd k i j [x,y,t])↔(WL G x∧lv G x=i+1)∧(WL (ext i G) y∧lv (ext i G) y=j+1)∧(WL G t∧lv G t=max i j):=by
 rcases hk with rfl | rfl<;>rw [wl_nd (by decide)]<;>simp [WLs,bnd,req,bindsN]
theorem n_eq {G:Env} {i j:Int} {x t u:Tm}:WL G (nd 10 i j [x,t,u])↔(WL G x∧lv G x=i+1)∧(WL G t∧lv G t=i)∧(WL G u∧lv G u=i):=by
 rw [wl_nd (by decide)];simp [WLs,bnd,req,bindsN]
theorem n_refl {G:Env} {i j:Int} {x t:Tm}:WL G (nd 11 i j [x,t])↔(WL G x∧lv G x=i+1)∧(WL G t∧lv G t=i):=by
 rw [wl_nd (by decide)];simp [WLs,bnd,req,bindsN]
theorem n_srt {G:Env} {i:Int}:WL G (srt i) :=
 (wl_nd (k:=1) (i:=i) (j:=0) (l:=[]) (by decide)).2 ⟨by decide,trivial⟩
theorem n_var {G:Env} {v:Int} (h:0≤v):WL G (varT v):=(wl_var rfl).2 h
theorem l_nd {G:Env} {k i j:Int} {l:List Tm} (h:k≠2):lv G (nd k i j l)=hd k i j:=if_neg h
theorem l_srt {G:Env} {i:Int}:lv G (srt i)=i+2:=rfl
theorem wl_kind {G:Env} {t:Tm} (h:WL G t):1≤t.k∧t.k≤11:=by
 by_cases h2:t.k=2
 ·omega
 ·exact((wl_node h2).1 h).1
theorem put_lv {t u:Tm} {G:Env} {i:Int} (ht:WL (ext i G) t) (hu:WL G u) (hi:lv G u=i) (h0:(t.putB u).k≠0):WL G (t.putB u)∧lv G (t.putB u)=lv (ext i G) t:=by
 subst hi
 have hk:=wl_kind ht
 unfold Tm.putB at h0 ⊢
 split at h0
 ·rename_i h
  rw [if_pos h]
  have hd:decide (12<t.k)=false:=by simp;omega
  rw [hd] at h0 ⊢
  cases hx:t.putG (gPut u) 0 false with
  | none=>rw [hx] at h0;exact absurd rfl h0
  | some x=>exact put_wl ht hu hx
 ·exact absurd rfl h0
theorem lift_lv {k c:Int} {t:Tm} {G G':Env} (hr:RL k c 0 G G') (ht:WL G t) (h0:(t.liftB k c).k≠0):WL G' (t.liftB k c)∧lv G' (t.liftB k c)=lv G t:=by
 unfold Tm.liftB at h0 ⊢
 split at h0
 ·exact absurd rfl h0
 ·rename_i h
  rw [if_neg h]
  cases hx:t.each (liftF k c) 0 with
  | none=>rw [hx] at h0;exact absurd rfl h0
  | some x=>exact each_wl (by omega) (by omega) hr ht hx
theorem rl_one {i:Int} {G:Env}:RL 1 0 0 G (ext i G):=fun v hv=>⟨fun h=>by omega,fun _=>by
 unfold ext;rw [if_neg (by omega)];congr 1;omega⟩
theorem rl_in {i i':Int} {G:Env}:RL 1 1 0 (ext i G) (ext i (ext i' G)):=fun v hv=>⟨fun h=>by
 obtain rfl:v=0:=by omega
 rfl,fun _=>by
 unfold ext;rw [if_neg (show v≠0 by omega),if_neg (by omega),if_neg (by omega)];congr 1;omega⟩
def envR:List En→Env
 | []=>fun _=>0
 | e::r=>ext e.i (envR r)
def envC (c:List En):Env:=envR c.reverse
theorem envC_ext (c:List En) (e:En):envC (c++[e])=ext e.i (envC c):=by simp [envC,envR]
def wcR:List En→Prop
 | []=>True
 | e::r=>(WL (envR r) e.a∧lv (envR r) e.a=e.i+1)∧wcR r
def WC (c:List En):Prop:=wcR c.reverse
theorem wc_ext (c:List En) (e:En):WC (c++[e])↔(WL (envC c) e.a∧lv (envC c) e.a=e.i+1)∧WC c:=by simp [WC,envC,wcR]
theorem at_lv:∀ {l:List En} {k:Nat} {e:En},wcR l→l[k]? =some e→∃ G,WL G e.a∧lv G e.a=e.i+1∧RL ((k:Int)+1) 0 0 G (envR l)∧envR l k=e.i
 | [],k,e,_,h=>by simp at h
 | x::r,0,e,hw,h=>by
  obtain rfl:x=e:=by simpa using h
  exact⟨envR r,hw.1.1,hw.1.2,rl_one,rfl⟩
 | x::r,k+1,e,hw,h=>by
  obtain⟨G,h1,h2,h3,h4⟩:=at_lv (l:=r) hw.2 (by simpa using h)
  refine⟨G,h1,h2,fun v hv=>⟨fun h=>by omega,fun h=>?_⟩,?_⟩
  ·rw [(h3 v hv).2 (by omega)]
   show envR r (v+((k:Int)+1))=ext x.i (envR r) (v+(((k+1:Nat):Int)+1))
   unfold ext
   rw [if_neg (by omega)]
   congr 1
   omega
  ·show ext x.i (envR r) ((k+1:Nat):Int)=e.i
   unfold ext
   rw [if_neg (by omega),←h4]
   congr 1
   omega
structure Good (G:Env) (j:Jd):Prop where
 u:WL G j.u
 lu:lv G j.u=j.i
 a:WL G j.a
 la:lv G j.a=j.i+1
 v:j.eq=true→WL G j.v∧lv G j.v=j.i
end Go.Proofs.Ytgnllglbopaheaa.Lv

namespace Go.Proofs.Ytgnllglbopaheaa.Lv
open Go Go.RowKit Se
theorem w_at {x:Int} (h0:-5≤x) (h1:x≤5000):W64 x=x:=by
 show IntKind.i64.wrap x=x
 unfold IntKind.wrap
 simp [IntKind.signed,IntKind.bits]<;>omega
theorem isT_lv {G:Env} {j:Jd} (g:Good G j) (h:j.a.k=1):j.i=j.a.i+1:=by
 have:=g.la
 unfold lv at this
 rw [if_neg (by omega)] at this
 unfold hd at this
 rw [if_pos h] at this
 omega
theorem isT_out {j:Jd} (h:isT j=true):j.eq=false∧j.a.k=1:=by
 unfold isT osW at h
 simp only [Bool.and_eq_true,Bool.not_eq_true',beq_iff_eq] at h
 exact⟨h.1,h.2.1⟩
theorem areT_out {j:Jd} (h:areT j=true):j.eq=true∧j.a.k=1:=by
 unfold areT osW at h
 simp only [Bool.and_eq_true,beq_iff_eq] at h
 exact⟨h.1,h.2.1⟩
theorem hasW_out {j:Jd} {a:Tm} {i:Int} (h:hasW j a i=true):j.eq=false∧j.i=i∧j.a=a:=by
 unfold hasW at h
 simp only [Bool.and_eq_true,Bool.not_eq_true',beq_iff_eq] at h
 exact⟨h.1,h.2.1,(sameB_iff _ _).1 h.2.2⟩
theorem spl_out {j:Jd} {k:Int} (h:spl j k=true):j.eq=false∧j.a.k=k∧j.i=max j.a.i j.a.j:=by
 unfold spl at h
 simp only [Bool.and_eq_true,Bool.not_eq_true',beq_iff_eq] at h
 exact⟨h.1,h.2.1,h.2.2⟩
theorem prf_out {j:Jd} (h:prf j=true):j.eq=false∧j.a.k=10∧j.a.i=j.i:=by
 unfold prf at h
 simp only [Bool.and_eq_true,Bool.not_eq_true',beq_iff_eq] at h
 exact⟨h.1,h.2.1,h.2.2⟩
theorem cnv_out {p q:Jd} (h:cnv p q=true):q.eq=true∧q.a.k=1∧q.a.i=p.i∧p.a=q.u:=by
 unfold cnv at h
 simp only [Bool.and_eq_true,beq_iff_eq] at h
 exact⟨(areT_out h.1).1,(areT_out h.1).2,h.2.1,(sameB_iff _ _).1 h.2.2⟩
theorem prd_out {p q r:Jd} (h:prd p q r=true):p.eq=false∧q.eq=false∧q.a.k=1∧r.eq=false∧r.i=q.a.i∧r.a=q.u.putB p.u:=by
 unfold prd at h
 simp only [Bool.and_eq_true,Bool.not_eq_true'] at h
 have h1:=isT_out h.1.1
 have h2:=hasW_out h.2
 exact⟨h.1.2,h1.1,h1.2,h2.1,h2.2.1,h2.2.2⟩
theorem two_lv {G:Env} {a:Tm} (ha:WL G a) (hp:a.pureB=true) (hk:a.k=3∨a.k=6):(WL G (kd a 0)∧lv G (kd a 0)=a.i+1)∧(WL (ext a.i G) (kd a 1)∧lv (ext a.i G) (kd a 1)=a.j+1):=by
 obtain⟨x,y,e⟩:=two_kids hp hk
 have h:=((wl_node (by omega)).1 ha).2
 rw [e] at h
 have e0:kd a 0=x:=by unfold kd;rw [e];rfl
 have e1:kd a 1=y:=by unfold kd;rw [e];rfl
 rw [e0,e1]
 rcases hk with hk | hk<;>rw [hk] at h<;>simpa [WLs,bnd,req,bindsN] using h
theorem eq_lv {G:Env} {a:Tm} (ha:WL G a) (hp:a.pureB=true) (hk:a.k=10):(WL G (kd a 0)∧lv G (kd a 0)=a.i+1)∧(WL G (kd a 1)∧lv G (kd a 1)=a.i)∧(WL G (kd a 2)∧lv G (kd a 2)=a.i):=by
 obtain⟨x,y,z,e⟩:=three_kids hp hk
 have h:=((wl_node (by omega)).1 ha).2
 rw [e] at h
 have e0:kd a 0=x:=by unfold kd;rw [e];rfl
 have e1:kd a 1=y:=by unfold kd;rw [e];rfl
 have e2:kd a 2=z:=by unfold kd;rw [e];rfl
 rw [e0,e1,e2]
 rw [hk] at h
 simpa [WLs,bnd,req,bindsN] using h
theorem kid_k {k i j n:Int} {l:List Tm} {x:Tm} (h:(Tm.mk k i j n l).markedB=true) (hk:k≠12) (hx:x ∈ l):x.markedB=true∧x.k≠0:=by
 have h1:markeds (k==12) 0 l=true:=by
  simp only [Tm.markedB,Bool.and_eq_true] at h
  exact h.2.2.2
 rw [show(k==12)=false by simpa using hk] at h1
 obtain⟨q,hq,rfl⟩:=List.getElem_of_mem hx
 have h2:=markeds_get h1 q hq
 simp only [Bool.false_and,Bool.false_eq_true,if_false] at h2
 refine⟨h2,?_⟩
 rw [Tm.markedB_eq] at h2
 simp only [Bool.and_eq_true,decide_eq_true_eq] at h2
 omega
theorem lg2 {c:List En} {k:Int} (hc:WC c) (h:atB c k=true) (h0:(atU c k).k≠0):Good (envC c) ⟨false,.mk 2 k 0 0 [],.zero,atU c k,atI c k⟩:=by
 unfold atB at h
 have hh:=of_decide_eq_true h
 unfold atU atI at *
 rw [if_pos hh] at h0
 rw [if_pos hh,if_pos hh]
 have hq:c.length-1-k.toNat<c.length:=by omega
 rw [List.getElem?_eq_getElem hq] at h0 ⊢
 simp only [Option.map_some,Option.getD_some] at h0 ⊢
 have hr:c.reverse[k.toNat]? =some c[c.length-1-k.toNat]:=by
  rw [List.getElem?_reverse (by omega),List.getElem?_eq_getElem hq]
 obtain⟨G,h1,h2,h3,h4⟩:=at_lv hc hr
 rw [show((k.toNat:Nat):Int)=k by omega] at h3 h4
 have h5:=lift_lv h3 h1 h0
 exact⟨n_var hh.1,h4,h5.1,h5.2.trans h2,fun h=>by cases h⟩
theorem lg3 {G:Env} {p q:Jd} {r:Int} (hr:r=3∨r=6) (gp:Good G p) (gq:Good (ext p.a.i G) q) (bp:0≤p.i∧p.i≤1000) (bq:0≤q.i∧q.i≤1000) (hc:(isT p&&isT q)=true):Good G ⟨false,nd r p.a.i q.a.i [p.u,q.u],.zero,srt (max p.a.i q.a.i),W64 (max p.a.i q.a.i+1)⟩:=by
 rw [Bool.and_eq_true] at hc
 have h1:=isT_lv gp (isT_out hc.1).2
 have h2:=isT_lv gq (isT_out hc.2).2
 rw [w_at (by omega) (by omega)]
 refine⟨(n_two hr).2 ⟨⟨gp.u,gp.lu.trans h1⟩,gq.u,gq.lu.trans h2⟩,?_,n_srt,?_,fun h=>by cases h⟩
 ·show lv G (nd r _ _ _)=_
  rw [l_nd (by omega)]
  unfold hd
  rw [if_neg (by omega),if_pos hr]
 ·show lv G (srt _)=_
  rw [l_srt]
  show max p.a.i q.a.i+2=max p.a.i q.a.i+1+1
  omega
theorem lg1 {G:Env} {n:Int} (h:0≤n∧n≤900):Good G ⟨false,srt n,.zero,srt (W64 (n+1)),W64 (n+2)⟩:=by
 rw [w_at (by omega) (by omega),w_at (by omega) (by omega)]
 exact⟨n_srt,rfl,n_srt,(by show n+1+2=n+2+1;omega),fun h=>by cases h⟩
theorem lg4 {G:Env} {p q:Jd} (gp:Good G p) (gq:Good (ext p.a.i G) q) (hc:(isT p&&!q.eq)=true):Good G ⟨false,nd 4 p.a.i q.i [p.u,q.a,q.u],.zero,nd 3 p.a.i q.i [p.u,q.a],max p.a.i q.i⟩:=by
 rw [Bool.and_eq_true] at hc
 have h1:=isT_lv gp (isT_out hc.1).2
 exact⟨n_lam.2 ⟨⟨gp.u,gp.lu.trans h1⟩,⟨gq.a,gq.la⟩,gq.u,gq.lu⟩,l_nd (by decide),(n_two (.inl rfl)).2 ⟨⟨gp.u,gp.lu.trans h1⟩,gq.a,gq.la⟩,l_nd (by decide),fun h=>by cases h⟩
theorem lg5 {G:Env} {p q:Jd} (gp:Good G p) (gq:Good G q) (pa:p.a.pureB=true) (hc:(spl p 3&&hasW q (kd p.a 0) p.a.i)=true) (h0:((kd p.a 1).putB q.u).k≠0):Good G ⟨false,nd 5 p.a.i p.a.j [kd p.a 0,kd p.a 1,p.u,q.u],.zero,(kd p.a 1).putB q.u,p.a.j⟩:=by
 rw [Bool.and_eq_true] at hc
 obtain⟨-,hk,hi⟩:=spl_out hc.1
 obtain⟨-,qi,qa⟩:=hasW_out hc.2
 obtain⟨h1,h2⟩:=two_lv gp.a pa (.inl hk)
 have h3:=put_lv h2.1 gq.u (gq.lu.trans qi) h0
 exact⟨n_app.2 ⟨h1,h2,⟨gp.u,gp.lu.trans hi⟩,gq.u,gq.lu.trans qi⟩,l_nd (by decide),h3.1,h3.2.trans h2.2,fun h=>by cases h⟩
theorem lg7 {G:Env} {p q t:Jd} (gp:Good G p) (gq:Good (ext p.i G) q) (gt:Good G t) (hc:prd p q t=true):Good G ⟨false,nd 7 p.i q.a.i [p.a,q.u,p.u,t.u],.zero,nd 6 p.i q.a.i [p.a,q.u],max p.i q.a.i⟩:=by
 obtain⟨-,-,qk,-,ti,-⟩:=prd_out hc
 have h1:=isT_lv gq qk
 exact⟨n_pair.2 ⟨⟨gp.a,gp.la⟩,⟨gq.u,gq.lu.trans h1⟩,⟨gp.u,gp.lu⟩,gt.u,gt.lu.trans ti⟩,l_nd (by decide),(n_two (.inr rfl)).2 ⟨⟨gp.a,gp.la⟩,gq.u,gq.lu.trans h1⟩,l_nd (by decide),fun h=>by cases h⟩
theorem n_fst1 {G:Env} {p:Jd} {k:Int} (hk8:k=8∨k=9) (gp:Good G p) (pa:p.a.pureB=true) (hc:spl p 6=true):WL G (nd k p.a.i p.a.j [kd p.a 0,kd p.a 1,p.u]):=by
 obtain⟨-,hk,hi⟩:=spl_out hc
 obtain⟨h1,h2⟩:=two_lv gp.a pa (.inr hk)
 exact(n_fst hk8).2 ⟨h1,h2,gp.u,gp.lu.trans hi⟩
theorem lg8 {G:Env} {p:Jd} (gp:Good G p) (pa:p.a.pureB=true) (hc:spl p 6=true):Good G ⟨false,nd 8 p.a.i p.a.j [kd p.a 0,kd p.a 1,p.u],.zero,kd p.a 0,p.a.i⟩:=by
 obtain⟨-,hk,hi⟩:=spl_out hc
 obtain⟨h1,h2⟩:=two_lv gp.a pa (.inr hk)
 exact⟨n_fst1 (.inl rfl) gp pa hc,l_nd (by decide),h1.1,h1.2,fun h=>by cases h⟩
theorem lg9 {G:Env} {p:Jd} (gp:Good G p) (pa:p.a.pureB=true) (hc:spl p 6=true) (h0:((kd p.a 1).putB (nd 8 p.a.i p.a.j [kd p.a 0,kd p.a 1,p.u])).k≠0):Good G ⟨false,nd 9 p.a.i p.a.j [kd p.a 0,kd p.a 1,p.u],.zero,(kd p.a 1).putB (nd 8 p.a.i p.a.j [kd p.a 0,kd p.a 1,p.u]),p.a.j⟩:=by
 obtain⟨-,hk,hi⟩:=spl_out hc
 obtain⟨h1,h2⟩:=two_lv gp.a pa (.inr hk)
 have h3:=put_lv h2.1 (n_fst1 (.inl rfl) gp pa hc) (l_nd (by decide)) h0
 exact⟨n_fst1 (.inr rfl) gp pa hc,l_nd (by decide),h3.1,h3.2.trans h2.2,fun h=>by cases h⟩
theorem lg10 {G:Env} {p q:Jd} (gp:Good G p) (gq:Good G q) (bp:0≤p.i∧p.i≤1000) (hc:(!p.eq&&hasW q p.a p.i)=true):Good G ⟨false,nd 10 p.i 0 [p.a,p.u,q.u],.zero,srt p.i,W64 (p.i+1)⟩:=by
 rw [Bool.and_eq_true] at hc
 obtain⟨-,qi,qa⟩:=hasW_out hc.2
 rw [w_at (by omega) (by omega)]
 exact⟨n_eq.2 ⟨⟨gp.a,gp.la⟩,⟨gp.u,gp.lu⟩,gq.u,gq.lu.trans qi⟩,l_nd (by decide),n_srt,(by show p.i+2=p.i+1+1;omega),fun h=>by cases h⟩
theorem lg11 {G:Env} {p:Jd} (gp:Good G p):Good G ⟨false,nd 11 p.i 0 [p.a,p.u],.zero,nd 10 p.i 0 [p.a,p.u,p.u],p.i⟩ :=
 ⟨n_refl.2 ⟨⟨gp.a,gp.la⟩,gp.u,gp.lu⟩,l_nd (by decide),n_eq.2 ⟨⟨gp.a,gp.la⟩,⟨gp.u,gp.lu⟩,gp.u,gp.lu⟩,l_nd (by decide),fun h=>by cases h⟩
theorem lg12 {G:Env} {p q:Jd} (gp:Good G p) (gq:Good G q) (hc:(!p.eq&&cnv p q)=true):Good G ⟨false,p.u,.zero,q.v,p.i⟩:=by
 rw [Bool.and_eq_true] at hc
 obtain⟨qe,qk,qi,-⟩:=cnv_out hc.2
 have h1:=isT_lv gq qk
 have h2:=gq.v qe
 exact⟨gp.u,gp.lu,h2.1,(by show lv G q.v=p.i+1;omega),fun h=>by cases h⟩
theorem lg13 {G:Env} {p:Jd} (gp:Good G p):Good G ⟨true,p.u,p.u,p.a,p.i⟩:=⟨gp.u,gp.lu,gp.a,gp.la,fun _=>⟨gp.u,gp.lu⟩⟩
theorem lg14 {G:Env} {p:Jd} (gp:Good G p) (h:p.eq=true):Good G ⟨true,p.v,p.u,p.a,p.i⟩:=⟨(gp.v h).1,(gp.v h).2,gp.a,gp.la,fun _=>⟨gp.u,gp.lu⟩⟩
theorem lg15 {G:Env} {p q:Jd} (gp:Good G p) (gq:Good G q) (hc:(p.eq&&(q.eq&&(p.i==q.i&&(sameB p.v q.u&&sameB p.a q.a))))=true):Good G ⟨true,p.u,q.v,p.a,p.i⟩:=by
 simp only [Bool.and_eq_true,beq_iff_eq] at hc
 have h:=gq.v hc.2.1
 exact⟨gp.u,gp.lu,gp.a,gp.la,fun _=>⟨h.1,h.2.trans hc.2.2.1.symm⟩⟩
theorem lg16 {G:Env} {p q:Jd} (gp:Good G p) (gq:Good G q) (hc:(p.eq&&cnv p q)=true):Good G ⟨true,p.u,p.v,q.v,p.i⟩:=by
 rw [Bool.and_eq_true] at hc
 obtain⟨qe,qk,qi,-⟩:=cnv_out hc.2
 have h1:=isT_lv gq qk
 have h2:=gq.v qe
 exact⟨gp.u,gp.lu,h2.1,(by show lv G q.v=p.i+1;omega),fun _=>gp.v hc.1⟩
theorem lg17 {G:Env} {p:Jd} (gp:Good G p) (pa:p.a.pureB=true) (hc:prf p=true):Good G ⟨true,kd p.a 1,kd p.a 2,kd p.a 0,p.i⟩:=by
 obtain⟨-,hk,hi⟩:=prf_out hc
 obtain⟨h1,h2,h3⟩:=eq_lv gp.a pa hk
 rw [hi] at h1 h2 h3
 exact⟨h2.1,h2.2,h1.1,h1.2,fun _=>h3⟩
theorem lg18 {G:Env} {p q:Jd} (gp:Good G p) (gq:Good (ext p.i G) q) (h0:(q.u.putB p.u).k≠0) (h1:(q.a.putB p.u).k≠0):Good G ⟨true,nd 5 p.i q.i [p.a,q.a,nd 4 p.i q.i [p.a,q.a,q.u],p.u],q.u.putB p.u,q.a.putB p.u,q.i⟩:=by
 have h2:=put_lv gq.u gp.u gp.lu h0
 have h3:=put_lv gq.a gp.u gp.lu h1
 exact⟨n_app.2 ⟨⟨gp.a,gp.la⟩,⟨gq.a,gq.la⟩,⟨n_lam.2 ⟨⟨gp.a,gp.la⟩,⟨gq.a,gq.la⟩,gq.u,gq.lu⟩,l_nd (by decide)⟩,gp.u,gp.lu⟩,l_nd (by decide),h3.1,h3.2.trans gq.la,fun _=>⟨h2.1,h2.2.trans gq.lu⟩⟩
theorem lg19 {G:Env} {p q t:Jd} (gp:Good G p) (gq:Good (ext p.i G) q) (gt:Good G t) (hc:prd p q t=true):Good G ⟨true,nd 8 p.i q.a.i [p.a,q.u,nd 7 p.i q.a.i [p.a,q.u,p.u,t.u]],p.u,p.a,p.i⟩:=by
 have h:=lg7 gp gq gt hc
 obtain⟨-,-,qk,-,ti,-⟩:=prd_out hc
 have h1:=isT_lv gq qk
 exact⟨(n_fst (.inl rfl)).2 ⟨⟨gp.a,gp.la⟩,⟨gq.u,gq.lu.trans h1⟩,h.u,h.lu⟩,l_nd (by decide),gp.a,gp.la,fun _=>⟨gp.u,gp.lu⟩⟩
theorem lg20 {G:Env} {p q t:Jd} (gp:Good G p) (gq:Good (ext p.i G) q) (gt:Good G t) (hc:prd p q t=true):Good G ⟨true,nd 9 p.i q.a.i [p.a,q.u,nd 7 p.i q.a.i [p.a,q.u,p.u,t.u]],t.u,t.a,q.a.i⟩:=by
 have h:=lg7 gp gq gt hc
 obtain⟨-,-,qk,-,ti,-⟩:=prd_out hc
 have h1:=isT_lv gq qk
 exact⟨(n_fst (.inr rfl)).2 ⟨⟨gp.a,gp.la⟩,⟨gq.u,gq.lu.trans h1⟩,h.u,h.lu⟩,l_nd (by decide),gt.a,gt.la.trans (by rw [ti]),fun _=>⟨gt.u,gt.lu.trans ti⟩⟩
theorem lg21 {G:Env} {p:Jd} (gp:Good G p) (pa:p.a.pureB=true) (hc:spl p 3=true) (hm:(nd 4 p.a.i p.a.j [kd p.a 0,kd p.a 1,nd 5 p.a.i p.a.j [(kd p.a 0).liftB 1 0,(kd p.a 1).liftB 1 1,p.u.liftB 1 0,.mk 2 0 0 0 []]]).markedB=true):Good G ⟨true,p.u,nd 4 p.a.i p.a.j [kd p.a 0,kd p.a 1,nd 5 p.a.i p.a.j [(kd p.a 0).liftB 1 0,(kd p.a 1).liftB 1 1,p.u.liftB 1 0,.mk 2 0 0 0 []]],p.a,p.i⟩:=by
 obtain⟨-,hk,hi⟩:=spl_out hc
 obtain⟨h1,h2⟩:=two_lv gp.a pa (.inl hk)
 have m5:=(kid_k hm (by decide) (List.mem_cons_of_mem _ (List.mem_cons_of_mem _ (List.mem_cons_self ..)))).1
 have l1:=lift_lv (rl_one (i:=p.a.i)) h1.1 (kid_k m5 (by decide) (List.mem_cons_self ..)).2
 have l2:=lift_lv (rl_in (i':=p.a.i)) h2.1 (kid_k m5 (by decide) (List.mem_cons_of_mem _ (List.mem_cons_self ..))).2
 have l3:=lift_lv (rl_one (i:=p.a.i)) gp.u (kid_k m5 (by decide) (List.mem_cons_of_mem _ (List.mem_cons_of_mem _ (List.mem_cons_self ..)))).2
 exact⟨gp.u,gp.lu,gp.a,gp.la,fun _=>⟨n_lam.2 ⟨h1,h2,n_app.2 ⟨⟨l1.1,l1.2.trans h1.2⟩,⟨l2.1,l2.2.trans h2.2⟩,⟨l3.1,l3.2.trans (gp.lu.trans hi)⟩,n_var (v:=0) (Int.le_refl _),rfl⟩,l_nd (by decide)⟩,(l_nd (by decide)).trans hi.symm⟩⟩
theorem lg22 {G:Env} {p:Jd} (gp:Good G p) (pa:p.a.pureB=true) (hc:spl p 6=true):Good G ⟨true,p.u,nd 7 p.a.i p.a.j [kd p.a 0,kd p.a 1,nd 8 p.a.i p.a.j [kd p.a 0,kd p.a 1,p.u],nd 9 p.a.i p.a.j [kd p.a 0,kd p.a 1,p.u]],p.a,p.i⟩:=by
 obtain⟨-,hk,hi⟩:=spl_out hc
 obtain⟨h1,h2⟩:=two_lv gp.a pa (.inr hk)
 exact⟨gp.u,gp.lu,gp.a,gp.la,fun _=>⟨n_pair.2 ⟨h1,h2,⟨n_fst1 (.inl rfl) gp pa hc,l_nd (by decide)⟩,n_fst1 (.inr rfl) gp pa hc,l_nd (by decide)⟩,(l_nd (by decide)).trans hi.symm⟩⟩
theorem lg23 {G:Env} {p q:Jd} (gp:Good G p) (gq:Good (ext p.i G) q) (he:p.eq=true) (h0:(q.u.putB p.u).k≠0) (h1:(q.u.putB p.v).k≠0) (h2:(q.a.putB p.u).k≠0):Good G ⟨true,q.u.putB p.u,q.u.putB p.v,q.a.putB p.u,q.i⟩:=by
 have g0:=put_lv gq.u gp.u gp.lu h0
 have g1:=put_lv gq.u (gp.v he).1 (gp.v he).2 h1
 have g2:=put_lv gq.a gp.u gp.lu h2
 exact⟨g0.1,g0.2.trans gq.lu,g2.1,g2.2.trans gq.la,fun _=>⟨g1.1,g1.2.trans gq.lu⟩⟩
theorem lg24 {G:Env} {p q:Jd} (gp:Good G p) (gq:Good G q) (hc:(prf p&&hasW q p.a p.i)=true):Good G ⟨true,p.u,q.u,p.a,p.i⟩:=by
 rw [Bool.and_eq_true] at hc
 obtain⟨-,qi,-⟩:=hasW_out hc.2
 exact⟨gp.u,gp.lu,gp.a,gp.la,fun _=>⟨gq.u,gq.lu.trans qi⟩⟩
theorem l_two {G:Env} {k i j:Int} {l:List Tm} (hk:k=3∨k=6):lv G (nd k i j l)=max i j+1:=by
 rw [l_nd (by omega)]
 unfold hd
 rw [if_neg (by omega),if_pos hk]
theorem lg25 {G:Env} {p q:Jd} {k:Int} (hk:k=3∨k=6) (gp:Good G p) (gq:Good (ext p.a.i G) q) (bp:0≤p.i∧p.i≤1000) (bq:0≤q.i∧q.i≤1000) (hc:(areT p&&areT q)=true):Good G ⟨true,nd k p.a.i q.a.i [p.u,q.u],nd k p.a.i q.a.i [p.v,q.v],srt (max p.a.i q.a.i),W64 (max p.a.i q.a.i+1)⟩:=by
 rw [Bool.and_eq_true] at hc
 obtain⟨pe,pk⟩:=areT_out hc.1
 obtain⟨qe,qk⟩:=areT_out hc.2
 have h1:=isT_lv gp pk
 have h2:=isT_lv gq qk
 have h3:=gp.v pe
 have h4:=gq.v qe
 rw [w_at (by omega) (by omega)]
 exact⟨(n_two hk).2 ⟨⟨gp.u,gp.lu.trans h1⟩,gq.u,gq.lu.trans h2⟩,l_two hk,n_srt,(by show max p.a.i q.a.i+2=max p.a.i q.a.i+1+1;omega),fun _=>⟨(n_two hk).2 ⟨⟨h3.1,h3.2.trans h1⟩,h4.1,h4.2.trans h2⟩,l_two hk⟩⟩
theorem lg27 {G:Env} {p q t:Jd} (gp:Good G p) (gq:Good (ext p.a.i G) q) (gt:Good (ext p.a.i G) t) (hc:((areT p&&areT q)&&(t.eq&&(t.i==q.a.i&&sameB t.a q.u)))=true):Good G ⟨true,nd 4 p.a.i q.a.i [p.u,q.u,t.u],nd 4 p.a.i q.a.i [p.v,q.v,t.v],nd 3 p.a.i q.a.i [p.u,q.u],max p.a.i q.a.i⟩:=by
 simp only [Bool.and_eq_true,beq_iff_eq] at hc
 obtain⟨pe,pk⟩:=areT_out hc.1.1
 obtain⟨qe,qk⟩:=areT_out hc.1.2
 have h1:=isT_lv gp pk
 have h2:=isT_lv gq qk
 have h3:=gp.v pe
 have h4:=gq.v qe
 have h5:=gt.v hc.2.1
 have h6:=hc.2.2.1
 exact⟨n_lam.2 ⟨⟨gp.u,gp.lu.trans h1⟩,⟨gq.u,gq.lu.trans h2⟩,gt.u,gt.lu.trans h6⟩,l_nd (by decide),(n_two (.inl rfl)).2 ⟨⟨gp.u,gp.lu.trans h1⟩,gq.u,gq.lu.trans h2⟩,l_nd (by decide),fun _=>⟨n_lam.2 ⟨⟨h3.1,h3.2.trans h1⟩,⟨h4.1,h4.2.trans h2⟩,h5.1,h5.2.trans h6⟩,l_nd (by decide)⟩⟩
theorem lg28 {G:Env} {p q s t:Jd} (gp:Good G p) (gq:Good (ext p.a.i G) q) (gs:Good G s) (gt:Good G t) (hc:(((areT p&&areT q)&&hasW s p.u p.a.i)&&hasW t (q.u.putB s.u) q.a.i)=true):Good G ⟨true,nd 7 p.a.i q.a.i [p.u,q.u,s.u,t.u],nd 7 p.a.i q.a.i [p.v,q.v,s.u,t.u],nd 6 p.a.i q.a.i [p.u,q.u],max p.a.i q.a.i⟩:=by
 simp only [Bool.and_eq_true] at hc
 obtain⟨pe,pk⟩:=areT_out hc.1.1.1
 obtain⟨qe,qk⟩:=areT_out hc.1.1.2
 have h1:=isT_lv gp pk
 have h2:=isT_lv gq qk
 have h3:=gp.v pe
 have h4:=gq.v qe
 obtain⟨-,si,-⟩:=hasW_out hc.1.2
 obtain⟨-,ti,-⟩:=hasW_out hc.2
 exact⟨n_pair.2 ⟨⟨gp.u,gp.lu.trans h1⟩,⟨gq.u,gq.lu.trans h2⟩,⟨gs.u,gs.lu.trans si⟩,gt.u,gt.lu.trans ti⟩,l_nd (by decide),(n_two (.inr rfl)).2 ⟨⟨gp.u,gp.lu.trans h1⟩,gq.u,gq.lu.trans h2⟩,l_nd (by decide),fun _=>⟨n_pair.2 ⟨⟨h3.1,h3.2.trans h1⟩,⟨h4.1,h4.2.trans h2⟩,⟨gs.u,gs.lu.trans si⟩,gt.u,gt.lu.trans ti⟩,l_nd (by decide)⟩⟩
end Go.Proofs.Ytgnllglbopaheaa.Lv

namespace Go.Proofs.Ytgnllglbopaheaa.Se
open Go Go.RowKit
theorem optK_counts {F:Nat→Tm→Option Tm}:∀ (l:List Tm) (p:Nat) {m:List Tm},optK F p l=some m→(∀ q x y,x ∈ l→F q x=some y→y.count=0)→counts m=0
 | [],_,m,h,_=>by cases h;rfl
 | x::r,p,m,h,hF=>by
  simp only [optK] at h
  cases hx:F p x with
  | none=>rw [hx] at h;cases h
  | some y =>
   rw [hx] at h
   simp only [Option.bind_some] at h
   cases hr:optK F (p+1) r with
   | none=>rw [hr] at h;cases h
   | some m' =>
    rw [hr] at h
    cases h
    have h1:=hF p x y (List.mem_cons_self ..) hx
    have h2:=optK_counts r (p+1) hr (fun q z w hz=>hF q z w (List.mem_cons_of_mem _ hz))
    simp only [counts]
    omega
theorem count_kids {t:Tm} (hc:t.count=0):t.k≠12∧∀ x ∈ t.kids,x.count=0:=by
 have hce:t.count=(if t.k=12 then 1 else 0)+counts t.kids:=by cases t;rfl
 rw [hce] at hc
 refine⟨fun h=>?_,fun x hx=>?_⟩
 ·rw [if_pos h] at hc;omega
 ·have:=counts_mem hx
  omega
theorem count_node {k i j n:Int} {l:List Tm} (h12:k≠12) (h:counts l=0):(Tm.mk k i j n l).count=0:=by
 simp only [Tm.count,h,if_neg h12]
theorem each_count (f:Int→Int→Option Int) (t:Tm):∀ b x,t.count=0→t.each f b=some x→x.count=0:=by
 induction t using Tm.ind with
 | h t ih =>
  intro b x hc h
  obtain⟨h12,hk⟩:=count_kids hc
  by_cases h2:t.k=2
  ·rw [Tm.each_var _ _ _ h2] at h
   cases hf:f t.i b with
   | none=>rw [hf] at h;cases h
   | some v=>rw [hf] at h;cases h;rfl
  ·rw [Tm.each_node _ _ _ h2] at h
   cases ho:optK (fun q x=>x.each f (b+bindsN t.k q)) 0 t.kids with
   | none=>rw [ho] at h;cases h
   | some m =>
    rw [ho] at h
    cases h
    exact count_node h12 (optK_counts t.kids 0 ho (fun q x y hx hy=>ih x hx _ y (hk x hx) hy))
theorem putG_count {u:Tm} (hu:u.count=0) (t:Tm):∀ b x,t.count=0→t.putG (gPut u) b false=some x→x.count=0:=by
 induction t using Tm.ind with
 | h t ih =>
  intro b x hc h
  obtain⟨h12,hk⟩:=count_kids hc
  by_cases h2:t.k=2
  ·rw [Tm.putG_var _ _ _ _ h2] at h
   unfold gPut at h
   split at h
   ·cases h;rfl
   ·split at h
    ·simp only [Bool.false_eq_true,if_false] at h
     exact each_count _ _ _ _ hu h
    ·cases h;rfl
  ·rw [Tm.putG_node _ _ _ _ h2] at h
   cases ho:optK (fun q x=>x.putG (gPut u) (b+bindsN t.k q) (false||(t.k==12&&q==2))) 0 t.kids with
   | none=>rw [ho] at h;cases h
   | some m =>
    rw [ho] at h
    cases h
    have h12':(t.k==12)=false:=by simpa using h12
    exact count_node h12 (optK_counts t.kids 0 ho (fun q x y hx hy=>by
     rw [h12'] at hy
     exact ih x hx _ y (hk x hx) hy))
theorem each_shift (k c:Int) (t:Tm):∀ b,t.each (liftF k c) b=t.each (liftF k 0) (b+c):=by
 induction t using Tm.ind with
 | h t ih =>
  intro b
  by_cases h2:t.k=2
  ·rw [Tm.each_var _ _ _ h2,Tm.each_var _ _ _ h2]
   have:liftF k c t.i b=liftF k 0 t.i (b+c):=by
    unfold liftF
    by_cases h:t.i-b<c
    ·rw [if_pos h,if_pos (by omega)]
    ·rw [if_neg h,if_neg (c:=t.i-(b+c)<0) (by omega)]
   rw [this]
  ·rw [Tm.each_node _ _ _ h2,Tm.each_node _ _ _ h2]
   congr 1
   have key:∀ (l:List Tm) (p:Nat),(∀ x ∈ l,x ∈ t.kids)→optK (fun q x=>x.each (liftF k c) (b+bindsN t.k q)) p l=optK (fun q x=>x.each (liftF k 0) (b+c+bindsN t.k q)) p l:=by
    intro l
    induction l with
    | nil=>intro p _;rfl
    | cons a r ihr =>
     intro p h
     simp only [optK]
     rw [ihr (p+1) (fun x hx=>h x (List.mem_cons_of_mem _ hx)),ih a (h a (List.mem_cons_self ..)),show b+bindsN t.k p+c=b+c+bindsN t.k p by omega]
   exact key t.kids 0 (fun x hx=>hx)
structure Fit (t:Tm) (N:Int):Prop where
 p:t.pureB=true
 f:t.freeN≤N
theorem Fit.le {t:Tm} {N M:Int} (h:Fit t N) (hm:N≤M):Fit t M:=⟨h.p,Int.le_trans h.f hm⟩
theorem pure_right {t:Tm} (h:t.pureB=true):t.rightB=true:=marked_right (pure_marked h)
theorem pure_of {t:Tm} (h:t.markedB=true) (hc:t.count=0):t.pureB=true:=by unfold Tm.pureB;rw [h,hc];rfl
theorem fit_of {t:Tm} {n:Int} (h:jfitB t n=true):Fit t n:=by
 unfold jfitB at h
 simp only [Bool.and_eq_true,decide_eq_true_eq] at h
 refine⟨h.1,?_⟩
 rw [←free_of (pure_right h.1)]
 exact h.2
theorem Fit.b {k q N:Int} {t:Tm} (h:Fit t N):Fit t (N+bindsN k q):=h.le (by have:=(binds_range k q).1;omega)
theorem Fit.c {k q N:Int} {t:Tm} (h:Fit t (N+1)) (hb:1≤bindsN k q:=by decide):Fit t (N+bindsN k q):=h.le (by omega)
theorem Fit.d {k q N:Int} {t:Tm} (h:Fit t (N+bindsN k q)) (hb:bindsN k q≤1:=by decide):Fit t (N+1):=h.le (by omega)
theorem Fit.e {k q N:Int} {t:Tm} (h:Fit t (N+bindsN k q)) (hb:bindsN k q≤0:=by decide):Fit t N:=h.le (by omega)
def FitL (k N:Int):Nat→List Tm→Prop
 | _,[]=>True
 | q,x::r=>Fit x (N+bindsN k q)∧FitL k N (q+1) r
theorem fitL_get {k N:Int}:∀ (l:List Tm) (p:Nat),FitL k N p l→∀ q (h:q<l.length),Fit l[q] (N+bindsN k ((p+q:Nat):Int))
 | [],_,_,q,h=>by simp at h
 | x::r,p,hf,0,h=>by simpa using hf.1
 | x::r,p,hf,q+1,h=>by
  have:=fitL_get r (p+1) hf.2 q (by simpa using h)
  rw [show p+1+q=p+(q+1) by omega] at this
  simpa using this
theorem fit_nd {k i j N:Int} {l:List Tm} (hk:3≤k∧k≤11) (hl:(l.length:Int)=kidsN k 0) (hn:numbersN k i j 0=true) (hN:0≤N) (h:FitL k N 0 l):Fit (nd k i j l) N:=by
 have hg:=fitL_get l 0 h
 refine⟨pure_of ?_ (count_node (by omega) ?_),?_⟩
 ·rw [Tm.markedB_eq]
  show((decide (1≤k)&&decide (k≤12))&&((nd k i j l).nodeB&&markeds (k==12) 0 l))=true
  have h12:(k==12)=false:=by
   have:k≠12:=by omega
   simpa using this
  have hm:markeds false 0 l=true:=by
   refine markeds_put fun q hq=>?_
   simp only [Bool.false_and,Bool.false_eq_true,if_false]
   exact pure_marked (hg q hq).p
  have hnd:(nd k i j l).nodeB=true:=by
   show(((l.length:Int)==kidsN k 0)&&numbersN k i j 0)=true
   rw [hl,hn]
   simp
  rw [h12,hm,hnd]
  simp
  omega
 ·refine counts_zero fun x hx=>?_
  obtain⟨q,hq,rfl⟩:=List.getElem_of_mem hx
  exact pure_count (hg q hq).p
 ·rw [Tm.freeN_eq]
  show(if k=2 then i+1 else frees k 0 l)≤N
  rw [if_neg (by omega)]
  refine frees_bound k N hN l 0 fun q hq=>?_
  have:=(hg q hq).f
  omega
def lv (i:Int):Prop:=0≤i∧i≤1000
theorem lv_b {i:Int}:levelB i=true↔lv i:=by unfold levelB lv;simp
theorem num_a {k i j:Int} (hk:3≤k∧k≤9) (hi:lv i) (hj:lv j):numbersN k i j 0=true:=by
 unfold numbersN
 rw [if_neg (by omega),if_neg (by omega),if_pos (by omega),lv_b.2 hi,lv_b.2 hj]
 rfl
theorem num_b {k i:Int} (hk:k=10∨k=11) (hi:lv i):numbersN k i 0 0=true:=by
 unfold numbersN
 rw [if_neg (by omega),if_pos (by omega),lv_b.2 hi]
 rfl
theorem lv_max {i j:Int} (hi:lv i) (hj:lv j):lv (max i j):=by unfold lv at *;omega
theorem pure_num {t:Tm} (h:t.pureB=true):numbersN t.k t.i t.j t.n=true:=by
 have:=Tm.right_node (pure_right h)
 unfold Tm.nodeB at this
 rw [Bool.and_eq_true] at this
 exact this.2
theorem lv_os {t:Tm} (h:t.pureB=true) (hk:t.k=1∨t.k=10∨t.k=11):lv t.i:=by
 have:=pure_num h
 unfold numbersN at this
 rw [if_neg (by omega),if_pos (by omega),Bool.and_eq_true] at this
 exact lv_b.1 this.1
theorem lv_two {t:Tm} (h:t.pureB=true) (hk:t.k=3∨t.k=6):lv t.i∧lv t.j:=by
 have:=pure_num h
 unfold numbersN at this
 rw [if_neg (by omega),if_neg (by omega),if_pos (by omega),Bool.and_eq_true,Bool.and_eq_true] at this
 exact⟨lv_b.1 this.1,lv_b.1 this.2.1⟩
theorem fit_srt {i N:Int} (hi:lv i) (hN:0≤N):Fit (srt i) N:=by
 refine⟨pure_of ?_ rfl,?_⟩
 ·rw [Tm.markedB_eq]
  show(true&&((true&&numbersN 1 i 0 0)&&true))=true
  have:numbersN 1 i 0 0=true:=by
   unfold numbersN
   rw [if_neg (by omega),if_pos (by omega),lv_b.2 hi]
   rfl
  rw [this]
  rfl
 ·rw [Tm.freeN_eq]
  exact hN
theorem fit_var {n N:Int} (h0:0≤n) (h1:n<N) (h2:N≤100000):Fit (.mk 2 n 0 0 []) N:=by
 refine⟨pure_of (var_right h0 (by omega)).1 rfl,?_⟩
 rw [Tm.freeN_eq]
 show n+1≤N
 omega
theorem fit_kid {x y:Tm} {N:Int} {q:Nat} (h:Fit x N) (h2:x.k≠2) (h12:x.k≠12) (hy:x.kids[q]? =some y):Fit y (N+bindsN x.k q):=by
 obtain⟨hq,rfl⟩:=List.getElem?_eq_some_iff.1 hy
 refine⟨pure_kid h.p h12 (List.getElem_mem hq),?_⟩
 have:=frees_get x.k x.kids 0 q hq
 have hf:=h.f
 rw [Tm.freeN_eq,if_neg h2] at hf
 rw [Nat.zero_add] at this
 omega
theorem fit_put {t u:Tm} {N:Int} (ht:Fit t (N+1)) (hu:Fit u N) (hN0:0≤N) (hN:N≤1000) (h1:t.size≤100000) (h2:u.size≤100000):Fit (t.putB u) N:=by
 have hr:=pure_right ht.p
 have hru:=pure_right hu.p
 have hmu:=pure_marked hu.p
 have hfu:u.freeN≤1048576:=by have:=hu.f;omega
 have hdt:t.deep≤100000:=Nat.le_trans (deep_le_size _) h1
 have hdu:u.deep≤100000:=Nat.le_trans (deep_le_size _) h2
 obtain⟨hk1,hk2,hk3⟩:=putB_keeps hr (may_marked hmu) hfu hdt hdu
 have hk:decide (12<t.k)=false:=by
  have:=(pure_kind ht.p).1
  simp
  omega
 obtain⟨x,hx⟩:=put_comes hr hru hfu hdt hdu (decide (12<t.k))
 refine⟨pure_of (hk2 (pure_marked ht.p) hmu) ?_,?_⟩
 ·rw [putB_good hr (may_marked hmu) hx]
  rw [hk] at hx
  exact putG_count (pure_count hu.p) t 0 x (pure_count ht.p) hx
 ·rw [free_of hk1,free_of hr,free_of hru] at hk3
  have:=ht.f
  have:=hu.f
  omega
theorem fit_lift {t:Tm} {N c:Int} (h:Fit t N) (hc:0≤c) (hN:N≤1000) (hs:t.size≤100000):Fit (t.liftB 1 c) (N+1):=by
 have hr:=pure_right h.p
 obtain⟨u,hu⟩:=lift_comes (k:=1) (c:=c) (by omega) (by omega) hr (by have:=h.f;omega) (Nat.le_trans (deep_le_size _) hs)
 rw [liftB_good (by omega) hc hr,hu,Option.getD_some]
 obtain⟨h1,-,-⟩:=each_keeps _ (liftF_range 1 c (by omega)) t 0 u hr hu
 refine⟨pure_of (by rw [h1];exact pure_marked h.p) (each_count _ t 0 u (pure_count h.p) hu),?_⟩
 rw [each_shift] at hu
 have hf:=lift_free 1 (by omega) t (0+c) u (by omega) hr hu
 have:=h.f
 split at hf<;>omega
theorem w64 {x:Int} (h:-1000000≤x∧x≤1000000):W64 x=x:=IntWalk.i64_in _ (by omega)
structure Rj (p:Jd) (N:Int):Prop where
 i:lv p.i
 u:Fit p.u N
 a:Fit p.a N
 v:p.eq=true→Fit p.v N
 su:p.u.size≤1000
 sv:p.v.size≤1000
 sa:p.a.size≤1000
theorem rj_of {p:Jd} {N:Int} (h:rightJ p N=true) (hs:p.u.size≤1000∧p.v.size≤1000∧p.a.size≤1000):Rj p N:=by
 unfold rightJ at h
 simp only [Bool.and_eq_true,decide_eq_true_eq] at h
 refine⟨h.1,fit_of h.2.1.1,fit_of h.2.1.2,fun he=>?_,hs.1,hs.2.1,hs.2.2⟩
 have:=h.2.2
 rw [if_pos he] at this
 exact fit_of this
structure Gd (N r:Int) (j:Jd):Prop where
 e:j.eq=Dv.equalB r
 i:0≤j.i
 u:Fit j.u N
 a:Fit j.a N
 v:j.eq=true→Fit j.v N
 z:j.eq=false→j.v=.zero
theorem kd_kid {x:Tm} {N:Int} (q:Nat) (h:Fit x N) (hk:(x.k=3∨x.k=6)∧q<2∨x.k=10∧q<3):Fit (kd x q) (N+bindsN x.k q)∧(kd x q).size≤x.size:=by
 have hl:=(pure_kind h.p).2
 have hq:q<x.kids.length:=by
  unfold kidsN at hl
  rcases hk with ⟨e | e,hq⟩ | ⟨e,hq⟩<;>rw [e] at hl<;>simp at hl<;>omega
 have hg:x.kids[q]? =some x.kids[q]:=List.getElem?_eq_getElem hq
 unfold kd
 rw [hg,Option.getD_some]
 exact⟨fit_kid h (by omega) (by omega) hg,kid_size (List.getElem_mem hq)⟩
end Go.Proofs.Ytgnllglbopaheaa.Se

namespace Go.Proofs.Ytgnllglbopaheaa.Se
open Go Go.RowKit
theorem w64_nn {x:Int} (h:lv x):0≤W64 (x+1):=by
 unfold lv at h
 rw [w64 (by omega)]
 omega
theorem osW_k {a:Tm} {i:Int} (h:osW a i=true):a.k=1:=by
 unfold osW at h
 simp only [Bool.and_eq_true,beq_iff_eq] at h
 exact h.1
theorem isT_k {p:Jd} (h:isT p=true):p.eq=false∧p.a.k=1:=by
 unfold isT at h
 simp only [Bool.and_eq_true,Bool.not_eq_true'] at h
 exact⟨h.1,osW_k h.2⟩
theorem areT_k {p:Jd} (h:areT p=true):p.eq=true∧p.a.k=1:=by
 unfold areT at h
 simp only [Bool.and_eq_true] at h
 exact⟨h.1,osW_k h.2⟩
theorem spl_k {p:Jd} {k:Int} (h:spl p k=true):p.eq=false∧p.a.k=k:=by
 unfold spl at h
 simp only [Bool.and_eq_true,Bool.not_eq_true',beq_iff_eq] at h
 exact⟨h.1,h.2.1⟩
theorem prf_k {p:Jd} (h:prf p=true):p.eq=false∧p.a.k=10:=by
 unfold prf at h
 simp only [Bool.and_eq_true,Bool.not_eq_true',beq_iff_eq] at h
 exact⟨h.1,h.2.1⟩
theorem cnv_k {p q:Jd} (h:cnv p q=true):q.eq=true∧q.a.k=1:=by
 unfold cnv at h
 rw [Bool.and_eq_true] at h
 exact areT_k h.1
theorem kd_two {x:Tm} {N:Int} (h:Fit x N) (hk:x.k=3∨x.k=6):Fit (kd x 0) N∧Fit (kd x 1) (N+1)∧(kd x 0).size≤x.size∧(kd x 1).size≤x.size:=by
 have h0:=kd_kid 0 h (Or.inl ⟨hk,by omega⟩)
 have h1:=kd_kid 1 h (Or.inl ⟨hk,by omega⟩)
 rcases hk with e | e<;>rw [e] at h0 h1<;>exact⟨h0.1.e,h1.1.d,h0.2,h1.2⟩
theorem kd_three {x:Tm} {N:Int} (h:Fit x N) (hk:x.k=10):Fit (kd x 0) N∧Fit (kd x 1) N∧Fit (kd x 2) N:=by
 have h0:=kd_kid 0 h (Or.inr ⟨hk,by omega⟩)
 have h1:=kd_kid 1 h (Or.inr ⟨hk,by omega⟩)
 have h2:=kd_kid 2 h (Or.inr ⟨hk,by omega⟩)
 rw [hk] at h0 h1 h2
 exact⟨h0.1.e,h1.1.e,h2.1.e⟩
theorem gd3 {p q:Jd} {N:Int} (hN:0≤N) (_:N≤300) (P:Rj p (N)) (Q:Rj q (N+1)) (h:(isT p&&isT q)=true):Gd N 3 ⟨false,nd 3 p.a.i q.a.i [p.u,q.u],.zero,srt (max p.a.i q.a.i),W64 (max p.a.i q.a.i+1)⟩:=by
 rw [Bool.and_eq_true] at h
 obtain⟨hp,hq⟩:=h
 obtain⟨-,kp⟩:=isT_k hp
 have lp:=lv_os P.a.p (Or.inl kp)
 obtain⟨-,kq⟩:=isT_k hq
 have lq:=lv_os Q.a.p (Or.inl kq)
 exact⟨rfl,w64_nn (lv_max lp lq),fit_nd (k:=3) (by decide) rfl (num_a (by decide) lp lq) hN ⟨(P.u).b,(Q.u).c,trivial⟩,fit_srt (lv_max lp lq) hN,(fun h=>by cases h),(fun _=>rfl)⟩
theorem gd4 {p q:Jd} {N:Int} (hN:0≤N) (_:N≤300) (P:Rj p (N)) (Q:Rj q (N+1)) (h:(isT p&&!q.eq)=true):Gd N 4 ⟨false,nd 4 p.a.i q.i [p.u,q.a,q.u],.zero,nd 3 p.a.i q.i [p.u,q.a],max p.a.i q.i⟩:=by
 rw [Bool.and_eq_true] at h
 obtain⟨hp,-⟩:=h
 obtain⟨-,kp⟩:=isT_k hp
 have lp:=lv_os P.a.p (Or.inl kp)
 exact⟨rfl,(lv_max lp Q.i).1,fit_nd (k:=4) (by decide) rfl (num_a (by decide) lp Q.i) hN ⟨(P.u).b,(Q.a).c,(Q.u).c,trivial⟩,fit_nd (k:=3) (by decide) rfl (num_a (by decide) lp Q.i) hN ⟨(P.u).b,(Q.a).c,trivial⟩,(fun h=>by cases h),(fun _=>rfl)⟩
theorem gd5 {p q:Jd} {N:Int} (hN:0≤N) (hN2:N≤300) (P:Rj p (N)) (Q:Rj q (N)) (h:(spl p 3&&hasW q (kd p.a 0) p.a.i)=true):Gd N 5 ⟨false,nd 5 p.a.i p.a.j [kd p.a 0,kd p.a 1,p.u,q.u],.zero,(kd p.a 1).putB q.u,p.a.j⟩:=by
 rw [Bool.and_eq_true] at h
 obtain⟨hp,-⟩:=h
 obtain⟨-,kp⟩:=spl_k hp
 obtain⟨K0,K1,z0,z1⟩:=kd_two P.a (by omega)
 obtain⟨li,lj⟩:=lv_two P.a.p (by omega)
 exact⟨rfl,lj.1,fit_nd (k:=5) (by decide) rfl (num_a (by decide) li lj) hN ⟨(K0).b,(K1).c,(P.u).b,(Q.u).b,trivial⟩,fit_put K1 Q.u hN (by omega) (Nat.le_trans z1 (Nat.le_trans P.sa (by decide))) (Nat.le_trans Q.su (by decide)),(fun h=>by cases h),(fun _=>rfl)⟩
theorem gd6 {p q:Jd} {N:Int} (hN:0≤N) (_:N≤300) (P:Rj p (N)) (Q:Rj q (N+1)) (h:(isT p&&isT q)=true):Gd N 6 ⟨false,nd 6 p.a.i q.a.i [p.u,q.u],.zero,srt (max p.a.i q.a.i),W64 (max p.a.i q.a.i+1)⟩:=by
 rw [Bool.and_eq_true] at h
 obtain⟨hp,hq⟩:=h
 obtain⟨-,kp⟩:=isT_k hp
 have lp:=lv_os P.a.p (Or.inl kp)
 obtain⟨-,kq⟩:=isT_k hq
 have lq:=lv_os Q.a.p (Or.inl kq)
 exact⟨rfl,w64_nn (lv_max lp lq),fit_nd (k:=6) (by decide) rfl (num_a (by decide) lp lq) hN ⟨(P.u).b,(Q.u).c,trivial⟩,fit_srt (lv_max lp lq) hN,(fun h=>by cases h),(fun _=>rfl)⟩
theorem gd7 {p q t:Jd} {N:Int} (hN:0≤N) (_:N≤300) (P:Rj p (N)) (Q:Rj q (N+1)) (T:Rj t (N)) (h:prd p q t=true):Gd N 7 ⟨false,nd 7 p.i q.a.i [p.a,q.u,p.u,t.u],.zero,nd 6 p.i q.a.i [p.a,q.u],max p.i q.a.i⟩:=by
 unfold prd at h
 simp only [Bool.and_eq_true] at h
 have hq:=h.1.1
 obtain⟨-,kq⟩:=isT_k hq
 have lq:=lv_os Q.a.p (Or.inl kq)
 exact⟨rfl,(lv_max P.i lq).1,fit_nd (k:=7) (l:=[p.a,q.u,p.u,t.u]) (by decide) rfl (num_a (by decide) P.i lq) hN ⟨(P.a).b,(Q.u).c,(P.u).b,(T.u).b,trivial⟩,fit_nd (k:=6) (by decide) rfl (num_a (by decide) P.i lq) hN ⟨(P.a).b,(Q.u).c,trivial⟩,(fun h=>by cases h),(fun _=>rfl)⟩
theorem gd8 {p:Jd} {N:Int} (hN:0≤N) (_:N≤300) (P:Rj p (N)) (h:spl p 6=true):Gd N 8 ⟨false,nd 8 p.a.i p.a.j [kd p.a 0,kd p.a 1,p.u],.zero,kd p.a 0,p.a.i⟩:=by
 have hp:=h
 obtain⟨-,kp⟩:=spl_k hp
 obtain⟨K0,K1,z0,z1⟩:=kd_two P.a (by omega)
 obtain⟨li,lj⟩:=lv_two P.a.p (by omega)
 exact⟨rfl,li.1,fit_nd (k:=8) (l:=[kd p.a 0,kd p.a 1,p.u]) (by decide) rfl (num_a (by decide) li lj) hN ⟨(K0).b,(K1).c,(P.u).b,trivial⟩,K0,(fun h=>by cases h),(fun _=>rfl)⟩
theorem gd9 {p:Jd} {N:Int} (hN:0≤N) (hN2:N≤300) (P:Rj p (N)) (h:spl p 6=true):Gd N 9 ⟨false,nd 9 p.a.i p.a.j [kd p.a 0,kd p.a 1,p.u],.zero,(kd p.a 1).putB (nd 8 p.a.i p.a.j [kd p.a 0,kd p.a 1,p.u]),p.a.j⟩:=by
 have hp:=h
 obtain⟨-,kp⟩:=spl_k hp
 obtain⟨K0,K1,z0,z1⟩:=kd_two P.a (by omega)
 obtain⟨li,lj⟩:=lv_two P.a.p (by omega)
 exact⟨rfl,lj.1,fit_nd (k:=9) (by decide) rfl (num_a (by decide) li lj) hN ⟨(K0).b,(K1).c,(P.u).b,trivial⟩,fit_put K1 (fit_nd (k:=8) (l:=[kd p.a 0,kd p.a 1,p.u]) (by decide) rfl (num_a (by decide) li lj) hN ⟨(K0).b,(K1).c,(P.u).b,trivial⟩) hN (by omega) (Nat.le_trans z1 (Nat.le_trans P.sa (by decide))) (by have:=P.sa;have:=P.su;simp only [nd,Tm.size,sizes];omega),(fun h=>by cases h),(fun _=>rfl)⟩
theorem gd10 {p q:Jd} {N:Int} (hN:0≤N) (_:N≤300) (P:Rj p (N)) (Q:Rj q (N)) (_:(!p.eq&&hasW q p.a p.i)=true):Gd N 10 ⟨false,nd 10 p.i 0 [p.a,p.u,q.u],.zero,srt p.i,W64 (p.i+1)⟩:=by
 exact⟨rfl,w64_nn P.i,fit_nd (k:=10) (by decide) rfl (num_b (by decide) P.i) hN ⟨(P.a).b,(P.u).b,(Q.u).b,trivial⟩,fit_srt P.i hN,(fun h=>by cases h),(fun _=>rfl)⟩
theorem gd11 {p:Jd} {N:Int} (hN:0≤N) (_:N≤300) (P:Rj p (N)) (_:(!p.eq)=true):Gd N 11 ⟨false,nd 11 p.i 0 [p.a,p.u],.zero,nd 10 p.i 0 [p.a,p.u,p.u],p.i⟩:=by
 exact⟨rfl,P.i.1,fit_nd (k:=11) (by decide) rfl (num_b (by decide) P.i) hN ⟨(P.a).b,(P.u).b,trivial⟩,fit_nd (k:=10) (by decide) rfl (num_b (by decide) P.i) hN ⟨(P.a).b,(P.u).b,(P.u).b,trivial⟩,(fun h=>by cases h),(fun _=>rfl)⟩
theorem gd12 {p q:Jd} {N:Int} (_:0≤N) (_:N≤300) (P:Rj p (N)) (Q:Rj q (N)) (h:(!p.eq&&cnv p q)=true):Gd N 12 ⟨false,p.u,.zero,q.v,p.i⟩:=by
 rw [Bool.and_eq_true] at h
 obtain⟨-,hq⟩:=h
 obtain⟨eq,-⟩:=cnv_k hq
 exact⟨rfl,P.i.1,P.u,Q.v eq,(fun h=>by cases h),(fun _=>rfl)⟩
theorem gd13 {p:Jd} {N:Int} (_:0≤N) (_:N≤300) (P:Rj p (N)) (_:(!p.eq)=true):Gd N 13 ⟨true,p.u,p.u,p.a,p.i⟩:=by
 exact⟨rfl,P.i.1,P.u,P.a,(fun _=>P.u),(fun h=>by cases h)⟩
theorem gd14 {p:Jd} {N:Int} (_:0≤N) (_:N≤300) (P:Rj p (N)) (h:p.eq=true):Gd N 14 ⟨true,p.v,p.u,p.a,p.i⟩:=by
 have hp:=h
 exact⟨rfl,P.i.1,P.v hp,P.a,(fun _=>P.u),(fun h=>by cases h)⟩
theorem gd15 {p q:Jd} {N:Int} (_:0≤N) (_:N≤300) (P:Rj p (N)) (Q:Rj q (N)) (h:(p.eq&&(q.eq&&(p.i==q.i&&(sameB p.v q.u&&sameB p.a q.a))))=true):Gd N 15 ⟨true,p.u,q.v,p.a,p.i⟩:=by
 rw [Bool.and_eq_true] at h
 obtain⟨-,hq⟩:=h
 rw [Bool.and_eq_true] at hq
 exact⟨rfl,P.i.1,P.u,P.a,(fun _=>Q.v hq.1),(fun h=>by cases h)⟩
theorem gd16 {p q:Jd} {N:Int} (_:0≤N) (_:N≤300) (P:Rj p (N)) (Q:Rj q (N)) (h:(p.eq&&cnv p q)=true):Gd N 16 ⟨true,p.u,p.v,q.v,p.i⟩:=by
 rw [Bool.and_eq_true] at h
 obtain⟨hp,hq⟩:=h
 obtain⟨eq,-⟩:=cnv_k hq
 exact⟨rfl,P.i.1,P.u,Q.v eq,(fun _=>P.v hp),(fun h=>by cases h)⟩
theorem gd17 {p:Jd} {N:Int} (_:0≤N) (_:N≤300) (P:Rj p (N)) (h:prf p=true):Gd N 17 ⟨true,kd p.a 1,kd p.a 2,kd p.a 0,p.i⟩:=by
 have hp:=h
 obtain⟨-,kp⟩:=prf_k hp
 obtain⟨K0,K1,K2⟩:=kd_three P.a kp
 exact⟨rfl,P.i.1,K1,K0,(fun _=>K2),(fun h=>by cases h)⟩
theorem gd18 {p q:Jd} {N:Int} (hN:0≤N) (hN2:N≤300) (P:Rj p (N)) (Q:Rj q (N+1)) (_:(!p.eq&&!q.eq)=true):Gd N 18 ⟨true,nd 5 p.i q.i [p.a,q.a,nd 4 p.i q.i [p.a,q.a,q.u],p.u],q.u.putB p.u,q.a.putB p.u,q.i⟩:=by
 exact⟨rfl,Q.i.1,fit_nd (k:=5) (by decide) rfl (num_a (by decide) P.i Q.i) hN ⟨(P.a).b,(Q.a).c,(fit_nd (k:=4) (l:=[p.a,q.a,q.u]) (by decide) rfl (num_a (by decide) P.i Q.i) hN ⟨(P.a).b,(Q.a).c,(Q.u).c,trivial⟩).b,(P.u).b,trivial⟩,fit_put Q.a P.u hN (by omega) (Nat.le_trans Q.sa (by decide)) (Nat.le_trans P.su (by decide)),(fun _=>fit_put Q.u P.u hN (by omega) (Nat.le_trans Q.su (by decide)) (Nat.le_trans P.su (by decide))),(fun h=>by cases h)⟩
theorem gd19 {p q t:Jd} {N:Int} (hN:0≤N) (_:N≤300) (P:Rj p (N)) (Q:Rj q (N+1)) (T:Rj t (N)) (h:prd p q t=true):Gd N 19 ⟨true,nd 8 p.i q.a.i [p.a,q.u,nd 7 p.i q.a.i [p.a,q.u,p.u,t.u]],p.u,p.a,p.i⟩:=by
 unfold prd at h
 simp only [Bool.and_eq_true] at h
 have hq:=h.1.1
 obtain⟨-,kq⟩:=isT_k hq
 have lq:=lv_os Q.a.p (Or.inl kq)
 exact⟨rfl,P.i.1,fit_nd (k:=8) (by decide) rfl (num_a (by decide) P.i lq) hN ⟨(P.a).b,(Q.u).c,(fit_nd (k:=7) (l:=[p.a,q.u,p.u,t.u]) (by decide) rfl (num_a (by decide) P.i lq) hN ⟨(P.a).b,(Q.u).c,(P.u).b,(T.u).b,trivial⟩).b,trivial⟩,P.a,(fun _=>P.u),(fun h=>by cases h)⟩
theorem gd20 {p q t:Jd} {N:Int} (hN:0≤N) (_:N≤300) (P:Rj p (N)) (Q:Rj q (N+1)) (T:Rj t (N)) (h:prd p q t=true):Gd N 20 ⟨true,nd 9 p.i q.a.i [p.a,q.u,nd 7 p.i q.a.i [p.a,q.u,p.u,t.u]],t.u,t.a,q.a.i⟩:=by
 unfold prd at h
 simp only [Bool.and_eq_true] at h
 have hq:=h.1.1
 obtain⟨-,kq⟩:=isT_k hq
 have lq:=lv_os Q.a.p (Or.inl kq)
 exact⟨rfl,lq.1,fit_nd (k:=9) (by decide) rfl (num_a (by decide) P.i lq) hN ⟨(P.a).b,(Q.u).c,(fit_nd (k:=7) (l:=[p.a,q.u,p.u,t.u]) (by decide) rfl (num_a (by decide) P.i lq) hN ⟨(P.a).b,(Q.u).c,(P.u).b,(T.u).b,trivial⟩).b,trivial⟩,T.a,(fun _=>T.u),(fun h=>by cases h)⟩
theorem gd21 {p:Jd} {N:Int} (hN:0≤N) (hN2:N≤300) (P:Rj p (N)) (h:spl p 3=true):Gd N 21 ⟨true,p.u,nd 4 p.a.i p.a.j [kd p.a 0,kd p.a 1,nd 5 p.a.i p.a.j [(kd p.a 0).liftB 1 0,(kd p.a 1).liftB 1 1,p.u.liftB 1 0,.mk 2 0 0 0 []]],p.a,p.i⟩:=by
 have hp:=h
 obtain⟨-,kp⟩:=spl_k hp
 obtain⟨K0,K1,z0,z1⟩:=kd_two P.a (by omega)
 obtain⟨li,lj⟩:=lv_two P.a.p (by omega)
 have X:Fit (nd 5 p.a.i p.a.j [(kd p.a 0).liftB 1 0,(kd p.a 1).liftB 1 1,p.u.liftB 1 0,.mk 2 0 0 0 []]) (N+1):=fit_nd (k:=5) (by decide) rfl (num_a (by decide) li lj) (by omega) ⟨(fit_lift K0 (by decide) (by omega) (Nat.le_trans z0 (Nat.le_trans P.sa (by decide)))).b,(fit_lift K1 (by decide) (by omega) (Nat.le_trans z1 (Nat.le_trans P.sa (by decide)))).c,(fit_lift P.u (by decide) (by omega) (Nat.le_trans P.su (by decide))).b,(fit_var (by decide) (by omega) (by omega)).b,trivial⟩
 exact⟨rfl,P.i.1,P.u,P.a,(fun _=>fit_nd (k:=4) (by decide) rfl (num_a (by decide) li lj) hN ⟨(K0).b,(K1).c,(X).c,trivial⟩),(fun h=>by cases h)⟩
theorem gd22 {p:Jd} {N:Int} (hN:0≤N) (_:N≤300) (P:Rj p (N)) (h:spl p 6=true):Gd N 22 ⟨true,p.u,nd 7 p.a.i p.a.j [kd p.a 0,kd p.a 1,nd 8 p.a.i p.a.j [kd p.a 0,kd p.a 1,p.u],nd 9 p.a.i p.a.j [kd p.a 0,kd p.a 1,p.u]],p.a,p.i⟩:=by
 have hp:=h
 obtain⟨-,kp⟩:=spl_k hp
 obtain⟨K0,K1,z0,z1⟩:=kd_two P.a (by omega)
 obtain⟨li,lj⟩:=lv_two P.a.p (by omega)
 exact⟨rfl,P.i.1,P.u,P.a,(fun _=>fit_nd (k:=7) (by decide) rfl (num_a (by decide) li lj) hN ⟨(K0).b,(K1).c,(fit_nd (k:=8) (l:=[kd p.a 0,kd p.a 1,p.u]) (by decide) rfl (num_a (by decide) li lj) hN ⟨(K0).b,(K1).c,(P.u).b,trivial⟩).b,(fit_nd (k:=9) (l:=[kd p.a 0,kd p.a 1,p.u]) (by decide) rfl (num_a (by decide) li lj) hN ⟨(K0).b,(K1).c,(P.u).b,trivial⟩).b,trivial⟩),(fun h=>by cases h)⟩
theorem gd23 {p q:Jd} {N:Int} (hN:0≤N) (hN2:N≤300) (P:Rj p (N)) (Q:Rj q (N+1)) (h:(p.eq&&!q.eq)=true):Gd N 23 ⟨true,q.u.putB p.u,q.u.putB p.v,q.a.putB p.u,q.i⟩:=by
 rw [Bool.and_eq_true] at h
 obtain⟨hp,-⟩:=h
 exact⟨rfl,Q.i.1,fit_put Q.u P.u hN (by omega) (Nat.le_trans Q.su (by decide)) (Nat.le_trans P.su (by decide)),fit_put Q.a P.u hN (by omega) (Nat.le_trans Q.sa (by decide)) (Nat.le_trans P.su (by decide)),(fun _=>fit_put Q.u (P.v hp) hN (by omega) (Nat.le_trans Q.su (by decide)) (Nat.le_trans P.sv (by decide))),(fun h=>by cases h)⟩
theorem gd24 {p q:Jd} {N:Int} (_:0≤N) (_:N≤300) (P:Rj p (N)) (Q:Rj q (N)) (_:(prf p&&hasW q p.a p.i)=true):Gd N 24 ⟨true,p.u,q.u,p.a,p.i⟩:=by
 exact⟨rfl,P.i.1,P.u,P.a,(fun _=>Q.u),(fun h=>by cases h)⟩
theorem gd25 {p q:Jd} {N:Int} (hN:0≤N) (_:N≤300) (P:Rj p (N)) (Q:Rj q (N+1)) (h:(areT p&&areT q)=true):Gd N 25 ⟨true,nd 3 p.a.i q.a.i [p.u,q.u],nd 3 p.a.i q.a.i [p.v,q.v],srt (max p.a.i q.a.i),W64 (max p.a.i q.a.i+1)⟩:=by
 rw [Bool.and_eq_true] at h
 obtain⟨hp,hq⟩:=h
 obtain⟨ep,kp⟩:=areT_k hp
 have lp:=lv_os P.a.p (Or.inl kp)
 obtain⟨eq,kq⟩:=areT_k hq
 have lq:=lv_os Q.a.p (Or.inl kq)
 exact⟨rfl,w64_nn (lv_max lp lq),fit_nd (k:=3) (by decide) rfl (num_a (by decide) lp lq) hN ⟨(P.u).b,(Q.u).c,trivial⟩,fit_srt (lv_max lp lq) hN,(fun _=>fit_nd (k:=3) (by decide) rfl (num_a (by decide) lp lq) hN ⟨(P.v ep).b,(Q.v eq).c,trivial⟩),(fun h=>by cases h)⟩
theorem gd26 {p q:Jd} {N:Int} (hN:0≤N) (_:N≤300) (P:Rj p (N)) (Q:Rj q (N+1)) (h:(areT p&&areT q)=true):Gd N 26 ⟨true,nd 6 p.a.i q.a.i [p.u,q.u],nd 6 p.a.i q.a.i [p.v,q.v],srt (max p.a.i q.a.i),W64 (max p.a.i q.a.i+1)⟩:=by
 rw [Bool.and_eq_true] at h
 obtain⟨hp,hq⟩:=h
 obtain⟨ep,kp⟩:=areT_k hp
 have lp:=lv_os P.a.p (Or.inl kp)
 obtain⟨eq,kq⟩:=areT_k hq
 have lq:=lv_os Q.a.p (Or.inl kq)
 exact⟨rfl,w64_nn (lv_max lp lq),fit_nd (k:=6) (by decide) rfl (num_a (by decide) lp lq) hN ⟨(P.u).b,(Q.u).c,trivial⟩,fit_srt (lv_max lp lq) hN,(fun _=>fit_nd (k:=6) (by decide) rfl (num_a (by decide) lp lq) hN ⟨(P.v ep).b,(Q.v eq).c,trivial⟩),(fun h=>by cases h)⟩
theorem gd27 {p q t:Jd} {N:Int} (hN:0≤N) (_:N≤300) (P:Rj p (N)) (Q:Rj q (N+1)) (T:Rj t (N+1)) (h:((areT p&&areT q)&&(t.eq&&(t.i==q.a.i&&sameB t.a q.u)))=true):Gd N 27 ⟨true,nd 4 p.a.i q.a.i [p.u,q.u,t.u],nd 4 p.a.i q.a.i [p.v,q.v,t.v],nd 3 p.a.i q.a.i [p.u,q.u],max p.a.i q.a.i⟩:=by
 simp only [Bool.and_eq_true] at h
 obtain⟨⟨hp,hq⟩,et,-⟩:=h
 obtain⟨ep,kp⟩:=areT_k hp
 have lp:=lv_os P.a.p (Or.inl kp)
 obtain⟨eq,kq⟩:=areT_k hq
 have lq:=lv_os Q.a.p (Or.inl kq)
 exact⟨rfl,(lv_max lp lq).1,fit_nd (k:=4) (by decide) rfl (num_a (by decide) lp lq) hN ⟨(P.u).b,(Q.u).c,(T.u).c,trivial⟩,fit_nd (k:=3) (by decide) rfl (num_a (by decide) lp lq) hN ⟨(P.u).b,(Q.u).c,trivial⟩,(fun _=>fit_nd (k:=4) (by decide) rfl (num_a (by decide) lp lq) hN ⟨(P.v ep).b,(Q.v eq).c,(T.v et).c,trivial⟩),(fun h=>by cases h)⟩
theorem gd28 {p q s t:Jd} {N:Int} (hN:0≤N) (_:N≤300) (P:Rj p (N)) (Q:Rj q (N+1)) (S:Rj s (N)) (T:Rj t (N)) (h:(((areT p&&areT q)&&hasW s p.u p.a.i)&&hasW t (q.u.putB s.u) q.a.i)=true):Gd N 28 ⟨true,nd 7 p.a.i q.a.i [p.u,q.u,s.u,t.u],nd 7 p.a.i q.a.i [p.v,q.v,s.u,t.u],nd 6 p.a.i q.a.i [p.u,q.u],max p.a.i q.a.i⟩:=by
 simp only [Bool.and_eq_true] at h
 obtain⟨⟨⟨hp,hq⟩,-⟩,-⟩:=h
 obtain⟨ep,kp⟩:=areT_k hp
 have lp:=lv_os P.a.p (Or.inl kp)
 obtain⟨eq,kq⟩:=areT_k hq
 have lq:=lv_os Q.a.p (Or.inl kq)
 exact⟨rfl,(lv_max lp lq).1,fit_nd (k:=7) (by decide) rfl (num_a (by decide) lp lq) hN ⟨(P.u).b,(Q.u).c,(S.u).b,(T.u).b,trivial⟩,fit_nd (k:=6) (by decide) rfl (num_a (by decide) lp lq) hN ⟨(P.u).b,(Q.u).c,trivial⟩,(fun _=>fit_nd (k:=7) (by decide) rfl (num_a (by decide) lp lq) hN ⟨(P.v ep).b,(Q.v eq).c,(S.u).b,(T.u).b,trivial⟩),(fun h=>by cases h)⟩
end Go.Proofs.Ytgnllglbopaheaa.Se

namespace Go.Proofs.Ytgnllglbopaheaa.Se
open Go Go.RowKit
theorem at_good {c:List En} {k:Int} (hp:purC c=true) (hs:c.length≤200∧∀ e ∈ c,e.a.size≤1000) (h:atB c k=true):Fit (atU c k) c.length∧0≤atI c k:=by
 unfold atB at h
 have hh:=of_decide_eq_true h
 unfold atU atI
 rw [if_pos hh,if_pos hh]
 have hq:c.length-1-k.toNat<c.length:=by omega
 rw [List.getElem?_eq_getElem hq]
 simp only [Option.map_some,Option.getD_some]
 have hg:=goodE_iff.1 (rightC_at hh.2.2 hq)
 have hm:c[c.length-1-k.toNat] ∈ c:=List.getElem_mem hq
 have hpu:(c[c.length-1-k.toNat]).a.pureB=true:=by
  unfold purC at hp
  rw [Bool.and_eq_true,List.all_eq_true] at hp
  exact hp.1 _ hm
 refine⟨?_,hg.1⟩
 have hr:=pure_right hpu
 have hsz:=hs.2 _ hm
 have hfb:=hg.2.2.2
 have hd:(c[c.length-1-k.toNat]).a.deep≤100000:=Nat.le_trans (deep_le_size _) (Nat.le_trans hsz (by decide))
 have hfn:=free_of hr
 obtain⟨k1,k2,-,k4⟩:=liftB_keeps (k:=k+1) (by omega) (by omega) hr (by omega) hd
 refine⟨pure_of (by rw [k2];exact pure_marked hpu) ?_,?_⟩
 ·obtain⟨u,hu⟩:=lift_comes (k:=k+1) (c:=0) (by omega) (by omega) hr (by omega) hd
  rw [liftB_good (by omega) (by omega) hr,hu,Option.getD_some]
  exact each_count _ _ 0 u (pure_count hpu) hu
 ·rw [free_of k1] at k4
  rw [k4]
  split<;>omega
theorem good1 {c:List En} {n:Int} {j:Jd} (hj:concB c n 1 []=some j):Gd c.length 1 j:=by
 rw [show concB c n 1 []=if(decide (n≥0)&&decide (n≤900))=true then some ⟨false,srt n,.zero,srt (W64 (n+1)),W64 (n+2)⟩ else none from rfl] at hj
 split at hj
 ·rename_i h
  simp only [Bool.and_eq_true,decide_eq_true_eq] at h
  obtain rfl:=Option.some.inj hj
  rw [w64 (x:=n+1) (by omega),w64 (x:=n+2) (by omega)]
  exact⟨rfl,(by show 0≤n+2;omega),fit_srt ⟨by omega,by omega⟩ (by omega),fit_srt ⟨by omega,by omega⟩ (by omega),(fun h=>by cases h),fun _=>rfl⟩
 ·cases hj
theorem good2 {c:List En} {n:Int} {j:Jd} (hp:purC c=true) (hs:c.length≤200∧∀ e ∈ c,e.a.size≤1000) (hj:concB c n 2 []=some j):Gd c.length 2 j:=by
 rw [show concB c n 2 []=if atB c n=true then some ⟨false,.mk 2 n 0 0 [],.zero,atU c n,atI c n⟩ else none from rfl] at hj
 split at hj
 ·rename_i h
  obtain rfl:=Option.some.inj hj
  obtain⟨h1,h2⟩:=at_good hp hs h
  have hh:=of_decide_eq_true h
  exact⟨rfl,h2,fit_var hh.1 hh.2.1 (by omega),h1,(fun h=>by cases h),fun _=>rfl⟩
 ·cases hj
theorem good3 {c:List En} {n:Int} {p q j:Jd} (hs:Sml c [p,q]) (h2:allR c.length 3 0 [p,q]=true) (hj:concB c n 3 [p,q]=some j):Gd c.length 3 j:=by
 have hl:=hs.len
 rw [show allR c.length 3 0 [p,q]=(rightJ p ↑c.length&&(rightJ q (W64 (↑c.length+1))&&true)) from by kernel_rfl] at h2
 rw [w64 (x:=(c.length:Int)+1) (by omega)] at h2
 simp only [Bool.and_eq_true] at h2
 rw [show concB c n 3 [p,q]=if(isT p&&isT q)=true then some ⟨false,nd 3 p.a.i q.a.i [p.u,q.u],.zero,srt (max p.a.i q.a.i),W64 (max p.a.i q.a.i+1)⟩ else none from by kernel_rfl] at hj
 split at hj
 ·rename_i hc
  obtain rfl:=Option.some.inj hj
  exact gd3 (by omega) (by omega) (rj_of h2.1 (hs.js _ (List.mem_cons_self ..))) (rj_of h2.2.1 (hs.js _ (List.mem_cons_of_mem _ (List.mem_cons_self ..)))) hc
 ·cases hj
theorem good4 {c:List En} {n:Int} {p q j:Jd} (hs:Sml c [p,q]) (h2:allR c.length 4 0 [p,q]=true) (hj:concB c n 4 [p,q]=some j):Gd c.length 4 j:=by
 have hl:=hs.len
 rw [show allR c.length 4 0 [p,q]=(rightJ p ↑c.length&&(rightJ q (W64 (↑c.length+1))&&true)) from by kernel_rfl] at h2
 rw [w64 (x:=(c.length:Int)+1) (by omega)] at h2
 simp only [Bool.and_eq_true] at h2
 rw [show concB c n 4 [p,q]=if(isT p&&!q.eq)=true then some ⟨false,nd 4 p.a.i q.i [p.u,q.a,q.u],.zero,nd 3 p.a.i q.i [p.u,q.a],max p.a.i q.i⟩ else none from by kernel_rfl] at hj
 split at hj
 ·rename_i hc
  obtain rfl:=Option.some.inj hj
  exact gd4 (by omega) (by omega) (rj_of h2.1 (hs.js _ (List.mem_cons_self ..))) (rj_of h2.2.1 (hs.js _ (List.mem_cons_of_mem _ (List.mem_cons_self ..)))) hc
 ·cases hj
theorem good5 {c:List En} {n:Int} {p q j:Jd} (hs:Sml c [p,q]) (h2:allR c.length 5 0 [p,q]=true) (hj:concB c n 5 [p,q]=some j):Gd c.length 5 j:=by
 have hl:=hs.len
 rw [show allR c.length 5 0 [p,q]=(rightJ p ↑c.length&&(rightJ q ↑c.length&&true)) from by kernel_rfl] at h2
 simp only [Bool.and_eq_true] at h2
 rw [show concB c n 5 [p,q]=if(spl p 3&&hasW q (kd p.a 0) p.a.i)=true then some ⟨false,nd 5 p.a.i p.a.j [kd p.a 0,kd p.a 1,p.u,q.u],.zero,(kd p.a 1).putB q.u,p.a.j⟩ else none from by kernel_rfl] at hj
 split at hj
 ·rename_i hc
  obtain rfl:=Option.some.inj hj
  exact gd5 (by omega) (by omega) (rj_of h2.1 (hs.js _ (List.mem_cons_self ..))) (rj_of h2.2.1 (hs.js _ (List.mem_cons_of_mem _ (List.mem_cons_self ..)))) hc
 ·cases hj
theorem good6 {c:List En} {n:Int} {p q j:Jd} (hs:Sml c [p,q]) (h2:allR c.length 6 0 [p,q]=true) (hj:concB c n 6 [p,q]=some j):Gd c.length 6 j:=by
 have hl:=hs.len
 rw [show allR c.length 6 0 [p,q]=(rightJ p ↑c.length&&(rightJ q (W64 (↑c.length+1))&&true)) from by kernel_rfl] at h2
 rw [w64 (x:=(c.length:Int)+1) (by omega)] at h2
 simp only [Bool.and_eq_true] at h2
 rw [show concB c n 6 [p,q]=if(isT p&&isT q)=true then some ⟨false,nd 6 p.a.i q.a.i [p.u,q.u],.zero,srt (max p.a.i q.a.i),W64 (max p.a.i q.a.i+1)⟩ else none from by kernel_rfl] at hj
 split at hj
 ·rename_i hc
  obtain rfl:=Option.some.inj hj
  exact gd6 (by omega) (by omega) (rj_of h2.1 (hs.js _ (List.mem_cons_self ..))) (rj_of h2.2.1 (hs.js _ (List.mem_cons_of_mem _ (List.mem_cons_self ..)))) hc
 ·cases hj
theorem good7 {c:List En} {n:Int} {p q t j:Jd} (hs:Sml c [p,q,t]) (h2:allR c.length 7 0 [p,q,t]=true) (hj:concB c n 7 [p,q,t]=some j):Gd c.length 7 j:=by
 have hl:=hs.len
 rw [show allR c.length 7 0 [p,q,t]=(rightJ p ↑c.length&&(rightJ q (W64 (↑c.length+1))&&(rightJ t ↑c.length&&true))) from by kernel_rfl] at h2
 rw [w64 (x:=(c.length:Int)+1) (by omega)] at h2
 simp only [Bool.and_eq_true] at h2
 rw [show concB c n 7 [p,q,t]=if prd p q t=true then some ⟨false,nd 7 p.i q.a.i [p.a,q.u,p.u,t.u],.zero,nd 6 p.i q.a.i [p.a,q.u],max p.i q.a.i⟩ else none from by kernel_rfl] at hj
 split at hj
 ·rename_i hc
  obtain rfl:=Option.some.inj hj
  exact gd7 (by omega) (by omega) (rj_of h2.1 (hs.js _ (List.mem_cons_self ..))) (rj_of h2.2.1 (hs.js _ (List.mem_cons_of_mem _ (List.mem_cons_self ..)))) (rj_of h2.2.2.1 (hs.js _ (List.mem_cons_of_mem _ (List.mem_cons_of_mem _ (List.mem_cons_self ..))))) hc
 ·cases hj
theorem good8 {c:List En} {n:Int} {p j:Jd} (hs:Sml c [p]) (h2:allR c.length 8 0 [p]=true) (hj:concB c n 8 [p]=some j):Gd c.length 8 j:=by
 have hl:=hs.len
 rw [show allR c.length 8 0 [p]=(rightJ p ↑c.length&&true) from by kernel_rfl] at h2
 simp only [Bool.and_eq_true] at h2
 rw [show concB c n 8 [p]=if spl p 6=true then some ⟨false,nd 8 p.a.i p.a.j [kd p.a 0,kd p.a 1,p.u],.zero,kd p.a 0,p.a.i⟩ else none from by kernel_rfl] at hj
 split at hj
 ·rename_i hc
  obtain rfl:=Option.some.inj hj
  exact gd8 (by omega) (by omega) (rj_of h2.1 (hs.js _ (List.mem_cons_self ..))) hc
 ·cases hj
theorem good9 {c:List En} {n:Int} {p j:Jd} (hs:Sml c [p]) (h2:allR c.length 9 0 [p]=true) (hj:concB c n 9 [p]=some j):Gd c.length 9 j:=by
 have hl:=hs.len
 rw [show allR c.length 9 0 [p]=(rightJ p ↑c.length&&true) from by kernel_rfl] at h2
 simp only [Bool.and_eq_true] at h2
 rw [show concB c n 9 [p]=if spl p 6=true then some ⟨false,nd 9 p.a.i p.a.j [kd p.a 0,kd p.a 1,p.u],.zero,(kd p.a 1).putB (nd 8 p.a.i p.a.j [kd p.a 0,kd p.a 1,p.u]),p.a.j⟩ else none from by kernel_rfl] at hj
 split at hj
 ·rename_i hc
  obtain rfl:=Option.some.inj hj
  exact gd9 (by omega) (by omega) (rj_of h2.1 (hs.js _ (List.mem_cons_self ..))) hc
 ·cases hj
theorem good10 {c:List En} {n:Int} {p q j:Jd} (hs:Sml c [p,q]) (h2:allR c.length 10 0 [p,q]=true) (hj:concB c n 10 [p,q]=some j):Gd c.length 10 j:=by
 have hl:=hs.len
 rw [show allR c.length 10 0 [p,q]=(rightJ p ↑c.length&&(rightJ q ↑c.length&&true)) from by kernel_rfl] at h2
 simp only [Bool.and_eq_true] at h2
 rw [show concB c n 10 [p,q]=if(!p.eq&&hasW q p.a p.i)=true then some ⟨false,nd 10 p.i 0 [p.a,p.u,q.u],.zero,srt p.i,W64 (p.i+1)⟩ else none from by kernel_rfl] at hj
 split at hj
 ·rename_i hc
  obtain rfl:=Option.some.inj hj
  exact gd10 (by omega) (by omega) (rj_of h2.1 (hs.js _ (List.mem_cons_self ..))) (rj_of h2.2.1 (hs.js _ (List.mem_cons_of_mem _ (List.mem_cons_self ..)))) hc
 ·cases hj
theorem good11 {c:List En} {n:Int} {p j:Jd} (hs:Sml c [p]) (h2:allR c.length 11 0 [p]=true) (hj:concB c n 11 [p]=some j):Gd c.length 11 j:=by
 have hl:=hs.len
 rw [show allR c.length 11 0 [p]=(rightJ p ↑c.length&&true) from by kernel_rfl] at h2
 simp only [Bool.and_eq_true] at h2
 rw [show concB c n 11 [p]=if(!p.eq)=true then some ⟨false,nd 11 p.i 0 [p.a,p.u],.zero,nd 10 p.i 0 [p.a,p.u,p.u],p.i⟩ else none from by kernel_rfl] at hj
 split at hj
 ·rename_i hc
  obtain rfl:=Option.some.inj hj
  exact gd11 (by omega) (by omega) (rj_of h2.1 (hs.js _ (List.mem_cons_self ..))) hc
 ·cases hj
theorem good12 {c:List En} {n:Int} {p q j:Jd} (hs:Sml c [p,q]) (h2:allR c.length 12 0 [p,q]=true) (hj:concB c n 12 [p,q]=some j):Gd c.length 12 j:=by
 have hl:=hs.len
 rw [show allR c.length 12 0 [p,q]=(rightJ p ↑c.length&&(rightJ q ↑c.length&&true)) from by kernel_rfl] at h2
 simp only [Bool.and_eq_true] at h2
 rw [show concB c n 12 [p,q]=if(!p.eq&&cnv p q)=true then some ⟨false,p.u,.zero,q.v,p.i⟩ else none from by kernel_rfl] at hj
 split at hj
 ·rename_i hc
  obtain rfl:=Option.some.inj hj
  exact gd12 (by omega) (by omega) (rj_of h2.1 (hs.js _ (List.mem_cons_self ..))) (rj_of h2.2.1 (hs.js _ (List.mem_cons_of_mem _ (List.mem_cons_self ..)))) hc
 ·cases hj
theorem good13 {c:List En} {n:Int} {p j:Jd} (hs:Sml c [p]) (h2:allR c.length 13 0 [p]=true) (hj:concB c n 13 [p]=some j):Gd c.length 13 j:=by
 have hl:=hs.len
 rw [show allR c.length 13 0 [p]=(rightJ p ↑c.length&&true) from by kernel_rfl] at h2
 simp only [Bool.and_eq_true] at h2
 rw [show concB c n 13 [p]=if(!p.eq)=true then some ⟨true,p.u,p.u,p.a,p.i⟩ else none from by kernel_rfl] at hj
 split at hj
 ·rename_i hc
  obtain rfl:=Option.some.inj hj
  exact gd13 (by omega) (by omega) (rj_of h2.1 (hs.js _ (List.mem_cons_self ..))) hc
 ·cases hj
theorem good14 {c:List En} {n:Int} {p j:Jd} (hs:Sml c [p]) (h2:allR c.length 14 0 [p]=true) (hj:concB c n 14 [p]=some j):Gd c.length 14 j:=by
 have hl:=hs.len
 rw [show allR c.length 14 0 [p]=(rightJ p ↑c.length&&true) from by kernel_rfl] at h2
 simp only [Bool.and_eq_true] at h2
 rw [show concB c n 14 [p]=if p.eq=true then some ⟨true,p.v,p.u,p.a,p.i⟩ else none from by kernel_rfl] at hj
 split at hj
 ·rename_i hc
  obtain rfl:=Option.some.inj hj
  exact gd14 (by omega) (by omega) (rj_of h2.1 (hs.js _ (List.mem_cons_self ..))) hc
 ·cases hj
theorem good15 {c:List En} {n:Int} {p q j:Jd} (hs:Sml c [p,q]) (h2:allR c.length 15 0 [p,q]=true) (hj:concB c n 15 [p,q]=some j):Gd c.length 15 j:=by
 have hl:=hs.len
 rw [show allR c.length 15 0 [p,q]=(rightJ p ↑c.length&&(rightJ q ↑c.length&&true)) from by kernel_rfl] at h2
 simp only [Bool.and_eq_true] at h2
 rw [show concB c n 15 [p,q]=if(p.eq&&(q.eq&&(p.i==q.i&&(sameB p.v q.u&&sameB p.a q.a))))=true then some ⟨true,p.u,q.v,p.a,p.i⟩ else none from by kernel_rfl] at hj
 split at hj
 ·rename_i hc
  obtain rfl:=Option.some.inj hj
  exact gd15 (by omega) (by omega) (rj_of h2.1 (hs.js _ (List.mem_cons_self ..))) (rj_of h2.2.1 (hs.js _ (List.mem_cons_of_mem _ (List.mem_cons_self ..)))) hc
 ·cases hj
theorem good16 {c:List En} {n:Int} {p q j:Jd} (hs:Sml c [p,q]) (h2:allR c.length 16 0 [p,q]=true) (hj:concB c n 16 [p,q]=some j):Gd c.length 16 j:=by
 have hl:=hs.len
 rw [show allR c.length 16 0 [p,q]=(rightJ p ↑c.length&&(rightJ q ↑c.length&&true)) from by kernel_rfl] at h2
 simp only [Bool.and_eq_true] at h2
 rw [show concB c n 16 [p,q]=if(p.eq&&cnv p q)=true then some ⟨true,p.u,p.v,q.v,p.i⟩ else none from by kernel_rfl] at hj
 split at hj
 ·rename_i hc
  obtain rfl:=Option.some.inj hj
  exact gd16 (by omega) (by omega) (rj_of h2.1 (hs.js _ (List.mem_cons_self ..))) (rj_of h2.2.1 (hs.js _ (List.mem_cons_of_mem _ (List.mem_cons_self ..)))) hc
 ·cases hj
theorem good17 {c:List En} {n:Int} {p j:Jd} (hs:Sml c [p]) (h2:allR c.length 17 0 [p]=true) (hj:concB c n 17 [p]=some j):Gd c.length 17 j:=by
 have hl:=hs.len
 rw [show allR c.length 17 0 [p]=(rightJ p ↑c.length&&true) from by kernel_rfl] at h2
 simp only [Bool.and_eq_true] at h2
 rw [show concB c n 17 [p]=if prf p=true then some ⟨true,kd p.a 1,kd p.a 2,kd p.a 0,p.i⟩ else none from by kernel_rfl] at hj
 split at hj
 ·rename_i hc
  obtain rfl:=Option.some.inj hj
  exact gd17 (by omega) (by omega) (rj_of h2.1 (hs.js _ (List.mem_cons_self ..))) hc
 ·cases hj
theorem good18 {c:List En} {n:Int} {p q j:Jd} (hs:Sml c [p,q]) (h2:allR c.length 18 0 [p,q]=true) (hj:concB c n 18 [p,q]=some j):Gd c.length 18 j:=by
 have hl:=hs.len
 rw [show allR c.length 18 0 [p,q]=(rightJ p ↑c.length&&(rightJ q (W64 (↑c.length+1))&&true)) from by kernel_rfl] at h2
 rw [w64 (x:=(c.length:Int)+1) (by omega)] at h2
 simp only [Bool.and_eq_true] at h2
 rw [show concB c n 18 [p,q]=if(!p.eq&&!q.eq)=true then some ⟨true,nd 5 p.i q.i [p.a,q.a,nd 4 p.i q.i [p.a,q.a,q.u],p.u],q.u.putB p.u,q.a.putB p.u,q.i⟩ else none from by kernel_rfl] at hj
 split at hj
 ·rename_i hc
  obtain rfl:=Option.some.inj hj
  exact gd18 (by omega) (by omega) (rj_of h2.1 (hs.js _ (List.mem_cons_self ..))) (rj_of h2.2.1 (hs.js _ (List.mem_cons_of_mem _ (List.mem_cons_self ..)))) hc
 ·cases hj
theorem good19 {c:List En} {n:Int} {p q t j:Jd} (hs:Sml c [p,q,t]) (h2:allR c.length 19 0 [p,q,t]=true) (hj:concB c n 19 [p,q,t]=some j):Gd c.length 19 j:=by
 have hl:=hs.len
 rw [show allR c.length 19 0 [p,q,t]=(rightJ p ↑c.length&&(rightJ q (W64 (↑c.length+1))&&(rightJ t ↑c.length&&true))) from by kernel_rfl] at h2
 rw [w64 (x:=(c.length:Int)+1) (by omega)] at h2
 simp only [Bool.and_eq_true] at h2
 rw [show concB c n 19 [p,q,t]=if prd p q t=true then some ⟨true,nd 8 p.i q.a.i [p.a,q.u,nd 7 p.i q.a.i [p.a,q.u,p.u,t.u]],p.u,p.a,p.i⟩ else none from by kernel_rfl] at hj
 split at hj
 ·rename_i hc
  obtain rfl:=Option.some.inj hj
  exact gd19 (by omega) (by omega) (rj_of h2.1 (hs.js _ (List.mem_cons_self ..))) (rj_of h2.2.1 (hs.js _ (List.mem_cons_of_mem _ (List.mem_cons_self ..)))) (rj_of h2.2.2.1 (hs.js _ (List.mem_cons_of_mem _ (List.mem_cons_of_mem _ (List.mem_cons_self ..))))) hc
 ·cases hj
theorem good20 {c:List En} {n:Int} {p q t j:Jd} (hs:Sml c [p,q,t]) (h2:allR c.length 20 0 [p,q,t]=true) (hj:concB c n 20 [p,q,t]=some j):Gd c.length 20 j:=by
 have hl:=hs.len
 rw [show allR c.length 20 0 [p,q,t]=(rightJ p ↑c.length&&(rightJ q (W64 (↑c.length+1))&&(rightJ t ↑c.length&&true))) from by kernel_rfl] at h2
 rw [w64 (x:=(c.length:Int)+1) (by omega)] at h2
 simp only [Bool.and_eq_true] at h2
 rw [show concB c n 20 [p,q,t]=if prd p q t=true then some ⟨true,nd 9 p.i q.a.i [p.a,q.u,nd 7 p.i q.a.i [p.a,q.u,p.u,t.u]],t.u,t.a,q.a.i⟩ else none from by kernel_rfl] at hj
 split at hj
 ·rename_i hc
  obtain rfl:=Option.some.inj hj
  exact gd20 (by omega) (by omega) (rj_of h2.1 (hs.js _ (List.mem_cons_self ..))) (rj_of h2.2.1 (hs.js _ (List.mem_cons_of_mem _ (List.mem_cons_self ..)))) (rj_of h2.2.2.1 (hs.js _ (List.mem_cons_of_mem _ (List.mem_cons_of_mem _ (List.mem_cons_self ..))))) hc
 ·cases hj
theorem good21 {c:List En} {n:Int} {p j:Jd} (hs:Sml c [p]) (h2:allR c.length 21 0 [p]=true) (hj:concB c n 21 [p]=some j):Gd c.length 21 j:=by
 have hl:=hs.len
 rw [show allR c.length 21 0 [p]=(rightJ p ↑c.length&&true) from by kernel_rfl] at h2
 simp only [Bool.and_eq_true] at h2
 rw [show concB c n 21 [p]=if spl p 3=true then some ⟨true,p.u,nd 4 p.a.i p.a.j [kd p.a 0,kd p.a 1,nd 5 p.a.i p.a.j [(kd p.a 0).liftB 1 0,(kd p.a 1).liftB 1 1,p.u.liftB 1 0,.mk 2 0 0 0 []]],p.a,p.i⟩ else none from by kernel_rfl] at hj
 split at hj
 ·rename_i hc
  obtain rfl:=Option.some.inj hj
  exact gd21 (by omega) (by omega) (rj_of h2.1 (hs.js _ (List.mem_cons_self ..))) hc
 ·cases hj
theorem good22 {c:List En} {n:Int} {p j:Jd} (hs:Sml c [p]) (h2:allR c.length 22 0 [p]=true) (hj:concB c n 22 [p]=some j):Gd c.length 22 j:=by
 have hl:=hs.len
 rw [show allR c.length 22 0 [p]=(rightJ p ↑c.length&&true) from by kernel_rfl] at h2
 simp only [Bool.and_eq_true] at h2
 rw [show concB c n 22 [p]=if spl p 6=true then some ⟨true,p.u,nd 7 p.a.i p.a.j [kd p.a 0,kd p.a 1,nd 8 p.a.i p.a.j [kd p.a 0,kd p.a 1,p.u],nd 9 p.a.i p.a.j [kd p.a 0,kd p.a 1,p.u]],p.a,p.i⟩ else none from by kernel_rfl] at hj
 split at hj
 ·rename_i hc
  obtain rfl:=Option.some.inj hj
  exact gd22 (by omega) (by omega) (rj_of h2.1 (hs.js _ (List.mem_cons_self ..))) hc
 ·cases hj
theorem good23 {c:List En} {n:Int} {p q j:Jd} (hs:Sml c [p,q]) (h2:allR c.length 23 0 [p,q]=true) (hj:concB c n 23 [p,q]=some j):Gd c.length 23 j:=by
 have hl:=hs.len
 rw [show allR c.length 23 0 [p,q]=(rightJ p ↑c.length&&(rightJ q (W64 (↑c.length+1))&&true)) from by kernel_rfl] at h2
 rw [w64 (x:=(c.length:Int)+1) (by omega)] at h2
 simp only [Bool.and_eq_true] at h2
 rw [show concB c n 23 [p,q]=if(p.eq&&!q.eq)=true then some ⟨true,q.u.putB p.u,q.u.putB p.v,q.a.putB p.u,q.i⟩ else none from by kernel_rfl] at hj
 split at hj
 ·rename_i hc
  obtain rfl:=Option.some.inj hj
  exact gd23 (by omega) (by omega) (rj_of h2.1 (hs.js _ (List.mem_cons_self ..))) (rj_of h2.2.1 (hs.js _ (List.mem_cons_of_mem _ (List.mem_cons_self ..)))) hc
 ·cases hj
theorem good24 {c:List En} {n:Int} {p q j:Jd} (hs:Sml c [p,q]) (h2:allR c.length 24 0 [p,q]=true) (hj:concB c n 24 [p,q]=some j):Gd c.length 24 j:=by
 have hl:=hs.len
 rw [show allR c.length 24 0 [p,q]=(rightJ p ↑c.length&&(rightJ q ↑c.length&&true)) from by kernel_rfl] at h2
 simp only [Bool.and_eq_true] at h2
 rw [show concB c n 24 [p,q]=if(prf p&&hasW q p.a p.i)=true then some ⟨true,p.u,q.u,p.a,p.i⟩ else none from by kernel_rfl] at hj
 split at hj
 ·rename_i hc
  obtain rfl:=Option.some.inj hj
  exact gd24 (by omega) (by omega) (rj_of h2.1 (hs.js _ (List.mem_cons_self ..))) (rj_of h2.2.1 (hs.js _ (List.mem_cons_of_mem _ (List.mem_cons_self ..)))) hc
 ·cases hj
theorem good25 {c:List En} {n:Int} {p q j:Jd} (hs:Sml c [p,q]) (h2:allR c.length 25 0 [p,q]=true) (hj:concB c n 25 [p,q]=some j):Gd c.length 25 j:=by
 have hl:=hs.len
 rw [show allR c.length 25 0 [p,q]=(rightJ p ↑c.length&&(rightJ q (W64 (↑c.length+1))&&true)) from by kernel_rfl] at h2
 rw [w64 (x:=(c.length:Int)+1) (by omega)] at h2
 simp only [Bool.and_eq_true] at h2
 rw [show concB c n 25 [p,q]=if(areT p&&areT q)=true then some ⟨true,nd 3 p.a.i q.a.i [p.u,q.u],nd 3 p.a.i q.a.i [p.v,q.v],srt (max p.a.i q.a.i),W64 (max p.a.i q.a.i+1)⟩ else none from by kernel_rfl] at hj
 split at hj
 ·rename_i hc
  obtain rfl:=Option.some.inj hj
  exact gd25 (by omega) (by omega) (rj_of h2.1 (hs.js _ (List.mem_cons_self ..))) (rj_of h2.2.1 (hs.js _ (List.mem_cons_of_mem _ (List.mem_cons_self ..)))) hc
 ·cases hj
theorem good26 {c:List En} {n:Int} {p q j:Jd} (hs:Sml c [p,q]) (h2:allR c.length 26 0 [p,q]=true) (hj:concB c n 26 [p,q]=some j):Gd c.length 26 j:=by
 have hl:=hs.len
 rw [show allR c.length 26 0 [p,q]=(rightJ p ↑c.length&&(rightJ q (W64 (↑c.length+1))&&true)) from by kernel_rfl] at h2
 rw [w64 (x:=(c.length:Int)+1) (by omega)] at h2
 simp only [Bool.and_eq_true] at h2
 rw [show concB c n 26 [p,q]=if(areT p&&areT q)=true then some ⟨true,nd 6 p.a.i q.a.i [p.u,q.u],nd 6 p.a.i q.a.i [p.v,q.v],srt (max p.a.i q.a.i),W64 (max p.a.i q.a.i+1)⟩ else none from by kernel_rfl] at hj
 split at hj
 ·rename_i hc
  obtain rfl:=Option.some.inj hj
  exact gd26 (by omega) (by omega) (rj_of h2.1 (hs.js _ (List.mem_cons_self ..))) (rj_of h2.2.1 (hs.js _ (List.mem_cons_of_mem _ (List.mem_cons_self ..)))) hc
 ·cases hj
theorem good27 {c:List En} {n:Int} {p q t j:Jd} (hs:Sml c [p,q,t]) (h2:allR c.length 27 0 [p,q,t]=true) (hj:concB c n 27 [p,q,t]=some j):Gd c.length 27 j:=by
 have hl:=hs.len
 rw [show allR c.length 27 0 [p,q,t]=(rightJ p ↑c.length&&(rightJ q (W64 (↑c.length+1))&&(rightJ t (W64 (↑c.length+1))&&true))) from by kernel_rfl] at h2
 rw [w64 (x:=(c.length:Int)+1) (by omega)] at h2
 simp only [Bool.and_eq_true] at h2
 rw [show concB c n 27 [p,q,t]=if((areT p&&areT q)&&(t.eq&&(t.i==q.a.i&&sameB t.a q.u)))=true then some ⟨true,nd 4 p.a.i q.a.i [p.u,q.u,t.u],nd 4 p.a.i q.a.i [p.v,q.v,t.v],nd 3 p.a.i q.a.i [p.u,q.u],max p.a.i q.a.i⟩ else none from by kernel_rfl] at hj
 split at hj
 ·rename_i hc
  obtain rfl:=Option.some.inj hj
  exact gd27 (by omega) (by omega) (rj_of h2.1 (hs.js _ (List.mem_cons_self ..))) (rj_of h2.2.1 (hs.js _ (List.mem_cons_of_mem _ (List.mem_cons_self ..)))) (rj_of h2.2.2.1 (hs.js _ (List.mem_cons_of_mem _ (List.mem_cons_of_mem _ (List.mem_cons_self ..))))) hc
 ·cases hj
theorem good28 {c:List En} {n:Int} {p q s t j:Jd} (hs:Sml c [p,q,s,t]) (h2:allR c.length 28 0 [p,q,s,t]=true) (hj:concB c n 28 [p,q,s,t]=some j):Gd c.length 28 j:=by
 have hl:=hs.len
 rw [show allR c.length 28 0 [p,q,s,t]=(rightJ p ↑c.length&&(rightJ q (W64 (↑c.length+1))&&(rightJ s ↑c.length&&(rightJ t ↑c.length&&true)))) from by kernel_rfl] at h2
 rw [w64 (x:=(c.length:Int)+1) (by omega)] at h2
 simp only [Bool.and_eq_true] at h2
 rw [show concB c n 28 [p,q,s,t]=if(((areT p&&areT q)&&hasW s p.u p.a.i)&&hasW t (q.u.putB s.u) q.a.i)=true then some ⟨true,nd 7 p.a.i q.a.i [p.u,q.u,s.u,t.u],nd 7 p.a.i q.a.i [p.v,q.v,s.u,t.u],nd 6 p.a.i q.a.i [p.u,q.u],max p.a.i q.a.i⟩ else none from by kernel_rfl] at hj
 split at hj
 ·rename_i hc
  obtain rfl:=Option.some.inj hj
  exact gd28 (by omega) (by omega) (rj_of h2.1 (hs.js _ (List.mem_cons_self ..))) (rj_of h2.2.1 (hs.js _ (List.mem_cons_of_mem _ (List.mem_cons_self ..)))) (rj_of h2.2.2.1 (hs.js _ (List.mem_cons_of_mem _ (List.mem_cons_of_mem _ (List.mem_cons_self ..))))) (rj_of h2.2.2.2.1 (hs.js _ (List.mem_cons_of_mem _ (List.mem_cons_of_mem _ (List.mem_cons_of_mem _ (List.mem_cons_self ..)))))) hc
 ·cases hj
theorem ok_le {j:Jd} (h:okJ j=true):j.i≤1000:=by
 unfold okJ at h
 simp only [Bool.not_eq_true',Bool.or_eq_false_iff,decide_eq_false_iff_not] at h
 omega
theorem ofB_good {c:List En} {r n:Int} {on:List Jd} {j:Jd} (hs:Sml c on) (h:ofB c r n on=some j):Gd c.length r j∧j.i≤1000:=by
 unfold ofB at h
 split at h
 ·cases h
 ·rename_i hne
  have hne:Dv.dkidsN r=on.length:=Classical.not_not.1 hne
  split at h
  ·rename_i h12
   rw [Bool.and_eq_true] at h12
   obtain⟨hp,h2⟩:=h12
   cases hj:concB c n r on with
   | none=>rw [hj] at h;cases h
   | some j' =>
    rw [hj] at h
    change (if okJ j'=true then some j' else none)=some j at h
    split at h
    ·rename_i hok
     obtain rfl:=Option.some.inj h
     refine⟨?_,ok_le hok⟩
     by_cases hr:1≤r∧r≤28
     ·obtain⟨q,hq⟩:∃ q:Nat,r=(q:Int):=⟨r.toNat,by omega⟩
      subst hq
      have hq1:1≤q:=by omega
      have hq2:q≤28:=by omega
      match q,hq1,hq2 with
      | 1,_,_ =>
       obtain rfl:=len_0 hne
       exact good1 hj
      | 2,_,_ =>
       obtain rfl:=len_0 hne
       exact good2 hp ⟨hs.len,hs.ents⟩ hj
      | 3,_,_ =>
       obtain⟨p,q,rfl⟩:=len_2 hne
       exact good3 hs h2 hj
      | 4,_,_ =>
       obtain⟨p,q,rfl⟩:=len_2 hne
       exact good4 hs h2 hj
      | 5,_,_ =>
       obtain⟨p,q,rfl⟩:=len_2 hne
       exact good5 hs h2 hj
      | 6,_,_ =>
       obtain⟨p,q,rfl⟩:=len_2 hne
       exact good6 hs h2 hj
      | 7,_,_ =>
       obtain⟨p,q,t,rfl⟩:=len_3 hne
       exact good7 hs h2 hj
      | 8,_,_ =>
       obtain⟨p,rfl⟩:=len_1 hne
       exact good8 hs h2 hj
      | 9,_,_ =>
       obtain⟨p,rfl⟩:=len_1 hne
       exact good9 hs h2 hj
      | 10,_,_ =>
       obtain⟨p,q,rfl⟩:=len_2 hne
       exact good10 hs h2 hj
      | 11,_,_ =>
       obtain⟨p,rfl⟩:=len_1 hne
       exact good11 hs h2 hj
      | 12,_,_ =>
       obtain⟨p,q,rfl⟩:=len_2 hne
       exact good12 hs h2 hj
      | 13,_,_ =>
       obtain⟨p,rfl⟩:=len_1 hne
       exact good13 hs h2 hj
      | 14,_,_ =>
       obtain⟨p,rfl⟩:=len_1 hne
       exact good14 hs h2 hj
      | 15,_,_ =>
       obtain⟨p,q,rfl⟩:=len_2 hne
       exact good15 hs h2 hj
      | 16,_,_ =>
       obtain⟨p,q,rfl⟩:=len_2 hne
       exact good16 hs h2 hj
      | 17,_,_ =>
       obtain⟨p,rfl⟩:=len_1 hne
       exact good17 hs h2 hj
      | 18,_,_ =>
       obtain⟨p,q,rfl⟩:=len_2 hne
       exact good18 hs h2 hj
      | 19,_,_ =>
       obtain⟨p,q,t,rfl⟩:=len_3 hne
       exact good19 hs h2 hj
      | 20,_,_ =>
       obtain⟨p,q,t,rfl⟩:=len_3 hne
       exact good20 hs h2 hj
      | 21,_,_ =>
       obtain⟨p,rfl⟩:=len_1 hne
       exact good21 hs h2 hj
      | 22,_,_ =>
       obtain⟨p,rfl⟩:=len_1 hne
       exact good22 hs h2 hj
      | 23,_,_ =>
       obtain⟨p,q,rfl⟩:=len_2 hne
       exact good23 hs h2 hj
      | 24,_,_ =>
       obtain⟨p,q,rfl⟩:=len_2 hne
       exact good24 hs h2 hj
      | 25,_,_ =>
       obtain⟨p,q,rfl⟩:=len_2 hne
       exact good25 hs h2 hj
      | 26,_,_ =>
       obtain⟨p,q,rfl⟩:=len_2 hne
       exact good26 hs h2 hj
      | 27,_,_ =>
       obtain⟨p,q,t,rfl⟩:=len_3 hne
       exact good27 hs h2 hj
      | 28,_,_ =>
       obtain⟨p,q,s,t,rfl⟩:=len_4 hne
       exact good28 hs h2 hj
     ·exact absurd hne (by rw [Dv.out_kids hr];omega)
    ·cases h
  ·cases h
end Go.Proofs.Ytgnllglbopaheaa.Se

namespace Go.Proofs.Ytgnllglbopaheaa.Lv
open Go Go.RowKit Se Ck
theorem ite_some {c:Prop} [Decidable c] {x j:Jd} (h:(if c then some x else none)=some j):c∧x=j:=by
 split at h
 ·rename_i hc;exact⟨hc,Option.some.inj h⟩
 ·cases h
def envP (c:List En) (r:Int):List Jd→Nat→Env
 | [],_=>envC c
 | p::_,k=>if Dv.innerB r k=true then ext (entB r p).1.i (envC c) else envC c
theorem rj {j:Jd} {n:Int} (h:rightJ j n=true):(0≤j.i∧j.i≤1000)∧j.a.pureB=true:=by
 unfold rightJ jfitB at h
 simp only [Bool.and_eq_true,decide_eq_true_eq] at h
 exact⟨h.1,h.2.1.2.1⟩
theorem ok_out {j:Jd} (h:okJ j=true):j.u.k≠0∧j.a.k≠0∧(j.eq=true→j.v.k≠0):=by
 unfold okJ at h
 simp only [Bool.not_eq_true',Bool.or_eq_false_iff,Bool.and_eq_false_iff,decide_eq_false_iff_not,beq_eq_false_iff_ne] at h
 refine⟨h.2.1,h.2.2.1,fun he=>?_⟩
 rcases h.2.2.2 with h | h
 ·rw [he] at h;cases h
 ·exact h
theorem con0_lv {c:List En} {n r:Int} {j:Jd} (hc:WC c) (ok:j.u.k≠0∧j.a.k≠0∧(j.eq=true→j.v.k≠0)) (h:con0 c n r=some j):Good (envC c) j:=by
 unfold con0 at h
 split at h
 ·split at h
  ·rename_i hb
   obtain rfl:=Option.some.inj h
   simp only [Bool.and_eq_true,decide_eq_true_eq] at hb
   exact lg1 hb
  ·cases h
 ·split at h
  ·split at h
   ·rename_i hb
    obtain rfl:=Option.some.inj h
    exact lg2 hc hb ok.2.1
   ·cases h
  ·cases h
theorem con1_lv {c:List En} {p j:Jd} {r:Int} (ok:j.u.k≠0∧j.a.k≠0∧(j.eq=true→j.v.k≠0)) (hgd:Gd c.length r j) (rp:(0≤p.i∧p.i≤1000)∧p.a.pureB=true) (gp:Good (envC c) p) (h:con1 p r=some j):Good (envC c) j:=by
 unfold con1 at h
 by_cases e:r=8
 ·rw [if_pos e] at h
  obtain⟨hb,rfl⟩:=ite_some h
  subst e
  exact lg8 gp rp.2 hb
 ·rw [if_neg e] at h
  by_cases e:r=9
  ·rw [if_pos e] at h
   obtain⟨hb,rfl⟩:=ite_some h
   subst e
   exact lg9 gp rp.2 hb ok.2.1
  ·rw [if_neg e] at h
   by_cases e:r=11
   ·rw [if_pos e] at h
    obtain⟨hb,rfl⟩:=ite_some h
    subst e
    exact lg11 gp
   ·rw [if_neg e] at h
    by_cases e:r=13
    ·rw [if_pos e] at h
     obtain⟨hb,rfl⟩:=ite_some h
     subst e
     exact lg13 gp
    ·rw [if_neg e] at h
     by_cases e:r=14
     ·rw [if_pos e] at h
      obtain⟨hb,rfl⟩:=ite_some h
      subst e
      exact lg14 gp hb
     ·rw [if_neg e] at h
      by_cases e:r=17
      ·rw [if_pos e] at h
       obtain⟨hb,rfl⟩:=ite_some h
       subst e
       exact lg17 gp rp.2 hb
      ·rw [if_neg e] at h
       by_cases e:r=21
       ·rw [if_pos e] at h
        obtain⟨hb,rfl⟩:=ite_some h
        subst e
        exact lg21 gp rp.2 hb (pure_marked (hgd.v rfl).p)
       ·rw [if_neg e] at h
        by_cases e:r=22
        ·rw [if_pos e] at h
         obtain⟨hb,rfl⟩:=ite_some h
         subst e
         exact lg22 gp rp.2 hb
        ·rw [if_neg e] at h
         cases h
theorem con2_lv {c:List En} {p q j:Jd} {r:Int} (ok:j.u.k≠0∧j.a.k≠0∧(j.eq=true→j.v.k≠0)) (rp:(0≤p.i∧p.i≤1000)∧p.a.pureB=true) (rq:(0≤q.i∧q.i≤1000)∧q.a.pureB=true) (gp:Good (envC c) p) (gq:Good (envP c r [p,q] 1) q) (h:con2 p q r=some j):Good (envC c) j:=by
 unfold con2 at h
 by_cases e:r=3∨r=6
 ·rw [if_pos e] at h
  obtain⟨hb,rfl⟩:=ite_some h
  exact lg3 e gp (by rcases e with rfl | rfl<;>exact gq) rp.1 rq.1 hb
 ·rw [if_neg e] at h
  by_cases e:r=4
  ·rw [if_pos e] at h
   obtain⟨hb,rfl⟩:=ite_some h
   subst e
   exact lg4 gp gq hb
  ·rw [if_neg e] at h
   by_cases e:r=5
   ·rw [if_pos e] at h
    obtain⟨hb,rfl⟩:=ite_some h
    subst e
    exact lg5 gp gq rp.2 hb ok.2.1
   ·rw [if_neg e] at h
    by_cases e:r=10
    ·rw [if_pos e] at h
     obtain⟨hb,rfl⟩:=ite_some h
     subst e
     exact lg10 gp gq rp.1 hb
    ·rw [if_neg e] at h
     by_cases e:r=12
     ·rw [if_pos e] at h
      obtain⟨hb,rfl⟩:=ite_some h
      subst e
      exact lg12 gp gq hb
     ·rw [if_neg e] at h
      by_cases e:r=15
      ·rw [if_pos e] at h
       obtain⟨hb,rfl⟩:=ite_some h
       subst e
       exact lg15 gp gq hb
      ·rw [if_neg e] at h
       by_cases e:r=16
       ·rw [if_pos e] at h
        obtain⟨hb,rfl⟩:=ite_some h
        subst e
        exact lg16 gp gq hb
       ·rw [if_neg e] at h
        by_cases e:r=18
        ·rw [if_pos e] at h
         obtain⟨hb,rfl⟩:=ite_some h
         subst e
         exact lg18 gp gq (ok.2.2 rfl) ok.2.1
        ·rw [if_neg e] at h
         by_cases e:r=23
         ·rw [if_pos e] at h
          obtain⟨hb,rfl⟩:=ite_some h
          subst e
          exact lg23 gp gq (by rw [Bool.and_eq_true] at hb;exact hb.1) ok.1 (ok.2.2 rfl) ok.2.1
         ·rw [if_neg e] at h
          by_cases e:r=24
          ·rw [if_pos e] at h
           obtain⟨hb,rfl⟩:=ite_some h
           subst e
           exact lg24 gp gq hb
          ·rw [if_neg e] at h
           by_cases e:r=25∨r=26
           ·rw [if_pos e] at h
            obtain⟨hb,rfl⟩:=ite_some h
            exact lg25 (by split<;>simp) gp (by rcases e with rfl | rfl<;>exact gq) rp.1 rq.1 hb
           ·rw [if_neg e] at h
            cases h
theorem con3_lv {c:List En} {p q t j:Jd} {r:Int} (ok:j.u.k≠0∧j.a.k≠0∧(j.eq=true→j.v.k≠0)) (gp:Good (envC c) p) (gq:Good (envP c r [p,q,t] 1) q) (gt:Good (envP c r [p,q,t] 2) t) (h:con3 p q t r=some j):Good (envC c) j:=by
 unfold con3 at h
 by_cases e:r=7
 ·rw [if_pos e] at h
  obtain⟨hb,rfl⟩:=ite_some h
  subst e
  exact lg7 gp gq gt hb
 ·rw [if_neg e] at h
  by_cases e:r=19
  ·rw [if_pos e] at h
   obtain⟨hb,rfl⟩:=ite_some h
   subst e
   exact lg19 gp gq gt hb
  ·rw [if_neg e] at h
   by_cases e:r=20
   ·rw [if_pos e] at h
    obtain⟨hb,rfl⟩:=ite_some h
    subst e
    exact lg20 gp gq gt hb
   ·rw [if_neg e] at h
    by_cases e:r=27
    ·rw [if_pos e] at h
     obtain⟨hb,rfl⟩:=ite_some h
     subst e
     exact lg27 gp gq gt hb
    ·rw [if_neg e] at h
     cases h
theorem con4_lv {c:List En} {p q s t j:Jd} {r:Int} (ok:j.u.k≠0∧j.a.k≠0∧(j.eq=true→j.v.k≠0)) (gp:Good (envC c) p) (gq:Good (envP c r [p,q,s,t] 1) q) (gs:Good (envP c r [p,q,s,t] 2) s) (gt:Good (envP c r [p,q,s,t] 3) t) (h:con4 p q s t r=some j):Good (envC c) j:=by
 unfold con4 at h
 by_cases e:r=28
 ·rw [if_pos e] at h
  obtain⟨hb,rfl⟩:=ite_some h
  subst e
  exact lg28 gp gq gs gt hb
 ·rw [if_neg e] at h
  cases h
theorem inner0 (r:Int):Dv.innerB r ((0:Nat):Int)=false:=by
 unfold Dv.innerB
 split
 ·rfl
 ·split<;>rfl
theorem ofB_lv {c:List En} {r n:Int} {on:List Jd} {j:Jd} (hc:WC c) (hs:Sml c on) (h:ofB c r n on=some j) (hg:∀ k (hk:k<on.length),Good (envP c r on k) on[k]):Good (envC c) j:=by
 have hgd:=(ofB_good hs h).1
 unfold ofB at h
 split at h
 ·cases h
 ·split at h
  ·rename_i hr
   rw [Bool.and_eq_true] at hr
   have hr:=hr.2
   split at h
   ·rename_i j' hj
    split at h
    ·rename_i ok
     obtain rfl:=Option.some.inj h
     have ok:=ok_out ok
     have g0:∀ p l,on=p::l→Good (envC c) p:=by
      rintro p l rfl
      have:=hg 0 (by simp)
      simp only [envP] at this
      rw [if_neg (by rw [inner0];decide)] at this
      exact this
     match on,hj,hr,hg,g0 with
     | [],hj,_,_,_=>exact con0_lv hc ok hj
     | [p],hj,hr,hg,g0 =>
      simp only [allR,Bool.and_eq_true] at hr
      exact con1_lv ok hgd (rj hr.1) (g0 _ _ rfl) hj
     | [p,q],hj,hr,hg,g0 =>
      simp only [allR,Bool.and_eq_true] at hr
      exact con2_lv ok (rj hr.1) (rj hr.2.1) (g0 _ _ rfl) (hg 1 (by simp)) hj
     | [p,q,t],hj,hr,hg,g0=>exact con3_lv ok (g0 _ _ rfl) (hg 1 (by simp)) (hg 2 (by simp)) hj
     | [p,q,s,t],hj,hr,hg,g0=>exact con4_lv ok (g0 _ _ rfl) (hg 1 (by simp)) (hg 2 (by simp)) (hg 3 (by simp)) hj
     | _::_::_::_::_::_,hj,_,_,_=>cases hj
    ·cases h
   ·cases h
  ·cases h
end Go.Proofs.Ytgnllglbopaheaa.Lv

namespace Go.Proofs.Ytgnllglbopaheaa.Lv
open Go Go.RowKit Se Ck
theorem entB_lv {r:Int} {G:Env} {p:Jd} (g:Good G p) (h:(entB r p).2=true):WL G (entB r p).1.a∧lv G (entB r p).1.a=(entB r p).1.i+1:=by
 rcases Nat.lt_or_ge (rcls r) 2 with hr | hr
 ·have hh:(entB r p).1=⟨p.u,p.a.i⟩∧p.a.k=1:=by
   rcases Nat.lt_or_ge (rcls r) 1 with h1 | h1
   ·rw [entB_0 _ (by omega)] at h ⊢
    simp only [osB,Bool.and_eq_true,beq_iff_eq] at h
    exact⟨rfl,h.2.1⟩
   ·rw [entB_1 _ (by omega)] at h ⊢
    simp only [osB,Bool.and_eq_true,beq_iff_eq] at h
    exact⟨rfl,h.2.1⟩
  rw [hh.1]
  exact⟨g.u,g.lu.trans (isT_lv g hh.2)⟩
 ·have hh:(entB r p).1=⟨p.a,p.i⟩:=by
   unfold entB
   rw [if_neg (by omega),if_neg (by omega)]
  rw [hh]
  exact⟨g.a,g.la⟩
theorem premB_lv {c:List En} {r:Int} {k:Nat} {on:List Jd} (hc:WC c) (hg:∀ p l,on=p::l→Good (envC c) p) (h:(premB c r k on).2=true):WC (premB c r k on).1∧envC (premB c r k on).1=envP c r on k:=by
 unfold premB at h ⊢
 split at h
 ·rename_i h1
  rw [if_pos h1]
  split at h
  ·rename_i h2
   rw [if_pos h2]
   match on,hg,h with
   | [],_,h=>cases h
   | p::l,hg,h =>
    simp only at h ⊢
    split at h
    ·rename_i h3
     rw [if_pos h3]
     split at h
     ·rename_i h4
      rw [if_pos h4]
      refine⟨(wc_ext _ _).2 ⟨entB_lv (hg p l rfl) h4,hc⟩,?_⟩
      show envC (c++[_])=_
      rw [envC_ext]
      show _=if Dv.innerB r k=true then ext (entB r p).1.i (envC c) else envC c
      rw [if_pos h2]
     ·cases h
    ·cases h
  ·rename_i h2
   rw [if_neg h2]
   refine⟨hc,?_⟩
   match on with
   | []=>rfl
   | p::l=>exact(if_neg h2).symm
 ·cases h
def GoodA (c:List En) (r:Int) (on:List Jd):Prop:=∀ k (hk:k<on.length),Good (envP c r on k) on[k]
theorem GoodA.first {c:List En} {r:Int} {on:List Jd} (h:GoodA c r on):∀ p l,on=p::l→Good (envC c) p:=by
 rintro p l rfl
 have:=h 0 (by simp)
 simp only [envP] at this
 rw [if_neg (by rw [inner0];decide)] at this
 exact this
theorem GoodA.add {c:List En} {r:Int} {on:List Jd} {y:Jd} (h:GoodA c r on) (hy:Good (envP c r on on.length) y):GoodA c r (on++[y]):=by
 intro k hk
 match on,h,hy with
 | [],_,hy =>
  obtain rfl:k=0:=by simpa using hk
  show Good (if Dv.innerB r ((0:Nat):Int)=true then _ else envC c) y
  rw [if_neg (by rw [inner0];decide)]
  exact hy
 | p::l,h,hy =>
  show Good (envP c r (p::l) k) _
  rcases Nat.lt_or_ge k (p::l).length with h1 | h1
  ·rw [List.getElem_append_left h1]
   exact h k h1
  ·obtain rfl:k=(p::l).length:=by simp at hk h1 ⊢;omega
   rw [List.getElem_append_right (Nat.le_refl _)]
   simpa using hy
theorem judgeB_lv {m:Nat} (hm:Mild m) (t:Dv.Tm):∀ (c:List En) {x:Jd},c.length+t.size≤101→Smc c→WC c→judgeB m c t=.ok x→Good (envC c) x:=by
 induction t using Dv.Tm.ind with
 | h t ih =>
  intro c x hcs hsc hw h
  have key:∀ (l:List Dv.Tm) (k:Nat) (on on':List Jd),(∀ x ∈ l,x ∈ t.kids)→k=on.length→(∀ j ∈ on,Smj j)→GoodA c t.k on→kidsB m c t.k k on l=.ok on'→(∀ j ∈ on',Smj j)∧GoodA c t.k on':=by
   intro l
   induction l with
   | nil=>intro k on on' _ _ ho hg h;rw [kidsB] at h;cases h;exact⟨ho,hg⟩
   | cons d l ihl =>
    intro k on on' hl hk ho hg h
    cases hp:(premB c t.k k on).2 with
    | false=>rw [kidsB_no hp] at h;cases h
    | true =>
     have hsp:=smc_prem (r:=t.k) (kid:=(k:Int)) (on:=on) hsc ho
     have hwp:=premB_lv hw hg.first hp
     cases hd:judgeB m (premB c t.k k on).1 d with
     | error e2=>rw [kidsB_err hp hd] at h;cases h
     | ok y =>
      rw [kidsB_ok hp hd] at h
      have:=dsize_kid (hl d (List.mem_cons_self ..))
      have hle:(premB c t.k k on).1.length+d.size≤101:=by have:=hsp.2;omega
      have hgy:=ih d (hl d (List.mem_cons_self ..)) _ hle hsp.1 hwp.1 hd
      rw [hwp.2,hk] at hgy
      refine ihl _ _ _ (fun x hx=>hl x (List.mem_cons_of_mem _ hx)) (by simp [hk]) (fun j hj=>?_) (hg.add hgy) h
      rcases List.mem_append.1 hj with hj | hj
      ·exact ho j hj
      ·rw [List.mem_singleton.1 hj]
       exact judgeB_small hm d _ hle hsp.1 hd
  rw [judgeB_eq] at h
  split at h
  ·cases h
  ·rename_i on he
   obtain⟨k1,k2⟩:=key t.kids 0 [] on (fun _ hx=>hx) rfl (fun _ h=>by cases h) (fun k hk=>by cases hk) he
   have hs:Sml c on:=⟨by have:=Dv.Tm.size_eq t;omega,hsc.ents,k1⟩
   exact ofB_lv hw hs (endB_ok hm hs h).1 k2
theorem judge_level {m m':Nat} (hm:Mild m) (hm':Mild m') {d d':Dv.Tm} {c:List En} {x x':Jd} (h1:c.length+d.size≤101) (h2:c.length+d'.size≤101) (hsc:Smc c) (hw:WC c) (h:judgeB m c d=.ok x) (h':judgeB m' c d'=.ok x') (he:x.u=x'.u):x.i=x'.i:=by
 have g:=judgeB_lv hm d c h1 hsc hw h
 have g':=judgeB_lv hm' d' c h2 hsc hw h'
 rw [←g.lu,←g'.lu,he]
end Go.Proofs.Ytgnllglbopaheaa.Lv

namespace Go.Proofs.Ytgnllglbopaheaa.Lv
open Go Go.RowKit Se Ck
def ctxL (m:Nat):Nat→List En→List Dv.Tm→Except (Int × List Int) (List En)
 | _,c,[]=>.ok c
 | k,c,d::l=>match judgeT m c d with
  | .error e=>.error (e.1,(k:Int)::e.2)
  | .ok j=>if isT j=true then ctxL m (k+1) (c++[⟨j.u,j.a.i⟩]) l else .error (3,[(k:Int)])
def ctxT (m:Nat) (l:List Dv.Tm):Except (Int × List Int) (List En):=if l.all Dv.Tm.rightB=true then ctxL m 0 [] l else .error (1,[])
theorem judgeT_B {m:Nat} {c:List En} {d:Dv.Tm} {j:Jd} (h:judgeT m c d=.ok j):judgeB m c d=.ok j:=by
 unfold judgeT at h
 split at h
 ·split at h
  ·exact h
  ·cases h
 ·cases h
theorem ctxL_wc {m:Nat} (hm:Mild m):∀ (l:List Dv.Tm) (k:Nat) (c c':List En),(∀ q (h:q<l.length),c.length+q+(l[q]).size≤101)→Smc c→WC c→ctxL m k c l=.ok c'→Smc c'∧WC c'∧c'.length=c.length+l.length
 | [],k,c,c',_,hs,hw,h=>by
  rw [ctxL] at h
  cases h
  exact⟨hs,hw,rfl⟩
 | d::l,k,c,c',hz,hs,hw,h=>by
  rw [ctxL] at h
  have h0:=hz 0 (by simp)
  simp only [List.getElem_cons_zero,Nat.add_zero] at h0
  split at h
  ·cases h
  ·rename_i j hj
   have hj:=judgeT_B hj
   have g:=judgeB_lv hm d c h0 hs hw hj
   have hsm:=judgeB_small hm d c h0 hs hj
   split at h
   ·rename_i ht
    have hk:=isT_lv g (isT_out ht).2
    obtain⟨h1,h2,h3⟩:=ctxL_wc hm l (k+1) (c++[⟨j.u,j.a.i⟩]) c' (fun q hq=>by
     have:=hz (q+1) (by simpa using hq)
     simp only [List.getElem_cons_succ] at this
     simp only [List.length_append,List.length_singleton]
     omega) ⟨fun e he=>by
     rcases List.mem_append.1 he with he | he
     ·exact hs.ents e he
     ·rw [List.mem_singleton.1 he]
      exact hsm.1⟩ ((wc_ext _ _).2 ⟨⟨g.u,g.lu.trans hk⟩,hw⟩) h
    exact⟨h1,h2,by rw [h3];simp;omega⟩
   ·cases h
theorem ctxT_wc {m:Nat} (hm:Mild m) {l:List Dv.Tm} {c:List En} (hz:∀ q (h:q<l.length),q+(l[q]).size≤101) (h:ctxT m l=.ok c):Smc c∧WC c∧c.length=l.length:=by
 unfold ctxT at h
 split at h
 ·have:=ctxL_wc hm l 0 [] c (fun q hq=>by have:=hz q hq;simp only [List.length_nil];omega) ⟨fun _ h=>by cases h⟩ trivial h
  simpa using this
 ·cases h
end Go.Proofs.Ytgnllglbopaheaa.Lv

namespace Go.Proofs.Ytgnllglbopaheaa.Ck
open Go Go.RowKit
open Se (ofB Sml sizeJ zJ)
open Lv (ctxL ctxT)
set_option maxRecDepth 20000 in
set_option maxHeartbeats 4000000 in
theorem allright_any (l:List Dv.Tm) (w:World) (s:Value) (hl:Dv.Lies w l s):Calls Try.prog 11 #[s] w fun e w'=>e=.returned (.bool (l.all Dv.Tm.rightB))∧Below w.heap.size w w':=by
 obtain⟨a,cap,S,rfl,hc,hmx,-,hn,hk⟩:=hl.out
 unfold maxLen at hmx
 have HN:=Lib.hid hn
 have HK:=Lib.hid hk
 clear hn hk hl
 go_enter Try.func11,Try.ntmps11
 go_wp2
 go_loopw [7] (fun iv wr=>∃ k:Nat,k≤l.length∧iv=.int .i64 k∧Hid ((l.take k).all Dv.Tm.rightB=true)∧Below w.heap.size w wr) (fun iv _=>l.length-(intOf iv).toNat)
 case atStart=>exact⟨0,Nat.zero_le _,rfl,rfl,Below.refl _ _⟩
 case round =>
  obtain⟨k,hk,rfl,hgood,hb⟩:=hrel
  by_cases hlt:k<l.length
  ·obtain⟨b,o,rfl,hx⟩:=HN.out k hlt
   have hx:=hx.below hb hx.lt
   have hq:=(HK.out k hlt).keep hb
   obtain⟨a',cap',S',hS,-⟩:=hq.out
   rw [hS] at hx hq
   have HQ:=Lib.hid hq
   have HT:=Lib.hid (fun(h:l[k].rightB=true)=>show(l.take (k+1)).all Dv.Tm.rightB=true by rw [List.take_succ_eq_append_getElem hlt,List.all_append,hgood.out];simp [h])
   have HO:=Lib.hid (fun(h:l[k].rightB=false)=>show l.all Dv.Tm.rightB=false by
    cases e:l.all Dv.Tm.rightB with
    | false=>rfl
    | true=>have:=List.all_eq_true.1 e _ (List.getElem_mem hlt);rw [h] at this;cases this)
   obtain⟨x0,x1,x2⟩:=hx
   clear hS hq
   have hbV:Below wr.heap.size wr (wr.alloc (.cells #[.int .i64 l[k].k,.int .i64 l[k].i,(.slice a' l[k].kids.length cap')] 24)):=(Below.refl _ _).alloc (Nat.le_refl _) _
   have hX0:(wr.alloc (.cells #[.int .i64 l[k].k,.int .i64 l[k].i,(.slice a' l[k].kids.length cap')] 24)).heap[wr.heap.size]? =some (Obj.cells #[.int .i64 l[k].k,.int .i64 l[k].i,(.slice a' l[k].kids.length cap')] 24 (0,0)):=alloc_new _ _
   have hqV:=HQ.out.keep hbV
   have hbw:=below_call hb hbV hb.size
   clear HQ hb hbV
   go_upto_region 4 with fail
   clear x0 x1 x2
   obtain⟨g,hg⟩:∃ g,wr.heap.size=g:=⟨_,rfl⟩
   rw [hg] at hX0 ⊢
   generalize wr.alloc (.cells #[.int .i64 l[k].k,.int .i64 l[k].i,(.slice a' l[k].kids.length cap')] 24)=V at hX0 hqV hbw ⊢
   have HQ:=Lib.hid hqV
   have HBV:=Lib.hid hbw
   clear hqV hbw hg
   have x0:V.cell? ⟨g,0,none⟩=some (.int .i64 l[k].k):=by rw [Lib.cell_of_heap hX0];rfl
   have x1:V.cell? ⟨g,1,none⟩=some (.int .i64 l[k].i):=by rw [Lib.cell_of_heap hX0];rfl
   have x2:V.cell? ⟨g,2,none⟩=some (.slice a' l[k].kids.length cap'):=by rw [Lib.cell_of_heap hX0];rfl
   clear hX0
   go_wp2_with fail
   refine(Dv.dright_any l[k] _ _ HQ.out).mono ?_
   obtain⟨mb,hmb⟩:∃ b,l[k].rightB=b:=⟨_,rfl⟩
   rw [hmb]
   have HMB:=Lib.hid hmb
   clear hmb
   rintro e w1 ⟨rfl,hb1⟩
   have HB1:=Lib.hid (below_call HBV.out hb1 HBV.out.size)
   clear hb1 x0 x1 x2
   cases mb with
   | false =>
    go_wp2
    go_ret
    exact⟨ret_bool (HO.out HMB.out).symm,HB1.out⟩
   | true =>
    go_wp2
    go_roundw
    case rel=>exact⟨k+1,hlt,by go_num,HT.out HMB.out,HB1.out⟩
    case measure=>simp [intOf];omega
  ·obtain rfl:k=l.length:=by omega
   have HS:=Lib.hid (show l.all Dv.Tm.rightB=true by have:=hgood.out;rw [List.take_length] at this;exact this)
   go_wp2
   go_ret
   exact⟨ret_bool HS.out.symm,hb⟩
def GivesX (x:Except (Int × List Int) (List En)) (w:World) (e:Ending) (w':World):Prop:=Kept w w'∧match x with
 | .ok c=>∃ sc,e=.returned (.tuple #[sc,.int .i64 0,.slice none 0 0])∧LiesE w' c sc
 | .error (er,q)=>∃ pv,e=.returned (.tuple #[.slice none 0 0,.int .i64 er,pv])∧RowI w.heap.size w' pv q
theorem ctxL_err {m k:Nat} {c:List En} {d:Dv.Tm} {l:List Dv.Tm} {er:Int} {q:List Int} (h:judgeT m c d=.error (er,q)):ctxL m k c (d::l)=.error (er,(k:Int)::q):=by rw [ctxL,h]
theorem ctxL_no {m k:Nat} {c:List En} {d:Dv.Tm} {l:List Dv.Tm} {j:Jd} (h:judgeT m c d=.ok j) (ht:Se.isT j=false):ctxL m k c (d::l)=.error (3,[(k:Int)]):=by rw [ctxL,h];simp [ht]
theorem ctxL_ok {m k:Nat} {c:List En} {d:Dv.Tm} {l:List Dv.Tm} {j:Jd} (h:judgeT m c d=.ok j) (ht:Se.isT j=true):ctxL m k c (d::l)=ctxL m (k+1) (c++[⟨j.u,j.a.i⟩]) l:=by rw [ctxL,h];simp [ht]
theorem ctx_er {m:Nat} {c:List En} {d:Dv.Tm} {er:Int} {q:List Int} (h:judgeT m c d=.error (er,q)):er=1∨er=3∨er=4:=by
 unfold judgeT at h
 split at h
 ·split at h
  ·exact Or.inr (judgeB_err m d c h)
  ·cases h;exact Or.inl rfl
 ·cases h;exact Or.inl rfl
theorem RowI.wide {N N0:Nat} {w:World} {pv:Value} {p:List Int} (h:RowI N0 w pv p) (hN:N≤N0):RowI N w pv p:=by
 rcases h with h | ⟨g,cap,cur,e,h0,r⟩
 ·exact Or.inl h
 ·exact Or.inr ⟨g,cap,cur,e,by omega,r⟩
theorem RowI.ne {N0:Nat} {w:World} {pv:Value} {p:List Int} (h:RowI N0 w pv p):∀ n c b,pv=.slice (some ⟨b,0,none⟩) n c→w.heap.size≠b:=by
 rintro n c b rfl rfl
 rcases h with ⟨h,-⟩ | ⟨g,cap,cur,e,h0,hh,r⟩
 ·cases h
 ·have:=(Array.getElem?_eq_some_iff.1 hh).1
  simp only [Value.slice.injEq,Option.some.injEq,Addr.mk.injEq] at e
  omega
theorem isT_no1 {j:Jd} (h:j.eq=true):Se.isT j=false:=by unfold Se.isT;rw [h];rfl
theorem isT_no2 {j:Jd} (h:(j.a.k != 1)=true):Se.isT j=false:=by unfold Se.isT Se.osW;simp at h;simp [h]
theorem isT_no3 {j:Jd} (h:(j.i != wrap64 (j.a.i+1))=true):Se.isT j=false:=by
 have h:¬ j.i=IntKind.i64.wrap (j.a.i+1):=by rw [←IntWalk.i64_left] at h;simpa using h
 cases e:Se.isT j with
 | false=>rfl
 | true=>unfold Se.isT Se.osW at e;simp at e;exact absurd e.2.2 h
theorem isT_yes {j:Jd} (h1:j.eq=false) (h2:(j.a.k != 1)=false) (h3:(j.i != wrap64 (j.a.i+1))=false):Se.isT j=true:=by
 have h2:j.a.k=1:=by simpa using h2
 have h3:j.i=IntKind.i64.wrap (j.a.i+1):=by rw [←IntWalk.i64_left] at h3;simpa using h3
 unfold Se.isT Se.osW;rw [h1,h2,h3];simp
end Go.Proofs.Ytgnllglbopaheaa.Ck

namespace Go.Proofs.Ytgnllglbopaheaa.Ck
open Go Go.RowKit
open Se (ofB Sml sizeJ zJ)
open Lv (ctxL ctxT)
set_option maxRecDepth 20000 in
set_option maxHeartbeats 8000000 in
theorem ckctx_any (m:Nat) (hm:Mild m) (l:List Dv.Tm) (w:World) (s:Value) (hl:Dv.Lies w l s) (hz:∀ q (h:q<l.length),q+(l[q]).size≤101):Calls Try.prog 6 #[s,.float .f64 m] w (GivesX (ctxT m l) w):=by
 obtain⟨dj,dj1,dj2⟩:=under_of 40 (by kernel_rfl)
 obtain⟨a,cap,S,rfl,hc,hmx,-,hn,hk⟩:=hl.out
 unfold maxLen at hmx
 have HL:=Lib.hid hl
 have HN:=Lib.hid hn
 have HK:=Lib.hid hk
 have HZ:=Lib.hid hz
 have HM:=Lib.hid hm
 clear hl hn hk hz hm
 go_enter Try.func6,Try.ntmps6
 cases hr:l.all Dv.Tm.rightB with
 | false =>
  have HJ:=Lib.hid (show ctxT m l=.error (1,[]) by unfold ctxT;rw [hr];rfl)
  have HR:=Lib.hid hr
  clear hr
  go_wp2_with fail
  refine(allright_any l _ _ HL.out).mono ?_
  rintro e w1 ⟨rfl,hk1⟩
  rw [HR.out]
  have HK1:=Lib.hid hk1
  clear hk1
  go_wp2_with fail
  go_ret3
  rw [HJ.out]
  exact⟨HK1.out,_,rfl,Or.inl ⟨rfl,rfl⟩⟩
 | true =>
  have HJ:=Lib.hid (show ctxL m 0 [] (l.drop 0)=ctxT m l by unfold ctxT;rw [hr];rfl)
  have HR:=Lib.hid hr
  clear hr
  go_wp2_with fail
  refine(allright_any l _ _ HL.out).mono ?_
  rintro e w1 ⟨rfl,hk1⟩
  rw [HR.out]
  have HK1:=Lib.hid hk1
  clear hk1
  go_wp2_with fail
  go_loopw [7,18] (fun cv iv wr=>∃ (k:Nat) (c:List En),k≤l.length∧iv=.int .i64 k∧Hid (c.length=k)∧Hid (ctxL m k c (l.drop k)=ctxT m l)∧Hid (Smc c)∧Hid (LiesE wr c cv)∧Hid (Kept w wr)) (fun _ iv _=>l.length-(intOf iv).toNat)
  case atStart=>exact⟨0,[],Nat.zero_le _,rfl,rfl,HJ,Lib.hid ⟨fun _ h=>by cases h⟩,Lib.hid (liesE_nil _),HK1⟩
  case round =>
   obtain⟨k,c,hk,rfl,hcl,hct,hsc,hlc,hkr⟩:=hrel
   by_cases hlt:k<l.length
   ·have hst:=hct.out
    rw [List.drop_eq_getElem_cons hlt] at hst
    have HST:=Lib.hid hst
    have HB:=Lib.hid (HZ.out k hlt)
    obtain⟨b,o,rfl,hx⟩:=HN.out k hlt
    have hx:=hx.below hkr.out hx.lt
    have hq:=(HK.out k hlt).keep hkr.out
    obtain⟨a',cap',S',hS,-⟩:=hq.out
    rw [hS] at hx hq
    obtain⟨d,hd⟩:∃ d,l[k]=d:=⟨_,rfl⟩
    rw [hd] at hx hq HST HB
    obtain⟨x0,x1,x2⟩:=hx
    have hbV:Kept wr (wr.alloc (.cells #[.int .i64 d.k,.int .i64 d.i,(.slice a' d.kids.length cap')] 24)):=(Below.refl _ _).alloc (Nat.le_refl _) _
    have hX0:(wr.alloc (.cells #[.int .i64 d.k,.int .i64 d.i,(.slice a' d.kids.length cap')] 24)).heap[wr.heap.size]? =some (Obj.cells #[.int .i64 d.k,.int .i64 d.i,(.slice a' d.kids.length cap')] 24 (0,0)):=alloc_new _ _
    have HQ:=Lib.hid (hq.keep hbV)
    have HLC:=Lib.hid (hlc.out.keep hbV)
    have HKV:=Lib.hid (kept_trans hkr.out hbV)
    clear hS hq hst hbV hct hlc hkr
    go_upto_region 7 with fail
    clear x0 x1 x2
    obtain⟨g,hg⟩:∃ g,wr.heap.size=g:=⟨_,rfl⟩
    rw [hg] at hX0 ⊢
    generalize wr.alloc (.cells #[.int .i64 d.k,.int .i64 d.i,(.slice a' d.kids.length cap')] 24)=V at hX0 HQ HLC HKV ⊢
    have x0:V.cell? ⟨g,0,none⟩=some (.int .i64 d.k):=by rw [Lib.cell_of_heap hX0];rfl
    have x1:V.cell? ⟨g,1,none⟩=some (.int .i64 d.i):=by rw [Lib.cell_of_heap hX0];rfl
    have x2:V.cell? ⟨g,2,none⟩=some (.slice a' d.kids.length cap'):=by rw [Lib.cell_of_heap hX0];rfl
    clear hX0 hg
    have HCAL:=Lib.hid (ckJudgeQ_any m HM.out d c V V (kept_refl _) u7 (.slice a' d.kids.length cap') HLC.out HQ.out (by have:=HB.out;have:=hcl.out;omega) hsc.out)
    cases hj:judgeT m c d with
    | error ea =>
     obtain⟨er,q⟩:=ea
     have her:(er != 0)=true:=by rcases ctx_er hj with h | h | h<;>subst h<;>rfl
     have HQL:=Lib.hid (show q.length≤100000 by have h1:=judgeT_len (m:=m) (c:=c) (d:=d);rw [hj] at h1;have h2:=HB.out;simp only [outQ] at h1;omega)
     have HE:=Lib.hid (ctxL_err (k:=k) (l:=l.drop (k+1)) hj)
     rw [hj] at HCAL
     clear hj
     go_wp2_with fail
     refine HCAL.out.mono ?_
     rintro e w2 ⟨hk2,pv,rfl,hp⟩
     have HP2:=Lib.hid hp
     have HK2:=Lib.hid hk2
     clear hk2 hp HCAL x0 x1 x2
     go_wp2_with (refine stop_store 40 (.tmp 10) (.tmp 28) rfl ?_)
     intro _
     refine wpList_store_part_n (by rfl) 40 (.tmp 10) (.tmp 28) rfl (w2.heap.size) 0 zAgg (by rfl) (by rfl) 40 (by kernel_rfl) (row_ok rfl) ?_
     intro W hW
     subst hW
     refine⟨_,zAgg,alloc_new _ _,rfl,Nat.le_of_ble_eq_true rfl,?_⟩
     intro w3 hwn
     have hfr:=fresh_judg hwn
     clear hwn
     have HK3:=Lib.hid (kept_trans HK2.out hfr.1)
     have HP3:=Lib.hid (HP2.out.later hfr.1)
     clear hfr
     go_wp2_with fail
     refine(insert0_any V.heap.size _ pv q k w3.heap.size _ (HP3.out.later (kept_new _ _)) HQL.out (by have:=HK3.out.size;simp;omega) (alloc_new _ _) HP3.out.ne).mono ?_
     rintro e w5 ⟨pv5,rfl,hp5,hk5⟩
     have HP5:=Lib.hid hp5
     have HK5:=Lib.hid (Below.trans (show Below V.heap.size V _ from kept_trans HK3.out (kept_new _ _)) hk5)
     clear hp5 hk5
     go_wp2_with fail
     go_ret3
     rw [←HST.out,HE.out]
     exact⟨kept_trans HKV.out HK5.out,_,rfl,HP5.out.wide HKV.out.size⟩
    | ok j =>
     have HJ:=Lib.hid hj
     have HSM:=Lib.hid (judgeB_small HM.out d c (by have:=HB.out;have:=hcl.out;omega) hsc.out (Lv.judgeT_B hj))
     rw [hj] at HCAL
     clear hj
     go_wp2_with fail
     refine HCAL.out.mono ?_
     rintro e w2 ⟨hk2,su,sv,sa,rfl,hfx,hu,hv,ha⟩
     obtain⟨auj,cuj,-,rfl,-⟩:=hu.out
     obtain⟨avj,cvj,-,rfl,-⟩:=hv.out
     obtain⟨aaj,caj,-,rfl,-⟩:=ha.out
     have HFX:=Lib.hid hfx
     have HU2:=Lib.hid hu.lies
     have HK2:=Lib.hid hk2
     clear hk2 hfx hu hv ha HCAL x0 x1 x2
     go_wp2_with (refine stop_store 40 (.tmp 10) (.tmp 28) rfl ?_)
     intro _
     refine wpList_store_part_n (by rfl) 40 (.tmp 10) (.tmp 28) rfl (w2.heap.size) 0 #[.bool j.eq,.int .i64 j.u.k,.int .i64 j.u.i,.int .i64 j.u.j,.int .i64 j.u.n,(.slice auj j.u.kids.length cuj),.int .i64 j.v.k,.int .i64 j.v.i,.int .i64 j.v.j,.int .i64 j.v.n,(.slice avj j.v.kids.length cvj),.int .i64 j.a.k,.int .i64 j.a.i,.int .i64 j.a.j,.int .i64 j.a.n,(.slice aaj j.a.kids.length caj),.int .i64 j.i] (by rfl) (by rfl) 40 (by kernel_rfl) (row_ok rfl) ?_
     intro W hW
     subst hW
     refine⟨_,#[.bool j.eq,.int .i64 j.u.k,.int .i64 j.u.i,.int .i64 j.u.j,.int .i64 j.u.n,(.slice auj j.u.kids.length cuj),.int .i64 j.v.k,.int .i64 j.v.i,.int .i64 j.v.j,.int .i64 j.v.n,(.slice avj j.v.kids.length cvj),.int .i64 j.a.k,.int .i64 j.a.i,.int .i64 j.a.j,.int .i64 j.a.n,(.slice aaj j.a.kids.length caj),.int .i64 j.i],alloc_new _ _,rfl,Nat.le_of_ble_eq_true rfl,?_⟩
     intro w3 hwn
     have hfr:=fresh_judg hwn
     clear hwn
     have HU3:=Lib.hid (HU2.out.keep hfr.1)
     have HK3:=Lib.hid (kept_trans HK2.out hfr.1)
     have HLC3:=Lib.hid (HLC.out.keep HK3.out)
     have HKW3:=Lib.hid (kept_trans HKV.out HK3.out)
     have hE3:=hfr.2.1
     clear hfr
     obtain⟨E,hE⟩:∃ E,w2.heap.size=E:=⟨_,rfl⟩
     rw [hE] at hE3
     rw [hE]
     clear hE
     have z0:w3.cell? ⟨E,0,none⟩=some (.bool j.eq):=by rw [Lib.cell_of_heap hE3];rfl
     have z1:w3.cell? ⟨E,1,none⟩=some (.int .i64 j.u.k):=by rw [Lib.cell_of_heap hE3];rfl
     have z2:w3.cell? ⟨E,2,none⟩=some (.int .i64 j.u.i):=by rw [Lib.cell_of_heap hE3];rfl
     have z3:w3.cell? ⟨E,3,none⟩=some (.int .i64 j.u.j):=by rw [Lib.cell_of_heap hE3];rfl
     have z4:w3.cell? ⟨E,4,none⟩=some (.int .i64 j.u.n):=by rw [Lib.cell_of_heap hE3];rfl
     have z5:w3.cell? ⟨E,5,none⟩=some (.slice auj j.u.kids.length cuj):=by rw [Lib.cell_of_heap hE3];rfl
     have z11:w3.cell? ⟨E,11,none⟩=some (.int .i64 j.a.k):=by rw [Lib.cell_of_heap hE3];rfl
     have z12:w3.cell? ⟨E,12,none⟩=some (.int .i64 j.a.i):=by rw [Lib.cell_of_heap hE3];rfl
     have z16:w3.cell? ⟨E,16,none⟩=some (.int .i64 j.i):=by rw [Lib.cell_of_heap hE3];rfl
     clear hE3
     cases heq:j.eq with
     | true =>
      have HT:=Lib.hid (isT_no1 heq)
      rw [heq] at z0
      clear heq
      go_wp2_with fail
      go_ret3
      rw [←HST.out,ctxL_no HJ.out HT.out]
      exact⟨kept_trans HKW3.out (kept_new _ _),_,rfl,Or.inr ⟨w3.heap.size,1,_,rfl,HKW3.out.size,alloc_new _ _,Nat.le_refl _,by decide,rfl,rfl,ints_one _⟩⟩
     | false =>
      have HEQ:=Lib.hid heq
      rw [heq] at z0
      clear heq
      cases h2:(j.a.k != 1) with
      | false =>
       cases h3:(j.i != wrap64 (j.a.i+1)) with
       | false =>
        have HT:=Lib.hid (isT_yes HEQ.out h2 h3)
        go_wp2_with fail
        refine(ctxadd_any c j.u j.a.i w3 u7 _ HLC3.out HU3.out ⟨HFX.out.1,HFX.out.2.2.1.2.1⟩ (by have:=HB.out;have:=hcl.out;omega) (fun x hx=>by have:=hsc.out.ents x hx;omega) (by have:=HSM.out.1;omega)).mono ?_
        rintro e w4 ⟨s4,rfl,hl4,hk4⟩
        have HL4:=Lib.hid hl4
        have HK4:=Lib.hid (kept_trans HKW3.out hk4)
        clear hl4 hk4
        go_wp2_with fail
        go_roundw
        case rel=>exact⟨k+1,c++[⟨j.u,j.a.i⟩],hlt,by go_num,Lib.hid (by have:=hcl.out;simp;omega),Lib.hid (by rw [←ctxL_ok HJ.out HT.out];exact HST.out),Lib.hid ⟨fun x hx=>by rcases List.mem_append.1 hx with hx | hx;exact hsc.out.ents x hx;rw [List.mem_singleton.1 hx];exact HSM.out.1⟩,Lib.hid HL4.out.lies,HK4⟩
        case measure=>simp [intOf];omega
       | true =>
        have HT:=Lib.hid (isT_no3 h3)
        go_wp2_with fail
        go_ret3
        rw [←HST.out,ctxL_no HJ.out HT.out]
        exact⟨kept_trans HKW3.out (kept_new _ _),_,rfl,Or.inr ⟨w3.heap.size,1,_,rfl,HKW3.out.size,alloc_new _ _,Nat.le_refl _,by decide,rfl,rfl,ints_one _⟩⟩
      | true =>
       have HT:=Lib.hid (isT_no2 h2)
       go_wp2_with fail
       go_ret3
       rw [←HST.out,ctxL_no HJ.out HT.out]
       exact⟨kept_trans HKW3.out (kept_new _ _),_,rfl,Or.inr ⟨w3.heap.size,1,_,rfl,HKW3.out.size,alloc_new _ _,Nat.le_refl _,by decide,rfl,rfl,ints_one _⟩⟩
   ·obtain rfl:k=l.length:=by omega
    have hfin:=hct.out
    rw [List.drop_eq_nil_of_le (Nat.le_refl _),ctxL] at hfin
    have HF:=Lib.hid hfin
    clear hfin
    go_wp2_with fail
    go_ret3
    rw [←HF.out]
    exact⟨hkr.out,_,rfl,hlc.out⟩
end Go.Proofs.Ytgnllglbopaheaa.Ck

namespace Go.Proofs.Ytgnllglbopaheaa.Dv
open Go.RowKit
def NotGreatF (l:List Tm) (t:Tm) (M:Nat) (w:World) (e:Ending) (w':World):Prop :=
 ∃ g:Bool,e=.returned (.bool g)∧(g=false→l.length≤M∧(t.size:Int)≤M∧t.deep≤201∧∀ u ∈ l,(u.size:Int)≤M∧u.deep≤201)∧Below w.heap.size w w'
set_option maxHeartbeats 1000000 in
theorem greatfile_any (l:List Tm) (t:Tm) (M:Nat) (w:World) (ls s:Value) (hl:Lies w l ls) (ht:Lies w t.kids s) (hM:M≤10000) :
 Calls Try.prog 4 #[.agg #[ls,.int .i64 t.k,.int .i64 t.i,s],.int .i64 M] w (NotGreatF l t M w):=by
 obtain⟨a,cap,S,rfl,hc,hm,-,hn,hk⟩:=hl.out
 obtain⟨a2,cap2,S2,rfl,-⟩:=ht.out
 unfold maxLen at hm
 have HN:=Lib.hid hn
 have HK:=Lib.hid hk
 have HT:=Lib.hid ht
 clear hl hn hk ht
 go_enter Try.func4,Try.ntmps4
 have hcell:∀ (wr:World),Below (w.heap.size+1) (w.alloc (.cells #[.slice a l.length cap,.int .i64 t.k,.int .i64 t.i,.slice a2 t.kids.length cap2] 27)) wr→wr.cell? ⟨w.heap.size,0,none⟩=some (.slice a l.length cap):=fun wr h=>by
  rw [h.cell (p:=⟨w.heap.size,0,none⟩) (by exact Nat.lt_succ_self _),World.cell?_alloc_at _ _ _ _ rfl];rfl
 have HC:=Lib.hid hcell
 have HB0:=Lib.hid (show Kept w (w.alloc (.cells #[.slice a l.length cap,.int .i64 t.k,.int .i64 t.i,.slice a2 t.kids.length cap2] 27)) from(Below.refl w.heap.size w).alloc (Nat.le_refl _) _)
 clear hcell
 by_cases hlen:M<l.length
 ·have e1:decide ((M:Int)<(l.length:Int))=true:=decide_eq_true (by omega)
  have e2:decide (M<l.length)=true:=decide_eq_true hlen
  go_wp2
  go_ret
  exact⟨true,rfl,(fun h=>by cases h),HB0.out⟩
 have e1:decide ((M:Int)<(l.length:Int))=false:=decide_eq_false (by omega)
 have e2:decide (M<l.length)=false:=decide_eq_false hlen
 go_wp2_with fail
 refine(dweigh_any t _ _ _ _ (HT.out.keep HB0.out) (by omega) (by omega) (by omega) (by omega)).mono ?_
 rintro e w1 ⟨r0,rfl,hr1,hr2,hr3,hb1⟩
 have HR0:=Lib.hid hr3
 have HK1:=Lib.hid (kept_call HB0.out hb1)
 have HB1:Below (w.heap.size+1) (w.alloc (.cells #[.slice a l.length cap,.int .i64 t.k,.int .i64 t.i,.slice a2 t.kids.length cap2] 27)) w1:=hb1.mono (by simp)
 have HB1:=Lib.hid HB1
 clear hb1 hr3
 go_wp2
 go_loopw [5,6] (fun nv iv wr=>∃ (k:Nat) (n:Int),k≤l.length∧iv=.int .i64 k∧nv=.int .i64 n∧1≤n∧n≤M+1∧Hid (n≤M→((t.size:Int)≤M∧t.deep≤201)∧∀ j (h:j<l.length),j<k→((l[j]).size:Int)≤M∧(l[j]).deep≤201)∧Kept w wr∧Below (w.heap.size+1) (w.alloc (.cells #[.slice a l.length cap,.int .i64 t.k,.int .i64 t.i,.slice a2 t.kids.length cap2] 27)) wr) (fun _ i _=>l.length-(intOf i).toNat)
 case atStart=>exact⟨0,r0,Nat.zero_le _,rfl,rfl,by omega,by omega,fun h=>⟨by have:=HR0.out (by omega);omega,fun j _ h=>by omega⟩,HK1.out,HB1.out⟩
 case round =>
  obtain⟨k,n,hk,rfl,rfl,hn1,hn2,hrel,hb,hbb⟩:=hrel
  have hc0:=HC.out _ hbb
  have HBB:=Lib.hid hbb
  clear hbb
  by_cases hlt:k<l.length
  ·by_cases hnm:n≤M
   ·obtain⟨b,o,rfl,hx⟩:=HN.out k hlt
    obtain⟨c0,c1,c2⟩:=hx.below hb hx.lt
    have hq:=HK.out k hlt
    obtain⟨a',cap',S',hS,-⟩:=hq.out
    rw [hS] at c2 hq
    have HQ:=Lib.hid (hq.keep hb)
    clear hS hq
    go_wp2_with fail
    refine(dweigh_any l[k] _ _ _ _ HQ.out (by omega) (by omega) (by omega) (by omega)).mono ?_
    rintro e w' ⟨r,rfl,hr1,hr2,hr3,hb'⟩
    have HR3:=Lib.hid hr3
    have HBW:=HBB.out.trans (hb'.mono (by have:=HBB.out.size;simpa using this))
    have HB':=kept_call hb hb'
    clear hb' hb hr3 c0 c1 c2 hc0
    go_wp2
    go_roundw
    case rel =>
     refine⟨k+1,n+r,by omega,by go_num,rfl,by omega,by omega,?_,HB',HBW⟩
     intro hle
     refine⟨(hrel.out hnm).1,fun j hj hjk=>?_⟩
     by_cases e:j=k
     ·subst e
      have e4:=HR3.out (by omega)
      omega
     ·exact(hrel.out hnm).2 j hj (by omega)
    case measure=>simp [intOf];omega
   ·go_wp2
    go_ret
    exact⟨_,rfl,fun h=>absurd h (by simp<;>omega),hb⟩
  ·have:k=l.length:=by omega
   subst this
   go_wp2
   all_goals go_ret
   all_goals
    refine⟨_,rfl,fun h=>?_,hb⟩
    have hle:n≤M:=by simpa using h
    refine⟨by omega,(hrel.out hle).1.1,(hrel.out hle).1.2,fun u hu=>?_⟩
    obtain⟨j,hj,rfl⟩:=List.getElem_of_mem hu
    exact(hrel.out hle).2 j hj hj
end Go.Proofs.Ytgnllglbopaheaa.Dv

namespace Go.Proofs.Ytgnllglbopaheaa.Ck
open Go Go.RowKit
open Se (ofB Sml sizeJ zJ)
open Lv (ctxL ctxT)
theorem ctxL_er {m:Nat}:∀ (l:List Dv.Tm) (k:Nat) (c:List En) {er:Int} {q:List Int},ctxL m k c l=.error (er,q)→er=1∨er=3∨er=4
 | [],k,c,er,q,h=>by rw [ctxL] at h;cases h
 | d::l,k,c,er,q,h=>by
  cases hj:judgeT m c d with
  | error e=>obtain⟨e1,e2⟩:=e;rw [ctxL_err hj] at h;cases h;exact ctx_er hj
  | ok j =>
   cases ht:Se.isT j with
   | false=>rw [ctxL_no hj ht] at h;cases h;exact Or.inr (Or.inl rfl)
   | true=>rw [ctxL_ok hj ht] at h;exact ctxL_er l _ _ h
theorem ctxT_er {m:Nat} {l:List Dv.Tm} {er:Int} {q:List Int} (h:ctxT m l=.error (er,q)):(er != 0)=true:=by
 have:er=1∨er=3∨er=4:=by
  unfold ctxT at h
  split at h
  ·exact ctxL_er _ _ _ h
  ·cases h;exact Or.inl rfl
 rcases this with h | h | h<;>subst h<;>rfl
theorem out_ok {m:Nat} {c:List En} {d:Dv.Tm} (h:(outE (judgeT m c d) != 0)=false):judgeT m c d=.ok (outJ (judgeT m c d)):=by
 cases hj:judgeT m c d with
 | ok j=>rfl
 | error e =>
  obtain⟨er,q⟩:=e
  rw [hj] at h
  simp only [outE] at h
  rcases ctx_er hj with e | e | e<;>subst e<;>cases h
set_option maxRecDepth 20000 in
set_option maxHeartbeats 3000000 in
theorem checkLevels_any (l:List Dv.Tm) (ta tb:Dv.Tm) (w:World) (sl sa sb:Value) (hl:Dv.Lies w l sl) (ha:Dv.Lies w ta.kids sa) (hb:Dv.Lies w tb.kids sb):Calls Try.prog 3 #[sl,Dv.tv ta sa,Dv.tv tb sb] w fun e w'=>e=.returned (.bool true)∧Kept w w':=by
 obtain⟨dj,dj1,dj2⟩:=under_of 40 (by kernel_rfl)
 obtain⟨al,cl,Sl,rfl,-⟩:=hl.out
 obtain⟨aa,ca,Sa,rfl,-⟩:=ha.out
 obtain⟨ab,cb,Sb,rfl,-⟩:=hb.out
 unfold Dv.tv
 have HL:=Lib.hid hl
 have HA:=Lib.hid ha
 have HB:=Lib.hid hb
 have HWK:=Lib.hid wakes16_any
 clear hl ha hb
 go_enter Try.func3,Try.ntmps3
 go_upto_region 1 with fail
 obtain⟨V,hV⟩:∃ V,(w.alloc (.cells #[.int .i64 ta.k,.int .i64 ta.i,.slice aa ta.kids.length ca] 24)).alloc (.cells #[.int .i64 tb.k,.int .i64 tb.i,.slice ab tb.kids.length cb] 24)=V:=⟨_,rfl⟩
 obtain⟨hkV,hb0,hb1,hsV⟩:=alloc2 hV
 rw [hV]
 have HKV:=Lib.hid hkV
 have HBA:=Lib.hid hb0
 have HBB:=Lib.hid hb1
 have x0:V.cell? ⟨w.heap.size,0,none⟩=some (.int .i64 ta.k):=by rw [Lib.cell_of_heap HBA.out];rfl
 have x1:V.cell? ⟨w.heap.size,1,none⟩=some (.int .i64 ta.i):=by rw [Lib.cell_of_heap HBA.out];rfl
 have x2:V.cell? ⟨w.heap.size,2,none⟩=some (.slice aa ta.kids.length ca):=by rw [Lib.cell_of_heap HBA.out];rfl
 have y0:V.cell? ⟨w.heap.size+1,0,none⟩=some (.int .i64 tb.k):=by rw [Lib.cell_of_heap HBB.out];rfl
 have y1:V.cell? ⟨w.heap.size+1,1,none⟩=some (.int .i64 tb.i):=by rw [Lib.cell_of_heap HBB.out];rfl
 have y2:V.cell? ⟨w.heap.size+1,2,none⟩=some (.slice ab tb.kids.length cb):=by rw [Lib.cell_of_heap HBB.out];rfl
 clear hV hkV hb0 hb1 hsV
 go_wp2_with fail
 refine(Dv.greatfile_any l ta 40 _ _ _ (HL.out.keep HKV.out) (HA.out.keep HKV.out) (by decide)).mono ?_
 rintro e w1 ⟨g,rfl,hg,hk1⟩
 have HG:=Lib.hid hg
 have HK1:=Lib.hid (kept_trans HKV.out hk1)
 have HBA1:=Lib.hid ((Below.block hk1 _ (Array.getElem?_eq_some_iff.1 HBA.out).1).trans HBA.out)
 have HBB1:=Lib.hid ((Below.block hk1 _ (Array.getElem?_eq_some_iff.1 HBB.out).1).trans HBB.out)
 clear x0 x1 x2 y0 y1 y2 hk1 hg
 cases g with
 | true =>
  go_wp2_with fail
  go_ret
  exact⟨rfl,HK1.out⟩
 | false =>
  have y0:w1.cell? ⟨w.heap.size+1,0,none⟩=some (.int .i64 tb.k):=by rw [Lib.cell_of_heap HBB1.out];rfl
  have y1:w1.cell? ⟨w.heap.size+1,1,none⟩=some (.int .i64 tb.i):=by rw [Lib.cell_of_heap HBB1.out];rfl
  have y2:w1.cell? ⟨w.heap.size+1,2,none⟩=some (.slice ab tb.kids.length cb):=by rw [Lib.cell_of_heap HBB1.out];rfl
  go_wp2_with fail
  refine(Dv.dgreat_any tb _ _ 40 (HB.out.keep HK1.out) (by decide) (by decide)).mono ?_
  rintro e w2 ⟨g2,rfl,hg2,hk2⟩
  have HG2:=Lib.hid hg2
  have HK2:=Lib.hid (kept_trans HK1.out hk2)
  have HBA2:=Lib.hid ((Below.block hk2 _ (Array.getElem?_eq_some_iff.1 HBA1.out).1).trans HBA1.out)
  have HBB2:=Lib.hid ((Below.block hk2 _ (Array.getElem?_eq_some_iff.1 HBB1.out).1).trans HBB1.out)
  clear y0 y1 y2 hk2 hg2
  cases g2 with
  | true =>
   go_wp2_with fail
   go_ret
   exact⟨rfl,HK2.out⟩
  | false =>
   have HSZ:=Lib.hid (show l.length≤40∧ta.size≤40∧tb.size≤40∧∀ u ∈ l,u.size≤40 from by
    have h1:=HG.out (by first | rfl | trivial)
    have h2:=HG2.out (by first | rfl | trivial)
    exact⟨h1.1,by omega,by omega,fun u hu=>by have:=(h1.2.2.2 u hu).1;omega⟩)
   have HZ:=Lib.hid (show ∀ q (h:q<l.length),q+(l[q]).size≤101 from fun q h=>by have h1:=HSZ.out.2.2.2 _ (List.getElem_mem h);have h2:=HSZ.out.1;omega)
   have HCX:=Lib.hid (ckctx_any 4652007308841189376 mild_1000 l w2 _ (HL.out.keep HK2.out) HZ.out)
   go_wp2_with fail
   cases hx:ctxT 4652007308841189376 l with
   | error ea =>
    obtain⟨er,q⟩:=ea
    have her:=ctxT_er hx
    rw [hx] at HCX
    clear hx
    refine HCX.out.mono ?_
    rintro e w3 ⟨hk3,pv,rfl,hp⟩
    have HK3:=Lib.hid (kept_trans HK2.out hk3)
    clear hk3 hp HCX
    go_wp2_with fail
    refine(HWK.out _).mono ?_
    rintro e w9 ⟨rfl,hk9⟩
    go_wp2_with fail
    go_ret
    exact⟨rfl,kept_trans HK3.out hk9⟩
   | ok c =>
    have HWC:=Lib.hid (Lv.ctxT_wc mild_1000 HZ.out hx)
    rw [hx] at HCX
    clear hx
    refine HCX.out.mono ?_
    rintro e w3 ⟨hk3,sc,rfl,hc⟩
    have HK3:=Lib.hid (kept_trans HK2.out hk3)
    have HC:=Lib.hid hc
    have HBA3:=Lib.hid ((Below.block hk3 _ (Array.getElem?_eq_some_iff.1 HBA2.out).1).trans HBA2.out)
    have HBB3:=Lib.hid ((Below.block hk3 _ (Array.getElem?_eq_some_iff.1 HBB2.out).1).trans HBB2.out)
    clear hk3 hc HCX
    obtain⟨x,hx⟩:∃ x,outJ (judgeT 4652007308841189376 c ta)=x:=⟨_,rfl⟩
    obtain⟨ex,hex⟩:∃ x,outE (judgeT 4652007308841189376 c ta)=x:=⟨_,rfl⟩
    obtain⟨y,hy⟩:∃ x,outJ (judgeT 4652007308841189376 c tb)=x:=⟨_,rfl⟩
    obtain⟨ey,hey⟩:∃ x,outE (judgeT 4652007308841189376 c tb)=x:=⟨_,rfl⟩
    have HLV:=Lib.hid (fun(h1:(ex != 0)=false) (h2:(ey != 0)=false) (h3:sameB x.u y.u=true)=>show x.i=y.i from by
     rw [←hex] at h1
     rw [←hey] at h2
     have g1:=Lv.judgeT_B (out_ok h1)
     have g2:=Lv.judgeT_B (out_ok h2)
     rw [hx] at g1
     rw [hy] at g2
     exact Lv.judge_level mild_1000 mild_1000 (by have:=HWC.out.2.2;have:=HSZ.out;omega) (by have:=HWC.out.2.2;have:=HSZ.out;omega) HWC.out.1 HWC.out.2.1 g1 g2 (sameB_true _ _ h3))
    have HJX:=ckJudgeU_any 4652007308841189376 mild_1000 ta c w3 w3 (kept_refl _) sc (.slice aa ta.kids.length ca) HC.out (HA.out.keep HK3.out) (by have:=HWC.out.2.2;have:=HSZ.out;omega) HWC.out.1
    rw [hx,hex] at HJX
    have HJX:=Lib.hid HJX
    have HJY:=Lib.hid (fun(W:World) (hW:Kept w3 W)=>show _ from by
     have h:=ckJudgeU_any 4652007308841189376 mild_1000 tb c W W (kept_refl _) sc (.slice ab tb.kids.length cb) (HC.out.keep hW) (HB.out.keep (kept_trans HK3.out hW)) (by have:=HWC.out.2.2;have:=HSZ.out;omega) HWC.out.1
     rw [hy,hey] at h
     exact h)
    clear hx hex hy hey
    have x0:w3.cell? ⟨w.heap.size,0,none⟩=some (.int .i64 ta.k):=by rw [Lib.cell_of_heap HBA3.out];rfl
    have x1:w3.cell? ⟨w.heap.size,1,none⟩=some (.int .i64 ta.i):=by rw [Lib.cell_of_heap HBA3.out];rfl
    have x2:w3.cell? ⟨w.heap.size,2,none⟩=some (.slice aa ta.kids.length ca):=by rw [Lib.cell_of_heap HBA3.out];rfl
    go_wp2_with fail
    refine HJX.out.mono ?_
    rintro e w4 ⟨su,sv,sa,pv,rfl,hu,hv,ha,hp,hk4⟩
    obtain⟨aux,cux,-,rfl,-⟩:=hu.out
    obtain⟨avx,cvx,-,rfl,-⟩:=hv.out
    obtain⟨aax,cax,-,rfl,-⟩:=ha.out
    have HU4:=Lib.hid hu.lies
    have HK4:=Lib.hid hk4
    clear hu hv ha hp hk4 HJX x0 x1 x2
    go_wp2_with (refine stop_store 40 (.tmp 10) (.tmp 42) rfl ?_)
    intro _
    refine wpList_store_part_n (by rfl) 40 (.tmp 10) (.tmp 42) rfl (w4.heap.size) 0 #[.bool x.eq,.int .i64 x.u.k,.int .i64 x.u.i,.int .i64 x.u.j,.int .i64 x.u.n,(.slice aux x.u.kids.length cux),.int .i64 x.v.k,.int .i64 x.v.i,.int .i64 x.v.j,.int .i64 x.v.n,(.slice avx x.v.kids.length cvx),.int .i64 x.a.k,.int .i64 x.a.i,.int .i64 x.a.j,.int .i64 x.a.n,(.slice aax x.a.kids.length cax),.int .i64 x.i] (by rfl) (by rfl) 40 (by kernel_rfl) (row_ok rfl) ?_
    intro W hW
    subst hW
    refine⟨_,#[.bool x.eq,.int .i64 x.u.k,.int .i64 x.u.i,.int .i64 x.u.j,.int .i64 x.u.n,(.slice aux x.u.kids.length cux),.int .i64 x.v.k,.int .i64 x.v.i,.int .i64 x.v.j,.int .i64 x.v.n,(.slice avx x.v.kids.length cvx),.int .i64 x.a.k,.int .i64 x.a.i,.int .i64 x.a.j,.int .i64 x.a.n,(.slice aax x.a.kids.length cax),.int .i64 x.i],alloc_new _ _,rfl,Nat.le_of_ble_eq_true rfl,?_⟩
    intro w5 hwn
    have hfr:=fresh_judg hwn
    clear hwn
    have HU5:=Lib.hid (HU4.out.keep hfr.1)
    have HK5:=Lib.hid (kept_trans HK4.out hfr.1)
    have hE:=hfr.2.1
    have HBB5:=Lib.hid ((Below.block HK5.out _ (Array.getElem?_eq_some_iff.1 HBB3.out).1).trans HBB3.out)
    clear hfr
    obtain⟨E,hEE⟩:∃ E,w4.heap.size=E:=⟨_,rfl⟩
    rw [hEE] at hE
    rw [hEE]
    have HE5:=Lib.hid hE
    clear hE hEE
    have y0:w5.cell? ⟨w.heap.size+1,0,none⟩=some (.int .i64 tb.k):=by rw [Lib.cell_of_heap HBB5.out];rfl
    have y1:w5.cell? ⟨w.heap.size+1,1,none⟩=some (.int .i64 tb.i):=by rw [Lib.cell_of_heap HBB5.out];rfl
    have y2:w5.cell? ⟨w.heap.size+1,2,none⟩=some (.slice ab tb.kids.length cb):=by rw [Lib.cell_of_heap HBB5.out];rfl
    go_wp2_with fail
    refine(HJY.out _ HK5.out).mono ?_
    rintro e w6 ⟨su,sv,sa,pv2,rfl,hu,hv,ha,hp,hk6⟩
    obtain⟨auy,cuy,-,rfl,-⟩:=hu.out
    obtain⟨avy,cvy,-,rfl,-⟩:=hv.out
    obtain⟨aay,cay,-,rfl,-⟩:=ha.out
    have HV6:=Lib.hid hu.lies
    have HU6:=Lib.hid (HU5.out.keep hk6)
    have HK6:=Lib.hid (kept_trans HK5.out hk6)
    have HE6:=Lib.hid ((Below.block hk6 _ (Array.getElem?_eq_some_iff.1 HE5.out).1).trans HE5.out)
    clear hu hv ha hp hk6 HJY y0 y1 y2
    go_wp2_with (refine stop_store 40 (.tmp 13) (.tmp 49) rfl ?_)
    intro _
    refine wpList_store_part_n (by rfl) 40 (.tmp 13) (.tmp 49) rfl (w6.heap.size) 0 #[.bool y.eq,.int .i64 y.u.k,.int .i64 y.u.i,.int .i64 y.u.j,.int .i64 y.u.n,(.slice auy y.u.kids.length cuy),.int .i64 y.v.k,.int .i64 y.v.i,.int .i64 y.v.j,.int .i64 y.v.n,(.slice avy y.v.kids.length cvy),.int .i64 y.a.k,.int .i64 y.a.i,.int .i64 y.a.j,.int .i64 y.a.n,(.slice aay y.a.kids.length cay),.int .i64 y.i] (by rfl) (by rfl) 40 (by kernel_rfl) (row_ok rfl) ?_
    intro W hW
    subst hW
    refine⟨_,#[.bool y.eq,.int .i64 y.u.k,.int .i64 y.u.i,.int .i64 y.u.j,.int .i64 y.u.n,(.slice auy y.u.kids.length cuy),.int .i64 y.v.k,.int .i64 y.v.i,.int .i64 y.v.j,.int .i64 y.v.n,(.slice avy y.v.kids.length cvy),.int .i64 y.a.k,.int .i64 y.a.i,.int .i64 y.a.j,.int .i64 y.a.n,(.slice aay y.a.kids.length cay),.int .i64 y.i],alloc_new _ _,rfl,Nat.le_of_ble_eq_true rfl,?_⟩
    intro w7 hwn
    have hfr:=fresh_judg hwn
    clear hwn
    have HU7:=Lib.hid (HU6.out.keep hfr.1)
    have HV7:=Lib.hid (HV6.out.keep hfr.1)
    have HK7:=Lib.hid (kept_trans HK3.out (kept_trans HK6.out hfr.1))
    have hE:=hfr.2.1
    have HE7:=Lib.hid ((Below.block hfr.1 _ (Array.getElem?_eq_some_iff.1 HE6.out).1).trans HE6.out)
    clear hfr
    obtain⟨F,hFF⟩:∃ E,w6.heap.size=E:=⟨_,rfl⟩
    rw [hFF] at hE
    rw [hFF]
    have HF7:=Lib.hid hE
    clear hE hFF
    cases h1:(ex != 0) with
    | true =>
     go_wp2_with fail
     refine(HWK.out _).mono ?_
     rintro e w9 ⟨rfl,hk9⟩
     go_wp2_with fail
     go_ret
     exact⟨rfl,kept_trans HK7.out hk9⟩
    | false =>
     cases h2:(ey != 0) with
     | true =>
      go_wp2_with fail
      refine(HWK.out _).mono ?_
      rintro e w9 ⟨rfl,hk9⟩
      go_wp2_with fail
      go_ret
      exact⟨rfl,kept_trans HK7.out hk9⟩
     | false =>
      have HL3:=Lib.hid (HLV.out h1 h2)
      have x1:w7.cell? ⟨E,1,none⟩=some (.int .i64 x.u.k):=by rw [Lib.cell_of_heap HE7.out];rfl
      have x2:w7.cell? ⟨E,2,none⟩=some (.int .i64 x.u.i):=by rw [Lib.cell_of_heap HE7.out];rfl
      have x3:w7.cell? ⟨E,3,none⟩=some (.int .i64 x.u.j):=by rw [Lib.cell_of_heap HE7.out];rfl
      have x4:w7.cell? ⟨E,4,none⟩=some (.int .i64 x.u.n):=by rw [Lib.cell_of_heap HE7.out];rfl
      have x5:w7.cell? ⟨E,5,none⟩=some (.slice aux x.u.kids.length cux):=by rw [Lib.cell_of_heap HE7.out];rfl
      have y1:w7.cell? ⟨F,1,none⟩=some (.int .i64 y.u.k):=by rw [Lib.cell_of_heap HF7.out];rfl
      have y2:w7.cell? ⟨F,2,none⟩=some (.int .i64 y.u.i):=by rw [Lib.cell_of_heap HF7.out];rfl
      have y3:w7.cell? ⟨F,3,none⟩=some (.int .i64 y.u.j):=by rw [Lib.cell_of_heap HF7.out];rfl
      have y4:w7.cell? ⟨F,4,none⟩=some (.int .i64 y.u.n):=by rw [Lib.cell_of_heap HF7.out];rfl
      have y5:w7.cell? ⟨F,5,none⟩=some (.slice auy y.u.kids.length cuy):=by rw [Lib.cell_of_heap HF7.out];rfl
      go_wp2_with fail
      refine(keepsame_any x.u y.u _ _ _ HU7.out HV7.out).mono ?_
      rintro e w8 ⟨rfl,hk8⟩
      have HK8:=Lib.hid (kept_trans HK7.out hk8)
      have HE8:=Lib.hid ((Below.block hk8 _ (Array.getElem?_eq_some_iff.1 HE7.out).1).trans HE7.out)
      have HF8:=Lib.hid ((Below.block hk8 _ (Array.getElem?_eq_some_iff.1 HF7.out).1).trans HF7.out)
      clear hk8 x1 x2 x3 x4 x5 y1 y2 y3 y4 y5
      cases h3:sameB x.u y.u with
      | false =>
       go_wp2_with fail
       refine(HWK.out _).mono ?_
       rintro e w9 ⟨rfl,hk9⟩
       go_wp2_with fail
       go_ret
       exact⟨rfl,kept_trans HK8.out hk9⟩
      | true =>
       have hii:=HL3.out h3
       have x16:w8.cell? ⟨E,16,none⟩=some (.int .i64 x.i):=by rw [Lib.cell_of_heap HE8.out];rfl
       have y16:w8.cell? ⟨F,16,none⟩=some (.int .i64 x.i):=by rw [Lib.cell_of_heap HF8.out,hii];rfl
       clear hii
       go_wp2_with fail
       refine(HWK.out _).mono ?_
       rintro e w9 ⟨rfl,hk9⟩
       go_wp2_with fail
       go_ret
       exact⟨rfl,kept_trans HK8.out hk9⟩
end Go.Proofs.Ytgnllglbopaheaa.Ck

namespace Go.Proofs.Ytgnllglbopaheaa
open Go.ChangeShapes Go.WideShapes Go.ChangeAt Go.RowKit
theorem own:ownKnob Try.prog.godebug=none:=by kernel_rfl
theorem cells_int:Try.prog.cellsOf 3=1:=by kernel_rfl
theorem cells_kids:Try.prog.cellsOf 36=1:=by kernel_rfl
theorem cells_term:Try.prog.cellsOf 38=5:=by kernel_rfl
theorem laidOut:laidOutB Try.prog=true:=by kernel_rfl
instance instOpenTm:Inhabited (Tm × Value):=⟨(.mk 0 0 0 0 [],.nilIface)⟩
theorem list5 {α:Type} {l:List α} (h:l.length=5):∃ a b c d e,l=[a,b,c,d,e]:=by
 match l,h with
 | [a,b,c,d,e],_=>exact⟨a,b,c,d,e,rfl⟩
set_option maxRecDepth 100000 in
theorem open_term {H:Type} {enc:TypeId × Value→H} {w:World} {base:Nat} {sp:Nat→Bool} {hd:Bool}:∀ (fuel:Nat) (cs:List Value) (x:DataW H × List MemPlace),
 DataW.trod enc Try.prog w base sp hd fuel 38 cs=some x→∃ (t:Tm) (s:Value),cs=[.int .i64 t.k,.int .i64 t.i,.int .i64 t.j,.int .i64 t.n,s]∧t.fine∧Lies w t.kids s:=by
 intro fuel
 induction fuel using Nat.strongRecOn with
 | _ fuel ih =>
  intro cs x h
  obtain⟨xs,n,rfl,rfl,hl,hlen,hf⟩:=DataW.trod_struct Try.underlying38 h
  rw [cells_term] at hl
  obtain⟨v0,v1,v2,v3,v4,rfl⟩:=list5 hl
  obtain⟨y0,y1,y2,y3,y4,rfl⟩:=list5 hlen
  have g0:=hf 0 _ rfl
  have g1:=hf 1 _ rfl
  have g2:=hf 2 _ rfl
  have g3:=hf 3 _ rfl
  have g4:=hf 4 _ rfl
  simp [cells_int,cells_kids] at g0 g1 g2 g3 g4
  obtain⟨k,e0,-,w0⟩:=DataW.trod_int Try.underlying3 g0
  obtain⟨i,e1,-,w1⟩:=DataW.trod_int Try.underlying3 g1
  obtain⟨j,e2,-,w2⟩:=DataW.trod_int Try.underlying3 g2
  obtain⟨m,e3,-,w3⟩:=DataW.trod_int Try.underlying3 g3
  simp at e0 e1 e2 e3
  subst e0 e1 e2 e3
  rcases DataW.trod_slice Try.underlying36 g4 with ⟨e4,-⟩ | ⟨a,len,cap,elems,rest,n',rfl,e4,-,hb,hlc,hm,hlen',hel,-,-⟩
  ·simp at e4
   subst e4
   exact⟨.mk k i j m [],_,rfl,⟨wf_I64 w0,wf_I64 w1,wf_I64 w2,wf_I64 w3⟩,.mk [] none 0 (fun _=>.nilIface) (Nat.le_refl _) (by decide) (fun _ h=>by cases h) (fun _ h=>by cases h) (fun _ h=>by cases h)⟩
  ·simp at e4
   subst e4
   have key:∀ i,i<len→∃ p:Tm × Value,p.1.fine∧Lies w p.1.kids p.2∧∃ b o,a=⟨b,o,none⟩∧Node w b (o+i * 5) p.1 p.2:=by
    intro i hi
    have h1:=hel i hi
    rw [cells_term,List.getElem?_eq_getElem (by omega)] at h1
    obtain⟨cs',h2,h3⟩:=Option.bind_eq_some_iff.1 h1
    obtain⟨t,s,rfl,hfine,hlies⟩:=ih n' (by omega) _ _ h3
    obtain⟨-,-,hcell⟩:=World.cells?_some h2
    have hs0:a.spot=none:=by
     have h1:=hel 0 (by omega)
     rw [cells_term,List.getElem?_eq_getElem (by omega)] at h1
     obtain⟨cs0,h2,-⟩:=Option.bind_eq_some_iff.1 h1
     obtain⟨-,hl0,hc0⟩:=World.cells?_some h2
     have c0:=hc0 0 (by omega)
     rw [List.getElem?_eq_getElem (by omega)] at c0
     simpa [Addr.add] using World.cell?_spot c0
    obtain⟨b,o,spot⟩:=a
    simp only at hs0
    subst hs0
    refine⟨(t,s),hfine,hlies,b,o,rfl,?_⟩
    have hc:∀ q,q<5→w.cell? ⟨b,o+i * 5+q,none⟩=[Value.int .i64 t.k,.int .i64 t.i,.int .i64 t.j,.int .i64 t.n,s][q]?:=fun q hq=>by
     have:=hcell q hq
     rwa [add_plain,add_plain] at this
    exact⟨hc 0 (by omega),hc 1 (by omega),hc 2 (by omega),hc 3 (by omega),hc 4 (by omega)⟩
   obtain⟨f,hf'⟩:=Go.Deep.choose_lt (α:=Tm × Value) (p:=fun i p=>p.1.fine∧Lies w p.1.kids p.2∧∃ b o,a=⟨b,o,none⟩∧Node w b (o+i * 5) p.1 p.2) key
   have hl5:((List.range len).map fun i=>(f i).1).length=len:=by simp
   refine⟨.mk k i j m ((List.range len).map fun i=>(f i).1),_,rfl,⟨wf_I64 w0,wf_I64 w1,wf_I64 w2,wf_I64 w3⟩,?_⟩
   have:=Lies.mk (w:=w) ((List.range len).map fun i=>(f i).1) (some a) cap (fun i=>(f i).2) (by simpa using hlc) hm
    (fun x hx=>by
      obtain⟨i,hi,rfl⟩:=List.mem_map.1 hx
      exact(hf' i (List.mem_range.1 hi)).1)
    (fun i hi=>by
      obtain⟨b,o,ha,hn⟩:=(hf' i (by simpa using hi)).2.2
      exact⟨b,o,by rw [ha],by simpa using hn⟩)
    (fun i hi=>by simpa using (hf' i (by simpa using hi)).2.1)
   rwa [hl5] at this
set_option maxRecDepth 100000 in
theorem open_arg {H:Type} {enc:TypeId × Value→H} {W:World} {r:Reach} {b0 base:Nat} {sp:Nat→Bool} {hd:Bool} {v:Value} {d:DataW H} {p:List MemPlace} (hv:Value.okWide Try.prog W r b0 38 v)
 (h:DataW.Trod enc Try.prog W base sp hd 38 v d p):∃ (t:Tm) (s:Value),Lies W t.kids s∧v=tv t s:=by
 obtain⟨cs,rfl,hsz⟩:=okWide_struct Try.underlying38 hv
 obtain⟨fuel,hf⟩:=h
 obtain⟨t,s,hcs,-,hl⟩:=open_term fuel _ _ hf
 refine⟨t,s,hl,?_⟩
 have:cs.toList=[.int .i64 t.k,.int .i64 t.i,.int .i64 t.j,.int .i64 t.n,s]:=by simpa [Value.cells] using hcs
 rw [show cs=#[.int .i64 t.k,.int .i64 t.i,.int .i64 t.j,.int .i64 t.n,s] from by cases cs;simp_all]
end Go.Proofs.Ytgnllglbopaheaa

namespace Go.Proofs.Ytgnllglbopaheaa.Dv
open Go.ChangeShapes Go.WideShapes Go.ChangeAt Go.RowKit
theorem cells_kids:Try.prog.cellsOf 22=1:=by kernel_rfl
theorem cells_term:Try.prog.cellsOf 24=3:=by kernel_rfl
instance instOpenTm:Inhabited (Tm × Value):=⟨(.mk 0 0 [],.nilIface)⟩
theorem list3 {α:Type} {l:List α} (h:l.length=3):∃ a b c,l=[a,b,c]:=by
 match l,h with
 | [a,b,c],_=>exact⟨a,b,c,rfl⟩
set_option maxRecDepth 100000 in
theorem open_term {H:Type} {enc:TypeId × Value→H} {w:World} {base:Nat} {sp:Nat→Bool} {hd:Bool}:∀ (fuel:Nat) (cs:List Value) (x:DataW H × List MemPlace),
 DataW.trod enc Try.prog w base sp hd fuel 24 cs=some x→∃ (t:Tm) (s:Value),cs=[.int .i64 t.k,.int .i64 t.i,s]∧t.fine∧Lies w t.kids s:=by
 intro fuel
 induction fuel using Nat.strongRecOn with
 | _ fuel ih =>
  intro cs x h
  obtain⟨xs,n,rfl,rfl,hl,hlen,hf⟩:=DataW.trod_struct Try.underlying24 h
  rw [cells_term] at hl
  obtain⟨v0,v1,v2,rfl⟩:=list3 hl
  obtain⟨y0,y1,y2,rfl⟩:=list3 hlen
  have g0:=hf 0 _ rfl
  have g1:=hf 1 _ rfl
  have g2:=hf 2 _ rfl
  simp [cells_int,cells_kids] at g0 g1 g2
  obtain⟨k,e0,-,w0⟩:=DataW.trod_int Try.underlying3 g0
  obtain⟨i,e1,-,w1⟩:=DataW.trod_int Try.underlying3 g1
  simp at e0 e1
  subst e0 e1
  rcases DataW.trod_slice Try.underlying22 g2 with ⟨e4,-⟩ | ⟨a,len,cap,elems,rest,n',rfl,e4,-,hb,hlc,hm,hlen',hel,-,-⟩
  ·simp at e4
   subst e4
   exact⟨.mk k i [],_,rfl,⟨wf_I64 w0,wf_I64 w1⟩,.mk [] none 0 (fun _=>.nilIface) (Nat.le_refl _) (by decide) (fun _ h=>by cases h) (fun _ h=>by cases h) (fun _ h=>by cases h)⟩
  ·simp at e4
   subst e4
   have key:∀ i,i<len→∃ p:Tm × Value,p.1.fine∧Lies w p.1.kids p.2∧∃ b o,a=⟨b,o,none⟩∧Node w b (o+i * 3) p.1 p.2:=by
    intro i hi
    have h1:=hel i hi
    rw [cells_term,List.getElem?_eq_getElem (by omega)] at h1
    obtain⟨cs',h2,h3⟩:=Option.bind_eq_some_iff.1 h1
    obtain⟨t,s,rfl,hfine,hlies⟩:=ih n' (by omega) _ _ h3
    obtain⟨-,-,hcell⟩:=World.cells?_some h2
    have hs0:a.spot=none:=by
     have h1:=hel 0 (by omega)
     rw [cells_term,List.getElem?_eq_getElem (by omega)] at h1
     obtain⟨cs0,h2,-⟩:=Option.bind_eq_some_iff.1 h1
     obtain⟨-,hl0,hc0⟩:=World.cells?_some h2
     have c0:=hc0 0 (by omega)
     rw [List.getElem?_eq_getElem (by omega)] at c0
     simpa [Addr.add] using World.cell?_spot c0
    obtain⟨b,o,spot⟩:=a
    simp only at hs0
    subst hs0
    refine⟨(t,s),hfine,hlies,b,o,rfl,?_⟩
    have hc:∀ q,q<3→w.cell? ⟨b,o+i * 3+q,none⟩=[Value.int .i64 t.k,.int .i64 t.i,s][q]?:=fun q hq=>by
     have:=hcell q hq
     rwa [add_plain,add_plain] at this
    exact⟨hc 0 (by omega),hc 1 (by omega),hc 2 (by omega)⟩
   obtain⟨f,hf'⟩:=Go.Deep.choose_lt (α:=Tm × Value) (p:=fun i p=>p.1.fine∧Lies w p.1.kids p.2∧∃ b o,a=⟨b,o,none⟩∧Node w b (o+i * 3) p.1 p.2) key
   have hl5:((List.range len).map fun i=>(f i).1).length=len:=by simp
   refine⟨.mk k i ((List.range len).map fun i=>(f i).1),_,rfl,⟨wf_I64 w0,wf_I64 w1⟩,?_⟩
   have:=Lies.mk (w:=w) ((List.range len).map fun i=>(f i).1) (some a) cap (fun i=>(f i).2) (by simpa using hlc) hm
    (fun x hx=>by
      obtain⟨i,hi,rfl⟩:=List.mem_map.1 hx
      exact(hf' i (List.mem_range.1 hi)).1)
    (fun i hi=>by
      obtain⟨b,o,ha,hn⟩:=(hf' i (by simpa using hi)).2.2
      exact⟨b,o,by rw [ha],by simpa using hn⟩)
    (fun i hi=>by simpa using (hf' i (by simpa using hi)).2.1)
   rwa [hl5] at this
set_option maxRecDepth 100000 in
theorem open_arg {H:Type} {enc:TypeId × Value→H} {W:World} {r:Reach} {b0 base:Nat} {sp:Nat→Bool} {hd:Bool} {v:Value} {d:DataW H} {p:List MemPlace} (hv:Value.okWide Try.prog W r b0 24 v)
 (h:DataW.Trod enc Try.prog W base sp hd 24 v d p):∃ (t:Tm) (s:Value),Lies W t.kids s∧v=tv t s:=by
 obtain⟨cs,rfl,hsz⟩:=okWide_struct Try.underlying24 hv
 obtain⟨fuel,hf⟩:=h
 obtain⟨t,s,hcs,-,hl⟩:=open_term fuel _ _ hf
 refine⟨t,s,hl,?_⟩
 have:cs.toList=[.int .i64 t.k,.int .i64 t.i,s]:=by simpa [Value.cells] using hcs
 rw [show cs=#[.int .i64 t.k,.int .i64 t.i,s] from by cases cs;simp_all]
end Go.Proofs.Ytgnllglbopaheaa.Dv

namespace Go.Proofs.Ytgnllglbopaheaa.Dv
open Go.ChangeShapes Go.WideShapes Go.ChangeAt Go.RowKit
set_option maxRecDepth 100000 in
theorem open_argDs {H:Type} {enc:TypeId × Value→H} {w:World} {r:Reach} {b0 base:Nat} {sp:Nat→Bool} {hd:Bool} {v:Value} {d:DataW H} {p:List MemPlace} (hv:Value.okWide Try.prog w r b0 22 v)
 (h:DataW.Trod enc Try.prog w base sp hd 22 v d p):∃ l:List Tm,Lies w l v:=by
 obtain⟨a0,len0,cap0,rfl⟩:=okWide_slice Try.underlying22 hv
 obtain⟨fuel,hf⟩:=h
 rcases DataW.trod_slice Try.underlying22 hf with ⟨e4,-⟩ | ⟨a,len,cap,elems,rest,n',rfl,e4,-,hb,hlc,hm,hlen',hel,-,-⟩
 ·simp [Value.cells] at e4
  obtain⟨rfl,rfl,rfl⟩:=e4
  exact⟨[],.mk [] none 0 (fun _=>.nilIface) (Nat.le_refl _) (by decide) (fun _ h=>by cases h) (fun _ h=>by cases h) (fun _ h=>by cases h)⟩
 ·simp [Value.cells] at e4
  obtain⟨rfl,rfl,rfl⟩:=e4
  have key:∀ i,i<len0→∃ p:Tm × Value,p.1.fine∧Lies w p.1.kids p.2∧∃ b o,a=⟨b,o,none⟩∧Node w b (o+i * 3) p.1 p.2:=by
   intro i hi
   have h1:=hel i hi
   rw [cells_term,List.getElem?_eq_getElem (by omega)] at h1
   obtain⟨cs',h2,h3⟩:=Option.bind_eq_some_iff.1 h1
   obtain⟨t,s,rfl,hfine,hlies⟩:=open_term n' _ _ h3
   obtain⟨-,-,hcell⟩:=World.cells?_some h2
   have hs0:a.spot=none:=by
    have h1:=hel 0 (by omega)
    rw [cells_term,List.getElem?_eq_getElem (by omega)] at h1
    obtain⟨cs0,h2,-⟩:=Option.bind_eq_some_iff.1 h1
    obtain⟨-,hl0,hc0⟩:=World.cells?_some h2
    have c0:=hc0 0 (by omega)
    rw [List.getElem?_eq_getElem (by omega)] at c0
    simpa [Addr.add] using World.cell?_spot c0
   obtain⟨b,o,spot⟩:=a
   simp only at hs0
   subst hs0
   refine⟨(t,s),hfine,hlies,b,o,rfl,?_⟩
   have hc:∀ q,q<3→w.cell? ⟨b,o+i * 3+q,none⟩=[Value.int .i64 t.k,.int .i64 t.i,s][q]?:=fun q hq=>by
    have:=hcell q hq
    rwa [add_plain,add_plain] at this
   exact⟨hc 0 (by omega),hc 1 (by omega),hc 2 (by omega)⟩
  obtain⟨f,hf'⟩:=Go.Deep.choose_lt (α:=Tm × Value) (p:=fun i p=>p.1.fine∧Lies w p.1.kids p.2∧∃ b o,a=⟨b,o,none⟩∧Node w b (o+i * 3) p.1 p.2) key
  have hl5:((List.range len0).map fun i=>(f i).1).length=len0:=by simp
  refine⟨(List.range len0).map fun i=>(f i).1,?_⟩
  have:=Lies.mk (w:=w) ((List.range len0).map fun i=>(f i).1) (some a) cap0 (fun i=>(f i).2) (by simpa using hlc) hm
   (fun x hx=>by
     obtain⟨i,hi,rfl⟩:=List.mem_map.1 hx
     exact(hf' i (List.mem_range.1 hi)).1)
   (fun i hi=>by
     obtain⟨b,o,ha,hn⟩:=(hf' i (by simpa using hi)).2.2
     exact⟨b,o,by rw [ha],by simpa using hn⟩)
   (fun i hi=>by simpa using (hf' i (by simpa using hi)).2.1)
  rwa [hl5] at this
end Go.Proofs.Ytgnllglbopaheaa.Dv

namespace Go.Proofs.Ytgnllglbopaheaa
open Go.ChangeShapes Go.WideShapes
def code (l:List Nat):List Char:=l.map Char.ofNat
def joinN:List (List Nat)→List Nat
 | []=>[]
 | [a]=>a
 | a::b::r=>a++32::joinN (b::r)
theorem words_one:∀ a:List Nat,(a.all fun n=>Char.ofNat n != Char.ofNat 32)=true→wordsSigns (code a)=[code a]
 | [],_=>rfl
 | n::a,h=>by
  simp only [List.all_cons,Bool.and_eq_true,bne_iff_ne] at h
  have ih:=words_one a h.2
  show wordsSigns (Char.ofNat n::code a)=_
  rw [wordsSigns]
  ·rw [ih];rfl
  ·exact h.1
theorem words_more:∀ (a:List Nat) (r:List Char),(a.all fun n=>Char.ofNat n != Char.ofNat 32)=true→wordsSigns (code a++Char.ofNat 32::r)=code a::wordsSigns r
 | [],r,_=>by
  show wordsSigns (Char.ofNat 32::r)=_
  rw [show Char.ofNat 32=_ from rfl,wordsSigns];rfl
 | n::a,r,h=>by
  simp only [List.all_cons,Bool.and_eq_true,bne_iff_ne] at h
  have ih:=words_more a r h.2
  show wordsSigns (Char.ofNat n::(code a++Char.ofNat 32::r))=_
  rw [wordsSigns]
  ·rw [ih];rfl
  ·exact h.1
theorem words_join:∀ ws:List (List Nat),ws≠[]→(ws.all fun w=>w.all fun n=>Char.ofNat n != Char.ofNat 32)=true→wordsSigns (code (joinN ws))=ws.map code
 | [],h,_=>absurd rfl h
 | [a],_,h=>by simp only [List.all_cons,List.all_nil,Bool.and_true] at h;exact words_one a h
 | a::b::r,_,h=>by
  have h':=h
  rw [List.all_cons,Bool.and_eq_true] at h'
  have ih:=words_join (b::r) (by simp) h'.2
  show wordsSigns (code (a++32::joinN (b::r)))=_
  rw [show code (a++32::joinN (b::r))=code a++Char.ofNat 32::code (joinN (b::r)) from by simp [code],words_more a _ h'.1,ih];rfl
def cutWords:List (List Nat):=[[104,97,114,110,101,115,115],
 [50,52,100,55,97,102,98,97,53,57,49,54,101,54,52,49,100,52,56,53,52,99,102,98,102,99,101,50,56,57,54,97,52,101,49,50,52,52,57,55,56,53,50,48,97,56,99,50,57,57,52,100,51,50,97,98,56,55,50,55,97,100,54,97],
 [99,117,116],
 [97,116],
 [116,114,97,110,115,104,105,112,47,116,114,97,110,115,104,105,112,108,97,119,49,54,46,67,104,101,99,107,76,101,118,101,108,115]]
set_option maxRecDepth 100000 in
theorem cut_words:wordsSigns Try.prog.initOrder.toList=cutWords.map code:=by
 have h:Try.prog.initOrder.toList=code (joinN cutWords):=by
  show(String.ofList (code (joinN cutWords))).toList=_
  exact String.toList_ofList
 rw [h]
 exact words_join cutWords (by simp [cutWords]) (by decide +kernel)
theorem cut_behind:behindMainWord (cutWords.map code)=code [99,117,116]::cutWords.tail.tail.tail.map code:=by kernel_rfl
theorem cut_lifts:stripLifts liftWords (code [99,117,116]::cutWords.tail.tail.tail.map code)=([],code [99,117,116]::cutWords.tail.tail.tail.map code):=by kernel_rfl
theorem cut1:(code [99,117,116] == "gc".toList)=false:=by kernel_rfl
theorem cut2:(code [99,117,116] == "spec".toList)=false:=by kernel_rfl
theorem cut3:(code [99,117,116] == "cut".toList)=true:=by kernel_rfl
theorem cut_all:behindMainWord (wordsSigns Try.prog.initOrder.toList)=code [99,117,116]::cutWords.tail.tail.tail.map code:=by rw [cut_words,cut_behind]
theorem make_of (P:Program) {c:List Char} {rest:List (List Char)} (h:behindMainWord (wordsSigns P.initOrder.toList)=c::rest) (h1:(c == "gc".toList)=false) (h2:(c == "spec".toList)=false) (h3:(c == "cut".toList)=true):P.make=some .cut:=by
 unfold Program.make;rw [h]
 simp only [h1,h2,h3,Bool.or_self,Bool.false_eq_true,if_false,Bool.true_or,if_true]
theorem mayEnter_of (P:Program) {c:List Char} {rest:List (List Char)} (h:behindMainWord (wordsSigns P.initOrder.toList)=c::rest) (h3:((stripLifts liftWords (c::rest)).2.head? ==some "cut".toList)=true)
 (h4:(stripLifts liftWords (c::rest)).1=[]) (h5:P.laysLater=false) (h6:P.bearsReflect=false) (h7:P.doorFits []=true):P.mayEnter=true:=by
 unfold Program.mayEnter;rw [h]
 refine Bool.or_eq_true_iff.2 (Or.inr ?_)
 rw [h3,h4,h5,h6,h7];rfl
theorem row_make:Try.prog.make=some .cut:=make_of Try.prog cut_all cut1 cut2 cut3
theorem row_mayEnter:Try.prog.mayEnter=true:=mayEnter_of Try.prog cut_all (by rw [cut_lifts];kernel_rfl) (by rw [cut_lifts]) (by kernel_rfl) (by kernel_rfl) (by kernel_rfl)
theorem row_lifts:Try.prog.liftsFinal=false:=by unfold Program.liftsFinal Program.headLifts;rw [cut_all,cut_lifts];kernel_rfl
end Go.Proofs.Ytgnllglbopaheaa

namespace Go.Proofs.Ytgnllglbopaheaa.lawCheckLevels
open Go.ChangeShapes Go.WideShapes Go.ChangeAt Go.RowKit
set_option maxRecDepth 100000 in
theorem lifted (os:Os) (started:os.Started) (H:Type) (enc:TypeId × Value→H) :
 ReturnsInHanded {} Try.checked os 3 .any (Rows.checkLevelsSpec.pre6 enc Try.prog Try.f3 Rows.checkLevelsRow.domain false) (Rows.checkLevelsSpec.post enc Try.prog Try.f3 false true false false):=by
 refine returnsInHanded_of_change (C:=Try.checked) own started (by kernel_rfl) Try.func3
  (ChangeSpec.witness6 (enc:=enc) (C:=Try.checked) false ⟨#[],#[.slice none 0 0,.agg #[.int .i64 0,.int .i64 0,.slice none 0 0],.agg #[.int .i64 0,.int .i64 0,.slice none 0 0]],[]⟩ 8 (by kernel_rfl) (by kernel_rfl) (by kernel_rfl) (by kernel_rfl)) ?_
 intro W base args ds gs before hval0 hW hcnd _
 have hval:∀ (j:Nat) t v,Try.f3.params[j]? =some t→args[j]? =some v→Value.okWide Try.prog W .any base t v:=hval0
 have hW':=hW
 obtain⟨p,q,hA0,hV,rfl,hfz,hnd⟩:=hW
 have hA:DataW.TrodAll enc Try.prog W 0 (fun _=>true) true Try.f3.params.toList args.toList ds p:=hA0
 rw [Try.params3] at hA hval
 obtain⟨v0,vs0,d0,ds0,p0,q0,hargs0,rfl,rfl,h0,r0⟩:=trodAll_cons hA
 obtain⟨v1,vs1,d1,ds1,p1,q1,hargs1,rfl,rfl,h1,r1⟩:=trodAll_cons r0
 obtain⟨v2,vs2,d2,ds2,p2,q2,hargs2,rfl,rfl,h2,r2⟩:=trodAll_cons r1
 obtain⟨rfl,rfl,rfl⟩:=trodAll_nil r2
 obtain rfl:args=#[v0,v1,v2]:=by cases args;simp_all
 obtain⟨rfl,rfl⟩:=trodVars_none hV
 have h0k:=h0
 have hlt0:∀ x ∈ p0,x.block<W.heap.size:=fun x hx=>by have:=hW'.lt x (by simp [hx]);simpa using this
 obtain⟨l0,hl0⟩:=Dv.open_argDs (hval 0 22 v0 rfl rfl) h0
 have h1k:=h1
 have hlt1:∀ x ∈ p1,x.block<W.heap.size:=fun x hx=>by have:=hW'.lt x (by simp [hx]);simpa using this
 obtain⟨t1,s1,hl1,hv1⟩:=Dv.open_arg (hval 1 24 v1 rfl rfl) h1
 subst hv1
 have h2k:=h2
 have hlt2:∀ x ∈ p2,x.block<W.heap.size:=fun x hx=>by have:=hW'.lt x (by simp [hx]);simpa using this
 obtain⟨t2,s2,hl2,hv2⟩:=Dv.open_arg (hval 2 24 v2 rfl rfl) h2
 subst hv2
 clear hA0 hval0
 simp only [List.append_nil] at hW'
 refine(Ck.checkLevels_any l0 t1 t2 W _ s1 s2 hl0 hl1 hl2).mono fun e W' ⟨he,hb⟩=>?_
 subst he
 exact⟨_,rfl,_,_,_,[],_,[],hW',trodAll_cons_mk (shut_bool Try.underlying4 _) trodAll_mk0,(trodAll_cons_mk (Below.trod laidOut (by kernel_rfl) (of_decide_eq_true (by kernel_rfl)) h0k hb hlt0) (trodAll_cons_mk (Below.trod laidOut (by kernel_rfl) (of_decide_eq_true (by kernel_rfl)) h1k hb hlt1) (trodAll_cons_mk (Below.trod laidOut (by kernel_rfl) (of_decide_eq_true (by kernel_rfl)) h2k hb hlt2) trodAll_mk0))),rfl,hb.frame _,fun h=>by cases h⟩
theorem closed:joinedFacts Try.prog 3 Try.f3 Rows.checkLevelsSpec Rows.checkLevelsRow=true:=by
 unfold joinedFacts
 rw [row_mayEnter,row_lifts,row_make]
 kernel_rfl
theorem proved:Rows.CheckLevelsSaid :=
 OpenClaim.holds_of_wide 3 Try.f3 rfl rfl rfl rfl rfl rfl rfl ⟨rfl,rfl,rfl,rfl,rfl⟩ rfl rfl rfl rfl rfl (by kernel_rfl) Try.func3 closed
  (of_decide_eq_true (by kernel_rfl)) (by unfold Func.isWrapper;first | (rw [if_pos (by decide +kernel)];kernel_rfl) | (rw [if_neg (by decide +kernel)];exact⟨rfl,rfl⟩))
  (fun os started H enc _=>lifted os started H enc)
#print axioms proved
end Go.Proofs.Ytgnllglbopaheaa.lawCheckLevels
