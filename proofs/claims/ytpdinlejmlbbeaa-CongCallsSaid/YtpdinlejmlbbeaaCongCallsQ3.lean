/-
  Facts and contracts that the proof of CongCalls uses.
-/
import Derived.OrdersHeld
import Derived.Below
import Derived.Laws.Rows
import Derived.Laws.CopyRow
import Derived.KernelRfl
import Derived.WalkKit
import Derived.Lib.Hide
import Derived.Lib.MinMax
import Derived.Deep.RegionHeld3
import Derived.Test.YtpdinlejmlbbeaaRows
import Derived.Deep.RegionWith
import Derived.Deep.AppendLies
import Derived.Laws.IdiomCopy
import Derived.Deep.Slices
import Derived.Deep.QuietTactic
import Derived.BigQuiet
import Derived.Lib.QuietBelow
import Derived.StillTailTactics
import Derived.IntWalk
import Derived.OwnWalk
import Derived.Deep.DeepCutAuto
import Derived.Deep.RegionLaw
import Derived.Deep.LoopGhost
import Derived.Deep.MidRow
import Derived.Laws.Tables
import Derived.Laws.CopyOwn
import Derived.Deep.Upon
import Derived.ArgAppend
import Derived.Deep.RegionHeld
import Derived.Laws.EntriesVeiled
import Derived.ProofKit
import Derived.OpenShut
import Derived.Carry
import Derived.ChangeSlices
import Derived.JoinedOf
import Derived.Test.YtpdinlejmlbbeaaCongCallsQ2
namespace Go.Proofs.Ytpdinlejmlbbeaa
open Go.RowKit
set_option maxRecDepth 20000 in
set_option maxHeartbeats 1000000 in
theorem eachl_any (k c:Int) (bf bk:Nat) (hk:I64 k) (hk0:0≤k) (t:Tm):∀ (b:Int) (w:World) (s:Value),Lies w t.kids s→t.rightB=true→0≤b→b+2 * t.deep≤1000000→w.cell? ⟨bf,0,none⟩=some (.int .i64 c)→w.cell? ⟨bk,0,none⟩=some (.int .i64 k) →
 Calls Try.prog 74 #[tv t s,.int .i64 b,.func (.func 75) #[] #[.pointer (some ⟨bf,0,none⟩),.pointer (some ⟨bk,0,none⟩)]] w (Gives (t.each (liftF k c) b) w):=by
 induction t using Tm.ind with
 | h t ih =>
  intro b w s hl hr hb hd hcf hck
  obtain⟨a,cap,S,rfl,hc,hm,hf,hn,hk⟩:=hl.out
  have hde:=t.deep_eq
  have hlen:=right_len hr
  have HB0:=boxes_start w t (.slice a t.kids.length cap)
  unfold tv
  unfold maxLen at hm
  obtain⟨du,hu1,hu2⟩:=under_term
  by_cases hk2:t.k=2
  ·have e2:(t.k==2)=true:=by simpa using hk2
   have hv:=t.right_var hr hk2
   have heq:=Tm.each_var (liftF k c) t b hk2
   have HEQ:=Lib.hid heq
   clear heq hk2 ih hn hk hf
   cases hx:(liftF k c) t.i b with
   | none =>
    have HX:=Lib.hid hx
    clear hx
    go_enter Try.func74,Try.ntmps74
    go_wp2_with fail
    refine(liftc_none t.i b c k bf bk _ HX.out hv.1 hv.2 hb (by omega) hk hk0 (cell_lat (boxes_under HB0) hcf) (cell_lat (boxes_under HB0) hck)).mono ?_
    rintro e w' ⟨rfl,rfl⟩
    go_wp2
    refine bodyPost_ret (results_cell_tmp rfl _ _ (w.heap.size+1) _ _ _ du rfl (heap_alloc2_new _ _ _) hu1 (by cases du<;>first | rfl | exact hu2) size_term) rfl ?_
    refine⟨((Below.refl _ _).alloc (Nat.le_refl _) _).alloc (by simp) _,Or.inr ⟨.mk 2 0 0 0 [],by rw [HEQ.out,HX.out];rfl,rfl,rfl⟩⟩
   | some r =>
    have HX:=Lib.hid hx
    clear hx
    go_enter Try.func74,Try.ntmps74
    go_wp2_with fail
    refine(liftc_some t.i b c k r bf bk _ HX.out hv.1 hv.2 hb (by omega) hk hk0 (cell_lat (boxes_under HB0) hcf) (cell_lat (boxes_under HB0) hck)).mono ?_
    rintro e w' ⟨rfl,rfl⟩
    go_wp2
    refine bodyPost_ret (results_cell_tmp rfl _ _ (w.heap.size+1) _ _ _ du rfl (heap_alloc2_new _ _ _) hu1 (by cases du<;>first | rfl | exact hu2) size_term) rfl ?_
    refine⟨((Below.refl _ _).alloc (Nat.le_refl _) _).alloc (by simp) _,Or.inl ⟨.mk 2 r 0 0 [],.slice none 0 0,by rw [HEQ.out,HX.out];rfl,rfl,liesP_nil _ _⟩⟩
  ·have e2:(t.k==2)=false:=by simpa using hk2
   have heq:=Tm.each_node (liftF k c) t b hk2
   have HEQ:=Lib.hid heq
   have HRK:=Lib.hid (t.right_kids hr)
   have HR:=Lib.hid hr
   have HFI:=Lib.hid hf
   have IH:=Lib.hid ih
   have HN:=Lib.hid hn
   have HK:=Lib.hid hk
   have HDE:=Lib.hid hde
   have hd0:=desk_start w t t (.slice a t.kids.length cap) (.slice none 0 0)
   clear heq hk2 ih hn hk hf hr hl hde
   by_cases h0:t.kids.length=0
   ·have h1:t.kids.length<1:=by omega
    have HNL:=Lib.hid (List.eq_nil_of_length_eq_zero h0)
    clear h0 HB0
    go_enter Try.func74,Try.ntmps74
    go_wp2_with fail
    go_loopw [50] (fun i wr=>i=.int .i64 0∧Desk w t t (.slice a t.kids.length cap) (.slice none 0 0) wr) (fun _ _=>0)
    case atStart=>exact⟨rfl,hd0⟩
    case round =>
     clear hd0
     obtain⟨rfl,hdk⟩:=hrel
     obtain⟨q0,q1,q2⟩:=desk_blocks hdk
     obtain⟨d0,d1,d2,d3,d4⟩:=five_cells q0
     obtain⟨y0,y1,y2,y3,y4⟩:=five_cells q2
     obtain⟨z0,z1,z2,z3,z4⟩:=five_cells q1
     obtain⟨f0,f1,f2,f3,f4⟩:=five_free q1
     clear q0 q2
     go_wp2_with fail
     (try simp only [Exit.inBlock,Exit.then])
     refine bodyPost_ret (results_cell_tmp rfl _ _ (w.heap.size+1) _ _ _ du rfl (five_set q1) hu1 (by cases du<;>first | rfl | exact hu2) size_term) rfl ?_
     exact⟨((((((desk_under hdk).setCell (by simp) _).setCell (by simp) _).setCell (by simp) _).setCell (by simp) _).setCell (by simp) _),Or.inl ⟨.mk t.k t.i t.j t.n [],.slice none 0 0,by rw [HEQ.out,HNL.out];rfl,rfl,liesP_nil _ _⟩⟩
   ·have h0':0<t.kids.length:=by omega
    obtain⟨i0,hi,hz0,hz1,hz2⟩:=info_parts info_term
    have HI:=Lib.hid (And.intro hi (And.intro hz0 (And.intro hz1 hz2)))
    clear hi hz0 hz1 hz2
    go_enter Try.func74,Try.ntmps74
    go_wp2_with (at_make;refine wpList_make_full _ rfl _ _ 22 rfl (w.heap.size+3) 24 i0 _ 5 (by kernel_rfl) HI.out.1 HI.out.2.1 HI.out.2.2.1 _ _ _ _ t.kids.length rfl rfl rfl rfl ?bytes ?max ?base ?next)
    case bytes=>rw [HI.out.2.2.2];omega
    case max=>unfold maxLen;omega
    case base=>simp
    case next =>
    intro w1 hown hgrow
    have hful:=full_made hown
    have hbel:Below (w.heap.size+3) _ w1:=(Below.refl _ _).grown hgrow (by simp) (by simp)
    have hd1:Desk w t t _ _ w1:=hbel
    clear hbel hgrow hown
    obtain⟨q0,q1,q2⟩:=desk_blocks hd1
    obtain⟨d0,d1,d2,d3,d4⟩:=five_cells q0
    obtain⟨y0,y1,y2,y3,y4⟩:=five_cells q2
    obtain⟨f0,f1,f2,f3,f4⟩:=five_free q2
    have hd2:=desk_set (v':=.slice (some ⟨w.heap.size+3,0,none⟩) t.kids.length t.kids.length) hd1
    clear q0 q1 q2
    have hf2:=hful.below (b:=w.heap.size+2) (o:=4) (by omega) (.slice (some ⟨w.heap.size+3,0,none⟩) t.kids.length t.kids.length)
    clear hd1 hful HB0 hd0
    go_wp2_with fail
    go_loopw [50] (fun i wr=>∃ (q:Nat) (xs:List (Tm × Value)),q≤t.kids.length∧i=.int .i64 q∧Hid (xs.length=t.kids.length)∧Hid (optK (fun q x=>x.each (liftF k c) (b+bindsN t.k q)) 0 (t.kids.take q)=some ((xs.map (·.1)).take q))∧Full (w.heap.size+3) wr (w.heap.size+3) xs∧Desk w t t (.slice a t.kids.length cap) (.slice (some ⟨w.heap.size+3,0,none⟩) t.kids.length t.kids.length) wr) (fun i _=>t.kids.length-(intOf i).toNat)
    case atStart=>exact⟨0,_,Nat.zero_le _,rfl,List.length_replicate,rfl,hf2,hd2⟩
    case round =>
     clear hf2 hd2 d0 d1 d2 d3 d4 y0 y1 y2 y3 y4 f0 f1 f2 f3 f4
     obtain⟨q,xs,hq0,rfl,hxl,hxs,hfu,hdk⟩:=hrel
     have HXL:=Lib.hid hxl.out
     have HXS:=Lib.hid hxs.out
     clear hxl hxs
     obtain⟨q0,q1,q2⟩:=desk_blocks hdk
     obtain⟨d0,d1,d2,d3,d4⟩:=five_cells q0
     obtain⟨y0,y1,y2,y3,y4⟩:=five_cells q2
     obtain⟨z0,z1,z2,z3,z4⟩:=five_cells q1
     obtain⟨f0,f1,f2,f3,f4⟩:=five_free q1
     have hsz:=desk_size hdk
     clear q0 q2
     by_cases hlt:q<t.kids.length
     ·obtain⟨b',o,rfl,hx⟩:=HN.out q hlt
      have hy:=hx.below (desk_under hdk) hx.lt
      obtain⟨c0,c1,c2,c3,c4⟩:=hy
      have hq:=HK.out q hlt
      obtain⟨a',cap',S',hS,-⟩:=hq.out
      rw [hS] at c4 hq
      have HM:=Lib.hid (List.getElem_mem hlt)
      have hbd:=binds_range t.k q
      have hdq:=deeps_get t.kids q hlt
      rw [HDE.out] at hd
      have hsum:IntKind.i64.wrap (b+bindsN t.k q)=b+bindsN t.k q:=IntWalk.i64_in _ (by omega)
      have hH0:=held_start wr t.kids[q] (.slice a' t.kids[q].kids.length cap')
      have CALL:∀ w',Held wr t.kids[q] (.slice a' t.kids[q].kids.length cap') w'→Calls Try.prog 74 #[tv t.kids[q] (.slice a' t.kids[q].kids.length cap'),.int .i64 (b+bindsN t.k q),.func (.func 75) #[] #[.pointer (some ⟨bf,0,none⟩),.pointer (some ⟨bk,0,none⟩)]] w' (Gives (t.kids[q].each (liftF k c) (b+bindsN t.k q)) w'):=fun w' h' =>
       IH.out _ HM.out _ w' _ (hq.keep ((desk_under hdk).trans ((held_below h').mono (by omega)))) (HRK.out _ HM.out) (by omega) (by omega) (cell_lat ((desk_under hdk).trans ((held_below h').mono (by omega))) hcf) (cell_lat ((desk_under hdk).trans ((held_below h').mono (by omega))) hck)
      clear hS hq hx hd hdq hbd
      cases hx2:t.kids[q].each (liftF k c) (b+bindsN t.k q) with
      | none =>
       rw [hx2] at CALL
       have HX2:=Lib.hid hx2
       have CALL2:∀ w',Held wr t.kids[q] (.slice a' t.kids[q].kids.length cap') w'→Calls Try.prog 74 #[tv t.kids[q] (.slice a' t.kids[q].kids.length cap'),.int .i64 (b+bindsN t.k q),.func (.func 75) #[] #[.pointer (some ⟨bf,0,none⟩),.pointer (some ⟨bk,0,none⟩)]] w' (GivesNone w'):=fun w' h'=>(CALL w' h').mono fun e w'' h=>h.none
       have CALLB:=Lib.hid (CALL2 (wr.alloc (.cells #[.int .i64 t.kids[q].k,.int .i64 t.kids[q].i,.int .i64 t.kids[q].j,.int .i64 t.kids[q].n,.slice a' t.kids[q].kids.length cap'] 24)).drew (held_drew hH0))
       have CALLA:=Lib.hid ((CALL2 ((wr.alloc (.cells #[.int .i64 t.kids[q].k,.int .i64 t.kids[q].i,.int .i64 t.kids[q].j,.int .i64 t.kids[q].n,.slice a' t.kids[q].kids.length cap'] 24)).alloc zeroObj).drew (held_drew (held_alloc hH0 _))).mono fun e w'' h=>And.intro h (zero_blocks_new h.2))
       clear hx2 CALL CALL2
       go_wp2_with fail
       go_region_held3 (fun w'=>Held wr t.kids[q] (.slice a' t.kids[q].kids.length cap') w'∧w'.cell? ⟨w.heap.size,0,none⟩=some (.int .i64 t.k)∧w'.cell? ⟨wr.heap.size,0,none⟩=some (.int .i64 t.kids[q].k)∧w'.cell? ⟨wr.heap.size,1,none⟩=some (.int .i64 t.kids[q].i)∧w'.cell? ⟨wr.heap.size,2,none⟩=some (.int .i64 t.kids[q].j)∧w'.cell? ⟨wr.heap.size,3,none⟩=some (.int .i64 t.kids[q].n)∧w'.cell? ⟨wr.heap.size,4,none⟩=some (.slice a' t.kids[q].kids.length cap'))
        (((with_reducible refine held_and ?_ d0);repeat (first | with_reducible assumption | with_reducible exact hH0 | with_reducible refine held_drew ?_ | with_reducible refine held_alloc ?_ _ | ((with_reducible refine held_set ?_ ?hh _);(case hh=>simp)))))
        (first | (go_at_call 58;refine(binds_any _ _ _).mono ?_;rintro e w' ⟨rfl,rfl⟩) | (go_at_call 74;((with_reducible refine Calls.mono CALLB.out ?_);rintro e wn ⟨⟨z,rfl⟩,hbn⟩;have hh:=held_call (held_drew hH0) hbn)) | (go_at_call 74;((with_reducible refine Calls.mono CALLA.out ?_);rintro e wn ⟨⟨⟨z,rfl⟩,hbn⟩,hZ⟩;obtain⟨⟨g0,g1,g2,g3,g4⟩,k0,k1,k2,k3,k4⟩:=And.intro (five_cells hZ) (five_free hZ);have hh:=held_call (held_drew (held_alloc hH0 _)) hbn)))
       ·have hW:Held wr t.kids[q] (.slice a' t.kids[q].kids.length cap') (wn.alloc (.cells #[.int .i64 z.k,.int .i64 z.i,.int .i64 z.j,.int .i64 z.n,.slice none 0 0] 24)):=held_alloc hh _
        clear hh hbn
        generalize wn.alloc (.cells #[.int .i64 z.k,.int .i64 z.i,.int .i64 z.j,.int .i64 z.n,.slice none 0 0] 24)=W at hW ⊢
        have hdW:=desk_trans hdk (below_from (held_below hW) hsz)
        obtain⟨-,q1,-⟩:=desk_blocks hdW
        obtain⟨z0,z1,z2,z3,z4⟩:=five_cells q1
        obtain⟨f0,f1,f2,f3,f4⟩:=five_free q1
        go_wp2
        (try simp only [Exit.inBlock,Exit.then])
        refine bodyPost_ret (results_cell_tmp rfl _ _ (w.heap.size+1) _ _ _ du rfl (five_set q1) hu1 (by cases du<;>first | rfl | exact hu2) size_term) rfl ?_
        exact⟨((((((desk_under hdW).setCell (by simp) _).setCell (by simp) _).setCell (by simp) _).setCell (by simp) _).setCell (by simp) _),Or.inr ⟨Tm.zero,by rw [HEQ.out,optK_stop hlt HX2.out];rfl,rfl,rfl⟩⟩
       ·have hW:Held wr t.kids[q] (.slice a' t.kids[q].kids.length cap') (((((wn.setCell ⟨wr.heap.size+1,0,none⟩ (.int .i64 z.k)).setCell ⟨wr.heap.size+1,1,none⟩ (.int .i64 z.i)).setCell ⟨wr.heap.size+1,2,none⟩ (.int .i64 z.j)).setCell ⟨wr.heap.size+1,3,none⟩ (.int .i64 z.n)).setCell ⟨wr.heap.size+1,4,none⟩ (.slice none 0 0)):=held_five hh _ _ _ _ _
        clear hh hbn hZ g0 g1 g2 g3 g4 k0 k1 k2 k3 k4
        generalize ((((wn.setCell ⟨wr.heap.size+1,0,none⟩ (.int .i64 z.k)).setCell ⟨wr.heap.size+1,1,none⟩ (.int .i64 z.i)).setCell ⟨wr.heap.size+1,2,none⟩ (.int .i64 z.j)).setCell ⟨wr.heap.size+1,3,none⟩ (.int .i64 z.n)).setCell ⟨wr.heap.size+1,4,none⟩ (.slice none 0 0)=W at hW ⊢
        have hdW:=desk_trans hdk (below_from (held_below hW) hsz)
        obtain⟨-,q1,-⟩:=desk_blocks hdW
        obtain⟨z0,z1,z2,z3,z4⟩:=five_cells q1
        obtain⟨f0,f1,f2,f3,f4⟩:=five_free q1
        go_wp2
        (try simp only [Exit.inBlock,Exit.then])
        refine bodyPost_ret (results_cell_tmp rfl _ _ (w.heap.size+1) _ _ _ du rfl (five_set q1) hu1 (by cases du<;>first | rfl | exact hu2) size_term) rfl ?_
        exact⟨((((((desk_under hdW).setCell (by simp) _).setCell (by simp) _).setCell (by simp) _).setCell (by simp) _).setCell (by simp) _),Or.inr ⟨Tm.zero,by rw [HEQ.out,optK_stop hlt HX2.out];rfl,rfl,rfl⟩⟩
       ·have hW:Held wr t.kids[q] (.slice a' t.kids[q].kids.length cap') (((((wn.setCell ⟨wr.heap.size+1,0,none⟩ (.int .i64 z.k)).setCell ⟨wr.heap.size+1,1,none⟩ (.int .i64 z.i)).setCell ⟨wr.heap.size+1,2,none⟩ (.int .i64 z.j)).setCell ⟨wr.heap.size+1,3,none⟩ (.int .i64 z.n)).setCell ⟨wr.heap.size+1,4,none⟩ (.slice none 0 0)):=held_five hh _ _ _ _ _
        clear hh hbn hZ g0 g1 g2 g3 g4 k0 k1 k2 k3 k4
        generalize ((((wn.setCell ⟨wr.heap.size+1,0,none⟩ (.int .i64 z.k)).setCell ⟨wr.heap.size+1,1,none⟩ (.int .i64 z.i)).setCell ⟨wr.heap.size+1,2,none⟩ (.int .i64 z.j)).setCell ⟨wr.heap.size+1,3,none⟩ (.int .i64 z.n)).setCell ⟨wr.heap.size+1,4,none⟩ (.slice none 0 0)=W at hW ⊢
        have hdW:=desk_trans hdk (below_from (held_below hW) hsz)
        obtain⟨-,q1,-⟩:=desk_blocks hdW
        obtain⟨z0,z1,z2,z3,z4⟩:=five_cells q1
        obtain⟨f0,f1,f2,f3,f4⟩:=five_free q1
        go_wp2
        (try simp only [Exit.inBlock,Exit.then])
        refine bodyPost_ret (results_cell_tmp rfl _ _ (w.heap.size+1) _ _ _ du rfl (five_set q1) hu1 (by cases du<;>first | rfl | exact hu2) size_term) rfl ?_
        exact⟨((((((desk_under hdW).setCell (by simp) _).setCell (by simp) _).setCell (by simp) _).setCell (by simp) _).setCell (by simp) _),Or.inr ⟨Tm.zero,by rw [HEQ.out,optK_stop hlt HX2.out];rfl,rfl,rfl⟩⟩
      | some u =>
       rw [hx2] at CALL
       have hfine:u.fine:=right_fine (right_each _ (liftF_range k c hk0) _ _ _ (HRK.out _ HM.out) hx2)
       have HFI2:=Lib.hid hfine
       have hfine':=trivial
       clear hfine
       have HX2:=Lib.hid hx2
       have CALL2:∀ w',Held wr t.kids[q] (.slice a' t.kids[q].kids.length cap') w'→Calls Try.prog 74 #[tv t.kids[q] (.slice a' t.kids[q].kids.length cap'),.int .i64 (b+bindsN t.k q),.func (.func 75) #[] #[.pointer (some ⟨bf,0,none⟩),.pointer (some ⟨bk,0,none⟩)]] w' (GivesSome u w'):=fun w' h'=>(CALL w' h').mono fun e w'' h=>h.some
       have CALLB:=Lib.hid (CALL2 (wr.alloc (.cells #[.int .i64 t.kids[q].k,.int .i64 t.kids[q].i,.int .i64 t.kids[q].j,.int .i64 t.kids[q].n,.slice a' t.kids[q].kids.length cap'] 24)).drew (held_drew hH0))
       have CALLA:=Lib.hid ((CALL2 ((wr.alloc (.cells #[.int .i64 t.kids[q].k,.int .i64 t.kids[q].i,.int .i64 t.kids[q].j,.int .i64 t.kids[q].n,.slice a' t.kids[q].kids.length cap'] 24)).alloc zeroObj).drew (held_drew (held_alloc hH0 _))).mono fun e w'' h=>And.intro h (zero_blocks_new h.2))
       clear hx2 CALL CALL2
       go_wp2_with fail
       go_region_held3 (fun w'=>Held wr t.kids[q] (.slice a' t.kids[q].kids.length cap') w'∧w'.cell? ⟨w.heap.size,0,none⟩=some (.int .i64 t.k)∧w'.cell? ⟨wr.heap.size,0,none⟩=some (.int .i64 t.kids[q].k)∧w'.cell? ⟨wr.heap.size,1,none⟩=some (.int .i64 t.kids[q].i)∧w'.cell? ⟨wr.heap.size,2,none⟩=some (.int .i64 t.kids[q].j)∧w'.cell? ⟨wr.heap.size,3,none⟩=some (.int .i64 t.kids[q].n)∧w'.cell? ⟨wr.heap.size,4,none⟩=some (.slice a' t.kids[q].kids.length cap'))
        (((with_reducible refine held_and ?_ d0);repeat (first | with_reducible assumption | with_reducible exact hH0 | with_reducible refine held_drew ?_ | with_reducible refine held_alloc ?_ _ | ((with_reducible refine held_set ?_ ?hh _);(case hh=>simp)))))
        (first | (go_at_call 58;refine(binds_any _ _ _).mono ?_;rintro e w' ⟨rfl,rfl⟩) | (go_at_call 74;((with_reducible refine Calls.mono CALLB.out ?_);rintro e wn ⟨⟨s2,rfl,hl2⟩,hbn⟩;obtain⟨a2,cap2,rfl,-,-⟩:=hl2.out;have HL2:=Lib.hid hl2;clear hl2;have hh:=held_call (held_drew hH0) hbn)) | (go_at_call 74;((with_reducible refine Calls.mono CALLA.out ?_);rintro e wn ⟨⟨⟨s2,rfl,hl2⟩,hbn⟩,hZ⟩;obtain⟨⟨g0,g1,g2,g3,g4⟩,k0,k1,k2,k3,k4⟩:=And.intro (five_cells hZ) (five_free hZ);obtain⟨a2,cap2,rfl,-,-⟩:=hl2.out;have HL2:=Lib.hid hl2;clear hl2;have hh:=held_call (held_drew (held_alloc hH0 _)) hbn)))
       ·have hW:Held wr t.kids[q] (.slice a' t.kids[q].kids.length cap') (wn.alloc (.cells #[.int .i64 u.k,.int .i64 u.i,.int .i64 u.j,.int .i64 u.n,.slice a2 u.kids.length cap2] 24)):=held_alloc hh _
        have hLW:LiesP (wn.alloc (.cells #[.int .i64 u.k,.int .i64 u.i,.int .i64 u.j,.int .i64 u.n,.slice a2 u.kids.length cap2] 24)) (Own wr.heap.size (wn.alloc (.cells #[.int .i64 u.k,.int .i64 u.i,.int .i64 u.j,.int .i64 u.n,.slice a2 u.kids.length cap2] 24))) u.kids (.slice a2 u.kids.length cap2):=((HL2.out.from (by simp)).later ((Below.refl _ _).alloc (Nat.le_refl _) _))
        have hN:(wn.alloc (.cells #[.int .i64 u.k,.int .i64 u.i,.int .i64 u.j,.int .i64 u.n,.slice a2 u.kids.length cap2] 24)).heap[wn.heap.size]? =some (boxOf u (.slice a2 u.kids.length cap2)):=alloc_new _ _
        clear hh hbn HL2
        generalize wn.alloc (.cells #[.int .i64 u.k,.int .i64 u.i,.int .i64 u.j,.int .i64 u.n,.slice a2 u.kids.length cap2] 24)=W at hW hLW hN ⊢
        have hdW:=desk_trans hdk (below_from (held_below hW) hsz)
        have hfW:=hfu.later (held_below hW)
        have hxq:q<xs.length:=by rw [HXL.out];exact hlt
        have hLF:=hfu.fresh hsz hLW
        obtain⟨-,-,q2⟩:=desk_blocks hdW
        obtain⟨y0,y1,y2,y3,y4⟩:=five_cells q2
        obtain⟨p0,p1,p2,p3,p4⟩:=five_cells hN
        obtain⟨x0,x1,x2,x3,x4⟩:=hfW.node q hxq
        obtain⟨cs,hcs⟩:=hfW.open'
        have f0:=open_unfrozen hcs (q * 5)
        have f1:=open_unfrozen hcs (q * 5+1)
        have f2:=open_unfrozen hcs (q * 5+2)
        have f3:=open_unfrozen hcs (q * 5+3)
        have f4:=open_unfrozen hcs (q * 5+4)
        have HFW:=Lib.hid hfW
        have HLF:=Lib.hid hLF
        have HFU:=Lib.hid hfu
        clear hcs hN hLW hW hfW hLF hfu hfine' d0 d1 d2 d3 d4 z0 z1 z2 z3 z4
        go_wp2
        go_roundw
        case rel=>exact⟨q+1,xs.set q (u,.slice a2 u.kids.length cap2),hlt,by go_num,by simp [Hid,HXL.out],by rw [Hid,optK_next hlt HXS.out HX2.out,List.map_set,take_set_next _ _ _ (by simpa using hxq)],HFW.out.fill hxq HFI2.out HLF.out,desk_put hdW (Nat.le_refl _) _ _ _⟩
        case measure=>simp [intOf];omega
       ·have hW:Held wr t.kids[q] (.slice a' t.kids[q].kids.length cap') (((((wn.setCell ⟨wr.heap.size+1,0,none⟩ (.int .i64 u.k)).setCell ⟨wr.heap.size+1,1,none⟩ (.int .i64 u.i)).setCell ⟨wr.heap.size+1,2,none⟩ (.int .i64 u.j)).setCell ⟨wr.heap.size+1,3,none⟩ (.int .i64 u.n)).setCell ⟨wr.heap.size+1,4,none⟩ (.slice a2 u.kids.length cap2)):=held_five hh _ _ _ _ _
        have hLW:LiesP (((((wn.setCell ⟨wr.heap.size+1,0,none⟩ (.int .i64 u.k)).setCell ⟨wr.heap.size+1,1,none⟩ (.int .i64 u.i)).setCell ⟨wr.heap.size+1,2,none⟩ (.int .i64 u.j)).setCell ⟨wr.heap.size+1,3,none⟩ (.int .i64 u.n)).setCell ⟨wr.heap.size+1,4,none⟩ (.slice a2 u.kids.length cap2)) (Own wr.heap.size (((((wn.setCell ⟨wr.heap.size+1,0,none⟩ (.int .i64 u.k)).setCell ⟨wr.heap.size+1,1,none⟩ (.int .i64 u.i)).setCell ⟨wr.heap.size+1,2,none⟩ (.int .i64 u.j)).setCell ⟨wr.heap.size+1,3,none⟩ (.int .i64 u.n)).setCell ⟨wr.heap.size+1,4,none⟩ (.slice a2 u.kids.length cap2))) u.kids (.slice a2 u.kids.length cap2):=liesP_five (HL2.out.from (B':=wr.heap.size+2) (by simp)) _ _ _ _ _
        have hN:(((((wn.setCell ⟨wr.heap.size+1,0,none⟩ (.int .i64 u.k)).setCell ⟨wr.heap.size+1,1,none⟩ (.int .i64 u.i)).setCell ⟨wr.heap.size+1,2,none⟩ (.int .i64 u.j)).setCell ⟨wr.heap.size+1,3,none⟩ (.int .i64 u.n)).setCell ⟨wr.heap.size+1,4,none⟩ (.slice a2 u.kids.length cap2)).heap[wr.heap.size+1]? =some (boxOf u (.slice a2 u.kids.length cap2)):=five_set hZ
        clear hh hbn HL2 hZ g0 g1 g2 g3 g4 k0 k1 k2 k3 k4
        generalize ((((wn.setCell ⟨wr.heap.size+1,0,none⟩ (.int .i64 u.k)).setCell ⟨wr.heap.size+1,1,none⟩ (.int .i64 u.i)).setCell ⟨wr.heap.size+1,2,none⟩ (.int .i64 u.j)).setCell ⟨wr.heap.size+1,3,none⟩ (.int .i64 u.n)).setCell ⟨wr.heap.size+1,4,none⟩ (.slice a2 u.kids.length cap2)=W at hW hLW hN ⊢
        have hdW:=desk_trans hdk (below_from (held_below hW) hsz)
        have hfW:=hfu.later (held_below hW)
        have hxq:q<xs.length:=by rw [HXL.out];exact hlt
        have hLF:=hfu.fresh hsz hLW
        obtain⟨-,-,q2⟩:=desk_blocks hdW
        obtain⟨y0,y1,y2,y3,y4⟩:=five_cells q2
        obtain⟨p0,p1,p2,p3,p4⟩:=five_cells hN
        obtain⟨x0,x1,x2,x3,x4⟩:=hfW.node q hxq
        obtain⟨cs,hcs⟩:=hfW.open'
        have f0:=open_unfrozen hcs (q * 5)
        have f1:=open_unfrozen hcs (q * 5+1)
        have f2:=open_unfrozen hcs (q * 5+2)
        have f3:=open_unfrozen hcs (q * 5+3)
        have f4:=open_unfrozen hcs (q * 5+4)
        have HFW:=Lib.hid hfW
        have HLF:=Lib.hid hLF
        have HFU:=Lib.hid hfu
        clear hcs hN hLW hW hfW hLF hfu hfine' d0 d1 d2 d3 d4 z0 z1 z2 z3 z4
        go_wp2
        go_roundw
        case rel=>exact⟨q+1,xs.set q (u,.slice a2 u.kids.length cap2),hlt,by go_num,by simp [Hid,HXL.out],by rw [Hid,optK_next hlt HXS.out HX2.out,List.map_set,take_set_next _ _ _ (by simpa using hxq)],HFW.out.fill hxq HFI2.out HLF.out,desk_put hdW (Nat.le_refl _) _ _ _⟩
        case measure=>simp [intOf];omega
       ·have hW:Held wr t.kids[q] (.slice a' t.kids[q].kids.length cap') (((((wn.setCell ⟨wr.heap.size+1,0,none⟩ (.int .i64 u.k)).setCell ⟨wr.heap.size+1,1,none⟩ (.int .i64 u.i)).setCell ⟨wr.heap.size+1,2,none⟩ (.int .i64 u.j)).setCell ⟨wr.heap.size+1,3,none⟩ (.int .i64 u.n)).setCell ⟨wr.heap.size+1,4,none⟩ (.slice a2 u.kids.length cap2)):=held_five hh _ _ _ _ _
        have hLW:LiesP (((((wn.setCell ⟨wr.heap.size+1,0,none⟩ (.int .i64 u.k)).setCell ⟨wr.heap.size+1,1,none⟩ (.int .i64 u.i)).setCell ⟨wr.heap.size+1,2,none⟩ (.int .i64 u.j)).setCell ⟨wr.heap.size+1,3,none⟩ (.int .i64 u.n)).setCell ⟨wr.heap.size+1,4,none⟩ (.slice a2 u.kids.length cap2)) (Own wr.heap.size (((((wn.setCell ⟨wr.heap.size+1,0,none⟩ (.int .i64 u.k)).setCell ⟨wr.heap.size+1,1,none⟩ (.int .i64 u.i)).setCell ⟨wr.heap.size+1,2,none⟩ (.int .i64 u.j)).setCell ⟨wr.heap.size+1,3,none⟩ (.int .i64 u.n)).setCell ⟨wr.heap.size+1,4,none⟩ (.slice a2 u.kids.length cap2))) u.kids (.slice a2 u.kids.length cap2):=liesP_five (HL2.out.from (B':=wr.heap.size+2) (by simp)) _ _ _ _ _
        have hN:(((((wn.setCell ⟨wr.heap.size+1,0,none⟩ (.int .i64 u.k)).setCell ⟨wr.heap.size+1,1,none⟩ (.int .i64 u.i)).setCell ⟨wr.heap.size+1,2,none⟩ (.int .i64 u.j)).setCell ⟨wr.heap.size+1,3,none⟩ (.int .i64 u.n)).setCell ⟨wr.heap.size+1,4,none⟩ (.slice a2 u.kids.length cap2)).heap[wr.heap.size+1]? =some (boxOf u (.slice a2 u.kids.length cap2)):=five_set hZ
        clear hh hbn HL2 hZ g0 g1 g2 g3 g4 k0 k1 k2 k3 k4
        generalize ((((wn.setCell ⟨wr.heap.size+1,0,none⟩ (.int .i64 u.k)).setCell ⟨wr.heap.size+1,1,none⟩ (.int .i64 u.i)).setCell ⟨wr.heap.size+1,2,none⟩ (.int .i64 u.j)).setCell ⟨wr.heap.size+1,3,none⟩ (.int .i64 u.n)).setCell ⟨wr.heap.size+1,4,none⟩ (.slice a2 u.kids.length cap2)=W at hW hLW hN ⊢
        have hdW:=desk_trans hdk (below_from (held_below hW) hsz)
        have hfW:=hfu.later (held_below hW)
        have hxq:q<xs.length:=by rw [HXL.out];exact hlt
        have hLF:=hfu.fresh hsz hLW
        obtain⟨-,-,q2⟩:=desk_blocks hdW
        obtain⟨y0,y1,y2,y3,y4⟩:=five_cells q2
        obtain⟨p0,p1,p2,p3,p4⟩:=five_cells hN
        obtain⟨x0,x1,x2,x3,x4⟩:=hfW.node q hxq
        obtain⟨cs,hcs⟩:=hfW.open'
        have f0:=open_unfrozen hcs (q * 5)
        have f1:=open_unfrozen hcs (q * 5+1)
        have f2:=open_unfrozen hcs (q * 5+2)
        have f3:=open_unfrozen hcs (q * 5+3)
        have f4:=open_unfrozen hcs (q * 5+4)
        have HFW:=Lib.hid hfW
        have HLF:=Lib.hid hLF
        have HFU:=Lib.hid hfu
        clear hcs hN hLW hW hfW hLF hfu hfine' d0 d1 d2 d3 d4 z0 z1 z2 z3 z4
        go_wp2
        go_roundw
        case rel=>exact⟨q+1,xs.set q (u,.slice a2 u.kids.length cap2),hlt,by go_num,by simp [Hid,HXL.out],by rw [Hid,optK_next hlt HXS.out HX2.out,List.map_set,take_set_next _ _ _ (by simpa using hxq)],HFW.out.fill hxq HFI2.out HLF.out,desk_put hdW (Nat.le_refl _) _ _ _⟩
        case measure=>simp [intOf];omega
     ·have:q=t.kids.length:=by omega
      subst this
      go_wp2_with fail
      (try simp only [Exit.inBlock,Exit.then])
      refine bodyPost_ret (results_cell_tmp rfl _ _ (w.heap.size+1) _ _ _ du rfl (five_set q1) hu1 (by cases du<;>first | rfl | exact hu2) size_term) rfl ?_
      have hxe:(xs.map (·.1)).take t.kids.length=xs.map (·.1):=by rw [←HXL.out,←List.length_map (f:=(·.1)),List.take_length]
      have hres:t.each (liftF k c) b=some (.mk t.k t.i t.j t.n (xs.map (·.1))):=by
       have:=HXS.out
       rw [List.take_length,hxe] at this
       rw [HEQ.out,this];rfl
      refine⟨((((((desk_under hdk).setCell (by simp) _).setCell (by simp) _).setCell (by simp) _).setCell (by simp) _).setCell (by simp) _),Or.inl ⟨_,_,hres,rfl,?_⟩⟩
      refine five_lies (hfu.lies (cap:=t.kids.length) (by rw [HXL.out];exact Nat.le_refl _) (by unfold maxLen;omega)) HXL.out _ _ _ _ _
end Go.Proofs.Ytpdinlejmlbbeaa

namespace Go.Proofs.Ytpdinlejmlbbeaa
open Go.RowKit
theorem heap_four (w:World) (a b c d:Obj):((((w.alloc a).alloc b).alloc c).alloc d).heap[w.heap.size]? =some a∧((((w.alloc a).alloc b).alloc c).alloc d).heap[w.heap.size+1]? =some b∧((((w.alloc a).alloc b).alloc c).alloc d).heap[w.heap.size+2]? =some c∧((((w.alloc a).alloc b).alloc c).alloc d).heap[w.heap.size+3]? =some d:=by
 obtain⟨h0,h1,h2,-⟩:=heap_three w a b c
 refine⟨?_,?_,?_,?_⟩
 ·rw [Below.heap_alloc _ _ _ (by simp<;>omega)];exact h0
 ·rw [Below.heap_alloc _ _ _ (by simp<;>omega)];exact h1
 ·rw [Below.heap_alloc _ _ _ (by simp)];exact h2
 ·have:=alloc_new (((w.alloc a).alloc b).alloc c) d
  simpa using this
theorem below_four (w:World) (a b c d:Obj):Below w.heap.size w ((((w.alloc a).alloc b).alloc c).alloc d):=((((Below.refl _ _).alloc (Nat.le_refl _) _).alloc (by simp) _).alloc (by simp<;>omega) _).alloc (by simp<;>omega) _
set_option maxHeartbeats 2000000 in
theorem lift_any (t:Tm) (k c:Int) (w:World) (s:Value) (hl:Lies w t.kids s) (hk:I64 k) (_:I64 c) (hd:t.deep≤100000):Calls Try.prog 68 #[tv t s,.int .i64 k,.int .i64 c] w (Makes (t.liftB k c) w):=by
 obtain⟨a,cap,S,rfl,hc,hm,-,-,-⟩:=hl.out
 have HL:=Lib.hid hl
 obtain⟨du,hu1,hu2⟩:=under_term
 have HB:=below_four w (.cells #[.int .i64 t.k,.int .i64 t.i,.int .i64 t.j,.int .i64 t.n,.slice a t.kids.length cap] 24) (.cells #[.int .i64 k] 3) (.cells #[.int .i64 c] 3) (.cells #[.int .i64 0,.int .i64 0,.int .i64 0,.int .i64 0,.slice none 0 0] 24)
 obtain⟨q0,q1,q2,q3⟩:=heap_four w (.cells #[.int .i64 t.k,.int .i64 t.i,.int .i64 t.j,.int .i64 t.n,.slice a t.kids.length cap] 24) (.cells #[.int .i64 k] 3) (.cells #[.int .i64 c] 3) (.cells #[.int .i64 0,.int .i64 0,.int .i64 0,.int .i64 0,.slice none 0 0] 24)
 clear hl
 unfold tv
 by_cases hk0:k<0
 ·have e1:decide (k<0)=true:=by simpa using hk0
  have hres:t.liftB k c=Tm.zero:=by unfold Tm.liftB;rw [if_pos (Or.inl hk0)]
  rw [hres]
  clear hres
  go_enter Try.func68,Try.ntmps68
  go_wp2
  refine bodyPost_ret (results_cell_row rfl _ _ (w.heap.size+3) _ _ _ du rfl q3 hu1 (by cases du<;>first | rfl | exact hu2) size_term) rfl ?_
  exact⟨.slice none 0 0,rfl,liesP_nil _ _,HB⟩
 by_cases hc0:c<0
 ·have e1:decide (k<0)=false:=by simpa using hk0
  have e2:decide (c<0)=true:=by simpa using hc0
  have hres:t.liftB k c=Tm.zero:=by unfold Tm.liftB;rw [if_pos (Or.inr (Or.inl hc0))]
  rw [hres]
  clear hres
  go_enter Try.func68,Try.ntmps68
  go_wp2
  refine bodyPost_ret (results_cell_row rfl _ _ (w.heap.size+3) _ _ _ du rfl q3 hu1 (by cases du<;>first | rfl | exact hu2) size_term) rfl ?_
  exact⟨.slice none 0 0,rfl,liesP_nil _ _,HB⟩
 have e1:decide (k<0)=false:=by simpa using hk0
 have e2:decide (c<0)=false:=by simpa using hc0
 cases hr:t.rightB with
 | false =>
  have hres:t.liftB k c=Tm.zero:=by unfold Tm.liftB;rw [if_pos (Or.inr (Or.inr hr))]
  rw [hres]
  clear hres
  go_enter Try.func68,Try.ntmps68
  go_wp2_with fail
  refine(right_any t _ _ (HL.out.keep HB)).mono ?_
  rw [hr]
  rintro e w2 ⟨rfl,hb2⟩
  have h3:=hb2.block (w.heap.size+3) (by have:=(Array.getElem?_eq_some_iff.1 q3).1;exact this)
  rw [q3] at h3
  obtain⟨z0,z1,z2,z3,z4⟩:=five_cells h3
  obtain⟨f0,f1,f2,f3,f4⟩:=five_free h3
  have hB2:=HB.trans (hb2.mono HB.size)
  clear hb2 q0 q1 q2 q3
  go_wp2
  refine bodyPost_ret (results_cell_row rfl _ _ (w.heap.size+3) _ _ _ du rfl (five_set h3) hu1 (by cases du<;>first | rfl | exact hu2) size_term) rfl ?_
  exact⟨.slice none 0 0,rfl,liesP_nil _ _,((((hB2.setCell (above3 _) _).setCell (above3 _) _).setCell (above3 _) _).setCell (above3 _) _).setCell (above3 _) _⟩
 | true =>
  have hlb:t.liftB k c=(t.each (liftF k c) 0).getD .zero:=by unfold Tm.liftB;rw [if_neg (by rw [hr];simp;omega)]
  have HLB:=Lib.hid hlb
  clear hlb
  go_enter Try.func68,Try.ntmps68
  go_wp2_with fail
  refine(right_any t _ _ (HL.out.keep HB)).mono ?_
  rw [hr]
  rintro e w2 ⟨rfl,hb2⟩
  have hB2:=HB.trans (hb2.mono HB.size)
  have key:∀ n o,n<w.heap.size+4→((((w.alloc (.cells #[.int .i64 t.k,.int .i64 t.i,.int .i64 t.j,.int .i64 t.n,.slice a t.kids.length cap] 24)).alloc (.cells #[.int .i64 k] 3)).alloc (.cells #[.int .i64 c] 3)).alloc (.cells #[.int .i64 0,.int .i64 0,.int .i64 0,.int .i64 0,.slice none 0 0] 24)).heap[n]? =some o→w2.heap[n]? =some o:=fun n o hn h=>by rw [hb2.block n (by simpa using hn)];exact h
  have h0:=key _ _ (by omega) q0
  have h1:=key _ _ (by omega) q1
  have h2:=key _ _ (by omega) q2
  have h3:=key _ _ (by omega) q3
  have hs2:w.heap.size+4≤w2.heap.size:=by have:=hb2.size;simpa using this
  obtain⟨d0,d1,d2,d3,d4⟩:=five_cells h0
  clear hb2 q0 q1 q2 q3 key
  go_wp2_with fail
  refine(eachl_any k c (w.heap.size+2) (w.heap.size+1) hk (by omega) t 0 w2 _ (HL.out.keep hB2) hr (by omega) (by omega) (by rw [cell_of_row _ _ _ _ _ _ h2];rfl) (by rw [cell_of_row _ _ _ _ _ _ h1];rfl)).mono ?_
  intro e w3 hg
  cases hx:t.each (liftF k c) 0 with
  | none =>
   rw [hx] at hg HLB
   obtain⟨⟨z,rfl⟩,hb3⟩:=hg.none
   have h4:=hb3.block (w.heap.size+3) (by omega)
   rw [h3] at h4
   obtain⟨z0,z1,z2,z3,z4⟩:=five_cells h4
   obtain⟨f0,f1,f2,f3,f4⟩:=five_free h4
   have hB3:=hB2.trans (hb3.mono hB2.size)
   have hs3:w.heap.size+1+1+1<w3.heap.size:=by have:=hb3.size;omega
   clear hb3 h0 h1 h2 h3
   go_wp2
   refine bodyPost_ret (results_cell_row rfl _ _ (w.heap.size+3) _ _ _ du rfl (five_alloc h4 _ _ _ _ _ _) hu1 (by cases du<;>first | rfl | exact hu2) size_term) rfl ?_
   rw [HLB.out]
   exact⟨.slice none 0 0,rfl,liesP_nil _ _,below_five_alloc hB3 hB3.size (above3 _) _ _ _ _ _ _⟩
  | some u =>
   rw [hx] at hg HLB
   obtain⟨⟨s2,rfl,hl2⟩,hb3⟩:=hg.some
   obtain⟨a2,cap2,rfl,-,-⟩:=hl2.out
   have h4:=hb3.block (w.heap.size+3) (by omega)
   rw [h3] at h4
   obtain⟨z0,z1,z2,z3,z4⟩:=five_cells h4
   obtain⟨f0,f1,f2,f3,f4⟩:=five_free h4
   have hB3:=hB2.trans (hb3.mono hB2.size)
   have hs3:w.heap.size+1+1+1<w3.heap.size:=by have:=hb3.size;omega
   clear hb3 h0 h1 h2 h3
   go_wp2
   refine bodyPost_ret (results_cell_row rfl _ _ (w.heap.size+3) _ _ _ du rfl (five_alloc h4 _ _ _ _ _ _) hu1 (by cases du<;>first | rfl | exact hu2) size_term) rfl ?_
   rw [HLB.out]
   exact⟨.slice a2 u.kids.length cap2,rfl,liesP_fives_alloc hl2 (by omega) (by omega) _ _ _ _ _ _,below_five_alloc hB3 hB3.size (above3 _) _ _ _ _ _ _⟩
end Go.Proofs.Ytpdinlejmlbbeaa

namespace Go.Proofs.Ytpdinlejmlbbeaa
open Go.RowKit
theorem rlift_fine {k c:Int} (hk:0≤k) {t u:Tm} (hf:t.fine) (h:t.rlift k c=some u):u.fine:=by
 rw [Tm.rlift_eq] at h
 split at h
 ·cases h
 ·rename_i h1
  simp only [Option.map_eq_some_iff] at h
  obtain⟨l,-,rfl⟩:=h
  obtain⟨a1,a2,a3,a4⟩:=hf
  refine⟨a1,?_,a3,a4⟩
  show I64 (if t.k=2∧c≤t.i then t.i+k else t.i)
  split
  ·rename_i h2
   have:¬ (k>2147483647-t.i):=fun h=>h1 ⟨h2.1,h2.2,h⟩
   unfold I64 at a2 ⊢;omega
  ·exact a2
theorem step62_range {c:Int} (hc:0≤c) (hc2:c≤9223372036854775807) (k q:Int):0≤step62 c k q∧step62 c k q≤9223372036854775807:=by
 unfold step62;have:=binds_range k q;split<;>omega
set_option maxRecDepth 20000 in
set_option maxHeartbeats 4000000 in
theorem rlift_any (k:Int) (hk:I64 k) (hk0:0≤k) (t:Tm):∀ (c:Int) (w:World) (s:Value),Lies w t.kids s→t.rightB=true→0≤c→c≤9223372036854775807 →
 Calls Try.prog 71 #[tv t s,.int .i64 k,.int .i64 c] w (Gives (t.rlift k c) w):=by
 induction t using Tm.ind with
 | h t ih =>
  intro c w s hl hr hc0 hc9
  obtain⟨a,cap,S,rfl,hc,hm,hf,hn,hkk⟩:=hl.out
  have hlen:=right_len hr
  unfold tv
  unfold maxLen at hm
  unfold I64 at hk
  obtain⟨hk1,hk9⟩:=hk
  obtain⟨du,hu1,hu2⟩:=under_term
  have hd0:=desk_start w t t (.slice a t.kids.length cap) (.slice none 0 0)
  have heq:=Tm.rlift_eq k t c
  by_cases hk2:t.k=2
  ·have e2:(t.k==2)=true:=by simpa using hk2
   have hv:=t.right_var hr hk2
   have hnil:t.kids=[]:=(sorts_two (t.right_node hr) (by omega)).2
   have h1:t.kids.length<1:=by rw [hnil];exact Nat.zero_lt_one
   have HNIL:=Lib.hid hnil
   have HK2:=Lib.hid hk2
   clear hnil hk2 ih hn hkk hf hl
   by_cases hci:c≤t.i
   ·have e3:decide (c≤t.i)=true:=by simpa using hci
    by_cases hov:k>2147483647-t.i
    ·have e4:decide (2147483647-t.i<k)=true:=by simpa using hov
     rw [if_pos ⟨HK2.out,hci,hov⟩] at heq
     have HEQ:=Lib.hid heq
     clear heq hov hci
     go_enter Try.func71,Try.ntmps71
     go_wp2
     (try simp only [Exit.inBlock,Exit.then])
     refine bodyPost_ret (results_cell_tmp rfl _ _ (w.heap.size+1) _ _ _ du rfl (heap_three _ _ _ _).2.1 hu1 (by cases du<;>first | rfl | exact hu2) size_term) rfl ?_
     exact⟨below_three _ _ _ _,Or.inr ⟨Tm.zero,HEQ.out,rfl,rfl⟩⟩
    ·have e4:decide (2147483647-t.i<k)=false:=by simpa using hov
     have h5:k≤2147483647-t.i:=by omega
     rw [if_neg (fun h=>hov h.2.2),if_pos ⟨HK2.out,hci⟩] at heq
     have HEQ:=Lib.hid heq
     clear heq hov hci
     go_enter Try.func71,Try.ntmps71
     go_wp2_with fail
     go_loopw [9,10] (fun v i wr=>v=.slice none 0 0∧i=.int .i64 0∧Desk w t (.mk t.k (t.i+k) t.j t.n []) (.slice a t.kids.length cap) (.slice none 0 0) wr) (fun _ _ _=>0)
     case atStart=>exact⟨rfl,rfl,desk_start w t (.mk t.k (t.i+k) t.j t.n []) (.slice a t.kids.length cap) (.slice none 0 0)⟩
     case round =>
      obtain⟨rfl,rfl,hdk⟩:=hrel
      obtain⟨q0,q1,q2⟩:=desk_blocks hdk
      obtain⟨d0,d1,d2,d3,d4⟩:=five_cells q0
      obtain⟨f0,f1,f2,f3,f4⟩:=five_free q2
      obtain⟨y0,y1,y2,y3,y4⟩:=five_cells q2
      obtain⟨z0,z1,z2,z3,z4⟩:=five_cells q1
      obtain⟨g0,g1,g2,g3,g4⟩:=five_free q1
      have hd2:=desk_set (v':=.slice none 0 0) hdk
      obtain⟨-,q1',-⟩:=desk_blocks hd2
      clear q0 q1 q2
      go_wp2
      (try simp only [Exit.inBlock,Exit.then])
      refine bodyPost_ret (results_cell_tmp rfl _ _ (w.heap.size+1) _ _ _ du rfl (five_set q1') hu1 (by cases du<;>first | rfl | exact hu2) size_term) rfl ?_
      exact⟨below_five (desk_under hd2) (by omega) _ _ _ _ _,Or.inl ⟨(.mk t.k (t.i+k) t.j t.n []),.slice none 0 0,by rw [HEQ.out,HNIL.out];rfl,rfl,liesP_nil _ _⟩⟩
   ·have e3:decide (c≤t.i)=false:=by simpa using hci
    rw [if_neg (fun h=>hci h.2.1),if_neg (fun h=>hci h.2)] at heq
    have HEQ:=Lib.hid heq
    clear heq hci
    go_enter Try.func71,Try.ntmps71
    go_wp2_with fail
    go_loopw [9,10] (fun v i wr=>v=.slice none 0 0∧i=.int .i64 0∧Desk w t (.mk t.k t.i t.j t.n []) (.slice a t.kids.length cap) (.slice none 0 0) wr) (fun _ _ _=>0)
    case atStart=>exact⟨rfl,rfl,desk_start w t (.mk t.k t.i t.j t.n []) (.slice a t.kids.length cap) (.slice none 0 0)⟩
    case round =>
     obtain⟨rfl,rfl,hdk⟩:=hrel
     obtain⟨q0,q1,q2⟩:=desk_blocks hdk
     obtain⟨d0,d1,d2,d3,d4⟩:=five_cells q0
     obtain⟨f0,f1,f2,f3,f4⟩:=five_free q2
     obtain⟨y0,y1,y2,y3,y4⟩:=five_cells q2
     obtain⟨z0,z1,z2,z3,z4⟩:=five_cells q1
     obtain⟨g0,g1,g2,g3,g4⟩:=five_free q1
     have hd2:=desk_set (v':=.slice none 0 0) hdk
     obtain⟨-,q1',-⟩:=desk_blocks hd2
     clear q0 q1 q2
     go_wp2
     (try simp only [Exit.inBlock,Exit.then])
     refine bodyPost_ret (results_cell_tmp rfl _ _ (w.heap.size+1) _ _ _ du rfl (five_set q1') hu1 (by cases du<;>first | rfl | exact hu2) size_term) rfl ?_
     exact⟨below_five (desk_under hd2) (by omega) _ _ _ _ _,Or.inl ⟨(.mk t.k t.i t.j t.n []),.slice none 0 0,by rw [HEQ.out,HNIL.out];rfl,rfl,liesP_nil _ _⟩⟩
  ·have e2:(t.k==2)=false:=by simpa using hk2
   rw [if_neg (fun h=>hk2 h.1),if_neg (fun h=>hk2 h.1)] at heq
   have HEQ:=Lib.hid heq
   have HRK:=Lib.hid (t.right_kids hr)
   have HFI:=Lib.hid hf
   have IH:=Lib.hid ih
   have HN:=Lib.hid hn
   have HK:=Lib.hid hkk
   clear heq hk2 ih hn hkk hf hr hl
   obtain⟨i0,hi,hz0,hz1,hz2⟩:=info_parts info_term
   have HI:=Lib.hid (And.intro hi (And.intro hz0 (And.intro hz1 hz2)))
   clear hi hz0 hz1 hz2
   go_enter Try.func71,Try.ntmps71
   go_wp2_with fail
   go_loopw [9,10] (fun v i wr=>∃ (q:Nat) (ps:List (Tm × Value)) (vv:Value),vv=v∧q≤t.kids.length∧i=.int .i64 q∧Hid (optK (fun q x=>x.rlift k (step62 c t.k q)) 0 (t.kids.take q)=some (ps.map (·.1)))∧Made (w.heap.size+3) wr v ps∧Desk w t t (.slice a t.kids.length cap) (.slice none 0 0) wr) (fun _ i _=>t.kids.length-(intOf i).toNat)
   case atStart=>exact⟨0,[],_,rfl,Nat.zero_le _,rfl,rfl,made_nil _ _,hd0⟩
   case round =>
    clear hd0
    obtain⟨q,ps,vv,rfl,hq0,rfl,hps,hmade,hdk⟩:=hrel
    have HPS:=Lib.hid hps.out
    clear hps
    obtain⟨q0,q1,q2⟩:=desk_blocks hdk
    obtain⟨d0,d1,d2,d3,d4⟩:=five_cells q0
    obtain⟨y0,y1,y2,y3,y4⟩:=five_cells q2
    obtain⟨f0,f1,f2,f3,f4⟩:=five_free q2
    obtain⟨z0,z1,z2,z3,z4⟩:=five_cells q1
    obtain⟨g0,g1,g2,g3,g4⟩:=five_free q1
    have hsz:=desk_size hdk
    clear q0 q2
    by_cases hlt:q<t.kids.length
    ·obtain⟨b',o,rfl,hx⟩:=HN.out q hlt
     have hy:=hx.below (desk_under hdk) hx.lt
     obtain⟨c0,c1,c2,c3,c4⟩:=hy
     have hq:=HK.out q hlt
     obtain⟨a',cap',S',hS,-⟩:=hq.out
     rw [hS] at c4 hq
     have HM:=Lib.hid (List.getElem_mem hlt)
     have hbd:=binds_range t.k q
     have hst:=step62_range hc0 hc9 t.k q
     have hpl:ps.length=q:=by have:=optK_length HPS.out;simp at this;omega
     have HPL:=Lib.hid hpl
     have HMD:=Lib.hid hmade
     have CALL:=Lib.hid (IH.out _ HM.out (step62 c t.k q) wr _ (hq.keep (desk_under hdk)) (HRK.out _ HM.out) hst.1 hst.2)
     have hstep:step62 c t.k q=c+(if 4611686018427387904<c then 0 else bindsN t.k q):=rfl
     clear hS hq hx hpl hmade hst
     cases hx2:t.kids[q].rlift k (step62 c t.k q) with
     | none =>
      rw [hx2] at CALL
      have HX2:=Lib.hid hx2
      clear hx2
      by_cases hbig:4611686018427387904<c
      ·rw [if_pos hbig,Int.add_zero] at hstep
       rw [hstep] at CALL
       clear hstep
       go_wp2_with (go_at_call 63;refine(refbinds_any _ _ _).mono ?_;rintro e w' ⟨rfl,rfl⟩)
       refine CALL.out.mono ?_
       intro e w2 hg
       obtain⟨⟨z,rfl⟩,hb2⟩:=hg.none
       have hd2:=desk_later hdk hb2
       have hs2:w.heap.size+1<w2.heap.size:=by have:=desk_size hd2;omega
       obtain⟨-,q1',-⟩:=desk_blocks hd2
       obtain⟨z0,z1,z2,z3,z4⟩:=five_cells q1'
       obtain⟨g0,g1,g2,g3,g4⟩:=five_free q1'
       clear hg hb2
       go_wp2
       (try simp only [Exit.inBlock,Exit.then])
       refine bodyPost_ret (results_cell_tmp rfl _ _ (w.heap.size+1) _ _ _ du rfl (five_alloc q1' _ _ _ _ _ _) hu1 (by cases du<;>first | rfl | exact hu2) size_term) rfl ?_
       exact⟨below_five_alloc (desk_under hd2) (by omega) (by omega) _ _ _ _ _ _,Or.inr ⟨Tm.zero,by rw [HEQ.out,optK_stop hlt HX2.out];rfl,rfl,rfl⟩⟩
      ·rw [if_neg hbig] at hstep
       rw [hstep] at CALL
       have hbig':c≤4611686018427387904:=by omega
       clear hstep
       go_wp2_with (go_at_call 63;refine(refbinds_any _ _ _).mono ?_;rintro e w' ⟨rfl,rfl⟩)
       refine CALL.out.mono ?_
       intro e w2 hg
       obtain⟨⟨z,rfl⟩,hb2⟩:=hg.none
       have hd2:=desk_later hdk hb2
       have hs2:w.heap.size+1<w2.heap.size:=by have:=desk_size hd2;omega
       obtain⟨-,q1',-⟩:=desk_blocks hd2
       obtain⟨z0,z1,z2,z3,z4⟩:=five_cells q1'
       obtain⟨g0,g1,g2,g3,g4⟩:=five_free q1'
       clear hg hb2
       go_wp2
       (try simp only [Exit.inBlock,Exit.then])
       refine bodyPost_ret (results_cell_tmp rfl _ _ (w.heap.size+1) _ _ _ du rfl (five_alloc q1' _ _ _ _ _ _) hu1 (by cases du<;>first | rfl | exact hu2) size_term) rfl ?_
       exact⟨below_five_alloc (desk_under hd2) (by omega) (by omega) _ _ _ _ _ _,Or.inr ⟨Tm.zero,by rw [HEQ.out,optK_stop hlt HX2.out];rfl,rfl,rfl⟩⟩
     | some u =>
      rw [hx2] at CALL
      have hfu:=rlift_fine hk0 (HFI.out _ HM.out) hx2
      have HFU:=Lib.hid hfu
      have HX2:=Lib.hid hx2
      clear hx2 hfu
      by_cases hbig:4611686018427387904<c
      ·rw [if_pos hbig,Int.add_zero] at hstep
       rw [hstep] at CALL
       clear hstep
       go_wp2_with (go_at_call 63;refine(refbinds_any _ _ _).mono ?_;rintro e w' ⟨rfl,rfl⟩)
       refine CALL.out.mono ?_
       intro e w2 hg
       obtain⟨⟨s2,rfl,hl2⟩,hb2⟩:=hg.some
       obtain⟨a2,cap2,rfl,-,-⟩:=hl2.out
       have HL2:=Lib.hid hl2
       have HB2:=Lib.hid hb2
       clear hg hl2 hb2
       have hsB:wr.heap.size≤w2.heap.size:=HB2.out.size
       go_wp2_with (at_builtin;refine wpList_append_lies _ rfl _ _ 22 rfl (w.heap.size+3) 24 i0 _ 5 56 (by kernel_rfl) HI.out.1 HI.out.2.1 HI.out.2.2.1 HI.out.2.2.2 rfl (by decide) _ ps.length (cells5 ps) rfl (made_later (made_later (made_later HMD.out HB2.out) ((Below.refl _ _).alloc (Nat.le_refl _) _)) ((Below.refl _ _).alloc (Nat.le_refl _) _)).own ⟨w2.heap.size+1,0,none⟩ 1 1 (cells5 [(u,.slice a2 u.kids.length cap2)]) rfl rfl ?news ?one (by decide) ?max ?bytes ?base _ rfl ?next)
       case news=>exact news_new2 _ _ _ _ _
       case one=>intro v hv;simp [cells5] at hv;rcases hv with rfl | rfl | rfl | rfl | rfl<;>rfl
       case max=>have:=HPL.out;unfold maxLen;omega
       case bytes=>have:=HPL.out;omega
       case base=>simp;omega
       case next =>
        intro g cap3 w3 hown hgrow hat _
        have hpb:=push_after hdk HMD.out HFU.out HB2.out HL2.out _ _ hown hgrow hat
        clear hown hgrow hat
        go_wp2_with fail
        go_roundw
        case rel=>exact⟨q+1,ps++[(u,.slice a2 u.kids.length cap2)],_,rfl,hlt,by go_num,by rw [Hid,optK_next hlt HPS.out HX2.out];simp,hpb.1,hpb.2⟩
        case measure=>simp [intOf];omega
      ·rw [if_neg hbig] at hstep
       rw [hstep] at CALL
       have hbig':c≤4611686018427387904:=by omega
       clear hstep
       go_wp2_with (go_at_call 63;refine(refbinds_any _ _ _).mono ?_;rintro e w' ⟨rfl,rfl⟩)
       refine CALL.out.mono ?_
       intro e w2 hg
       obtain⟨⟨s2,rfl,hl2⟩,hb2⟩:=hg.some
       obtain⟨a2,cap2,rfl,-,-⟩:=hl2.out
       have HL2:=Lib.hid hl2
       have HB2:=Lib.hid hb2
       clear hg hl2 hb2
       have hsB:wr.heap.size≤w2.heap.size:=HB2.out.size
       go_wp2_with (at_builtin;refine wpList_append_lies _ rfl _ _ 22 rfl (w.heap.size+3) 24 i0 _ 5 56 (by kernel_rfl) HI.out.1 HI.out.2.1 HI.out.2.2.1 HI.out.2.2.2 rfl (by decide) _ ps.length (cells5 ps) rfl (made_later (made_later (made_later HMD.out HB2.out) ((Below.refl _ _).alloc (Nat.le_refl _) _)) ((Below.refl _ _).alloc (Nat.le_refl _) _)).own ⟨w2.heap.size+1,0,none⟩ 1 1 (cells5 [(u,.slice a2 u.kids.length cap2)]) rfl rfl ?news ?one (by decide) ?max ?bytes ?base _ rfl ?next)
       case news=>exact news_new2 _ _ _ _ _
       case one=>intro v hv;simp [cells5] at hv;rcases hv with rfl | rfl | rfl | rfl | rfl<;>rfl
       case max=>have:=HPL.out;unfold maxLen;omega
       case bytes=>have:=HPL.out;omega
       case base=>simp;omega
       case next =>
        intro g cap3 w3 hown hgrow hat _
        have hpb:=push_after hdk HMD.out HFU.out HB2.out HL2.out _ _ hown hgrow hat
        clear hown hgrow hat
        go_wp2_with fail
        go_roundw
        case rel=>exact⟨q+1,ps++[(u,.slice a2 u.kids.length cap2)],_,rfl,hlt,by go_num,by rw [Hid,optK_next hlt HPS.out HX2.out];simp,hpb.1,hpb.2⟩
        case measure=>simp [intOf];omega
    ·have:q=t.kids.length:=by omega
     subst this
     have hd2:=desk_set (v':=vv) hdk
     have hres:t.rlift k c=some (.mk t.k t.i t.j t.n (ps.map (·.1))):=by
      have:=HPS.out
      rw [List.take_length] at this
      rw [HEQ.out,this];rfl
     obtain⟨-,q1',-⟩:=desk_blocks hd2
     have hll:=made_lies hmade
     obtain⟨a2,cap2,rfl,-,-⟩:=hll.out
     simp only [List.length_map] at hd2 q1' hll
     go_wp2
     (try simp only [Exit.inBlock,Exit.then])
     refine bodyPost_ret (results_cell_tmp rfl _ _ (w.heap.size+1) _ _ _ du rfl (five_set q1') hu1 (by cases du<;>first | rfl | exact hu2) size_term) rfl ?_
     exact⟨below_five (desk_under hd2) (by omega) _ _ _ _ _,Or.inl ⟨_,_,hres,rfl,liesP_fives (liesP_set hll (by omega) (Nat.le_refl _) _) (by omega) (by omega) _ _ _ _ _⟩⟩
end Go.Proofs.Ytpdinlejmlbbeaa

namespace Go.Proofs.Ytpdinlejmlbbeaa
open Go.RowKit
theorem put5_below {B:Nat} {w w1:World} (h:Below B w w1) {g:Nat} (hg:B≤g) (o:Nat) (t:Tm) (s:Value):Below B w (put5 w1 g o t s):=by
 unfold put5
 exact((((h.setCell hg _).setCell hg _).setCell hg _).setCell hg _).setCell hg _
theorem open_free {w:World} {g:Nat} {cs:Array Value} {T:TypeId} (h:w.heap[g]? =some (.cells cs T (0,0))) (o:Nat) :
 w.frozen? ⟨g,o,none⟩=false∧w.frozen? ⟨g,o+1,none⟩=false∧w.frozen? ⟨g,o+2,none⟩=false∧w.frozen? ⟨g,o+3,none⟩=false∧w.frozen? ⟨g,o+4,none⟩=false∧w.frozen? ⟨g,o+5,none⟩=false :=
 ⟨open_unfrozen h _,open_unfrozen h _,open_unfrozen h _,open_unfrozen h _,open_unfrozen h _,open_unfrozen h _⟩
theorem take_set_map {α β:Type} (f:β→α) {xs:List β} {l:List α} {k:Nat} (hl:xs.length=l.length) (hk:k<l.length) (h:(xs.map f).take k=l.take k) {y:β} (hy:f y=l[k]):((xs.set k y).map f).take (k+1)=l.take (k+1):=by
 have hk1:k<(xs.set k y).length:=by simp;omega
 rw [List.take_succ_eq_append_getElem (by simpa using hk1),List.take_succ_eq_append_getElem hk]
 congr 1
 ·rw [←h];apply List.ext_getElem?;intro i
  by_cases hi:i<k
  ·simp [List.getElem?_take_of_lt hi,List.getElem?_set_ne (Nat.ne_of_gt hi)]
  ·simp [List.getElem?_take,hi]
 ·simp [hy]
end Go.Proofs.Ytpdinlejmlbbeaa

namespace Go.Proofs.Ytpdinlejmlbbeaa
open Go.RowKit
set_option maxRecDepth 20000 in
set_option maxHeartbeats 4000000 in
theorem copies_of (l:List Tm) (ih:∀ x ∈ l,∀ (w:World) (s:Value),Lies w x.kids s→Calls Try.prog 46 #[tv x s] w (Makes x w))
 (w:World) (s:Value) (hl:Lies w l s) (hlen:l.length≤10000000):Calls Try.prog 59 #[s] w (MakesAll l w):=by
 obtain⟨a,cap,S,rfl,hc,hmx,hf,hn,hk⟩:=hl.out
 unfold maxLen at hmx
 obtain⟨i0,hi,hz0,hz1,hz2⟩:=info_parts info_term
 have IH:=Lib.hid ih
 have HN:=Lib.hid hn
 have HK:=Lib.hid hk
 have HF:=Lib.hid hf
 have HI:=Lib.hid (And.intro hi (And.intro hz0 (And.intro hz1 hz2)))
 clear ih hn hk hl hf hi hz0 hz1 hz2
 by_cases h0:l.length=0
 ·obtain rfl:l=[]:=List.eq_nil_of_length_eq_zero h0
  go_enter Try.func59,Try.ntmps59
  go_wp2
  go_ret
  exact⟨_,rfl,liesP_nil _ _,Below.refl _ _⟩
 have e1:((l.length:Int)==0)=false:=by simpa using h0
 have e2:(l.length==0)=false:=by simpa using h0
 clear h0
 go_enter Try.func59,Try.ntmps59
 go_wp2_with (at_make;refine wpList_make_full _ rfl _ _ 22 rfl w.heap.size 24 i0 _ 5 (by kernel_rfl) HI.out.1 HI.out.2.1 HI.out.2.2.1 _ _ _ _ l.length rfl rfl rfl rfl ?bytes ?max ?base ?next)
 case bytes=>rw [HI.out.2.2.2];omega
 case max=>unfold maxLen;omega
 case base=>exact Nat.le_refl _
 case next =>
 intro w2 hown hgrow
 have hful:=full_made hown
 have hbel:Below w.heap.size w w2:=(Below.refl _ _).grown hgrow (Nat.le_refl _) (by simp)
 obtain⟨g,hg⟩:∃ g,w.heap.size=g:=⟨_,rfl⟩
 have HGE:=Lib.hid (show w.heap.size≤g by omega)
 (try rw [hg] at hful)
 (try rw [hg])
 have hful':Full w.heap.size w2 g (List.replicate l.length (Tm.zero,.slice none 0 0)):=by rw [hg];exact hful
 clear hown hgrow hful e1 e2
 have hbel':Below w.heap.size w w2:=hbel
 clear hbel
 have HG:=Lib.hid hg
 clear hg
 go_wp2_with fail
 go_loopw [14] (fun iv wr=>∃ (k:Nat) (xs:List (Tm × Value)),k≤l.length∧iv=.int .i64 k∧Hid (xs.length=l.length)∧Hid ((xs.map (·.1)).take k=l.take k)∧Full w.heap.size wr g xs∧Below w.heap.size w wr) (fun iv _=>l.length-(intOf iv).toNat)
 case atStart=>exact⟨0,_,Nat.zero_le _,rfl,List.length_replicate,rfl,hful',hbel'⟩
 case round =>
  clear hful' hbel'
  obtain⟨k,xs,hk,rfl,hxl,hxs,hfu,hb⟩:=hrel
  by_cases hlt:k<l.length
  ·obtain⟨b,o,rfl,hx⟩:=HN.out k hlt
   obtain⟨x0,x1,x2,x3,x4⟩:=hx.below hb hx.lt
   have hq:=(HK.out k hlt).keep hb
   obtain⟨a',cap',S',hS,-⟩:=hq.out
   rw [hS] at x4 hq
   have HXK:=Lib.hid (show k<xs.length by have:=hxl.out;omega)
   have HM:=Lib.hid (List.getElem_mem hlt)
   have hV:Below wr.heap.size wr (wr.alloc (.cells #[.int .i64 l[k].k,.int .i64 l[k].i,.int .i64 l[k].j,.int .i64 l[k].n,.slice a' l[k].kids.length cap'] 24)):=(Below.refl _ _).alloc (Nat.le_refl _) _
   have hqV:=hq.keep hV
   have HFV:=Lib.hid (hfu.later hV)
   have HKV:=Lib.hid (below_call hb hV hb.size)
   have HW:=Lib.hid hb.size
   clear hS hq hV hfu hb
   go_wp2_with fail
   refine(IH.out _ HM.out _ _ hqV).mono ?_
   generalize wr.alloc (.cells #[.int .i64 l[k].k,.int .i64 l[k].i,.int .i64 l[k].j,.int .i64 l[k].n,.slice a' l[k].kids.length cap'] 24)=V at HFV HKV hqV ⊢
   rintro ee wn ⟨s2,rfl,hl2,hbn⟩
   obtain⟨a2,cap2,rfl,-,-⟩:=hl2.out
   have hfn:=HFV.out.later hbn
   have HL2:=Lib.hid (HFV.out.fresh HKV.out.size hl2)
   have HKN:=Lib.hid (below_call HKV.out hbn HKV.out.size)
   obtain⟨z0,z1,z2,z3,z4⟩:=hfn.node k HXK.out
   obtain⟨cs,hcs⟩:=hfn.open'
   obtain⟨r0,r1,r2,r3,r4,-⟩:=open_free hcs (k * 5)
   have HFN:=Lib.hid hfn
   clear hfn hcs hbn hl2 hqV x0 x1 x2 x3 x4
   go_wp2_with fail
   have hFN:=HFN.out.fill (t:=l[k]) HXK.out (HF.out _ HM.out) HL2.out
   have hkE:=put5_below HKN.out HGE.out (k * 5) l[k] (.slice a2 l[k].kids.length cap2)
   clear z0 z1 z2 z3 z4 r0 r1 r2 r3 r4
   go_roundw
   case rel=>exact⟨k+1,xs.set k (l[k],.slice a2 l[k].kids.length cap2),by omega,by go_num,by show _=_;rw [List.length_set];exact hxl.out,take_set_map _ hxl.out hlt hxs.out rfl,hFN,hkE⟩
   case measure=>simp [intOf];omega
  ·obtain rfl:k=l.length:=by omega
   have hxs':xs.map (·.1)=l:=by
    have h:=hxs.out
    rw [List.take_of_length_le (by simp [hxl.out]),List.take_of_length_le (Nat.le_refl _)] at h
    exact h
   have hres:=hfu.lies (cap:=l.length) (by rw [hxl.out];exact Nat.le_refl _) (by unfold maxLen;omega)
   rw [hxs',hxl.out] at hres
   go_wp2_with fail
   go_ret
   exact⟨_,rfl,hres,hb⟩
set_option maxRecDepth 20000 in
set_option maxHeartbeats 4000000 in
theorem copy_big (t:Tm):∀ (w:World) (s:Value),Lies w t.kids s→t.size≤10000000→Calls Try.prog 46 #[tv t s] w (Makes t w):=by
 induction t using Tm.ind with
 | h t ih =>
  intro w s hl hsz
  obtain⟨a,cap,S,rfl,hc,hm,hf,hn,hk⟩:=hl.out
  rw [t.size_eq] at hsz
  have CP:∀ (w':World) (s':Value),Lies w' t.kids s'→Calls Try.prog 59 #[s'] w' (MakesAll t.kids w'):=fun w' s' h'=>copies_of t.kids (fun x hx w2 s2 h2=>ih x hx w2 s2 h2 (by have:=size_mem _ x hx;omega)) w' s' h' (by have:=len_sizes t.kids;omega)
  unfold tv
  unfold maxLen at hm
  obtain⟨du,hu1,hu2⟩:=under_term
  have HL:=Lib.hid hl
  replace CP:=Lib.hid CP
  have H0:=boxes_start w t (.slice a t.kids.length cap)
  clear ih hn hk hf hl
  go_enter Try.func46,Try.ntmps46
  go_wp2_with fail
  refine(CP.out _ _ (boxes_lies H0 HL.out)).mono ?_
  generalize (w.alloc (.cells #[.int .i64 t.k,.int .i64 t.i,.int .i64 t.j,.int .i64 t.n,.slice a t.kids.length cap] 24)).alloc (.cells #[.int .i64 0,.int .i64 0,.int .i64 0,.int .i64 0,.slice none 0 0] 24)=V at H0 ⊢
  rintro ee wn ⟨s2,rfl,hl2,hb2⟩
  obtain⟨a2,cap2,rfl,-,-⟩:=hl2.out
  have hs:=Below.size H0
  have hh:=boxes_call H0 hb2
  have hl3:LiesP wn (Own (w.heap.size+2) wn) t.kids (.slice a2 t.kids.length cap2):=hl2.from (by simpa using hs)
  have hbx:=boxes_block hh
  have hbo:wn.heap[w.heap.size]? =some (boxOf t (.slice a t.kids.length cap)):=by
   rw [Below.block hh _ (by omega),Below.heap_alloc _ _ _ (by simp)];exact alloc_new _ _
  obtain⟨x0,x1,x2,x3,x4,z0,z1,z2,z3,z4,f0,f1,f2,f3,f4⟩:=boxes_cells hh
  obtain⟨q0,q1,q2,q3,q4⟩:=five_free hbo
  have HL3:=Lib.hid hl3
  have HBX:Hid ((wn.setCell ⟨w.heap.size,4,none⟩ (.slice a2 t.kids.length cap2)).heap[w.heap.size+1]? =some (.cells #[.int .i64 0,.int .i64 0,.int .i64 0,.int .i64 0,.slice none 0 0] 24 (0,0))):=(Below.heap_setCell _ _ _ _ (by show w.heap.size+1≠w.heap.size;omega)).trans hbx
  have HBL:=Lib.hid (held_below (boxes_held hh))
  clear hl2 hb2 hl3 hbx hbo hh hs H0
  go_wp2
  refine bodyPost_ret (results_cell_row rfl _ _ (w.heap.size+1) _ _ _ du rfl (five_set HBX.out) hu1 (by cases du<;>first | rfl | exact hu2) size_term) rfl ?_
  refine⟨_,rfl,?_,?_⟩
  ·exact liesP_fives (liesP_set HL3.out (by omega) (Nat.le_refl _) _) (by omega) (by omega) _ _ _ _ _
  ·exact below_five (HBL.out.setCell (Nat.le_refl _) _) (by omega) _ _ _ _ _
theorem copy_any (t:Tm) (w:World) (s:Value) (hl:Lies w t.kids s) (h:t.size≤1000000):Calls Try.prog 46 #[tv t s] w (Makes t w):=copy_big t w s hl (by omega)
end Go.Proofs.Ytpdinlejmlbbeaa

namespace Go.Proofs.Ytpdinlejmlbbeaa
open Go.RowKit
set_option maxRecDepth 20000 in
set_option maxHeartbeats 4000000 in
theorem copyR_any (t:Tm):∀ (w:World) (s:Value),Lies w t.kids s→t.rightB=true→Calls Try.prog 46 #[tv t s] w (Makes t w):=by
 induction t using Tm.ind with
 | h t ih =>
  intro w s hl hr
  obtain⟨a,cap,S,rfl,hc,hm,hf,hn,hk⟩:=hl.out
  have CP:∀ (w':World) (s':Value),Lies w' t.kids s'→Calls Try.prog 59 #[s'] w' (MakesAll t.kids w'):=fun w' s' h'=>copies_of t.kids (fun x hx w2 s2 h2=>ih x hx w2 s2 h2 (t.right_kids hr x hx)) w' s' h' (by have:=right_len hr;omega)
  unfold tv
  unfold maxLen at hm
  obtain⟨du,hu1,hu2⟩:=under_term
  have HL:=Lib.hid hl
  replace CP:=Lib.hid CP
  have H0:=boxes_start w t (.slice a t.kids.length cap)
  clear ih hn hk hf hl hr
  go_enter Try.func46,Try.ntmps46
  go_wp2_with fail
  refine(CP.out _ _ (boxes_lies H0 HL.out)).mono ?_
  generalize (w.alloc (.cells #[.int .i64 t.k,.int .i64 t.i,.int .i64 t.j,.int .i64 t.n,.slice a t.kids.length cap] 24)).alloc (.cells #[.int .i64 0,.int .i64 0,.int .i64 0,.int .i64 0,.slice none 0 0] 24)=V at H0 ⊢
  rintro ee wn ⟨s2,rfl,hl2,hb2⟩
  obtain⟨a2,cap2,rfl,-,-⟩:=hl2.out
  have hs:=Below.size H0
  have hh:=boxes_call H0 hb2
  have hl3:LiesP wn (Own (w.heap.size+2) wn) t.kids (.slice a2 t.kids.length cap2):=hl2.from (by simpa using hs)
  have hbx:=boxes_block hh
  have hbo:wn.heap[w.heap.size]? =some (boxOf t (.slice a t.kids.length cap)):=by
   rw [Below.block hh _ (by omega),Below.heap_alloc _ _ _ (by simp)];exact alloc_new _ _
  obtain⟨x0,x1,x2,x3,x4,z0,z1,z2,z3,z4,f0,f1,f2,f3,f4⟩:=boxes_cells hh
  obtain⟨q0,q1,q2,q3,q4⟩:=five_free hbo
  have HL3:=Lib.hid hl3
  have HBX:Hid ((wn.setCell ⟨w.heap.size,4,none⟩ (.slice a2 t.kids.length cap2)).heap[w.heap.size+1]? =some (.cells #[.int .i64 0,.int .i64 0,.int .i64 0,.int .i64 0,.slice none 0 0] 24 (0,0))):=(Below.heap_setCell _ _ _ _ (by show w.heap.size+1≠w.heap.size;omega)).trans hbx
  have HBL:=Lib.hid (held_below (boxes_held hh))
  clear hl2 hb2 hl3 hbx hbo hh hs H0
  go_wp2
  refine bodyPost_ret (results_cell_row rfl _ _ (w.heap.size+1) _ _ _ du rfl (five_set HBX.out) hu1 (by cases du<;>first | rfl | exact hu2) size_term) rfl ?_
  refine⟨_,rfl,?_,?_⟩
  ·exact liesP_fives (liesP_set HL3.out (by omega) (Nat.le_refl _) _) (by omega) (by omega) _ _ _ _ _
  ·exact below_five (HBL.out.setCell (Nat.le_refl _) _) (by omega) _ _ _ _ _
theorem copiesR_any (l:List Tm) (w:World) (s:Value) (hl:Lies w l s) (hp:∀ x ∈ l,x.plainB=true) (hlen:l.length≤1000):Calls Try.prog 59 #[s] w (MakesAll l w) :=
 copies_of l (fun x hx w2 s2 h2=>copyR_any x w2 s2 h2 (plain_right (hp x hx))) w s hl (by omega)
end Go.Proofs.Ytpdinlejmlbbeaa

namespace Go.Proofs.Ytpdinlejmlbbeaa
open Go.RowKit
theorem put_plain {t u:Tm} (ht:t.plainB=true) (hu:u.plainB=true):(t.putB u).plainB=true∨t.putB u=.zero:=by
 unfold Tm.putB
 split
 ·cases h:t.putG (gPut u) 0 (decide (12<t.k)) with
  | none=>exact Or.inr rfl
  | some x =>
   left
   have hi:=gPut_bare_indep (plain_right hu)
   rw [plain_bare u hu] at hi
   rw [putG_indep (gPut u) hi t 0 _ true] at h
   exact putG_plainT (gPut u) (gPut_plain (plain_right hu)) t 0 x (Int.le_refl _) ht h
 ·exact Or.inr rfl
theorem node_plain {k:Int} {l:List Tm} (hk:(k==1||(k==2||(decide (13≤k)&&decide (k≤23))))=true) (hl:kidsN k 0=l.length) (hn:numbersN k 0 0 0=true) (hp:∀ x ∈ l,x.plainB=true):(nodeT k l).plainB=true:=by
 have e:=plainL_plains hp
 rw [Tm.plainB_eq]
 exact Bool.and_eq_true_iff.2 ⟨hk,Bool.and_eq_true_iff.2 ⟨Bool.and_eq_true_iff.2 ⟨beq_iff_eq.2 hl.symm,hn⟩,e⟩⟩
theorem lev3_eq (i:Int):levN 3 i=(decide (0≤i)&&decide (i≤997)):=rfl
theorem fmR_pl {g:Fm} (H:fmR g=true):∀ x ∈ [g.a,g.c,g.b,g.d,g.e,g.f],x.plainB=true:=by unfold fmR at H;simp only [Bool.and_eq_true] at H;exact plainL_iff.1 H.2
theorem copyZ_any (w:World) (s:Value) (hl:Lies w Tm.zero.kids s):Calls Try.prog 46 #[tv .zero s] w (Makes .zero w):=copy_any .zero w s hl (by decide)
theorem copyPZ_any (t:Tm) (w:World) (s:Value) (hl:Lies w t.kids s) (h:t.plainB=true∨t=.zero):Calls Try.prog 46 #[tv t s] w (Makes t w):=by
 rcases h with h | rfl
 ·exact copyR_any t w s hl (plain_right h)
 ·exact copyZ_any w s hl
theorem plain_app {l1 l2:List Tm} (h1:∀ x ∈ l1,x.plainB=true) (h2:∀ x ∈ l2,x.plainB=true):∀ x ∈ l1++l2,x.plainB=true:=fun x hx=>(List.mem_append.1 hx).elim (h1 x) (h2 x)
theorem app_len {l1 l2:List Tm} (h1:l1.length≤100) (h2:l2.length≤900):(l1++l2).length≤1000:=by rw [List.length_append];omega
theorem app_len2 {l1 l2:List Tm} (h1:l1.length≤100) (h2:l2.length≤900):l1.length+l2.length≤1000000:=by omega
theorem six_fine {n:Int} {g:Fm} {l:List Tm} (hn:I64 n) (hg:g.fine):(sixT n g l).fine:=use_fineJ hn hg.1 hg.2.1
end Go.Proofs.Ytpdinlejmlbbeaa

namespace Go.Proofs.Ytpdinlejmlbbeaa
open Go.RowKit
def SeesN (V:World) (_:Nat) (w':World):Prop:=∀ k,k<V.heap.size→w'.heap[k]? =V.heap[k]?
theorem seesN_kept {V W:World} (g:Nat) (h:Kept V W):SeesN V g W:=fun k hk=>Below.block h k hk
theorem partN_cell {V:World} {r g:Nat} {C:Array Value} {T:TypeId} {fr:Nat × Nat} (h:V.heap[g]? =some (.cells C T fr)) (_:True) (o:Nat) (v:Value) (hv:C[o]? =some v):∀ w',SeesN V r w'→w'.cell? ⟨g,o,none⟩=some v:=fun w' hk=>by
 have hb:w'.heap[g]? =some (.cells C T fr):=(hk g (block_lt h)).trans h
 rw [cell_of_row w' g o C T fr hb];exact hv
theorem alloc1v {V0 w V:World} {o0:Obj} (hk:Kept V0 w) (h:w.alloc o0=V):∃ g,w.heap.size=g∧Hid (Kept w V)∧Hid (V.heap[g]? =some o0)∧Hid (V.heap.size=w.heap.size+1)∧Hid (Kept V0 V)∧Hid (V0.heap.size≤g):=by
 obtain⟨a,b,c⟩:=alloc1 h
 exact⟨_,rfl,a,b,c,kept_trans hk a,Below.size hk⟩
theorem par_newg {w:World} {n:Nat} {X:List Nat} {P:Nat→Prop} {g:Nat} (hn:n≤g) (hX:g ∉ X):Par w n X P g:=Or.inr ⟨hn,hX⟩
theorem q_row2 {V:World} {Q:Nat→Prop} {g:Nat} {T:TypeId} {fr:Nat × Nat} {t0 t1:Tm} {s0 s1:Value} (h:V.heap[g]? =some (.cells #[.int .i64 t0.k,.int .i64 t0.i,.int .i64 t0.j,.int .i64 t0.n,s0,.int .i64 t1.k,.int .i64 t1.i,.int .i64 t1.j,.int .i64 t1.n,s1] T fr)) (f0:t0.fine) (l0:LiesQ V Q t0.kids s0) (f1:t1.fine) (l1:LiesQ V Q t1.kids s1) (hQ:Q g):LiesQ V Q [t0,t1] (.slice (some ⟨g,0,none⟩) 2 2) :=
 q_row [(t0,s0),(t1,s1)] _ rfl h hQ (List.forall_mem_cons.2 ⟨⟨f0,l0⟩,(List.forall_mem_cons.2 ⟨⟨f1,l1⟩,(fun _ h=>nomatch h)⟩)⟩) (Nat.le_of_ble_eq_true rfl)
theorem q_row6 {V:World} {Q:Nat→Prop} {g:Nat} {T:TypeId} {fr:Nat × Nat} {t0 t1 t2 t3 t4 t5:Tm} {s0 s1 s2 s3 s4 s5:Value} (h:V.heap[g]? =some (.cells #[.int .i64 t0.k,.int .i64 t0.i,.int .i64 t0.j,.int .i64 t0.n,s0,.int .i64 t1.k,.int .i64 t1.i,.int .i64 t1.j,.int .i64 t1.n,s1,.int .i64 t2.k,.int .i64 t2.i,.int .i64 t2.j,.int .i64 t2.n,s2,.int .i64 t3.k,.int .i64 t3.i,.int .i64 t3.j,.int .i64 t3.n,s3,.int .i64 t4.k,.int .i64 t4.i,.int .i64 t4.j,.int .i64 t4.n,s4,.int .i64 t5.k,.int .i64 t5.i,.int .i64 t5.j,.int .i64 t5.n,s5] T fr)) (f0:t0.fine) (l0:LiesQ V Q t0.kids s0) (f1:t1.fine) (l1:LiesQ V Q t1.kids s1) (f2:t2.fine) (l2:LiesQ V Q t2.kids s2) (f3:t3.fine) (l3:LiesQ V Q t3.kids s3) (f4:t4.fine) (l4:LiesQ V Q t4.kids s4) (f5:t5.fine) (l5:LiesQ V Q t5.kids s5) (hQ:Q g):LiesQ V Q [t0,t1,t2,t3,t4,t5] (.slice (some ⟨g,0,none⟩) 6 6) :=
 q_row [(t0,s0),(t1,s1),(t2,s2),(t3,s3),(t4,s4),(t5,s5)] _ rfl h hQ (List.forall_mem_cons.2 ⟨⟨f0,l0⟩,(List.forall_mem_cons.2 ⟨⟨f1,l1⟩,(List.forall_mem_cons.2 ⟨⟨f2,l2⟩,(List.forall_mem_cons.2 ⟨⟨f3,l3⟩,(List.forall_mem_cons.2 ⟨⟨f4,l4⟩,(List.forall_mem_cons.2 ⟨⟨f5,l5⟩,(fun _ h=>nomatch h)⟩)⟩)⟩)⟩)⟩)⟩) (Nat.le_of_ble_eq_true rfl)
end Go.Proofs.Ytpdinlejmlbbeaa

namespace Go.Proofs.Ytpdinlejmlbbeaa
open Go.RowKit
theorem cells5_from {w:World} {Q:Nat→Prop} {l:List Tm} {S:Nat→Value} {b o:Nat} (ps:List (Tm × Value)) (hpl:ps.length=l.length) (hpg:∀ i (h:i<l.length) (h':i<ps.length),ps[i]=(l[i],S i))
 (hn:∀ i (h:i<l.length),∃ b' o',some (⟨b,o,none⟩:Addr)=some ⟨b',o',none⟩∧Q b'∧Node w b' (o'+i * 5) l[i] (S i)):∀ j u,(cells5 ps)[j]? =some u→w.cell? ((⟨b,o,none⟩:Addr).add j)=some u:=by
 intro j u hu
 have hj:j<(cells5 ps).length:=(List.getElem?_eq_some_iff.1 hu).1
 rw [cells5_length] at hj
 have hi:j / 5<ps.length:=by omega
 have hq:j % 5<5:=Nat.mod_lt _ (by decide)
 have e:=cells5_get ps (j / 5) hi (j % 5) hq
 rw [show j / 5 * 5+j % 5=j by omega,hu] at e
 obtain⟨b',o',h1,-,h2⟩:=hn (j / 5) (by omega)
 cases h1
 rw [hpg (j / 5) (by omega) hi] at e
 have ea:(⟨b,o,none⟩:Addr).add j=⟨b,o+j / 5 * 5+j % 5,none⟩:=by
  rw [Addr.add_lit]
  congr 1
  omega
 rw [ea,e]
 generalize j % 5=q at hq
 match q,hq with
 | 0,_=>exact h2.c0
 | 1,_=>exact h2.c1
 | 2,_=>exact h2.c2
 | 3,_=>exact h2.c3
 | 4,_=>exact h2.c4
theorem cells5_one:∀ (ps:List (Tm × Value)),(∀ p ∈ ps,p.2.oneCell'=true)→∀ u ∈ cells5 ps,u.oneCell'=true
 | [],_,u,hu=>by cases hu
 | (t,s)::r,h,u,hu=>by
  simp only [cells5,List.mem_cons] at hu
  rcases hu with rfl | rfl | rfl | rfl | rfl | hu
  ·rfl
  ·rfl
  ·rfl
  ·rfl
  ·exact h (t,u) (by simp)
  ·exact cells5_one r (fun p hp=>h p (List.mem_cons_of_mem _ hp)) u hu
theorem run_append_list {w:World} {Q:Nat→Prop} (ty:TypeId) (l1 l2:List Tm) (s1 s2:Value) (h1:LiesQ w Q l1 s1) (h2:LiesQ w Q l2 s2) (hs:∃ a,s1=.slice a l1.length l1.length) (hl1:0<l1.length) (hm:l1.length+l2.length≤1000000) :
 ∃ s' w',(Builtin.append_ #[22,22] ty #[s1,s2]).run Try.prog w=.ok s' w'∧LiesQ w' (fun b=>Q b∨w.heap.size≤b) (l1++l2) s'∧Kept w w':=by
 obtain⟨a1,cap1,S1,rfl,hc1,hx1,hf1,hn1,hk1⟩:=h1.out
 obtain⟨a,e⟩:=hs
 injection e with e1 e2 e3
 subst e1 e3
 obtain⟨a2,cap2,S2,rfl,hc2,hx2,hf2,hn2,hk2⟩:=h2.out
 obtain⟨i0,hi,hz0,hz1,hz2⟩:=info_parts info_term
 have ht:Try.prog.underlying 22=some (.slice 24):=by kernel_rfl
 by_cases hl:l2=[]
 ·subst hl
  have src:Src Try.prog i0.size 22 (.slice a2 ([]:List Tm).length cap2) 0 [] w:=by
   cases a2 with
   | none=>exact Src.ofNil w ht cap2
   | some ad=>exact Src.ofSlice w ht ad 0 cap2 [] (by simp) (by simp) (by simp)
  refine⟨_,w,run_append_nothing w _ _ ty _ i0 ht hi _ _ _ hc1 _ src,?_,kept_refl w⟩
  rw [List.append_nil]
  exact h1.wide (fun _ h=>Or.inl h)
 ·have hpos:0<l2.length:=List.length_pos_iff.2 hl
  obtain⟨b2,o2,rfl,-⟩:=hn2 0 hpos
  obtain⟨b1,o1,rfl,-⟩:=hn1 0 hl1
  obtain⟨ps1,q1a,q1b,q1c⟩:=pairs_of l1 S1
  obtain⟨ps2,q2a,q2b,q2c⟩:=pairs_of l2 S2
  have one2:∀ u ∈ cells5 ps2,u.oneCell'=true:=cells5_one ps2 (fun p hp=>by
   obtain⟨j,hj,rfl⟩:=List.getElem_of_mem hp
   rw [q2c j (by omega) hj]
   obtain⟨a',c',S',e',-⟩:=(hk2 j (by omega)).out
   show(S2 j).oneCell'=true
   rw [e'];rfl)
  obtain⟨v',w',hr,hown,hg⟩:=run_append_arg_grows (P:=Try.prog) w 22 ty 24 i0 _ 5 56 ht hi hz0 hz1 hz2 rfl (by decide) ⟨b1,o1,none⟩ l1.length l1.length (cells5 ps1) (by rw [cells5_length,q1b]) (cells5_from ps1 q1b q1c hn1) ⟨b2,o2,none⟩ l2.length cap2 (cells5 ps2) (by rw [cells5_length,q2b]) (cells5_from ps2 q2b q2c hn2) (by omega) (by unfold maxLen;omega) (by omega)
  have hk:Kept w w':=Below.grown (kept_refl w) hg (Nat.le_refl _) (fun g h=>by cases h)
  refine⟨v',w',hr,?_,hk⟩
  rw [←cells5_append,show l1.length+l2.length=(ps1++ps2).length by simp [q1b,q2b]] at hown
  have kid:∀ p ∈ ps1++ps2,p.1.fine∧LiesQ w' (fun b=>Q b∨w.heap.size≤b) p.1.kids p.2:=fun p hp=>by
   rcases List.mem_append.1 hp with hp | hp
   ·obtain⟨j,hj,rfl⟩:=List.getElem_of_mem hp
    rw [q1c j (by omega) hj]
    exact⟨hf1 _ (List.getElem_mem (by omega)),((hk1 j (by omega)).later hk).wide (fun _ h=>Or.inl h)⟩
   ·obtain⟨j,hj,rfl⟩:=List.getElem_of_mem hp
    rw [q2c j (by omega) hj]
    exact⟨hf2 _ (List.getElem_mem (by omega)),((hk2 j (by omega)).later hk).wide (fun _ h=>Or.inl h)⟩
  have:=owns_lies hown (Q:=fun b=>Q b∨w.heap.size≤b) (fun g hg _=>Or.inr hg) kid
  rw [List.map_append,q1a,q2a] at this
  exact this
theorem wp_append_list {o:Oper} {a:Act} {w:World} {K:Act→World→Prop} {E:Exit→Act→World→Prop} {Q:Nat→Prop} (s x:Operand)
 (ho:o.op=.call {callee:=.builtin .append,args:=#[s,x],argTypes:=#[22,22] }) (l1 l2:List Tm) (s1 s2:Value) (hs:a.eval s=s1) (hx:a.eval x=s2)
 (h1:LiesQ w Q l1 s1) (h2:LiesQ w Q l2 s2) (hc:∃ a,s1=.slice a l1.length l1.length) (hl1:0<l1.length) (hm:l1.length+l2.length≤1000000)
 (h:∀ s' w',LiesQ w' (fun b=>Q b∨w.heap.size≤b) (l1++l2) s'→Kept w w'→K (a.put o.dst s') w'):o.wp Try.prog a w K E:=by
 obtain⟨s',w',hr,h3,h4⟩:=run_append_list o.type l1 l2 s1 s2 h1 h2 hc hl1 hm
 unfold Oper.wp execOp
 simp only [ho,resolve,invoke,builtin,Sem.run_bind,Sem.run_pure,Result.andThen_ok,List.map_toArray,List.map_cons,List.map_nil,hs,hx,hr]
 exact h s' w' h3 h4
theorem step_append_list {ops:Array Oper} {o:Oper} {a:Act} {w:World} {K:Act→World→Prop} {E:Exit→Act→World→Prop} {F:Prop} {Q:Nat→Prop} (hgd:o.guard=none) (s x:Operand)
 (ho:o.op=.call {callee:=.builtin .append,args:=#[s,x],argTypes:=#[22,22] }) (l1 l2:List Tm) (s1 s2:Value) (hs:a.eval s=s1) (hx:a.eval x=s2)
 (h1:LiesQ w Q l1 s1) (h2:LiesQ w Q l2 s2) (hc:∃ a,s1=.slice a l1.length l1.length) (hl1:0<l1.length) (hm:l1.length+l2.length≤1000000)
 (h:∀ s' w',LiesQ w' (fun b=>Q b∨w.heap.size≤b) (l1++l2) s'→Kept w w'→K (a.put o.dst s') w'):if Region.wanted o (yielded ops a.tmps)=true then Oper.wp Try.prog o a w K E else F:=by
 have hw:Region.wanted o (yielded ops a.tmps)=true:=by simp [Region.wanted,hgd]
 rw [if_pos hw]
 exact wp_append_list s x ho l1 l2 s1 s2 hs hx h1 h2 hc hl1 hm h
end Go.Proofs.Ytpdinlejmlbbeaa

namespace Go.Proofs.Ytpdinlejmlbbeaa
open Go.RowKit
theorem via_joinCC {J K:World→Nat→Nat→Prop} {A:Prop} (h1:(∀ x0 x1 x2,K x0 x1 x2→J x0 x1 x2)→A) (h2:∀ x0 x1 x2,K x0 x1 x2→J x0 x1 x2):A:=h1 h2
theorem via_joinCTACC {J K:World→Nat→Tm→Option Addr→Nat→Nat→Prop} {A:Prop} (h1:(∀ x0 x1 x2 x3 x4 x5,K x0 x1 x2 x3 x4 x5→J x0 x1 x2 x3 x4 x5)→A) (h2:∀ x0 x1 x2 x3 x4 x5,K x0 x1 x2 x3 x4 x5→J x0 x1 x2 x3 x4 x5):A:=h1 h2
end Go.Proofs.Ytpdinlejmlbbeaa

namespace Go.Proofs.Ytpdinlejmlbbeaa
open Go
section
variable {P:Program} {ops:Array Oper} {Q:Exit→Act→World→Prop} {md:Region.Mode} {S:World→Prop} {k0:Nat}
def wpAnyX (P:Program) (md:Region.Mode) (ops:Array Oper) (Q:Exit→Act→World→Prop) (S:World→Prop) (k0:Nat):Nat→Array Bool→Act→World→Prop
 | 0,listed,a,w=>Region.ready md ops listed=[]∧Q .normal a w
 | fuel+1,listed,a,w =>
  (Region.ready md ops listed=[]→Q .normal a w) ∧
  ∀ i ∈ Region.ready md ops listed,wpOp P ops Q i (fun a' w'=>((listed.setIfInBounds i true).getD k0 true=false→S w')∧wpAnyX P md ops Q S k0 fuel (listed.setIfInBounds i true) a' w') a w
def AllReadyX (P:Program) (md:Region.Mode) (ops:Array Oper) (Q:Exit→Act→World→Prop) (S:World→Prop) (k0:Nat) (fuel:Nat) (listed:Array Bool) (a:Act) (w:World) (rs:List Nat):Prop :=
 ∀ i ∈ rs,wpOp P ops Q i (fun a' w'=>((listed.setIfInBounds i true).getD k0 true=false→S w')∧wpAnyX P md ops Q S k0 fuel (listed.setIfInBounds i true) a' w') a w
theorem AllReadyX.nil {fuel:Nat} {listed:Array Bool} {a:Act} {w:World}:AllReadyX P md ops Q S k0 fuel listed a w []:=fun _ h=>by cases h
theorem AllReadyX.cons {fuel:Nat} {listed:Array Bool} {a:Act} {w:World} {i:Nat} {o:Oper} {rs:List Nat} (ho:ops[i]? =some o)
 (h:∀ K':Act→World→Prop,Shut (∀ a w,((listed.setIfInBounds i true).getD k0 true=false→S w)→(((listed.setIfInBounds i true).getD k0 true=false→S w)→wpAnyX P md ops Q S k0 fuel (listed.setIfInBounds i true) a w)→K' a w)→if Region.wanted o (yielded ops a.tmps)=true then Oper.wp P o a w K' Q else K' (a.put o.dst undef) w)
 (hs:AllReadyX P md ops Q S k0 fuel listed a w rs):AllReadyX P md ops Q S k0 fuel listed a w (i::rs):=fun j hj=>by
 rcases List.mem_cons.1 hj with rfl | hj
 ·exact wpOp_step ho (fun K' hK=>h K' (fun a w hS hW=>hK a w ⟨hS,hW hS⟩))
 ·exact hs j hj
end
end Go.Proofs.Ytpdinlejmlbbeaa

namespace Go.Proofs.Ytpdinlejmlbbeaa
open Go.RowKit
set_option maxRecDepth 20000 in
set_option maxHeartbeats 4000000 in
theorem clevel_any (i:Int) (w:World) (hri:I64 i):Calls Try.prog 37 #[.int .i64 i] w fun e w'=>e=.returned (.bool (levN 3 i))∧Kept w w':=by
 have Ri:=Lib.hid hri
 clear hri
 go_enter Try.func37,Try.ntmps37
 have kvw:SeesN w w.heap.size w:=seesN_kept _ (kept_refl _)
 by_cases c1:0≤i
 ·have ec1:decide (0≤i)=true:=decide_eq_true c1
  have Ec1:=Lib.hid ec1
  have Hc1:=Lib.hid c1
  clear c1
  by_cases c2:i≤997
  ·have ec2:decide (i≤997)=true:=decide_eq_true c2
   have Ec2:=Lib.hid ec2
   have Hc2:=Lib.hid c2
   clear c2
   go_wp2
   go_ret
   exact⟨ret_bool (Eq.symm (show levN 3 i=true from by rw [lev3_eq];rw [Ec1.out,Ec2.out];(try rfl))),(kept_refl _)⟩
  ·have ec2:decide (i≤997)=false:=decide_eq_false c2
   have Ec2:=Lib.hid ec2
   have Hc2:=Lib.hid c2
   clear c2
   go_wp2
   go_ret
   exact⟨ret_bool (Eq.symm (show levN 3 i=false from by rw [lev3_eq];rw [Ec1.out,Ec2.out];(try rfl))),(kept_refl _)⟩
 ·have ec1:decide (0≤i)=false:=decide_eq_false c1
  have Ec1:=Lib.hid ec1
  have Hc1:=Lib.hid c1
  clear c1
  go_wp2
  go_ret
  exact⟨ret_bool (Eq.symm (show levN 3 i=false from by rw [lev3_eq];rw [Ec1.out];(try rfl))),(kept_refl _)⟩
set_option maxRecDepth 20000 in
set_option maxHeartbeats 4000000 in
theorem cplain_any (l:List Tm) (w:World) (s:Value) (hl:Lies w l s):Calls Try.prog 38 #[s] w fun e w'=>e=.returned (.bool (plainL l))∧Kept w w':=by
 obtain⟨a,cap,S,rfl,hc,hmx,-,hn,hk⟩:=hl.out
 unfold maxLen at hmx
 have HN:=Lib.hid hn
 have HK:=Lib.hid hk
 clear hn hk hl
 go_enter Try.func38,Try.ntmps38
 go_wp2
 go_loopw [7] (fun iv wr=>∃ k:Nat,k≤l.length∧iv=.int .i64 k∧Hid (∀ j (h:j<l.length),j<k→(l[j]).plainB=true)∧Kept w wr) (fun iv _=>l.length-(intOf iv).toNat)
 case atStart=>exact⟨0,Nat.zero_le _,rfl,fun j _ h=>absurd h (by omega),kept_refl _⟩
 case round =>
  obtain⟨k,hkl,rfl,hrel,hb⟩:=hrel
  by_cases hlt:k<l.length
  ·obtain⟨b,o,rfl,hx⟩:=HN.out k hlt
   obtain⟨c0,c1,c2,c3,c4⟩:=hx.below hb hx.lt
   have hq:=HK.out k hlt
   obtain⟨a',cap',S',hS,-⟩:=hq.out
   rw [hS] at c4 hq
   have HQ:=Lib.hid (hq.keep hb)
   have HB:=Lib.hid hb
   clear hS hq hb
   go_wp2_with fail
   refine at_world (fun W hW=>?_)
   obtain⟨k1,-,-⟩:=alloc1 hW
   have HB1:=Lib.hid (kept_trans HB.out k1)
   have HQ1:=Lib.hid (HQ.out.keep k1)
   clear c0 c1 c2 c3 c4 k1 hW
   refine(plain_any l[k] _ _ HQ1.out).mono ?_
   cases hp:(l[k]).plainB with
   | false =>
    have HF:Hid (plainL l=false):=by
     show _=_
     cases hh:plainL l with
     | false=>rfl
     | true=>rw [plainL_iff.1 hh _ (List.getElem_mem hlt)] at hp;cases hp
    rintro e w' ⟨rfl,hb'⟩
    have HB2:=Lib.hid (kept_trans HB1.out hb')
    clear hb' hp
    go_wp2
    go_ret
    exact⟨ret_bool (by rw [HF.out]),HB2.out⟩
   | true =>
    have HP:=Lib.hid hp
    rintro e w' ⟨rfl,hb'⟩
    have HB2:=Lib.hid (kept_trans HB1.out hb')
    clear hb' hp
    go_wp2
    go_roundw
    case rel =>
     refine⟨k+1,hlt,by go_num,fun j hj hjk=>?_,HB2.out⟩
     by_cases e:j=k
     ·subst e;exact HP.out
     ·exact hrel.out j hj (by omega)
    case measure=>simp [intOf];omega
  ·obtain rfl:k=l.length:=by omega
   have HF:Hid (plainL l=true):=by
    show _=_
    exact plainL_iff.2 (fun x hx=>by obtain⟨j,hj,rfl⟩:=List.getElem_of_mem hx;exact hrel.out j hj hj)
   have HB:=Lib.hid hb
   clear hb
   go_wp2
   go_ret
   exact⟨ret_bool (by rw [HF.out]),HB.out⟩
set_option maxRecDepth 20000 in
set_option maxHeartbeats 4000000 in
theorem cmake2_any (k:Int) (x:Tm) (y:Tm) (P:Nat→Prop) (w:World) (sx:Value) (sy:Value) (hrk:I64 k) (hfx:x.fine) (hlx:LiesQ w P x.kids sx) (hfy:y.fine) (hly:LiesQ w P y.kids sy):Calls Try.prog 22 #[.int .i64 k,tv x sx,tv y sy] w (GivesP P (nodeT k [x,y]) w):=by
 have Rk:=Lib.hid hrk
 clear hrk
 have Gx:=Lib.hid hfx
 clear hfx
 obtain⟨ax,cx,Sx,rfl,-⟩:=hlx.out
 have Gy:=Lib.hid hfy
 clear hfy
 obtain⟨ay,cy,Sy,rfl,-⟩:=hly.out
 obtain⟨du,hu1,hu2⟩:=under_term
 unfold tv
 go_enter Try.func22,Try.ntmps22
 go_upto_region 1 with fail
 refine at_code (fun V0 hV0=>?_)
 obtain⟨k4,x1,x2,x3,z5⟩:=alloc3 hV0
 have Kk6:=Lib.hid k4
 clear k4
 have Hx1:=Lib.hid x1
 have Hx2:=Lib.hid x2
 have Hx3:=Lib.hid x3
 have Z0:=Lib.hid z5
 clear z5 x1 x2 x3 hV0
 have HLx:Hid (LiesQ V0 (Par w V0.heap.size [] P) x.kids _):=(par_in _ _ hlx).later Kk6.out
 clear hlx
 have HLy:Hid (LiesQ V0 (Par w V0.heap.size [] P) y.kids _):=(par_in _ _ hly).later Kk6.out
 clear hly
 have kvV0:Sees V0 (w.heap.size+2) V0:=sees_kept _ (kept_refl _)
 go_wp2_with (refine stop_load 24 (.tmp 4) rfl ?_)
 intro _
 refine wpList_load_part (w.heap.size) 0 24 (.tmp 4) #[.int .i64 x.k,.int .i64 x.i,.int .i64 x.j,.int .i64 x.n,(.slice ax x.kids.length cx)] du Hx1.out (by rfl) rfl (by rfl) (by rfl) hu1 (by cases du<;>first | rfl | exact hu2) size_term ?_
 go_wp2_with (refine stop_load 24 (.tmp 5) rfl ?_)
 intro _
 refine wpList_load_part (w.heap.size+1) 0 24 (.tmp 5) #[.int .i64 y.k,.int .i64 y.i,.int .i64 y.j,.int .i64 y.n,(.slice ay y.kids.length cy)] du Hx2.out (by rfl) rfl (by rfl) (by rfl) hu1 (by cases du<;>first | rfl | exact hu2) size_term ?_
 go_wp2_with (refine stop_store 24 (.tmp 6) (.tmp 11) rfl ?_)
 intro _
 refine wpList_store_part_n (by rfl) 24 (.tmp 6) (.tmp 11) rfl (w.heap.size+2) 0 #[.int .i64 k,.int .i64 0,.int .i64 0,.int .i64 0,(.slice (some ⟨V0.heap.size,0,none⟩) 2 2)] (by rfl) (by rfl) 24 size_term (row_ok rfl) ?_
 intro W8 hW8
 clear kvV0
 obtain⟨k11,x10,z12⟩:=alloc1 hW8
 have Kk13:=Lib.hid k11
 clear k11
 have Hx10:=Lib.hid x10
 have Hz12:=Lib.hid z12
 clear x10 z12 hW8
 have HR14:=Lib.hid (q_row2 Hx10.out Gx.out (HLx.out.later Kk13.out) Gy.out (HLy.out.later Kk13.out) (par_new (Nat.le_refl _) (xlt_nil _) (Nat.le_refl _)))
 refine⟨_,#[.int .i64 k,.int .i64 0,.int .i64 0,.int .i64 0,(.slice (some ⟨V0.heap.size,0,none⟩) 2 2)],(blk_at Hx3.out Kk13.out),rfl,Nat.le_of_ble_eq_true rfl,?_⟩
 intro W9 hW9
 go_wp2_with fail
 refine bodyPost_ret (results_cell_row rfl _ _ (w.heap.size+2) 24 _ _ du rfl (blk_same (blk_at Hx3.out Kk13.out) hW9) hu1 (by cases du<;>first | rfl | exact hu2) size_term) rfl ?_
 exact⟨_,rfl,par_end (par_row' HR14.out hW9 (by omega) (by have:=Z0.out;omega)) (by have:=Z0.out;omega),kept_set (kept_trans Kk6.out Kk13.out) hW9 (by omega)⟩
set_option maxRecDepth 20000 in
set_option maxHeartbeats 4000000 in
theorem cuse_any (n:Int) (i:Int) (j:Int) (l:List Tm) (P:Nat→Prop) (w:World) (sl:Value) (hrn:I64 n) (hri:I64 i) (hrj:I64 j) (hll:LiesQ w P l sl) (hp:∀ x ∈ l,x.plainB=true) (hn:l.length≤1000):Calls Try.prog 45 #[.int .i64 n,.int .i64 i,.int .i64 j,sl] w (GivesP P (useT n i j l) w):=by
 have Rn:=Lib.hid hrn
 clear hrn
 have Ri:=Lib.hid hri
 clear hri
 have Rj:=Lib.hid hrj
 clear hrj
 obtain⟨al,cl,Sl,rfl,-⟩:=hll.out
 have Hpl:=Lib.hid hp
 have Hln:=Lib.hid hn
 clear hp hn
 obtain⟨du,hu1,hu2⟩:=under_term
 go_enter Try.func45,Try.ntmps45
 go_upto_region 1 with fail
 refine at_code (fun V0 hV0=>?_)
 obtain⟨k2,x1,z3⟩:=alloc1 hV0
 have Kk4:=Lib.hid k2
 clear k2
 have Hx1:=Lib.hid x1
 have Z0:=Lib.hid z3
 clear z3 x1 hV0
 have HLl:Hid (LiesQ V0 (Par w V0.heap.size [] P) l _):=(par_in _ _ hll).later Kk4.out
 clear hll
 have kvV0:Sees V0 (w.heap.size) V0:=sees_kept _ (kept_refl _)
 go_wp2_with fail
 clear kvV0
 refine((copiesR_any l _ _ HLl.out.lies (Hpl.out) (by first | assumption | (have:=Hln.out;omega))).mono (fun _ _ h=>h.givesP (P:=(Par w V0.heap.size [] P)))).mono ?_
 rintro e w5 ⟨s7,rfl,hl8,k6⟩
 obtain⟨a9,c10,S11,rfl,-⟩:=hl8.out
 have Kk12:=Lib.hid k6
 clear k6
 have Hhl8:Hid (LiesQ w5 (Par w V0.heap.size [] P) l _):=par_give hl8 (Nat.le_refl _) (xlt_nil _)
 clear hl8
 have kvV0:Sees V0 (w.heap.size) w5:=sees_kept _ Kk12.out
 go_wp2_with (refine stop_store 24 (.tmp 8) (.tmp 14) rfl ?_)
 intro _
 refine wpList_store_part_n (by rfl) 24 (.tmp 8) (.tmp 14) rfl (w.heap.size) 0 #[.int .i64 23,.int .i64 i,.int .i64 j,.int .i64 n,(.slice a9 (List.length l) c10)] (by rfl) (by rfl) 24 size_term (row_ok rfl) ?_
 intro W13 hW13
 clear kvV0
 subst hW13
 refine⟨_,#[.int .i64 23,.int .i64 i,.int .i64 j,.int .i64 n,(.slice a9 (List.length l) c10)],(blk_at Hx1.out Kk12.out),rfl,Nat.le_of_ble_eq_true rfl,?_⟩
 intro W14 hW14
 go_wp2_with fail
 refine bodyPost_ret (results_cell_row rfl _ _ (w.heap.size) 24 _ _ du rfl (blk_same (blk_at Hx1.out Kk12.out) hW14) hu1 (by cases du<;>first | rfl | exact hu2) size_term) rfl ?_
 exact⟨_,rfl,par_end (par_row' Hhl8.out hW14 (by omega) (by have:=Z0.out;omega)) (by have:=Z0.out;omega),kept_set (kept_trans Kk4.out Kk12.out) hW14 (by omega)⟩
set_option maxRecDepth 20000 in
set_option maxHeartbeats 4000000 in
theorem cright_any (g:Fm) (P:Nat→Prop) (w:World) (sga:Value) (sgc:Value) (sgb:Value) (sgd:Value) (sge:Value) (sgf:Value) (hfg:g.fine) (hlg:FQ w P g sga sgc sgb sgd sge sgf):Calls Try.prog 19 #[fv g sga sgc sgb sgd sge sgf] w fun e w'=>e=.returned (.bool (fmR g))∧Kept w w':=by
 have Gg:=Lib.hid hfg
 clear hfg
 obtain⟨hlga,hlgc,hlgb,hlgd,hlge,hlgf⟩:=hlg
 obtain⟨aga,cga,Sga,rfl,-⟩:=hlga.out
 obtain⟨agc,cgc,Sgc,rfl,-⟩:=hlgc.out
 obtain⟨agb,cgb,Sgb,rfl,-⟩:=hlgb.out
 obtain⟨agd,cgd,Sgd,rfl,-⟩:=hlgd.out
 obtain⟨age,cge,Sge,rfl,-⟩:=hlge.out
 obtain⟨agf,cgf,Sgf,rfl,-⟩:=hlgf.out
 obtain⟨du,hu1,hu2⟩:=under_term
 obtain⟨dg,dg1,dg2⟩:=under_of 30 (by kernel_rfl)
 unfold fv
 go_enter Try.func19,Try.ntmps19
 go_upto_region 1 with fail
 refine at_code (fun V0 hV0=>?_)
 obtain⟨k2,x1,z3⟩:=alloc1 hV0
 have Kk4:=Lib.hid k2
 clear k2
 have Hx1:=Lib.hid x1
 have Z0:=Lib.hid z3
 clear z3 x1 hV0
 have HLga:Hid (LiesQ V0 (Par w V0.heap.size [] P) g.a.kids _):=(par_in _ _ hlga).later Kk4.out
 clear hlga
 have HLgc:Hid (LiesQ V0 (Par w V0.heap.size [] P) g.c.kids _):=(par_in _ _ hlgc).later Kk4.out
 clear hlgc
 have HLgb:Hid (LiesQ V0 (Par w V0.heap.size [] P) g.b.kids _):=(par_in _ _ hlgb).later Kk4.out
 clear hlgb
 have HLgd:Hid (LiesQ V0 (Par w V0.heap.size [] P) g.d.kids _):=(par_in _ _ hlgd).later Kk4.out
 clear hlgd
 have HLge:Hid (LiesQ V0 (Par w V0.heap.size [] P) g.e.kids _):=(par_in _ _ hlge).later Kk4.out
 clear hlge
 have HLgf:Hid (LiesQ V0 (Par w V0.heap.size [] P) g.f.kids _):=(par_in _ _ hlgf).later Kk4.out
 clear hlgf
 have ld5:=partN_cell (r:=V0.heap.size) Hx1.out trivial 0 (.int .i64 g.i) rfl
 have ld6:=partN_cell (r:=V0.heap.size) Hx1.out trivial 1 (.int .i64 g.j) rfl
 have kvV0:SeesN V0 V0.heap.size V0:=seesN_kept _ (kept_refl _)
 go_wp2_with fail
 clear kvV0
 refine(clevel_any g.i _ Gg.out.1).mono ?_
 obtain⟨rb10,hb9⟩:∃ qb,(levN 3 g.i)=qb:=⟨_,rfl⟩
 rw [hb9]
 have Hhb9:=Lib.hid hb9
 clear hb9
 rintro e w7 ⟨rfl,k8⟩
 have Kk11:=Lib.hid k8
 clear k8
 cases rb10 with
 | false =>
  have kvV0:SeesN V0 V0.heap.size w7:=seesN_kept _ Kk11.out
  go_wp2
  go_ret
  exact⟨ret_bool (Eq.symm (show fmR g=false from by unfold fmR;rw [Hhb9.out];(try rfl))),(kept_trans Kk4.out Kk11.out)⟩
 | true =>
  have kvV0:SeesN V0 V0.heap.size w7:=seesN_kept _ Kk11.out
  go_wp2_with fail
  clear kvV0
  refine(clevel_any g.j _ Gg.out.2.1).mono ?_
  obtain⟨rb15,hb14⟩:∃ qb,(levN 3 g.j)=qb:=⟨_,rfl⟩
  rw [hb14]
  have Hhb14:=Lib.hid hb14
  clear hb14
  rintro e w12 ⟨rfl,k13⟩
  have Kk16:=Lib.hid k13
  clear k13
  cases rb15 with
  | false =>
   have kvV0:SeesN V0 V0.heap.size w12:=seesN_kept _ (kept_trans Kk11.out Kk16.out)
   go_wp2
   go_ret
   exact⟨ret_bool (Eq.symm (show fmR g=false from by unfold fmR;rw [Hhb9.out,Hhb14.out];(try rfl))),(kept_trans Kk4.out (kept_trans Kk11.out Kk16.out))⟩
  | true =>
   have kvV0:SeesN V0 V0.heap.size w12:=seesN_kept _ (kept_trans Kk11.out Kk16.out)
   go_wp2_with (refine stop_load 24 (.tmp 12) rfl ?_)
   intro _
   refine wpList_load_part (w.heap.size) 2 24 (.tmp 12) #[.int .i64 g.a.k,.int .i64 g.a.i,.int .i64 g.a.j,.int .i64 g.a.n,(.slice aga g.a.kids.length cga)] du (blk_at Hx1.out (kept_trans Kk11.out Kk16.out)) (by rfl) rfl (by rfl) (by rfl) hu1 (by cases du<;>first | rfl | exact hu2) size_term ?_
   go_wp2_with (refine stop_load 24 (.tmp 14) rfl ?_)
   intro _
   refine wpList_load_part (w.heap.size) 7 24 (.tmp 14) #[.int .i64 g.c.k,.int .i64 g.c.i,.int .i64 g.c.j,.int .i64 g.c.n,(.slice agc g.c.kids.length cgc)] du (blk_at Hx1.out (kept_trans Kk11.out Kk16.out)) (by rfl) rfl (by rfl) (by rfl) hu1 (by cases du<;>first | rfl | exact hu2) size_term ?_
   go_wp2_with (refine stop_load 24 (.tmp 16) rfl ?_)
   intro _
   refine wpList_load_part (w.heap.size) 12 24 (.tmp 16) #[.int .i64 g.b.k,.int .i64 g.b.i,.int .i64 g.b.j,.int .i64 g.b.n,(.slice agb g.b.kids.length cgb)] du (blk_at Hx1.out (kept_trans Kk11.out Kk16.out)) (by rfl) rfl (by rfl) (by rfl) hu1 (by cases du<;>first | rfl | exact hu2) size_term ?_
   go_wp2_with (refine stop_load 24 (.tmp 18) rfl ?_)
   intro _
   refine wpList_load_part (w.heap.size) 17 24 (.tmp 18) #[.int .i64 g.d.k,.int .i64 g.d.i,.int .i64 g.d.j,.int .i64 g.d.n,(.slice agd g.d.kids.length cgd)] du (blk_at Hx1.out (kept_trans Kk11.out Kk16.out)) (by rfl) rfl (by rfl) (by rfl) hu1 (by cases du<;>first | rfl | exact hu2) size_term ?_
   go_wp2_with (refine stop_load 24 (.tmp 20) rfl ?_)
   intro _
   refine wpList_load_part (w.heap.size) 22 24 (.tmp 20) #[.int .i64 g.e.k,.int .i64 g.e.i,.int .i64 g.e.j,.int .i64 g.e.n,(.slice age g.e.kids.length cge)] du (blk_at Hx1.out (kept_trans Kk11.out Kk16.out)) (by rfl) rfl (by rfl) (by rfl) hu1 (by cases du<;>first | rfl | exact hu2) size_term ?_
   go_wp2_with (refine stop_load 24 (.tmp 22) rfl ?_)
   intro _
   refine wpList_load_part (w.heap.size) 27 24 (.tmp 22) #[.int .i64 g.f.k,.int .i64 g.f.i,.int .i64 g.f.j,.int .i64 g.f.n,(.slice agf g.f.kids.length cgf)] du (blk_at Hx1.out (kept_trans Kk11.out Kk16.out)) (by rfl) rfl (by rfl) (by rfl) hu1 (by cases du<;>first | rfl | exact hu2) size_term ?_
   go_wp2_with fail
   refine at_world (fun W18 hW18=>?_)
   clear kvV0
   obtain⟨k20,x19,z21⟩:=alloc1 hW18
   have Kk22:=Lib.hid k20
   clear k20
   have Hx19:=Lib.hid x19
   have Hz21:=Lib.hid z21
   clear x19 z21 hW18
   have kq24:=(kept_trans Kk11.out (kept_trans Kk16.out Kk22.out))
   have HR23:=Lib.hid (q_row6 Hx19.out Gg.out.2.2.1 (HLga.out.later kq24) Gg.out.2.2.2.1 (HLgc.out.later kq24) Gg.out.2.2.2.2.1 (HLgb.out.later kq24) Gg.out.2.2.2.2.2.1 (HLgd.out.later kq24) Gg.out.2.2.2.2.2.2.1 (HLge.out.later kq24) Gg.out.2.2.2.2.2.2.2 (HLgf.out.later kq24) (par_new (Below.size (kept_trans Kk11.out Kk16.out)) (xlt_nil _) (Nat.le_refl _)))
   clear kq24
   refine(cplain_any [g.a,g.c,g.b,g.d,g.e,g.f] _ _ HR23.out.lies).mono ?_
   obtain⟨rb28,hb27⟩:∃ qb,(plainL [g.a,g.c,g.b,g.d,g.e,g.f])=qb:=⟨_,rfl⟩
   rw [hb27]
   have Hhb27:=Lib.hid hb27
   clear hb27
   rintro e w25 ⟨rfl,k26⟩
   have Kk29:=Lib.hid k26
   clear k26
   cases rb28 with
   | false =>
    have kvV0:SeesN V0 V0.heap.size w25:=seesN_kept _ (kept_trans Kk11.out (kept_trans Kk16.out (kept_trans Kk22.out Kk29.out)))
    go_wp2
    go_ret
    exact⟨ret_bool (Eq.symm (show fmR g=false from by unfold fmR;rw [Hhb9.out,Hhb14.out,Hhb27.out];(try rfl))),(kept_trans Kk4.out (kept_trans Kk11.out (kept_trans Kk16.out (kept_trans Kk22.out Kk29.out))))⟩
   | true =>
    have kvV0:SeesN V0 V0.heap.size w25:=seesN_kept _ (kept_trans Kk11.out (kept_trans Kk16.out (kept_trans Kk22.out Kk29.out)))
    go_wp2
    go_ret
    exact⟨ret_bool (Eq.symm (show fmR g=true from by unfold fmR;rw [Hhb9.out,Hhb14.out,Hhb27.out];(try rfl))),(kept_trans Kk4.out (kept_trans Kk11.out (kept_trans Kk16.out (kept_trans Kk22.out Kk29.out))))⟩
def cfuser1_0:Oper:={dst:=some 8,op:=Go.Op.fieldAddr 30 (Go.Operand.tmp 3) 2,type:=0,pos := "cong.go:122",after:=#[],guard:=none}
def cfuser1_1:Oper:={dst:=some 9,op:=Go.Op.load 24 (Go.Operand.tmp 8),type:=24,pos := "cong.go:122",after:=#[{on:=0,ground:=Go.Ground.data}],guard:=none}
def cfuser1_2:Oper:={dst:=some 10,op:=Go.Op.fieldAddr 30 (Go.Operand.tmp 3) 3,type:=0,pos := "cong.go:122",after:=#[],guard:=none}
def cfuser1_3:Oper:={dst:=some 11,op:=Go.Op.load 24 (Go.Operand.tmp 10),type:=24,pos := "cong.go:122",after:=#[{on:=2,ground:=Go.Ground.data}],guard:=none}
def cfuser1_4:Oper:={dst:=some 12,op:=Go.Op.fieldAddr 30 (Go.Operand.tmp 3) 6,type:=0,pos := "cong.go:122",after:=#[],guard:=none}
def cfuser1_5:Oper:={dst:=some 13,op:=Go.Op.load 24 (Go.Operand.tmp 12),type:=24,pos := "cong.go:122",after:=#[{on:=4,ground:=Go.Ground.data}],guard:=none}
def cfuser1_6:Oper:={dst:=some 14,op:=Go.Op.fieldAddr 30 (Go.Operand.tmp 3) 2,type:=0,pos := "cong.go:122",after:=#[],guard:=none}
def cfuser1_7:Oper:={dst:=some 15,op:=Go.Op.load 24 (Go.Operand.tmp 14),type:=24,pos := "cong.go:122",after:=#[{on:=6,ground:=Go.Ground.data}],guard:=none}
def cfuser1_8:Oper:={dst:=some 16,op:=Go.Op.fieldAddr 30 (Go.Operand.tmp 3) 4,type:=0,pos := "cong.go:122",after:=#[],guard:=none}
def cfuser1_9:Oper:={dst:=some 17,op:=Go.Op.load 24 (Go.Operand.tmp 16),type:=24,pos := "cong.go:122",after:=#[{on:=8,ground:=Go.Ground.data}],guard:=none}
def cfuser1_10:Oper:={dst:=some 18,op:=Go.Op.call {callee:=Go.Callee.value (Go.Operand.func 22),args:=#[Go.Operand.const (Go.Value.int Go.IntKind.i64 14),Go.Operand.tmp 15,Go.Operand.tmp 17],argTypes:=#[3,24,24] },type:=24,pos := "cong.go:122",after:=#[{on:=7,ground:=Go.Ground.data},{on:=9,ground:=Go.Ground.data}],guard:=none}
def cfuser1_11:Oper:={dst:=some 19,op:=Go.Op.fieldAddr 30 (Go.Operand.tmp 3) 3,type:=0,pos := "cong.go:122",after:=#[],guard:=none}
def cfuser1_12:Oper:={dst:=some 20,op:=Go.Op.load 24 (Go.Operand.tmp 19),type:=24,pos := "cong.go:122",after:=#[{on:=11,ground:=Go.Ground.data}],guard:=none}
def cfuser1_13:Oper:={dst:=some 21,op:=Go.Op.fieldAddr 30 (Go.Operand.tmp 3) 5,type:=0,pos := "cong.go:122",after:=#[],guard:=none}
def cfuser1_14:Oper:={dst:=some 22,op:=Go.Op.load 24 (Go.Operand.tmp 21),type:=24,pos := "cong.go:122",after:=#[{on:=13,ground:=Go.Ground.data}],guard:=none}
def cfuser1_15:Oper:={dst:=some 23,op:=Go.Op.call {callee:=Go.Callee.value (Go.Operand.func 22),args:=#[Go.Operand.const (Go.Value.int Go.IntKind.i64 14),Go.Operand.tmp 20,Go.Operand.tmp 22],argTypes:=#[3,24,24] },type:=24,pos := "cong.go:122",after:=#[{on:=12,ground:=Go.Ground.data},{on:=14,ground:=Go.Ground.data},{on:=10,ground:=Go.Ground.chain}],guard:=none}
def cfuser1_16:Oper:={dst:=some 24,op:=Go.Op.fieldAddr 30 (Go.Operand.tmp 3) 7,type:=0,pos := "cong.go:122",after:=#[],guard:=none}
def cfuser1_17:Oper:={dst:=some 25,op:=Go.Op.load 24 (Go.Operand.tmp 24),type:=24,pos := "cong.go:122",after:=#[{on:=16,ground:=Go.Ground.data}],guard:=none}
def cfuser1_18:Oper:={dst:=some 26,op:=Go.Op.buildSlice 22 6 #[(0,Go.Operand.tmp 9),(1,Go.Operand.tmp 11),(2,Go.Operand.tmp 13),(3,Go.Operand.tmp 18),(4,Go.Operand.tmp 23),(5,Go.Operand.tmp 25)],type:=22,pos := "cong.go:122",after:=#[{on:=1,ground:=Go.Ground.data},{on:=3,ground:=Go.Ground.data},{on:=5,ground:=Go.Ground.data},{on:=10,ground:=Go.Ground.data},{on:=15,ground:=Go.Ground.data},{on:=17,ground:=Go.Ground.data}],guard:=none}
def cfuser1_19:Oper:={dst:=some 7,op:=Go.Op.assign (Go.Operand.tmp 26),type:=22,pos := "cong.go:122",after:=#[{on:=18,ground:=Go.Ground.data},{on:=15,ground:=Go.Ground.chain},{on:=0,ground:=Go.Ground.phase},{on:=1,ground:=Go.Ground.phase},{on:=2,ground:=Go.Ground.phase},{on:=3,ground:=Go.Ground.phase},{on:=4,ground:=Go.Ground.phase},{on:=5,ground:=Go.Ground.phase},{on:=6,ground:=Go.Ground.phase},{on:=7,ground:=Go.Ground.phase},{on:=8,ground:=Go.Ground.phase},{on:=9,ground:=Go.Ground.phase},{on:=10,ground:=Go.Ground.phase},{on:=11,ground:=Go.Ground.phase},{on:=12,ground:=Go.Ground.phase},{on:=13,ground:=Go.Ground.phase},{on:=14,ground:=Go.Ground.phase},{on:=15,ground:=Go.Ground.phase},{on:=16,ground:=Go.Ground.phase},{on:=17,ground:=Go.Ground.phase},{on:=18,ground:=Go.Ground.phase}],guard:=none}
def cfuser2_0:Oper:={dst:=some 27,op:=Go.Op.move (Go.Operand.tmp 1),type:=3,pos := "cong.go:123",after:=#[],guard:=none}
def cfuser2_1:Oper:={dst:=some 28,op:=Go.Op.fieldAddr 30 (Go.Operand.tmp 3) 0,type:=0,pos := "cong.go:123",after:=#[],guard:=none}
def cfuser2_2:Oper:={dst:=some 29,op:=Go.Op.load 3 (Go.Operand.tmp 28),type:=3,pos := "cong.go:123",after:=#[{on:=1,ground:=Go.Ground.data}],guard:=none}
def cfuser2_3:Oper:={dst:=some 30,op:=Go.Op.fieldAddr 30 (Go.Operand.tmp 3) 1,type:=0,pos := "cong.go:123",after:=#[],guard:=none}
def cfuser2_4:Oper:={dst:=some 31,op:=Go.Op.load 3 (Go.Operand.tmp 30),type:=3,pos := "cong.go:123",after:=#[{on:=3,ground:=Go.Ground.data}],guard:=none}
def cfuser2_5:Oper:={dst:=some 32,op:=Go.Op.move (Go.Operand.tmp 7),type:=22,pos := "cong.go:123",after:=#[],guard:=none}
def cfuser2_6:Oper:={dst:=some 33,op:=Go.Op.move (Go.Operand.tmp 2),type:=22,pos := "cong.go:123",after:=#[],guard:=none}
def cfuser2_7:Oper:={dst:=some 34,op:=Go.Op.call {callee:=Go.Callee.builtin Go.Builtin.append,args:=#[Go.Operand.tmp 32,Go.Operand.tmp 33],argTypes:=#[22,22] },type:=22,pos := "cong.go:123",after:=#[{on:=5,ground:=Go.Ground.data},{on:=6,ground:=Go.Ground.data}],guard:=none}
def cfuser2_8:Oper:={dst:=some 35,op:=Go.Op.call {callee:=Go.Callee.value (Go.Operand.func 45),args:=#[Go.Operand.tmp 27,Go.Operand.tmp 29,Go.Operand.tmp 31,Go.Operand.tmp 34],argTypes:=#[3,3,3,22] },type:=24,pos := "cong.go:123",after:=#[{on:=0,ground:=Go.Ground.data},{on:=2,ground:=Go.Ground.data},{on:=4,ground:=Go.Ground.data},{on:=7,ground:=Go.Ground.data},{on:=7,ground:=Go.Ground.chain}],guard:=none}
def cfuser2_9:Oper:={dst:=none,op:=Go.Op.store 24 (Go.Operand.tmp 6) (Go.Operand.tmp 35),type:=0,pos := "cong.go:123",after:=#[{on:=8,ground:=Go.Ground.data},{on:=8,ground:=Go.Ground.chain},{on:=0,ground:=Go.Ground.phase},{on:=1,ground:=Go.Ground.phase},{on:=2,ground:=Go.Ground.phase},{on:=3,ground:=Go.Ground.phase},{on:=4,ground:=Go.Ground.phase},{on:=5,ground:=Go.Ground.phase},{on:=6,ground:=Go.Ground.phase},{on:=7,ground:=Go.Ground.phase},{on:=8,ground:=Go.Ground.phase}],guard:=none}
set_option maxRecDepth 20000 in
set_option maxHeartbeats 4000000 in
theorem cfuse_any (n:Int) (g:Fm) (more:List Tm) (P:Nat→Prop) (w:World) (sga:Value) (sgc:Value) (sgb:Value) (sgd:Value) (sge:Value) (sgf:Value) (smore:Value) (hfg:g.fine) (hlg:FQ w P g sga sgc sgb sgd sge sgf) (hrn:I64 n) (hlmore:LiesQ w P more smore) (hR:fmR g=true) (hmp:∀ x ∈ more,x.plainB=true) (hmn:more.length≤900):Calls Try.prog 23 #[fv g sga sgc sgb sgd sge sgf,.int .i64 n,smore] w (GivesP P (sixT n g more) w):=by
 have Gg:=Lib.hid hfg
 clear hfg
 obtain⟨hlga,hlgc,hlgb,hlgd,hlge,hlgf⟩:=hlg
 obtain⟨aga,cga,Sga,rfl,-⟩:=hlga.out
 obtain⟨agc,cgc,Sgc,rfl,-⟩:=hlgc.out
 obtain⟨agb,cgb,Sgb,rfl,-⟩:=hlgb.out
 obtain⟨agd,cgd,Sgd,rfl,-⟩:=hlgd.out
 obtain⟨age,cge,Sge,rfl,-⟩:=hlge.out
 obtain⟨agf,cgf,Sgf,rfl,-⟩:=hlgf.out
 have Rn:=Lib.hid hrn
 clear hrn
 obtain⟨amore,cmore,Smore,rfl,-⟩:=hlmore.out
 have HRg:=Lib.hid hR
 have Hmp:=Lib.hid hmp
 have Hmn:=Lib.hid hmn
 clear hR hmp hmn
 obtain⟨du,hu1,hu2⟩:=under_term
 obtain⟨dg,dg1,dg2⟩:=under_of 30 (by kernel_rfl)
 unfold fv
 go_enter Try.func23,Try.ntmps23
 go_upto_region 1 with fail
 refine at_code (fun V0 hV0=>?_)
 obtain⟨k3,x1,x2,z4⟩:=alloc2 hV0
 have Kk5:=Lib.hid k3
 clear k3
 have Hx1:=Lib.hid x1
 have Hx2:=Lib.hid x2
 have Z0:=Lib.hid z4
 clear z4 x1 x2 hV0
 have HLga:Hid (LiesQ V0 (Par w V0.heap.size [] P) g.a.kids _):=(par_in _ _ hlga).later Kk5.out
 clear hlga
 have HLgc:Hid (LiesQ V0 (Par w V0.heap.size [] P) g.c.kids _):=(par_in _ _ hlgc).later Kk5.out
 clear hlgc
 have HLgb:Hid (LiesQ V0 (Par w V0.heap.size [] P) g.b.kids _):=(par_in _ _ hlgb).later Kk5.out
 clear hlgb
 have HLgd:Hid (LiesQ V0 (Par w V0.heap.size [] P) g.d.kids _):=(par_in _ _ hlgd).later Kk5.out
 clear hlgd
 have HLge:Hid (LiesQ V0 (Par w V0.heap.size [] P) g.e.kids _):=(par_in _ _ hlge).later Kk5.out
 clear hlge
 have HLgf:Hid (LiesQ V0 (Par w V0.heap.size [] P) g.f.kids _):=(par_in _ _ hlgf).later Kk5.out
 clear hlgf
 have HLmore:Hid (LiesQ V0 (Par w V0.heap.size [] P) more _):=(par_in _ _ hlmore).later Kk5.out
 clear hlmore
 have ld6:=part_cell (r:=(w.heap.size+1)) Hx1.out (by have:=Z0.out;omega) 0 (.int .i64 g.i) rfl
 have ld7:=part_cell (r:=(w.heap.size+1)) Hx1.out (by have:=Z0.out;omega) 1 (.int .i64 g.j) rfl
 have kvV0:Sees V0 (w.heap.size+1) V0:=sees_kept _ (kept_refl _)
 go_wp2_with fail
 clear kvV0
 obtain⟨W8,h9⟩:∃ x,World.drew V0=x:=⟨_,rfl⟩
 have k10:Kept V0 W8:=by rw [←h9];exact kept_drew (kept_refl _)
 have Kk11:=Lib.hid k10
 clear k10
 refine wp_region_held_drew (S:=Sees W8 (w.heap.size+1)) (by kernel_rfl) ?_ (fun hHeld=>?_)
 ·(try dsimp only)
  rw [h9]
  exact sees_kept _ (kept_refl _)
 rw [h9] at hHeld ⊢
 clear h9
 refine take_at 0 8 cfuser1_0 (v:=?_) (Or.inl ⟨by rfl,?_⟩) ?_
 rotate_left 1
 ·((intro w hSw;(try dsimp only at hSw);unfold cfuser1_0;go_simp)<;>with_reducible rfl)
 (try simp only [Act.put,List.setIfInBounds_toArray,List.set_cons_zero,List.set_cons_succ])
 refine take_at 1 9 cfuser1_1 (yields_part (w.heap.size) 2 24 (.tmp 8) #[.int .i64 g.a.k,.int .i64 g.a.i,.int .i64 g.a.j,.int .i64 g.a.n,(.slice aga g.a.kids.length cga)] du (fun _ h=>sees_blk Hx1.out (by have:=Z0.out;omega) (sees_of Kk11.out h)) (by rfl) rfl (by rfl) (by rfl) hu1 (by cases du<;>first | rfl | exact hu2) size_term) ?_
 (try simp only [Act.put,List.setIfInBounds_toArray,List.set_cons_zero,List.set_cons_succ])
 refine take_at 2 10 cfuser1_2 (v:=?_) (Or.inl ⟨by rfl,?_⟩) ?_
 rotate_left 1
 ·((intro w hSw;(try dsimp only at hSw);unfold cfuser1_2;go_simp)<;>with_reducible rfl)
 (try simp only [Act.put,List.setIfInBounds_toArray,List.set_cons_zero,List.set_cons_succ])
 refine take_at 3 11 cfuser1_3 (yields_part (w.heap.size) 7 24 (.tmp 10) #[.int .i64 g.c.k,.int .i64 g.c.i,.int .i64 g.c.j,.int .i64 g.c.n,(.slice agc g.c.kids.length cgc)] du (fun _ h=>sees_blk Hx1.out (by have:=Z0.out;omega) (sees_of Kk11.out h)) (by rfl) rfl (by rfl) (by rfl) hu1 (by cases du<;>first | rfl | exact hu2) size_term) ?_
 (try simp only [Act.put,List.setIfInBounds_toArray,List.set_cons_zero,List.set_cons_succ])
 refine take_at 4 12 cfuser1_4 (v:=?_) (Or.inl ⟨by rfl,?_⟩) ?_
 rotate_left 1
 ·((intro w hSw;(try dsimp only at hSw);unfold cfuser1_4;go_simp)<;>with_reducible rfl)
 (try simp only [Act.put,List.setIfInBounds_toArray,List.set_cons_zero,List.set_cons_succ])
 refine take_at 5 13 cfuser1_5 (yields_part (w.heap.size) 22 24 (.tmp 12) #[.int .i64 g.e.k,.int .i64 g.e.i,.int .i64 g.e.j,.int .i64 g.e.n,(.slice age g.e.kids.length cge)] du (fun _ h=>sees_blk Hx1.out (by have:=Z0.out;omega) (sees_of Kk11.out h)) (by rfl) rfl (by rfl) (by rfl) hu1 (by cases du<;>first | rfl | exact hu2) size_term) ?_
 (try simp only [Act.put,List.setIfInBounds_toArray,List.set_cons_zero,List.set_cons_succ])
 refine take_at 6 14 cfuser1_6 (v:=?_) (Or.inl ⟨by rfl,?_⟩) ?_
 rotate_left 1
 ·((intro w hSw;(try dsimp only at hSw);unfold cfuser1_6;go_simp)<;>with_reducible rfl)
 (try simp only [Act.put,List.setIfInBounds_toArray,List.set_cons_zero,List.set_cons_succ])
 refine take_at 7 15 cfuser1_7 (yields_part (w.heap.size) 2 24 (.tmp 14) #[.int .i64 g.a.k,.int .i64 g.a.i,.int .i64 g.a.j,.int .i64 g.a.n,(.slice aga g.a.kids.length cga)] du (fun _ h=>sees_blk Hx1.out (by have:=Z0.out;omega) (sees_of Kk11.out h)) (by rfl) rfl (by rfl) (by rfl) hu1 (by cases du<;>first | rfl | exact hu2) size_term) ?_
 (try simp only [Act.put,List.setIfInBounds_toArray,List.set_cons_zero,List.set_cons_succ])
 refine take_at 8 16 cfuser1_8 (v:=?_) (Or.inl ⟨by rfl,?_⟩) ?_
 rotate_left 1
 ·((intro w hSw;(try dsimp only at hSw);unfold cfuser1_8;go_simp)<;>with_reducible rfl)
 (try simp only [Act.put,List.setIfInBounds_toArray,List.set_cons_zero,List.set_cons_succ])
 refine take_at 9 17 cfuser1_9 (yields_part (w.heap.size) 12 24 (.tmp 16) #[.int .i64 g.b.k,.int .i64 g.b.i,.int .i64 g.b.j,.int .i64 g.b.n,(.slice agb g.b.kids.length cgb)] du (fun _ h=>sees_blk Hx1.out (by have:=Z0.out;omega) (sees_of Kk11.out h)) (by rfl) rfl (by rfl) (by rfl) hu1 (by cases du<;>first | rfl | exact hu2) size_term) ?_
 (try simp only [Act.put,List.setIfInBounds_toArray,List.set_cons_zero,List.set_cons_succ])
 refine take_at 11 19 cfuser1_11 (v:=?_) (Or.inl ⟨by rfl,?_⟩) ?_
 rotate_left 1
 ·((intro w hSw;(try dsimp only at hSw);unfold cfuser1_11;go_simp)<;>with_reducible rfl)
 (try simp only [Act.put,List.setIfInBounds_toArray,List.set_cons_zero,List.set_cons_succ])
 refine take_at 12 20 cfuser1_12 (yields_part (w.heap.size) 7 24 (.tmp 19) #[.int .i64 g.c.k,.int .i64 g.c.i,.int .i64 g.c.j,.int .i64 g.c.n,(.slice agc g.c.kids.length cgc)] du (fun _ h=>sees_blk Hx1.out (by have:=Z0.out;omega) (sees_of Kk11.out h)) (by rfl) rfl (by rfl) (by rfl) hu1 (by cases du<;>first | rfl | exact hu2) size_term) ?_
 (try simp only [Act.put,List.setIfInBounds_toArray,List.set_cons_zero,List.set_cons_succ])
 refine take_at 13 21 cfuser1_13 (v:=?_) (Or.inl ⟨by rfl,?_⟩) ?_
 rotate_left 1
 ·((intro w hSw;(try dsimp only at hSw);unfold cfuser1_13;go_simp)<;>with_reducible rfl)
 (try simp only [Act.put,List.setIfInBounds_toArray,List.set_cons_zero,List.set_cons_succ])
 refine take_at 14 22 cfuser1_14 (yields_part (w.heap.size) 17 24 (.tmp 21) #[.int .i64 g.d.k,.int .i64 g.d.i,.int .i64 g.d.j,.int .i64 g.d.n,(.slice agd g.d.kids.length cgd)] du (fun _ h=>sees_blk Hx1.out (by have:=Z0.out;omega) (sees_of Kk11.out h)) (by rfl) rfl (by rfl) (by rfl) hu1 (by cases du<;>first | rfl | exact hu2) size_term) ?_
 (try simp only [Act.put,List.setIfInBounds_toArray,List.set_cons_zero,List.set_cons_succ])
 refine take_at 16 24 cfuser1_16 (v:=?_) (Or.inl ⟨by rfl,?_⟩) ?_
 rotate_left 1
 ·((intro w hSw;(try dsimp only at hSw);unfold cfuser1_16;go_simp)<;>with_reducible rfl)
 (try simp only [Act.put,List.setIfInBounds_toArray,List.set_cons_zero,List.set_cons_succ])
 refine take_at 17 25 cfuser1_17 (yields_part (w.heap.size) 27 24 (.tmp 24) #[.int .i64 g.f.k,.int .i64 g.f.i,.int .i64 g.f.j,.int .i64 g.f.n,(.slice agf g.f.kids.length cgf)] du (fun _ h=>sees_blk Hx1.out (by have:=Z0.out;omega) (sees_of Kk11.out h)) (by rfl) rfl (by rfl) (by rfl) hu1 (by cases du<;>first | rfl | exact hu2) size_term) ?_
 (try simp only [Act.put,List.setIfInBounds_toArray,List.set_cons_zero,List.set_cons_succ])
 refine wpAnyH_ready (rs:=[10]) (by kernel_rfl) (by simp) ?_
 refine AllReadyH.cons (o:=cfuser1_10) rfl (fun K hK=>?_) ?_
 ·unfold cfuser1_10
  go_simp
  refine(cmake2_any 14 g.a g.b (Par w V0.heap.size [] P) _ (.slice aga g.a.kids.length cga) (.slice agb g.b.kids.length cgb) (show I64 14 from by unfold I64;decide) Gg.out.2.2.1 (HLga.out.later Kk11.out) Gg.out.2.2.2.2.1 (HLgb.out.later Kk11.out)).mono ?_
  obtain⟨U19,hU19⟩:∃ qu,nodeT 14 [g.a,g.b]=qu:=⟨_,rfl⟩
  rw [hU19]
  have HU19:=Lib.hid hU19
  clear hU19
  rintro e w12 ⟨s14,rfl,hl15,k13⟩
  obtain⟨a16,c17,S18,rfl,-⟩:=hl15.out
  have Kk20:=Lib.hid k13
  clear k13
  have Hhl15:Hid (LiesQ w12 (Par w V0.heap.size [] P) U19.kids _):=par_give hl15 (Below.size Kk11.out) (xlt_nil _)
  clear hl15
  clear hHeld
  refine hK.out _ _ (sees_kept _ Kk20.out) (fun hHeld=>?_)
  clear hK K
  (try simp only [Act.put,List.setIfInBounds_toArray,List.set_cons_zero,List.set_cons_succ])
  refine wpAnyH_ready (rs:=[15]) (by kernel_rfl) (by simp) ?_
  refine AllReadyH.cons (o:=cfuser1_15) rfl (fun K hK=>?_) ?_
  ·unfold cfuser1_15
   go_simp
   refine(cmake2_any 14 g.c g.d (Par w V0.heap.size [] P) _ (.slice agc g.c.kids.length cgc) (.slice agd g.d.kids.length cgd) (show I64 14 from by unfold I64;decide) Gg.out.2.2.2.1 (HLgc.out.later (kept_trans Kk11.out Kk20.out)) Gg.out.2.2.2.2.2.1 (HLgd.out.later (kept_trans Kk11.out Kk20.out))).mono ?_
   obtain⟨U28,hU28⟩:∃ qu,nodeT 14 [g.c,g.d]=qu:=⟨_,rfl⟩
   rw [hU28]
   have HU28:=Lib.hid hU28
   clear hU28
   rintro e w21 ⟨s23,rfl,hl24,k22⟩
   obtain⟨a25,c26,S27,rfl,-⟩:=hl24.out
   have Kk29:=Lib.hid k22
   clear k22
   have Hhl24:Hid (LiesQ w21 (Par w V0.heap.size [] P) U28.kids _):=par_give hl24 (Below.size (kept_trans Kk11.out Kk20.out)) (xlt_nil _)
   clear hl24
   clear hHeld
   refine hK.out _ _ (sees_kept _ (kept_trans Kk20.out Kk29.out)) (fun hHeld=>?_)
   clear hK K
   (try simp only [Act.put,List.setIfInBounds_toArray,List.set_cons_zero,List.set_cons_succ])
   refine wpAnyH_ready (rs:=[18]) (by kernel_rfl) (by simp) ?_
   refine AllReadyH.cons (o:=cfuser1_18) rfl (fun K hK=>?_) ?_
   ·unfold cfuser1_18
    go_simp
    refine at_K (fun W31 hW31=>?_)
    obtain⟨g35,hg36,Kk33,Hx32,Hz34,KV37,HN38⟩:=alloc1v (kept_trans Kk11.out (kept_trans Kk20.out Kk29.out)) hW31
    rw [hg36]
    clear hW31
    have kq40:=(kept_trans Kk29.out Kk33.out)
    have HR39:=Lib.hid (q_row6 Hx32.out Gg.out.2.2.1 (HLga.out.later KV37.out) Gg.out.2.2.2.1 (HLgc.out.later KV37.out) Gg.out.2.2.2.2.2.2.1 (HLge.out.later KV37.out) (by rw [←HU19.out];exact(node_fine (show I64 14 from by unfold I64;decide))) (Hhl15.out.later kq40) (by rw [←HU28.out];exact(node_fine (show I64 14 from by unfold I64;decide))) (Hhl24.out.later Kk33.out) Gg.out.2.2.2.2.2.2.2 (HLgf.out.later KV37.out) (par_newg HN38.out (fun h=>nomatch h)))
    clear kq40
    clear hg36
    clear hHeld
    refine hK.out _ _ (sees_kept _ (kept_trans Kk20.out (kept_trans Kk29.out Kk33.out))) (fun hHeld=>?_)
    clear hK K
    (try simp only [Act.put,List.setIfInBounds_toArray,List.set_cons_zero,List.set_cons_succ])
    refine take_at 19 7 cfuser1_19 (v:=?_) (Or.inl ⟨by rfl,?_⟩) ?_
    rotate_left 1
    ·((intro w hSw;(try dsimp only at hSw);unfold cfuser1_19;go_simp)<;>with_reducible rfl)
    (try simp only [Act.put,List.setIfInBounds_toArray,List.set_cons_zero,List.set_cons_succ])
    refine wpAnyH_done (by kernel_rfl) ?_ _
    clear hHeld
    have kvV0:Sees V0 (w.heap.size+1) W31:=sees_kept _ KV37.out
    go_wp2_with fail
    clear kvV0
    obtain⟨W41,h42⟩:∃ x,World.drew W31=x:=⟨_,rfl⟩
    have k43:Kept W31 W41:=by rw [←h42];exact kept_drew (kept_refl _)
    have Kk44:=Lib.hid k43
    clear k43
    refine wp_region_held_drew (S:=Sees W41 (w.heap.size+1)) (by kernel_rfl) ?_ (fun hHeld=>?_)
    ·(try dsimp only)
     rw [h42]
     exact sees_kept _ (kept_refl _)
    rw [h42] at hHeld ⊢
    clear h42
    refine take_at 0 27 cfuser2_0 (v:=?_) (Or.inl ⟨by rfl,?_⟩) ?_
    rotate_left 1
    ·((intro w hSw;(try dsimp only at hSw);unfold cfuser2_0;go_simp)<;>with_reducible rfl)
    (try simp only [Act.put,List.setIfInBounds_toArray,List.set_cons_zero,List.set_cons_succ])
    refine take_at 1 28 cfuser2_1 (v:=?_) (Or.inl ⟨by rfl,?_⟩) ?_
    rotate_left 1
    ·((intro w hSw;(try dsimp only at hSw);unfold cfuser2_1;go_simp)<;>with_reducible rfl)
    (try simp only [Act.put,List.setIfInBounds_toArray,List.set_cons_zero,List.set_cons_succ])
    refine take_at 2 29 cfuser2_2 (v:=?_) (Or.inl ⟨by rfl,?_⟩) ?_
    rotate_left 1
    ·((intro w hSw;(try dsimp only at hSw);have qV0:=sees_of (kept_trans Kk11.out (kept_trans Kk20.out (kept_trans Kk29.out (kept_trans Kk33.out Kk44.out)))) hSw;unfold cfuser2_2;go_simp)<;>with_reducible rfl)
    (try simp only [Act.put,List.setIfInBounds_toArray,List.set_cons_zero,List.set_cons_succ])
    refine take_at 3 30 cfuser2_3 (v:=?_) (Or.inl ⟨by rfl,?_⟩) ?_
    rotate_left 1
    ·((intro w hSw;(try dsimp only at hSw);unfold cfuser2_3;go_simp)<;>with_reducible rfl)
    (try simp only [Act.put,List.setIfInBounds_toArray,List.set_cons_zero,List.set_cons_succ])
    refine take_at 4 31 cfuser2_4 (v:=?_) (Or.inl ⟨by rfl,?_⟩) ?_
    rotate_left 1
    ·((intro w hSw;(try dsimp only at hSw);have qV0:=sees_of (kept_trans Kk11.out (kept_trans Kk20.out (kept_trans Kk29.out (kept_trans Kk33.out Kk44.out)))) hSw;unfold cfuser2_4;go_simp)<;>with_reducible rfl)
    (try simp only [Act.put,List.setIfInBounds_toArray,List.set_cons_zero,List.set_cons_succ])
    refine take_at 5 32 cfuser2_5 (v:=?_) (Or.inl ⟨by rfl,?_⟩) ?_
    rotate_left 1
    ·((intro w hSw;(try dsimp only at hSw);unfold cfuser2_5;go_simp)<;>with_reducible rfl)
    (try simp only [Act.put,List.setIfInBounds_toArray,List.set_cons_zero,List.set_cons_succ])
    refine take_at 6 33 cfuser2_6 (v:=?_) (Or.inl ⟨by rfl,?_⟩) ?_
    rotate_left 1
    ·((intro w hSw;(try dsimp only at hSw);unfold cfuser2_6;go_simp)<;>with_reducible rfl)
    (try simp only [Act.put,List.setIfInBounds_toArray,List.set_cons_zero,List.set_cons_succ])
    refine wpAnyH_ready (rs:=[7]) (by kernel_rfl) (by simp) ?_
    refine AllReadyH.cons (o:=cfuser2_7) rfl (fun K hK=>?_) ?_
    ·unfold cfuser2_7
     refine step_append_list rfl (.tmp 32) (.tmp 33) rfl [g.a,g.c,g.e,U19,U28,g.f] more (.slice (some ⟨g35,0,none⟩) 6 6) (.slice amore more.length cmore) rfl rfl (HR39.out.later Kk44.out) (HLmore.out.later (kept_trans Kk11.out (kept_trans Kk20.out (kept_trans Kk29.out (kept_trans Kk33.out Kk44.out))))) ⟨_,rfl⟩ (Nat.le_of_ble_eq_true rfl) (app_len2 (Nat.le_of_ble_eq_true rfl) Hmn.out) ?_
     intro s47 w45 hl48 k46
     obtain⟨a49,c50,S51,rfl,-⟩:=hl48.out
     have Kk52:=Lib.hid k46
     clear k46
     have Hhl48:Hid (LiesQ w45 (Par w V0.heap.size [] P) ([g.a,g.c,g.e,U19,U28,g.f]++more) _):=par_give hl48 (Below.size (kept_trans Kk11.out (kept_trans Kk20.out (kept_trans Kk29.out (kept_trans Kk33.out Kk44.out))))) (xlt_nil _)
     clear hl48
     clear hHeld
     refine hK.out _ _ (sees_kept _ Kk52.out) (fun hHeld=>?_)
     clear hK K
     (try simp only [Act.put,List.setIfInBounds_toArray,List.set_cons_zero,List.set_cons_succ])
     refine wpAnyH_ready (rs:=[8]) (by kernel_rfl) (by simp) ?_
     refine AllReadyH.cons (o:=cfuser2_8) rfl (fun K hK=>?_) ?_
     ·unfold cfuser2_8
      go_simp
      refine(cuse_any n g.i g.j ([g.a,g.c,g.e,U19,U28,g.f]++more) (Par w V0.heap.size [] P) _ (.slice a49 (List.length ([g.a,g.c,g.e,U19,U28,g.f]++more)) c50) Rn.out Gg.out.1 Gg.out.2.1 Hhl48.out (plain_app (fun x hx=>by
       simp only [List.mem_cons,List.not_mem_nil,or_false] at hx
       rcases hx with rfl | rfl | rfl | rfl | rfl | rfl
       ·exact(fmR_pl HRg.out _ (by simp))
       ·exact(fmR_pl HRg.out _ (by simp))
       ·exact(fmR_pl HRg.out _ (by simp))
       ·exact(by rw [←HU19.out];exact(node_plain (by rfl) (by rfl) (by rfl) (fun x hx=>by
       simp only [List.mem_cons,List.not_mem_nil,or_false] at hx
       rcases hx with rfl | rfl
       ·exact(fmR_pl HRg.out _ (by simp))
       ·exact(fmR_pl HRg.out _ (by simp)))))
       ·exact(by rw [←HU28.out];exact(node_plain (by rfl) (by rfl) (by rfl) (fun x hx=>by
       simp only [List.mem_cons,List.not_mem_nil,or_false] at hx
       rcases hx with rfl | rfl
       ·exact(fmR_pl HRg.out _ (by simp))
       ·exact(fmR_pl HRg.out _ (by simp)))))
       ·exact(fmR_pl HRg.out _ (by simp))) Hmp.out) (app_len (Nat.le_of_ble_eq_true rfl) Hmn.out)).mono ?_
      obtain⟨U60,hU60⟩:∃ qu,useT n g.i g.j ([g.a,g.c,g.e,U19,U28,g.f]++more)=qu:=⟨_,rfl⟩
      rw [hU60]
      have HU60:=Lib.hid hU60
      clear hU60
      rintro e w53 ⟨s55,rfl,hl56,k54⟩
      obtain⟨a57,c58,S59,rfl,-⟩:=hl56.out
      have Kk61:=Lib.hid k54
      clear k54
      have Hhl56:Hid (LiesQ w53 (Par w V0.heap.size [] P) U60.kids _):=par_give hl56 (Below.size (kept_trans Kk11.out (kept_trans Kk20.out (kept_trans Kk29.out (kept_trans Kk33.out (kept_trans Kk44.out Kk52.out)))))) (xlt_nil _)
      clear hl56
      clear hHeld
      refine hK.out _ _ (sees_kept _ (kept_trans Kk52.out Kk61.out)) (fun hHeld=>?_)
      clear hK K
      (try simp only [Act.put,List.setIfInBounds_toArray,List.set_cons_zero,List.set_cons_succ])
      refine wpAnyH_ready (rs:=[9]) (by kernel_rfl) (by simp) ?_
      refine AllReadyH.cons (o:=cfuser2_9) rfl (fun K hK=>?_) ?_
      ·unfold cfuser2_9
       refine step_store_part rfl 24 (.tmp 6) (.tmp 35) rfl (w.heap.size+1) 0 #[.int .i64 U60.k,.int .i64 U60.i,.int .i64 U60.j,.int .i64 U60.n,(.slice a57 U60.kids.length c58)] rfl rfl 24 size_term (row_ok rfl) _ #[.int .i64 U60.k,.int .i64 U60.i,.int .i64 U60.j,.int .i64 U60.n,(.slice a57 U60.kids.length c58)] (blk_at Hx2.out (kept_trans Kk11.out (kept_trans Kk20.out (kept_trans Kk29.out (kept_trans Kk33.out (kept_trans Kk44.out (kept_trans Kk52.out Kk61.out))))))) rfl (Nat.le_of_ble_eq_true rfl) ?_
       intro W62 hW62
       clear hHeld
       refine hK.out _ _ (sees_set (kept_trans Kk52.out Kk61.out) hW62) (fun hHeld=>?_)
       clear hK K
       (try simp only [Act.put])
       refine wpAnyH_done (by kernel_rfl) ?_ _
       clear hHeld
       go_wp2_with fail
       refine bodyPost_ret (results_cell_row rfl _ _ (w.heap.size+1) 24 _ _ du rfl (blk_same (blk_at Hx2.out (kept_trans Kk11.out (kept_trans Kk20.out (kept_trans Kk29.out (kept_trans Kk33.out (kept_trans Kk44.out (kept_trans Kk52.out Kk61.out))))))) hW62) hu1 (by cases du<;>first | rfl | exact hu2) size_term) rfl ?_
       rw [show sixT n g more=U60 from by unfold sixT;rw [←HU60.out];rw [←HU28.out];rw [←HU19.out];(try rfl)]
       exact⟨_,rfl,par_end (par_row' Hhl56.out hW62 (by omega) (by have:=Z0.out;omega)) (by have:=Z0.out;omega),kept_set (kept_trans Kk5.out (kept_trans Kk11.out (kept_trans Kk20.out (kept_trans Kk29.out (kept_trans Kk33.out (kept_trans Kk44.out (kept_trans Kk52.out Kk61.out))))))) hW62 (by omega)⟩
      exact AllReadyH.nil
     exact AllReadyH.nil
    exact AllReadyH.nil
   exact AllReadyH.nil
  exact AllReadyH.nil
 exact AllReadyH.nil
end Go.Proofs.Ytpdinlejmlbbeaa

namespace Go.Proofs.Ytpdinlejmlbbeaa
open Go.RowKit
set_option maxRecDepth 20000 in
set_option maxHeartbeats 4000000 in
theorem rfright_any (g:Fm) (P:Nat→Prop) (w:World) (sga:Value) (sgc:Value) (sgb:Value) (sgd:Value) (sge:Value) (sgf:Value) (hfg:g.fine) (hlg:FQ w P g sga sgc sgb sgd sge sgf):Calls Try.prog 25 #[fv g sga sgc sgb sgd sge sgf] w fun e w'=>e=.returned (.bool (fmR g))∧Kept w w':=by
 have Gg:=Lib.hid hfg
 clear hfg
 obtain⟨hlga,hlgc,hlgb,hlgd,hlge,hlgf⟩:=hlg
 obtain⟨aga,cga,Sga,rfl,-⟩:=hlga.out
 obtain⟨agc,cgc,Sgc,rfl,-⟩:=hlgc.out
 obtain⟨agb,cgb,Sgb,rfl,-⟩:=hlgb.out
 obtain⟨agd,cgd,Sgd,rfl,-⟩:=hlgd.out
 obtain⟨age,cge,Sge,rfl,-⟩:=hlge.out
 obtain⟨agf,cgf,Sgf,rfl,-⟩:=hlgf.out
 obtain⟨du,hu1,hu2⟩:=under_term
 obtain⟨dq,dq1,dq2⟩:=under_of 26 (by kernel_rfl)
 unfold fv
 go_enter Try.func25,Try.ntmps25
 go_upto_region 1 with fail
 refine at_code (fun V0 hV0=>?_)
 obtain⟨k2,x1,z3⟩:=alloc1 hV0
 have Kk4:=Lib.hid k2
 clear k2
 have Hx1:=Lib.hid x1
 have Z0:=Lib.hid z3
 clear z3 x1 hV0
 have HLga:Hid (LiesQ V0 (Par w V0.heap.size [] P) g.a.kids _):=(par_in _ _ hlga).later Kk4.out
 clear hlga
 have HLgc:Hid (LiesQ V0 (Par w V0.heap.size [] P) g.c.kids _):=(par_in _ _ hlgc).later Kk4.out
 clear hlgc
 have HLgb:Hid (LiesQ V0 (Par w V0.heap.size [] P) g.b.kids _):=(par_in _ _ hlgb).later Kk4.out
 clear hlgb
 have HLgd:Hid (LiesQ V0 (Par w V0.heap.size [] P) g.d.kids _):=(par_in _ _ hlgd).later Kk4.out
 clear hlgd
 have HLge:Hid (LiesQ V0 (Par w V0.heap.size [] P) g.e.kids _):=(par_in _ _ hlge).later Kk4.out
 clear hlge
 have HLgf:Hid (LiesQ V0 (Par w V0.heap.size [] P) g.f.kids _):=(par_in _ _ hlgf).later Kk4.out
 clear hlgf
 have ld5:=partN_cell (r:=V0.heap.size) Hx1.out trivial 0 (.int .i64 g.i) rfl
 have ld6:=partN_cell (r:=V0.heap.size) Hx1.out trivial 1 (.int .i64 g.j) rfl
 have kvV0:SeesN V0 V0.heap.size V0:=seesN_kept _ (kept_refl _)
 go_wp2_with fail
 clear kvV0
 refine(rlevel_any g.i 3 _ Gg.out.1 (show I64 3 from by unfold I64;decide) (by decide) (by decide)).mono ?_
 obtain⟨rb10,hb9⟩:∃ qb,(levN 3 g.i)=qb:=⟨_,rfl⟩
 rw [hb9]
 have Hhb9:=Lib.hid hb9
 clear hb9
 rintro e w7 ⟨rfl,k8⟩
 have Kk11:=Lib.hid k8
 clear k8
 cases rb10 with
 | false =>
  have kvV0:SeesN V0 V0.heap.size w7:=seesN_kept _ Kk11.out
  go_wp2
  go_ret
  exact⟨ret_bool (Eq.symm (show fmR g=false from by unfold fmR;rw [Hhb9.out];(try rfl))),(kept_trans Kk4.out Kk11.out)⟩
 | true =>
  have kvV0:SeesN V0 V0.heap.size w7:=seesN_kept _ Kk11.out
  go_wp2_with fail
  clear kvV0
  refine(rlevel_any g.j 3 _ Gg.out.2.1 (show I64 3 from by unfold I64;decide) (by decide) (by decide)).mono ?_
  obtain⟨rb15,hb14⟩:∃ qb,(levN 3 g.j)=qb:=⟨_,rfl⟩
  rw [hb14]
  have Hhb14:=Lib.hid hb14
  clear hb14
  rintro e w12 ⟨rfl,k13⟩
  have Kk16:=Lib.hid k13
  clear k13
  cases rb15 with
  | false =>
   have kvV0:SeesN V0 V0.heap.size w12:=seesN_kept _ (kept_trans Kk11.out Kk16.out)
   go_wp2
   go_ret
   exact⟨ret_bool (Eq.symm (show fmR g=false from by unfold fmR;rw [Hhb9.out,Hhb14.out];(try rfl))),(kept_trans Kk4.out (kept_trans Kk11.out Kk16.out))⟩
  | true =>
   have kvV0:SeesN V0 V0.heap.size w12:=seesN_kept _ (kept_trans Kk11.out Kk16.out)
   go_wp2_with (refine stop_load 24 (.tmp 12) rfl ?_)
   intro _
   refine wpList_load_part (w.heap.size) 2 24 (.tmp 12) #[.int .i64 g.a.k,.int .i64 g.a.i,.int .i64 g.a.j,.int .i64 g.a.n,(.slice aga g.a.kids.length cga)] du (blk_at Hx1.out (kept_trans Kk11.out Kk16.out)) (by rfl) rfl (by rfl) (by rfl) hu1 (by cases du<;>first | rfl | exact hu2) size_term ?_
   go_wp2_with (refine stop_load 24 (.tmp 14) rfl ?_)
   intro _
   refine wpList_load_part (w.heap.size) 7 24 (.tmp 14) #[.int .i64 g.c.k,.int .i64 g.c.i,.int .i64 g.c.j,.int .i64 g.c.n,(.slice agc g.c.kids.length cgc)] du (blk_at Hx1.out (kept_trans Kk11.out Kk16.out)) (by rfl) rfl (by rfl) (by rfl) hu1 (by cases du<;>first | rfl | exact hu2) size_term ?_
   go_wp2_with (refine stop_load 24 (.tmp 16) rfl ?_)
   intro _
   refine wpList_load_part (w.heap.size) 12 24 (.tmp 16) #[.int .i64 g.b.k,.int .i64 g.b.i,.int .i64 g.b.j,.int .i64 g.b.n,(.slice agb g.b.kids.length cgb)] du (blk_at Hx1.out (kept_trans Kk11.out Kk16.out)) (by rfl) rfl (by rfl) (by rfl) hu1 (by cases du<;>first | rfl | exact hu2) size_term ?_
   go_wp2_with (refine stop_load 24 (.tmp 18) rfl ?_)
   intro _
   refine wpList_load_part (w.heap.size) 17 24 (.tmp 18) #[.int .i64 g.d.k,.int .i64 g.d.i,.int .i64 g.d.j,.int .i64 g.d.n,(.slice agd g.d.kids.length cgd)] du (blk_at Hx1.out (kept_trans Kk11.out Kk16.out)) (by rfl) rfl (by rfl) (by rfl) hu1 (by cases du<;>first | rfl | exact hu2) size_term ?_
   go_wp2_with (refine stop_load 24 (.tmp 20) rfl ?_)
   intro _
   refine wpList_load_part (w.heap.size) 22 24 (.tmp 20) #[.int .i64 g.e.k,.int .i64 g.e.i,.int .i64 g.e.j,.int .i64 g.e.n,(.slice age g.e.kids.length cge)] du (blk_at Hx1.out (kept_trans Kk11.out Kk16.out)) (by rfl) rfl (by rfl) (by rfl) hu1 (by cases du<;>first | rfl | exact hu2) size_term ?_
   go_wp2_with (refine stop_load 24 (.tmp 22) rfl ?_)
   intro _
   refine wpList_load_part (w.heap.size) 27 24 (.tmp 22) #[.int .i64 g.f.k,.int .i64 g.f.i,.int .i64 g.f.j,.int .i64 g.f.n,(.slice agf g.f.kids.length cgf)] du (blk_at Hx1.out (kept_trans Kk11.out Kk16.out)) (by rfl) rfl (by rfl) (by rfl) hu1 (by cases du<;>first | rfl | exact hu2) size_term ?_
   go_wp2_with fail
   refine at_world (fun W18 hW18=>?_)
   clear kvV0
   obtain⟨k20,x19,z21⟩:=alloc1 hW18
   have Kk22:=Lib.hid k20
   clear k20
   have Hx19:=Lib.hid x19
   have Hz21:=Lib.hid z21
   clear x19 z21 hW18
   have kq24:=(kept_trans Kk11.out (kept_trans Kk16.out Kk22.out))
   have HR23:=Lib.hid (q_row6 Hx19.out Gg.out.2.2.1 (HLga.out.later kq24) Gg.out.2.2.2.1 (HLgc.out.later kq24) Gg.out.2.2.2.2.1 (HLgb.out.later kq24) Gg.out.2.2.2.2.2.1 (HLgd.out.later kq24) Gg.out.2.2.2.2.2.2.1 (HLge.out.later kq24) Gg.out.2.2.2.2.2.2.2 (HLgf.out.later kq24) (par_new (Below.size (kept_trans Kk11.out Kk16.out)) (xlt_nil _) (Nat.le_refl _)))
   clear kq24
   refine(rplain_any [g.a,g.c,g.b,g.d,g.e,g.f] _ _ HR23.out.lies).mono ?_
   obtain⟨rb28,hb27⟩:∃ qb,(plainL [g.a,g.c,g.b,g.d,g.e,g.f])=qb:=⟨_,rfl⟩
   rw [hb27]
   have Hhb27:=Lib.hid hb27
   clear hb27
   rintro e w25 ⟨rfl,k26⟩
   have Kk29:=Lib.hid k26
   clear k26
   cases rb28 with
   | false =>
    have kvV0:SeesN V0 V0.heap.size w25:=seesN_kept _ (kept_trans Kk11.out (kept_trans Kk16.out (kept_trans Kk22.out Kk29.out)))
    go_wp2
    go_ret
    exact⟨ret_bool (Eq.symm (show fmR g=false from by unfold fmR;rw [Hhb9.out,Hhb14.out,Hhb27.out];(try rfl))),(kept_trans Kk4.out (kept_trans Kk11.out (kept_trans Kk16.out (kept_trans Kk22.out Kk29.out))))⟩
   | true =>
    have kvV0:SeesN V0 V0.heap.size w25:=seesN_kept _ (kept_trans Kk11.out (kept_trans Kk16.out (kept_trans Kk22.out Kk29.out)))
    go_wp2
    go_ret
    exact⟨ret_bool (Eq.symm (show fmR g=true from by unfold fmR;rw [Hhb9.out,Hhb14.out,Hhb27.out];(try rfl))),(kept_trans Kk4.out (kept_trans Kk11.out (kept_trans Kk16.out (kept_trans Kk22.out Kk29.out))))⟩
def rsixr1_0:Oper:={dst:=some 8,op:=Go.Op.fieldAddr 26 (Go.Operand.tmp 4) 2,type:=0,pos := "ref.go:136",after:=#[],guard:=none}
def rsixr1_1:Oper:={dst:=some 9,op:=Go.Op.load 24 (Go.Operand.tmp 8),type:=24,pos := "ref.go:136",after:=#[{on:=0,ground:=Go.Ground.data}],guard:=none}
def rsixr1_2:Oper:={dst:=some 10,op:=Go.Op.fieldAddr 26 (Go.Operand.tmp 4) 3,type:=0,pos := "ref.go:136",after:=#[],guard:=none}
def rsixr1_3:Oper:={dst:=some 11,op:=Go.Op.load 24 (Go.Operand.tmp 10),type:=24,pos := "ref.go:136",after:=#[{on:=2,ground:=Go.Ground.data}],guard:=none}
def rsixr1_4:Oper:={dst:=some 12,op:=Go.Op.fieldAddr 26 (Go.Operand.tmp 4) 6,type:=0,pos := "ref.go:136",after:=#[],guard:=none}
def rsixr1_5:Oper:={dst:=some 13,op:=Go.Op.load 24 (Go.Operand.tmp 12),type:=24,pos := "ref.go:136",after:=#[{on:=4,ground:=Go.Ground.data}],guard:=none}
def rsixr1_6:Oper:={dst:=some 14,op:=Go.Op.fieldAddr 26 (Go.Operand.tmp 4) 2,type:=0,pos := "ref.go:136",after:=#[],guard:=none}
def rsixr1_7:Oper:={dst:=some 15,op:=Go.Op.load 24 (Go.Operand.tmp 14),type:=24,pos := "ref.go:136",after:=#[{on:=6,ground:=Go.Ground.data}],guard:=none}
def rsixr1_8:Oper:={dst:=some 16,op:=Go.Op.fieldAddr 26 (Go.Operand.tmp 4) 4,type:=0,pos := "ref.go:136",after:=#[],guard:=none}
def rsixr1_9:Oper:={dst:=some 17,op:=Go.Op.load 24 (Go.Operand.tmp 16),type:=24,pos := "ref.go:136",after:=#[{on:=8,ground:=Go.Ground.data}],guard:=none}
def rsixr1_10:Oper:={dst:=some 18,op:=Go.Op.buildSlice 22 2 #[(0,Go.Operand.tmp 15),(1,Go.Operand.tmp 17)],type:=22,pos := "ref.go:136",after:=#[{on:=7,ground:=Go.Ground.data},{on:=9,ground:=Go.Ground.data}],guard:=none}
def rsixr1_11:Oper:={dst:=some 19,op:=Go.Op.call {callee:=Go.Callee.value (Go.Operand.func 28),args:=#[Go.Operand.const (Go.Value.int Go.IntKind.i64 14),Go.Operand.tmp 18],argTypes:=#[3,22] },type:=24,pos := "ref.go:136",after:=#[{on:=10,ground:=Go.Ground.data}],guard:=none}
def rsixr1_12:Oper:={dst:=some 20,op:=Go.Op.fieldAddr 26 (Go.Operand.tmp 4) 3,type:=0,pos := "ref.go:136",after:=#[],guard:=none}
def rsixr1_13:Oper:={dst:=some 21,op:=Go.Op.load 24 (Go.Operand.tmp 20),type:=24,pos := "ref.go:136",after:=#[{on:=12,ground:=Go.Ground.data}],guard:=none}
def rsixr1_14:Oper:={dst:=some 22,op:=Go.Op.fieldAddr 26 (Go.Operand.tmp 4) 5,type:=0,pos := "ref.go:136",after:=#[],guard:=none}
def rsixr1_15:Oper:={dst:=some 23,op:=Go.Op.load 24 (Go.Operand.tmp 22),type:=24,pos := "ref.go:136",after:=#[{on:=14,ground:=Go.Ground.data}],guard:=none}
def rsixr1_16:Oper:={dst:=some 24,op:=Go.Op.buildSlice 22 2 #[(0,Go.Operand.tmp 21),(1,Go.Operand.tmp 23)],type:=22,pos := "ref.go:136",after:=#[{on:=13,ground:=Go.Ground.data},{on:=15,ground:=Go.Ground.data}],guard:=none}
def rsixr1_17:Oper:={dst:=some 25,op:=Go.Op.call {callee:=Go.Callee.value (Go.Operand.func 28),args:=#[Go.Operand.const (Go.Value.int Go.IntKind.i64 14),Go.Operand.tmp 24],argTypes:=#[3,22] },type:=24,pos := "ref.go:136",after:=#[{on:=16,ground:=Go.Ground.data},{on:=11,ground:=Go.Ground.chain}],guard:=none}
def rsixr1_18:Oper:={dst:=some 26,op:=Go.Op.fieldAddr 26 (Go.Operand.tmp 4) 7,type:=0,pos := "ref.go:136",after:=#[],guard:=none}
def rsixr1_19:Oper:={dst:=some 27,op:=Go.Op.load 24 (Go.Operand.tmp 26),type:=24,pos := "ref.go:136",after:=#[{on:=18,ground:=Go.Ground.data}],guard:=none}
def rsixr1_20:Oper:={dst:=some 28,op:=Go.Op.buildSlice 22 6 #[(0,Go.Operand.tmp 9),(1,Go.Operand.tmp 11),(2,Go.Operand.tmp 13),(3,Go.Operand.tmp 19),(4,Go.Operand.tmp 25),(5,Go.Operand.tmp 27)],type:=22,pos := "ref.go:136",after:=#[{on:=1,ground:=Go.Ground.data},{on:=3,ground:=Go.Ground.data},{on:=5,ground:=Go.Ground.data},{on:=11,ground:=Go.Ground.data},{on:=17,ground:=Go.Ground.data},{on:=19,ground:=Go.Ground.data}],guard:=none}
def rsixr1_21:Oper:={dst:=some 7,op:=Go.Op.assign (Go.Operand.tmp 28),type:=22,pos := "ref.go:136",after:=#[{on:=20,ground:=Go.Ground.data},{on:=17,ground:=Go.Ground.chain},{on:=0,ground:=Go.Ground.phase},{on:=1,ground:=Go.Ground.phase},{on:=2,ground:=Go.Ground.phase},{on:=3,ground:=Go.Ground.phase},{on:=4,ground:=Go.Ground.phase},{on:=5,ground:=Go.Ground.phase},{on:=6,ground:=Go.Ground.phase},{on:=7,ground:=Go.Ground.phase},{on:=8,ground:=Go.Ground.phase},{on:=9,ground:=Go.Ground.phase},{on:=10,ground:=Go.Ground.phase},{on:=11,ground:=Go.Ground.phase},{on:=12,ground:=Go.Ground.phase},{on:=13,ground:=Go.Ground.phase},{on:=14,ground:=Go.Ground.phase},{on:=15,ground:=Go.Ground.phase},{on:=16,ground:=Go.Ground.phase},{on:=17,ground:=Go.Ground.phase},{on:=18,ground:=Go.Ground.phase},{on:=19,ground:=Go.Ground.phase},{on:=20,ground:=Go.Ground.phase}],guard:=none}
def rsixr2_0:Oper:={dst:=some 29,op:=Go.Op.move (Go.Operand.tmp 0),type:=3,pos := "ref.go:137",after:=#[],guard:=none}
def rsixr2_1:Oper:={dst:=some 30,op:=Go.Op.fieldAddr 26 (Go.Operand.tmp 4) 0,type:=0,pos := "ref.go:137",after:=#[],guard:=none}
def rsixr2_2:Oper:={dst:=some 31,op:=Go.Op.load 3 (Go.Operand.tmp 30),type:=3,pos := "ref.go:137",after:=#[{on:=1,ground:=Go.Ground.data}],guard:=none}
def rsixr2_3:Oper:={dst:=some 32,op:=Go.Op.fieldAddr 26 (Go.Operand.tmp 4) 1,type:=0,pos := "ref.go:137",after:=#[],guard:=none}
def rsixr2_4:Oper:={dst:=some 33,op:=Go.Op.load 3 (Go.Operand.tmp 32),type:=3,pos := "ref.go:137",after:=#[{on:=3,ground:=Go.Ground.data}],guard:=none}
def rsixr2_5:Oper:={dst:=some 34,op:=Go.Op.move (Go.Operand.tmp 7),type:=22,pos := "ref.go:137",after:=#[],guard:=none}
def rsixr2_6:Oper:={dst:=some 35,op:=Go.Op.move (Go.Operand.tmp 2),type:=22,pos := "ref.go:137",after:=#[],guard:=none}
def rsixr2_7:Oper:={dst:=some 36,op:=Go.Op.call {callee:=Go.Callee.builtin Go.Builtin.append,args:=#[Go.Operand.tmp 34,Go.Operand.tmp 35],argTypes:=#[22,22] },type:=22,pos := "ref.go:137",after:=#[{on:=5,ground:=Go.Ground.data},{on:=6,ground:=Go.Ground.data}],guard:=none}
def rsixr2_8:Oper:={dst:=some 37,op:=Go.Op.call {callee:=Go.Callee.value (Go.Operand.func 52),args:=#[Go.Operand.tmp 29,Go.Operand.tmp 31,Go.Operand.tmp 33,Go.Operand.tmp 36],argTypes:=#[3,3,3,22] },type:=24,pos := "ref.go:137",after:=#[{on:=0,ground:=Go.Ground.data},{on:=2,ground:=Go.Ground.data},{on:=4,ground:=Go.Ground.data},{on:=7,ground:=Go.Ground.data},{on:=7,ground:=Go.Ground.chain}],guard:=none}
def rsixr2_9:Oper:={dst:=none,op:=Go.Op.store 24 (Go.Operand.tmp 6) (Go.Operand.tmp 37),type:=0,pos := "ref.go:137",after:=#[{on:=8,ground:=Go.Ground.data},{on:=8,ground:=Go.Ground.chain},{on:=0,ground:=Go.Ground.phase},{on:=1,ground:=Go.Ground.phase},{on:=2,ground:=Go.Ground.phase},{on:=3,ground:=Go.Ground.phase},{on:=4,ground:=Go.Ground.phase},{on:=5,ground:=Go.Ground.phase},{on:=6,ground:=Go.Ground.phase},{on:=7,ground:=Go.Ground.phase},{on:=8,ground:=Go.Ground.phase}],guard:=none}
set_option maxRecDepth 20000 in
set_option maxHeartbeats 4000000 in
theorem rsix_any (n:Int) (g:Fm) (more:List Tm) (P:Nat→Prop) (w:World) (sga:Value) (sgc:Value) (sgb:Value) (sgd:Value) (sge:Value) (sgf:Value) (smore:Value) (hrn:I64 n) (hfg:g.fine) (hlg:FQ w P g sga sgc sgb sgd sge sgf) (hlmore:LiesQ w P more smore) (hmn:more.length≤900):Calls Try.prog 29 #[.int .i64 n,fv g sga sgc sgb sgd sge sgf,smore] w (GivesP P (sixT n g more) w):=by
 have Rn:=Lib.hid hrn
 clear hrn
 have Gg:=Lib.hid hfg
 clear hfg
 obtain⟨hlga,hlgc,hlgb,hlgd,hlge,hlgf⟩:=hlg
 obtain⟨aga,cga,Sga,rfl,-⟩:=hlga.out
 obtain⟨agc,cgc,Sgc,rfl,-⟩:=hlgc.out
 obtain⟨agb,cgb,Sgb,rfl,-⟩:=hlgb.out
 obtain⟨agd,cgd,Sgd,rfl,-⟩:=hlgd.out
 obtain⟨age,cge,Sge,rfl,-⟩:=hlge.out
 obtain⟨agf,cgf,Sgf,rfl,-⟩:=hlgf.out
 obtain⟨amore,cmore,Smore,rfl,-⟩:=hlmore.out
 have Hmn:=Lib.hid hmn
 clear hmn
 obtain⟨du,hu1,hu2⟩:=under_term
 obtain⟨dq,dq1,dq2⟩:=under_of 26 (by kernel_rfl)
 unfold fv
 go_enter Try.func29,Try.ntmps29
 go_upto_region 1 with fail
 refine at_code (fun V0 hV0=>?_)
 obtain⟨k3,x1,x2,z4⟩:=alloc2 hV0
 have Kk5:=Lib.hid k3
 clear k3
 have Hx1:=Lib.hid x1
 have Hx2:=Lib.hid x2
 have Z0:=Lib.hid z4
 clear z4 x1 x2 hV0
 have HLga:Hid (LiesQ V0 (Par w V0.heap.size [] P) g.a.kids _):=(par_in _ _ hlga).later Kk5.out
 clear hlga
 have HLgc:Hid (LiesQ V0 (Par w V0.heap.size [] P) g.c.kids _):=(par_in _ _ hlgc).later Kk5.out
 clear hlgc
 have HLgb:Hid (LiesQ V0 (Par w V0.heap.size [] P) g.b.kids _):=(par_in _ _ hlgb).later Kk5.out
 clear hlgb
 have HLgd:Hid (LiesQ V0 (Par w V0.heap.size [] P) g.d.kids _):=(par_in _ _ hlgd).later Kk5.out
 clear hlgd
 have HLge:Hid (LiesQ V0 (Par w V0.heap.size [] P) g.e.kids _):=(par_in _ _ hlge).later Kk5.out
 clear hlge
 have HLgf:Hid (LiesQ V0 (Par w V0.heap.size [] P) g.f.kids _):=(par_in _ _ hlgf).later Kk5.out
 clear hlgf
 have HLmore:Hid (LiesQ V0 (Par w V0.heap.size [] P) more _):=(par_in _ _ hlmore).later Kk5.out
 clear hlmore
 have ld6:=part_cell (r:=(w.heap.size+1)) Hx1.out (by have:=Z0.out;omega) 0 (.int .i64 g.i) rfl
 have ld7:=part_cell (r:=(w.heap.size+1)) Hx1.out (by have:=Z0.out;omega) 1 (.int .i64 g.j) rfl
 have kvV0:Sees V0 (w.heap.size+1) V0:=sees_kept _ (kept_refl _)
 go_wp2_with fail
 clear kvV0
 obtain⟨W8,h9⟩:∃ x,World.drew V0=x:=⟨_,rfl⟩
 have k10:Kept V0 W8:=by rw [←h9];exact kept_drew (kept_refl _)
 have Kk11:=Lib.hid k10
 clear k10
 refine wp_region_held_drew (S:=Sees W8 (w.heap.size+1)) (by kernel_rfl) ?_ (fun hHeld=>?_)
 ·(try dsimp only)
  rw [h9]
  exact sees_kept _ (kept_refl _)
 rw [h9] at hHeld ⊢
 clear h9
 refine take_at 0 8 rsixr1_0 (v:=?_) (Or.inl ⟨by rfl,?_⟩) ?_
 rotate_left 1
 ·((intro w hSw;(try dsimp only at hSw);unfold rsixr1_0;go_simp)<;>with_reducible rfl)
 (try simp only [Act.put,List.setIfInBounds_toArray,List.set_cons_zero,List.set_cons_succ])
 refine take_at 1 9 rsixr1_1 (yields_part (w.heap.size) 2 24 (.tmp 8) #[.int .i64 g.a.k,.int .i64 g.a.i,.int .i64 g.a.j,.int .i64 g.a.n,(.slice aga g.a.kids.length cga)] du (fun _ h=>sees_blk Hx1.out (by have:=Z0.out;omega) (sees_of Kk11.out h)) (by rfl) rfl (by rfl) (by rfl) hu1 (by cases du<;>first | rfl | exact hu2) size_term) ?_
 (try simp only [Act.put,List.setIfInBounds_toArray,List.set_cons_zero,List.set_cons_succ])
 refine take_at 2 10 rsixr1_2 (v:=?_) (Or.inl ⟨by rfl,?_⟩) ?_
 rotate_left 1
 ·((intro w hSw;(try dsimp only at hSw);unfold rsixr1_2;go_simp)<;>with_reducible rfl)
 (try simp only [Act.put,List.setIfInBounds_toArray,List.set_cons_zero,List.set_cons_succ])
 refine take_at 3 11 rsixr1_3 (yields_part (w.heap.size) 7 24 (.tmp 10) #[.int .i64 g.c.k,.int .i64 g.c.i,.int .i64 g.c.j,.int .i64 g.c.n,(.slice agc g.c.kids.length cgc)] du (fun _ h=>sees_blk Hx1.out (by have:=Z0.out;omega) (sees_of Kk11.out h)) (by rfl) rfl (by rfl) (by rfl) hu1 (by cases du<;>first | rfl | exact hu2) size_term) ?_
 (try simp only [Act.put,List.setIfInBounds_toArray,List.set_cons_zero,List.set_cons_succ])
 refine take_at 4 12 rsixr1_4 (v:=?_) (Or.inl ⟨by rfl,?_⟩) ?_
 rotate_left 1
 ·((intro w hSw;(try dsimp only at hSw);unfold rsixr1_4;go_simp)<;>with_reducible rfl)
 (try simp only [Act.put,List.setIfInBounds_toArray,List.set_cons_zero,List.set_cons_succ])
 refine take_at 5 13 rsixr1_5 (yields_part (w.heap.size) 22 24 (.tmp 12) #[.int .i64 g.e.k,.int .i64 g.e.i,.int .i64 g.e.j,.int .i64 g.e.n,(.slice age g.e.kids.length cge)] du (fun _ h=>sees_blk Hx1.out (by have:=Z0.out;omega) (sees_of Kk11.out h)) (by rfl) rfl (by rfl) (by rfl) hu1 (by cases du<;>first | rfl | exact hu2) size_term) ?_
 (try simp only [Act.put,List.setIfInBounds_toArray,List.set_cons_zero,List.set_cons_succ])
 refine take_at 6 14 rsixr1_6 (v:=?_) (Or.inl ⟨by rfl,?_⟩) ?_
 rotate_left 1
 ·((intro w hSw;(try dsimp only at hSw);unfold rsixr1_6;go_simp)<;>with_reducible rfl)
 (try simp only [Act.put,List.setIfInBounds_toArray,List.set_cons_zero,List.set_cons_succ])
 refine take_at 7 15 rsixr1_7 (yields_part (w.heap.size) 2 24 (.tmp 14) #[.int .i64 g.a.k,.int .i64 g.a.i,.int .i64 g.a.j,.int .i64 g.a.n,(.slice aga g.a.kids.length cga)] du (fun _ h=>sees_blk Hx1.out (by have:=Z0.out;omega) (sees_of Kk11.out h)) (by rfl) rfl (by rfl) (by rfl) hu1 (by cases du<;>first | rfl | exact hu2) size_term) ?_
 (try simp only [Act.put,List.setIfInBounds_toArray,List.set_cons_zero,List.set_cons_succ])
 refine take_at 8 16 rsixr1_8 (v:=?_) (Or.inl ⟨by rfl,?_⟩) ?_
 rotate_left 1
 ·((intro w hSw;(try dsimp only at hSw);unfold rsixr1_8;go_simp)<;>with_reducible rfl)
 (try simp only [Act.put,List.setIfInBounds_toArray,List.set_cons_zero,List.set_cons_succ])
 refine take_at 9 17 rsixr1_9 (yields_part (w.heap.size) 12 24 (.tmp 16) #[.int .i64 g.b.k,.int .i64 g.b.i,.int .i64 g.b.j,.int .i64 g.b.n,(.slice agb g.b.kids.length cgb)] du (fun _ h=>sees_blk Hx1.out (by have:=Z0.out;omega) (sees_of Kk11.out h)) (by rfl) rfl (by rfl) (by rfl) hu1 (by cases du<;>first | rfl | exact hu2) size_term) ?_
 (try simp only [Act.put,List.setIfInBounds_toArray,List.set_cons_zero,List.set_cons_succ])
 refine take_at 12 20 rsixr1_12 (v:=?_) (Or.inl ⟨by rfl,?_⟩) ?_
 rotate_left 1
 ·((intro w hSw;(try dsimp only at hSw);unfold rsixr1_12;go_simp)<;>with_reducible rfl)
 (try simp only [Act.put,List.setIfInBounds_toArray,List.set_cons_zero,List.set_cons_succ])
 refine take_at 13 21 rsixr1_13 (yields_part (w.heap.size) 7 24 (.tmp 20) #[.int .i64 g.c.k,.int .i64 g.c.i,.int .i64 g.c.j,.int .i64 g.c.n,(.slice agc g.c.kids.length cgc)] du (fun _ h=>sees_blk Hx1.out (by have:=Z0.out;omega) (sees_of Kk11.out h)) (by rfl) rfl (by rfl) (by rfl) hu1 (by cases du<;>first | rfl | exact hu2) size_term) ?_
 (try simp only [Act.put,List.setIfInBounds_toArray,List.set_cons_zero,List.set_cons_succ])
 refine take_at 14 22 rsixr1_14 (v:=?_) (Or.inl ⟨by rfl,?_⟩) ?_
 rotate_left 1
 ·((intro w hSw;(try dsimp only at hSw);unfold rsixr1_14;go_simp)<;>with_reducible rfl)
 (try simp only [Act.put,List.setIfInBounds_toArray,List.set_cons_zero,List.set_cons_succ])
 refine take_at 15 23 rsixr1_15 (yields_part (w.heap.size) 17 24 (.tmp 22) #[.int .i64 g.d.k,.int .i64 g.d.i,.int .i64 g.d.j,.int .i64 g.d.n,(.slice agd g.d.kids.length cgd)] du (fun _ h=>sees_blk Hx1.out (by have:=Z0.out;omega) (sees_of Kk11.out h)) (by rfl) rfl (by rfl) (by rfl) hu1 (by cases du<;>first | rfl | exact hu2) size_term) ?_
 (try simp only [Act.put,List.setIfInBounds_toArray,List.set_cons_zero,List.set_cons_succ])
 refine take_at 18 26 rsixr1_18 (v:=?_) (Or.inl ⟨by rfl,?_⟩) ?_
 rotate_left 1
 ·((intro w hSw;(try dsimp only at hSw);unfold rsixr1_18;go_simp)<;>with_reducible rfl)
 (try simp only [Act.put,List.setIfInBounds_toArray,List.set_cons_zero,List.set_cons_succ])
 refine take_at 19 27 rsixr1_19 (yields_part (w.heap.size) 27 24 (.tmp 26) #[.int .i64 g.f.k,.int .i64 g.f.i,.int .i64 g.f.j,.int .i64 g.f.n,(.slice agf g.f.kids.length cgf)] du (fun _ h=>sees_blk Hx1.out (by have:=Z0.out;omega) (sees_of Kk11.out h)) (by rfl) rfl (by rfl) (by rfl) hu1 (by cases du<;>first | rfl | exact hu2) size_term) ?_
 (try simp only [Act.put,List.setIfInBounds_toArray,List.set_cons_zero,List.set_cons_succ])
 apply (via_joinCTACC (K:=fun W34 g19 U31 a28 c29 g38=>(Kept W8 W34)∧(nodeT 14 [g.a,g.b]=U31)∧(LiesQ W34 (Par w V0.heap.size [] P) U31.kids (.slice a28 U31.kids.length c29))∧(LiesQ W34 (Par w V0.heap.size [] P) ([g.c,g.d]) (.slice (some ⟨g38,0,none⟩) 2 2))))
 intro HJj13
 apply (via_joinCC (K:=fun W44 g19 g48=>(Kept W8 W44)∧(LiesQ W44 (Par w V0.heap.size [] P) ([g.a,g.b]) (.slice (some ⟨g19,0,none⟩) 2 2))∧(LiesQ W44 (Par w V0.heap.size [] P) ([g.c,g.d]) (.slice (some ⟨g48,0,none⟩) 2 2))))
 intro HJj12
 ·refine wpAnyH_ready (rs:=[10,16]) (by kernel_rfl) (by simp) ?_
  refine AllReadyH.cons (o:=rsixr1_10) rfl (fun K hK=>?_) ?_
  ·unfold rsixr1_10
   go_simp
   refine at_K (fun W15 hW15=>?_)
   obtain⟨g19,hg20,Kk17,Hx16,Hz18,KV21,HN22⟩:=alloc1v Kk11.out hW15
   rw [hg20]
   clear hW15
   have HR23:=Lib.hid (q_row2 Hx16.out Gg.out.2.2.1 (HLga.out.later KV21.out) Gg.out.2.2.2.2.1 (HLgb.out.later KV21.out) (par_newg HN22.out (fun h=>nomatch h)))
   clear hg20
   (try clear hHeld)
   refine hK.out _ _ (sees_kept _ Kk17.out) (fun hHeld=>?_)
   clear hK K
   (try simp only [Act.put,List.setIfInBounds_toArray,List.set_cons_zero,List.set_cons_succ])
   refine wpAnyH_ready (rs:=[11,16]) (by kernel_rfl) (by simp) ?_
   refine AllReadyH.cons (o:=rsixr1_11) rfl (fun K hK=>?_) ?_
   ·unfold rsixr1_11
    go_simp
    refine(rnode_any 14 [g.a,g.b] (Par w V0.heap.size [] P) _ _ (show I64 14 from by unfold I64;decide) HR23.out (Nat.le_of_ble_eq_true rfl)).mono ?_
    obtain⟨U31,hU31⟩:∃ qu,nodeT 14 [g.a,g.b]=qu:=⟨_,rfl⟩
    rw [hU31]
    have HU31:=Lib.hid hU31
    clear hU31
    rintro e w24 ⟨s26,rfl,hl27,k25⟩
    obtain⟨a28,c29,S30,rfl,-⟩:=hl27.out
    have Kk32:=Lib.hid k25
    clear k25
    have Hhl27:Hid (LiesQ w24 (Par w V0.heap.size [] P) U31.kids _):=par_give hl27 (Below.size KV21.out) (xlt_nil _)
    clear hl27
    (try clear hHeld)
    refine hK.out _ _ (sees_kept _ (kept_trans Kk17.out Kk32.out)) (fun hHeld=>?_)
    clear hK K
    (try simp only [Act.put,List.setIfInBounds_toArray,List.set_cons_zero,List.set_cons_succ])
    refine wpAnyH_ready (rs:=[16]) (by kernel_rfl) (by simp) ?_
    refine AllReadyH.cons (o:=rsixr1_16) rfl (fun K hK=>?_) ?_
    ·unfold rsixr1_16
     go_simp
     refine at_K (fun W34 hW34=>?_)
     obtain⟨g38,hg39,Kk36,Hx35,Hz37,KV40,HN41⟩:=alloc1v (kept_trans Kk11.out (kept_trans Kk17.out Kk32.out)) hW34
     rw [hg39]
     clear hW34
     have HR42:=Lib.hid (q_row2 Hx35.out Gg.out.2.2.2.1 (HLgc.out.later KV40.out) Gg.out.2.2.2.2.2.1 (HLgd.out.later KV40.out) (par_newg HN41.out (fun h=>nomatch h)))
     clear hg39
     (try clear hHeld)
     refine hK.out _ _ (sees_kept _ (kept_trans Kk17.out (kept_trans Kk32.out Kk36.out))) (fun hHeld=>?_)
     clear hK K
     (try simp only [Act.put,List.setIfInBounds_toArray,List.set_cons_zero,List.set_cons_succ])
     exact HJj13 W34 g19 U31 a28 c29 g38 ⟨(kept_trans Kk17.out (kept_trans Kk32.out Kk36.out)),HU31.out,(Hhl27.out.later Kk36.out),HR42.out⟩
    exact AllReadyH.nil
   refine AllReadyH.cons (o:=rsixr1_16) rfl (fun K hK=>?_) ?_
   ·unfold rsixr1_16
    go_simp
    refine at_K (fun W44 hW44=>?_)
    obtain⟨g48,hg49,Kk46,Hx45,Hz47,KV50,HN51⟩:=alloc1v KV21.out hW44
    rw [hg49]
    clear hW44
    have HR52:=Lib.hid (q_row2 Hx45.out Gg.out.2.2.2.1 (HLgc.out.later KV50.out) Gg.out.2.2.2.2.2.1 (HLgd.out.later KV50.out) (par_newg HN51.out (fun h=>nomatch h)))
    clear hg49
    (try clear hHeld)
    refine hK.out _ _ (sees_kept _ (kept_trans Kk17.out Kk46.out)) (fun hHeld=>?_)
    clear hK K
    (try simp only [Act.put,List.setIfInBounds_toArray,List.set_cons_zero,List.set_cons_succ])
    exact HJj12 W44 g19 g48 ⟨(kept_trans Kk17.out Kk46.out),(HR23.out.later Kk46.out),HR52.out⟩
   exact AllReadyH.nil
  refine AllReadyH.cons (o:=rsixr1_16) rfl (fun K hK=>?_) ?_
  ·unfold rsixr1_16
   go_simp
   refine at_K (fun W54 hW54=>?_)
   obtain⟨g58,hg59,Kk56,Hx55,Hz57,KV60,HN61⟩:=alloc1v Kk11.out hW54
   rw [hg59]
   clear hW54
   have HR62:=Lib.hid (q_row2 Hx55.out Gg.out.2.2.2.1 (HLgc.out.later KV60.out) Gg.out.2.2.2.2.2.1 (HLgd.out.later KV60.out) (par_newg HN61.out (fun h=>nomatch h)))
   clear hg59
   (try clear hHeld)
   refine hK.out _ _ (sees_kept _ Kk56.out) (fun hHeld=>?_)
   clear hK K
   (try simp only [Act.put,List.setIfInBounds_toArray,List.set_cons_zero,List.set_cons_succ])
   refine wpAnyH_ready (rs:=[10]) (by kernel_rfl) (by simp) ?_
   refine AllReadyH.cons (o:=rsixr1_10) rfl (fun K hK=>?_) ?_
   ·unfold rsixr1_10
    go_simp
    refine at_K (fun W64 hW64=>?_)
    obtain⟨g68,hg69,Kk66,Hx65,Hz67,KV70,HN71⟩:=alloc1v KV60.out hW64
    rw [hg69]
    clear hW64
    have HR72:=Lib.hid (q_row2 Hx65.out Gg.out.2.2.1 (HLga.out.later KV70.out) Gg.out.2.2.2.2.1 (HLgb.out.later KV70.out) (par_newg HN71.out (fun h=>nomatch h)))
    clear hg69
    (try clear hHeld)
    refine hK.out _ _ (sees_kept _ (kept_trans Kk56.out Kk66.out)) (fun hHeld=>?_)
    clear hK K
    (try simp only [Act.put,List.setIfInBounds_toArray,List.set_cons_zero,List.set_cons_succ])
    exact HJj12 W64 g68 g58 ⟨(kept_trans Kk56.out Kk66.out),HR72.out,(HR62.out.later Kk66.out)⟩
   exact AllReadyH.nil
  exact AllReadyH.nil
 ·intro W44 g19 g48 k73
  obtain⟨q74,q75,q76⟩:=k73
  have Kk77:=Lib.hid q74
  have KV78:=Lib.hid (kept_trans Kk11.out Kk77.out)
  have HL79:=Lib.hid q75
  have HL80:=Lib.hid q76
  clear q74 q75 q76
  have hHeld:Sees W8 (w.heap.size+1) W44:=sees_kept _ Kk77.out
  refine wpAnyH_ready (rs:=[11]) (by kernel_rfl) (by simp) ?_
  refine AllReadyH.cons (o:=rsixr1_11) rfl (fun K hK=>?_) ?_
  ·unfold rsixr1_11
   go_simp
   refine(rnode_any 14 [g.a,g.b] (Par w V0.heap.size [] P) _ _ (show I64 14 from by unfold I64;decide) HL79.out (Nat.le_of_ble_eq_true rfl)).mono ?_
   obtain⟨U88,hU88⟩:∃ qu,nodeT 14 [g.a,g.b]=qu:=⟨_,rfl⟩
   rw [hU88]
   have HU88:=Lib.hid hU88
   clear hU88
   rintro e w81 ⟨s83,rfl,hl84,k82⟩
   obtain⟨a85,c86,S87,rfl,-⟩:=hl84.out
   have Kk89:=Lib.hid k82
   clear k82
   have Hhl84:Hid (LiesQ w81 (Par w V0.heap.size [] P) U88.kids _):=par_give hl84 (Below.size KV78.out) (xlt_nil _)
   clear hl84
   (try clear hHeld)
   refine hK.out _ _ (sees_kept _ (kept_trans Kk77.out Kk89.out)) (fun hHeld=>?_)
   clear hK K
   (try simp only [Act.put,List.setIfInBounds_toArray,List.set_cons_zero,List.set_cons_succ])
   exact HJj13 w81 g19 U88 a85 c86 g48 ⟨(kept_trans Kk77.out Kk89.out),HU88.out,Hhl84.out,(HL80.out.later Kk89.out)⟩
  exact AllReadyH.nil
 ·intro W34 g19 U31 a28 c29 g38 k90
  obtain⟨q91,q92,q93,q94⟩:=k90
  have Kk95:=Lib.hid q91
  have KV96:=Lib.hid (kept_trans Kk11.out Kk95.out)
  have HU31:=Lib.hid q92
  have HL97:=Lib.hid q93
  have HL98:=Lib.hid q94
  clear q91 q92 q93 q94
  have hHeld:Sees W8 (w.heap.size+1) W34:=sees_kept _ Kk95.out
  refine wpAnyH_ready (rs:=[17]) (by kernel_rfl) (by simp) ?_
  refine AllReadyH.cons (o:=rsixr1_17) rfl (fun K hK=>?_) ?_
  ·unfold rsixr1_17
   go_simp
   refine(rnode_any 14 [g.c,g.d] (Par w V0.heap.size [] P) _ _ (show I64 14 from by unfold I64;decide) HL98.out (Nat.le_of_ble_eq_true rfl)).mono ?_
   obtain⟨U106,hU106⟩:∃ qu,nodeT 14 [g.c,g.d]=qu:=⟨_,rfl⟩
   rw [hU106]
   have HU106:=Lib.hid hU106
   clear hU106
   rintro e w99 ⟨s101,rfl,hl102,k100⟩
   obtain⟨a103,c104,S105,rfl,-⟩:=hl102.out
   have Kk107:=Lib.hid k100
   clear k100
   have Hhl102:Hid (LiesQ w99 (Par w V0.heap.size [] P) U106.kids _):=par_give hl102 (Below.size KV96.out) (xlt_nil _)
   clear hl102
   clear hHeld
   refine hK.out _ _ (sees_kept _ (kept_trans Kk95.out Kk107.out)) (fun hHeld=>?_)
   clear hK K
   (try simp only [Act.put,List.setIfInBounds_toArray,List.set_cons_zero,List.set_cons_succ])
   refine wpAnyH_ready (rs:=[20]) (by kernel_rfl) (by simp) ?_
   refine AllReadyH.cons (o:=rsixr1_20) rfl (fun K hK=>?_) ?_
   ·unfold rsixr1_20
    go_simp
    refine at_K (fun W109 hW109=>?_)
    obtain⟨g113,hg114,Kk111,Hx110,Hz112,KV115,HN116⟩:=alloc1v (kept_trans Kk11.out (kept_trans Kk95.out Kk107.out)) hW109
    rw [hg114]
    clear hW109
    have kq118:=(kept_trans Kk107.out Kk111.out)
    have HR117:=Lib.hid (q_row6 Hx110.out Gg.out.2.2.1 (HLga.out.later KV115.out) Gg.out.2.2.2.1 (HLgc.out.later KV115.out) Gg.out.2.2.2.2.2.2.1 (HLge.out.later KV115.out) (by rw [←HU31.out];exact(node_fine (show I64 14 from by unfold I64;decide))) (HL97.out.later kq118) (by rw [←HU106.out];exact(node_fine (show I64 14 from by unfold I64;decide))) (Hhl102.out.later Kk111.out) Gg.out.2.2.2.2.2.2.2 (HLgf.out.later KV115.out) (par_newg HN116.out (fun h=>nomatch h)))
    clear kq118
    clear hg114
    clear hHeld
    refine hK.out _ _ (sees_kept _ (kept_trans Kk95.out (kept_trans Kk107.out Kk111.out))) (fun hHeld=>?_)
    clear hK K
    (try simp only [Act.put,List.setIfInBounds_toArray,List.set_cons_zero,List.set_cons_succ])
    refine take_at 21 7 rsixr1_21 (v:=?_) (Or.inl ⟨by rfl,?_⟩) ?_
    rotate_left 1
    ·((intro w hSw;(try dsimp only at hSw);unfold rsixr1_21;go_simp)<;>with_reducible rfl)
    (try simp only [Act.put,List.setIfInBounds_toArray,List.set_cons_zero,List.set_cons_succ])
    refine wpAnyH_done (by kernel_rfl) ?_ _
    clear hHeld
    have kvV0:Sees V0 (w.heap.size+1) W109:=sees_kept _ KV115.out
    go_wp2_with fail
    clear kvV0
    obtain⟨W119,h120⟩:∃ x,World.drew W109=x:=⟨_,rfl⟩
    have k121:Kept W109 W119:=by rw [←h120];exact kept_drew (kept_refl _)
    have Kk122:=Lib.hid k121
    clear k121
    refine wp_region_held_drew (S:=Sees W119 (w.heap.size+1)) (by kernel_rfl) ?_ (fun hHeld=>?_)
    ·(try dsimp only)
     rw [h120]
     exact sees_kept _ (kept_refl _)
    rw [h120] at hHeld ⊢
    clear h120
    refine take_at 0 29 rsixr2_0 (v:=?_) (Or.inl ⟨by rfl,?_⟩) ?_
    rotate_left 1
    ·((intro w hSw;(try dsimp only at hSw);unfold rsixr2_0;go_simp)<;>with_reducible rfl)
    (try simp only [Act.put,List.setIfInBounds_toArray,List.set_cons_zero,List.set_cons_succ])
    refine take_at 1 30 rsixr2_1 (v:=?_) (Or.inl ⟨by rfl,?_⟩) ?_
    rotate_left 1
    ·((intro w hSw;(try dsimp only at hSw);unfold rsixr2_1;go_simp)<;>with_reducible rfl)
    (try simp only [Act.put,List.setIfInBounds_toArray,List.set_cons_zero,List.set_cons_succ])
    refine take_at 2 31 rsixr2_2 (v:=?_) (Or.inl ⟨by rfl,?_⟩) ?_
    rotate_left 1
    ·((intro w hSw;(try dsimp only at hSw);have qV0:=sees_of (kept_trans Kk11.out (kept_trans Kk95.out (kept_trans Kk107.out (kept_trans Kk111.out Kk122.out)))) hSw;unfold rsixr2_2;go_simp)<;>with_reducible rfl)
    (try simp only [Act.put,List.setIfInBounds_toArray,List.set_cons_zero,List.set_cons_succ])
    refine take_at 3 32 rsixr2_3 (v:=?_) (Or.inl ⟨by rfl,?_⟩) ?_
    rotate_left 1
    ·((intro w hSw;(try dsimp only at hSw);unfold rsixr2_3;go_simp)<;>with_reducible rfl)
    (try simp only [Act.put,List.setIfInBounds_toArray,List.set_cons_zero,List.set_cons_succ])
    refine take_at 4 33 rsixr2_4 (v:=?_) (Or.inl ⟨by rfl,?_⟩) ?_
    rotate_left 1
    ·((intro w hSw;(try dsimp only at hSw);have qV0:=sees_of (kept_trans Kk11.out (kept_trans Kk95.out (kept_trans Kk107.out (kept_trans Kk111.out Kk122.out)))) hSw;unfold rsixr2_4;go_simp)<;>with_reducible rfl)
    (try simp only [Act.put,List.setIfInBounds_toArray,List.set_cons_zero,List.set_cons_succ])
    refine take_at 5 34 rsixr2_5 (v:=?_) (Or.inl ⟨by rfl,?_⟩) ?_
    rotate_left 1
    ·((intro w hSw;(try dsimp only at hSw);unfold rsixr2_5;go_simp)<;>with_reducible rfl)
    (try simp only [Act.put,List.setIfInBounds_toArray,List.set_cons_zero,List.set_cons_succ])
    refine take_at 6 35 rsixr2_6 (v:=?_) (Or.inl ⟨by rfl,?_⟩) ?_
    rotate_left 1
    ·((intro w hSw;(try dsimp only at hSw);unfold rsixr2_6;go_simp)<;>with_reducible rfl)
    (try simp only [Act.put,List.setIfInBounds_toArray,List.set_cons_zero,List.set_cons_succ])
    refine wpAnyH_ready (rs:=[7]) (by kernel_rfl) (by simp) ?_
    refine AllReadyH.cons (o:=rsixr2_7) rfl (fun K hK=>?_) ?_
    ·unfold rsixr2_7
     refine step_append_list rfl (.tmp 34) (.tmp 35) rfl [g.a,g.c,g.e,U31,U106,g.f] more (.slice (some ⟨g113,0,none⟩) 6 6) (.slice amore more.length cmore) rfl rfl (HR117.out.later Kk122.out) (HLmore.out.later (kept_trans Kk11.out (kept_trans Kk95.out (kept_trans Kk107.out (kept_trans Kk111.out Kk122.out))))) ⟨_,rfl⟩ (Nat.le_of_ble_eq_true rfl) (app_len2 (Nat.le_of_ble_eq_true rfl) Hmn.out) ?_
     intro s125 w123 hl126 k124
     obtain⟨a127,c128,S129,rfl,-⟩:=hl126.out
     have Kk130:=Lib.hid k124
     clear k124
     have Hhl126:Hid (LiesQ w123 (Par w V0.heap.size [] P) ([g.a,g.c,g.e,U31,U106,g.f]++more) _):=par_give hl126 (Below.size (kept_trans Kk11.out (kept_trans Kk95.out (kept_trans Kk107.out (kept_trans Kk111.out Kk122.out))))) (xlt_nil _)
     clear hl126
     clear hHeld
     refine hK.out _ _ (sees_kept _ Kk130.out) (fun hHeld=>?_)
     clear hK K
     (try simp only [Act.put,List.setIfInBounds_toArray,List.set_cons_zero,List.set_cons_succ])
     refine wpAnyH_ready (rs:=[8]) (by kernel_rfl) (by simp) ?_
     refine AllReadyH.cons (o:=rsixr2_8) rfl (fun K hK=>?_) ?_
     ·unfold rsixr2_8
      go_simp
      refine(ruse_any n g.i g.j ([g.a,g.c,g.e,U31,U106,g.f]++more) (Par w V0.heap.size [] P) _ _ Rn.out Gg.out.1 Gg.out.2.1 Hhl126.out (app_len (Nat.le_of_ble_eq_true rfl) Hmn.out)).mono ?_
      obtain⟨U138,hU138⟩:∃ qu,useT n g.i g.j ([g.a,g.c,g.e,U31,U106,g.f]++more)=qu:=⟨_,rfl⟩
      rw [hU138]
      have HU138:=Lib.hid hU138
      clear hU138
      rintro e w131 ⟨s133,rfl,hl134,k132⟩
      obtain⟨a135,c136,S137,rfl,-⟩:=hl134.out
      have Kk139:=Lib.hid k132
      clear k132
      have Hhl134:Hid (LiesQ w131 (Par w V0.heap.size [] P) U138.kids _):=par_give hl134 (Below.size (kept_trans Kk11.out (kept_trans Kk95.out (kept_trans Kk107.out (kept_trans Kk111.out (kept_trans Kk122.out Kk130.out)))))) (xlt_nil _)
      clear hl134
      clear hHeld
      refine hK.out _ _ (sees_kept _ (kept_trans Kk130.out Kk139.out)) (fun hHeld=>?_)
      clear hK K
      (try simp only [Act.put,List.setIfInBounds_toArray,List.set_cons_zero,List.set_cons_succ])
      refine wpAnyH_ready (rs:=[9]) (by kernel_rfl) (by simp) ?_
      refine AllReadyH.cons (o:=rsixr2_9) rfl (fun K hK=>?_) ?_
      ·unfold rsixr2_9
       refine step_store_part rfl 24 (.tmp 6) (.tmp 37) rfl (w.heap.size+1) 0 #[.int .i64 U138.k,.int .i64 U138.i,.int .i64 U138.j,.int .i64 U138.n,(.slice a135 U138.kids.length c136)] rfl rfl 24 size_term (row_ok rfl) _ #[.int .i64 U138.k,.int .i64 U138.i,.int .i64 U138.j,.int .i64 U138.n,(.slice a135 U138.kids.length c136)] (blk_at Hx2.out (kept_trans Kk11.out (kept_trans Kk95.out (kept_trans Kk107.out (kept_trans Kk111.out (kept_trans Kk122.out (kept_trans Kk130.out Kk139.out))))))) rfl (Nat.le_of_ble_eq_true rfl) ?_
       intro W140 hW140
       clear hHeld
       refine hK.out _ _ (sees_set (kept_trans Kk130.out Kk139.out) hW140) (fun hHeld=>?_)
       clear hK K
       (try simp only [Act.put])
       refine wpAnyH_done (by kernel_rfl) ?_ _
       clear hHeld
       go_wp2_with fail
       refine bodyPost_ret (results_cell_row rfl _ _ (w.heap.size+1) 24 _ _ du rfl (blk_same (blk_at Hx2.out (kept_trans Kk11.out (kept_trans Kk95.out (kept_trans Kk107.out (kept_trans Kk111.out (kept_trans Kk122.out (kept_trans Kk130.out Kk139.out))))))) hW140) hu1 (by cases du<;>first | rfl | exact hu2) size_term) rfl ?_
       rw [show sixT n g more=U138 from by unfold sixT;rw [←HU138.out];rw [←HU106.out];rw [←HU31.out];(try rfl)]
       exact⟨_,rfl,par_end (par_row' Hhl134.out hW140 (by omega) (by have:=Z0.out;omega)) (by have:=Z0.out;omega),kept_set (kept_trans Kk5.out (kept_trans Kk11.out (kept_trans Kk95.out (kept_trans Kk107.out (kept_trans Kk111.out (kept_trans Kk122.out (kept_trans Kk130.out Kk139.out))))))) hW140 (by omega)⟩
      exact AllReadyH.nil
     exact AllReadyH.nil
    exact AllReadyH.nil
   exact AllReadyH.nil
  exact AllReadyH.nil
end Go.Proofs.Ytpdinlejmlbbeaa
