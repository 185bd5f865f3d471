/-
  Facts and contracts that the proof of CheckLevels uses.
-/
import Derived.Test.YtgnllglbopaheaaRows
import Derived.WalkKit
import Derived.Lib.Hide
import Derived.KernelRfl
import Derived.Deep.RegionWith
import Derived.Deep.RegionHeld3
import Derived.Deep.AppendLies
import Derived.Laws.Rows
import Derived.Laws.IdiomCopy
import Derived.Deep.Slices
import Derived.Lib.QuietBelow
import Derived.StillTailTactics
import Derived.BigQuiet
import Derived.IntWalk
import Derived.OwnWalk
import Derived.Deep.RegionLaw
import Derived.Deep.QuietTactic
import Derived.Deep.LoopGhost
import Derived.Deep.DeepCutAuto
import Derived.Deep.MidRow
import Derived.OrdersHeld
import Derived.Laws.Tables
import Derived.Laws.CopyOwn
import Derived.Laws.CopyRow
import Derived.Maps.AppendAt
import Derived.Lib.Builder
import Derived.Shelf.Spec.SlicesInsertGrow
import Derived.Below
import Derived.Lib.MinMax
import Derived.Deep.RegionHeld
import Derived.Deep.Upon
import Derived.ArgAppend
import Derived.Laws.EntriesVeiled
import GoSem.Core.Float
import Derived.ProofKit
import Derived.LoopTactic
import Derived.Laws.Cover2
import Derived.Laws.FloatArith
import Derived.Laws.Externs
import Derived.RowKit
import Derived.Deep.Cut
import Derived.Deep.CutBlock
import Derived.OpenShut
import Derived.Carry
import Derived.ChangeSlices
import Derived.JoinedOf
import Derived.Test.YtgnllglbopaheaaCheckLevelsQ3
namespace Go.Proofs.Ytgnllglbopaheaa
open Go.RowKit
theorem GivesN.wide {r:Option Tm} {wi w w':World} {e:Ending} (h:GivesN r w e w') (hb:Below wi.heap.size wi w):GivesN r wi e w':=by
 obtain⟨h1,h2⟩:=h
 refine⟨hb.trans (h1.mono hb.size),?_⟩
 rcases h2 with ⟨u,s',h3,h4,h5⟩ | h2
 ·exact Or.inl ⟨u,s',h3,h4,h5.from hb.size⟩
 ·exact Or.inr h2
theorem int_two (q:Nat):(q==2)=((q:Int)==2):=by
 by_cases h:q=2
 ·subst h;rfl
 ·have h1:(q==2)=false:=by simpa using h
  have h2:((q:Int)==2)=false:=by simp;omega
  rw [h1,h2]
def GivesY (r:Option Tm) (w:World) (e:Ending) (w':World):Prop:=∃ (u:Tm) (a:Option Addr) (n cap:Nat) (ok:Bool),e=.returned (.tuple #[tv u (.slice a n cap),.bool ok])∧Below w.heap.size w w' ∧
 ((ok=true∧r=some u∧n=u.kids.length∧LiesP w' (Own w.heap.size w') u.kids (.slice a n cap))∨(ok=false∧r=none))
theorem GivesN.ans {r:Option Tm} {w w':World} {e:Ending} (h:GivesN r w e w'):GivesY r w e w':=by
 obtain⟨hb,⟨u,s',h1,h2,h3⟩ | ⟨z,a,n,c,h1,h2⟩⟩:=h
 ·obtain⟨a,cap,rfl,-,-⟩:=h3.out
  exact⟨u,a,_,cap,true,h2,hb,Or.inl ⟨rfl,h1,rfl,h3⟩⟩
 ·exact⟨z,a,n,c,false,h2,hb,Or.inr ⟨rfl,h1⟩⟩
theorem GivesY.below {r:Option Tm} {w w':World} {e:Ending} (h:GivesY r w e w'):Below w.heap.size w w':=by obtain⟨u,a,n,c,ok,-,hb,-⟩:=h;exact hb
theorem putG_fine {g:Int→Int→Bool→Option Tm} (hg:∀ v b pl x,0≤v→v≤2147483647→0≤b→g v b pl=some x→x.fine) {t u:Tm} {b:Int} {pl:Bool} (hr:t.rightB=true) (hb:0≤b) (h:t.putG g b pl=some u):u.fine:=by
 by_cases hk:t.k=2
 ·rw [Tm.putG_var _ _ _ _ hk] at h
  have hv:=t.right_var hr hk
  exact hg _ _ _ _ hv.1 hv.2 hb h
 ·rw [Tm.putG_node _ _ _ _ hk] at h
  simp only [Option.map_eq_some_iff] at h
  obtain⟨m,-,rfl⟩:=h
  have:=right_fine hr
  exact this
theorem held_and2 {w w':World} {t:Tm} {s v v2:Value} {p p2:Addr} (h:Held w t s w') (hp:w.cell? p=some v) (hp2:w.cell? p2=some v2):Held w t s w'∧w'.cell? p=some v∧w'.cell? p2=some v2∧w'.cell? ⟨w.heap.size,0,none⟩=some (.int .i64 t.k)∧w'.cell? ⟨w.heap.size,1,none⟩=some (.int .i64 t.i)∧w'.cell? ⟨w.heap.size,2,none⟩=some (.int .i64 t.j)∧w'.cell? ⟨w.heap.size,3,none⟩=some (.int .i64 t.n)∧w'.cell? ⟨w.heap.size,4,none⟩=some s :=
 ⟨h,cell_lat (held_below h) hp,cell_lat (held_below h) hp2,held_cells h⟩
set_option maxRecDepth 20000 in
set_option maxHeartbeats 4000000 in
theorem in_any (g:Int→Int→Bool→Option Tm) (fid bv:Nat) (I:World→Prop) (hI:∀ w w':World,I w→Below w.heap.size w w'→I w')
 (hvar:∀ (v b:Int) (pl:Bool) (w:World),I w→0≤v→v≤2147483647→0≤b→b≤2000000→Calls Try.prog 82 #[.agg #[.func (.func fid) #[] #[.pointer (some ⟨bv,0,none⟩)]],.int .i64 v,.int .i64 b,.bool pl] w (GivesN (g v b pl) w))
 (hfine:∀ v b pl x,0≤v→v≤2147483647→0≤b→g v b pl=some x→x.fine) (t:Tm):∀ (b:Int) (pl:Bool) (wi:World) (s:Value),Lies wi t.kids s→t.rightB=true→0≤b→b+2 * t.deep≤1000000→I wi →
 Calls Try.prog 71 #[.agg #[.func (.func fid) #[] #[.pointer (some ⟨bv,0,none⟩)]],tv t s,.int .i64 b,.bool pl] wi (GivesN (t.putG g b pl) wi):=by
 induction t using Tm.ind with
 | h t ih =>
  intro b pl wi s hl hr hb hd hi
  obtain⟨a,cap,S,rfl,hc,hm,hf,hn,hk⟩:=hl.out
  have hde:=t.deep_eq
  have hlen:=right_len hr
  have hN:(wi.alloc (.cells #[.func (.func fid) #[] #[.pointer (some ⟨bv,0,none⟩)]] 104)).heap.size=wi.heap.size+1:=by simp
  have hPc:(wi.alloc (.cells #[.func (.func fid) #[] #[.pointer (some ⟨bv,0,none⟩)]] 104)).cell? ⟨wi.heap.size,0,none⟩=some (.func (.func fid) #[] #[.pointer (some ⟨bv,0,none⟩)]):=by rw [World.cell?_alloc_at _ _ _ _ rfl];rfl
  have hbP:Below wi.heap.size wi (wi.alloc (.cells #[.func (.func fid) #[] #[.pointer (some ⟨bv,0,none⟩)]] 104)):=(Below.refl _ _).alloc (Nat.le_refl _) _
  have hIP:=hI _ _ hi hbP
  unfold tv
  unfold maxLen at hm
  obtain⟨du,hu1,hu2⟩:=under_term
  have HB0:=boxes_start (wi.alloc (.cells #[.func (.func fid) #[] #[.pointer (some ⟨bv,0,none⟩)]] 104)) t (.slice a t.kids.length cap)
  have HL:=Lib.hid hl
  by_cases hk2:t.k=2
  ·have e2:(t.k==2)=true:=by simpa using hk2
   have hv:=t.right_var hr hk2
   have HEQ:=Lib.hid (Tm.putG_var g t b pl hk2)
   have hI2:=hI _ _ hIP (boxes_under HB0)
   have CALL:=Lib.hid (hvar t.i b pl _ hI2 hv.1 hv.2 hb (by omega))
   clear hk2 ih hn hk hf hl hIP hI2 hi
   go_enter Try.func71,Try.ntmps71
   go_upto_region 1 with fail
   generalize wi.alloc (.cells #[.func (.func fid) #[] #[.pointer (some ⟨bv,0,none⟩)]] 104)=w at hN hPc hbP HB0 CALL ⊢
   rw [←hN]
   have HBP:=Lib.hid hbP
   have hplt:wi.heap.size<w.heap.size:=by omega
   have hplt1:wi.heap.size<w.heap.size+1:=by omega
   have HLW:=Lib.hid (HL.out.keep hbP)
   clear hbP hN
   go_wp2_with fail
   refine CALL.out.mono ?_
   rintro e w2 ⟨hbn,hg⟩
   have HB2:=boxes_call HB0 hbn
   obtain⟨-,q1⟩:=boxes_two HB2
   obtain⟨z0,z1,z2,z3,z4⟩:=five_cells q1
   obtain⟨f0,f1,f2,f3,f4⟩:=five_free q1
   rcases hg with ⟨u,s',hr',rfl,hlu⟩ | ⟨z,a9,n9,c9,hr',rfl⟩
   ·obtain⟨a2,cap2,rfl,-,-⟩:=hlu.out
    have HLU:=Lib.hid hlu
    have HR:=Lib.hid hr'
    clear hbn hlu hr'
    go_wp2
    (try simp only [Exit.inBlock,Exit.then])
    refine bodyPost_ret (results_cell_tmp rfl _ _ (w.heap.size+1) _ _ _ du rfl (five_set q1) hu1 (by cases du<;>first | rfl | exact hu2) size_term) rfl ?_
    refine GivesN.wide ⟨below_five (boxes_under HB2) (by omega) _ _ _ _ _,Or.inl ⟨u,_,HEQ.out.trans HR.out,rfl,liesP_fives HLU.out (by simp<;>omega) (by simp<;>omega) _ _ _ _ _⟩⟩ HBP.out
   ·have HR:=Lib.hid hr'
    clear hbn hr'
    go_wp2
    (try simp only [Exit.inBlock,Exit.then])
    refine bodyPost_ret (results_cell_tmp rfl _ _ (w.heap.size+1) _ _ _ du rfl (five_set q1) hu1 (by cases du<;>first | rfl | exact hu2) size_term) rfl ?_
    exact GivesN.wide ⟨below_five (boxes_under HB2) (by omega) _ _ _ _ _,Or.inr ⟨z,a9,n9,c9,HEQ.out.trans HR.out,rfl⟩⟩ HBP.out
  ·have e2:(t.k==2)=false:=by simpa using hk2
   have HEQ:=Lib.hid (Tm.putG_node g t b pl hk2)
   have HRK:=Lib.hid (t.right_kids hr)
   have IH:=Lib.hid ih
   have HN:=Lib.hid hn
   have HK:=Lib.hid hk
   have HDE:=Lib.hid hde
   have hd0:=desk_start (wi.alloc (.cells #[.func (.func fid) #[] #[.pointer (some ⟨bv,0,none⟩)]] 104)) t t (.slice a t.kids.length cap) (.slice none 0 0)
   clear hk2 ih hn hk hf hr hl hde hi HB0
   by_cases h0:t.kids.length=0
   ·have h1:t.kids.length<1:=by omega
    have HNL:=Lib.hid (List.eq_nil_of_length_eq_zero h0)
    clear h0 IH HN HK
    go_enter Try.func71,Try.ntmps71
    go_upto_region 1 with fail
    generalize wi.alloc (.cells #[.func (.func fid) #[] #[.pointer (some ⟨bv,0,none⟩)]] 104)=w at hN hPc hbP hd0 ⊢
    rw [←hN]
    have HBP:=Lib.hid hbP
    have hplt:wi.heap.size<w.heap.size:=by omega
    have hplt1:wi.heap.size<w.heap.size+1:=by omega
    have HLW:=Lib.hid (HL.out.keep hbP)
    clear hbP hN
    go_wp2_with fail
    go_loopw [47] (fun i wr=>i=.int .i64 0∧Desk w t t (.slice a t.kids.length cap) (.slice none 0 0) wr) (fun _ _=>0)
    case atStart=>exact⟨rfl,hd0⟩
    case round =>
     clear hd0
     obtain⟨rfl,hdk⟩:=hrel
     obtain⟨q0,q1,q2⟩:=desk_blocks hdk
     obtain⟨d0,d1,d2,d3,d4⟩:=five_cells q0
     obtain⟨y0,y1,y2,y3,y4⟩:=five_cells q2
     obtain⟨z0,z1,z2,z3,z4⟩:=five_cells q1
     obtain⟨f0,f1,f2,f3,f4⟩:=five_free q1
     clear q0 q2
     go_wp2_with fail
     (try simp only [Exit.inBlock,Exit.then])
     refine bodyPost_ret (results_cell_tmp rfl _ _ (w.heap.size+1) _ _ _ du rfl (five_set q1) hu1 (by cases du<;>first | rfl | exact hu2) size_term) rfl ?_
     exact GivesN.wide ⟨((((((desk_under hdk).setCell (by simp) _).setCell (by simp) _).setCell (by simp) _).setCell (by simp) _).setCell (by simp) _),Or.inl ⟨.mk t.k t.i t.j t.n [],.slice none 0 0,by rw [HEQ.out,HNL.out];rfl,rfl,liesP_nil _ _⟩⟩ HBP.out
   ·have h0':0<t.kids.length:=by omega
    obtain⟨i0,hi,hz0,hz1,hz2⟩:=info_parts info_term
    have HI:=Lib.hid (And.intro hi (And.intro hz0 (And.intro hz1 hz2)))
    have HBase:=Lib.hid hb
    clear hi hz0 hz1 hz2 h0
    go_enter Try.func71,Try.ntmps71
    go_upto_region 1 with fail
    generalize wi.alloc (.cells #[.func (.func fid) #[] #[.pointer (some ⟨bv,0,none⟩)]] 104)=w at hN hPc hbP hd0 hIP ⊢
    rw [←hN]
    have HBP:=Lib.hid hbP
    have hplt:wi.heap.size<w.heap.size:=by omega
    have hplt1:wi.heap.size<w.heap.size+1:=by omega
    have HLW:=Lib.hid (HL.out.keep hbP)
    clear hbP hN
    have HPC:=Lib.hid hPc
    have HIW:=Lib.hid hIP
    clear hIP
    go_wp2_with (at_make;refine wpList_make_full _ rfl _ _ 36 rfl (w.heap.size+3) 38 i0 _ 5 (by kernel_rfl) HI.out.1 HI.out.2.1 HI.out.2.2.1 _ _ _ _ t.kids.length rfl rfl rfl rfl ?bytes ?max ?base ?next)
    case bytes=>rw [HI.out.2.2.2];omega
    case max=>unfold maxLen;omega
    case base=>simp
    case next =>
    intro w1 hown hgrow
    have hful:=full_made hown
    have hbel:Below (w.heap.size+3) _ w1:=(Below.refl _ _).grown hgrow (by simp) (by simp)
    have hd1:Desk w t t _ _ w1:=hbel
    clear hbel hgrow hown
    obtain⟨q0,q1,q2⟩:=desk_blocks hd1
    obtain⟨d0,d1,d2,d3,d4⟩:=five_cells q0
    obtain⟨y0,y1,y2,y3,y4⟩:=five_cells q2
    obtain⟨f0,f1,f2,f3,f4⟩:=five_free q2
    have hd2:=desk_set (v':=.slice (some ⟨w.heap.size+3,0,none⟩) t.kids.length t.kids.length) hd1
    clear q0 q1 q2
    have hf2:=hful.below (b:=w.heap.size+2) (o:=4) (by omega) (.slice (some ⟨w.heap.size+3,0,none⟩) t.kids.length t.kids.length)
    clear hd1 hful hd0
    go_wp2_with fail
    go_loopw [47] (fun i wr=>∃ (q:Nat) (xs:List (Tm × Value)),q≤t.kids.length∧i=.int .i64 q∧Hid (xs.length=t.kids.length)∧Hid (optK (fun q x=>x.putG g (b+bindsN t.k q) (pl||(t.k==12&&q==2))) 0 (t.kids.take q)=some ((xs.map (·.1)).take q))∧Full (w.heap.size+3) wr (w.heap.size+3) xs∧Desk w t t (.slice a t.kids.length cap) (.slice (some ⟨w.heap.size+3,0,none⟩) t.kids.length t.kids.length) wr) (fun i _=>t.kids.length-(intOf i).toNat)
    case atStart=>exact⟨0,_,Nat.zero_le _,rfl,List.length_replicate,rfl,hf2,hd2⟩
    case round =>
     clear hf2 hd2 d0 d1 d2 d3 d4 y0 y1 y2 y3 y4 f0 f1 f2 f3 f4
     obtain⟨q,xs,hq0,rfl,hxl,hxs,hfu,hdk⟩:=hrel
     have HXL:=Lib.hid hxl.out
     have HXS:=Lib.hid hxs.out
     clear hxl hxs hPc
     obtain⟨q0,q1,q2⟩:=desk_blocks hdk
     obtain⟨d0,d1,d2,d3,d4⟩:=five_cells q0
     obtain⟨y0,y1,y2,y3,y4⟩:=five_cells q2
     obtain⟨z0,z1,z2,z3,z4⟩:=five_cells q1
     obtain⟨f0,f1,f2,f3,f4⟩:=five_free q1
     have hsz:=desk_size hdk
     have hpc:=cell_lat (desk_under hdk) HPC.out
     have hplr:wi.heap.size<wr.heap.size:=by omega
     have hs0:w.heap.size<wr.heap.size:=by omega
     clear q0 q2
     by_cases hlt:q<t.kids.length
     ·obtain⟨b',o,rfl,hx⟩:=HN.out q hlt
      have hy:=hx.below ((HBP.out.trans ((desk_under hdk).mono HBP.out.size))) hx.lt
      obtain⟨c0,c1,c2,c3,c4⟩:=hy
      have hq:=HK.out q hlt
      obtain⟨a',cap',S',hS,-⟩:=hq.out
      rw [hS] at c4 hq
      have HM:=Lib.hid (List.getElem_mem hlt)
      have hbd:=binds_range t.k q
      have hdq:=deeps_get t.kids q hlt
      rw [HDE.out] at hd
      have hsum:IntKind.i64.wrap (b+bindsN t.k q)=b+bindsN t.k q:=IntWalk.i64_in _ (by omega)
      have hH0:=held_start wr t.kids[q] (.slice a' t.kids[q].kids.length cap')
      have hIr:=hI _ _ HIW.out (desk_under hdk)
      have CALL:∀ w',Held wr t.kids[q] (.slice a' t.kids[q].kids.length cap') w'→Calls Try.prog 71 #[.agg #[.func (.func fid) #[] #[.pointer (some ⟨bv,0,none⟩)]],tv t.kids[q] (.slice a' t.kids[q].kids.length cap'),.int .i64 (b+bindsN t.k q),.bool (pl||(t.k==12&&q==2))] w' (GivesN (t.kids[q].putG g (b+bindsN t.k q) (pl||(t.k==12&&q==2))) w'):=fun w' h' =>
       IH.out _ HM.out _ _ w' _ (hq.keep (HBP.out.trans (((desk_under hdk).trans ((held_below h').mono (by omega))).mono HBP.out.size))) (HRK.out _ HM.out) (by omega) (by omega) (hI _ _ hIr (held_below h'))
      have HCALL:=Lib.hid CALL
      have HFX:Hid (∀ u,t.kids[q].putG g (b+bindsN t.k q) (pl||(t.k==12&&q==2))=some u→u.fine):=fun u hu=>putG_fine hfine (HRK.out _ HM.out) (by omega) hu
      clear hS hq hx hd hdq hbd CALL hIr hH0
      cases pl with
      | true =>
       have hF:(true||(t.k==12&&q==2))=true:=rfl
       have hc:=HCALL.out
       rw [hF] at hc
       have hH0:=held_start wr t.kids[q] (.slice a' t.kids[q].kids.length cap')
       have CALL2:∀ w',Held wr t.kids[q] (.slice a' t.kids[q].kids.length cap') w'→Calls Try.prog 71 #[.agg #[.func (.func fid) #[] #[.pointer (some ⟨bv,0,none⟩)]],tv t.kids[q] (.slice a' t.kids[q].kids.length cap'),.int .i64 (b+bindsN t.k q),.bool true] w' (GivesY (t.kids[q].putG g (b+bindsN t.k q) (true||(t.k==12&&q==2))) w'):=fun w' h'=>(hc w' h').mono fun e w'' h=>by rw [←hF] at h;exact h.ans
       have CALLB:=Lib.hid (CALL2 (wr.alloc (.cells #[.int .i64 t.kids[q].k,.int .i64 t.kids[q].i,.int .i64 t.kids[q].j,.int .i64 t.kids[q].n,.slice a' t.kids[q].kids.length cap'] 38)).drew (held_drew hH0))
       have CALLA:=Lib.hid ((CALL2 ((wr.alloc (.cells #[.int .i64 t.kids[q].k,.int .i64 t.kids[q].i,.int .i64 t.kids[q].j,.int .i64 t.kids[q].n,.slice a' t.kids[q].kids.length cap'] 38)).alloc zeroObj).drew (held_drew (held_alloc hH0 _))).mono fun e w'' h=>And.intro h (zero_blocks_new h.below))
       clear hc HCALL CALL2 hF
       go_wp2_with fail
       refine wp_region_held_drew (S:=fun w'=>Held wr t.kids[q] (.slice a' t.kids[q].kids.length cap') w'∧w'.cell? ⟨w.heap.size,0,none⟩=some (.int .i64 t.k)∧w'.cell? ⟨wi.heap.size,0,none⟩=some (.func (.func fid) #[] #[.pointer (some ⟨bv,0,none⟩)])∧w'.cell? ⟨wr.heap.size,0,none⟩=some (.int .i64 t.kids[q].k)∧w'.cell? ⟨wr.heap.size,1,none⟩=some (.int .i64 t.kids[q].i)∧w'.cell? ⟨wr.heap.size,2,none⟩=some (.int .i64 t.kids[q].j)∧w'.cell? ⟨wr.heap.size,3,none⟩=some (.int .i64 t.kids[q].n)∧w'.cell? ⟨wr.heap.size,4,none⟩=some (.slice a' t.kids[q].kids.length cap')) (by kernel_rfl) ?_ (fun hHeld=>?_)
       ·(try dsimp only)
        (((with_reducible refine held_and2 ?_ d0 hpc);repeat (first | with_reducible assumption | with_reducible exact hH0 | with_reducible refine held_drew ?_ | with_reducible refine held_alloc ?_ _ | ((with_reducible refine held_set ?_ ?hh _);(case hh=>simp)))))
       refine wpAnyH_take (i:=0) (oi:={dst:=some 53,op:=Go.Op.load 104 (Go.Operand.tmp 4),type:=104,pos := "subst.go:89",after:=#[],guard:=none}) (v:=?_) rfl (by kernel_rfl) (by kernel_rfl) (by kernel_rfl) (fun _ _ _ h=>h) (Or.inl ⟨by rfl,?_⟩) (by assumption) ?_
       rotate_left 1
       ·((intro w hSw;(try dsimp only at hSw);go_simp)<;>with_reducible rfl)
       (try simp only [Act.put,List.setIfInBounds_toArray,List.set_cons_zero,List.set_cons_succ])
       refine wpAnyH_take (i:=1) (oi:={dst:=some 54,op:=Go.Op.load 38 (Go.Operand.tmp 12),type:=38,pos := "subst.go:89",after:=#[],guard:=none}) (v:=?_) rfl (by kernel_rfl) (by kernel_rfl) (by kernel_rfl) (fun _ _ _ h=>h) (Or.inl ⟨by rfl,?_⟩) (by assumption) ?_
       rotate_left 1
       ·((intro w hSw;(try dsimp only at hSw);go_simp)<;>with_reducible rfl)
       (try simp only [Act.put,List.setIfInBounds_toArray,List.set_cons_zero,List.set_cons_succ])
       refine wpAnyH_take (i:=2) (oi:={dst:=some 55,op:=Go.Op.move (Go.Operand.tmp 2),type:=3,pos := "subst.go:89",after:=#[],guard:=none}) (v:=?_) rfl (by kernel_rfl) (by kernel_rfl) (by kernel_rfl) (fun _ _ _ h=>h) (Or.inl ⟨by rfl,?_⟩) (by assumption) ?_
       rotate_left 1
       ·((intro w hSw;(try dsimp only at hSw);go_simp)<;>with_reducible rfl)
       (try simp only [Act.put,List.setIfInBounds_toArray,List.set_cons_zero,List.set_cons_succ])
       refine wpAnyH_take (i:=3) (oi:={dst:=some 56,op:=Go.Op.fieldAddr 38 (Go.Operand.tmp 5) 0,type:=0,pos := "subst.go:89",after:=#[],guard:=none}) (v:=?_) rfl (by kernel_rfl) (by kernel_rfl) (by kernel_rfl) (fun _ _ _ h=>h) (Or.inl ⟨by rfl,?_⟩) (by assumption) ?_
       rotate_left 1
       ·((intro w hSw;(try dsimp only at hSw);go_simp)<;>with_reducible rfl)
       (try simp only [Act.put,List.setIfInBounds_toArray,List.set_cons_zero,List.set_cons_succ])
       refine wpAnyH_take (i:=4) (oi:={dst:=some 57,op:=Go.Op.load 3 (Go.Operand.tmp 56),type:=3,pos := "subst.go:89",after:=#[{on:=3,ground:=Go.Ground.data}],guard:=none}) (v:=?_) rfl (by kernel_rfl) (by kernel_rfl) (by kernel_rfl) (fun _ _ _ h=>h) (Or.inl ⟨by rfl,?_⟩) (by assumption) ?_
       rotate_left 1
       ·((intro w hSw;(try dsimp only at hSw);go_simp)<;>with_reducible rfl)
       (try simp only [Act.put,List.setIfInBounds_toArray,List.set_cons_zero,List.set_cons_succ])
       refine wpAnyH_take (i:=5) (oi:={dst:=some 58,op:=Go.Op.move (Go.Operand.tmp 11),type:=3,pos := "subst.go:89",after:=#[],guard:=none}) (v:=?_) rfl (by kernel_rfl) (by kernel_rfl) (by kernel_rfl) (fun _ _ _ h=>h) (Or.inl ⟨by rfl,?_⟩) (by assumption) ?_
       rotate_left 1
       ·((intro w hSw;(try dsimp only at hSw);go_simp)<;>with_reducible rfl)
       (try simp only [Act.put,List.setIfInBounds_toArray,List.set_cons_zero,List.set_cons_succ])
       refine wpAnyH_take (i:=8) (oi:={dst:=some 61,op:=Go.Op.move (Go.Operand.tmp 3),type:=4,pos := "subst.go:89",after:=#[],guard:=none}) (v:=?_) rfl (by kernel_rfl) (by kernel_rfl) (by kernel_rfl) (fun _ _ _ h=>h) (Or.inl ⟨by rfl,?_⟩) (by assumption) ?_
       rotate_left 1
       ·((intro w hSw;(try dsimp only at hSw);go_simp)<;>with_reducible rfl)
       (try simp only [Act.put,List.setIfInBounds_toArray,List.set_cons_zero,List.set_cons_succ])
       refine wpAnyH_ready (rs:=[6,22]) (by kernel_rfl) (by simp) ?_
       refine AllReadyH.cons (o:={dst:=some 59,op:=Go.Op.call {callee:=Go.Callee.value (Go.Operand.func 65),args:=#[Go.Operand.tmp 57,Go.Operand.tmp 58],argTypes:=#[3,3] },type:=3,pos := "subst.go:89",after:=#[{on:=4,ground:=Go.Ground.data},{on:=5,ground:=Go.Ground.data}],guard:=none}) rfl (fun K hK=>?_) ?_
       ·go_simp
        ((go_at_call 65;refine(binds_any _ _ _).mono ?_;rintro e w' ⟨rfl,rfl⟩))
        refine hK.out _ _ ?_ (fun hHeld=>?_)
        ·(try dsimp only)
         (((with_reducible refine held_and2 ?_ d0 hpc);repeat (first | with_reducible assumption | with_reducible exact hH0 | with_reducible refine held_drew ?_ | with_reducible refine held_alloc ?_ _ | ((with_reducible refine held_set ?_ ?hh _);(case hh=>simp)))))
        clear hK K
        (try simp only [Act.put,List.setIfInBounds_toArray,List.set_cons_zero,List.set_cons_succ])
        refine wpAnyH_take (i:=7) (oi:={dst:=some 60,op:=Go.Op.binOp Go.BinOp.add 3 (Go.Operand.tmp 55) (Go.Operand.tmp 59) 3,type:=3,pos := "subst.go:89",after:=#[{on:=2,ground:=Go.Ground.data},{on:=6,ground:=Go.Ground.data}],guard:=none}) (v:=?_) rfl (by kernel_rfl) (by kernel_rfl) (by kernel_rfl) (fun _ _ _ h=>h) (Or.inl ⟨by rfl,?_⟩) (by assumption) ?_
        rotate_left 1
        ·((intro w hSw;(try dsimp only at hSw);go_simp)<;>with_reducible rfl)
        (try simp only [Act.put,List.setIfInBounds_toArray,List.set_cons_zero,List.set_cons_succ])
        refine wpAnyH_take (i:=9) (oi:={dst:=some 62,op:=Go.Op.move (Go.Operand.tmp 61),type:=4,pos := "subst.go:89",after:=#[{on:=8,ground:=Go.Ground.data},{on:=6,ground:=Go.Ground.chain}],guard:=none}) (v:=?_) rfl (by kernel_rfl) (by kernel_rfl) (by kernel_rfl) (fun _ _ _ h=>h) (Or.inl ⟨by rfl,?_⟩) (by assumption) ?_
        rotate_left 1
        ·((intro w hSw;(try dsimp only at hSw);go_simp)<;>with_reducible rfl)
        (try simp only [Act.put,List.setIfInBounds_toArray,List.set_cons_zero,List.set_cons_succ])
        refine wpAnyH_take (i:=10) (oi:={dst:=some 63,op:=Go.Op.fieldAddr 38 (Go.Operand.tmp 5) 0,type:=0,pos := "subst.go:89",after:=#[{on:=9,ground:=Go.Ground.guard}],guard:=some (9,false) }) (v:=undef) rfl (by kernel_rfl) (by kernel_rfl) (by kernel_rfl) (fun _ _ _ h=>h) (Or.inr ⟨by rfl,rfl⟩) (by assumption) ?_
        (try simp only [Act.put,List.setIfInBounds_toArray,List.set_cons_zero,List.set_cons_succ])
        refine wpAnyH_take (i:=11) (oi:={dst:=some 64,op:=Go.Op.load 3 (Go.Operand.tmp 63),type:=3,pos := "subst.go:89",after:=#[{on:=10,ground:=Go.Ground.data},{on:=9,ground:=Go.Ground.guard}],guard:=some (9,false) }) (v:=undef) rfl (by kernel_rfl) (by kernel_rfl) (by kernel_rfl) (fun _ _ _ h=>h) (Or.inr ⟨by rfl,rfl⟩) (by assumption) ?_
        (try simp only [Act.put,List.setIfInBounds_toArray,List.set_cons_zero,List.set_cons_succ])
        refine wpAnyH_take (i:=12) (oi:={dst:=some 65,op:=Go.Op.binOp Go.BinOp.eql 3 (Go.Operand.tmp 64) (Go.Operand.const (Go.Value.int Go.IntKind.i64 12)) 3,type:=4,pos := "subst.go:89",after:=#[{on:=11,ground:=Go.Ground.data},{on:=9,ground:=Go.Ground.guard}],guard:=some (9,false) }) (v:=undef) rfl (by kernel_rfl) (by kernel_rfl) (by kernel_rfl) (fun _ _ _ h=>h) (Or.inr ⟨by rfl,rfl⟩) (by assumption) ?_
        (try simp only [Act.put,List.setIfInBounds_toArray,List.set_cons_zero,List.set_cons_succ])
        refine wpAnyH_take (i:=13) (oi:={dst:=some 66,op:=Go.Op.move (Go.Operand.tmp 65),type:=4,pos := "subst.go:89",after:=#[{on:=12,ground:=Go.Ground.data},{on:=9,ground:=Go.Ground.chain},{on:=9,ground:=Go.Ground.guard}],guard:=some (9,false) }) (v:=undef) rfl (by kernel_rfl) (by kernel_rfl) (by kernel_rfl) (fun _ _ _ h=>h) (Or.inr ⟨by rfl,rfl⟩) (by assumption) ?_
        (try simp only [Act.put,List.setIfInBounds_toArray,List.set_cons_zero,List.set_cons_succ])
        refine wpAnyH_take (i:=14) (oi:={dst:=some 67,op:=Go.Op.move (Go.Operand.tmp 11),type:=3,pos := "subst.go:89",after:=#[{on:=13,ground:=Go.Ground.guard}],guard:=some (13,true) }) (v:=undef) rfl (by kernel_rfl) (by kernel_rfl) (by kernel_rfl) (fun _ _ _ h=>h) (Or.inr ⟨by rfl,rfl⟩) (by assumption) ?_
        (try simp only [Act.put,List.setIfInBounds_toArray,List.set_cons_zero,List.set_cons_succ])
        refine wpAnyH_take (i:=15) (oi:={dst:=some 68,op:=Go.Op.binOp Go.BinOp.eql 3 (Go.Operand.tmp 67) (Go.Operand.const (Go.Value.int Go.IntKind.i64 2)) 3,type:=4,pos := "subst.go:89",after:=#[{on:=14,ground:=Go.Ground.data},{on:=13,ground:=Go.Ground.guard}],guard:=some (13,true) }) (v:=undef) rfl (by kernel_rfl) (by kernel_rfl) (by kernel_rfl) (fun _ _ _ h=>h) (Or.inr ⟨by rfl,rfl⟩) (by assumption) ?_
        (try simp only [Act.put,List.setIfInBounds_toArray,List.set_cons_zero,List.set_cons_succ])
        refine wpAnyH_take (i:=16) (oi:={dst:=some 69,op:=Go.Op.pick (Go.Operand.tmp 66) (Go.Operand.tmp 68) (Go.Operand.const (Go.Value.bool false)),type:=4,pos := "subst.go:89",after:=#[{on:=13,ground:=Go.Ground.data},{on:=15,ground:=Go.Ground.data},{on:=9,ground:=Go.Ground.guard}],guard:=some (9,false) }) (v:=undef) rfl (by kernel_rfl) (by kernel_rfl) (by kernel_rfl) (fun _ _ _ h=>h) (Or.inr ⟨by rfl,rfl⟩) (by assumption) ?_
        (try simp only [Act.put,List.setIfInBounds_toArray,List.set_cons_zero,List.set_cons_succ])
        refine wpAnyH_take (i:=17) (oi:={dst:=some 70,op:=Go.Op.pick (Go.Operand.tmp 62) (Go.Operand.const (Go.Value.bool true)) (Go.Operand.tmp 69),type:=4,pos := "subst.go:89",after:=#[{on:=9,ground:=Go.Ground.data},{on:=16,ground:=Go.Ground.data}],guard:=none}) (v:=?_) rfl (by kernel_rfl) (by kernel_rfl) (by kernel_rfl) (fun _ _ _ h=>h) (Or.inl ⟨by rfl,?_⟩) (by assumption) ?_
        rotate_left 1
        ·((intro w hSw;(try dsimp only at hSw);go_simp)<;>with_reducible rfl)
        (try simp only [Act.put,List.setIfInBounds_toArray,List.set_cons_zero,List.set_cons_succ])
        refine wpAnyH_ready (rs:=[18,22]) (by kernel_rfl) (by simp) ?_
        refine AllReadyH.cons (o:={dst:=some 71,op:=Go.Op.call {callee:=Go.Callee.value (Go.Operand.func 71),args:=#[Go.Operand.tmp 53,Go.Operand.tmp 54,Go.Operand.tmp 60,Go.Operand.tmp 70],argTypes:=#[104,38,3,4] },type:=105,pos := "subst.go:89",after:=#[{on:=0,ground:=Go.Ground.data},{on:=1,ground:=Go.Ground.data},{on:=7,ground:=Go.Ground.data},{on:=17,ground:=Go.Ground.data},{on:=13,ground:=Go.Ground.chain}],guard:=none}) rfl (fun K hK=>?_) ?_
        ·go_simp
         ((go_at_call 71;((with_reducible refine Calls.mono CALLB.out ?_);rintro e wn ⟨u,a2,n2,cap2,ok,rfl,hbn,hans⟩;have HANS:=Lib.hid hans;clear hans;have hh:=held_call (held_drew hH0) hbn)))
         refine hK.out _ _ ?_ (fun hHeld=>?_)
         ·(try dsimp only)
          (((with_reducible refine held_and2 ?_ d0 hpc);repeat (first | with_reducible assumption | with_reducible exact hH0 | with_reducible refine held_drew ?_ | with_reducible refine held_alloc ?_ _ | ((with_reducible refine held_set ?_ ?hh _);(case hh=>simp)))))
         clear hK K
         (try simp only [Act.put,List.setIfInBounds_toArray,List.set_cons_zero,List.set_cons_succ])
         refine wpAnyH_take (i:=19) (oi:={dst:=some 52,op:=Go.Op.move (Go.Operand.tmp 71),type:=105,pos := "subst.go:89",after:=#[{on:=18,ground:=Go.Ground.data}],guard:=none}) (v:=?_) rfl (by kernel_rfl) (by kernel_rfl) (by kernel_rfl) (fun _ _ _ h=>h) (Or.inl ⟨by rfl,?_⟩) (by assumption) ?_
         rotate_left 1
         ·((intro w hSw;(try dsimp only at hSw);go_simp)<;>with_reducible rfl)
         (try simp only [Act.put,List.setIfInBounds_toArray,List.set_cons_zero,List.set_cons_succ])
         refine wpAnyH_take (i:=20) (oi:={dst:=some 72,op:=Go.Op.extract (Go.Operand.tmp 52) 0,type:=38,pos := "subst.go:89",after:=#[{on:=19,ground:=Go.Ground.data}],guard:=none}) (v:=?_) rfl (by kernel_rfl) (by kernel_rfl) (by kernel_rfl) (fun _ _ _ h=>h) (Or.inl ⟨by rfl,?_⟩) (by assumption) ?_
         rotate_left 1
         ·((intro w hSw;(try dsimp only at hSw);go_simp)<;>with_reducible rfl)
         (try simp only [Act.put,List.setIfInBounds_toArray,List.set_cons_zero,List.set_cons_succ])
         refine wpAnyH_take (i:=21) (oi:={dst:=some 73,op:=Go.Op.extract (Go.Operand.tmp 52) 1,type:=4,pos := "subst.go:89",after:=#[{on:=19,ground:=Go.Ground.data},{on:=23,ground:=Go.Ground.gcOnly Go.Departure.lateStores}],guard:=none}) (v:=?_) rfl (by kernel_rfl) (by kernel_rfl) (by kernel_rfl) (fun _ _ _ h=>h) (Or.inl ⟨by rfl,?_⟩) (by assumption) ?_
         rotate_left 1
         ·((intro w hSw;(try dsimp only at hSw);go_simp)<;>with_reducible rfl)
         (try simp only [Act.put,List.setIfInBounds_toArray,List.set_cons_zero,List.set_cons_succ])
         refine wpAnyH_ready (rs:=[22]) (by kernel_rfl) (by simp) ?_
         refine AllReadyH.cons (o:={dst:=some 13,op:=Go.Op.alloc 38,type:=0,pos := "subst.go:89",after:=#[],guard:=none}) rfl (fun K hK=>?_) ?_
         ·go_simp
          refine hK.out _ _ ?_ (fun hHeld=>?_)
          ·(try dsimp only)
           (((with_reducible refine held_and2 ?_ d0 hpc);repeat (first | with_reducible assumption | with_reducible exact hH0 | with_reducible refine held_drew ?_ | with_reducible refine held_alloc ?_ _ | ((with_reducible refine held_set ?_ ?hh _);(case hh=>simp)))))
          clear hK K
          (try simp only [Act.put,List.setIfInBounds_toArray,List.set_cons_zero,List.set_cons_succ])
          refine wpAnyH_ready (rs:=[23]) (by kernel_rfl) (by simp) ?_
          refine AllReadyH.cons (o:={dst:=none,op:=Go.Op.store 38 (Go.Operand.tmp 13) (Go.Operand.tmp 72),type:=0,pos := "subst.go:89",after:=#[{on:=22,ground:=Go.Ground.data},{on:=20,ground:=Go.Ground.data},{on:=18,ground:=Go.Ground.chain},{on:=0,ground:=Go.Ground.phase},{on:=1,ground:=Go.Ground.phase},{on:=2,ground:=Go.Ground.phase},{on:=3,ground:=Go.Ground.phase},{on:=4,ground:=Go.Ground.phase},{on:=5,ground:=Go.Ground.phase},{on:=6,ground:=Go.Ground.phase},{on:=7,ground:=Go.Ground.phase},{on:=8,ground:=Go.Ground.phase},{on:=9,ground:=Go.Ground.phase},{on:=10,ground:=Go.Ground.phase},{on:=11,ground:=Go.Ground.phase},{on:=12,ground:=Go.Ground.phase},{on:=13,ground:=Go.Ground.phase},{on:=14,ground:=Go.Ground.phase},{on:=15,ground:=Go.Ground.phase},{on:=16,ground:=Go.Ground.phase},{on:=17,ground:=Go.Ground.phase},{on:=18,ground:=Go.Ground.phase},{on:=19,ground:=Go.Ground.phase},{on:=20,ground:=Go.Ground.phase},{on:=21,ground:=Go.Ground.textOnly Go.Departure.lateStores},{on:=22,ground:=Go.Ground.phase}],guard:=none}) rfl (fun K hK=>?_) ?_
          ·go_simp
           refine hK.out _ _ ?_ (fun hHeld=>?_)
           ·(try dsimp only)
            (((with_reducible refine held_and2 ?_ d0 hpc);repeat (first | with_reducible assumption | with_reducible exact hH0 | with_reducible refine held_drew ?_ | with_reducible refine held_alloc ?_ _ | ((with_reducible refine held_set ?_ ?hh _);(case hh=>simp)))))
           clear hK K
           (try simp only [Act.put,List.setIfInBounds_toArray,List.set_cons_zero,List.set_cons_succ])
           refine wpAnyH_take (i:=24) (oi:={dst:=some 14,op:=Go.Op.assign (Go.Operand.tmp 73),type:=4,pos := "subst.go:89",after:=#[{on:=21,ground:=Go.Ground.data},{on:=23,ground:=Go.Ground.chain},{on:=0,ground:=Go.Ground.phase},{on:=1,ground:=Go.Ground.phase},{on:=2,ground:=Go.Ground.phase},{on:=3,ground:=Go.Ground.phase},{on:=4,ground:=Go.Ground.phase},{on:=5,ground:=Go.Ground.phase},{on:=6,ground:=Go.Ground.phase},{on:=7,ground:=Go.Ground.phase},{on:=8,ground:=Go.Ground.phase},{on:=9,ground:=Go.Ground.phase},{on:=10,ground:=Go.Ground.phase},{on:=11,ground:=Go.Ground.phase},{on:=12,ground:=Go.Ground.phase},{on:=13,ground:=Go.Ground.phase},{on:=14,ground:=Go.Ground.phase},{on:=15,ground:=Go.Ground.phase},{on:=16,ground:=Go.Ground.phase},{on:=17,ground:=Go.Ground.phase},{on:=18,ground:=Go.Ground.phase},{on:=19,ground:=Go.Ground.phase},{on:=20,ground:=Go.Ground.phase},{on:=21,ground:=Go.Ground.phase},{on:=22,ground:=Go.Ground.phase},{on:=23,ground:=Go.Ground.phase}],guard:=none}) (v:=?_) rfl (by kernel_rfl) (by kernel_rfl) (by kernel_rfl) (fun _ _ _ h=>h) (Or.inl ⟨by rfl,?_⟩) (by assumption) ?_
           rotate_left 1
           ·((intro w hSw;(try dsimp only at hSw);go_simp)<;>with_reducible rfl)
           (try simp only [Act.put,List.setIfInBounds_toArray,List.set_cons_zero,List.set_cons_succ])
           refine wpAnyH_done (by kernel_rfl) ?_ _
           rcases HANS.out with ⟨rfl,hr,rfl,hl2⟩ | ⟨rfl,hr⟩
           ·have HFI2:=Lib.hid (HFX.out u hr)
            have hW:Held wr t.kids[q] (.slice a' t.kids[q].kids.length cap') (wn.alloc (.cells #[.int .i64 u.k,.int .i64 u.i,.int .i64 u.j,.int .i64 u.n,.slice a2 u.kids.length cap2] 38)):=held_alloc hh _
            have hLW:LiesP (wn.alloc (.cells #[.int .i64 u.k,.int .i64 u.i,.int .i64 u.j,.int .i64 u.n,.slice a2 u.kids.length cap2] 38)) (Own wr.heap.size (wn.alloc (.cells #[.int .i64 u.k,.int .i64 u.i,.int .i64 u.j,.int .i64 u.n,.slice a2 u.kids.length cap2] 38))) u.kids (.slice a2 u.kids.length cap2):=((hl2.from (by simp)).later ((Below.refl _ _).alloc (Nat.le_refl _) _))
            have hN:(wn.alloc (.cells #[.int .i64 u.k,.int .i64 u.i,.int .i64 u.j,.int .i64 u.n,.slice a2 u.kids.length cap2] 38)).heap[wn.heap.size]? =some (boxOf u (.slice a2 u.kids.length cap2)):=alloc_new _ _
            clear hh hbn hl2
            generalize (wn.alloc (.cells #[.int .i64 u.k,.int .i64 u.i,.int .i64 u.j,.int .i64 u.n,.slice a2 u.kids.length cap2] 38))=W at hW hLW hN ⊢
            have hdW:=desk_trans hdk (below_from (held_below hW) hsz)
            have hfW:=hfu.later (held_below hW)
            have hxq:q<xs.length:=by rw [HXL.out];exact hlt
            have hLF:=hfu.fresh hsz hLW
            obtain⟨-,-,q2⟩:=desk_blocks hdW
            obtain⟨y0,y1,y2,y3,y4⟩:=five_cells q2
            obtain⟨p0,p1,p2,p3,p4⟩:=five_cells hN
            obtain⟨x0,x1,x2,x3,x4⟩:=hfW.node q hxq
            obtain⟨cs,hcs⟩:=hfW.open'
            have f0:=open_unfrozen hcs (q * 5)
            have f1:=open_unfrozen hcs (q * 5+1)
            have f2:=open_unfrozen hcs (q * 5+2)
            have f3:=open_unfrozen hcs (q * 5+3)
            have f4:=open_unfrozen hcs (q * 5+4)
            have HFW:=Lib.hid hfW
            have HLF:=Lib.hid hLF
            have HFU:=Lib.hid hfu
            clear hcs hN hLW hW hfW hLF hfu d0 d1 d2 d3 d4 z0 z1 z2 z3 z4
            go_wp2
            go_roundw
            case rel=>exact⟨q+1,xs.set q (u,.slice a2 u.kids.length cap2),hlt,by go_num,by simp [Hid,HXL.out],by rw [Hid,optK_next hlt HXS.out hr,List.map_set,take_set_next _ _ _ (by simpa using hxq)],HFW.out.fill hxq HFI2.out HLF.out,desk_put hdW (Nat.le_refl _) _ _ _⟩
            case measure=>simp [intOf];omega
           ·have hW:Held wr t.kids[q] (.slice a' t.kids[q].kids.length cap') (wn.alloc (.cells #[.int .i64 u.k,.int .i64 u.i,.int .i64 u.j,.int .i64 u.n,.slice a2 n2 cap2] 38)):=held_alloc hh _
            clear hh hbn
            generalize (wn.alloc (.cells #[.int .i64 u.k,.int .i64 u.i,.int .i64 u.j,.int .i64 u.n,.slice a2 n2 cap2] 38))=W at hW ⊢
            have hdW:=desk_trans hdk (below_from (held_below hW) hsz)
            obtain⟨-,q1,-⟩:=desk_blocks hdW
            obtain⟨z0,z1,z2,z3,z4⟩:=five_cells q1
            obtain⟨f0,f1,f2,f3,f4⟩:=five_free q1
            go_wp2
            (try simp only [Exit.inBlock,Exit.then])
            refine bodyPost_ret (results_cell_tmp rfl _ _ (w.heap.size+1) _ _ _ du rfl (five_set q1) hu1 (by cases du<;>first | rfl | exact hu2) size_term) rfl ?_
            exact GivesN.wide ⟨((((((desk_under hdW).setCell (by simp) _).setCell (by simp) _).setCell (by simp) _).setCell (by simp) _).setCell (by simp) _),Or.inr ⟨Tm.zero,none,0,0,by rw [HEQ.out,optK_stop hlt hr];rfl,rfl⟩⟩ HBP.out
          exact AllReadyH.nil
         exact AllReadyH.nil
        refine AllReadyH.cons (o:={dst:=some 13,op:=Go.Op.alloc 38,type:=0,pos := "subst.go:89",after:=#[],guard:=none}) rfl (fun K hK=>?_) ?_
        ·go_simp
         refine hK.out _ _ ?_ (fun hHeld=>?_)
         ·(try dsimp only)
          (((with_reducible refine held_and2 ?_ d0 hpc);repeat (first | with_reducible assumption | with_reducible exact hH0 | with_reducible refine held_drew ?_ | with_reducible refine held_alloc ?_ _ | ((with_reducible refine held_set ?_ ?hh _);(case hh=>simp)))))
         clear hK K
         (try simp only [Act.put,List.setIfInBounds_toArray,List.set_cons_zero,List.set_cons_succ])
         refine wpAnyH_ready (rs:=[18]) (by kernel_rfl) (by simp) ?_
         refine AllReadyH.cons (o:={dst:=some 71,op:=Go.Op.call {callee:=Go.Callee.value (Go.Operand.func 71),args:=#[Go.Operand.tmp 53,Go.Operand.tmp 54,Go.Operand.tmp 60,Go.Operand.tmp 70],argTypes:=#[104,38,3,4] },type:=105,pos := "subst.go:89",after:=#[{on:=0,ground:=Go.Ground.data},{on:=1,ground:=Go.Ground.data},{on:=7,ground:=Go.Ground.data},{on:=17,ground:=Go.Ground.data},{on:=13,ground:=Go.Ground.chain}],guard:=none}) rfl (fun K hK=>?_) ?_
         ·go_simp
          ((go_at_call 71;((with_reducible refine Calls.mono CALLA.out ?_);rintro e wn ⟨⟨u,a2,n2,cap2,ok,rfl,hbn,hans⟩,hZ⟩;obtain⟨⟨g0,g1,g2,g3,g4⟩,k0,k1,k2,k3,k4⟩:=And.intro (five_cells hZ) (five_free hZ);have HANS:=Lib.hid hans;clear hans;have hh:=held_call (held_drew (held_alloc hH0 _)) hbn)))
          refine hK.out _ _ ?_ (fun hHeld=>?_)
          ·(try dsimp only)
           (((with_reducible refine held_and2 ?_ d0 hpc);repeat (first | with_reducible assumption | with_reducible exact hH0 | with_reducible refine held_drew ?_ | with_reducible refine held_alloc ?_ _ | ((with_reducible refine held_set ?_ ?hh _);(case hh=>simp)))))
          clear hK K
          (try simp only [Act.put,List.setIfInBounds_toArray,List.set_cons_zero,List.set_cons_succ])
          refine wpAnyH_take (i:=19) (oi:={dst:=some 52,op:=Go.Op.move (Go.Operand.tmp 71),type:=105,pos := "subst.go:89",after:=#[{on:=18,ground:=Go.Ground.data}],guard:=none}) (v:=?_) rfl (by kernel_rfl) (by kernel_rfl) (by kernel_rfl) (fun _ _ _ h=>h) (Or.inl ⟨by rfl,?_⟩) (by assumption) ?_
          rotate_left 1
          ·((intro w hSw;(try dsimp only at hSw);go_simp)<;>with_reducible rfl)
          (try simp only [Act.put,List.setIfInBounds_toArray,List.set_cons_zero,List.set_cons_succ])
          refine wpAnyH_take (i:=20) (oi:={dst:=some 72,op:=Go.Op.extract (Go.Operand.tmp 52) 0,type:=38,pos := "subst.go:89",after:=#[{on:=19,ground:=Go.Ground.data}],guard:=none}) (v:=?_) rfl (by kernel_rfl) (by kernel_rfl) (by kernel_rfl) (fun _ _ _ h=>h) (Or.inl ⟨by rfl,?_⟩) (by assumption) ?_
          rotate_left 1
          ·((intro w hSw;(try dsimp only at hSw);go_simp)<;>with_reducible rfl)
          (try simp only [Act.put,List.setIfInBounds_toArray,List.set_cons_zero,List.set_cons_succ])
          refine wpAnyH_take (i:=21) (oi:={dst:=some 73,op:=Go.Op.extract (Go.Operand.tmp 52) 1,type:=4,pos := "subst.go:89",after:=#[{on:=19,ground:=Go.Ground.data},{on:=23,ground:=Go.Ground.gcOnly Go.Departure.lateStores}],guard:=none}) (v:=?_) rfl (by kernel_rfl) (by kernel_rfl) (by kernel_rfl) (fun _ _ _ h=>h) (Or.inl ⟨by rfl,?_⟩) (by assumption) ?_
          rotate_left 1
          ·((intro w hSw;(try dsimp only at hSw);go_simp)<;>with_reducible rfl)
          (try simp only [Act.put,List.setIfInBounds_toArray,List.set_cons_zero,List.set_cons_succ])
          refine wpAnyH_ready (rs:=[23]) (by kernel_rfl) (by simp) ?_
          refine AllReadyH.cons (o:={dst:=none,op:=Go.Op.store 38 (Go.Operand.tmp 13) (Go.Operand.tmp 72),type:=0,pos := "subst.go:89",after:=#[{on:=22,ground:=Go.Ground.data},{on:=20,ground:=Go.Ground.data},{on:=18,ground:=Go.Ground.chain},{on:=0,ground:=Go.Ground.phase},{on:=1,ground:=Go.Ground.phase},{on:=2,ground:=Go.Ground.phase},{on:=3,ground:=Go.Ground.phase},{on:=4,ground:=Go.Ground.phase},{on:=5,ground:=Go.Ground.phase},{on:=6,ground:=Go.Ground.phase},{on:=7,ground:=Go.Ground.phase},{on:=8,ground:=Go.Ground.phase},{on:=9,ground:=Go.Ground.phase},{on:=10,ground:=Go.Ground.phase},{on:=11,ground:=Go.Ground.phase},{on:=12,ground:=Go.Ground.phase},{on:=13,ground:=Go.Ground.phase},{on:=14,ground:=Go.Ground.phase},{on:=15,ground:=Go.Ground.phase},{on:=16,ground:=Go.Ground.phase},{on:=17,ground:=Go.Ground.phase},{on:=18,ground:=Go.Ground.phase},{on:=19,ground:=Go.Ground.phase},{on:=20,ground:=Go.Ground.phase},{on:=21,ground:=Go.Ground.textOnly Go.Departure.lateStores},{on:=22,ground:=Go.Ground.phase}],guard:=none}) rfl (fun K hK=>?_) ?_
          ·go_simp
           refine hK.out _ _ ?_ (fun hHeld=>?_)
           ·(try dsimp only)
            (((with_reducible refine held_and2 ?_ d0 hpc);repeat (first | with_reducible assumption | with_reducible exact hH0 | with_reducible refine held_drew ?_ | with_reducible refine held_alloc ?_ _ | ((with_reducible refine held_set ?_ ?hh _);(case hh=>simp)))))
           clear hK K
           (try simp only [Act.put,List.setIfInBounds_toArray,List.set_cons_zero,List.set_cons_succ])
           refine wpAnyH_take (i:=24) (oi:={dst:=some 14,op:=Go.Op.assign (Go.Operand.tmp 73),type:=4,pos := "subst.go:89",after:=#[{on:=21,ground:=Go.Ground.data},{on:=23,ground:=Go.Ground.chain},{on:=0,ground:=Go.Ground.phase},{on:=1,ground:=Go.Ground.phase},{on:=2,ground:=Go.Ground.phase},{on:=3,ground:=Go.Ground.phase},{on:=4,ground:=Go.Ground.phase},{on:=5,ground:=Go.Ground.phase},{on:=6,ground:=Go.Ground.phase},{on:=7,ground:=Go.Ground.phase},{on:=8,ground:=Go.Ground.phase},{on:=9,ground:=Go.Ground.phase},{on:=10,ground:=Go.Ground.phase},{on:=11,ground:=Go.Ground.phase},{on:=12,ground:=Go.Ground.phase},{on:=13,ground:=Go.Ground.phase},{on:=14,ground:=Go.Ground.phase},{on:=15,ground:=Go.Ground.phase},{on:=16,ground:=Go.Ground.phase},{on:=17,ground:=Go.Ground.phase},{on:=18,ground:=Go.Ground.phase},{on:=19,ground:=Go.Ground.phase},{on:=20,ground:=Go.Ground.phase},{on:=21,ground:=Go.Ground.phase},{on:=22,ground:=Go.Ground.phase},{on:=23,ground:=Go.Ground.phase}],guard:=none}) (v:=?_) rfl (by kernel_rfl) (by kernel_rfl) (by kernel_rfl) (fun _ _ _ h=>h) (Or.inl ⟨by rfl,?_⟩) (by assumption) ?_
           rotate_left 1
           ·((intro w hSw;(try dsimp only at hSw);go_simp)<;>with_reducible rfl)
           (try simp only [Act.put,List.setIfInBounds_toArray,List.set_cons_zero,List.set_cons_succ])
           refine wpAnyH_done (by kernel_rfl) ?_ _
           rcases HANS.out with ⟨rfl,hr,rfl,hl2⟩ | ⟨rfl,hr⟩
           ·have HFI2:=Lib.hid (HFX.out u hr)
            have hW:Held wr t.kids[q] (.slice a' t.kids[q].kids.length cap') (((((wn.setCell ⟨wr.heap.size+1,0,none⟩ (.int .i64 u.k)).setCell ⟨wr.heap.size+1,1,none⟩ (.int .i64 u.i)).setCell ⟨wr.heap.size+1,2,none⟩ (.int .i64 u.j)).setCell ⟨wr.heap.size+1,3,none⟩ (.int .i64 u.n)).setCell ⟨wr.heap.size+1,4,none⟩ (.slice a2 u.kids.length cap2)):=held_five hh _ _ _ _ _
            have hLW:LiesP (((((wn.setCell ⟨wr.heap.size+1,0,none⟩ (.int .i64 u.k)).setCell ⟨wr.heap.size+1,1,none⟩ (.int .i64 u.i)).setCell ⟨wr.heap.size+1,2,none⟩ (.int .i64 u.j)).setCell ⟨wr.heap.size+1,3,none⟩ (.int .i64 u.n)).setCell ⟨wr.heap.size+1,4,none⟩ (.slice a2 u.kids.length cap2)) (Own wr.heap.size (((((wn.setCell ⟨wr.heap.size+1,0,none⟩ (.int .i64 u.k)).setCell ⟨wr.heap.size+1,1,none⟩ (.int .i64 u.i)).setCell ⟨wr.heap.size+1,2,none⟩ (.int .i64 u.j)).setCell ⟨wr.heap.size+1,3,none⟩ (.int .i64 u.n)).setCell ⟨wr.heap.size+1,4,none⟩ (.slice a2 u.kids.length cap2))) u.kids (.slice a2 u.kids.length cap2):=liesP_five (hl2.from (B':=wr.heap.size+2) (by simp)) _ _ _ _ _
            have hN:(((((wn.setCell ⟨wr.heap.size+1,0,none⟩ (.int .i64 u.k)).setCell ⟨wr.heap.size+1,1,none⟩ (.int .i64 u.i)).setCell ⟨wr.heap.size+1,2,none⟩ (.int .i64 u.j)).setCell ⟨wr.heap.size+1,3,none⟩ (.int .i64 u.n)).setCell ⟨wr.heap.size+1,4,none⟩ (.slice a2 u.kids.length cap2)).heap[wr.heap.size+1]? =some (boxOf u (.slice a2 u.kids.length cap2)):=five_set hZ
            clear hh hbn hl2 hZ g0 g1 g2 g3 g4 k0 k1 k2 k3 k4
            generalize (((((wn.setCell ⟨wr.heap.size+1,0,none⟩ (.int .i64 u.k)).setCell ⟨wr.heap.size+1,1,none⟩ (.int .i64 u.i)).setCell ⟨wr.heap.size+1,2,none⟩ (.int .i64 u.j)).setCell ⟨wr.heap.size+1,3,none⟩ (.int .i64 u.n)).setCell ⟨wr.heap.size+1,4,none⟩ (.slice a2 u.kids.length cap2))=W at hW hLW hN ⊢
            have hdW:=desk_trans hdk (below_from (held_below hW) hsz)
            have hfW:=hfu.later (held_below hW)
            have hxq:q<xs.length:=by rw [HXL.out];exact hlt
            have hLF:=hfu.fresh hsz hLW
            obtain⟨-,-,q2⟩:=desk_blocks hdW
            obtain⟨y0,y1,y2,y3,y4⟩:=five_cells q2
            obtain⟨p0,p1,p2,p3,p4⟩:=five_cells hN
            obtain⟨x0,x1,x2,x3,x4⟩:=hfW.node q hxq
            obtain⟨cs,hcs⟩:=hfW.open'
            have f0:=open_unfrozen hcs (q * 5)
            have f1:=open_unfrozen hcs (q * 5+1)
            have f2:=open_unfrozen hcs (q * 5+2)
            have f3:=open_unfrozen hcs (q * 5+3)
            have f4:=open_unfrozen hcs (q * 5+4)
            have HFW:=Lib.hid hfW
            have HLF:=Lib.hid hLF
            have HFU:=Lib.hid hfu
            clear hcs hN hLW hW hfW hLF hfu d0 d1 d2 d3 d4 z0 z1 z2 z3 z4
            go_wp2
            go_roundw
            case rel=>exact⟨q+1,xs.set q (u,.slice a2 u.kids.length cap2),hlt,by go_num,by simp [Hid,HXL.out],by rw [Hid,optK_next hlt HXS.out hr,List.map_set,take_set_next _ _ _ (by simpa using hxq)],HFW.out.fill hxq HFI2.out HLF.out,desk_put hdW (Nat.le_refl _) _ _ _⟩
            case measure=>simp [intOf];omega
           ·have hW:Held wr t.kids[q] (.slice a' t.kids[q].kids.length cap') (((((wn.setCell ⟨wr.heap.size+1,0,none⟩ (.int .i64 u.k)).setCell ⟨wr.heap.size+1,1,none⟩ (.int .i64 u.i)).setCell ⟨wr.heap.size+1,2,none⟩ (.int .i64 u.j)).setCell ⟨wr.heap.size+1,3,none⟩ (.int .i64 u.n)).setCell ⟨wr.heap.size+1,4,none⟩ (.slice a2 n2 cap2)):=held_five hh _ _ _ _ _
            clear hh hbn hZ g0 g1 g2 g3 g4 k0 k1 k2 k3 k4
            generalize (((((wn.setCell ⟨wr.heap.size+1,0,none⟩ (.int .i64 u.k)).setCell ⟨wr.heap.size+1,1,none⟩ (.int .i64 u.i)).setCell ⟨wr.heap.size+1,2,none⟩ (.int .i64 u.j)).setCell ⟨wr.heap.size+1,3,none⟩ (.int .i64 u.n)).setCell ⟨wr.heap.size+1,4,none⟩ (.slice a2 n2 cap2))=W at hW ⊢
            have hdW:=desk_trans hdk (below_from (held_below hW) hsz)
            obtain⟨-,q1,-⟩:=desk_blocks hdW
            obtain⟨z0,z1,z2,z3,z4⟩:=five_cells q1
            obtain⟨f0,f1,f2,f3,f4⟩:=five_free q1
            go_wp2
            (try simp only [Exit.inBlock,Exit.then])
            refine bodyPost_ret (results_cell_tmp rfl _ _ (w.heap.size+1) _ _ _ du rfl (five_set q1) hu1 (by cases du<;>first | rfl | exact hu2) size_term) rfl ?_
            exact GivesN.wide ⟨((((((desk_under hdW).setCell (by simp) _).setCell (by simp) _).setCell (by simp) _).setCell (by simp) _).setCell (by simp) _),Or.inr ⟨Tm.zero,none,0,0,by rw [HEQ.out,optK_stop hlt hr];rfl,rfl⟩⟩ HBP.out
          exact AllReadyH.nil
         exact AllReadyH.nil
        exact AllReadyH.nil
       refine AllReadyH.cons (o:={dst:=some 13,op:=Go.Op.alloc 38,type:=0,pos := "subst.go:89",after:=#[],guard:=none}) rfl (fun K hK=>?_) ?_
       ·go_simp
        refine hK.out _ _ ?_ (fun hHeld=>?_)
        ·(try dsimp only)
         (((with_reducible refine held_and2 ?_ d0 hpc);repeat (first | with_reducible assumption | with_reducible exact hH0 | with_reducible refine held_drew ?_ | with_reducible refine held_alloc ?_ _ | ((with_reducible refine held_set ?_ ?hh _);(case hh=>simp)))))
        clear hK K
        (try simp only [Act.put,List.setIfInBounds_toArray,List.set_cons_zero,List.set_cons_succ])
        refine wpAnyH_ready (rs:=[6]) (by kernel_rfl) (by simp) ?_
        refine AllReadyH.cons (o:={dst:=some 59,op:=Go.Op.call {callee:=Go.Callee.value (Go.Operand.func 65),args:=#[Go.Operand.tmp 57,Go.Operand.tmp 58],argTypes:=#[3,3] },type:=3,pos := "subst.go:89",after:=#[{on:=4,ground:=Go.Ground.data},{on:=5,ground:=Go.Ground.data}],guard:=none}) rfl (fun K hK=>?_) ?_
        ·go_simp
         ((go_at_call 65;refine(binds_any _ _ _).mono ?_;rintro e w' ⟨rfl,rfl⟩))
         refine hK.out _ _ ?_ (fun hHeld=>?_)
         ·(try dsimp only)
          (((with_reducible refine held_and2 ?_ d0 hpc);repeat (first | with_reducible assumption | with_reducible exact hH0 | with_reducible refine held_drew ?_ | with_reducible refine held_alloc ?_ _ | ((with_reducible refine held_set ?_ ?hh _);(case hh=>simp)))))
         clear hK K
         (try simp only [Act.put,List.setIfInBounds_toArray,List.set_cons_zero,List.set_cons_succ])
         refine wpAnyH_take (i:=7) (oi:={dst:=some 60,op:=Go.Op.binOp Go.BinOp.add 3 (Go.Operand.tmp 55) (Go.Operand.tmp 59) 3,type:=3,pos := "subst.go:89",after:=#[{on:=2,ground:=Go.Ground.data},{on:=6,ground:=Go.Ground.data}],guard:=none}) (v:=?_) rfl (by kernel_rfl) (by kernel_rfl) (by kernel_rfl) (fun _ _ _ h=>h) (Or.inl ⟨by rfl,?_⟩) (by assumption) ?_
         rotate_left 1
         ·((intro w hSw;(try dsimp only at hSw);go_simp)<;>with_reducible rfl)
         (try simp only [Act.put,List.setIfInBounds_toArray,List.set_cons_zero,List.set_cons_succ])
         refine wpAnyH_take (i:=9) (oi:={dst:=some 62,op:=Go.Op.move (Go.Operand.tmp 61),type:=4,pos := "subst.go:89",after:=#[{on:=8,ground:=Go.Ground.data},{on:=6,ground:=Go.Ground.chain}],guard:=none}) (v:=?_) rfl (by kernel_rfl) (by kernel_rfl) (by kernel_rfl) (fun _ _ _ h=>h) (Or.inl ⟨by rfl,?_⟩) (by assumption) ?_
         rotate_left 1
         ·((intro w hSw;(try dsimp only at hSw);go_simp)<;>with_reducible rfl)
         (try simp only [Act.put,List.setIfInBounds_toArray,List.set_cons_zero,List.set_cons_succ])
         refine wpAnyH_take (i:=10) (oi:={dst:=some 63,op:=Go.Op.fieldAddr 38 (Go.Operand.tmp 5) 0,type:=0,pos := "subst.go:89",after:=#[{on:=9,ground:=Go.Ground.guard}],guard:=some (9,false) }) (v:=undef) rfl (by kernel_rfl) (by kernel_rfl) (by kernel_rfl) (fun _ _ _ h=>h) (Or.inr ⟨by rfl,rfl⟩) (by assumption) ?_
         (try simp only [Act.put,List.setIfInBounds_toArray,List.set_cons_zero,List.set_cons_succ])
         refine wpAnyH_take (i:=11) (oi:={dst:=some 64,op:=Go.Op.load 3 (Go.Operand.tmp 63),type:=3,pos := "subst.go:89",after:=#[{on:=10,ground:=Go.Ground.data},{on:=9,ground:=Go.Ground.guard}],guard:=some (9,false) }) (v:=undef) rfl (by kernel_rfl) (by kernel_rfl) (by kernel_rfl) (fun _ _ _ h=>h) (Or.inr ⟨by rfl,rfl⟩) (by assumption) ?_
         (try simp only [Act.put,List.setIfInBounds_toArray,List.set_cons_zero,List.set_cons_succ])
         refine wpAnyH_take (i:=12) (oi:={dst:=some 65,op:=Go.Op.binOp Go.BinOp.eql 3 (Go.Operand.tmp 64) (Go.Operand.const (Go.Value.int Go.IntKind.i64 12)) 3,type:=4,pos := "subst.go:89",after:=#[{on:=11,ground:=Go.Ground.data},{on:=9,ground:=Go.Ground.guard}],guard:=some (9,false) }) (v:=undef) rfl (by kernel_rfl) (by kernel_rfl) (by kernel_rfl) (fun _ _ _ h=>h) (Or.inr ⟨by rfl,rfl⟩) (by assumption) ?_
         (try simp only [Act.put,List.setIfInBounds_toArray,List.set_cons_zero,List.set_cons_succ])
         refine wpAnyH_take (i:=13) (oi:={dst:=some 66,op:=Go.Op.move (Go.Operand.tmp 65),type:=4,pos := "subst.go:89",after:=#[{on:=12,ground:=Go.Ground.data},{on:=9,ground:=Go.Ground.chain},{on:=9,ground:=Go.Ground.guard}],guard:=some (9,false) }) (v:=undef) rfl (by kernel_rfl) (by kernel_rfl) (by kernel_rfl) (fun _ _ _ h=>h) (Or.inr ⟨by rfl,rfl⟩) (by assumption) ?_
         (try simp only [Act.put,List.setIfInBounds_toArray,List.set_cons_zero,List.set_cons_succ])
         refine wpAnyH_take (i:=14) (oi:={dst:=some 67,op:=Go.Op.move (Go.Operand.tmp 11),type:=3,pos := "subst.go:89",after:=#[{on:=13,ground:=Go.Ground.guard}],guard:=some (13,true) }) (v:=undef) rfl (by kernel_rfl) (by kernel_rfl) (by kernel_rfl) (fun _ _ _ h=>h) (Or.inr ⟨by rfl,rfl⟩) (by assumption) ?_
         (try simp only [Act.put,List.setIfInBounds_toArray,List.set_cons_zero,List.set_cons_succ])
         refine wpAnyH_take (i:=15) (oi:={dst:=some 68,op:=Go.Op.binOp Go.BinOp.eql 3 (Go.Operand.tmp 67) (Go.Operand.const (Go.Value.int Go.IntKind.i64 2)) 3,type:=4,pos := "subst.go:89",after:=#[{on:=14,ground:=Go.Ground.data},{on:=13,ground:=Go.Ground.guard}],guard:=some (13,true) }) (v:=undef) rfl (by kernel_rfl) (by kernel_rfl) (by kernel_rfl) (fun _ _ _ h=>h) (Or.inr ⟨by rfl,rfl⟩) (by assumption) ?_
         (try simp only [Act.put,List.setIfInBounds_toArray,List.set_cons_zero,List.set_cons_succ])
         refine wpAnyH_take (i:=16) (oi:={dst:=some 69,op:=Go.Op.pick (Go.Operand.tmp 66) (Go.Operand.tmp 68) (Go.Operand.const (Go.Value.bool false)),type:=4,pos := "subst.go:89",after:=#[{on:=13,ground:=Go.Ground.data},{on:=15,ground:=Go.Ground.data},{on:=9,ground:=Go.Ground.guard}],guard:=some (9,false) }) (v:=undef) rfl (by kernel_rfl) (by kernel_rfl) (by kernel_rfl) (fun _ _ _ h=>h) (Or.inr ⟨by rfl,rfl⟩) (by assumption) ?_
         (try simp only [Act.put,List.setIfInBounds_toArray,List.set_cons_zero,List.set_cons_succ])
         refine wpAnyH_take (i:=17) (oi:={dst:=some 70,op:=Go.Op.pick (Go.Operand.tmp 62) (Go.Operand.const (Go.Value.bool true)) (Go.Operand.tmp 69),type:=4,pos := "subst.go:89",after:=#[{on:=9,ground:=Go.Ground.data},{on:=16,ground:=Go.Ground.data}],guard:=none}) (v:=?_) rfl (by kernel_rfl) (by kernel_rfl) (by kernel_rfl) (fun _ _ _ h=>h) (Or.inl ⟨by rfl,?_⟩) (by assumption) ?_
         rotate_left 1
         ·((intro w hSw;(try dsimp only at hSw);go_simp)<;>with_reducible rfl)
         (try simp only [Act.put,List.setIfInBounds_toArray,List.set_cons_zero,List.set_cons_succ])
         refine wpAnyH_ready (rs:=[18]) (by kernel_rfl) (by simp) ?_
         refine AllReadyH.cons (o:={dst:=some 71,op:=Go.Op.call {callee:=Go.Callee.value (Go.Operand.func 71),args:=#[Go.Operand.tmp 53,Go.Operand.tmp 54,Go.Operand.tmp 60,Go.Operand.tmp 70],argTypes:=#[104,38,3,4] },type:=105,pos := "subst.go:89",after:=#[{on:=0,ground:=Go.Ground.data},{on:=1,ground:=Go.Ground.data},{on:=7,ground:=Go.Ground.data},{on:=17,ground:=Go.Ground.data},{on:=13,ground:=Go.Ground.chain}],guard:=none}) rfl (fun K hK=>?_) ?_
         ·go_simp
          ((go_at_call 71;((with_reducible refine Calls.mono CALLA.out ?_);rintro e wn ⟨⟨u,a2,n2,cap2,ok,rfl,hbn,hans⟩,hZ⟩;obtain⟨⟨g0,g1,g2,g3,g4⟩,k0,k1,k2,k3,k4⟩:=And.intro (five_cells hZ) (five_free hZ);have HANS:=Lib.hid hans;clear hans;have hh:=held_call (held_drew (held_alloc hH0 _)) hbn)))
          refine hK.out _ _ ?_ (fun hHeld=>?_)
          ·(try dsimp only)
           (((with_reducible refine held_and2 ?_ d0 hpc);repeat (first | with_reducible assumption | with_reducible exact hH0 | with_reducible refine held_drew ?_ | with_reducible refine held_alloc ?_ _ | ((with_reducible refine held_set ?_ ?hh _);(case hh=>simp)))))
          clear hK K
          (try simp only [Act.put,List.setIfInBounds_toArray,List.set_cons_zero,List.set_cons_succ])
          refine wpAnyH_take (i:=19) (oi:={dst:=some 52,op:=Go.Op.move (Go.Operand.tmp 71),type:=105,pos := "subst.go:89",after:=#[{on:=18,ground:=Go.Ground.data}],guard:=none}) (v:=?_) rfl (by kernel_rfl) (by kernel_rfl) (by kernel_rfl) (fun _ _ _ h=>h) (Or.inl ⟨by rfl,?_⟩) (by assumption) ?_
          rotate_left 1
          ·((intro w hSw;(try dsimp only at hSw);go_simp)<;>with_reducible rfl)
          (try simp only [Act.put,List.setIfInBounds_toArray,List.set_cons_zero,List.set_cons_succ])
          refine wpAnyH_take (i:=20) (oi:={dst:=some 72,op:=Go.Op.extract (Go.Operand.tmp 52) 0,type:=38,pos := "subst.go:89",after:=#[{on:=19,ground:=Go.Ground.data}],guard:=none}) (v:=?_) rfl (by kernel_rfl) (by kernel_rfl) (by kernel_rfl) (fun _ _ _ h=>h) (Or.inl ⟨by rfl,?_⟩) (by assumption) ?_
          rotate_left 1
          ·((intro w hSw;(try dsimp only at hSw);go_simp)<;>with_reducible rfl)
          (try simp only [Act.put,List.setIfInBounds_toArray,List.set_cons_zero,List.set_cons_succ])
          refine wpAnyH_take (i:=21) (oi:={dst:=some 73,op:=Go.Op.extract (Go.Operand.tmp 52) 1,type:=4,pos := "subst.go:89",after:=#[{on:=19,ground:=Go.Ground.data},{on:=23,ground:=Go.Ground.gcOnly Go.Departure.lateStores}],guard:=none}) (v:=?_) rfl (by kernel_rfl) (by kernel_rfl) (by kernel_rfl) (fun _ _ _ h=>h) (Or.inl ⟨by rfl,?_⟩) (by assumption) ?_
          rotate_left 1
          ·((intro w hSw;(try dsimp only at hSw);go_simp)<;>with_reducible rfl)
          (try simp only [Act.put,List.setIfInBounds_toArray,List.set_cons_zero,List.set_cons_succ])
          refine wpAnyH_ready (rs:=[23]) (by kernel_rfl) (by simp) ?_
          refine AllReadyH.cons (o:={dst:=none,op:=Go.Op.store 38 (Go.Operand.tmp 13) (Go.Operand.tmp 72),type:=0,pos := "subst.go:89",after:=#[{on:=22,ground:=Go.Ground.data},{on:=20,ground:=Go.Ground.data},{on:=18,ground:=Go.Ground.chain},{on:=0,ground:=Go.Ground.phase},{on:=1,ground:=Go.Ground.phase},{on:=2,ground:=Go.Ground.phase},{on:=3,ground:=Go.Ground.phase},{on:=4,ground:=Go.Ground.phase},{on:=5,ground:=Go.Ground.phase},{on:=6,ground:=Go.Ground.phase},{on:=7,ground:=Go.Ground.phase},{on:=8,ground:=Go.Ground.phase},{on:=9,ground:=Go.Ground.phase},{on:=10,ground:=Go.Ground.phase},{on:=11,ground:=Go.Ground.phase},{on:=12,ground:=Go.Ground.phase},{on:=13,ground:=Go.Ground.phase},{on:=14,ground:=Go.Ground.phase},{on:=15,ground:=Go.Ground.phase},{on:=16,ground:=Go.Ground.phase},{on:=17,ground:=Go.Ground.phase},{on:=18,ground:=Go.Ground.phase},{on:=19,ground:=Go.Ground.phase},{on:=20,ground:=Go.Ground.phase},{on:=21,ground:=Go.Ground.textOnly Go.Departure.lateStores},{on:=22,ground:=Go.Ground.phase}],guard:=none}) rfl (fun K hK=>?_) ?_
          ·go_simp
           refine hK.out _ _ ?_ (fun hHeld=>?_)
           ·(try dsimp only)
            (((with_reducible refine held_and2 ?_ d0 hpc);repeat (first | with_reducible assumption | with_reducible exact hH0 | with_reducible refine held_drew ?_ | with_reducible refine held_alloc ?_ _ | ((with_reducible refine held_set ?_ ?hh _);(case hh=>simp)))))
           clear hK K
           (try simp only [Act.put,List.setIfInBounds_toArray,List.set_cons_zero,List.set_cons_succ])
           refine wpAnyH_take (i:=24) (oi:={dst:=some 14,op:=Go.Op.assign (Go.Operand.tmp 73),type:=4,pos := "subst.go:89",after:=#[{on:=21,ground:=Go.Ground.data},{on:=23,ground:=Go.Ground.chain},{on:=0,ground:=Go.Ground.phase},{on:=1,ground:=Go.Ground.phase},{on:=2,ground:=Go.Ground.phase},{on:=3,ground:=Go.Ground.phase},{on:=4,ground:=Go.Ground.phase},{on:=5,ground:=Go.Ground.phase},{on:=6,ground:=Go.Ground.phase},{on:=7,ground:=Go.Ground.phase},{on:=8,ground:=Go.Ground.phase},{on:=9,ground:=Go.Ground.phase},{on:=10,ground:=Go.Ground.phase},{on:=11,ground:=Go.Ground.phase},{on:=12,ground:=Go.Ground.phase},{on:=13,ground:=Go.Ground.phase},{on:=14,ground:=Go.Ground.phase},{on:=15,ground:=Go.Ground.phase},{on:=16,ground:=Go.Ground.phase},{on:=17,ground:=Go.Ground.phase},{on:=18,ground:=Go.Ground.phase},{on:=19,ground:=Go.Ground.phase},{on:=20,ground:=Go.Ground.phase},{on:=21,ground:=Go.Ground.phase},{on:=22,ground:=Go.Ground.phase},{on:=23,ground:=Go.Ground.phase}],guard:=none}) (v:=?_) rfl (by kernel_rfl) (by kernel_rfl) (by kernel_rfl) (fun _ _ _ h=>h) (Or.inl ⟨by rfl,?_⟩) (by assumption) ?_
           rotate_left 1
           ·((intro w hSw;(try dsimp only at hSw);go_simp)<;>with_reducible rfl)
           (try simp only [Act.put,List.setIfInBounds_toArray,List.set_cons_zero,List.set_cons_succ])
           refine wpAnyH_done (by kernel_rfl) ?_ _
           rcases HANS.out with ⟨rfl,hr,rfl,hl2⟩ | ⟨rfl,hr⟩
           ·have HFI2:=Lib.hid (HFX.out u hr)
            have hW:Held wr t.kids[q] (.slice a' t.kids[q].kids.length cap') (((((wn.setCell ⟨wr.heap.size+1,0,none⟩ (.int .i64 u.k)).setCell ⟨wr.heap.size+1,1,none⟩ (.int .i64 u.i)).setCell ⟨wr.heap.size+1,2,none⟩ (.int .i64 u.j)).setCell ⟨wr.heap.size+1,3,none⟩ (.int .i64 u.n)).setCell ⟨wr.heap.size+1,4,none⟩ (.slice a2 u.kids.length cap2)):=held_five hh _ _ _ _ _
            have hLW:LiesP (((((wn.setCell ⟨wr.heap.size+1,0,none⟩ (.int .i64 u.k)).setCell ⟨wr.heap.size+1,1,none⟩ (.int .i64 u.i)).setCell ⟨wr.heap.size+1,2,none⟩ (.int .i64 u.j)).setCell ⟨wr.heap.size+1,3,none⟩ (.int .i64 u.n)).setCell ⟨wr.heap.size+1,4,none⟩ (.slice a2 u.kids.length cap2)) (Own wr.heap.size (((((wn.setCell ⟨wr.heap.size+1,0,none⟩ (.int .i64 u.k)).setCell ⟨wr.heap.size+1,1,none⟩ (.int .i64 u.i)).setCell ⟨wr.heap.size+1,2,none⟩ (.int .i64 u.j)).setCell ⟨wr.heap.size+1,3,none⟩ (.int .i64 u.n)).setCell ⟨wr.heap.size+1,4,none⟩ (.slice a2 u.kids.length cap2))) u.kids (.slice a2 u.kids.length cap2):=liesP_five (hl2.from (B':=wr.heap.size+2) (by simp)) _ _ _ _ _
            have hN:(((((wn.setCell ⟨wr.heap.size+1,0,none⟩ (.int .i64 u.k)).setCell ⟨wr.heap.size+1,1,none⟩ (.int .i64 u.i)).setCell ⟨wr.heap.size+1,2,none⟩ (.int .i64 u.j)).setCell ⟨wr.heap.size+1,3,none⟩ (.int .i64 u.n)).setCell ⟨wr.heap.size+1,4,none⟩ (.slice a2 u.kids.length cap2)).heap[wr.heap.size+1]? =some (boxOf u (.slice a2 u.kids.length cap2)):=five_set hZ
            clear hh hbn hl2 hZ g0 g1 g2 g3 g4 k0 k1 k2 k3 k4
            generalize (((((wn.setCell ⟨wr.heap.size+1,0,none⟩ (.int .i64 u.k)).setCell ⟨wr.heap.size+1,1,none⟩ (.int .i64 u.i)).setCell ⟨wr.heap.size+1,2,none⟩ (.int .i64 u.j)).setCell ⟨wr.heap.size+1,3,none⟩ (.int .i64 u.n)).setCell ⟨wr.heap.size+1,4,none⟩ (.slice a2 u.kids.length cap2))=W at hW hLW hN ⊢
            have hdW:=desk_trans hdk (below_from (held_below hW) hsz)
            have hfW:=hfu.later (held_below hW)
            have hxq:q<xs.length:=by rw [HXL.out];exact hlt
            have hLF:=hfu.fresh hsz hLW
            obtain⟨-,-,q2⟩:=desk_blocks hdW
            obtain⟨y0,y1,y2,y3,y4⟩:=five_cells q2
            obtain⟨p0,p1,p2,p3,p4⟩:=five_cells hN
            obtain⟨x0,x1,x2,x3,x4⟩:=hfW.node q hxq
            obtain⟨cs,hcs⟩:=hfW.open'
            have f0:=open_unfrozen hcs (q * 5)
            have f1:=open_unfrozen hcs (q * 5+1)
            have f2:=open_unfrozen hcs (q * 5+2)
            have f3:=open_unfrozen hcs (q * 5+3)
            have f4:=open_unfrozen hcs (q * 5+4)
            have HFW:=Lib.hid hfW
            have HLF:=Lib.hid hLF
            have HFU:=Lib.hid hfu
            clear hcs hN hLW hW hfW hLF hfu d0 d1 d2 d3 d4 z0 z1 z2 z3 z4
            go_wp2
            go_roundw
            case rel=>exact⟨q+1,xs.set q (u,.slice a2 u.kids.length cap2),hlt,by go_num,by simp [Hid,HXL.out],by rw [Hid,optK_next hlt HXS.out hr,List.map_set,take_set_next _ _ _ (by simpa using hxq)],HFW.out.fill hxq HFI2.out HLF.out,desk_put hdW (Nat.le_refl _) _ _ _⟩
            case measure=>simp [intOf];omega
           ·have hW:Held wr t.kids[q] (.slice a' t.kids[q].kids.length cap') (((((wn.setCell ⟨wr.heap.size+1,0,none⟩ (.int .i64 u.k)).setCell ⟨wr.heap.size+1,1,none⟩ (.int .i64 u.i)).setCell ⟨wr.heap.size+1,2,none⟩ (.int .i64 u.j)).setCell ⟨wr.heap.size+1,3,none⟩ (.int .i64 u.n)).setCell ⟨wr.heap.size+1,4,none⟩ (.slice a2 n2 cap2)):=held_five hh _ _ _ _ _
            clear hh hbn hZ g0 g1 g2 g3 g4 k0 k1 k2 k3 k4
            generalize (((((wn.setCell ⟨wr.heap.size+1,0,none⟩ (.int .i64 u.k)).setCell ⟨wr.heap.size+1,1,none⟩ (.int .i64 u.i)).setCell ⟨wr.heap.size+1,2,none⟩ (.int .i64 u.j)).setCell ⟨wr.heap.size+1,3,none⟩ (.int .i64 u.n)).setCell ⟨wr.heap.size+1,4,none⟩ (.slice a2 n2 cap2))=W at hW ⊢
            have hdW:=desk_trans hdk (below_from (held_below hW) hsz)
            obtain⟨-,q1,-⟩:=desk_blocks hdW
            obtain⟨z0,z1,z2,z3,z4⟩:=five_cells q1
            obtain⟨f0,f1,f2,f3,f4⟩:=five_free q1
            go_wp2
            (try simp only [Exit.inBlock,Exit.then])
            refine bodyPost_ret (results_cell_tmp rfl _ _ (w.heap.size+1) _ _ _ du rfl (five_set q1) hu1 (by cases du<;>first | rfl | exact hu2) size_term) rfl ?_
            exact GivesN.wide ⟨((((((desk_under hdW).setCell (by simp) _).setCell (by simp) _).setCell (by simp) _).setCell (by simp) _).setCell (by simp) _),Or.inr ⟨Tm.zero,none,0,0,by rw [HEQ.out,optK_stop hlt hr];rfl,rfl⟩⟩ HBP.out
          exact AllReadyH.nil
         exact AllReadyH.nil
        exact AllReadyH.nil
       exact AllReadyH.nil
      | false =>
       by_cases h12:t.k=12
       ·have ek12:(t.k==12)=true:=by simpa using h12
        obtain⟨e2v,heq2⟩:∃ e2v,((q:Int)==2)=e2v:=⟨_,rfl⟩
        have hq2:(q==2)=e2v:=by rw [←heq2];exact int_two q
        have hF:(false||(t.k==12&&q==2))=e2v:=by rw [ek12,hq2];rfl
        have hc:=HCALL.out
        rw [hF] at hc
        have hH0:=held_start wr t.kids[q] (.slice a' t.kids[q].kids.length cap')
        have CALL2:∀ w',Held wr t.kids[q] (.slice a' t.kids[q].kids.length cap') w'→Calls Try.prog 71 #[.agg #[.func (.func fid) #[] #[.pointer (some ⟨bv,0,none⟩)]],tv t.kids[q] (.slice a' t.kids[q].kids.length cap'),.int .i64 (b+bindsN t.k q),.bool e2v] w' (GivesY (t.kids[q].putG g (b+bindsN t.k q) (false||(t.k==12&&q==2))) w'):=fun w' h'=>(hc w' h').mono fun e w'' h=>by rw [←hF] at h;exact h.ans
        have CALLB:=Lib.hid (CALL2 (wr.alloc (.cells #[.int .i64 t.kids[q].k,.int .i64 t.kids[q].i,.int .i64 t.kids[q].j,.int .i64 t.kids[q].n,.slice a' t.kids[q].kids.length cap'] 38)).drew (held_drew hH0))
        have CALLA:=Lib.hid ((CALL2 ((wr.alloc (.cells #[.int .i64 t.kids[q].k,.int .i64 t.kids[q].i,.int .i64 t.kids[q].j,.int .i64 t.kids[q].n,.slice a' t.kids[q].kids.length cap'] 38)).alloc zeroObj).drew (held_drew (held_alloc hH0 _))).mono fun e w'' h=>And.intro h (zero_blocks_new h.below))
        clear hc HCALL CALL2 hF h12 hq2
        go_wp2_with fail
        refine wp_region_held_drew (S:=fun w'=>Held wr t.kids[q] (.slice a' t.kids[q].kids.length cap') w'∧w'.cell? ⟨w.heap.size,0,none⟩=some (.int .i64 t.k)∧w'.cell? ⟨wi.heap.size,0,none⟩=some (.func (.func fid) #[] #[.pointer (some ⟨bv,0,none⟩)])∧w'.cell? ⟨wr.heap.size,0,none⟩=some (.int .i64 t.kids[q].k)∧w'.cell? ⟨wr.heap.size,1,none⟩=some (.int .i64 t.kids[q].i)∧w'.cell? ⟨wr.heap.size,2,none⟩=some (.int .i64 t.kids[q].j)∧w'.cell? ⟨wr.heap.size,3,none⟩=some (.int .i64 t.kids[q].n)∧w'.cell? ⟨wr.heap.size,4,none⟩=some (.slice a' t.kids[q].kids.length cap')) (by kernel_rfl) ?_ (fun hHeld=>?_)
        ·(try dsimp only)
         (((with_reducible refine held_and2 ?_ d0 hpc);repeat (first | with_reducible assumption | with_reducible exact hH0 | with_reducible refine held_drew ?_ | with_reducible refine held_alloc ?_ _ | ((with_reducible refine held_set ?_ ?hh _);(case hh=>simp)))))
        refine wpAnyH_take (i:=0) (oi:={dst:=some 53,op:=Go.Op.load 104 (Go.Operand.tmp 4),type:=104,pos := "subst.go:89",after:=#[],guard:=none}) (v:=?_) rfl (by kernel_rfl) (by kernel_rfl) (by kernel_rfl) (fun _ _ _ h=>h) (Or.inl ⟨by rfl,?_⟩) (by assumption) ?_
        rotate_left 1
        ·((intro w hSw;(try dsimp only at hSw);go_simp)<;>with_reducible rfl)
        (try simp only [Act.put,List.setIfInBounds_toArray,List.set_cons_zero,List.set_cons_succ])
        refine wpAnyH_take (i:=1) (oi:={dst:=some 54,op:=Go.Op.load 38 (Go.Operand.tmp 12),type:=38,pos := "subst.go:89",after:=#[],guard:=none}) (v:=?_) rfl (by kernel_rfl) (by kernel_rfl) (by kernel_rfl) (fun _ _ _ h=>h) (Or.inl ⟨by rfl,?_⟩) (by assumption) ?_
        rotate_left 1
        ·((intro w hSw;(try dsimp only at hSw);go_simp)<;>with_reducible rfl)
        (try simp only [Act.put,List.setIfInBounds_toArray,List.set_cons_zero,List.set_cons_succ])
        refine wpAnyH_take (i:=2) (oi:={dst:=some 55,op:=Go.Op.move (Go.Operand.tmp 2),type:=3,pos := "subst.go:89",after:=#[],guard:=none}) (v:=?_) rfl (by kernel_rfl) (by kernel_rfl) (by kernel_rfl) (fun _ _ _ h=>h) (Or.inl ⟨by rfl,?_⟩) (by assumption) ?_
        rotate_left 1
        ·((intro w hSw;(try dsimp only at hSw);go_simp)<;>with_reducible rfl)
        (try simp only [Act.put,List.setIfInBounds_toArray,List.set_cons_zero,List.set_cons_succ])
        refine wpAnyH_take (i:=3) (oi:={dst:=some 56,op:=Go.Op.fieldAddr 38 (Go.Operand.tmp 5) 0,type:=0,pos := "subst.go:89",after:=#[],guard:=none}) (v:=?_) rfl (by kernel_rfl) (by kernel_rfl) (by kernel_rfl) (fun _ _ _ h=>h) (Or.inl ⟨by rfl,?_⟩) (by assumption) ?_
        rotate_left 1
        ·((intro w hSw;(try dsimp only at hSw);go_simp)<;>with_reducible rfl)
        (try simp only [Act.put,List.setIfInBounds_toArray,List.set_cons_zero,List.set_cons_succ])
        refine wpAnyH_take (i:=4) (oi:={dst:=some 57,op:=Go.Op.load 3 (Go.Operand.tmp 56),type:=3,pos := "subst.go:89",after:=#[{on:=3,ground:=Go.Ground.data}],guard:=none}) (v:=?_) rfl (by kernel_rfl) (by kernel_rfl) (by kernel_rfl) (fun _ _ _ h=>h) (Or.inl ⟨by rfl,?_⟩) (by assumption) ?_
        rotate_left 1
        ·((intro w hSw;(try dsimp only at hSw);go_simp)<;>with_reducible rfl)
        (try simp only [Act.put,List.setIfInBounds_toArray,List.set_cons_zero,List.set_cons_succ])
        refine wpAnyH_take (i:=5) (oi:={dst:=some 58,op:=Go.Op.move (Go.Operand.tmp 11),type:=3,pos := "subst.go:89",after:=#[],guard:=none}) (v:=?_) rfl (by kernel_rfl) (by kernel_rfl) (by kernel_rfl) (fun _ _ _ h=>h) (Or.inl ⟨by rfl,?_⟩) (by assumption) ?_
        rotate_left 1
        ·((intro w hSw;(try dsimp only at hSw);go_simp)<;>with_reducible rfl)
        (try simp only [Act.put,List.setIfInBounds_toArray,List.set_cons_zero,List.set_cons_succ])
        refine wpAnyH_take (i:=8) (oi:={dst:=some 61,op:=Go.Op.move (Go.Operand.tmp 3),type:=4,pos := "subst.go:89",after:=#[],guard:=none}) (v:=?_) rfl (by kernel_rfl) (by kernel_rfl) (by kernel_rfl) (fun _ _ _ h=>h) (Or.inl ⟨by rfl,?_⟩) (by assumption) ?_
        rotate_left 1
        ·((intro w hSw;(try dsimp only at hSw);go_simp)<;>with_reducible rfl)
        (try simp only [Act.put,List.setIfInBounds_toArray,List.set_cons_zero,List.set_cons_succ])
        refine wpAnyH_ready (rs:=[6,22]) (by kernel_rfl) (by simp) ?_
        refine AllReadyH.cons (o:={dst:=some 59,op:=Go.Op.call {callee:=Go.Callee.value (Go.Operand.func 65),args:=#[Go.Operand.tmp 57,Go.Operand.tmp 58],argTypes:=#[3,3] },type:=3,pos := "subst.go:89",after:=#[{on:=4,ground:=Go.Ground.data},{on:=5,ground:=Go.Ground.data}],guard:=none}) rfl (fun K hK=>?_) ?_
        ·go_simp
         ((go_at_call 65;refine(binds_any _ _ _).mono ?_;rintro e w' ⟨rfl,rfl⟩))
         refine hK.out _ _ ?_ (fun hHeld=>?_)
         ·(try dsimp only)
          (((with_reducible refine held_and2 ?_ d0 hpc);repeat (first | with_reducible assumption | with_reducible exact hH0 | with_reducible refine held_drew ?_ | with_reducible refine held_alloc ?_ _ | ((with_reducible refine held_set ?_ ?hh _);(case hh=>simp)))))
         clear hK K
         (try simp only [Act.put,List.setIfInBounds_toArray,List.set_cons_zero,List.set_cons_succ])
         refine wpAnyH_take (i:=7) (oi:={dst:=some 60,op:=Go.Op.binOp Go.BinOp.add 3 (Go.Operand.tmp 55) (Go.Operand.tmp 59) 3,type:=3,pos := "subst.go:89",after:=#[{on:=2,ground:=Go.Ground.data},{on:=6,ground:=Go.Ground.data}],guard:=none}) (v:=?_) rfl (by kernel_rfl) (by kernel_rfl) (by kernel_rfl) (fun _ _ _ h=>h) (Or.inl ⟨by rfl,?_⟩) (by assumption) ?_
         rotate_left 1
         ·((intro w hSw;(try dsimp only at hSw);go_simp)<;>with_reducible rfl)
         (try simp only [Act.put,List.setIfInBounds_toArray,List.set_cons_zero,List.set_cons_succ])
         refine wpAnyH_take (i:=9) (oi:={dst:=some 62,op:=Go.Op.move (Go.Operand.tmp 61),type:=4,pos := "subst.go:89",after:=#[{on:=8,ground:=Go.Ground.data},{on:=6,ground:=Go.Ground.chain}],guard:=none}) (v:=?_) rfl (by kernel_rfl) (by kernel_rfl) (by kernel_rfl) (fun _ _ _ h=>h) (Or.inl ⟨by rfl,?_⟩) (by assumption) ?_
         rotate_left 1
         ·((intro w hSw;(try dsimp only at hSw);go_simp)<;>with_reducible rfl)
         (try simp only [Act.put,List.setIfInBounds_toArray,List.set_cons_zero,List.set_cons_succ])
         refine wpAnyH_take (i:=10) (oi:={dst:=some 63,op:=Go.Op.fieldAddr 38 (Go.Operand.tmp 5) 0,type:=0,pos := "subst.go:89",after:=#[{on:=9,ground:=Go.Ground.guard}],guard:=some (9,false) }) (v:=?_) rfl (by kernel_rfl) (by kernel_rfl) (by kernel_rfl) (fun _ _ _ h=>h) (Or.inl ⟨by rfl,?_⟩) (by assumption) ?_
         rotate_left 1
         ·((intro w hSw;(try dsimp only at hSw);go_simp)<;>with_reducible rfl)
         (try simp only [Act.put,List.setIfInBounds_toArray,List.set_cons_zero,List.set_cons_succ])
         refine wpAnyH_take (i:=11) (oi:={dst:=some 64,op:=Go.Op.load 3 (Go.Operand.tmp 63),type:=3,pos := "subst.go:89",after:=#[{on:=10,ground:=Go.Ground.data},{on:=9,ground:=Go.Ground.guard}],guard:=some (9,false) }) (v:=?_) rfl (by kernel_rfl) (by kernel_rfl) (by kernel_rfl) (fun _ _ _ h=>h) (Or.inl ⟨by rfl,?_⟩) (by assumption) ?_
         rotate_left 1
         ·((intro w hSw;(try dsimp only at hSw);go_simp)<;>with_reducible rfl)
         (try simp only [Act.put,List.setIfInBounds_toArray,List.set_cons_zero,List.set_cons_succ])
         refine wpAnyH_take (i:=12) (oi:={dst:=some 65,op:=Go.Op.binOp Go.BinOp.eql 3 (Go.Operand.tmp 64) (Go.Operand.const (Go.Value.int Go.IntKind.i64 12)) 3,type:=4,pos := "subst.go:89",after:=#[{on:=11,ground:=Go.Ground.data},{on:=9,ground:=Go.Ground.guard}],guard:=some (9,false) }) (v:=?_) rfl (by kernel_rfl) (by kernel_rfl) (by kernel_rfl) (fun _ _ _ h=>h) (Or.inl ⟨by rfl,?_⟩) (by assumption) ?_
         rotate_left 1
         ·((intro w hSw;(try dsimp only at hSw);go_simp)<;>with_reducible rfl)
         (try simp only [Act.put,List.setIfInBounds_toArray,List.set_cons_zero,List.set_cons_succ])
         refine wpAnyH_take (i:=13) (oi:={dst:=some 66,op:=Go.Op.move (Go.Operand.tmp 65),type:=4,pos := "subst.go:89",after:=#[{on:=12,ground:=Go.Ground.data},{on:=9,ground:=Go.Ground.chain},{on:=9,ground:=Go.Ground.guard}],guard:=some (9,false) }) (v:=?_) rfl (by kernel_rfl) (by kernel_rfl) (by kernel_rfl) (fun _ _ _ h=>h) (Or.inl ⟨by rfl,?_⟩) (by assumption) ?_
         rotate_left 1
         ·((intro w hSw;(try dsimp only at hSw);go_simp)<;>with_reducible rfl)
         (try simp only [Act.put,List.setIfInBounds_toArray,List.set_cons_zero,List.set_cons_succ])
         refine wpAnyH_take (i:=14) (oi:={dst:=some 67,op:=Go.Op.move (Go.Operand.tmp 11),type:=3,pos := "subst.go:89",after:=#[{on:=13,ground:=Go.Ground.guard}],guard:=some (13,true) }) (v:=?_) rfl (by kernel_rfl) (by kernel_rfl) (by kernel_rfl) (fun _ _ _ h=>h) (Or.inl ⟨by rfl,?_⟩) (by assumption) ?_
         rotate_left 1
         ·((intro w hSw;(try dsimp only at hSw);go_simp)<;>with_reducible rfl)
         (try simp only [Act.put,List.setIfInBounds_toArray,List.set_cons_zero,List.set_cons_succ])
         refine wpAnyH_take (i:=15) (oi:={dst:=some 68,op:=Go.Op.binOp Go.BinOp.eql 3 (Go.Operand.tmp 67) (Go.Operand.const (Go.Value.int Go.IntKind.i64 2)) 3,type:=4,pos := "subst.go:89",after:=#[{on:=14,ground:=Go.Ground.data},{on:=13,ground:=Go.Ground.guard}],guard:=some (13,true) }) (v:=?_) rfl (by kernel_rfl) (by kernel_rfl) (by kernel_rfl) (fun _ _ _ h=>h) (Or.inl ⟨by rfl,?_⟩) (by assumption) ?_
         rotate_left 1
         ·((intro w hSw;(try dsimp only at hSw);go_simp)<;>with_reducible rfl)
         (try simp only [Act.put,List.setIfInBounds_toArray,List.set_cons_zero,List.set_cons_succ])
         refine wpAnyH_take (i:=16) (oi:={dst:=some 69,op:=Go.Op.pick (Go.Operand.tmp 66) (Go.Operand.tmp 68) (Go.Operand.const (Go.Value.bool false)),type:=4,pos := "subst.go:89",after:=#[{on:=13,ground:=Go.Ground.data},{on:=15,ground:=Go.Ground.data},{on:=9,ground:=Go.Ground.guard}],guard:=some (9,false) }) (v:=?_) rfl (by kernel_rfl) (by kernel_rfl) (by kernel_rfl) (fun _ _ _ h=>h) (Or.inl ⟨by rfl,?_⟩) (by assumption) ?_
         rotate_left 1
         ·((intro w hSw;(try dsimp only at hSw);go_simp)<;>with_reducible rfl)
         (try simp only [Act.put,List.setIfInBounds_toArray,List.set_cons_zero,List.set_cons_succ])
         refine wpAnyH_take (i:=17) (oi:={dst:=some 70,op:=Go.Op.pick (Go.Operand.tmp 62) (Go.Operand.const (Go.Value.bool true)) (Go.Operand.tmp 69),type:=4,pos := "subst.go:89",after:=#[{on:=9,ground:=Go.Ground.data},{on:=16,ground:=Go.Ground.data}],guard:=none}) (v:=?_) rfl (by kernel_rfl) (by kernel_rfl) (by kernel_rfl) (fun _ _ _ h=>h) (Or.inl ⟨by rfl,?_⟩) (by assumption) ?_
         rotate_left 1
         ·((intro w hSw;(try dsimp only at hSw);go_simp)<;>with_reducible rfl)
         (try simp only [Act.put,List.setIfInBounds_toArray,List.set_cons_zero,List.set_cons_succ])
         refine wpAnyH_ready (rs:=[18,22]) (by kernel_rfl) (by simp) ?_
         refine AllReadyH.cons (o:={dst:=some 71,op:=Go.Op.call {callee:=Go.Callee.value (Go.Operand.func 71),args:=#[Go.Operand.tmp 53,Go.Operand.tmp 54,Go.Operand.tmp 60,Go.Operand.tmp 70],argTypes:=#[104,38,3,4] },type:=105,pos := "subst.go:89",after:=#[{on:=0,ground:=Go.Ground.data},{on:=1,ground:=Go.Ground.data},{on:=7,ground:=Go.Ground.data},{on:=17,ground:=Go.Ground.data},{on:=13,ground:=Go.Ground.chain}],guard:=none}) rfl (fun K hK=>?_) ?_
         ·go_simp
          ((go_at_call 71;((with_reducible refine Calls.mono CALLB.out ?_);rintro e wn ⟨u,a2,n2,cap2,ok,rfl,hbn,hans⟩;have HANS:=Lib.hid hans;clear hans;have hh:=held_call (held_drew hH0) hbn)))
          refine hK.out _ _ ?_ (fun hHeld=>?_)
          ·(try dsimp only)
           (((with_reducible refine held_and2 ?_ d0 hpc);repeat (first | with_reducible assumption | with_reducible exact hH0 | with_reducible refine held_drew ?_ | with_reducible refine held_alloc ?_ _ | ((with_reducible refine held_set ?_ ?hh _);(case hh=>simp)))))
          clear hK K
          (try simp only [Act.put,List.setIfInBounds_toArray,List.set_cons_zero,List.set_cons_succ])
          refine wpAnyH_take (i:=19) (oi:={dst:=some 52,op:=Go.Op.move (Go.Operand.tmp 71),type:=105,pos := "subst.go:89",after:=#[{on:=18,ground:=Go.Ground.data}],guard:=none}) (v:=?_) rfl (by kernel_rfl) (by kernel_rfl) (by kernel_rfl) (fun _ _ _ h=>h) (Or.inl ⟨by rfl,?_⟩) (by assumption) ?_
          rotate_left 1
          ·((intro w hSw;(try dsimp only at hSw);go_simp)<;>with_reducible rfl)
          (try simp only [Act.put,List.setIfInBounds_toArray,List.set_cons_zero,List.set_cons_succ])
          refine wpAnyH_take (i:=20) (oi:={dst:=some 72,op:=Go.Op.extract (Go.Operand.tmp 52) 0,type:=38,pos := "subst.go:89",after:=#[{on:=19,ground:=Go.Ground.data}],guard:=none}) (v:=?_) rfl (by kernel_rfl) (by kernel_rfl) (by kernel_rfl) (fun _ _ _ h=>h) (Or.inl ⟨by rfl,?_⟩) (by assumption) ?_
          rotate_left 1
          ·((intro w hSw;(try dsimp only at hSw);go_simp)<;>with_reducible rfl)
          (try simp only [Act.put,List.setIfInBounds_toArray,List.set_cons_zero,List.set_cons_succ])
          refine wpAnyH_take (i:=21) (oi:={dst:=some 73,op:=Go.Op.extract (Go.Operand.tmp 52) 1,type:=4,pos := "subst.go:89",after:=#[{on:=19,ground:=Go.Ground.data},{on:=23,ground:=Go.Ground.gcOnly Go.Departure.lateStores}],guard:=none}) (v:=?_) rfl (by kernel_rfl) (by kernel_rfl) (by kernel_rfl) (fun _ _ _ h=>h) (Or.inl ⟨by rfl,?_⟩) (by assumption) ?_
          rotate_left 1
          ·((intro w hSw;(try dsimp only at hSw);go_simp)<;>with_reducible rfl)
          (try simp only [Act.put,List.setIfInBounds_toArray,List.set_cons_zero,List.set_cons_succ])
          refine wpAnyH_ready (rs:=[22]) (by kernel_rfl) (by simp) ?_
          refine AllReadyH.cons (o:={dst:=some 13,op:=Go.Op.alloc 38,type:=0,pos := "subst.go:89",after:=#[],guard:=none}) rfl (fun K hK=>?_) ?_
          ·go_simp
           refine hK.out _ _ ?_ (fun hHeld=>?_)
           ·(try dsimp only)
            (((with_reducible refine held_and2 ?_ d0 hpc);repeat (first | with_reducible assumption | with_reducible exact hH0 | with_reducible refine held_drew ?_ | with_reducible refine held_alloc ?_ _ | ((with_reducible refine held_set ?_ ?hh _);(case hh=>simp)))))
           clear hK K
           (try simp only [Act.put,List.setIfInBounds_toArray,List.set_cons_zero,List.set_cons_succ])
           refine wpAnyH_ready (rs:=[23]) (by kernel_rfl) (by simp) ?_
           refine AllReadyH.cons (o:={dst:=none,op:=Go.Op.store 38 (Go.Operand.tmp 13) (Go.Operand.tmp 72),type:=0,pos := "subst.go:89",after:=#[{on:=22,ground:=Go.Ground.data},{on:=20,ground:=Go.Ground.data},{on:=18,ground:=Go.Ground.chain},{on:=0,ground:=Go.Ground.phase},{on:=1,ground:=Go.Ground.phase},{on:=2,ground:=Go.Ground.phase},{on:=3,ground:=Go.Ground.phase},{on:=4,ground:=Go.Ground.phase},{on:=5,ground:=Go.Ground.phase},{on:=6,ground:=Go.Ground.phase},{on:=7,ground:=Go.Ground.phase},{on:=8,ground:=Go.Ground.phase},{on:=9,ground:=Go.Ground.phase},{on:=10,ground:=Go.Ground.phase},{on:=11,ground:=Go.Ground.phase},{on:=12,ground:=Go.Ground.phase},{on:=13,ground:=Go.Ground.phase},{on:=14,ground:=Go.Ground.phase},{on:=15,ground:=Go.Ground.phase},{on:=16,ground:=Go.Ground.phase},{on:=17,ground:=Go.Ground.phase},{on:=18,ground:=Go.Ground.phase},{on:=19,ground:=Go.Ground.phase},{on:=20,ground:=Go.Ground.phase},{on:=21,ground:=Go.Ground.textOnly Go.Departure.lateStores},{on:=22,ground:=Go.Ground.phase}],guard:=none}) rfl (fun K hK=>?_) ?_
           ·go_simp
            refine hK.out _ _ ?_ (fun hHeld=>?_)
            ·(try dsimp only)
             (((with_reducible refine held_and2 ?_ d0 hpc);repeat (first | with_reducible assumption | with_reducible exact hH0 | with_reducible refine held_drew ?_ | with_reducible refine held_alloc ?_ _ | ((with_reducible refine held_set ?_ ?hh _);(case hh=>simp)))))
            clear hK K
            (try simp only [Act.put,List.setIfInBounds_toArray,List.set_cons_zero,List.set_cons_succ])
            refine wpAnyH_take (i:=24) (oi:={dst:=some 14,op:=Go.Op.assign (Go.Operand.tmp 73),type:=4,pos := "subst.go:89",after:=#[{on:=21,ground:=Go.Ground.data},{on:=23,ground:=Go.Ground.chain},{on:=0,ground:=Go.Ground.phase},{on:=1,ground:=Go.Ground.phase},{on:=2,ground:=Go.Ground.phase},{on:=3,ground:=Go.Ground.phase},{on:=4,ground:=Go.Ground.phase},{on:=5,ground:=Go.Ground.phase},{on:=6,ground:=Go.Ground.phase},{on:=7,ground:=Go.Ground.phase},{on:=8,ground:=Go.Ground.phase},{on:=9,ground:=Go.Ground.phase},{on:=10,ground:=Go.Ground.phase},{on:=11,ground:=Go.Ground.phase},{on:=12,ground:=Go.Ground.phase},{on:=13,ground:=Go.Ground.phase},{on:=14,ground:=Go.Ground.phase},{on:=15,ground:=Go.Ground.phase},{on:=16,ground:=Go.Ground.phase},{on:=17,ground:=Go.Ground.phase},{on:=18,ground:=Go.Ground.phase},{on:=19,ground:=Go.Ground.phase},{on:=20,ground:=Go.Ground.phase},{on:=21,ground:=Go.Ground.phase},{on:=22,ground:=Go.Ground.phase},{on:=23,ground:=Go.Ground.phase}],guard:=none}) (v:=?_) rfl (by kernel_rfl) (by kernel_rfl) (by kernel_rfl) (fun _ _ _ h=>h) (Or.inl ⟨by rfl,?_⟩) (by assumption) ?_
            rotate_left 1
            ·((intro w hSw;(try dsimp only at hSw);go_simp)<;>with_reducible rfl)
            (try simp only [Act.put,List.setIfInBounds_toArray,List.set_cons_zero,List.set_cons_succ])
            refine wpAnyH_done (by kernel_rfl) ?_ _
            rcases HANS.out with ⟨rfl,hr,rfl,hl2⟩ | ⟨rfl,hr⟩
            ·have HFI2:=Lib.hid (HFX.out u hr)
             have hW:Held wr t.kids[q] (.slice a' t.kids[q].kids.length cap') (wn.alloc (.cells #[.int .i64 u.k,.int .i64 u.i,.int .i64 u.j,.int .i64 u.n,.slice a2 u.kids.length cap2] 38)):=held_alloc hh _
             have hLW:LiesP (wn.alloc (.cells #[.int .i64 u.k,.int .i64 u.i,.int .i64 u.j,.int .i64 u.n,.slice a2 u.kids.length cap2] 38)) (Own wr.heap.size (wn.alloc (.cells #[.int .i64 u.k,.int .i64 u.i,.int .i64 u.j,.int .i64 u.n,.slice a2 u.kids.length cap2] 38))) u.kids (.slice a2 u.kids.length cap2):=((hl2.from (by simp)).later ((Below.refl _ _).alloc (Nat.le_refl _) _))
             have hN:(wn.alloc (.cells #[.int .i64 u.k,.int .i64 u.i,.int .i64 u.j,.int .i64 u.n,.slice a2 u.kids.length cap2] 38)).heap[wn.heap.size]? =some (boxOf u (.slice a2 u.kids.length cap2)):=alloc_new _ _
             clear hh hbn hl2
             generalize (wn.alloc (.cells #[.int .i64 u.k,.int .i64 u.i,.int .i64 u.j,.int .i64 u.n,.slice a2 u.kids.length cap2] 38))=W at hW hLW hN ⊢
             have hdW:=desk_trans hdk (below_from (held_below hW) hsz)
             have hfW:=hfu.later (held_below hW)
             have hxq:q<xs.length:=by rw [HXL.out];exact hlt
             have hLF:=hfu.fresh hsz hLW
             obtain⟨-,-,q2⟩:=desk_blocks hdW
             obtain⟨y0,y1,y2,y3,y4⟩:=five_cells q2
             obtain⟨p0,p1,p2,p3,p4⟩:=five_cells hN
             obtain⟨x0,x1,x2,x3,x4⟩:=hfW.node q hxq
             obtain⟨cs,hcs⟩:=hfW.open'
             have f0:=open_unfrozen hcs (q * 5)
             have f1:=open_unfrozen hcs (q * 5+1)
             have f2:=open_unfrozen hcs (q * 5+2)
             have f3:=open_unfrozen hcs (q * 5+3)
             have f4:=open_unfrozen hcs (q * 5+4)
             have HFW:=Lib.hid hfW
             have HLF:=Lib.hid hLF
             have HFU:=Lib.hid hfu
             clear hcs hN hLW hW hfW hLF hfu d0 d1 d2 d3 d4 z0 z1 z2 z3 z4
             go_wp2
             go_roundw
             case rel=>exact⟨q+1,xs.set q (u,.slice a2 u.kids.length cap2),hlt,by go_num,by simp [Hid,HXL.out],by rw [Hid,optK_next hlt HXS.out hr,List.map_set,take_set_next _ _ _ (by simpa using hxq)],HFW.out.fill hxq HFI2.out HLF.out,desk_put hdW (Nat.le_refl _) _ _ _⟩
             case measure=>simp [intOf];omega
            ·have hW:Held wr t.kids[q] (.slice a' t.kids[q].kids.length cap') (wn.alloc (.cells #[.int .i64 u.k,.int .i64 u.i,.int .i64 u.j,.int .i64 u.n,.slice a2 n2 cap2] 38)):=held_alloc hh _
             clear hh hbn
             generalize (wn.alloc (.cells #[.int .i64 u.k,.int .i64 u.i,.int .i64 u.j,.int .i64 u.n,.slice a2 n2 cap2] 38))=W at hW ⊢
             have hdW:=desk_trans hdk (below_from (held_below hW) hsz)
             obtain⟨-,q1,-⟩:=desk_blocks hdW
             obtain⟨z0,z1,z2,z3,z4⟩:=five_cells q1
             obtain⟨f0,f1,f2,f3,f4⟩:=five_free q1
             go_wp2
             (try simp only [Exit.inBlock,Exit.then])
             refine bodyPost_ret (results_cell_tmp rfl _ _ (w.heap.size+1) _ _ _ du rfl (five_set q1) hu1 (by cases du<;>first | rfl | exact hu2) size_term) rfl ?_
             exact GivesN.wide ⟨((((((desk_under hdW).setCell (by simp) _).setCell (by simp) _).setCell (by simp) _).setCell (by simp) _).setCell (by simp) _),Or.inr ⟨Tm.zero,none,0,0,by rw [HEQ.out,optK_stop hlt hr];rfl,rfl⟩⟩ HBP.out
           exact AllReadyH.nil
          exact AllReadyH.nil
         refine AllReadyH.cons (o:={dst:=some 13,op:=Go.Op.alloc 38,type:=0,pos := "subst.go:89",after:=#[],guard:=none}) rfl (fun K hK=>?_) ?_
         ·go_simp
          refine hK.out _ _ ?_ (fun hHeld=>?_)
          ·(try dsimp only)
           (((with_reducible refine held_and2 ?_ d0 hpc);repeat (first | with_reducible assumption | with_reducible exact hH0 | with_reducible refine held_drew ?_ | with_reducible refine held_alloc ?_ _ | ((with_reducible refine held_set ?_ ?hh _);(case hh=>simp)))))
          clear hK K
          (try simp only [Act.put,List.setIfInBounds_toArray,List.set_cons_zero,List.set_cons_succ])
          refine wpAnyH_ready (rs:=[18]) (by kernel_rfl) (by simp) ?_
          refine AllReadyH.cons (o:={dst:=some 71,op:=Go.Op.call {callee:=Go.Callee.value (Go.Operand.func 71),args:=#[Go.Operand.tmp 53,Go.Operand.tmp 54,Go.Operand.tmp 60,Go.Operand.tmp 70],argTypes:=#[104,38,3,4] },type:=105,pos := "subst.go:89",after:=#[{on:=0,ground:=Go.Ground.data},{on:=1,ground:=Go.Ground.data},{on:=7,ground:=Go.Ground.data},{on:=17,ground:=Go.Ground.data},{on:=13,ground:=Go.Ground.chain}],guard:=none}) rfl (fun K hK=>?_) ?_
          ·go_simp
           ((go_at_call 71;((with_reducible refine Calls.mono CALLA.out ?_);rintro e wn ⟨⟨u,a2,n2,cap2,ok,rfl,hbn,hans⟩,hZ⟩;obtain⟨⟨g0,g1,g2,g3,g4⟩,k0,k1,k2,k3,k4⟩:=And.intro (five_cells hZ) (five_free hZ);have HANS:=Lib.hid hans;clear hans;have hh:=held_call (held_drew (held_alloc hH0 _)) hbn)))
           refine hK.out _ _ ?_ (fun hHeld=>?_)
           ·(try dsimp only)
            (((with_reducible refine held_and2 ?_ d0 hpc);repeat (first | with_reducible assumption | with_reducible exact hH0 | with_reducible refine held_drew ?_ | with_reducible refine held_alloc ?_ _ | ((with_reducible refine held_set ?_ ?hh _);(case hh=>simp)))))
           clear hK K
           (try simp only [Act.put,List.setIfInBounds_toArray,List.set_cons_zero,List.set_cons_succ])
           refine wpAnyH_take (i:=19) (oi:={dst:=some 52,op:=Go.Op.move (Go.Operand.tmp 71),type:=105,pos := "subst.go:89",after:=#[{on:=18,ground:=Go.Ground.data}],guard:=none}) (v:=?_) rfl (by kernel_rfl) (by kernel_rfl) (by kernel_rfl) (fun _ _ _ h=>h) (Or.inl ⟨by rfl,?_⟩) (by assumption) ?_
           rotate_left 1
           ·((intro w hSw;(try dsimp only at hSw);go_simp)<;>with_reducible rfl)
           (try simp only [Act.put,List.setIfInBounds_toArray,List.set_cons_zero,List.set_cons_succ])
           refine wpAnyH_take (i:=20) (oi:={dst:=some 72,op:=Go.Op.extract (Go.Operand.tmp 52) 0,type:=38,pos := "subst.go:89",after:=#[{on:=19,ground:=Go.Ground.data}],guard:=none}) (v:=?_) rfl (by kernel_rfl) (by kernel_rfl) (by kernel_rfl) (fun _ _ _ h=>h) (Or.inl ⟨by rfl,?_⟩) (by assumption) ?_
           rotate_left 1
           ·((intro w hSw;(try dsimp only at hSw);go_simp)<;>with_reducible rfl)
           (try simp only [Act.put,List.setIfInBounds_toArray,List.set_cons_zero,List.set_cons_succ])
           refine wpAnyH_take (i:=21) (oi:={dst:=some 73,op:=Go.Op.extract (Go.Operand.tmp 52) 1,type:=4,pos := "subst.go:89",after:=#[{on:=19,ground:=Go.Ground.data},{on:=23,ground:=Go.Ground.gcOnly Go.Departure.lateStores}],guard:=none}) (v:=?_) rfl (by kernel_rfl) (by kernel_rfl) (by kernel_rfl) (fun _ _ _ h=>h) (Or.inl ⟨by rfl,?_⟩) (by assumption) ?_
           rotate_left 1
           ·((intro w hSw;(try dsimp only at hSw);go_simp)<;>with_reducible rfl)
           (try simp only [Act.put,List.setIfInBounds_toArray,List.set_cons_zero,List.set_cons_succ])
           refine wpAnyH_ready (rs:=[23]) (by kernel_rfl) (by simp) ?_
           refine AllReadyH.cons (o:={dst:=none,op:=Go.Op.store 38 (Go.Operand.tmp 13) (Go.Operand.tmp 72),type:=0,pos := "subst.go:89",after:=#[{on:=22,ground:=Go.Ground.data},{on:=20,ground:=Go.Ground.data},{on:=18,ground:=Go.Ground.chain},{on:=0,ground:=Go.Ground.phase},{on:=1,ground:=Go.Ground.phase},{on:=2,ground:=Go.Ground.phase},{on:=3,ground:=Go.Ground.phase},{on:=4,ground:=Go.Ground.phase},{on:=5,ground:=Go.Ground.phase},{on:=6,ground:=Go.Ground.phase},{on:=7,ground:=Go.Ground.phase},{on:=8,ground:=Go.Ground.phase},{on:=9,ground:=Go.Ground.phase},{on:=10,ground:=Go.Ground.phase},{on:=11,ground:=Go.Ground.phase},{on:=12,ground:=Go.Ground.phase},{on:=13,ground:=Go.Ground.phase},{on:=14,ground:=Go.Ground.phase},{on:=15,ground:=Go.Ground.phase},{on:=16,ground:=Go.Ground.phase},{on:=17,ground:=Go.Ground.phase},{on:=18,ground:=Go.Ground.phase},{on:=19,ground:=Go.Ground.phase},{on:=20,ground:=Go.Ground.phase},{on:=21,ground:=Go.Ground.textOnly Go.Departure.lateStores},{on:=22,ground:=Go.Ground.phase}],guard:=none}) rfl (fun K hK=>?_) ?_
           ·go_simp
            refine hK.out _ _ ?_ (fun hHeld=>?_)
            ·(try dsimp only)
             (((with_reducible refine held_and2 ?_ d0 hpc);repeat (first | with_reducible assumption | with_reducible exact hH0 | with_reducible refine held_drew ?_ | with_reducible refine held_alloc ?_ _ | ((with_reducible refine held_set ?_ ?hh _);(case hh=>simp)))))
            clear hK K
            (try simp only [Act.put,List.setIfInBounds_toArray,List.set_cons_zero,List.set_cons_succ])
            refine wpAnyH_take (i:=24) (oi:={dst:=some 14,op:=Go.Op.assign (Go.Operand.tmp 73),type:=4,pos := "subst.go:89",after:=#[{on:=21,ground:=Go.Ground.data},{on:=23,ground:=Go.Ground.chain},{on:=0,ground:=Go.Ground.phase},{on:=1,ground:=Go.Ground.phase},{on:=2,ground:=Go.Ground.phase},{on:=3,ground:=Go.Ground.phase},{on:=4,ground:=Go.Ground.phase},{on:=5,ground:=Go.Ground.phase},{on:=6,ground:=Go.Ground.phase},{on:=7,ground:=Go.Ground.phase},{on:=8,ground:=Go.Ground.phase},{on:=9,ground:=Go.Ground.phase},{on:=10,ground:=Go.Ground.phase},{on:=11,ground:=Go.Ground.phase},{on:=12,ground:=Go.Ground.phase},{on:=13,ground:=Go.Ground.phase},{on:=14,ground:=Go.Ground.phase},{on:=15,ground:=Go.Ground.phase},{on:=16,ground:=Go.Ground.phase},{on:=17,ground:=Go.Ground.phase},{on:=18,ground:=Go.Ground.phase},{on:=19,ground:=Go.Ground.phase},{on:=20,ground:=Go.Ground.phase},{on:=21,ground:=Go.Ground.phase},{on:=22,ground:=Go.Ground.phase},{on:=23,ground:=Go.Ground.phase}],guard:=none}) (v:=?_) rfl (by kernel_rfl) (by kernel_rfl) (by kernel_rfl) (fun _ _ _ h=>h) (Or.inl ⟨by rfl,?_⟩) (by assumption) ?_
            rotate_left 1
            ·((intro w hSw;(try dsimp only at hSw);go_simp)<;>with_reducible rfl)
            (try simp only [Act.put,List.setIfInBounds_toArray,List.set_cons_zero,List.set_cons_succ])
            refine wpAnyH_done (by kernel_rfl) ?_ _
            rcases HANS.out with ⟨rfl,hr,rfl,hl2⟩ | ⟨rfl,hr⟩
            ·have HFI2:=Lib.hid (HFX.out u hr)
             have hW:Held wr t.kids[q] (.slice a' t.kids[q].kids.length cap') (((((wn.setCell ⟨wr.heap.size+1,0,none⟩ (.int .i64 u.k)).setCell ⟨wr.heap.size+1,1,none⟩ (.int .i64 u.i)).setCell ⟨wr.heap.size+1,2,none⟩ (.int .i64 u.j)).setCell ⟨wr.heap.size+1,3,none⟩ (.int .i64 u.n)).setCell ⟨wr.heap.size+1,4,none⟩ (.slice a2 u.kids.length cap2)):=held_five hh _ _ _ _ _
             have hLW:LiesP (((((wn.setCell ⟨wr.heap.size+1,0,none⟩ (.int .i64 u.k)).setCell ⟨wr.heap.size+1,1,none⟩ (.int .i64 u.i)).setCell ⟨wr.heap.size+1,2,none⟩ (.int .i64 u.j)).setCell ⟨wr.heap.size+1,3,none⟩ (.int .i64 u.n)).setCell ⟨wr.heap.size+1,4,none⟩ (.slice a2 u.kids.length cap2)) (Own wr.heap.size (((((wn.setCell ⟨wr.heap.size+1,0,none⟩ (.int .i64 u.k)).setCell ⟨wr.heap.size+1,1,none⟩ (.int .i64 u.i)).setCell ⟨wr.heap.size+1,2,none⟩ (.int .i64 u.j)).setCell ⟨wr.heap.size+1,3,none⟩ (.int .i64 u.n)).setCell ⟨wr.heap.size+1,4,none⟩ (.slice a2 u.kids.length cap2))) u.kids (.slice a2 u.kids.length cap2):=liesP_five (hl2.from (B':=wr.heap.size+2) (by simp)) _ _ _ _ _
             have hN:(((((wn.setCell ⟨wr.heap.size+1,0,none⟩ (.int .i64 u.k)).setCell ⟨wr.heap.size+1,1,none⟩ (.int .i64 u.i)).setCell ⟨wr.heap.size+1,2,none⟩ (.int .i64 u.j)).setCell ⟨wr.heap.size+1,3,none⟩ (.int .i64 u.n)).setCell ⟨wr.heap.size+1,4,none⟩ (.slice a2 u.kids.length cap2)).heap[wr.heap.size+1]? =some (boxOf u (.slice a2 u.kids.length cap2)):=five_set hZ
             clear hh hbn hl2 hZ g0 g1 g2 g3 g4 k0 k1 k2 k3 k4
             generalize (((((wn.setCell ⟨wr.heap.size+1,0,none⟩ (.int .i64 u.k)).setCell ⟨wr.heap.size+1,1,none⟩ (.int .i64 u.i)).setCell ⟨wr.heap.size+1,2,none⟩ (.int .i64 u.j)).setCell ⟨wr.heap.size+1,3,none⟩ (.int .i64 u.n)).setCell ⟨wr.heap.size+1,4,none⟩ (.slice a2 u.kids.length cap2))=W at hW hLW hN ⊢
             have hdW:=desk_trans hdk (below_from (held_below hW) hsz)
             have hfW:=hfu.later (held_below hW)
             have hxq:q<xs.length:=by rw [HXL.out];exact hlt
             have hLF:=hfu.fresh hsz hLW
             obtain⟨-,-,q2⟩:=desk_blocks hdW
             obtain⟨y0,y1,y2,y3,y4⟩:=five_cells q2
             obtain⟨p0,p1,p2,p3,p4⟩:=five_cells hN
             obtain⟨x0,x1,x2,x3,x4⟩:=hfW.node q hxq
             obtain⟨cs,hcs⟩:=hfW.open'
             have f0:=open_unfrozen hcs (q * 5)
             have f1:=open_unfrozen hcs (q * 5+1)
             have f2:=open_unfrozen hcs (q * 5+2)
             have f3:=open_unfrozen hcs (q * 5+3)
             have f4:=open_unfrozen hcs (q * 5+4)
             have HFW:=Lib.hid hfW
             have HLF:=Lib.hid hLF
             have HFU:=Lib.hid hfu
             clear hcs hN hLW hW hfW hLF hfu d0 d1 d2 d3 d4 z0 z1 z2 z3 z4
             go_wp2
             go_roundw
             case rel=>exact⟨q+1,xs.set q (u,.slice a2 u.kids.length cap2),hlt,by go_num,by simp [Hid,HXL.out],by rw [Hid,optK_next hlt HXS.out hr,List.map_set,take_set_next _ _ _ (by simpa using hxq)],HFW.out.fill hxq HFI2.out HLF.out,desk_put hdW (Nat.le_refl _) _ _ _⟩
             case measure=>simp [intOf];omega
            ·have hW:Held wr t.kids[q] (.slice a' t.kids[q].kids.length cap') (((((wn.setCell ⟨wr.heap.size+1,0,none⟩ (.int .i64 u.k)).setCell ⟨wr.heap.size+1,1,none⟩ (.int .i64 u.i)).setCell ⟨wr.heap.size+1,2,none⟩ (.int .i64 u.j)).setCell ⟨wr.heap.size+1,3,none⟩ (.int .i64 u.n)).setCell ⟨wr.heap.size+1,4,none⟩ (.slice a2 n2 cap2)):=held_five hh _ _ _ _ _
             clear hh hbn hZ g0 g1 g2 g3 g4 k0 k1 k2 k3 k4
             generalize (((((wn.setCell ⟨wr.heap.size+1,0,none⟩ (.int .i64 u.k)).setCell ⟨wr.heap.size+1,1,none⟩ (.int .i64 u.i)).setCell ⟨wr.heap.size+1,2,none⟩ (.int .i64 u.j)).setCell ⟨wr.heap.size+1,3,none⟩ (.int .i64 u.n)).setCell ⟨wr.heap.size+1,4,none⟩ (.slice a2 n2 cap2))=W at hW ⊢
             have hdW:=desk_trans hdk (below_from (held_below hW) hsz)
             obtain⟨-,q1,-⟩:=desk_blocks hdW
             obtain⟨z0,z1,z2,z3,z4⟩:=five_cells q1
             obtain⟨f0,f1,f2,f3,f4⟩:=five_free q1
             go_wp2
             (try simp only [Exit.inBlock,Exit.then])
             refine bodyPost_ret (results_cell_tmp rfl _ _ (w.heap.size+1) _ _ _ du rfl (five_set q1) hu1 (by cases du<;>first | rfl | exact hu2) size_term) rfl ?_
             exact GivesN.wide ⟨((((((desk_under hdW).setCell (by simp) _).setCell (by simp) _).setCell (by simp) _).setCell (by simp) _).setCell (by simp) _),Or.inr ⟨Tm.zero,none,0,0,by rw [HEQ.out,optK_stop hlt hr];rfl,rfl⟩⟩ HBP.out
           exact AllReadyH.nil
          exact AllReadyH.nil
         exact AllReadyH.nil
        refine AllReadyH.cons (o:={dst:=some 13,op:=Go.Op.alloc 38,type:=0,pos := "subst.go:89",after:=#[],guard:=none}) rfl (fun K hK=>?_) ?_
        ·go_simp
         refine hK.out _ _ ?_ (fun hHeld=>?_)
         ·(try dsimp only)
          (((with_reducible refine held_and2 ?_ d0 hpc);repeat (first | with_reducible assumption | with_reducible exact hH0 | with_reducible refine held_drew ?_ | with_reducible refine held_alloc ?_ _ | ((with_reducible refine held_set ?_ ?hh _);(case hh=>simp)))))
         clear hK K
         (try simp only [Act.put,List.setIfInBounds_toArray,List.set_cons_zero,List.set_cons_succ])
         refine wpAnyH_ready (rs:=[6]) (by kernel_rfl) (by simp) ?_
         refine AllReadyH.cons (o:={dst:=some 59,op:=Go.Op.call {callee:=Go.Callee.value (Go.Operand.func 65),args:=#[Go.Operand.tmp 57,Go.Operand.tmp 58],argTypes:=#[3,3] },type:=3,pos := "subst.go:89",after:=#[{on:=4,ground:=Go.Ground.data},{on:=5,ground:=Go.Ground.data}],guard:=none}) rfl (fun K hK=>?_) ?_
         ·go_simp
          ((go_at_call 65;refine(binds_any _ _ _).mono ?_;rintro e w' ⟨rfl,rfl⟩))
          refine hK.out _ _ ?_ (fun hHeld=>?_)
          ·(try dsimp only)
           (((with_reducible refine held_and2 ?_ d0 hpc);repeat (first | with_reducible assumption | with_reducible exact hH0 | with_reducible refine held_drew ?_ | with_reducible refine held_alloc ?_ _ | ((with_reducible refine held_set ?_ ?hh _);(case hh=>simp)))))
          clear hK K
          (try simp only [Act.put,List.setIfInBounds_toArray,List.set_cons_zero,List.set_cons_succ])
          refine wpAnyH_take (i:=7) (oi:={dst:=some 60,op:=Go.Op.binOp Go.BinOp.add 3 (Go.Operand.tmp 55) (Go.Operand.tmp 59) 3,type:=3,pos := "subst.go:89",after:=#[{on:=2,ground:=Go.Ground.data},{on:=6,ground:=Go.Ground.data}],guard:=none}) (v:=?_) rfl (by kernel_rfl) (by kernel_rfl) (by kernel_rfl) (fun _ _ _ h=>h) (Or.inl ⟨by rfl,?_⟩) (by assumption) ?_
          rotate_left 1
          ·((intro w hSw;(try dsimp only at hSw);go_simp)<;>with_reducible rfl)
          (try simp only [Act.put,List.setIfInBounds_toArray,List.set_cons_zero,List.set_cons_succ])
          refine wpAnyH_take (i:=9) (oi:={dst:=some 62,op:=Go.Op.move (Go.Operand.tmp 61),type:=4,pos := "subst.go:89",after:=#[{on:=8,ground:=Go.Ground.data},{on:=6,ground:=Go.Ground.chain}],guard:=none}) (v:=?_) rfl (by kernel_rfl) (by kernel_rfl) (by kernel_rfl) (fun _ _ _ h=>h) (Or.inl ⟨by rfl,?_⟩) (by assumption) ?_
          rotate_left 1
          ·((intro w hSw;(try dsimp only at hSw);go_simp)<;>with_reducible rfl)
          (try simp only [Act.put,List.setIfInBounds_toArray,List.set_cons_zero,List.set_cons_succ])
          refine wpAnyH_take (i:=10) (oi:={dst:=some 63,op:=Go.Op.fieldAddr 38 (Go.Operand.tmp 5) 0,type:=0,pos := "subst.go:89",after:=#[{on:=9,ground:=Go.Ground.guard}],guard:=some (9,false) }) (v:=?_) rfl (by kernel_rfl) (by kernel_rfl) (by kernel_rfl) (fun _ _ _ h=>h) (Or.inl ⟨by rfl,?_⟩) (by assumption) ?_
          rotate_left 1
          ·((intro w hSw;(try dsimp only at hSw);go_simp)<;>with_reducible rfl)
          (try simp only [Act.put,List.setIfInBounds_toArray,List.set_cons_zero,List.set_cons_succ])
          refine wpAnyH_take (i:=11) (oi:={dst:=some 64,op:=Go.Op.load 3 (Go.Operand.tmp 63),type:=3,pos := "subst.go:89",after:=#[{on:=10,ground:=Go.Ground.data},{on:=9,ground:=Go.Ground.guard}],guard:=some (9,false) }) (v:=?_) rfl (by kernel_rfl) (by kernel_rfl) (by kernel_rfl) (fun _ _ _ h=>h) (Or.inl ⟨by rfl,?_⟩) (by assumption) ?_
          rotate_left 1
          ·((intro w hSw;(try dsimp only at hSw);go_simp)<;>with_reducible rfl)
          (try simp only [Act.put,List.setIfInBounds_toArray,List.set_cons_zero,List.set_cons_succ])
          refine wpAnyH_take (i:=12) (oi:={dst:=some 65,op:=Go.Op.binOp Go.BinOp.eql 3 (Go.Operand.tmp 64) (Go.Operand.const (Go.Value.int Go.IntKind.i64 12)) 3,type:=4,pos := "subst.go:89",after:=#[{on:=11,ground:=Go.Ground.data},{on:=9,ground:=Go.Ground.guard}],guard:=some (9,false) }) (v:=?_) rfl (by kernel_rfl) (by kernel_rfl) (by kernel_rfl) (fun _ _ _ h=>h) (Or.inl ⟨by rfl,?_⟩) (by assumption) ?_
          rotate_left 1
          ·((intro w hSw;(try dsimp only at hSw);go_simp)<;>with_reducible rfl)
          (try simp only [Act.put,List.setIfInBounds_toArray,List.set_cons_zero,List.set_cons_succ])
          refine wpAnyH_take (i:=13) (oi:={dst:=some 66,op:=Go.Op.move (Go.Operand.tmp 65),type:=4,pos := "subst.go:89",after:=#[{on:=12,ground:=Go.Ground.data},{on:=9,ground:=Go.Ground.chain},{on:=9,ground:=Go.Ground.guard}],guard:=some (9,false) }) (v:=?_) rfl (by kernel_rfl) (by kernel_rfl) (by kernel_rfl) (fun _ _ _ h=>h) (Or.inl ⟨by rfl,?_⟩) (by assumption) ?_
          rotate_left 1
          ·((intro w hSw;(try dsimp only at hSw);go_simp)<;>with_reducible rfl)
          (try simp only [Act.put,List.setIfInBounds_toArray,List.set_cons_zero,List.set_cons_succ])
          refine wpAnyH_take (i:=14) (oi:={dst:=some 67,op:=Go.Op.move (Go.Operand.tmp 11),type:=3,pos := "subst.go:89",after:=#[{on:=13,ground:=Go.Ground.guard}],guard:=some (13,true) }) (v:=?_) rfl (by kernel_rfl) (by kernel_rfl) (by kernel_rfl) (fun _ _ _ h=>h) (Or.inl ⟨by rfl,?_⟩) (by assumption) ?_
          rotate_left 1
          ·((intro w hSw;(try dsimp only at hSw);go_simp)<;>with_reducible rfl)
          (try simp only [Act.put,List.setIfInBounds_toArray,List.set_cons_zero,List.set_cons_succ])
          refine wpAnyH_take (i:=15) (oi:={dst:=some 68,op:=Go.Op.binOp Go.BinOp.eql 3 (Go.Operand.tmp 67) (Go.Operand.const (Go.Value.int Go.IntKind.i64 2)) 3,type:=4,pos := "subst.go:89",after:=#[{on:=14,ground:=Go.Ground.data},{on:=13,ground:=Go.Ground.guard}],guard:=some (13,true) }) (v:=?_) rfl (by kernel_rfl) (by kernel_rfl) (by kernel_rfl) (fun _ _ _ h=>h) (Or.inl ⟨by rfl,?_⟩) (by assumption) ?_
          rotate_left 1
          ·((intro w hSw;(try dsimp only at hSw);go_simp)<;>with_reducible rfl)
          (try simp only [Act.put,List.setIfInBounds_toArray,List.set_cons_zero,List.set_cons_succ])
          refine wpAnyH_take (i:=16) (oi:={dst:=some 69,op:=Go.Op.pick (Go.Operand.tmp 66) (Go.Operand.tmp 68) (Go.Operand.const (Go.Value.bool false)),type:=4,pos := "subst.go:89",after:=#[{on:=13,ground:=Go.Ground.data},{on:=15,ground:=Go.Ground.data},{on:=9,ground:=Go.Ground.guard}],guard:=some (9,false) }) (v:=?_) rfl (by kernel_rfl) (by kernel_rfl) (by kernel_rfl) (fun _ _ _ h=>h) (Or.inl ⟨by rfl,?_⟩) (by assumption) ?_
          rotate_left 1
          ·((intro w hSw;(try dsimp only at hSw);go_simp)<;>with_reducible rfl)
          (try simp only [Act.put,List.setIfInBounds_toArray,List.set_cons_zero,List.set_cons_succ])
          refine wpAnyH_take (i:=17) (oi:={dst:=some 70,op:=Go.Op.pick (Go.Operand.tmp 62) (Go.Operand.const (Go.Value.bool true)) (Go.Operand.tmp 69),type:=4,pos := "subst.go:89",after:=#[{on:=9,ground:=Go.Ground.data},{on:=16,ground:=Go.Ground.data}],guard:=none}) (v:=?_) rfl (by kernel_rfl) (by kernel_rfl) (by kernel_rfl) (fun _ _ _ h=>h) (Or.inl ⟨by rfl,?_⟩) (by assumption) ?_
          rotate_left 1
          ·((intro w hSw;(try dsimp only at hSw);go_simp)<;>with_reducible rfl)
          (try simp only [Act.put,List.setIfInBounds_toArray,List.set_cons_zero,List.set_cons_succ])
          refine wpAnyH_ready (rs:=[18]) (by kernel_rfl) (by simp) ?_
          refine AllReadyH.cons (o:={dst:=some 71,op:=Go.Op.call {callee:=Go.Callee.value (Go.Operand.func 71),args:=#[Go.Operand.tmp 53,Go.Operand.tmp 54,Go.Operand.tmp 60,Go.Operand.tmp 70],argTypes:=#[104,38,3,4] },type:=105,pos := "subst.go:89",after:=#[{on:=0,ground:=Go.Ground.data},{on:=1,ground:=Go.Ground.data},{on:=7,ground:=Go.Ground.data},{on:=17,ground:=Go.Ground.data},{on:=13,ground:=Go.Ground.chain}],guard:=none}) rfl (fun K hK=>?_) ?_
          ·go_simp
           ((go_at_call 71;((with_reducible refine Calls.mono CALLA.out ?_);rintro e wn ⟨⟨u,a2,n2,cap2,ok,rfl,hbn,hans⟩,hZ⟩;obtain⟨⟨g0,g1,g2,g3,g4⟩,k0,k1,k2,k3,k4⟩:=And.intro (five_cells hZ) (five_free hZ);have HANS:=Lib.hid hans;clear hans;have hh:=held_call (held_drew (held_alloc hH0 _)) hbn)))
           refine hK.out _ _ ?_ (fun hHeld=>?_)
           ·(try dsimp only)
            (((with_reducible refine held_and2 ?_ d0 hpc);repeat (first | with_reducible assumption | with_reducible exact hH0 | with_reducible refine held_drew ?_ | with_reducible refine held_alloc ?_ _ | ((with_reducible refine held_set ?_ ?hh _);(case hh=>simp)))))
           clear hK K
           (try simp only [Act.put,List.setIfInBounds_toArray,List.set_cons_zero,List.set_cons_succ])
           refine wpAnyH_take (i:=19) (oi:={dst:=some 52,op:=Go.Op.move (Go.Operand.tmp 71),type:=105,pos := "subst.go:89",after:=#[{on:=18,ground:=Go.Ground.data}],guard:=none}) (v:=?_) rfl (by kernel_rfl) (by kernel_rfl) (by kernel_rfl) (fun _ _ _ h=>h) (Or.inl ⟨by rfl,?_⟩) (by assumption) ?_
           rotate_left 1
           ·((intro w hSw;(try dsimp only at hSw);go_simp)<;>with_reducible rfl)
           (try simp only [Act.put,List.setIfInBounds_toArray,List.set_cons_zero,List.set_cons_succ])
           refine wpAnyH_take (i:=20) (oi:={dst:=some 72,op:=Go.Op.extract (Go.Operand.tmp 52) 0,type:=38,pos := "subst.go:89",after:=#[{on:=19,ground:=Go.Ground.data}],guard:=none}) (v:=?_) rfl (by kernel_rfl) (by kernel_rfl) (by kernel_rfl) (fun _ _ _ h=>h) (Or.inl ⟨by rfl,?_⟩) (by assumption) ?_
           rotate_left 1
           ·((intro w hSw;(try dsimp only at hSw);go_simp)<;>with_reducible rfl)
           (try simp only [Act.put,List.setIfInBounds_toArray,List.set_cons_zero,List.set_cons_succ])
           refine wpAnyH_take (i:=21) (oi:={dst:=some 73,op:=Go.Op.extract (Go.Operand.tmp 52) 1,type:=4,pos := "subst.go:89",after:=#[{on:=19,ground:=Go.Ground.data},{on:=23,ground:=Go.Ground.gcOnly Go.Departure.lateStores}],guard:=none}) (v:=?_) rfl (by kernel_rfl) (by kernel_rfl) (by kernel_rfl) (fun _ _ _ h=>h) (Or.inl ⟨by rfl,?_⟩) (by assumption) ?_
           rotate_left 1
           ·((intro w hSw;(try dsimp only at hSw);go_simp)<;>with_reducible rfl)
           (try simp only [Act.put,List.setIfInBounds_toArray,List.set_cons_zero,List.set_cons_succ])
           refine wpAnyH_ready (rs:=[23]) (by kernel_rfl) (by simp) ?_
           refine AllReadyH.cons (o:={dst:=none,op:=Go.Op.store 38 (Go.Operand.tmp 13) (Go.Operand.tmp 72),type:=0,pos := "subst.go:89",after:=#[{on:=22,ground:=Go.Ground.data},{on:=20,ground:=Go.Ground.data},{on:=18,ground:=Go.Ground.chain},{on:=0,ground:=Go.Ground.phase},{on:=1,ground:=Go.Ground.phase},{on:=2,ground:=Go.Ground.phase},{on:=3,ground:=Go.Ground.phase},{on:=4,ground:=Go.Ground.phase},{on:=5,ground:=Go.Ground.phase},{on:=6,ground:=Go.Ground.phase},{on:=7,ground:=Go.Ground.phase},{on:=8,ground:=Go.Ground.phase},{on:=9,ground:=Go.Ground.phase},{on:=10,ground:=Go.Ground.phase},{on:=11,ground:=Go.Ground.phase},{on:=12,ground:=Go.Ground.phase},{on:=13,ground:=Go.Ground.phase},{on:=14,ground:=Go.Ground.phase},{on:=15,ground:=Go.Ground.phase},{on:=16,ground:=Go.Ground.phase},{on:=17,ground:=Go.Ground.phase},{on:=18,ground:=Go.Ground.phase},{on:=19,ground:=Go.Ground.phase},{on:=20,ground:=Go.Ground.phase},{on:=21,ground:=Go.Ground.textOnly Go.Departure.lateStores},{on:=22,ground:=Go.Ground.phase}],guard:=none}) rfl (fun K hK=>?_) ?_
           ·go_simp
            refine hK.out _ _ ?_ (fun hHeld=>?_)
            ·(try dsimp only)
             (((with_reducible refine held_and2 ?_ d0 hpc);repeat (first | with_reducible assumption | with_reducible exact hH0 | with_reducible refine held_drew ?_ | with_reducible refine held_alloc ?_ _ | ((with_reducible refine held_set ?_ ?hh _);(case hh=>simp)))))
            clear hK K
            (try simp only [Act.put,List.setIfInBounds_toArray,List.set_cons_zero,List.set_cons_succ])
            refine wpAnyH_take (i:=24) (oi:={dst:=some 14,op:=Go.Op.assign (Go.Operand.tmp 73),type:=4,pos := "subst.go:89",after:=#[{on:=21,ground:=Go.Ground.data},{on:=23,ground:=Go.Ground.chain},{on:=0,ground:=Go.Ground.phase},{on:=1,ground:=Go.Ground.phase},{on:=2,ground:=Go.Ground.phase},{on:=3,ground:=Go.Ground.phase},{on:=4,ground:=Go.Ground.phase},{on:=5,ground:=Go.Ground.phase},{on:=6,ground:=Go.Ground.phase},{on:=7,ground:=Go.Ground.phase},{on:=8,ground:=Go.Ground.phase},{on:=9,ground:=Go.Ground.phase},{on:=10,ground:=Go.Ground.phase},{on:=11,ground:=Go.Ground.phase},{on:=12,ground:=Go.Ground.phase},{on:=13,ground:=Go.Ground.phase},{on:=14,ground:=Go.Ground.phase},{on:=15,ground:=Go.Ground.phase},{on:=16,ground:=Go.Ground.phase},{on:=17,ground:=Go.Ground.phase},{on:=18,ground:=Go.Ground.phase},{on:=19,ground:=Go.Ground.phase},{on:=20,ground:=Go.Ground.phase},{on:=21,ground:=Go.Ground.phase},{on:=22,ground:=Go.Ground.phase},{on:=23,ground:=Go.Ground.phase}],guard:=none}) (v:=?_) rfl (by kernel_rfl) (by kernel_rfl) (by kernel_rfl) (fun _ _ _ h=>h) (Or.inl ⟨by rfl,?_⟩) (by assumption) ?_
            rotate_left 1
            ·((intro w hSw;(try dsimp only at hSw);go_simp)<;>with_reducible rfl)
            (try simp only [Act.put,List.setIfInBounds_toArray,List.set_cons_zero,List.set_cons_succ])
            refine wpAnyH_done (by kernel_rfl) ?_ _
            rcases HANS.out with ⟨rfl,hr,rfl,hl2⟩ | ⟨rfl,hr⟩
            ·have HFI2:=Lib.hid (HFX.out u hr)
             have hW:Held wr t.kids[q] (.slice a' t.kids[q].kids.length cap') (((((wn.setCell ⟨wr.heap.size+1,0,none⟩ (.int .i64 u.k)).setCell ⟨wr.heap.size+1,1,none⟩ (.int .i64 u.i)).setCell ⟨wr.heap.size+1,2,none⟩ (.int .i64 u.j)).setCell ⟨wr.heap.size+1,3,none⟩ (.int .i64 u.n)).setCell ⟨wr.heap.size+1,4,none⟩ (.slice a2 u.kids.length cap2)):=held_five hh _ _ _ _ _
             have hLW:LiesP (((((wn.setCell ⟨wr.heap.size+1,0,none⟩ (.int .i64 u.k)).setCell ⟨wr.heap.size+1,1,none⟩ (.int .i64 u.i)).setCell ⟨wr.heap.size+1,2,none⟩ (.int .i64 u.j)).setCell ⟨wr.heap.size+1,3,none⟩ (.int .i64 u.n)).setCell ⟨wr.heap.size+1,4,none⟩ (.slice a2 u.kids.length cap2)) (Own wr.heap.size (((((wn.setCell ⟨wr.heap.size+1,0,none⟩ (.int .i64 u.k)).setCell ⟨wr.heap.size+1,1,none⟩ (.int .i64 u.i)).setCell ⟨wr.heap.size+1,2,none⟩ (.int .i64 u.j)).setCell ⟨wr.heap.size+1,3,none⟩ (.int .i64 u.n)).setCell ⟨wr.heap.size+1,4,none⟩ (.slice a2 u.kids.length cap2))) u.kids (.slice a2 u.kids.length cap2):=liesP_five (hl2.from (B':=wr.heap.size+2) (by simp)) _ _ _ _ _
             have hN:(((((wn.setCell ⟨wr.heap.size+1,0,none⟩ (.int .i64 u.k)).setCell ⟨wr.heap.size+1,1,none⟩ (.int .i64 u.i)).setCell ⟨wr.heap.size+1,2,none⟩ (.int .i64 u.j)).setCell ⟨wr.heap.size+1,3,none⟩ (.int .i64 u.n)).setCell ⟨wr.heap.size+1,4,none⟩ (.slice a2 u.kids.length cap2)).heap[wr.heap.size+1]? =some (boxOf u (.slice a2 u.kids.length cap2)):=five_set hZ
             clear hh hbn hl2 hZ g0 g1 g2 g3 g4 k0 k1 k2 k3 k4
             generalize (((((wn.setCell ⟨wr.heap.size+1,0,none⟩ (.int .i64 u.k)).setCell ⟨wr.heap.size+1,1,none⟩ (.int .i64 u.i)).setCell ⟨wr.heap.size+1,2,none⟩ (.int .i64 u.j)).setCell ⟨wr.heap.size+1,3,none⟩ (.int .i64 u.n)).setCell ⟨wr.heap.size+1,4,none⟩ (.slice a2 u.kids.length cap2))=W at hW hLW hN ⊢
             have hdW:=desk_trans hdk (below_from (held_below hW) hsz)
             have hfW:=hfu.later (held_below hW)
             have hxq:q<xs.length:=by rw [HXL.out];exact hlt
             have hLF:=hfu.fresh hsz hLW
             obtain⟨-,-,q2⟩:=desk_blocks hdW
             obtain⟨y0,y1,y2,y3,y4⟩:=five_cells q2
             obtain⟨p0,p1,p2,p3,p4⟩:=five_cells hN
             obtain⟨x0,x1,x2,x3,x4⟩:=hfW.node q hxq
             obtain⟨cs,hcs⟩:=hfW.open'
             have f0:=open_unfrozen hcs (q * 5)
             have f1:=open_unfrozen hcs (q * 5+1)
             have f2:=open_unfrozen hcs (q * 5+2)
             have f3:=open_unfrozen hcs (q * 5+3)
             have f4:=open_unfrozen hcs (q * 5+4)
             have HFW:=Lib.hid hfW
             have HLF:=Lib.hid hLF
             have HFU:=Lib.hid hfu
             clear hcs hN hLW hW hfW hLF hfu d0 d1 d2 d3 d4 z0 z1 z2 z3 z4
             go_wp2
             go_roundw
             case rel=>exact⟨q+1,xs.set q (u,.slice a2 u.kids.length cap2),hlt,by go_num,by simp [Hid,HXL.out],by rw [Hid,optK_next hlt HXS.out hr,List.map_set,take_set_next _ _ _ (by simpa using hxq)],HFW.out.fill hxq HFI2.out HLF.out,desk_put hdW (Nat.le_refl _) _ _ _⟩
             case measure=>simp [intOf];omega
            ·have hW:Held wr t.kids[q] (.slice a' t.kids[q].kids.length cap') (((((wn.setCell ⟨wr.heap.size+1,0,none⟩ (.int .i64 u.k)).setCell ⟨wr.heap.size+1,1,none⟩ (.int .i64 u.i)).setCell ⟨wr.heap.size+1,2,none⟩ (.int .i64 u.j)).setCell ⟨wr.heap.size+1,3,none⟩ (.int .i64 u.n)).setCell ⟨wr.heap.size+1,4,none⟩ (.slice a2 n2 cap2)):=held_five hh _ _ _ _ _
             clear hh hbn hZ g0 g1 g2 g3 g4 k0 k1 k2 k3 k4
             generalize (((((wn.setCell ⟨wr.heap.size+1,0,none⟩ (.int .i64 u.k)).setCell ⟨wr.heap.size+1,1,none⟩ (.int .i64 u.i)).setCell ⟨wr.heap.size+1,2,none⟩ (.int .i64 u.j)).setCell ⟨wr.heap.size+1,3,none⟩ (.int .i64 u.n)).setCell ⟨wr.heap.size+1,4,none⟩ (.slice a2 n2 cap2))=W at hW ⊢
             have hdW:=desk_trans hdk (below_from (held_below hW) hsz)
             obtain⟨-,q1,-⟩:=desk_blocks hdW
             obtain⟨z0,z1,z2,z3,z4⟩:=five_cells q1
             obtain⟨f0,f1,f2,f3,f4⟩:=five_free q1
             go_wp2
             (try simp only [Exit.inBlock,Exit.then])
             refine bodyPost_ret (results_cell_tmp rfl _ _ (w.heap.size+1) _ _ _ du rfl (five_set q1) hu1 (by cases du<;>first | rfl | exact hu2) size_term) rfl ?_
             exact GivesN.wide ⟨((((((desk_under hdW).setCell (by simp) _).setCell (by simp) _).setCell (by simp) _).setCell (by simp) _).setCell (by simp) _),Or.inr ⟨Tm.zero,none,0,0,by rw [HEQ.out,optK_stop hlt hr];rfl,rfl⟩⟩ HBP.out
           exact AllReadyH.nil
          exact AllReadyH.nil
         exact AllReadyH.nil
        exact AllReadyH.nil
       ·have ek12:(t.k==12)=false:=by simpa using h12
        have hF:(false||(t.k==12&&q==2))=false:=by rw [ek12];rfl
        have hc:=HCALL.out
        rw [hF] at hc
        have hH0:=held_start wr t.kids[q] (.slice a' t.kids[q].kids.length cap')
        have CALL2:∀ w',Held wr t.kids[q] (.slice a' t.kids[q].kids.length cap') w'→Calls Try.prog 71 #[.agg #[.func (.func fid) #[] #[.pointer (some ⟨bv,0,none⟩)]],tv t.kids[q] (.slice a' t.kids[q].kids.length cap'),.int .i64 (b+bindsN t.k q),.bool false] w' (GivesY (t.kids[q].putG g (b+bindsN t.k q) (false||(t.k==12&&q==2))) w'):=fun w' h'=>(hc w' h').mono fun e w'' h=>by rw [←hF] at h;exact h.ans
        have CALLB:=Lib.hid (CALL2 (wr.alloc (.cells #[.int .i64 t.kids[q].k,.int .i64 t.kids[q].i,.int .i64 t.kids[q].j,.int .i64 t.kids[q].n,.slice a' t.kids[q].kids.length cap'] 38)).drew (held_drew hH0))
        have CALLA:=Lib.hid ((CALL2 ((wr.alloc (.cells #[.int .i64 t.kids[q].k,.int .i64 t.kids[q].i,.int .i64 t.kids[q].j,.int .i64 t.kids[q].n,.slice a' t.kids[q].kids.length cap'] 38)).alloc zeroObj).drew (held_drew (held_alloc hH0 _))).mono fun e w'' h=>And.intro h (zero_blocks_new h.below))
        clear hc HCALL CALL2 hF h12
        go_wp2_with fail
        refine wp_region_held_drew (S:=fun w'=>Held wr t.kids[q] (.slice a' t.kids[q].kids.length cap') w'∧w'.cell? ⟨w.heap.size,0,none⟩=some (.int .i64 t.k)∧w'.cell? ⟨wi.heap.size,0,none⟩=some (.func (.func fid) #[] #[.pointer (some ⟨bv,0,none⟩)])∧w'.cell? ⟨wr.heap.size,0,none⟩=some (.int .i64 t.kids[q].k)∧w'.cell? ⟨wr.heap.size,1,none⟩=some (.int .i64 t.kids[q].i)∧w'.cell? ⟨wr.heap.size,2,none⟩=some (.int .i64 t.kids[q].j)∧w'.cell? ⟨wr.heap.size,3,none⟩=some (.int .i64 t.kids[q].n)∧w'.cell? ⟨wr.heap.size,4,none⟩=some (.slice a' t.kids[q].kids.length cap')) (by kernel_rfl) ?_ (fun hHeld=>?_)
        ·(try dsimp only)
         (((with_reducible refine held_and2 ?_ d0 hpc);repeat (first | with_reducible assumption | with_reducible exact hH0 | with_reducible refine held_drew ?_ | with_reducible refine held_alloc ?_ _ | ((with_reducible refine held_set ?_ ?hh _);(case hh=>simp)))))
        refine wpAnyH_take (i:=0) (oi:={dst:=some 53,op:=Go.Op.load 104 (Go.Operand.tmp 4),type:=104,pos := "subst.go:89",after:=#[],guard:=none}) (v:=?_) rfl (by kernel_rfl) (by kernel_rfl) (by kernel_rfl) (fun _ _ _ h=>h) (Or.inl ⟨by rfl,?_⟩) (by assumption) ?_
        rotate_left 1
        ·((intro w hSw;(try dsimp only at hSw);go_simp)<;>with_reducible rfl)
        (try simp only [Act.put,List.setIfInBounds_toArray,List.set_cons_zero,List.set_cons_succ])
        refine wpAnyH_take (i:=1) (oi:={dst:=some 54,op:=Go.Op.load 38 (Go.Operand.tmp 12),type:=38,pos := "subst.go:89",after:=#[],guard:=none}) (v:=?_) rfl (by kernel_rfl) (by kernel_rfl) (by kernel_rfl) (fun _ _ _ h=>h) (Or.inl ⟨by rfl,?_⟩) (by assumption) ?_
        rotate_left 1
        ·((intro w hSw;(try dsimp only at hSw);go_simp)<;>with_reducible rfl)
        (try simp only [Act.put,List.setIfInBounds_toArray,List.set_cons_zero,List.set_cons_succ])
        refine wpAnyH_take (i:=2) (oi:={dst:=some 55,op:=Go.Op.move (Go.Operand.tmp 2),type:=3,pos := "subst.go:89",after:=#[],guard:=none}) (v:=?_) rfl (by kernel_rfl) (by kernel_rfl) (by kernel_rfl) (fun _ _ _ h=>h) (Or.inl ⟨by rfl,?_⟩) (by assumption) ?_
        rotate_left 1
        ·((intro w hSw;(try dsimp only at hSw);go_simp)<;>with_reducible rfl)
        (try simp only [Act.put,List.setIfInBounds_toArray,List.set_cons_zero,List.set_cons_succ])
        refine wpAnyH_take (i:=3) (oi:={dst:=some 56,op:=Go.Op.fieldAddr 38 (Go.Operand.tmp 5) 0,type:=0,pos := "subst.go:89",after:=#[],guard:=none}) (v:=?_) rfl (by kernel_rfl) (by kernel_rfl) (by kernel_rfl) (fun _ _ _ h=>h) (Or.inl ⟨by rfl,?_⟩) (by assumption) ?_
        rotate_left 1
        ·((intro w hSw;(try dsimp only at hSw);go_simp)<;>with_reducible rfl)
        (try simp only [Act.put,List.setIfInBounds_toArray,List.set_cons_zero,List.set_cons_succ])
        refine wpAnyH_take (i:=4) (oi:={dst:=some 57,op:=Go.Op.load 3 (Go.Operand.tmp 56),type:=3,pos := "subst.go:89",after:=#[{on:=3,ground:=Go.Ground.data}],guard:=none}) (v:=?_) rfl (by kernel_rfl) (by kernel_rfl) (by kernel_rfl) (fun _ _ _ h=>h) (Or.inl ⟨by rfl,?_⟩) (by assumption) ?_
        rotate_left 1
        ·((intro w hSw;(try dsimp only at hSw);go_simp)<;>with_reducible rfl)
        (try simp only [Act.put,List.setIfInBounds_toArray,List.set_cons_zero,List.set_cons_succ])
        refine wpAnyH_take (i:=5) (oi:={dst:=some 58,op:=Go.Op.move (Go.Operand.tmp 11),type:=3,pos := "subst.go:89",after:=#[],guard:=none}) (v:=?_) rfl (by kernel_rfl) (by kernel_rfl) (by kernel_rfl) (fun _ _ _ h=>h) (Or.inl ⟨by rfl,?_⟩) (by assumption) ?_
        rotate_left 1
        ·((intro w hSw;(try dsimp only at hSw);go_simp)<;>with_reducible rfl)
        (try simp only [Act.put,List.setIfInBounds_toArray,List.set_cons_zero,List.set_cons_succ])
        refine wpAnyH_take (i:=8) (oi:={dst:=some 61,op:=Go.Op.move (Go.Operand.tmp 3),type:=4,pos := "subst.go:89",after:=#[],guard:=none}) (v:=?_) rfl (by kernel_rfl) (by kernel_rfl) (by kernel_rfl) (fun _ _ _ h=>h) (Or.inl ⟨by rfl,?_⟩) (by assumption) ?_
        rotate_left 1
        ·((intro w hSw;(try dsimp only at hSw);go_simp)<;>with_reducible rfl)
        (try simp only [Act.put,List.setIfInBounds_toArray,List.set_cons_zero,List.set_cons_succ])
        refine wpAnyH_ready (rs:=[6,22]) (by kernel_rfl) (by simp) ?_
        refine AllReadyH.cons (o:={dst:=some 59,op:=Go.Op.call {callee:=Go.Callee.value (Go.Operand.func 65),args:=#[Go.Operand.tmp 57,Go.Operand.tmp 58],argTypes:=#[3,3] },type:=3,pos := "subst.go:89",after:=#[{on:=4,ground:=Go.Ground.data},{on:=5,ground:=Go.Ground.data}],guard:=none}) rfl (fun K hK=>?_) ?_
        ·go_simp
         ((go_at_call 65;refine(binds_any _ _ _).mono ?_;rintro e w' ⟨rfl,rfl⟩))
         refine hK.out _ _ ?_ (fun hHeld=>?_)
         ·(try dsimp only)
          (((with_reducible refine held_and2 ?_ d0 hpc);repeat (first | with_reducible assumption | with_reducible exact hH0 | with_reducible refine held_drew ?_ | with_reducible refine held_alloc ?_ _ | ((with_reducible refine held_set ?_ ?hh _);(case hh=>simp)))))
         clear hK K
         (try simp only [Act.put,List.setIfInBounds_toArray,List.set_cons_zero,List.set_cons_succ])
         refine wpAnyH_take (i:=7) (oi:={dst:=some 60,op:=Go.Op.binOp Go.BinOp.add 3 (Go.Operand.tmp 55) (Go.Operand.tmp 59) 3,type:=3,pos := "subst.go:89",after:=#[{on:=2,ground:=Go.Ground.data},{on:=6,ground:=Go.Ground.data}],guard:=none}) (v:=?_) rfl (by kernel_rfl) (by kernel_rfl) (by kernel_rfl) (fun _ _ _ h=>h) (Or.inl ⟨by rfl,?_⟩) (by assumption) ?_
         rotate_left 1
         ·((intro w hSw;(try dsimp only at hSw);go_simp)<;>with_reducible rfl)
         (try simp only [Act.put,List.setIfInBounds_toArray,List.set_cons_zero,List.set_cons_succ])
         refine wpAnyH_take (i:=9) (oi:={dst:=some 62,op:=Go.Op.move (Go.Operand.tmp 61),type:=4,pos := "subst.go:89",after:=#[{on:=8,ground:=Go.Ground.data},{on:=6,ground:=Go.Ground.chain}],guard:=none}) (v:=?_) rfl (by kernel_rfl) (by kernel_rfl) (by kernel_rfl) (fun _ _ _ h=>h) (Or.inl ⟨by rfl,?_⟩) (by assumption) ?_
         rotate_left 1
         ·((intro w hSw;(try dsimp only at hSw);go_simp)<;>with_reducible rfl)
         (try simp only [Act.put,List.setIfInBounds_toArray,List.set_cons_zero,List.set_cons_succ])
         refine wpAnyH_take (i:=10) (oi:={dst:=some 63,op:=Go.Op.fieldAddr 38 (Go.Operand.tmp 5) 0,type:=0,pos := "subst.go:89",after:=#[{on:=9,ground:=Go.Ground.guard}],guard:=some (9,false) }) (v:=?_) rfl (by kernel_rfl) (by kernel_rfl) (by kernel_rfl) (fun _ _ _ h=>h) (Or.inl ⟨by rfl,?_⟩) (by assumption) ?_
         rotate_left 1
         ·((intro w hSw;(try dsimp only at hSw);go_simp)<;>with_reducible rfl)
         (try simp only [Act.put,List.setIfInBounds_toArray,List.set_cons_zero,List.set_cons_succ])
         refine wpAnyH_take (i:=11) (oi:={dst:=some 64,op:=Go.Op.load 3 (Go.Operand.tmp 63),type:=3,pos := "subst.go:89",after:=#[{on:=10,ground:=Go.Ground.data},{on:=9,ground:=Go.Ground.guard}],guard:=some (9,false) }) (v:=?_) rfl (by kernel_rfl) (by kernel_rfl) (by kernel_rfl) (fun _ _ _ h=>h) (Or.inl ⟨by rfl,?_⟩) (by assumption) ?_
         rotate_left 1
         ·((intro w hSw;(try dsimp only at hSw);go_simp)<;>with_reducible rfl)
         (try simp only [Act.put,List.setIfInBounds_toArray,List.set_cons_zero,List.set_cons_succ])
         refine wpAnyH_take (i:=12) (oi:={dst:=some 65,op:=Go.Op.binOp Go.BinOp.eql 3 (Go.Operand.tmp 64) (Go.Operand.const (Go.Value.int Go.IntKind.i64 12)) 3,type:=4,pos := "subst.go:89",after:=#[{on:=11,ground:=Go.Ground.data},{on:=9,ground:=Go.Ground.guard}],guard:=some (9,false) }) (v:=?_) rfl (by kernel_rfl) (by kernel_rfl) (by kernel_rfl) (fun _ _ _ h=>h) (Or.inl ⟨by rfl,?_⟩) (by assumption) ?_
         rotate_left 1
         ·((intro w hSw;(try dsimp only at hSw);go_simp)<;>with_reducible rfl)
         (try simp only [Act.put,List.setIfInBounds_toArray,List.set_cons_zero,List.set_cons_succ])
         refine wpAnyH_take (i:=13) (oi:={dst:=some 66,op:=Go.Op.move (Go.Operand.tmp 65),type:=4,pos := "subst.go:89",after:=#[{on:=12,ground:=Go.Ground.data},{on:=9,ground:=Go.Ground.chain},{on:=9,ground:=Go.Ground.guard}],guard:=some (9,false) }) (v:=?_) rfl (by kernel_rfl) (by kernel_rfl) (by kernel_rfl) (fun _ _ _ h=>h) (Or.inl ⟨by rfl,?_⟩) (by assumption) ?_
         rotate_left 1
         ·((intro w hSw;(try dsimp only at hSw);go_simp)<;>with_reducible rfl)
         (try simp only [Act.put,List.setIfInBounds_toArray,List.set_cons_zero,List.set_cons_succ])
         refine wpAnyH_take (i:=14) (oi:={dst:=some 67,op:=Go.Op.move (Go.Operand.tmp 11),type:=3,pos := "subst.go:89",after:=#[{on:=13,ground:=Go.Ground.guard}],guard:=some (13,true) }) (v:=undef) rfl (by kernel_rfl) (by kernel_rfl) (by kernel_rfl) (fun _ _ _ h=>h) (Or.inr ⟨by rfl,rfl⟩) (by assumption) ?_
         (try simp only [Act.put,List.setIfInBounds_toArray,List.set_cons_zero,List.set_cons_succ])
         refine wpAnyH_take (i:=15) (oi:={dst:=some 68,op:=Go.Op.binOp Go.BinOp.eql 3 (Go.Operand.tmp 67) (Go.Operand.const (Go.Value.int Go.IntKind.i64 2)) 3,type:=4,pos := "subst.go:89",after:=#[{on:=14,ground:=Go.Ground.data},{on:=13,ground:=Go.Ground.guard}],guard:=some (13,true) }) (v:=undef) rfl (by kernel_rfl) (by kernel_rfl) (by kernel_rfl) (fun _ _ _ h=>h) (Or.inr ⟨by rfl,rfl⟩) (by assumption) ?_
         (try simp only [Act.put,List.setIfInBounds_toArray,List.set_cons_zero,List.set_cons_succ])
         refine wpAnyH_take (i:=16) (oi:={dst:=some 69,op:=Go.Op.pick (Go.Operand.tmp 66) (Go.Operand.tmp 68) (Go.Operand.const (Go.Value.bool false)),type:=4,pos := "subst.go:89",after:=#[{on:=13,ground:=Go.Ground.data},{on:=15,ground:=Go.Ground.data},{on:=9,ground:=Go.Ground.guard}],guard:=some (9,false) }) (v:=?_) rfl (by kernel_rfl) (by kernel_rfl) (by kernel_rfl) (fun _ _ _ h=>h) (Or.inl ⟨by rfl,?_⟩) (by assumption) ?_
         rotate_left 1
         ·((intro w hSw;(try dsimp only at hSw);go_simp)<;>with_reducible rfl)
         (try simp only [Act.put,List.setIfInBounds_toArray,List.set_cons_zero,List.set_cons_succ])
         refine wpAnyH_take (i:=17) (oi:={dst:=some 70,op:=Go.Op.pick (Go.Operand.tmp 62) (Go.Operand.const (Go.Value.bool true)) (Go.Operand.tmp 69),type:=4,pos := "subst.go:89",after:=#[{on:=9,ground:=Go.Ground.data},{on:=16,ground:=Go.Ground.data}],guard:=none}) (v:=?_) rfl (by kernel_rfl) (by kernel_rfl) (by kernel_rfl) (fun _ _ _ h=>h) (Or.inl ⟨by rfl,?_⟩) (by assumption) ?_
         rotate_left 1
         ·((intro w hSw;(try dsimp only at hSw);go_simp)<;>with_reducible rfl)
         (try simp only [Act.put,List.setIfInBounds_toArray,List.set_cons_zero,List.set_cons_succ])
         refine wpAnyH_ready (rs:=[18,22]) (by kernel_rfl) (by simp) ?_
         refine AllReadyH.cons (o:={dst:=some 71,op:=Go.Op.call {callee:=Go.Callee.value (Go.Operand.func 71),args:=#[Go.Operand.tmp 53,Go.Operand.tmp 54,Go.Operand.tmp 60,Go.Operand.tmp 70],argTypes:=#[104,38,3,4] },type:=105,pos := "subst.go:89",after:=#[{on:=0,ground:=Go.Ground.data},{on:=1,ground:=Go.Ground.data},{on:=7,ground:=Go.Ground.data},{on:=17,ground:=Go.Ground.data},{on:=13,ground:=Go.Ground.chain}],guard:=none}) rfl (fun K hK=>?_) ?_
         ·go_simp
          ((go_at_call 71;((with_reducible refine Calls.mono CALLB.out ?_);rintro e wn ⟨u,a2,n2,cap2,ok,rfl,hbn,hans⟩;have HANS:=Lib.hid hans;clear hans;have hh:=held_call (held_drew hH0) hbn)))
          refine hK.out _ _ ?_ (fun hHeld=>?_)
          ·(try dsimp only)
           (((with_reducible refine held_and2 ?_ d0 hpc);repeat (first | with_reducible assumption | with_reducible exact hH0 | with_reducible refine held_drew ?_ | with_reducible refine held_alloc ?_ _ | ((with_reducible refine held_set ?_ ?hh _);(case hh=>simp)))))
          clear hK K
          (try simp only [Act.put,List.setIfInBounds_toArray,List.set_cons_zero,List.set_cons_succ])
          refine wpAnyH_take (i:=19) (oi:={dst:=some 52,op:=Go.Op.move (Go.Operand.tmp 71),type:=105,pos := "subst.go:89",after:=#[{on:=18,ground:=Go.Ground.data}],guard:=none}) (v:=?_) rfl (by kernel_rfl) (by kernel_rfl) (by kernel_rfl) (fun _ _ _ h=>h) (Or.inl ⟨by rfl,?_⟩) (by assumption) ?_
          rotate_left 1
          ·((intro w hSw;(try dsimp only at hSw);go_simp)<;>with_reducible rfl)
          (try simp only [Act.put,List.setIfInBounds_toArray,List.set_cons_zero,List.set_cons_succ])
          refine wpAnyH_take (i:=20) (oi:={dst:=some 72,op:=Go.Op.extract (Go.Operand.tmp 52) 0,type:=38,pos := "subst.go:89",after:=#[{on:=19,ground:=Go.Ground.data}],guard:=none}) (v:=?_) rfl (by kernel_rfl) (by kernel_rfl) (by kernel_rfl) (fun _ _ _ h=>h) (Or.inl ⟨by rfl,?_⟩) (by assumption) ?_
          rotate_left 1
          ·((intro w hSw;(try dsimp only at hSw);go_simp)<;>with_reducible rfl)
          (try simp only [Act.put,List.setIfInBounds_toArray,List.set_cons_zero,List.set_cons_succ])
          refine wpAnyH_take (i:=21) (oi:={dst:=some 73,op:=Go.Op.extract (Go.Operand.tmp 52) 1,type:=4,pos := "subst.go:89",after:=#[{on:=19,ground:=Go.Ground.data},{on:=23,ground:=Go.Ground.gcOnly Go.Departure.lateStores}],guard:=none}) (v:=?_) rfl (by kernel_rfl) (by kernel_rfl) (by kernel_rfl) (fun _ _ _ h=>h) (Or.inl ⟨by rfl,?_⟩) (by assumption) ?_
          rotate_left 1
          ·((intro w hSw;(try dsimp only at hSw);go_simp)<;>with_reducible rfl)
          (try simp only [Act.put,List.setIfInBounds_toArray,List.set_cons_zero,List.set_cons_succ])
          refine wpAnyH_ready (rs:=[22]) (by kernel_rfl) (by simp) ?_
          refine AllReadyH.cons (o:={dst:=some 13,op:=Go.Op.alloc 38,type:=0,pos := "subst.go:89",after:=#[],guard:=none}) rfl (fun K hK=>?_) ?_
          ·go_simp
           refine hK.out _ _ ?_ (fun hHeld=>?_)
           ·(try dsimp only)
            (((with_reducible refine held_and2 ?_ d0 hpc);repeat (first | with_reducible assumption | with_reducible exact hH0 | with_reducible refine held_drew ?_ | with_reducible refine held_alloc ?_ _ | ((with_reducible refine held_set ?_ ?hh _);(case hh=>simp)))))
           clear hK K
           (try simp only [Act.put,List.setIfInBounds_toArray,List.set_cons_zero,List.set_cons_succ])
           refine wpAnyH_ready (rs:=[23]) (by kernel_rfl) (by simp) ?_
           refine AllReadyH.cons (o:={dst:=none,op:=Go.Op.store 38 (Go.Operand.tmp 13) (Go.Operand.tmp 72),type:=0,pos := "subst.go:89",after:=#[{on:=22,ground:=Go.Ground.data},{on:=20,ground:=Go.Ground.data},{on:=18,ground:=Go.Ground.chain},{on:=0,ground:=Go.Ground.phase},{on:=1,ground:=Go.Ground.phase},{on:=2,ground:=Go.Ground.phase},{on:=3,ground:=Go.Ground.phase},{on:=4,ground:=Go.Ground.phase},{on:=5,ground:=Go.Ground.phase},{on:=6,ground:=Go.Ground.phase},{on:=7,ground:=Go.Ground.phase},{on:=8,ground:=Go.Ground.phase},{on:=9,ground:=Go.Ground.phase},{on:=10,ground:=Go.Ground.phase},{on:=11,ground:=Go.Ground.phase},{on:=12,ground:=Go.Ground.phase},{on:=13,ground:=Go.Ground.phase},{on:=14,ground:=Go.Ground.phase},{on:=15,ground:=Go.Ground.phase},{on:=16,ground:=Go.Ground.phase},{on:=17,ground:=Go.Ground.phase},{on:=18,ground:=Go.Ground.phase},{on:=19,ground:=Go.Ground.phase},{on:=20,ground:=Go.Ground.phase},{on:=21,ground:=Go.Ground.textOnly Go.Departure.lateStores},{on:=22,ground:=Go.Ground.phase}],guard:=none}) rfl (fun K hK=>?_) ?_
           ·go_simp
            refine hK.out _ _ ?_ (fun hHeld=>?_)
            ·(try dsimp only)
             (((with_reducible refine held_and2 ?_ d0 hpc);repeat (first | with_reducible assumption | with_reducible exact hH0 | with_reducible refine held_drew ?_ | with_reducible refine held_alloc ?_ _ | ((with_reducible refine held_set ?_ ?hh _);(case hh=>simp)))))
            clear hK K
            (try simp only [Act.put,List.setIfInBounds_toArray,List.set_cons_zero,List.set_cons_succ])
            refine wpAnyH_take (i:=24) (oi:={dst:=some 14,op:=Go.Op.assign (Go.Operand.tmp 73),type:=4,pos := "subst.go:89",after:=#[{on:=21,ground:=Go.Ground.data},{on:=23,ground:=Go.Ground.chain},{on:=0,ground:=Go.Ground.phase},{on:=1,ground:=Go.Ground.phase},{on:=2,ground:=Go.Ground.phase},{on:=3,ground:=Go.Ground.phase},{on:=4,ground:=Go.Ground.phase},{on:=5,ground:=Go.Ground.phase},{on:=6,ground:=Go.Ground.phase},{on:=7,ground:=Go.Ground.phase},{on:=8,ground:=Go.Ground.phase},{on:=9,ground:=Go.Ground.phase},{on:=10,ground:=Go.Ground.phase},{on:=11,ground:=Go.Ground.phase},{on:=12,ground:=Go.Ground.phase},{on:=13,ground:=Go.Ground.phase},{on:=14,ground:=Go.Ground.phase},{on:=15,ground:=Go.Ground.phase},{on:=16,ground:=Go.Ground.phase},{on:=17,ground:=Go.Ground.phase},{on:=18,ground:=Go.Ground.phase},{on:=19,ground:=Go.Ground.phase},{on:=20,ground:=Go.Ground.phase},{on:=21,ground:=Go.Ground.phase},{on:=22,ground:=Go.Ground.phase},{on:=23,ground:=Go.Ground.phase}],guard:=none}) (v:=?_) rfl (by kernel_rfl) (by kernel_rfl) (by kernel_rfl) (fun _ _ _ h=>h) (Or.inl ⟨by rfl,?_⟩) (by assumption) ?_
            rotate_left 1
            ·((intro w hSw;(try dsimp only at hSw);go_simp)<;>with_reducible rfl)
            (try simp only [Act.put,List.setIfInBounds_toArray,List.set_cons_zero,List.set_cons_succ])
            refine wpAnyH_done (by kernel_rfl) ?_ _
            rcases HANS.out with ⟨rfl,hr,rfl,hl2⟩ | ⟨rfl,hr⟩
            ·have HFI2:=Lib.hid (HFX.out u hr)
             have hW:Held wr t.kids[q] (.slice a' t.kids[q].kids.length cap') (wn.alloc (.cells #[.int .i64 u.k,.int .i64 u.i,.int .i64 u.j,.int .i64 u.n,.slice a2 u.kids.length cap2] 38)):=held_alloc hh _
             have hLW:LiesP (wn.alloc (.cells #[.int .i64 u.k,.int .i64 u.i,.int .i64 u.j,.int .i64 u.n,.slice a2 u.kids.length cap2] 38)) (Own wr.heap.size (wn.alloc (.cells #[.int .i64 u.k,.int .i64 u.i,.int .i64 u.j,.int .i64 u.n,.slice a2 u.kids.length cap2] 38))) u.kids (.slice a2 u.kids.length cap2):=((hl2.from (by simp)).later ((Below.refl _ _).alloc (Nat.le_refl _) _))
             have hN:(wn.alloc (.cells #[.int .i64 u.k,.int .i64 u.i,.int .i64 u.j,.int .i64 u.n,.slice a2 u.kids.length cap2] 38)).heap[wn.heap.size]? =some (boxOf u (.slice a2 u.kids.length cap2)):=alloc_new _ _
             clear hh hbn hl2
             generalize (wn.alloc (.cells #[.int .i64 u.k,.int .i64 u.i,.int .i64 u.j,.int .i64 u.n,.slice a2 u.kids.length cap2] 38))=W at hW hLW hN ⊢
             have hdW:=desk_trans hdk (below_from (held_below hW) hsz)
             have hfW:=hfu.later (held_below hW)
             have hxq:q<xs.length:=by rw [HXL.out];exact hlt
             have hLF:=hfu.fresh hsz hLW
             obtain⟨-,-,q2⟩:=desk_blocks hdW
             obtain⟨y0,y1,y2,y3,y4⟩:=five_cells q2
             obtain⟨p0,p1,p2,p3,p4⟩:=five_cells hN
             obtain⟨x0,x1,x2,x3,x4⟩:=hfW.node q hxq
             obtain⟨cs,hcs⟩:=hfW.open'
             have f0:=open_unfrozen hcs (q * 5)
             have f1:=open_unfrozen hcs (q * 5+1)
             have f2:=open_unfrozen hcs (q * 5+2)
             have f3:=open_unfrozen hcs (q * 5+3)
             have f4:=open_unfrozen hcs (q * 5+4)
             have HFW:=Lib.hid hfW
             have HLF:=Lib.hid hLF
             have HFU:=Lib.hid hfu
             clear hcs hN hLW hW hfW hLF hfu d0 d1 d2 d3 d4 z0 z1 z2 z3 z4
             go_wp2
             go_roundw
             case rel=>exact⟨q+1,xs.set q (u,.slice a2 u.kids.length cap2),hlt,by go_num,by simp [Hid,HXL.out],by rw [Hid,optK_next hlt HXS.out hr,List.map_set,take_set_next _ _ _ (by simpa using hxq)],HFW.out.fill hxq HFI2.out HLF.out,desk_put hdW (Nat.le_refl _) _ _ _⟩
             case measure=>simp [intOf];omega
            ·have hW:Held wr t.kids[q] (.slice a' t.kids[q].kids.length cap') (wn.alloc (.cells #[.int .i64 u.k,.int .i64 u.i,.int .i64 u.j,.int .i64 u.n,.slice a2 n2 cap2] 38)):=held_alloc hh _
             clear hh hbn
             generalize (wn.alloc (.cells #[.int .i64 u.k,.int .i64 u.i,.int .i64 u.j,.int .i64 u.n,.slice a2 n2 cap2] 38))=W at hW ⊢
             have hdW:=desk_trans hdk (below_from (held_below hW) hsz)
             obtain⟨-,q1,-⟩:=desk_blocks hdW
             obtain⟨z0,z1,z2,z3,z4⟩:=five_cells q1
             obtain⟨f0,f1,f2,f3,f4⟩:=five_free q1
             go_wp2
             (try simp only [Exit.inBlock,Exit.then])
             refine bodyPost_ret (results_cell_tmp rfl _ _ (w.heap.size+1) _ _ _ du rfl (five_set q1) hu1 (by cases du<;>first | rfl | exact hu2) size_term) rfl ?_
             exact GivesN.wide ⟨((((((desk_under hdW).setCell (by simp) _).setCell (by simp) _).setCell (by simp) _).setCell (by simp) _).setCell (by simp) _),Or.inr ⟨Tm.zero,none,0,0,by rw [HEQ.out,optK_stop hlt hr];rfl,rfl⟩⟩ HBP.out
           exact AllReadyH.nil
          exact AllReadyH.nil
         refine AllReadyH.cons (o:={dst:=some 13,op:=Go.Op.alloc 38,type:=0,pos := "subst.go:89",after:=#[],guard:=none}) rfl (fun K hK=>?_) ?_
         ·go_simp
          refine hK.out _ _ ?_ (fun hHeld=>?_)
          ·(try dsimp only)
           (((with_reducible refine held_and2 ?_ d0 hpc);repeat (first | with_reducible assumption | with_reducible exact hH0 | with_reducible refine held_drew ?_ | with_reducible refine held_alloc ?_ _ | ((with_reducible refine held_set ?_ ?hh _);(case hh=>simp)))))
          clear hK K
          (try simp only [Act.put,List.setIfInBounds_toArray,List.set_cons_zero,List.set_cons_succ])
          refine wpAnyH_ready (rs:=[18]) (by kernel_rfl) (by simp) ?_
          refine AllReadyH.cons (o:={dst:=some 71,op:=Go.Op.call {callee:=Go.Callee.value (Go.Operand.func 71),args:=#[Go.Operand.tmp 53,Go.Operand.tmp 54,Go.Operand.tmp 60,Go.Operand.tmp 70],argTypes:=#[104,38,3,4] },type:=105,pos := "subst.go:89",after:=#[{on:=0,ground:=Go.Ground.data},{on:=1,ground:=Go.Ground.data},{on:=7,ground:=Go.Ground.data},{on:=17,ground:=Go.Ground.data},{on:=13,ground:=Go.Ground.chain}],guard:=none}) rfl (fun K hK=>?_) ?_
          ·go_simp
           ((go_at_call 71;((with_reducible refine Calls.mono CALLA.out ?_);rintro e wn ⟨⟨u,a2,n2,cap2,ok,rfl,hbn,hans⟩,hZ⟩;obtain⟨⟨g0,g1,g2,g3,g4⟩,k0,k1,k2,k3,k4⟩:=And.intro (five_cells hZ) (five_free hZ);have HANS:=Lib.hid hans;clear hans;have hh:=held_call (held_drew (held_alloc hH0 _)) hbn)))
           refine hK.out _ _ ?_ (fun hHeld=>?_)
           ·(try dsimp only)
            (((with_reducible refine held_and2 ?_ d0 hpc);repeat (first | with_reducible assumption | with_reducible exact hH0 | with_reducible refine held_drew ?_ | with_reducible refine held_alloc ?_ _ | ((with_reducible refine held_set ?_ ?hh _);(case hh=>simp)))))
           clear hK K
           (try simp only [Act.put,List.setIfInBounds_toArray,List.set_cons_zero,List.set_cons_succ])
           refine wpAnyH_take (i:=19) (oi:={dst:=some 52,op:=Go.Op.move (Go.Operand.tmp 71),type:=105,pos := "subst.go:89",after:=#[{on:=18,ground:=Go.Ground.data}],guard:=none}) (v:=?_) rfl (by kernel_rfl) (by kernel_rfl) (by kernel_rfl) (fun _ _ _ h=>h) (Or.inl ⟨by rfl,?_⟩) (by assumption) ?_
           rotate_left 1
           ·((intro w hSw;(try dsimp only at hSw);go_simp)<;>with_reducible rfl)
           (try simp only [Act.put,List.setIfInBounds_toArray,List.set_cons_zero,List.set_cons_succ])
           refine wpAnyH_take (i:=20) (oi:={dst:=some 72,op:=Go.Op.extract (Go.Operand.tmp 52) 0,type:=38,pos := "subst.go:89",after:=#[{on:=19,ground:=Go.Ground.data}],guard:=none}) (v:=?_) rfl (by kernel_rfl) (by kernel_rfl) (by kernel_rfl) (fun _ _ _ h=>h) (Or.inl ⟨by rfl,?_⟩) (by assumption) ?_
           rotate_left 1
           ·((intro w hSw;(try dsimp only at hSw);go_simp)<;>with_reducible rfl)
           (try simp only [Act.put,List.setIfInBounds_toArray,List.set_cons_zero,List.set_cons_succ])
           refine wpAnyH_take (i:=21) (oi:={dst:=some 73,op:=Go.Op.extract (Go.Operand.tmp 52) 1,type:=4,pos := "subst.go:89",after:=#[{on:=19,ground:=Go.Ground.data},{on:=23,ground:=Go.Ground.gcOnly Go.Departure.lateStores}],guard:=none}) (v:=?_) rfl (by kernel_rfl) (by kernel_rfl) (by kernel_rfl) (fun _ _ _ h=>h) (Or.inl ⟨by rfl,?_⟩) (by assumption) ?_
           rotate_left 1
           ·((intro w hSw;(try dsimp only at hSw);go_simp)<;>with_reducible rfl)
           (try simp only [Act.put,List.setIfInBounds_toArray,List.set_cons_zero,List.set_cons_succ])
           refine wpAnyH_ready (rs:=[23]) (by kernel_rfl) (by simp) ?_
           refine AllReadyH.cons (o:={dst:=none,op:=Go.Op.store 38 (Go.Operand.tmp 13) (Go.Operand.tmp 72),type:=0,pos := "subst.go:89",after:=#[{on:=22,ground:=Go.Ground.data},{on:=20,ground:=Go.Ground.data},{on:=18,ground:=Go.Ground.chain},{on:=0,ground:=Go.Ground.phase},{on:=1,ground:=Go.Ground.phase},{on:=2,ground:=Go.Ground.phase},{on:=3,ground:=Go.Ground.phase},{on:=4,ground:=Go.Ground.phase},{on:=5,ground:=Go.Ground.phase},{on:=6,ground:=Go.Ground.phase},{on:=7,ground:=Go.Ground.phase},{on:=8,ground:=Go.Ground.phase},{on:=9,ground:=Go.Ground.phase},{on:=10,ground:=Go.Ground.phase},{on:=11,ground:=Go.Ground.phase},{on:=12,ground:=Go.Ground.phase},{on:=13,ground:=Go.Ground.phase},{on:=14,ground:=Go.Ground.phase},{on:=15,ground:=Go.Ground.phase},{on:=16,ground:=Go.Ground.phase},{on:=17,ground:=Go.Ground.phase},{on:=18,ground:=Go.Ground.phase},{on:=19,ground:=Go.Ground.phase},{on:=20,ground:=Go.Ground.phase},{on:=21,ground:=Go.Ground.textOnly Go.Departure.lateStores},{on:=22,ground:=Go.Ground.phase}],guard:=none}) rfl (fun K hK=>?_) ?_
           ·go_simp
            refine hK.out _ _ ?_ (fun hHeld=>?_)
            ·(try dsimp only)
             (((with_reducible refine held_and2 ?_ d0 hpc);repeat (first | with_reducible assumption | with_reducible exact hH0 | with_reducible refine held_drew ?_ | with_reducible refine held_alloc ?_ _ | ((with_reducible refine held_set ?_ ?hh _);(case hh=>simp)))))
            clear hK K
            (try simp only [Act.put,List.setIfInBounds_toArray,List.set_cons_zero,List.set_cons_succ])
            refine wpAnyH_take (i:=24) (oi:={dst:=some 14,op:=Go.Op.assign (Go.Operand.tmp 73),type:=4,pos := "subst.go:89",after:=#[{on:=21,ground:=Go.Ground.data},{on:=23,ground:=Go.Ground.chain},{on:=0,ground:=Go.Ground.phase},{on:=1,ground:=Go.Ground.phase},{on:=2,ground:=Go.Ground.phase},{on:=3,ground:=Go.Ground.phase},{on:=4,ground:=Go.Ground.phase},{on:=5,ground:=Go.Ground.phase},{on:=6,ground:=Go.Ground.phase},{on:=7,ground:=Go.Ground.phase},{on:=8,ground:=Go.Ground.phase},{on:=9,ground:=Go.Ground.phase},{on:=10,ground:=Go.Ground.phase},{on:=11,ground:=Go.Ground.phase},{on:=12,ground:=Go.Ground.phase},{on:=13,ground:=Go.Ground.phase},{on:=14,ground:=Go.Ground.phase},{on:=15,ground:=Go.Ground.phase},{on:=16,ground:=Go.Ground.phase},{on:=17,ground:=Go.Ground.phase},{on:=18,ground:=Go.Ground.phase},{on:=19,ground:=Go.Ground.phase},{on:=20,ground:=Go.Ground.phase},{on:=21,ground:=Go.Ground.phase},{on:=22,ground:=Go.Ground.phase},{on:=23,ground:=Go.Ground.phase}],guard:=none}) (v:=?_) rfl (by kernel_rfl) (by kernel_rfl) (by kernel_rfl) (fun _ _ _ h=>h) (Or.inl ⟨by rfl,?_⟩) (by assumption) ?_
            rotate_left 1
            ·((intro w hSw;(try dsimp only at hSw);go_simp)<;>with_reducible rfl)
            (try simp only [Act.put,List.setIfInBounds_toArray,List.set_cons_zero,List.set_cons_succ])
            refine wpAnyH_done (by kernel_rfl) ?_ _
            rcases HANS.out with ⟨rfl,hr,rfl,hl2⟩ | ⟨rfl,hr⟩
            ·have HFI2:=Lib.hid (HFX.out u hr)
             have hW:Held wr t.kids[q] (.slice a' t.kids[q].kids.length cap') (((((wn.setCell ⟨wr.heap.size+1,0,none⟩ (.int .i64 u.k)).setCell ⟨wr.heap.size+1,1,none⟩ (.int .i64 u.i)).setCell ⟨wr.heap.size+1,2,none⟩ (.int .i64 u.j)).setCell ⟨wr.heap.size+1,3,none⟩ (.int .i64 u.n)).setCell ⟨wr.heap.size+1,4,none⟩ (.slice a2 u.kids.length cap2)):=held_five hh _ _ _ _ _
             have hLW:LiesP (((((wn.setCell ⟨wr.heap.size+1,0,none⟩ (.int .i64 u.k)).setCell ⟨wr.heap.size+1,1,none⟩ (.int .i64 u.i)).setCell ⟨wr.heap.size+1,2,none⟩ (.int .i64 u.j)).setCell ⟨wr.heap.size+1,3,none⟩ (.int .i64 u.n)).setCell ⟨wr.heap.size+1,4,none⟩ (.slice a2 u.kids.length cap2)) (Own wr.heap.size (((((wn.setCell ⟨wr.heap.size+1,0,none⟩ (.int .i64 u.k)).setCell ⟨wr.heap.size+1,1,none⟩ (.int .i64 u.i)).setCell ⟨wr.heap.size+1,2,none⟩ (.int .i64 u.j)).setCell ⟨wr.heap.size+1,3,none⟩ (.int .i64 u.n)).setCell ⟨wr.heap.size+1,4,none⟩ (.slice a2 u.kids.length cap2))) u.kids (.slice a2 u.kids.length cap2):=liesP_five (hl2.from (B':=wr.heap.size+2) (by simp)) _ _ _ _ _
             have hN:(((((wn.setCell ⟨wr.heap.size+1,0,none⟩ (.int .i64 u.k)).setCell ⟨wr.heap.size+1,1,none⟩ (.int .i64 u.i)).setCell ⟨wr.heap.size+1,2,none⟩ (.int .i64 u.j)).setCell ⟨wr.heap.size+1,3,none⟩ (.int .i64 u.n)).setCell ⟨wr.heap.size+1,4,none⟩ (.slice a2 u.kids.length cap2)).heap[wr.heap.size+1]? =some (boxOf u (.slice a2 u.kids.length cap2)):=five_set hZ
             clear hh hbn hl2 hZ g0 g1 g2 g3 g4 k0 k1 k2 k3 k4
             generalize (((((wn.setCell ⟨wr.heap.size+1,0,none⟩ (.int .i64 u.k)).setCell ⟨wr.heap.size+1,1,none⟩ (.int .i64 u.i)).setCell ⟨wr.heap.size+1,2,none⟩ (.int .i64 u.j)).setCell ⟨wr.heap.size+1,3,none⟩ (.int .i64 u.n)).setCell ⟨wr.heap.size+1,4,none⟩ (.slice a2 u.kids.length cap2))=W at hW hLW hN ⊢
             have hdW:=desk_trans hdk (below_from (held_below hW) hsz)
             have hfW:=hfu.later (held_below hW)
             have hxq:q<xs.length:=by rw [HXL.out];exact hlt
             have hLF:=hfu.fresh hsz hLW
             obtain⟨-,-,q2⟩:=desk_blocks hdW
             obtain⟨y0,y1,y2,y3,y4⟩:=five_cells q2
             obtain⟨p0,p1,p2,p3,p4⟩:=five_cells hN
             obtain⟨x0,x1,x2,x3,x4⟩:=hfW.node q hxq
             obtain⟨cs,hcs⟩:=hfW.open'
             have f0:=open_unfrozen hcs (q * 5)
             have f1:=open_unfrozen hcs (q * 5+1)
             have f2:=open_unfrozen hcs (q * 5+2)
             have f3:=open_unfrozen hcs (q * 5+3)
             have f4:=open_unfrozen hcs (q * 5+4)
             have HFW:=Lib.hid hfW
             have HLF:=Lib.hid hLF
             have HFU:=Lib.hid hfu
             clear hcs hN hLW hW hfW hLF hfu d0 d1 d2 d3 d4 z0 z1 z2 z3 z4
             go_wp2
             go_roundw
             case rel=>exact⟨q+1,xs.set q (u,.slice a2 u.kids.length cap2),hlt,by go_num,by simp [Hid,HXL.out],by rw [Hid,optK_next hlt HXS.out hr,List.map_set,take_set_next _ _ _ (by simpa using hxq)],HFW.out.fill hxq HFI2.out HLF.out,desk_put hdW (Nat.le_refl _) _ _ _⟩
             case measure=>simp [intOf];omega
            ·have hW:Held wr t.kids[q] (.slice a' t.kids[q].kids.length cap') (((((wn.setCell ⟨wr.heap.size+1,0,none⟩ (.int .i64 u.k)).setCell ⟨wr.heap.size+1,1,none⟩ (.int .i64 u.i)).setCell ⟨wr.heap.size+1,2,none⟩ (.int .i64 u.j)).setCell ⟨wr.heap.size+1,3,none⟩ (.int .i64 u.n)).setCell ⟨wr.heap.size+1,4,none⟩ (.slice a2 n2 cap2)):=held_five hh _ _ _ _ _
             clear hh hbn hZ g0 g1 g2 g3 g4 k0 k1 k2 k3 k4
             generalize (((((wn.setCell ⟨wr.heap.size+1,0,none⟩ (.int .i64 u.k)).setCell ⟨wr.heap.size+1,1,none⟩ (.int .i64 u.i)).setCell ⟨wr.heap.size+1,2,none⟩ (.int .i64 u.j)).setCell ⟨wr.heap.size+1,3,none⟩ (.int .i64 u.n)).setCell ⟨wr.heap.size+1,4,none⟩ (.slice a2 n2 cap2))=W at hW ⊢
             have hdW:=desk_trans hdk (below_from (held_below hW) hsz)
             obtain⟨-,q1,-⟩:=desk_blocks hdW
             obtain⟨z0,z1,z2,z3,z4⟩:=five_cells q1
             obtain⟨f0,f1,f2,f3,f4⟩:=five_free q1
             go_wp2
             (try simp only [Exit.inBlock,Exit.then])
             refine bodyPost_ret (results_cell_tmp rfl _ _ (w.heap.size+1) _ _ _ du rfl (five_set q1) hu1 (by cases du<;>first | rfl | exact hu2) size_term) rfl ?_
             exact GivesN.wide ⟨((((((desk_under hdW).setCell (by simp) _).setCell (by simp) _).setCell (by simp) _).setCell (by simp) _).setCell (by simp) _),Or.inr ⟨Tm.zero,none,0,0,by rw [HEQ.out,optK_stop hlt hr];rfl,rfl⟩⟩ HBP.out
           exact AllReadyH.nil
          exact AllReadyH.nil
         exact AllReadyH.nil
        refine AllReadyH.cons (o:={dst:=some 13,op:=Go.Op.alloc 38,type:=0,pos := "subst.go:89",after:=#[],guard:=none}) rfl (fun K hK=>?_) ?_
        ·go_simp
         refine hK.out _ _ ?_ (fun hHeld=>?_)
         ·(try dsimp only)
          (((with_reducible refine held_and2 ?_ d0 hpc);repeat (first | with_reducible assumption | with_reducible exact hH0 | with_reducible refine held_drew ?_ | with_reducible refine held_alloc ?_ _ | ((with_reducible refine held_set ?_ ?hh _);(case hh=>simp)))))
         clear hK K
         (try simp only [Act.put,List.setIfInBounds_toArray,List.set_cons_zero,List.set_cons_succ])
         refine wpAnyH_ready (rs:=[6]) (by kernel_rfl) (by simp) ?_
         refine AllReadyH.cons (o:={dst:=some 59,op:=Go.Op.call {callee:=Go.Callee.value (Go.Operand.func 65),args:=#[Go.Operand.tmp 57,Go.Operand.tmp 58],argTypes:=#[3,3] },type:=3,pos := "subst.go:89",after:=#[{on:=4,ground:=Go.Ground.data},{on:=5,ground:=Go.Ground.data}],guard:=none}) rfl (fun K hK=>?_) ?_
         ·go_simp
          ((go_at_call 65;refine(binds_any _ _ _).mono ?_;rintro e w' ⟨rfl,rfl⟩))
          refine hK.out _ _ ?_ (fun hHeld=>?_)
          ·(try dsimp only)
           (((with_reducible refine held_and2 ?_ d0 hpc);repeat (first | with_reducible assumption | with_reducible exact hH0 | with_reducible refine held_drew ?_ | with_reducible refine held_alloc ?_ _ | ((with_reducible refine held_set ?_ ?hh _);(case hh=>simp)))))
          clear hK K
          (try simp only [Act.put,List.setIfInBounds_toArray,List.set_cons_zero,List.set_cons_succ])
          refine wpAnyH_take (i:=7) (oi:={dst:=some 60,op:=Go.Op.binOp Go.BinOp.add 3 (Go.Operand.tmp 55) (Go.Operand.tmp 59) 3,type:=3,pos := "subst.go:89",after:=#[{on:=2,ground:=Go.Ground.data},{on:=6,ground:=Go.Ground.data}],guard:=none}) (v:=?_) rfl (by kernel_rfl) (by kernel_rfl) (by kernel_rfl) (fun _ _ _ h=>h) (Or.inl ⟨by rfl,?_⟩) (by assumption) ?_
          rotate_left 1
          ·((intro w hSw;(try dsimp only at hSw);go_simp)<;>with_reducible rfl)
          (try simp only [Act.put,List.setIfInBounds_toArray,List.set_cons_zero,List.set_cons_succ])
          refine wpAnyH_take (i:=9) (oi:={dst:=some 62,op:=Go.Op.move (Go.Operand.tmp 61),type:=4,pos := "subst.go:89",after:=#[{on:=8,ground:=Go.Ground.data},{on:=6,ground:=Go.Ground.chain}],guard:=none}) (v:=?_) rfl (by kernel_rfl) (by kernel_rfl) (by kernel_rfl) (fun _ _ _ h=>h) (Or.inl ⟨by rfl,?_⟩) (by assumption) ?_
          rotate_left 1
          ·((intro w hSw;(try dsimp only at hSw);go_simp)<;>with_reducible rfl)
          (try simp only [Act.put,List.setIfInBounds_toArray,List.set_cons_zero,List.set_cons_succ])
          refine wpAnyH_take (i:=10) (oi:={dst:=some 63,op:=Go.Op.fieldAddr 38 (Go.Operand.tmp 5) 0,type:=0,pos := "subst.go:89",after:=#[{on:=9,ground:=Go.Ground.guard}],guard:=some (9,false) }) (v:=?_) rfl (by kernel_rfl) (by kernel_rfl) (by kernel_rfl) (fun _ _ _ h=>h) (Or.inl ⟨by rfl,?_⟩) (by assumption) ?_
          rotate_left 1
          ·((intro w hSw;(try dsimp only at hSw);go_simp)<;>with_reducible rfl)
          (try simp only [Act.put,List.setIfInBounds_toArray,List.set_cons_zero,List.set_cons_succ])
          refine wpAnyH_take (i:=11) (oi:={dst:=some 64,op:=Go.Op.load 3 (Go.Operand.tmp 63),type:=3,pos := "subst.go:89",after:=#[{on:=10,ground:=Go.Ground.data},{on:=9,ground:=Go.Ground.guard}],guard:=some (9,false) }) (v:=?_) rfl (by kernel_rfl) (by kernel_rfl) (by kernel_rfl) (fun _ _ _ h=>h) (Or.inl ⟨by rfl,?_⟩) (by assumption) ?_
          rotate_left 1
          ·((intro w hSw;(try dsimp only at hSw);go_simp)<;>with_reducible rfl)
          (try simp only [Act.put,List.setIfInBounds_toArray,List.set_cons_zero,List.set_cons_succ])
          refine wpAnyH_take (i:=12) (oi:={dst:=some 65,op:=Go.Op.binOp Go.BinOp.eql 3 (Go.Operand.tmp 64) (Go.Operand.const (Go.Value.int Go.IntKind.i64 12)) 3,type:=4,pos := "subst.go:89",after:=#[{on:=11,ground:=Go.Ground.data},{on:=9,ground:=Go.Ground.guard}],guard:=some (9,false) }) (v:=?_) rfl (by kernel_rfl) (by kernel_rfl) (by kernel_rfl) (fun _ _ _ h=>h) (Or.inl ⟨by rfl,?_⟩) (by assumption) ?_
          rotate_left 1
          ·((intro w hSw;(try dsimp only at hSw);go_simp)<;>with_reducible rfl)
          (try simp only [Act.put,List.setIfInBounds_toArray,List.set_cons_zero,List.set_cons_succ])
          refine wpAnyH_take (i:=13) (oi:={dst:=some 66,op:=Go.Op.move (Go.Operand.tmp 65),type:=4,pos := "subst.go:89",after:=#[{on:=12,ground:=Go.Ground.data},{on:=9,ground:=Go.Ground.chain},{on:=9,ground:=Go.Ground.guard}],guard:=some (9,false) }) (v:=?_) rfl (by kernel_rfl) (by kernel_rfl) (by kernel_rfl) (fun _ _ _ h=>h) (Or.inl ⟨by rfl,?_⟩) (by assumption) ?_
          rotate_left 1
          ·((intro w hSw;(try dsimp only at hSw);go_simp)<;>with_reducible rfl)
          (try simp only [Act.put,List.setIfInBounds_toArray,List.set_cons_zero,List.set_cons_succ])
          refine wpAnyH_take (i:=14) (oi:={dst:=some 67,op:=Go.Op.move (Go.Operand.tmp 11),type:=3,pos := "subst.go:89",after:=#[{on:=13,ground:=Go.Ground.guard}],guard:=some (13,true) }) (v:=undef) rfl (by kernel_rfl) (by kernel_rfl) (by kernel_rfl) (fun _ _ _ h=>h) (Or.inr ⟨by rfl,rfl⟩) (by assumption) ?_
          (try simp only [Act.put,List.setIfInBounds_toArray,List.set_cons_zero,List.set_cons_succ])
          refine wpAnyH_take (i:=15) (oi:={dst:=some 68,op:=Go.Op.binOp Go.BinOp.eql 3 (Go.Operand.tmp 67) (Go.Operand.const (Go.Value.int Go.IntKind.i64 2)) 3,type:=4,pos := "subst.go:89",after:=#[{on:=14,ground:=Go.Ground.data},{on:=13,ground:=Go.Ground.guard}],guard:=some (13,true) }) (v:=undef) rfl (by kernel_rfl) (by kernel_rfl) (by kernel_rfl) (fun _ _ _ h=>h) (Or.inr ⟨by rfl,rfl⟩) (by assumption) ?_
          (try simp only [Act.put,List.setIfInBounds_toArray,List.set_cons_zero,List.set_cons_succ])
          refine wpAnyH_take (i:=16) (oi:={dst:=some 69,op:=Go.Op.pick (Go.Operand.tmp 66) (Go.Operand.tmp 68) (Go.Operand.const (Go.Value.bool false)),type:=4,pos := "subst.go:89",after:=#[{on:=13,ground:=Go.Ground.data},{on:=15,ground:=Go.Ground.data},{on:=9,ground:=Go.Ground.guard}],guard:=some (9,false) }) (v:=?_) rfl (by kernel_rfl) (by kernel_rfl) (by kernel_rfl) (fun _ _ _ h=>h) (Or.inl ⟨by rfl,?_⟩) (by assumption) ?_
          rotate_left 1
          ·((intro w hSw;(try dsimp only at hSw);go_simp)<;>with_reducible rfl)
          (try simp only [Act.put,List.setIfInBounds_toArray,List.set_cons_zero,List.set_cons_succ])
          refine wpAnyH_take (i:=17) (oi:={dst:=some 70,op:=Go.Op.pick (Go.Operand.tmp 62) (Go.Operand.const (Go.Value.bool true)) (Go.Operand.tmp 69),type:=4,pos := "subst.go:89",after:=#[{on:=9,ground:=Go.Ground.data},{on:=16,ground:=Go.Ground.data}],guard:=none}) (v:=?_) rfl (by kernel_rfl) (by kernel_rfl) (by kernel_rfl) (fun _ _ _ h=>h) (Or.inl ⟨by rfl,?_⟩) (by assumption) ?_
          rotate_left 1
          ·((intro w hSw;(try dsimp only at hSw);go_simp)<;>with_reducible rfl)
          (try simp only [Act.put,List.setIfInBounds_toArray,List.set_cons_zero,List.set_cons_succ])
          refine wpAnyH_ready (rs:=[18]) (by kernel_rfl) (by simp) ?_
          refine AllReadyH.cons (o:={dst:=some 71,op:=Go.Op.call {callee:=Go.Callee.value (Go.Operand.func 71),args:=#[Go.Operand.tmp 53,Go.Operand.tmp 54,Go.Operand.tmp 60,Go.Operand.tmp 70],argTypes:=#[104,38,3,4] },type:=105,pos := "subst.go:89",after:=#[{on:=0,ground:=Go.Ground.data},{on:=1,ground:=Go.Ground.data},{on:=7,ground:=Go.Ground.data},{on:=17,ground:=Go.Ground.data},{on:=13,ground:=Go.Ground.chain}],guard:=none}) rfl (fun K hK=>?_) ?_
          ·go_simp
           ((go_at_call 71;((with_reducible refine Calls.mono CALLA.out ?_);rintro e wn ⟨⟨u,a2,n2,cap2,ok,rfl,hbn,hans⟩,hZ⟩;obtain⟨⟨g0,g1,g2,g3,g4⟩,k0,k1,k2,k3,k4⟩:=And.intro (five_cells hZ) (five_free hZ);have HANS:=Lib.hid hans;clear hans;have hh:=held_call (held_drew (held_alloc hH0 _)) hbn)))
           refine hK.out _ _ ?_ (fun hHeld=>?_)
           ·(try dsimp only)
            (((with_reducible refine held_and2 ?_ d0 hpc);repeat (first | with_reducible assumption | with_reducible exact hH0 | with_reducible refine held_drew ?_ | with_reducible refine held_alloc ?_ _ | ((with_reducible refine held_set ?_ ?hh _);(case hh=>simp)))))
           clear hK K
           (try simp only [Act.put,List.setIfInBounds_toArray,List.set_cons_zero,List.set_cons_succ])
           refine wpAnyH_take (i:=19) (oi:={dst:=some 52,op:=Go.Op.move (Go.Operand.tmp 71),type:=105,pos := "subst.go:89",after:=#[{on:=18,ground:=Go.Ground.data}],guard:=none}) (v:=?_) rfl (by kernel_rfl) (by kernel_rfl) (by kernel_rfl) (fun _ _ _ h=>h) (Or.inl ⟨by rfl,?_⟩) (by assumption) ?_
           rotate_left 1
           ·((intro w hSw;(try dsimp only at hSw);go_simp)<;>with_reducible rfl)
           (try simp only [Act.put,List.setIfInBounds_toArray,List.set_cons_zero,List.set_cons_succ])
           refine wpAnyH_take (i:=20) (oi:={dst:=some 72,op:=Go.Op.extract (Go.Operand.tmp 52) 0,type:=38,pos := "subst.go:89",after:=#[{on:=19,ground:=Go.Ground.data}],guard:=none}) (v:=?_) rfl (by kernel_rfl) (by kernel_rfl) (by kernel_rfl) (fun _ _ _ h=>h) (Or.inl ⟨by rfl,?_⟩) (by assumption) ?_
           rotate_left 1
           ·((intro w hSw;(try dsimp only at hSw);go_simp)<;>with_reducible rfl)
           (try simp only [Act.put,List.setIfInBounds_toArray,List.set_cons_zero,List.set_cons_succ])
           refine wpAnyH_take (i:=21) (oi:={dst:=some 73,op:=Go.Op.extract (Go.Operand.tmp 52) 1,type:=4,pos := "subst.go:89",after:=#[{on:=19,ground:=Go.Ground.data},{on:=23,ground:=Go.Ground.gcOnly Go.Departure.lateStores}],guard:=none}) (v:=?_) rfl (by kernel_rfl) (by kernel_rfl) (by kernel_rfl) (fun _ _ _ h=>h) (Or.inl ⟨by rfl,?_⟩) (by assumption) ?_
           rotate_left 1
           ·((intro w hSw;(try dsimp only at hSw);go_simp)<;>with_reducible rfl)
           (try simp only [Act.put,List.setIfInBounds_toArray,List.set_cons_zero,List.set_cons_succ])
           refine wpAnyH_ready (rs:=[23]) (by kernel_rfl) (by simp) ?_
           refine AllReadyH.cons (o:={dst:=none,op:=Go.Op.store 38 (Go.Operand.tmp 13) (Go.Operand.tmp 72),type:=0,pos := "subst.go:89",after:=#[{on:=22,ground:=Go.Ground.data},{on:=20,ground:=Go.Ground.data},{on:=18,ground:=Go.Ground.chain},{on:=0,ground:=Go.Ground.phase},{on:=1,ground:=Go.Ground.phase},{on:=2,ground:=Go.Ground.phase},{on:=3,ground:=Go.Ground.phase},{on:=4,ground:=Go.Ground.phase},{on:=5,ground:=Go.Ground.phase},{on:=6,ground:=Go.Ground.phase},{on:=7,ground:=Go.Ground.phase},{on:=8,ground:=Go.Ground.phase},{on:=9,ground:=Go.Ground.phase},{on:=10,ground:=Go.Ground.phase},{on:=11,ground:=Go.Ground.phase},{on:=12,ground:=Go.Ground.phase},{on:=13,ground:=Go.Ground.phase},{on:=14,ground:=Go.Ground.phase},{on:=15,ground:=Go.Ground.phase},{on:=16,ground:=Go.Ground.phase},{on:=17,ground:=Go.Ground.phase},{on:=18,ground:=Go.Ground.phase},{on:=19,ground:=Go.Ground.phase},{on:=20,ground:=Go.Ground.phase},{on:=21,ground:=Go.Ground.textOnly Go.Departure.lateStores},{on:=22,ground:=Go.Ground.phase}],guard:=none}) rfl (fun K hK=>?_) ?_
           ·go_simp
            refine hK.out _ _ ?_ (fun hHeld=>?_)
            ·(try dsimp only)
             (((with_reducible refine held_and2 ?_ d0 hpc);repeat (first | with_reducible assumption | with_reducible exact hH0 | with_reducible refine held_drew ?_ | with_reducible refine held_alloc ?_ _ | ((with_reducible refine held_set ?_ ?hh _);(case hh=>simp)))))
            clear hK K
            (try simp only [Act.put,List.setIfInBounds_toArray,List.set_cons_zero,List.set_cons_succ])
            refine wpAnyH_take (i:=24) (oi:={dst:=some 14,op:=Go.Op.assign (Go.Operand.tmp 73),type:=4,pos := "subst.go:89",after:=#[{on:=21,ground:=Go.Ground.data},{on:=23,ground:=Go.Ground.chain},{on:=0,ground:=Go.Ground.phase},{on:=1,ground:=Go.Ground.phase},{on:=2,ground:=Go.Ground.phase},{on:=3,ground:=Go.Ground.phase},{on:=4,ground:=Go.Ground.phase},{on:=5,ground:=Go.Ground.phase},{on:=6,ground:=Go.Ground.phase},{on:=7,ground:=Go.Ground.phase},{on:=8,ground:=Go.Ground.phase},{on:=9,ground:=Go.Ground.phase},{on:=10,ground:=Go.Ground.phase},{on:=11,ground:=Go.Ground.phase},{on:=12,ground:=Go.Ground.phase},{on:=13,ground:=Go.Ground.phase},{on:=14,ground:=Go.Ground.phase},{on:=15,ground:=Go.Ground.phase},{on:=16,ground:=Go.Ground.phase},{on:=17,ground:=Go.Ground.phase},{on:=18,ground:=Go.Ground.phase},{on:=19,ground:=Go.Ground.phase},{on:=20,ground:=Go.Ground.phase},{on:=21,ground:=Go.Ground.phase},{on:=22,ground:=Go.Ground.phase},{on:=23,ground:=Go.Ground.phase}],guard:=none}) (v:=?_) rfl (by kernel_rfl) (by kernel_rfl) (by kernel_rfl) (fun _ _ _ h=>h) (Or.inl ⟨by rfl,?_⟩) (by assumption) ?_
            rotate_left 1
            ·((intro w hSw;(try dsimp only at hSw);go_simp)<;>with_reducible rfl)
            (try simp only [Act.put,List.setIfInBounds_toArray,List.set_cons_zero,List.set_cons_succ])
            refine wpAnyH_done (by kernel_rfl) ?_ _
            rcases HANS.out with ⟨rfl,hr,rfl,hl2⟩ | ⟨rfl,hr⟩
            ·have HFI2:=Lib.hid (HFX.out u hr)
             have hW:Held wr t.kids[q] (.slice a' t.kids[q].kids.length cap') (((((wn.setCell ⟨wr.heap.size+1,0,none⟩ (.int .i64 u.k)).setCell ⟨wr.heap.size+1,1,none⟩ (.int .i64 u.i)).setCell ⟨wr.heap.size+1,2,none⟩ (.int .i64 u.j)).setCell ⟨wr.heap.size+1,3,none⟩ (.int .i64 u.n)).setCell ⟨wr.heap.size+1,4,none⟩ (.slice a2 u.kids.length cap2)):=held_five hh _ _ _ _ _
             have hLW:LiesP (((((wn.setCell ⟨wr.heap.size+1,0,none⟩ (.int .i64 u.k)).setCell ⟨wr.heap.size+1,1,none⟩ (.int .i64 u.i)).setCell ⟨wr.heap.size+1,2,none⟩ (.int .i64 u.j)).setCell ⟨wr.heap.size+1,3,none⟩ (.int .i64 u.n)).setCell ⟨wr.heap.size+1,4,none⟩ (.slice a2 u.kids.length cap2)) (Own wr.heap.size (((((wn.setCell ⟨wr.heap.size+1,0,none⟩ (.int .i64 u.k)).setCell ⟨wr.heap.size+1,1,none⟩ (.int .i64 u.i)).setCell ⟨wr.heap.size+1,2,none⟩ (.int .i64 u.j)).setCell ⟨wr.heap.size+1,3,none⟩ (.int .i64 u.n)).setCell ⟨wr.heap.size+1,4,none⟩ (.slice a2 u.kids.length cap2))) u.kids (.slice a2 u.kids.length cap2):=liesP_five (hl2.from (B':=wr.heap.size+2) (by simp)) _ _ _ _ _
             have hN:(((((wn.setCell ⟨wr.heap.size+1,0,none⟩ (.int .i64 u.k)).setCell ⟨wr.heap.size+1,1,none⟩ (.int .i64 u.i)).setCell ⟨wr.heap.size+1,2,none⟩ (.int .i64 u.j)).setCell ⟨wr.heap.size+1,3,none⟩ (.int .i64 u.n)).setCell ⟨wr.heap.size+1,4,none⟩ (.slice a2 u.kids.length cap2)).heap[wr.heap.size+1]? =some (boxOf u (.slice a2 u.kids.length cap2)):=five_set hZ
             clear hh hbn hl2 hZ g0 g1 g2 g3 g4 k0 k1 k2 k3 k4
             generalize (((((wn.setCell ⟨wr.heap.size+1,0,none⟩ (.int .i64 u.k)).setCell ⟨wr.heap.size+1,1,none⟩ (.int .i64 u.i)).setCell ⟨wr.heap.size+1,2,none⟩ (.int .i64 u.j)).setCell ⟨wr.heap.size+1,3,none⟩ (.int .i64 u.n)).setCell ⟨wr.heap.size+1,4,none⟩ (.slice a2 u.kids.length cap2))=W at hW hLW hN ⊢
             have hdW:=desk_trans hdk (below_from (held_below hW) hsz)
             have hfW:=hfu.later (held_below hW)
             have hxq:q<xs.length:=by rw [HXL.out];exact hlt
             have hLF:=hfu.fresh hsz hLW
             obtain⟨-,-,q2⟩:=desk_blocks hdW
             obtain⟨y0,y1,y2,y3,y4⟩:=five_cells q2
             obtain⟨p0,p1,p2,p3,p4⟩:=five_cells hN
             obtain⟨x0,x1,x2,x3,x4⟩:=hfW.node q hxq
             obtain⟨cs,hcs⟩:=hfW.open'
             have f0:=open_unfrozen hcs (q * 5)
             have f1:=open_unfrozen hcs (q * 5+1)
             have f2:=open_unfrozen hcs (q * 5+2)
             have f3:=open_unfrozen hcs (q * 5+3)
             have f4:=open_unfrozen hcs (q * 5+4)
             have HFW:=Lib.hid hfW
             have HLF:=Lib.hid hLF
             have HFU:=Lib.hid hfu
             clear hcs hN hLW hW hfW hLF hfu d0 d1 d2 d3 d4 z0 z1 z2 z3 z4
             go_wp2
             go_roundw
             case rel=>exact⟨q+1,xs.set q (u,.slice a2 u.kids.length cap2),hlt,by go_num,by simp [Hid,HXL.out],by rw [Hid,optK_next hlt HXS.out hr,List.map_set,take_set_next _ _ _ (by simpa using hxq)],HFW.out.fill hxq HFI2.out HLF.out,desk_put hdW (Nat.le_refl _) _ _ _⟩
             case measure=>simp [intOf];omega
            ·have hW:Held wr t.kids[q] (.slice a' t.kids[q].kids.length cap') (((((wn.setCell ⟨wr.heap.size+1,0,none⟩ (.int .i64 u.k)).setCell ⟨wr.heap.size+1,1,none⟩ (.int .i64 u.i)).setCell ⟨wr.heap.size+1,2,none⟩ (.int .i64 u.j)).setCell ⟨wr.heap.size+1,3,none⟩ (.int .i64 u.n)).setCell ⟨wr.heap.size+1,4,none⟩ (.slice a2 n2 cap2)):=held_five hh _ _ _ _ _
             clear hh hbn hZ g0 g1 g2 g3 g4 k0 k1 k2 k3 k4
             generalize (((((wn.setCell ⟨wr.heap.size+1,0,none⟩ (.int .i64 u.k)).setCell ⟨wr.heap.size+1,1,none⟩ (.int .i64 u.i)).setCell ⟨wr.heap.size+1,2,none⟩ (.int .i64 u.j)).setCell ⟨wr.heap.size+1,3,none⟩ (.int .i64 u.n)).setCell ⟨wr.heap.size+1,4,none⟩ (.slice a2 n2 cap2))=W at hW ⊢
             have hdW:=desk_trans hdk (below_from (held_below hW) hsz)
             obtain⟨-,q1,-⟩:=desk_blocks hdW
             obtain⟨z0,z1,z2,z3,z4⟩:=five_cells q1
             obtain⟨f0,f1,f2,f3,f4⟩:=five_free q1
             go_wp2
             (try simp only [Exit.inBlock,Exit.then])
             refine bodyPost_ret (results_cell_tmp rfl _ _ (w.heap.size+1) _ _ _ du rfl (five_set q1) hu1 (by cases du<;>first | rfl | exact hu2) size_term) rfl ?_
             exact GivesN.wide ⟨((((((desk_under hdW).setCell (by simp) _).setCell (by simp) _).setCell (by simp) _).setCell (by simp) _).setCell (by simp) _),Or.inr ⟨Tm.zero,none,0,0,by rw [HEQ.out,optK_stop hlt hr];rfl,rfl⟩⟩ HBP.out
           exact AllReadyH.nil
          exact AllReadyH.nil
         exact AllReadyH.nil
        exact AllReadyH.nil
     ·have:q=t.kids.length:=by omega
      subst this
      go_wp2_with fail
      (try simp only [Exit.inBlock,Exit.then])
      refine bodyPost_ret (results_cell_tmp rfl _ _ (w.heap.size+1) _ _ _ du rfl (five_set q1) hu1 (by cases du<;>first | rfl | exact hu2) size_term) rfl ?_
      have hxe:(xs.map (·.1)).take t.kids.length=xs.map (·.1):=by rw [←HXL.out,←List.length_map (f:=(·.1)),List.take_length]
      have hres:t.putG g b pl=some (.mk t.k t.i t.j t.n (xs.map (·.1))):=by
       have:=HXS.out
       rw [List.take_length,hxe] at this
       rw [HEQ.out,this];rfl
      refine GivesN.wide ⟨((((((desk_under hdk).setCell (by simp) _).setCell (by simp) _).setCell (by simp) _).setCell (by simp) _).setCell (by simp) _),Or.inl ⟨_,_,hres,rfl,?_⟩⟩ HBP.out
      refine five_lies (hfu.lies (cap:=t.kids.length) (by rw [HXL.out];exact Nat.le_refl _) (by unfold maxLen;omega)) HXL.out _ _ _ _ _
end Go.Proofs.Ytgnllglbopaheaa

namespace Go.Proofs.Ytgnllglbopaheaa
open Go.RowKit
theorem kept_set_ {v w:World} {p:Addr} (h:Kept v w) (hp:v.heap.size≤p.block) (x:Value):Kept v (w.setCell p x):=Below.setCell h hp x
theorem gPut_fine {u:Tm} (hu:u.rightB=true):∀ v b pl x,0≤v→v≤2147483647→0≤b→gPut u v b pl=some x→x.fine:=by
 intro v b pl x h0 h1 hb hx
 unfold gPut at hx
 split at hx
 ·cases hx;exact right_fine (var_right h0 h1).2.2
 ·split at hx
  ·exact right_fine (right_each _ (liftF_range b 0 hb) _ 0 x (bareIf_right hu pl) hx)
  ·cases hx;exact right_fine (var_right (by omega) (by omega)).2.2
theorem kept_tp {w w':World} {b0:Nat} {v00 v01 v02 v03 v04 v:Value} {p:Addr} (h:Kept w w') (H:w.cell? ⟨b0,0,none⟩=some v00∧w.cell? ⟨b0,1,none⟩=some v01∧w.cell? ⟨b0,2,none⟩=some v02∧w.cell? ⟨b0,3,none⟩=some v03∧w.cell? ⟨b0,4,none⟩=some v04) (hp:w.cell? p=some v):Kept w w'∧w'.cell? ⟨b0,0,none⟩=some v00∧w'.cell? ⟨b0,1,none⟩=some v01∧w'.cell? ⟨b0,2,none⟩=some v02∧w'.cell? ⟨b0,3,none⟩=some v03∧w'.cell? ⟨b0,4,none⟩=some v04∧w'.cell? p=some v:=by
 obtain⟨c00,c01,c02,c03,c04⟩:=H
 exact⟨h,cell_lat h c00,cell_lat h c01,cell_lat h c02,cell_lat h c03,cell_lat h c04,cell_lat h hp⟩
def PutI (u:Tm) (bv:Nat) (a1 a2:Option Addr) (p1 p2:Nat) (w:World):Prop:=(∃ fr,w.heap[bv]? =some (.cells #[.int .i64 u.k,.int .i64 u.i,.int .i64 u.j,.int .i64 u.n,.slice a1 u.kids.length p1,.int .i64 u.bare.k,.int .i64 u.bare.i,.int .i64 u.bare.j,.int .i64 u.bare.n,.slice a2 u.bare.kids.length p2] 101 fr)) ∧
 Lies w u.kids (.slice a1 u.kids.length p1)∧Lies w u.bare.kids (.slice a2 u.bare.kids.length p2)
theorem putI_later (u:Tm) (bv:Nat) (a1 a2:Option Addr) (p1 p2:Nat):∀ w w':World,PutI u bv a1 a2 p1 p2 w→Below w.heap.size w w'→PutI u bv a1 a2 p1 p2 w':=by
 rintro w w' ⟨⟨fr,h⟩,h1,h2⟩ hb
 exact⟨⟨fr,keep_block hb (block_lt h) h⟩,h1.keep hb,h2.keep hb⟩
theorem put_in {u:Tm} (hu:u.rightB=true) (hd:u.deep≤100000) (bv:Nat) (a1 a2:Option Addr) (p1 p2:Nat) (t:Tm) (pl:Bool) (w:World) (s:Value) (hl:Lies w t.kids s) (hr:t.rightB=true) (hdt:t.deep≤100000) (hI:PutI u bv a1 a2 p1 p2 w) :
 Calls Try.prog 71 #[.agg #[.func (.func 70) #[] #[.pointer (some ⟨bv,0,none⟩)]],tv t s,.int .i64 0,.bool pl] w (GivesY (t.putG (gPut u) 0 pl) w) :=
 (in_any (gPut u) 70 bv (PutI u bv a1 a2 p1 p2) (putI_later u bv a1 a2 p1 p2) (fun v b pl w hI h0 h1 hb0 hb1=>by obtain⟨⟨fr,h⟩,h3,h4⟩:=hI;exact variable_put u hu hd bv a1 a2 p1 p2 fr v b pl w h0 h1 hb0 hb1 h h3 h4) (gPut_fine hu) t 0 pl w s hl hr (Int.le_refl _) (by omega) hI).mono fun e w' h=>h.ans
set_option maxRecDepth 20000 in
set_option maxHeartbeats 4000000 in
theorem put_any (t u:Tm) (w:World) (s r:Value) (hl:Lies w t.kids s) (hm:Lies w u.kids r) (hdt:t.deep≤100000) (hdu:u.deep≤100000):Calls Try.prog 59 #[tv t s,tv u r] w (Makes (t.putB u) w):=by
 obtain⟨a,cap,S,rfl,-⟩:=hl.out
 obtain⟨a2,cap2,S2,rfl,-⟩:=hm.out
 obtain⟨du,hu1,hu2⟩:=under_term
 have hb3:=below_three w (.cells #[.int .i64 t.k,.int .i64 t.i,.int .i64 t.j,.int .i64 t.n,.slice a t.kids.length cap] 38) (.cells #[.int .i64 u.k,.int .i64 u.i,.int .i64 u.j,.int .i64 u.n,.slice a2 u.kids.length cap2] 38) (.cells #[.int .i64 0,.int .i64 0,.int .i64 0,.int .i64 0,.slice none 0 0] 38)
 obtain⟨q0,q1,q2,-⟩:=heap_three w (.cells #[.int .i64 t.k,.int .i64 t.i,.int .i64 t.j,.int .i64 t.n,.slice a t.kids.length cap] 38) (.cells #[.int .i64 u.k,.int .i64 u.i,.int .i64 u.j,.int .i64 u.n,.slice a2 u.kids.length cap2] 38) (.cells #[.int .i64 0,.int .i64 0,.int .i64 0,.int .i64 0,.slice none 0 0] 38)
 have HL:=Lib.hid (hl.keep hb3)
 have HM:=Lib.hid (hm.keep hb3)
 clear hl hm
 unfold tv
 cases h1:t.rightB with
 | false =>
  have HR:=Lib.hid (show t.putB u=.zero by unfold Tm.putB;rw [if_neg (by rw [h1];simp)])
  go_enter Try.func59,Try.ntmps59
  go_wp2_with fail
  refine(right_any t _ _ HL.out).mono ?_
  rw [h1]
  rintro e w1 ⟨rfl,hb1⟩
  have t2:=keep_block hb1 (block_lt q2) q2
  obtain⟨z0,z1,z2,z3,z4⟩:=five_cells t2
  obtain⟨f0,f1,f2,f3,f4⟩:=five_free t2
  have HB:=Lib.hid (hb3.trans (hb1.mono hb3.size))
  clear hb1 q0 q1 q2 hb3
  go_wp2
  (try simp only [Exit.inBlock,Exit.then])
  refine bodyPost_ret (results_cell_row rfl _ _ (w.heap.size+1+1) _ _ _ du rfl (five_set t2) hu1 (by cases du<;>first | rfl | exact hu2) size_term) rfl ?_
  rw [HR.out]
  exact⟨.slice none 0 0,rfl,liesP_nil _ _,below_five HB.out (by omega) _ _ _ _ _⟩
 | true =>
 have hfm:=fits_may u h1
 cases h2:fitsB t u with
 | false =>
  have HR:=Lib.hid (show t.putB u=.zero by unfold Tm.putB;rw [if_neg (by rw [←hfm,h2];simp)])
  clear hfm
  go_enter Try.func59,Try.ntmps59
  go_wp2_with fail
  refine(right_any t _ _ HL.out).mono ?_
  rw [h1]
  rintro e w1 ⟨rfl,hb1⟩
  have t0:=keep_block hb1 (block_lt q0) q0
  have t1:=keep_block hb1 (block_lt q1) q1
  have t2:=keep_block hb1 (block_lt q2) q2
  obtain⟨d0,d1,d2,d3,d4⟩:=five_cells t0
  obtain⟨c0,c1,c2,c3,c4⟩:=five_cells t1
  have HB:=hb3.trans (hb1.mono hb3.size)
  go_wp2_with fail
  refine(fits_any t u _ _ _ (HL.out.keep hb1) (HM.out.keep hb1)).mono ?_
  rw [h2]
  rintro e w2 ⟨rfl,hb2⟩
  have t3:=keep_block hb2 (block_lt t2) t2
  obtain⟨z0,z1,z2,z3,z4⟩:=five_cells t3
  obtain⟨f0,f1,f2,f3,f4⟩:=five_free t3
  have HB2:=Lib.hid (HB.trans (hb2.mono HB.size))
  clear hb1 hb2 q0 q1 q2 hb3 HB t0 t1 t2 d0 d1 d2 d3 d4 c0 c1 c2 c3 c4
  go_wp2
  (try simp only [Exit.inBlock,Exit.then])
  refine bodyPost_ret (results_cell_row rfl _ _ (w.heap.size+1+1) _ _ _ du rfl (five_set t3) hu1 (by cases du<;>first | rfl | exact hu2) size_term) rfl ?_
  rw [HR.out]
  exact⟨.slice none 0 0,rfl,liesP_nil _ _,below_five HB2.out (by omega) _ _ _ _ _⟩
 | true =>
 have hmy:mayB t u=true:=hfm.symm.trans h2
 have hur:=may_right hmy
 have HR:=Lib.hid (show t.putB u=(t.putG (gPut u) 0 (decide (12<t.k))).getD .zero by unfold Tm.putB;rw [if_pos ⟨h1,hmy⟩])
 have HUR:=Lib.hid hur
 have HSB:=Lib.hid (stripB_good hur)
 clear hfm hmy hur
 go_enter Try.func59,Try.ntmps59
 go_wp2_with fail
 refine(right_any t _ _ HL.out).mono ?_
 rw [h1]
 rintro e w1 ⟨rfl,hb1⟩
 have t0:=keep_block hb1 (block_lt q0) q0
 have t1:=keep_block hb1 (block_lt q1) q1
 have t2:=keep_block hb1 (block_lt q2) q2
 obtain⟨d0,d1,d2,d3,d4⟩:=five_cells t0
 obtain⟨c0,c1,c2,c3,c4⟩:=five_cells t1
 have HB:=hb3.trans (hb1.mono hb3.size)
 go_wp2_with fail
 refine(fits_any t u _ _ _ (HL.out.keep hb1) (HM.out.keep hb1)).mono ?_
 rw [h2]
 rintro e v0 ⟨rfl,hb2⟩
 have r0:=keep_block hb2 (block_lt t0) t0
 have r1:=keep_block hb2 (block_lt t1) t1
 have r2:=keep_block hb2 (block_lt t2) t2
 have HB0:=Lib.hid (HB.trans (hb2.mono HB.size))
 have HLT:=Lib.hid ((HL.out.keep hb1).keep hb2)
 have HLU:=Lib.hid ((HM.out.keep hb1).keep hb2)
 have HCT:=Lib.hid (five_cells r0)
 have HCU:=Lib.hid (five_cells r1)
 have HQ2:=Lib.hid r2
 have hN2:w.heap.size+1+1<v0.heap.size:=block_lt r2
 have hN1:w.heap.size+1<v0.heap.size:=by omega
 have hN0:w.heap.size<v0.heap.size:=by omega
 have hK0:=kept_start v0
 clear hb1 hb2 q0 q1 q2 hb3 HB t0 t1 t2 d0 d1 d2 d3 d4 c0 c1 c2 c3 c4 r0 r2
 obtain⟨c0,c1,c2,c3,c4⟩:=five_cells r1
 clear r1
 have hcall:∀ w',Kept v0 w'→Calls Try.prog 69 #[tv u (.slice a2 u.kids.length cap2)] w' (Makes u.bare w'):=fun w' h=>by
  have:=strip_any u w' _ (kept_lies h HLU.out)
  rw [HSB.out] at this;exact this
 have CALLB:=Lib.hid (hcall v0.drew (kept_drew hK0))
 have CALLA:=Lib.hid ((hcall (v0.alloc (.cells #[.int .i64 0,.int .i64 0,.int .i64 0,.int .i64 0,.slice none 0 0,.int .i64 0,.int .i64 0,.int .i64 0,.int .i64 0,.slice none 0 0] 101)).drew (kept_drew (kept_alloc hK0 _))).mono fun e w'' h=>And.intro h (show w''.heap[v0.heap.size]? =some (.cells #[.int .i64 0,.int .i64 0,.int .i64 0,.int .i64 0,.slice none 0 0,.int .i64 0,.int .i64 0,.int .i64 0,.int .i64 0,.slice none 0 0] 101) by
  obtain⟨s',-,-,hb⟩:=h
  exact keep_block hb (by show v0.heap.size<(v0.alloc (.cells #[.int .i64 0,.int .i64 0,.int .i64 0,.int .i64 0,.slice none 0 0,.int .i64 0,.int .i64 0,.int .i64 0,.int .i64 0,.slice none 0 0] 101)).heap.size;simp) (alloc_new v0 (.cells #[.int .i64 0,.int .i64 0,.int .i64 0,.int .i64 0,.slice none 0 0,.int .i64 0,.int .i64 0,.int .i64 0,.int .i64 0,.slice none 0 0] 101))))
 clear hcall
 go_wp2_with fail
 go_region_held3 (fun w'=>Kept v0 w'∧w'.cell? ⟨w.heap.size+1,0,none⟩=some (.int .i64 u.k)∧w'.cell? ⟨w.heap.size+1,1,none⟩=some (.int .i64 u.i)∧w'.cell? ⟨w.heap.size+1,2,none⟩=some (.int .i64 u.j)∧w'.cell? ⟨w.heap.size+1,3,none⟩=some (.int .i64 u.n)∧w'.cell? ⟨w.heap.size+1,4,none⟩=some (.slice a2 u.kids.length cap2))
  (((with_reducible refine kept_boxes1 ?_ HCU.out);repeat (first | with_reducible assumption | with_reducible exact hK0 | with_reducible refine kept_drew ?_ | with_reducible refine kept_alloc ?_ _ | ((with_reducible refine kept_set_ ?_ ?hh _);(case hh=>simp)))))
  (first | (go_at_call 69;((with_reducible refine Calls.mono CALLB.out ?_);rintro e wn ⟨s8,rfl,hl8,hbn⟩;obtain⟨a8,cap8,rfl,-,-⟩:=hl8.out;have HL8:=Lib.hid hl8;clear hl8;have hh:=kept_call (kept_drew hK0) hbn;obtain⟨-,m0,m1,m2,m3,m4⟩:=kept_boxes1 hh HCU.out)) | (go_at_call 69;((with_reducible refine Calls.mono CALLA.out ?_);rintro e wn ⟨⟨s8,rfl,hl8,hbn⟩,hZ⟩;obtain⟨a8,cap8,rfl,-,-⟩:=hl8.out;have HL8:=Lib.hid hl8;clear hl8;obtain⟨g0,g1,g2,g3,g4,g5,g6,g7,g8,g9⟩:=ten_cells hZ;have k0:=ten_free hZ 0;have k1:=ten_free hZ 1;have k2:=ten_free hZ 2;have k3:=ten_free hZ 3;have k4:=ten_free hZ 4;have k5:=ten_free hZ 5;have k6:=ten_free hZ 6;have k7:=ten_free hZ 7;have k8:=ten_free hZ 8;have k9:=ten_free hZ 9;have hh:=kept_call (kept_drew (kept_alloc hK0 _)) hbn;obtain⟨-,m0,m1,m2,m3,m4⟩:=kept_boxes1 hh HCU.out)))
 ·have hKW:Kept v0 (wn.alloc (.cells #[.int .i64 u.k,.int .i64 u.i,.int .i64 u.j,.int .i64 u.n,.slice a2 u.kids.length cap2,.int .i64 u.bare.k,.int .i64 u.bare.i,.int .i64 u.bare.j,.int .i64 u.bare.n,.slice a8 u.bare.kids.length cap8] 101)):=kept_alloc hh _
  have hV:(wn.alloc (.cells #[.int .i64 u.k,.int .i64 u.i,.int .i64 u.j,.int .i64 u.n,.slice a2 u.kids.length cap2,.int .i64 u.bare.k,.int .i64 u.bare.i,.int .i64 u.bare.j,.int .i64 u.bare.n,.slice a8 u.bare.kids.length cap8] 101)).heap[wn.heap.size]? =some (.cells #[.int .i64 u.k,.int .i64 u.i,.int .i64 u.j,.int .i64 u.n,.slice a2 u.kids.length cap2,.int .i64 u.bare.k,.int .i64 u.bare.i,.int .i64 u.bare.j,.int .i64 u.bare.n,.slice a8 u.bare.kids.length cap8] 101):=alloc_new _ _
  have hLB:Lies (wn.alloc (.cells #[.int .i64 u.k,.int .i64 u.i,.int .i64 u.j,.int .i64 u.n,.slice a2 u.kids.length cap2,.int .i64 u.bare.k,.int .i64 u.bare.i,.int .i64 u.bare.j,.int .i64 u.bare.n,.slice a8 u.bare.kids.length cap8] 101)) u.bare.kids (.slice a8 u.bare.kids.length cap8):=HL8.out.lies.keep ((Below.refl _ _).alloc (Nat.le_refl _) _)
  have hbv:v0.heap.size≤wn.heap.size:=Below.size hh
  clear hh hbn HL8
  generalize (wn.alloc (.cells #[.int .i64 u.k,.int .i64 u.i,.int .i64 u.j,.int .i64 u.n,.slice a2 u.kids.length cap2,.int .i64 u.bare.k,.int .i64 u.bare.i,.int .i64 u.bare.j,.int .i64 u.bare.n,.slice a8 u.bare.kids.length cap8] 101))=W at hKW hV hLB ⊢
  generalize wn.heap.size=bv at hV hbv ⊢
  have hI:PutI u bv a2 a8 cap2 cap8 W:=⟨⟨_,hV⟩,kept_lies hKW HLU.out,hLB⟩
  have hb1:Below W.heap.size W (W.alloc (.cells #[.func (.func 70) #[] #[.pointer (some ⟨bv,0,none⟩)]] 104)):=(Below.refl _ _).alloc (Nat.le_refl _) _
  have hI1:=putI_later u bv a2 a8 cap2 cap8 _ _ hI hb1
  have hKV:Kept v0 (W.alloc (.cells #[.func (.func 70) #[] #[.pointer (some ⟨bv,0,none⟩)]] 104)):=kept_alloc hKW _
  have hpc:(W.alloc (.cells #[.func (.func 70) #[] #[.pointer (some ⟨bv,0,none⟩)]] 104)).cell? ⟨W.heap.size,0,none⟩=some (.func (.func 70) #[] #[.pointer (some ⟨bv,0,none⟩)]):=by rw [World.cell?_alloc_at _ _ _ _ rfl];rfl
  have hpl:W.heap.size<(W.alloc (.cells #[.func (.func 70) #[] #[.pointer (some ⟨bv,0,none⟩)]] 104)).heap.size:=by simp
  obtain⟨-,m0,m1,m2,m3,m4⟩:=kept_boxes1 hKW HCT.out
  clear hI hV hLB hb1
  go_wp2_with fail
  clear m0 m1 m2 m3 m4
  generalize W.alloc (.cells #[.func (.func 70) #[] #[.pointer (some ⟨bv,0,none⟩)]] 104)=v1 at hI1 hKV hpc hpl ⊢
  generalize W.heap.size=pv at hpc hpl ⊢
  have HCT1:=Lib.hid (kept_boxes1 hKV HCT.out).2
  have HPC:=Lib.hid hpc
  obtain⟨d0,d1,d2,d3,d4⟩:=HCT1.out
  have hK1:=kept_start v1
  have HQ3:=Lib.hid (keep_block hKV (block_lt HQ2.out) HQ2.out)
  have hv01:v0.heap.size≤v1.heap.size:=Below.size hKV
  have HB1:=Lib.hid (HB0.out.trans (Below.mono hKV HB0.out.size))
  have HI1:=Lib.hid hI1
  have HLT1:=Lib.hid (kept_lies hKV HLT.out)
  have CIN:Hid (∀ w',Kept v1 w'→Calls Try.prog 71 #[.agg #[.func (.func 70) #[] #[.pointer (some ⟨bv,0,none⟩)]],tv t (.slice a t.kids.length cap),.int .i64 0,.bool (decide (12<t.k))] w' (GivesY (t.putG (gPut u) 0 (decide (12<t.k))) w')):=fun w' h=>put_in HUR.out hdu bv a2 a8 cap2 cap8 t _ w' _ (kept_lies h HLT1.out) h1 hdt (putI_later u bv a2 a8 cap2 cap8 _ _ HI1.out h)
  have hN2':w.heap.size+1+1<v1.heap.size:=by omega
  clear hI1 hKV hpc hKW
  go_region_held3 (fun w'=>Kept v1 w'∧w'.cell? ⟨w.heap.size,0,none⟩=some (.int .i64 t.k)∧w'.cell? ⟨w.heap.size,1,none⟩=some (.int .i64 t.i)∧w'.cell? ⟨w.heap.size,2,none⟩=some (.int .i64 t.j)∧w'.cell? ⟨w.heap.size,3,none⟩=some (.int .i64 t.n)∧w'.cell? ⟨w.heap.size,4,none⟩=some (.slice a t.kids.length cap)∧w'.cell? ⟨pv,0,none⟩=some (.func (.func 70) #[] #[.pointer (some ⟨bv,0,none⟩)]))
   (((with_reducible refine kept_tp ?_ HCT1.out HPC.out);repeat (first | with_reducible assumption | with_reducible exact hK1 | with_reducible refine kept_drew ?_ | with_reducible refine kept_alloc ?_ _ | ((with_reducible refine kept_set_ ?_ ?hh _);(case hh=>simp [*])))))
   (first | (go_at_call 71;have mk0:=HZA.out;have hS:=(‹Kept v1 _∧_›).1;((with_reducible refine Calls.mono (CIN.out _ hS) ?_);rintro e wm ⟨y,ay,ny,cy,ok,rfl,hbn,hans⟩;have HANS:=Lib.hid hans;have hzm:=keep_block hbn (block_lt mk0) mk0;obtain⟨e0,e1,e2,e3,e4⟩:=five_cells hzm;obtain⟨b0,b1,b2,b3,b4⟩:=five_free hzm;have hsm:v1.heap.size≤wm.heap.size:=Nat.le_of_lt (block_lt hzm);have hbe:v1.heap.size+1≤_:=block_lt mk0;have HBE:=Lib.hid hbe;clear hans hbe;have hh:=kept_call hS hbn)) | (go_at_call 71;have mk0:=HPB.out;((with_reducible refine Calls.mono (CIN.out (wp.alloc zeroObj) (kept_alloc mk0 _)) ?_);rintro e wm ⟨y,ay,ny,cy,ok,rfl,hbn,hans⟩;have HANS:=Lib.hid hans;have hzm:=keep_block hbn (block_lt (alloc_new wp zeroObj)) (alloc_new wp zeroObj);obtain⟨e0,e1,e2,e3,e4⟩:=five_cells hzm;obtain⟨b0,b1,b2,b3,b4⟩:=five_free hzm;have hvp:v1.heap.size≤wp.heap.size:=Below.size mk0;clear hans;have hh:=kept_call (kept_alloc mk0 _) hbn)) | (go_at_call 71;have mk0:=HPB.out;have hS:=(‹Kept v1 _∧_›).1;((with_reducible refine Calls.mono (CIN.out wp hS) ?_);rintro e wm ⟨y,ay,ny,cy,ok,rfl,hbn,hans⟩;have HANS:=Lib.hid hans;have hvp:v1.heap.size≤wp.heap.size:=Below.size mk0;clear hans;have hh:=kept_call hS hbn)) | (go_at_call 72;((with_reducible refine Calls.mono (plainPlace_any t (v1.alloc zeroObj).drew _) ?_);rintro e wp ⟨rfl,hbp⟩;have HZA:=Lib.hid (keep_block hbp (block_lt (alloc_new v1 zeroObj)) (alloc_new v1 zeroObj));have hh:=kept_call (kept_drew (kept_alloc hK1 zeroObj)) hbp)) | (go_at_call 72;((with_reducible refine Calls.mono (plainPlace_any t v1.drew _) ?_);rintro e wp ⟨rfl,hbp⟩;have hh:=kept_call (kept_drew hK1) hbp;have HPB:=Lib.hid hh)))
  ·rcases HANS.out with ⟨rfl,hr,rfl,hly⟩ | ⟨rfl,hr⟩
   ·have q5:(wm.alloc (.cells #[.int .i64 y.k,.int .i64 y.i,.int .i64 y.j,.int .i64 y.n,.slice ay y.kids.length cy] 38)).heap[wm.heap.size]? =some (.cells #[.int .i64 y.k,.int .i64 y.i,.int .i64 y.j,.int .i64 y.n,.slice ay y.kids.length cy] 38):=alloc_new _ _
    have hK5:Kept v1 (wm.alloc (.cells #[.int .i64 y.k,.int .i64 y.i,.int .i64 y.j,.int .i64 y.n,.slice ay y.kids.length cy] 38)):=kept_alloc hh _
    have hl5:LiesP (wm.alloc (.cells #[.int .i64 y.k,.int .i64 y.i,.int .i64 y.j,.int .i64 y.n,.slice ay y.kids.length cy] 38)) (Own v0.heap.size (wm.alloc (.cells #[.int .i64 y.k,.int .i64 y.i,.int .i64 y.j,.int .i64 y.n,.slice ay y.kids.length cy] 38))) y.kids (.slice ay y.kids.length cy):=(hly.from (by omega)).later ((Below.refl _ _).alloc (Nat.le_refl _) _)
    have z5:=keep_block hK5 (block_lt HQ3.out) HQ3.out
    have hB5:=HB1.out.trans (Below.mono hK5 HB1.out.size)
    generalize (wm.alloc (.cells #[.int .i64 y.k,.int .i64 y.i,.int .i64 y.j,.int .i64 y.n,.slice ay y.kids.length cy] 38))=W5 at q5 hl5 z5 hB5 ⊢
    clear hK5
    obtain⟨x0,x1,x2,x3,x4⟩:=five_cells q5
    obtain⟨z0,z1,z2,z3,z4⟩:=five_cells z5
    obtain⟨f0,f1,f2,f3,f4⟩:=five_free z5
    have HB5:=Lib.hid hB5
    have HL5:=Lib.hid hl5
    clear hl5 hly
    have HR5:=Lib.hid (HR.out.trans (congrArg (fun o=>Option.getD o .zero) hr))
    clear hB5 q5 hr hh hbn
    go_wp2
    (try simp only [Exit.inBlock,Exit.then])
    refine bodyPost_ret (results_cell_row rfl _ _ (w.heap.size+1+1) _ _ _ du rfl (five_set z5) hu1 (by cases du<;>first | rfl | exact hu2) size_term) rfl ?_
    rw [HR5.out]
    exact⟨_,rfl,liesP_fives HL5.out (by omega) (by omega) _ _ _ _ _,below_five HB5.out (by omega) _ _ _ _ _⟩
   ·have q5:(wm.alloc (.cells #[.int .i64 y.k,.int .i64 y.i,.int .i64 y.j,.int .i64 y.n,.slice ay ny cy] 38)).heap[wm.heap.size]? =some (.cells #[.int .i64 y.k,.int .i64 y.i,.int .i64 y.j,.int .i64 y.n,.slice ay ny cy] 38):=alloc_new _ _
    have hK5:Kept v1 (wm.alloc (.cells #[.int .i64 y.k,.int .i64 y.i,.int .i64 y.j,.int .i64 y.n,.slice ay ny cy] 38)):=kept_alloc hh _
    have z5:=keep_block hK5 (block_lt HQ3.out) HQ3.out
    have hB5:=HB1.out.trans (Below.mono hK5 HB1.out.size)
    generalize (wm.alloc (.cells #[.int .i64 y.k,.int .i64 y.i,.int .i64 y.j,.int .i64 y.n,.slice ay ny cy] 38))=W5 at q5 z5 hB5 ⊢
    clear hK5
    obtain⟨x0,x1,x2,x3,x4⟩:=five_cells q5
    obtain⟨z0,z1,z2,z3,z4⟩:=five_cells z5
    obtain⟨f0,f1,f2,f3,f4⟩:=five_free z5
    have HB5:=Lib.hid hB5
    have HR5:=Lib.hid (HR.out.trans (congrArg (fun o=>Option.getD o .zero) hr))
    clear hB5 q5 hr hh hbn
    go_wp2
    (try simp only [Exit.inBlock,Exit.then])
    refine bodyPost_ret (results_cell_row rfl _ _ (w.heap.size+1+1) _ _ _ du rfl (five_set z5) hu1 (by cases du<;>first | rfl | exact hu2) size_term) rfl ?_
    rw [HR5.out]
    exact⟨.slice none 0 0,rfl,liesP_nil _ _,below_five HB5.out (by omega) _ _ _ _ _⟩
  ·rcases HANS.out with ⟨rfl,hr,rfl,hly⟩ | ⟨rfl,hr⟩
   ·have q5:(((((wm.setCell ⟨wp.heap.size,0,none⟩ (.int .i64 y.k)).setCell ⟨wp.heap.size,1,none⟩ (.int .i64 y.i)).setCell ⟨wp.heap.size,2,none⟩ (.int .i64 y.j)).setCell ⟨wp.heap.size,3,none⟩ (.int .i64 y.n)).setCell ⟨wp.heap.size,4,none⟩ (.slice ay y.kids.length cy)).heap[wp.heap.size]? =some (.cells #[.int .i64 y.k,.int .i64 y.i,.int .i64 y.j,.int .i64 y.n,.slice ay y.kids.length cy] 38):=five_set hzm
    have hK5:Kept v1 (((((wm.setCell ⟨wp.heap.size,0,none⟩ (.int .i64 y.k)).setCell ⟨wp.heap.size,1,none⟩ (.int .i64 y.i)).setCell ⟨wp.heap.size,2,none⟩ (.int .i64 y.j)).setCell ⟨wp.heap.size,3,none⟩ (.int .i64 y.n)).setCell ⟨wp.heap.size,4,none⟩ (.slice ay y.kids.length cy)):=(kept_set_ (kept_set_ (kept_set_ (kept_set_ (kept_set_ hh hvp _) hvp _) hvp _) hvp _) hvp _)
    have hl5:LiesP (((((wm.setCell ⟨wp.heap.size,0,none⟩ (.int .i64 y.k)).setCell ⟨wp.heap.size,1,none⟩ (.int .i64 y.i)).setCell ⟨wp.heap.size,2,none⟩ (.int .i64 y.j)).setCell ⟨wp.heap.size,3,none⟩ (.int .i64 y.n)).setCell ⟨wp.heap.size,4,none⟩ (.slice ay y.kids.length cy)) (Own v0.heap.size (((((wm.setCell ⟨wp.heap.size,0,none⟩ (.int .i64 y.k)).setCell ⟨wp.heap.size,1,none⟩ (.int .i64 y.i)).setCell ⟨wp.heap.size,2,none⟩ (.int .i64 y.j)).setCell ⟨wp.heap.size,3,none⟩ (.int .i64 y.n)).setCell ⟨wp.heap.size,4,none⟩ (.slice ay y.kids.length cy))) y.kids (.slice ay y.kids.length cy):=liesP_fives hly (g:=wp.heap.size) (N:=v0.heap.size) (by simp) (by simp<;>omega) _ _ _ _ _
    have z5:=keep_block hK5 (block_lt HQ3.out) HQ3.out
    have hB5:=HB1.out.trans (Below.mono hK5 HB1.out.size)
    generalize (((((wm.setCell ⟨wp.heap.size,0,none⟩ (.int .i64 y.k)).setCell ⟨wp.heap.size,1,none⟩ (.int .i64 y.i)).setCell ⟨wp.heap.size,2,none⟩ (.int .i64 y.j)).setCell ⟨wp.heap.size,3,none⟩ (.int .i64 y.n)).setCell ⟨wp.heap.size,4,none⟩ (.slice ay y.kids.length cy))=W5 at q5 hl5 z5 hB5 ⊢
    clear hK5
    obtain⟨x0,x1,x2,x3,x4⟩:=five_cells q5
    obtain⟨z0,z1,z2,z3,z4⟩:=five_cells z5
    obtain⟨f0,f1,f2,f3,f4⟩:=five_free z5
    have HB5:=Lib.hid hB5
    have HL5:=Lib.hid hl5
    clear hl5 hly
    have HR5:=Lib.hid (HR.out.trans (congrArg (fun o=>Option.getD o .zero) hr))
    clear hB5 q5 hr hh hbn
    go_wp2
    (try simp only [Exit.inBlock,Exit.then])
    refine bodyPost_ret (results_cell_row rfl _ _ (w.heap.size+1+1) _ _ _ du rfl (five_set z5) hu1 (by cases du<;>first | rfl | exact hu2) size_term) rfl ?_
    rw [HR5.out]
    exact⟨_,rfl,liesP_fives HL5.out (by omega) (by omega) _ _ _ _ _,below_five HB5.out (by omega) _ _ _ _ _⟩
   ·have q5:(((((wm.setCell ⟨wp.heap.size,0,none⟩ (.int .i64 y.k)).setCell ⟨wp.heap.size,1,none⟩ (.int .i64 y.i)).setCell ⟨wp.heap.size,2,none⟩ (.int .i64 y.j)).setCell ⟨wp.heap.size,3,none⟩ (.int .i64 y.n)).setCell ⟨wp.heap.size,4,none⟩ (.slice ay ny cy)).heap[wp.heap.size]? =some (.cells #[.int .i64 y.k,.int .i64 y.i,.int .i64 y.j,.int .i64 y.n,.slice ay ny cy] 38):=five_set hzm
    have hK5:Kept v1 (((((wm.setCell ⟨wp.heap.size,0,none⟩ (.int .i64 y.k)).setCell ⟨wp.heap.size,1,none⟩ (.int .i64 y.i)).setCell ⟨wp.heap.size,2,none⟩ (.int .i64 y.j)).setCell ⟨wp.heap.size,3,none⟩ (.int .i64 y.n)).setCell ⟨wp.heap.size,4,none⟩ (.slice ay ny cy)):=(kept_set_ (kept_set_ (kept_set_ (kept_set_ (kept_set_ hh hvp _) hvp _) hvp _) hvp _) hvp _)
    have z5:=keep_block hK5 (block_lt HQ3.out) HQ3.out
    have hB5:=HB1.out.trans (Below.mono hK5 HB1.out.size)
    generalize (((((wm.setCell ⟨wp.heap.size,0,none⟩ (.int .i64 y.k)).setCell ⟨wp.heap.size,1,none⟩ (.int .i64 y.i)).setCell ⟨wp.heap.size,2,none⟩ (.int .i64 y.j)).setCell ⟨wp.heap.size,3,none⟩ (.int .i64 y.n)).setCell ⟨wp.heap.size,4,none⟩ (.slice ay ny cy))=W5 at q5 z5 hB5 ⊢
    clear hK5
    obtain⟨x0,x1,x2,x3,x4⟩:=five_cells q5
    obtain⟨z0,z1,z2,z3,z4⟩:=five_cells z5
    obtain⟨f0,f1,f2,f3,f4⟩:=five_free z5
    have HB5:=Lib.hid hB5
    have HR5:=Lib.hid (HR.out.trans (congrArg (fun o=>Option.getD o .zero) hr))
    clear hB5 q5 hr hh hbn
    go_wp2
    (try simp only [Exit.inBlock,Exit.then])
    refine bodyPost_ret (results_cell_row rfl _ _ (w.heap.size+1+1) _ _ _ du rfl (five_set z5) hu1 (by cases du<;>first | rfl | exact hu2) size_term) rfl ?_
    rw [HR5.out]
    exact⟨.slice none 0 0,rfl,liesP_nil _ _,below_five HB5.out (by omega) _ _ _ _ _⟩
  ·rcases HANS.out with ⟨rfl,hr,rfl,hly⟩ | ⟨rfl,hr⟩
   ·have q5:(((((wm.setCell ⟨v1.heap.size,0,none⟩ (.int .i64 y.k)).setCell ⟨v1.heap.size,1,none⟩ (.int .i64 y.i)).setCell ⟨v1.heap.size,2,none⟩ (.int .i64 y.j)).setCell ⟨v1.heap.size,3,none⟩ (.int .i64 y.n)).setCell ⟨v1.heap.size,4,none⟩ (.slice ay y.kids.length cy)).heap[v1.heap.size]? =some (.cells #[.int .i64 y.k,.int .i64 y.i,.int .i64 y.j,.int .i64 y.n,.slice ay y.kids.length cy] 38):=five_set hzm
    have hK5:Kept v1 (((((wm.setCell ⟨v1.heap.size,0,none⟩ (.int .i64 y.k)).setCell ⟨v1.heap.size,1,none⟩ (.int .i64 y.i)).setCell ⟨v1.heap.size,2,none⟩ (.int .i64 y.j)).setCell ⟨v1.heap.size,3,none⟩ (.int .i64 y.n)).setCell ⟨v1.heap.size,4,none⟩ (.slice ay y.kids.length cy)):=(kept_set_ (kept_set_ (kept_set_ (kept_set_ (kept_set_ hh (Nat.le_refl _) _) (Nat.le_refl _) _) (Nat.le_refl _) _) (Nat.le_refl _) _) (Nat.le_refl _) _)
    have hl5:LiesP (((((wm.setCell ⟨v1.heap.size,0,none⟩ (.int .i64 y.k)).setCell ⟨v1.heap.size,1,none⟩ (.int .i64 y.i)).setCell ⟨v1.heap.size,2,none⟩ (.int .i64 y.j)).setCell ⟨v1.heap.size,3,none⟩ (.int .i64 y.n)).setCell ⟨v1.heap.size,4,none⟩ (.slice ay y.kids.length cy)) (Own v0.heap.size (((((wm.setCell ⟨v1.heap.size,0,none⟩ (.int .i64 y.k)).setCell ⟨v1.heap.size,1,none⟩ (.int .i64 y.i)).setCell ⟨v1.heap.size,2,none⟩ (.int .i64 y.j)).setCell ⟨v1.heap.size,3,none⟩ (.int .i64 y.n)).setCell ⟨v1.heap.size,4,none⟩ (.slice ay y.kids.length cy))) y.kids (.slice ay y.kids.length cy):=liesP_fives hly (g:=v1.heap.size) (N:=v0.heap.size) (by have:=HBE.out;omega) (by have:=HBE.out;omega) _ _ _ _ _
    have z5:=keep_block hK5 (block_lt HQ3.out) HQ3.out
    have hB5:=HB1.out.trans (Below.mono hK5 HB1.out.size)
    generalize (((((wm.setCell ⟨v1.heap.size,0,none⟩ (.int .i64 y.k)).setCell ⟨v1.heap.size,1,none⟩ (.int .i64 y.i)).setCell ⟨v1.heap.size,2,none⟩ (.int .i64 y.j)).setCell ⟨v1.heap.size,3,none⟩ (.int .i64 y.n)).setCell ⟨v1.heap.size,4,none⟩ (.slice ay y.kids.length cy))=W5 at q5 hl5 z5 hB5 ⊢
    clear hK5
    obtain⟨x0,x1,x2,x3,x4⟩:=five_cells q5
    obtain⟨z0,z1,z2,z3,z4⟩:=five_cells z5
    obtain⟨f0,f1,f2,f3,f4⟩:=five_free z5
    have HB5:=Lib.hid hB5
    have HL5:=Lib.hid hl5
    clear hl5 hly
    have HR5:=Lib.hid (HR.out.trans (congrArg (fun o=>Option.getD o .zero) hr))
    clear hB5 q5 hr hh hbn
    go_wp2
    (try simp only [Exit.inBlock,Exit.then])
    refine bodyPost_ret (results_cell_row rfl _ _ (w.heap.size+1+1) _ _ _ du rfl (five_set z5) hu1 (by cases du<;>first | rfl | exact hu2) size_term) rfl ?_
    rw [HR5.out]
    exact⟨_,rfl,liesP_fives HL5.out (by omega) (by omega) _ _ _ _ _,below_five HB5.out (by omega) _ _ _ _ _⟩
   ·have q5:(((((wm.setCell ⟨v1.heap.size,0,none⟩ (.int .i64 y.k)).setCell ⟨v1.heap.size,1,none⟩ (.int .i64 y.i)).setCell ⟨v1.heap.size,2,none⟩ (.int .i64 y.j)).setCell ⟨v1.heap.size,3,none⟩ (.int .i64 y.n)).setCell ⟨v1.heap.size,4,none⟩ (.slice ay ny cy)).heap[v1.heap.size]? =some (.cells #[.int .i64 y.k,.int .i64 y.i,.int .i64 y.j,.int .i64 y.n,.slice ay ny cy] 38):=five_set hzm
    have hK5:Kept v1 (((((wm.setCell ⟨v1.heap.size,0,none⟩ (.int .i64 y.k)).setCell ⟨v1.heap.size,1,none⟩ (.int .i64 y.i)).setCell ⟨v1.heap.size,2,none⟩ (.int .i64 y.j)).setCell ⟨v1.heap.size,3,none⟩ (.int .i64 y.n)).setCell ⟨v1.heap.size,4,none⟩ (.slice ay ny cy)):=(kept_set_ (kept_set_ (kept_set_ (kept_set_ (kept_set_ hh (Nat.le_refl _) _) (Nat.le_refl _) _) (Nat.le_refl _) _) (Nat.le_refl _) _) (Nat.le_refl _) _)
    have z5:=keep_block hK5 (block_lt HQ3.out) HQ3.out
    have hB5:=HB1.out.trans (Below.mono hK5 HB1.out.size)
    generalize (((((wm.setCell ⟨v1.heap.size,0,none⟩ (.int .i64 y.k)).setCell ⟨v1.heap.size,1,none⟩ (.int .i64 y.i)).setCell ⟨v1.heap.size,2,none⟩ (.int .i64 y.j)).setCell ⟨v1.heap.size,3,none⟩ (.int .i64 y.n)).setCell ⟨v1.heap.size,4,none⟩ (.slice ay ny cy))=W5 at q5 z5 hB5 ⊢
    clear hK5
    obtain⟨x0,x1,x2,x3,x4⟩:=five_cells q5
    obtain⟨z0,z1,z2,z3,z4⟩:=five_cells z5
    obtain⟨f0,f1,f2,f3,f4⟩:=five_free z5
    have HB5:=Lib.hid hB5
    have HR5:=Lib.hid (HR.out.trans (congrArg (fun o=>Option.getD o .zero) hr))
    clear hB5 q5 hr hh hbn
    go_wp2
    (try simp only [Exit.inBlock,Exit.then])
    refine bodyPost_ret (results_cell_row rfl _ _ (w.heap.size+1+1) _ _ _ du rfl (five_set z5) hu1 (by cases du<;>first | rfl | exact hu2) size_term) rfl ?_
    rw [HR5.out]
    exact⟨.slice none 0 0,rfl,liesP_nil _ _,below_five HB5.out (by omega) _ _ _ _ _⟩
 ·have hKW:Kept v0 ((((((((((wn.setCell ⟨v0.heap.size,0,none⟩ (.int .i64 u.k)).setCell ⟨v0.heap.size,1,none⟩ (.int .i64 u.i)).setCell ⟨v0.heap.size,2,none⟩ (.int .i64 u.j)).setCell ⟨v0.heap.size,3,none⟩ (.int .i64 u.n)).setCell ⟨v0.heap.size,4,none⟩ (.slice a2 u.kids.length cap2)).setCell ⟨v0.heap.size,5,none⟩ (.int .i64 u.bare.k)).setCell ⟨v0.heap.size,6,none⟩ (.int .i64 u.bare.i)).setCell ⟨v0.heap.size,7,none⟩ (.int .i64 u.bare.j)).setCell ⟨v0.heap.size,8,none⟩ (.int .i64 u.bare.n)).setCell ⟨v0.heap.size,9,none⟩ (.slice a8 u.bare.kids.length cap8)):=kept_set_ (kept_set_ (kept_set_ (kept_set_ (kept_set_ (kept_set_ (kept_set_ (kept_set_ (kept_set_ (kept_set_ hh (Nat.le_refl _) _) (Nat.le_refl _) _) (Nat.le_refl _) _) (Nat.le_refl _) _) (Nat.le_refl _) _) (Nat.le_refl _) _) (Nat.le_refl _) _) (Nat.le_refl _) _) (Nat.le_refl _) _) (Nat.le_refl _) _
  have hV:((((((((((wn.setCell ⟨v0.heap.size,0,none⟩ (.int .i64 u.k)).setCell ⟨v0.heap.size,1,none⟩ (.int .i64 u.i)).setCell ⟨v0.heap.size,2,none⟩ (.int .i64 u.j)).setCell ⟨v0.heap.size,3,none⟩ (.int .i64 u.n)).setCell ⟨v0.heap.size,4,none⟩ (.slice a2 u.kids.length cap2)).setCell ⟨v0.heap.size,5,none⟩ (.int .i64 u.bare.k)).setCell ⟨v0.heap.size,6,none⟩ (.int .i64 u.bare.i)).setCell ⟨v0.heap.size,7,none⟩ (.int .i64 u.bare.j)).setCell ⟨v0.heap.size,8,none⟩ (.int .i64 u.bare.n)).setCell ⟨v0.heap.size,9,none⟩ (.slice a8 u.bare.kids.length cap8)).heap[v0.heap.size]? =some (.cells #[.int .i64 u.k,.int .i64 u.i,.int .i64 u.j,.int .i64 u.n,.slice a2 u.kids.length cap2,.int .i64 u.bare.k,.int .i64 u.bare.i,.int .i64 u.bare.j,.int .i64 u.bare.n,.slice a8 u.bare.kids.length cap8] 101):=ten_set hZ
  have hl9:LiesP wn (Own (v0.heap.size+1) wn) u.bare.kids (.slice a8 u.bare.kids.length cap8):=HL8.out.from (by show v0.heap.size+1≤(v0.alloc (.cells #[.int .i64 0,.int .i64 0,.int .i64 0,.int .i64 0,.slice none 0 0,.int .i64 0,.int .i64 0,.int .i64 0,.int .i64 0,.slice none 0 0] 101)).heap.size;simp)
  have hLB:Lies ((((((((((wn.setCell ⟨v0.heap.size,0,none⟩ (.int .i64 u.k)).setCell ⟨v0.heap.size,1,none⟩ (.int .i64 u.i)).setCell ⟨v0.heap.size,2,none⟩ (.int .i64 u.j)).setCell ⟨v0.heap.size,3,none⟩ (.int .i64 u.n)).setCell ⟨v0.heap.size,4,none⟩ (.slice a2 u.kids.length cap2)).setCell ⟨v0.heap.size,5,none⟩ (.int .i64 u.bare.k)).setCell ⟨v0.heap.size,6,none⟩ (.int .i64 u.bare.i)).setCell ⟨v0.heap.size,7,none⟩ (.int .i64 u.bare.j)).setCell ⟨v0.heap.size,8,none⟩ (.int .i64 u.bare.n)).setCell ⟨v0.heap.size,9,none⟩ (.slice a8 u.bare.kids.length cap8)) u.bare.kids (.slice a8 u.bare.kids.length cap8):=LiesP.lies (liesP_set (B:=v0.heap.size+1) (N:=v0.heap.size+1) (liesP_set (B:=v0.heap.size+1) (N:=v0.heap.size+1) (liesP_set (B:=v0.heap.size+1) (N:=v0.heap.size+1) (liesP_set (B:=v0.heap.size+1) (N:=v0.heap.size+1) (liesP_set (B:=v0.heap.size+1) (N:=v0.heap.size+1) (liesP_set (B:=v0.heap.size+1) (N:=v0.heap.size+1) (liesP_set (B:=v0.heap.size+1) (N:=v0.heap.size+1) (liesP_set (B:=v0.heap.size+1) (N:=v0.heap.size+1) (liesP_set (B:=v0.heap.size+1) (N:=v0.heap.size+1) (liesP_set (B:=v0.heap.size+1) (N:=v0.heap.size+1) hl9 (Nat.lt_succ_self _) (Nat.le_refl _) _) (Nat.lt_succ_self _) (Nat.le_refl _) _) (Nat.lt_succ_self _) (Nat.le_refl _) _) (Nat.lt_succ_self _) (Nat.le_refl _) _) (Nat.lt_succ_self _) (Nat.le_refl _) _) (Nat.lt_succ_self _) (Nat.le_refl _) _) (Nat.lt_succ_self _) (Nat.le_refl _) _) (Nat.lt_succ_self _) (Nat.le_refl _) _) (Nat.lt_succ_self _) (Nat.le_refl _) _) (Nat.lt_succ_self _) (Nat.le_refl _) _)
  have hbv:v0.heap.size≤v0.heap.size:=Nat.le_refl _
  clear hh hbn HL8 hl9 hZ g0 g1 g2 g3 g4 g5 g6 g7 g8 g9 k0 k1 k2 k3 k4 k5 k6 k7 k8 k9
  generalize ((((((((((wn.setCell ⟨v0.heap.size,0,none⟩ (.int .i64 u.k)).setCell ⟨v0.heap.size,1,none⟩ (.int .i64 u.i)).setCell ⟨v0.heap.size,2,none⟩ (.int .i64 u.j)).setCell ⟨v0.heap.size,3,none⟩ (.int .i64 u.n)).setCell ⟨v0.heap.size,4,none⟩ (.slice a2 u.kids.length cap2)).setCell ⟨v0.heap.size,5,none⟩ (.int .i64 u.bare.k)).setCell ⟨v0.heap.size,6,none⟩ (.int .i64 u.bare.i)).setCell ⟨v0.heap.size,7,none⟩ (.int .i64 u.bare.j)).setCell ⟨v0.heap.size,8,none⟩ (.int .i64 u.bare.n)).setCell ⟨v0.heap.size,9,none⟩ (.slice a8 u.bare.kids.length cap8))=W at hKW hV hLB ⊢
  have hI:PutI u v0.heap.size a2 a8 cap2 cap8 W:=⟨⟨_,hV⟩,kept_lies hKW HLU.out,hLB⟩
  have hb1:Below W.heap.size W (W.alloc (.cells #[.func (.func 70) #[] #[.pointer (some ⟨v0.heap.size,0,none⟩)]] 104)):=(Below.refl _ _).alloc (Nat.le_refl _) _
  have hI1:=putI_later u v0.heap.size a2 a8 cap2 cap8 _ _ hI hb1
  have hKV:Kept v0 (W.alloc (.cells #[.func (.func 70) #[] #[.pointer (some ⟨v0.heap.size,0,none⟩)]] 104)):=kept_alloc hKW _
  have hpc:(W.alloc (.cells #[.func (.func 70) #[] #[.pointer (some ⟨v0.heap.size,0,none⟩)]] 104)).cell? ⟨W.heap.size,0,none⟩=some (.func (.func 70) #[] #[.pointer (some ⟨v0.heap.size,0,none⟩)]):=by rw [World.cell?_alloc_at _ _ _ _ rfl];rfl
  have hpl:W.heap.size<(W.alloc (.cells #[.func (.func 70) #[] #[.pointer (some ⟨v0.heap.size,0,none⟩)]] 104)).heap.size:=by simp
  obtain⟨-,m0,m1,m2,m3,m4⟩:=kept_boxes1 hKW HCT.out
  clear hI hV hLB hb1
  go_wp2_with fail
  clear m0 m1 m2 m3 m4
  generalize W.alloc (.cells #[.func (.func 70) #[] #[.pointer (some ⟨v0.heap.size,0,none⟩)]] 104)=v1 at hI1 hKV hpc hpl ⊢
  generalize W.heap.size=pv at hpc hpl ⊢
  have HCT1:=Lib.hid (kept_boxes1 hKV HCT.out).2
  have HPC:=Lib.hid hpc
  obtain⟨d0,d1,d2,d3,d4⟩:=HCT1.out
  have hK1:=kept_start v1
  have HQ3:=Lib.hid (keep_block hKV (block_lt HQ2.out) HQ2.out)
  have hv01:v0.heap.size≤v1.heap.size:=Below.size hKV
  have HB1:=Lib.hid (HB0.out.trans (Below.mono hKV HB0.out.size))
  have HI1:=Lib.hid hI1
  have HLT1:=Lib.hid (kept_lies hKV HLT.out)
  have CIN:Hid (∀ w',Kept v1 w'→Calls Try.prog 71 #[.agg #[.func (.func 70) #[] #[.pointer (some ⟨v0.heap.size,0,none⟩)]],tv t (.slice a t.kids.length cap),.int .i64 0,.bool (decide (12<t.k))] w' (GivesY (t.putG (gPut u) 0 (decide (12<t.k))) w')):=fun w' h=>put_in HUR.out hdu v0.heap.size a2 a8 cap2 cap8 t _ w' _ (kept_lies h HLT1.out) h1 hdt (putI_later u v0.heap.size a2 a8 cap2 cap8 _ _ HI1.out h)
  have hN2':w.heap.size+1+1<v1.heap.size:=by omega
  clear hI1 hKV hpc hKW
  go_region_held3 (fun w'=>Kept v1 w'∧w'.cell? ⟨w.heap.size,0,none⟩=some (.int .i64 t.k)∧w'.cell? ⟨w.heap.size,1,none⟩=some (.int .i64 t.i)∧w'.cell? ⟨w.heap.size,2,none⟩=some (.int .i64 t.j)∧w'.cell? ⟨w.heap.size,3,none⟩=some (.int .i64 t.n)∧w'.cell? ⟨w.heap.size,4,none⟩=some (.slice a t.kids.length cap)∧w'.cell? ⟨pv,0,none⟩=some (.func (.func 70) #[] #[.pointer (some ⟨v0.heap.size,0,none⟩)]))
   (((with_reducible refine kept_tp ?_ HCT1.out HPC.out);repeat (first | with_reducible assumption | with_reducible exact hK1 | with_reducible refine kept_drew ?_ | with_reducible refine kept_alloc ?_ _ | ((with_reducible refine kept_set_ ?_ ?hh _);(case hh=>simp [*])))))
   (first | (go_at_call 71;have mk0:=HZA.out;have hS:=(‹Kept v1 _∧_›).1;((with_reducible refine Calls.mono (CIN.out _ hS) ?_);rintro e wm ⟨y,ay,ny,cy,ok,rfl,hbn,hans⟩;have HANS:=Lib.hid hans;have hzm:=keep_block hbn (block_lt mk0) mk0;obtain⟨e0,e1,e2,e3,e4⟩:=five_cells hzm;obtain⟨b0,b1,b2,b3,b4⟩:=five_free hzm;have hsm:v1.heap.size≤wm.heap.size:=Nat.le_of_lt (block_lt hzm);have hbe:v1.heap.size+1≤_:=block_lt mk0;have HBE:=Lib.hid hbe;clear hans hbe;have hh:=kept_call hS hbn)) | (go_at_call 71;have mk0:=HPB.out;((with_reducible refine Calls.mono (CIN.out (wp.alloc zeroObj) (kept_alloc mk0 _)) ?_);rintro e wm ⟨y,ay,ny,cy,ok,rfl,hbn,hans⟩;have HANS:=Lib.hid hans;have hzm:=keep_block hbn (block_lt (alloc_new wp zeroObj)) (alloc_new wp zeroObj);obtain⟨e0,e1,e2,e3,e4⟩:=five_cells hzm;obtain⟨b0,b1,b2,b3,b4⟩:=five_free hzm;have hvp:v1.heap.size≤wp.heap.size:=Below.size mk0;clear hans;have hh:=kept_call (kept_alloc mk0 _) hbn)) | (go_at_call 71;have mk0:=HPB.out;have hS:=(‹Kept v1 _∧_›).1;((with_reducible refine Calls.mono (CIN.out wp hS) ?_);rintro e wm ⟨y,ay,ny,cy,ok,rfl,hbn,hans⟩;have HANS:=Lib.hid hans;have hvp:v1.heap.size≤wp.heap.size:=Below.size mk0;clear hans;have hh:=kept_call hS hbn)) | (go_at_call 72;((with_reducible refine Calls.mono (plainPlace_any t (v1.alloc zeroObj).drew _) ?_);rintro e wp ⟨rfl,hbp⟩;have HZA:=Lib.hid (keep_block hbp (block_lt (alloc_new v1 zeroObj)) (alloc_new v1 zeroObj));have hh:=kept_call (kept_drew (kept_alloc hK1 zeroObj)) hbp)) | (go_at_call 72;((with_reducible refine Calls.mono (plainPlace_any t v1.drew _) ?_);rintro e wp ⟨rfl,hbp⟩;have hh:=kept_call (kept_drew hK1) hbp;have HPB:=Lib.hid hh)))
  ·rcases HANS.out with ⟨rfl,hr,rfl,hly⟩ | ⟨rfl,hr⟩
   ·have q5:(wm.alloc (.cells #[.int .i64 y.k,.int .i64 y.i,.int .i64 y.j,.int .i64 y.n,.slice ay y.kids.length cy] 38)).heap[wm.heap.size]? =some (.cells #[.int .i64 y.k,.int .i64 y.i,.int .i64 y.j,.int .i64 y.n,.slice ay y.kids.length cy] 38):=alloc_new _ _
    have hK5:Kept v1 (wm.alloc (.cells #[.int .i64 y.k,.int .i64 y.i,.int .i64 y.j,.int .i64 y.n,.slice ay y.kids.length cy] 38)):=kept_alloc hh _
    have hl5:LiesP (wm.alloc (.cells #[.int .i64 y.k,.int .i64 y.i,.int .i64 y.j,.int .i64 y.n,.slice ay y.kids.length cy] 38)) (Own v0.heap.size (wm.alloc (.cells #[.int .i64 y.k,.int .i64 y.i,.int .i64 y.j,.int .i64 y.n,.slice ay y.kids.length cy] 38))) y.kids (.slice ay y.kids.length cy):=(hly.from (by omega)).later ((Below.refl _ _).alloc (Nat.le_refl _) _)
    have z5:=keep_block hK5 (block_lt HQ3.out) HQ3.out
    have hB5:=HB1.out.trans (Below.mono hK5 HB1.out.size)
    generalize (wm.alloc (.cells #[.int .i64 y.k,.int .i64 y.i,.int .i64 y.j,.int .i64 y.n,.slice ay y.kids.length cy] 38))=W5 at q5 hl5 z5 hB5 ⊢
    clear hK5
    obtain⟨x0,x1,x2,x3,x4⟩:=five_cells q5
    obtain⟨z0,z1,z2,z3,z4⟩:=five_cells z5
    obtain⟨f0,f1,f2,f3,f4⟩:=five_free z5
    have HB5:=Lib.hid hB5
    have HL5:=Lib.hid hl5
    clear hl5 hly
    have HR5:=Lib.hid (HR.out.trans (congrArg (fun o=>Option.getD o .zero) hr))
    clear hB5 q5 hr hh hbn
    go_wp2
    (try simp only [Exit.inBlock,Exit.then])
    refine bodyPost_ret (results_cell_row rfl _ _ (w.heap.size+1+1) _ _ _ du rfl (five_set z5) hu1 (by cases du<;>first | rfl | exact hu2) size_term) rfl ?_
    rw [HR5.out]
    exact⟨_,rfl,liesP_fives HL5.out (by omega) (by omega) _ _ _ _ _,below_five HB5.out (by omega) _ _ _ _ _⟩
   ·have q5:(wm.alloc (.cells #[.int .i64 y.k,.int .i64 y.i,.int .i64 y.j,.int .i64 y.n,.slice ay ny cy] 38)).heap[wm.heap.size]? =some (.cells #[.int .i64 y.k,.int .i64 y.i,.int .i64 y.j,.int .i64 y.n,.slice ay ny cy] 38):=alloc_new _ _
    have hK5:Kept v1 (wm.alloc (.cells #[.int .i64 y.k,.int .i64 y.i,.int .i64 y.j,.int .i64 y.n,.slice ay ny cy] 38)):=kept_alloc hh _
    have z5:=keep_block hK5 (block_lt HQ3.out) HQ3.out
    have hB5:=HB1.out.trans (Below.mono hK5 HB1.out.size)
    generalize (wm.alloc (.cells #[.int .i64 y.k,.int .i64 y.i,.int .i64 y.j,.int .i64 y.n,.slice ay ny cy] 38))=W5 at q5 z5 hB5 ⊢
    clear hK5
    obtain⟨x0,x1,x2,x3,x4⟩:=five_cells q5
    obtain⟨z0,z1,z2,z3,z4⟩:=five_cells z5
    obtain⟨f0,f1,f2,f3,f4⟩:=five_free z5
    have HB5:=Lib.hid hB5
    have HR5:=Lib.hid (HR.out.trans (congrArg (fun o=>Option.getD o .zero) hr))
    clear hB5 q5 hr hh hbn
    go_wp2
    (try simp only [Exit.inBlock,Exit.then])
    refine bodyPost_ret (results_cell_row rfl _ _ (w.heap.size+1+1) _ _ _ du rfl (five_set z5) hu1 (by cases du<;>first | rfl | exact hu2) size_term) rfl ?_
    rw [HR5.out]
    exact⟨.slice none 0 0,rfl,liesP_nil _ _,below_five HB5.out (by omega) _ _ _ _ _⟩
  ·rcases HANS.out with ⟨rfl,hr,rfl,hly⟩ | ⟨rfl,hr⟩
   ·have q5:(((((wm.setCell ⟨wp.heap.size,0,none⟩ (.int .i64 y.k)).setCell ⟨wp.heap.size,1,none⟩ (.int .i64 y.i)).setCell ⟨wp.heap.size,2,none⟩ (.int .i64 y.j)).setCell ⟨wp.heap.size,3,none⟩ (.int .i64 y.n)).setCell ⟨wp.heap.size,4,none⟩ (.slice ay y.kids.length cy)).heap[wp.heap.size]? =some (.cells #[.int .i64 y.k,.int .i64 y.i,.int .i64 y.j,.int .i64 y.n,.slice ay y.kids.length cy] 38):=five_set hzm
    have hK5:Kept v1 (((((wm.setCell ⟨wp.heap.size,0,none⟩ (.int .i64 y.k)).setCell ⟨wp.heap.size,1,none⟩ (.int .i64 y.i)).setCell ⟨wp.heap.size,2,none⟩ (.int .i64 y.j)).setCell ⟨wp.heap.size,3,none⟩ (.int .i64 y.n)).setCell ⟨wp.heap.size,4,none⟩ (.slice ay y.kids.length cy)):=(kept_set_ (kept_set_ (kept_set_ (kept_set_ (kept_set_ hh hvp _) hvp _) hvp _) hvp _) hvp _)
    have hl5:LiesP (((((wm.setCell ⟨wp.heap.size,0,none⟩ (.int .i64 y.k)).setCell ⟨wp.heap.size,1,none⟩ (.int .i64 y.i)).setCell ⟨wp.heap.size,2,none⟩ (.int .i64 y.j)).setCell ⟨wp.heap.size,3,none⟩ (.int .i64 y.n)).setCell ⟨wp.heap.size,4,none⟩ (.slice ay y.kids.length cy)) (Own v0.heap.size (((((wm.setCell ⟨wp.heap.size,0,none⟩ (.int .i64 y.k)).setCell ⟨wp.heap.size,1,none⟩ (.int .i64 y.i)).setCell ⟨wp.heap.size,2,none⟩ (.int .i64 y.j)).setCell ⟨wp.heap.size,3,none⟩ (.int .i64 y.n)).setCell ⟨wp.heap.size,4,none⟩ (.slice ay y.kids.length cy))) y.kids (.slice ay y.kids.length cy):=liesP_fives hly (g:=wp.heap.size) (N:=v0.heap.size) (by simp) (by simp<;>omega) _ _ _ _ _
    have z5:=keep_block hK5 (block_lt HQ3.out) HQ3.out
    have hB5:=HB1.out.trans (Below.mono hK5 HB1.out.size)
    generalize (((((wm.setCell ⟨wp.heap.size,0,none⟩ (.int .i64 y.k)).setCell ⟨wp.heap.size,1,none⟩ (.int .i64 y.i)).setCell ⟨wp.heap.size,2,none⟩ (.int .i64 y.j)).setCell ⟨wp.heap.size,3,none⟩ (.int .i64 y.n)).setCell ⟨wp.heap.size,4,none⟩ (.slice ay y.kids.length cy))=W5 at q5 hl5 z5 hB5 ⊢
    clear hK5
    obtain⟨x0,x1,x2,x3,x4⟩:=five_cells q5
    obtain⟨z0,z1,z2,z3,z4⟩:=five_cells z5
    obtain⟨f0,f1,f2,f3,f4⟩:=five_free z5
    have HB5:=Lib.hid hB5
    have HL5:=Lib.hid hl5
    clear hl5 hly
    have HR5:=Lib.hid (HR.out.trans (congrArg (fun o=>Option.getD o .zero) hr))
    clear hB5 q5 hr hh hbn
    go_wp2
    (try simp only [Exit.inBlock,Exit.then])
    refine bodyPost_ret (results_cell_row rfl _ _ (w.heap.size+1+1) _ _ _ du rfl (five_set z5) hu1 (by cases du<;>first | rfl | exact hu2) size_term) rfl ?_
    rw [HR5.out]
    exact⟨_,rfl,liesP_fives HL5.out (by omega) (by omega) _ _ _ _ _,below_five HB5.out (by omega) _ _ _ _ _⟩
   ·have q5:(((((wm.setCell ⟨wp.heap.size,0,none⟩ (.int .i64 y.k)).setCell ⟨wp.heap.size,1,none⟩ (.int .i64 y.i)).setCell ⟨wp.heap.size,2,none⟩ (.int .i64 y.j)).setCell ⟨wp.heap.size,3,none⟩ (.int .i64 y.n)).setCell ⟨wp.heap.size,4,none⟩ (.slice ay ny cy)).heap[wp.heap.size]? =some (.cells #[.int .i64 y.k,.int .i64 y.i,.int .i64 y.j,.int .i64 y.n,.slice ay ny cy] 38):=five_set hzm
    have hK5:Kept v1 (((((wm.setCell ⟨wp.heap.size,0,none⟩ (.int .i64 y.k)).setCell ⟨wp.heap.size,1,none⟩ (.int .i64 y.i)).setCell ⟨wp.heap.size,2,none⟩ (.int .i64 y.j)).setCell ⟨wp.heap.size,3,none⟩ (.int .i64 y.n)).setCell ⟨wp.heap.size,4,none⟩ (.slice ay ny cy)):=(kept_set_ (kept_set_ (kept_set_ (kept_set_ (kept_set_ hh hvp _) hvp _) hvp _) hvp _) hvp _)
    have z5:=keep_block hK5 (block_lt HQ3.out) HQ3.out
    have hB5:=HB1.out.trans (Below.mono hK5 HB1.out.size)
    generalize (((((wm.setCell ⟨wp.heap.size,0,none⟩ (.int .i64 y.k)).setCell ⟨wp.heap.size,1,none⟩ (.int .i64 y.i)).setCell ⟨wp.heap.size,2,none⟩ (.int .i64 y.j)).setCell ⟨wp.heap.size,3,none⟩ (.int .i64 y.n)).setCell ⟨wp.heap.size,4,none⟩ (.slice ay ny cy))=W5 at q5 z5 hB5 ⊢
    clear hK5
    obtain⟨x0,x1,x2,x3,x4⟩:=five_cells q5
    obtain⟨z0,z1,z2,z3,z4⟩:=five_cells z5
    obtain⟨f0,f1,f2,f3,f4⟩:=five_free z5
    have HB5:=Lib.hid hB5
    have HR5:=Lib.hid (HR.out.trans (congrArg (fun o=>Option.getD o .zero) hr))
    clear hB5 q5 hr hh hbn
    go_wp2
    (try simp only [Exit.inBlock,Exit.then])
    refine bodyPost_ret (results_cell_row rfl _ _ (w.heap.size+1+1) _ _ _ du rfl (five_set z5) hu1 (by cases du<;>first | rfl | exact hu2) size_term) rfl ?_
    rw [HR5.out]
    exact⟨.slice none 0 0,rfl,liesP_nil _ _,below_five HB5.out (by omega) _ _ _ _ _⟩
  ·rcases HANS.out with ⟨rfl,hr,rfl,hly⟩ | ⟨rfl,hr⟩
   ·have q5:(((((wm.setCell ⟨v1.heap.size,0,none⟩ (.int .i64 y.k)).setCell ⟨v1.heap.size,1,none⟩ (.int .i64 y.i)).setCell ⟨v1.heap.size,2,none⟩ (.int .i64 y.j)).setCell ⟨v1.heap.size,3,none⟩ (.int .i64 y.n)).setCell ⟨v1.heap.size,4,none⟩ (.slice ay y.kids.length cy)).heap[v1.heap.size]? =some (.cells #[.int .i64 y.k,.int .i64 y.i,.int .i64 y.j,.int .i64 y.n,.slice ay y.kids.length cy] 38):=five_set hzm
    have hK5:Kept v1 (((((wm.setCell ⟨v1.heap.size,0,none⟩ (.int .i64 y.k)).setCell ⟨v1.heap.size,1,none⟩ (.int .i64 y.i)).setCell ⟨v1.heap.size,2,none⟩ (.int .i64 y.j)).setCell ⟨v1.heap.size,3,none⟩ (.int .i64 y.n)).setCell ⟨v1.heap.size,4,none⟩ (.slice ay y.kids.length cy)):=(kept_set_ (kept_set_ (kept_set_ (kept_set_ (kept_set_ hh (Nat.le_refl _) _) (Nat.le_refl _) _) (Nat.le_refl _) _) (Nat.le_refl _) _) (Nat.le_refl _) _)
    have hl5:LiesP (((((wm.setCell ⟨v1.heap.size,0,none⟩ (.int .i64 y.k)).setCell ⟨v1.heap.size,1,none⟩ (.int .i64 y.i)).setCell ⟨v1.heap.size,2,none⟩ (.int .i64 y.j)).setCell ⟨v1.heap.size,3,none⟩ (.int .i64 y.n)).setCell ⟨v1.heap.size,4,none⟩ (.slice ay y.kids.length cy)) (Own v0.heap.size (((((wm.setCell ⟨v1.heap.size,0,none⟩ (.int .i64 y.k)).setCell ⟨v1.heap.size,1,none⟩ (.int .i64 y.i)).setCell ⟨v1.heap.size,2,none⟩ (.int .i64 y.j)).setCell ⟨v1.heap.size,3,none⟩ (.int .i64 y.n)).setCell ⟨v1.heap.size,4,none⟩ (.slice ay y.kids.length cy))) y.kids (.slice ay y.kids.length cy):=liesP_fives hly (g:=v1.heap.size) (N:=v0.heap.size) (by have:=HBE.out;omega) (by have:=HBE.out;omega) _ _ _ _ _
    have z5:=keep_block hK5 (block_lt HQ3.out) HQ3.out
    have hB5:=HB1.out.trans (Below.mono hK5 HB1.out.size)
    generalize (((((wm.setCell ⟨v1.heap.size,0,none⟩ (.int .i64 y.k)).setCell ⟨v1.heap.size,1,none⟩ (.int .i64 y.i)).setCell ⟨v1.heap.size,2,none⟩ (.int .i64 y.j)).setCell ⟨v1.heap.size,3,none⟩ (.int .i64 y.n)).setCell ⟨v1.heap.size,4,none⟩ (.slice ay y.kids.length cy))=W5 at q5 hl5 z5 hB5 ⊢
    clear hK5
    obtain⟨x0,x1,x2,x3,x4⟩:=five_cells q5
    obtain⟨z0,z1,z2,z3,z4⟩:=five_cells z5
    obtain⟨f0,f1,f2,f3,f4⟩:=five_free z5
    have HB5:=Lib.hid hB5
    have HL5:=Lib.hid hl5
    clear hl5 hly
    have HR5:=Lib.hid (HR.out.trans (congrArg (fun o=>Option.getD o .zero) hr))
    clear hB5 q5 hr hh hbn
    go_wp2
    (try simp only [Exit.inBlock,Exit.then])
    refine bodyPost_ret (results_cell_row rfl _ _ (w.heap.size+1+1) _ _ _ du rfl (five_set z5) hu1 (by cases du<;>first | rfl | exact hu2) size_term) rfl ?_
    rw [HR5.out]
    exact⟨_,rfl,liesP_fives HL5.out (by omega) (by omega) _ _ _ _ _,below_five HB5.out (by omega) _ _ _ _ _⟩
   ·have q5:(((((wm.setCell ⟨v1.heap.size,0,none⟩ (.int .i64 y.k)).setCell ⟨v1.heap.size,1,none⟩ (.int .i64 y.i)).setCell ⟨v1.heap.size,2,none⟩ (.int .i64 y.j)).setCell ⟨v1.heap.size,3,none⟩ (.int .i64 y.n)).setCell ⟨v1.heap.size,4,none⟩ (.slice ay ny cy)).heap[v1.heap.size]? =some (.cells #[.int .i64 y.k,.int .i64 y.i,.int .i64 y.j,.int .i64 y.n,.slice ay ny cy] 38):=five_set hzm
    have hK5:Kept v1 (((((wm.setCell ⟨v1.heap.size,0,none⟩ (.int .i64 y.k)).setCell ⟨v1.heap.size,1,none⟩ (.int .i64 y.i)).setCell ⟨v1.heap.size,2,none⟩ (.int .i64 y.j)).setCell ⟨v1.heap.size,3,none⟩ (.int .i64 y.n)).setCell ⟨v1.heap.size,4,none⟩ (.slice ay ny cy)):=(kept_set_ (kept_set_ (kept_set_ (kept_set_ (kept_set_ hh (Nat.le_refl _) _) (Nat.le_refl _) _) (Nat.le_refl _) _) (Nat.le_refl _) _) (Nat.le_refl _) _)
    have z5:=keep_block hK5 (block_lt HQ3.out) HQ3.out
    have hB5:=HB1.out.trans (Below.mono hK5 HB1.out.size)
    generalize (((((wm.setCell ⟨v1.heap.size,0,none⟩ (.int .i64 y.k)).setCell ⟨v1.heap.size,1,none⟩ (.int .i64 y.i)).setCell ⟨v1.heap.size,2,none⟩ (.int .i64 y.j)).setCell ⟨v1.heap.size,3,none⟩ (.int .i64 y.n)).setCell ⟨v1.heap.size,4,none⟩ (.slice ay ny cy))=W5 at q5 z5 hB5 ⊢
    clear hK5
    obtain⟨x0,x1,x2,x3,x4⟩:=five_cells q5
    obtain⟨z0,z1,z2,z3,z4⟩:=five_cells z5
    obtain⟨f0,f1,f2,f3,f4⟩:=five_free z5
    have HB5:=Lib.hid hB5
    have HR5:=Lib.hid (HR.out.trans (congrArg (fun o=>Option.getD o .zero) hr))
    clear hB5 q5 hr hh hbn
    go_wp2
    (try simp only [Exit.inBlock,Exit.then])
    refine bodyPost_ret (results_cell_row rfl _ _ (w.heap.size+1+1) _ _ _ du rfl (five_set z5) hu1 (by cases du<;>first | rfl | exact hu2) size_term) rfl ?_
    rw [HR5.out]
    exact⟨.slice none 0 0,rfl,liesP_nil _ _,below_five HB5.out (by omega) _ _ _ _ _⟩
end Go.Proofs.Ytgnllglbopaheaa

namespace Go.Proofs.Ytgnllglbopaheaa
open Go.RowKit
theorem rput_fine (t u:Tm):(t.putB u).fine:=by
 unfold Tm.putB
 split
 ·rename_i h
  cases hx:t.putG (gPut u) 0 (decide (12<t.k)) with
  | none=>exact zero_fine
  | some y=>exact right_fine (put_sorts h.1 h.2 hx).1
 ·exact zero_fine
end Go.Proofs.Ytgnllglbopaheaa
