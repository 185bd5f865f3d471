/-
  Facts and contracts that the proof of CongCalls uses.
-/
import Derived.OrdersHeld
import Derived.Below
import Derived.Laws.Rows
import Derived.Laws.CopyRow
import Derived.KernelRfl
import Derived.WalkKit
import Derived.Lib.Hide
import Derived.Lib.MinMax
import Derived.Deep.RegionHeld3
import Derived.Test.YtpdinlejmlbbeaaRows
import Derived.Deep.RegionWith
import Derived.Deep.AppendLies
import Derived.Laws.IdiomCopy
import Derived.Deep.Slices
import Derived.Deep.QuietTactic
import Derived.BigQuiet
import Derived.Lib.QuietBelow
import Derived.StillTailTactics
import Derived.IntWalk
import Derived.OwnWalk
import Derived.Deep.DeepCutAuto
import Derived.Deep.RegionLaw
import Derived.Deep.LoopGhost
import Derived.Deep.MidRow
import Derived.Laws.Tables
import Derived.Laws.CopyOwn
import Derived.Deep.Upon
import Derived.ArgAppend
import Derived.Deep.RegionHeld
import Derived.Laws.EntriesVeiled
import Derived.ProofKit
import Derived.OpenShut
import Derived.Carry
import Derived.ChangeSlices
import Derived.JoinedOf
import Derived.Test.YtpdinlejmlbbeaaCongCallsQ4
namespace Go.Proofs.Ytpdinlejmlbbeaa
open Go.RowKit
theorem GivesN.wide {r:Option Tm} {wi w w':World} {e:Ending} (h:GivesN r w e w') (hb:Below wi.heap.size wi w):GivesN r wi e w':=by
 obtain⟨h1,h2⟩:=h
 refine⟨hb.trans (h1.mono hb.size),?_⟩
 rcases h2 with ⟨u,s',h3,h4,h5⟩ | h2
 ·exact Or.inl ⟨u,s',h3,h4,h5.from hb.size⟩
 ·exact Or.inr h2
theorem GivesN.some {u:Tm} {w w':World} {e:Ending} (h:GivesN (some u) w e w'):GivesSome u w e w':=by
 obtain⟨hb,⟨u',s',h1,h2,h3⟩ | ⟨z,a,n,c,h1,-⟩⟩:=h
 ·cases h1;exact⟨⟨s',h2,h3⟩,hb⟩
 ·cases h1
theorem GivesN.none {w w':World} {e:Ending} (h:GivesN none w e w'):(∃ (z:Tm) (a:Option Addr) (n c:Nat),e=.returned (.tuple #[tv z (.slice a n c),.bool false]))∧Below w.heap.size w w':=by
 obtain⟨hb,⟨u',s',h1,-⟩ | ⟨z,a,n,c,-,h2⟩⟩:=h
 ·cases h1
 ·exact⟨⟨z,a,n,c,h2⟩,hb⟩
theorem int_two (q:Nat):(q==2)=((q:Int)==2):=by
 by_cases h:q=2
 ·subst h;rfl
 ·have h1:(q==2)=false:=by simpa using h
  have h2:((q:Int)==2)=false:=by simp;omega
  rw [h1,h2]
def GivesY (r:Option Tm) (w:World) (e:Ending) (w':World):Prop:=∃ (u:Tm) (a:Option Addr) (n cap:Nat) (ok:Bool),e=.returned (.tuple #[tv u (.slice a n cap),.bool ok])∧Below w.heap.size w w' ∧
 ((ok=true∧r=some u∧n=u.kids.length∧LiesP w' (Own w.heap.size w') u.kids (.slice a n cap))∨(ok=false∧r=none))
theorem GivesN.ans {r:Option Tm} {w w':World} {e:Ending} (h:GivesN r w e w'):GivesY r w e w':=by
 obtain⟨hb,⟨u,s',h1,h2,h3⟩ | ⟨z,a,n,c,h1,h2⟩⟩:=h
 ·obtain⟨a,cap,rfl,-,-⟩:=h3.out
  exact⟨u,a,_,cap,true,h2,hb,Or.inl ⟨rfl,h1,rfl,h3⟩⟩
 ·exact⟨z,a,n,c,false,h2,hb,Or.inr ⟨rfl,h1⟩⟩
theorem GivesY.below {r:Option Tm} {w w':World} {e:Ending} (h:GivesY r w e w'):Below w.heap.size w w':=by obtain⟨u,a,n,c,ok,-,hb,-⟩:=h;exact hb
theorem putG_fine {g:Int→Int→Bool→Option Tm} (hg:∀ v b pl x,0≤v→v≤2147483647→0≤b→g v b pl=some x→x.fine) {t u:Tm} {b:Int} {pl:Bool} (hr:t.rightB=true) (hb:0≤b) (h:t.putG g b pl=some u):u.fine:=by
 by_cases hk:t.k=2
 ·rw [Tm.putG_var _ _ _ _ hk] at h
  have hv:=t.right_var hr hk
  exact hg _ _ _ _ hv.1 hv.2 hb h
 ·rw [Tm.putG_node _ _ _ _ hk] at h
  simp only [Option.map_eq_some_iff] at h
  obtain⟨m,-,rfl⟩:=h
  have:=right_fine hr
  exact this
theorem held_and2 {w w':World} {t:Tm} {s v v2:Value} {p p2:Addr} (h:Held w t s w') (hp:w.cell? p=some v) (hp2:w.cell? p2=some v2):Held w t s w'∧w'.cell? p=some v∧w'.cell? p2=some v2∧w'.cell? ⟨w.heap.size,0,none⟩=some (.int .i64 t.k)∧w'.cell? ⟨w.heap.size,1,none⟩=some (.int .i64 t.i)∧w'.cell? ⟨w.heap.size,2,none⟩=some (.int .i64 t.j)∧w'.cell? ⟨w.heap.size,3,none⟩=some (.int .i64 t.n)∧w'.cell? ⟨w.heap.size,4,none⟩=some s :=
 ⟨h,cell_lat (held_below h) hp,cell_lat (held_below h) hp2,held_cells h⟩
set_option maxRecDepth 20000 in
set_option maxHeartbeats 4000000 in
theorem in_any (g:Int→Int→Bool→Option Tm) (fid bv:Nat) (I:World→Prop) (hI:∀ w w':World,I w→Below w.heap.size w w'→I w')
 (hvar:∀ (v b:Int) (pl:Bool) (w:World),I w→0≤v→v≤2147483647→0≤b→b≤2000000→Calls Try.prog 57 #[.agg #[.func (.func fid) #[] #[.pointer (some ⟨bv,0,none⟩)]],.int .i64 v,.int .i64 b,.bool pl] w (GivesN (g v b pl) w))
 (hfine:∀ v b pl x,0≤v→v≤2147483647→0≤b→g v b pl=some x→x.fine) (t:Tm):∀ (b:Int) (pl:Bool) (wi:World) (s:Value),Lies wi t.kids s→t.rightB=true→0≤b→b+2 * t.deep≤1000000→I wi →
 Calls Try.prog 43 #[.agg #[.func (.func fid) #[] #[.pointer (some ⟨bv,0,none⟩)]],tv t s,.int .i64 b,.bool pl] wi (GivesN (t.putG g b pl) wi):=by
 induction t using Tm.ind with
 | h t ih =>
  intro b pl wi s hl hr hb hd hi
  obtain⟨a,cap,S,rfl,hc,hm,hf,hn,hk⟩:=hl.out
  have hde:=t.deep_eq
  have hlen:=right_len hr
  have hN:(wi.alloc (.cells #[.func (.func fid) #[] #[.pointer (some ⟨bv,0,none⟩)]] 68)).heap.size=wi.heap.size+1:=by simp
  have hPc:(wi.alloc (.cells #[.func (.func fid) #[] #[.pointer (some ⟨bv,0,none⟩)]] 68)).cell? ⟨wi.heap.size,0,none⟩=some (.func (.func fid) #[] #[.pointer (some ⟨bv,0,none⟩)]):=by rw [World.cell?_alloc_at _ _ _ _ rfl];rfl
  have hbP:Below wi.heap.size wi (wi.alloc (.cells #[.func (.func fid) #[] #[.pointer (some ⟨bv,0,none⟩)]] 68)):=(Below.refl _ _).alloc (Nat.le_refl _) _
  have hIP:=hI _ _ hi hbP
  unfold tv
  unfold maxLen at hm
  obtain⟨du,hu1,hu2⟩:=under_term
  have HB0:=boxes_start (wi.alloc (.cells #[.func (.func fid) #[] #[.pointer (some ⟨bv,0,none⟩)]] 68)) t (.slice a t.kids.length cap)
  have HL:=Lib.hid hl
  by_cases hk2:t.k=2
  ·have e2:(t.k==2)=true:=by simpa using hk2
   have hv:=t.right_var hr hk2
   have HEQ:=Lib.hid (Tm.putG_var g t b pl hk2)
   have hI2:=hI _ _ hIP (boxes_under HB0)
   have CALL:=Lib.hid (hvar t.i b pl _ hI2 hv.1 hv.2 hb (by omega))
   clear hk2 ih hn hk hf hl hIP hI2 hi
   go_enter Try.func43,Try.ntmps43
   go_upto_region 1 with fail
   generalize wi.alloc (.cells #[.func (.func fid) #[] #[.pointer (some ⟨bv,0,none⟩)]] 68)=w at hN hPc hbP HB0 CALL ⊢
   rw [←hN]
   have HBP:=Lib.hid hbP
   have hplt:wi.heap.size<w.heap.size:=by omega
   have hplt1:wi.heap.size<w.heap.size+1:=by omega
   have HLW:=Lib.hid (HL.out.keep hbP)
   clear hbP hN
   go_wp2_with fail
   refine CALL.out.mono ?_
   rintro e w2 ⟨hbn,hg⟩
   have HB2:=boxes_call HB0 hbn
   obtain⟨-,q1⟩:=boxes_two HB2
   obtain⟨z0,z1,z2,z3,z4⟩:=five_cells q1
   obtain⟨f0,f1,f2,f3,f4⟩:=five_free q1
   rcases hg with ⟨u,s',hr',rfl,hlu⟩ | ⟨z,a9,n9,c9,hr',rfl⟩
   ·obtain⟨a2,cap2,rfl,-,-⟩:=hlu.out
    have HLU:=Lib.hid hlu
    have HR:=Lib.hid hr'
    clear hbn hlu hr'
    go_wp2
    (try simp only [Exit.inBlock,Exit.then])
    refine bodyPost_ret (results_cell_tmp rfl _ _ (w.heap.size+1) _ _ _ du rfl (five_set q1) hu1 (by cases du<;>first | rfl | exact hu2) size_term) rfl ?_
    refine GivesN.wide ⟨below_five (boxes_under HB2) (by omega) _ _ _ _ _,Or.inl ⟨u,_,HEQ.out.trans HR.out,rfl,liesP_fives HLU.out (by simp<;>omega) (by simp<;>omega) _ _ _ _ _⟩⟩ HBP.out
   ·have HR:=Lib.hid hr'
    clear hbn hr'
    go_wp2
    (try simp only [Exit.inBlock,Exit.then])
    refine bodyPost_ret (results_cell_tmp rfl _ _ (w.heap.size+1) _ _ _ du rfl (five_set q1) hu1 (by cases du<;>first | rfl | exact hu2) size_term) rfl ?_
    exact GivesN.wide ⟨below_five (boxes_under HB2) (by omega) _ _ _ _ _,Or.inr ⟨z,a9,n9,c9,HEQ.out.trans HR.out,rfl⟩⟩ HBP.out
  ·have e2:(t.k==2)=false:=by simpa using hk2
   have HEQ:=Lib.hid (Tm.putG_node g t b pl hk2)
   have HRK:=Lib.hid (t.right_kids hr)
   have IH:=Lib.hid ih
   have HN:=Lib.hid hn
   have HK:=Lib.hid hk
   have HDE:=Lib.hid hde
   have hd0:=desk_start (wi.alloc (.cells #[.func (.func fid) #[] #[.pointer (some ⟨bv,0,none⟩)]] 68)) t t (.slice a t.kids.length cap) (.slice none 0 0)
   clear hk2 ih hn hk hf hr hl hde hi HB0
   by_cases h0:t.kids.length=0
   ·have h1:t.kids.length<1:=by omega
    have HNL:=Lib.hid (List.eq_nil_of_length_eq_zero h0)
    clear h0 IH HN HK
    go_enter Try.func43,Try.ntmps43
    go_upto_region 1 with fail
    generalize wi.alloc (.cells #[.func (.func fid) #[] #[.pointer (some ⟨bv,0,none⟩)]] 68)=w at hN hPc hbP hd0 ⊢
    rw [←hN]
    have HBP:=Lib.hid hbP
    have hplt:wi.heap.size<w.heap.size:=by omega
    have hplt1:wi.heap.size<w.heap.size+1:=by omega
    have HLW:=Lib.hid (HL.out.keep hbP)
    clear hbP hN
    go_wp2_with fail
    go_loopw [47] (fun i wr=>i=.int .i64 0∧Desk w t t (.slice a t.kids.length cap) (.slice none 0 0) wr) (fun _ _=>0)
    case atStart=>exact⟨rfl,hd0⟩
    case round =>
     clear hd0
     obtain⟨rfl,hdk⟩:=hrel
     obtain⟨q0,q1,q2⟩:=desk_blocks hdk
     obtain⟨d0,d1,d2,d3,d4⟩:=five_cells q0
     obtain⟨y0,y1,y2,y3,y4⟩:=five_cells q2
     obtain⟨z0,z1,z2,z3,z4⟩:=five_cells q1
     obtain⟨f0,f1,f2,f3,f4⟩:=five_free q1
     clear q0 q2
     go_wp2_with fail
     (try simp only [Exit.inBlock,Exit.then])
     refine bodyPost_ret (results_cell_tmp rfl _ _ (w.heap.size+1) _ _ _ du rfl (five_set q1) hu1 (by cases du<;>first | rfl | exact hu2) size_term) rfl ?_
     exact GivesN.wide ⟨((((((desk_under hdk).setCell (by simp) _).setCell (by simp) _).setCell (by simp) _).setCell (by simp) _).setCell (by simp) _),Or.inl ⟨.mk t.k t.i t.j t.n [],.slice none 0 0,by rw [HEQ.out,HNL.out];rfl,rfl,liesP_nil _ _⟩⟩ HBP.out
   ·have h0':0<t.kids.length:=by omega
    obtain⟨i0,hi,hz0,hz1,hz2⟩:=info_parts info_term
    have HI:=Lib.hid (And.intro hi (And.intro hz0 (And.intro hz1 hz2)))
    have HBase:=Lib.hid hb
    clear hi hz0 hz1 hz2 h0
    go_enter Try.func43,Try.ntmps43
    go_upto_region 1 with fail
    generalize wi.alloc (.cells #[.func (.func fid) #[] #[.pointer (some ⟨bv,0,none⟩)]] 68)=w at hN hPc hbP hd0 hIP ⊢
    rw [←hN]
    have HBP:=Lib.hid hbP
    have hplt:wi.heap.size<w.heap.size:=by omega
    have hplt1:wi.heap.size<w.heap.size+1:=by omega
    have HLW:=Lib.hid (HL.out.keep hbP)
    clear hbP hN
    have HPC:=Lib.hid hPc
    have HIW:=Lib.hid hIP
    clear hIP
    go_wp2_with (at_make;refine wpList_make_full _ rfl _ _ 22 rfl (w.heap.size+3) 24 i0 _ 5 (by kernel_rfl) HI.out.1 HI.out.2.1 HI.out.2.2.1 _ _ _ _ t.kids.length rfl rfl rfl rfl ?bytes ?max ?base ?next)
    case bytes=>rw [HI.out.2.2.2];omega
    case max=>unfold maxLen;omega
    case base=>simp
    case next =>
    intro w1 hown hgrow
    have hful:=full_made hown
    have hbel:Below (w.heap.size+3) _ w1:=(Below.refl _ _).grown hgrow (by simp) (by simp)
    have hd1:Desk w t t _ _ w1:=hbel
    clear hbel hgrow hown
    obtain⟨q0,q1,q2⟩:=desk_blocks hd1
    obtain⟨d0,d1,d2,d3,d4⟩:=five_cells q0
    obtain⟨y0,y1,y2,y3,y4⟩:=five_cells q2
    obtain⟨f0,f1,f2,f3,f4⟩:=five_free q2
    have hd2:=desk_set (v':=.slice (some ⟨w.heap.size+3,0,none⟩) t.kids.length t.kids.length) hd1
    clear q0 q1 q2
    have hf2:=hful.below (b:=w.heap.size+2) (o:=4) (by omega) (.slice (some ⟨w.heap.size+3,0,none⟩) t.kids.length t.kids.length)
    clear hd1 hful hd0
    go_wp2_with fail
    go_loopw [47] (fun i wr=>∃ (q:Nat) (xs:List (Tm × Value)),q≤t.kids.length∧i=.int .i64 q∧Hid (xs.length=t.kids.length)∧Hid (optK (fun q x=>x.putG g (b+bindsN t.k q) (pl||(t.k==12&&q==2))) 0 (t.kids.take q)=some ((xs.map (·.1)).take q))∧Full (w.heap.size+3) wr (w.heap.size+3) xs∧Desk w t t (.slice a t.kids.length cap) (.slice (some ⟨w.heap.size+3,0,none⟩) t.kids.length t.kids.length) wr) (fun i _=>t.kids.length-(intOf i).toNat)
    case atStart=>exact⟨0,_,Nat.zero_le _,rfl,List.length_replicate,rfl,hf2,hd2⟩
    case round =>
     clear hf2 hd2 d0 d1 d2 d3 d4 y0 y1 y2 y3 y4 f0 f1 f2 f3 f4
     obtain⟨q,xs,hq0,rfl,hxl,hxs,hfu,hdk⟩:=hrel
     have HXL:=Lib.hid hxl.out
     have HXS:=Lib.hid hxs.out
     clear hxl hxs hPc
     obtain⟨q0,q1,q2⟩:=desk_blocks hdk
     obtain⟨d0,d1,d2,d3,d4⟩:=five_cells q0
     obtain⟨y0,y1,y2,y3,y4⟩:=five_cells q2
     obtain⟨z0,z1,z2,z3,z4⟩:=five_cells q1
     obtain⟨f0,f1,f2,f3,f4⟩:=five_free q1
     have hsz:=desk_size hdk
     have hpc:=cell_lat (desk_under hdk) HPC.out
     have hplr:wi.heap.size<wr.heap.size:=by omega
     have hs0:w.heap.size<wr.heap.size:=by omega
     clear q0 q2
     by_cases hlt:q<t.kids.length
     ·obtain⟨b',o,rfl,hx⟩:=HN.out q hlt
      have hy:=hx.below ((HBP.out.trans ((desk_under hdk).mono HBP.out.size))) hx.lt
      obtain⟨c0,c1,c2,c3,c4⟩:=hy
      have hq:=HK.out q hlt
      obtain⟨a',cap',S',hS,-⟩:=hq.out
      rw [hS] at c4 hq
      have HM:=Lib.hid (List.getElem_mem hlt)
      have hbd:=binds_range t.k q
      have hdq:=deeps_get t.kids q hlt
      rw [HDE.out] at hd
      have hsum:IntKind.i64.wrap (b+bindsN t.k q)=b+bindsN t.k q:=IntWalk.i64_in _ (by omega)
      have hH0:=held_start wr t.kids[q] (.slice a' t.kids[q].kids.length cap')
      have hIr:=hI _ _ HIW.out (desk_under hdk)
      have CALL:∀ w',Held wr t.kids[q] (.slice a' t.kids[q].kids.length cap') w'→Calls Try.prog 43 #[.agg #[.func (.func fid) #[] #[.pointer (some ⟨bv,0,none⟩)]],tv t.kids[q] (.slice a' t.kids[q].kids.length cap'),.int .i64 (b+bindsN t.k q),.bool (pl||(t.k==12&&q==2))] w' (GivesN (t.kids[q].putG g (b+bindsN t.k q) (pl||(t.k==12&&q==2))) w'):=fun w' h' =>
       IH.out _ HM.out _ _ w' _ (hq.keep (HBP.out.trans (((desk_under hdk).trans ((held_below h').mono (by omega))).mono HBP.out.size))) (HRK.out _ HM.out) (by omega) (by omega) (hI _ _ hIr (held_below h'))
      have HCALL:=Lib.hid CALL
      have HFX:Hid (∀ u,t.kids[q].putG g (b+bindsN t.k q) (pl||(t.k==12&&q==2))=some u→u.fine):=fun u hu=>putG_fine hfine (HRK.out _ HM.out) (by omega) hu
      clear hS hq hx hd hdq hbd CALL hIr hH0
      cases pl with
      | true =>
       have hF:(true||(t.k==12&&q==2))=true:=rfl
       have hc:=HCALL.out
       rw [hF] at hc
       have hH0:=held_start wr t.kids[q] (.slice a' t.kids[q].kids.length cap')
       have CALL2:∀ w',Held wr t.kids[q] (.slice a' t.kids[q].kids.length cap') w'→Calls Try.prog 43 #[.agg #[.func (.func fid) #[] #[.pointer (some ⟨bv,0,none⟩)]],tv t.kids[q] (.slice a' t.kids[q].kids.length cap'),.int .i64 (b+bindsN t.k q),.bool true] w' (GivesY (t.kids[q].putG g (b+bindsN t.k q) (true||(t.k==12&&q==2))) w'):=fun w' h'=>(hc w' h').mono fun e w'' h=>by rw [←hF] at h;exact h.ans
       have CALLB:=Lib.hid (CALL2 (wr.alloc (.cells #[.int .i64 t.kids[q].k,.int .i64 t.kids[q].i,.int .i64 t.kids[q].j,.int .i64 t.kids[q].n,.slice a' t.kids[q].kids.length cap'] 24)).drew (held_drew hH0))
       have CALLA:=Lib.hid ((CALL2 ((wr.alloc (.cells #[.int .i64 t.kids[q].k,.int .i64 t.kids[q].i,.int .i64 t.kids[q].j,.int .i64 t.kids[q].n,.slice a' t.kids[q].kids.length cap'] 24)).alloc zeroObj).drew (held_drew (held_alloc hH0 _))).mono fun e w'' h=>And.intro h (zero_blocks_new h.below))
       clear hc HCALL CALL2 hF
       go_wp2_with fail
       refine wp_region_held_drew (S:=fun w'=>Held wr t.kids[q] (.slice a' t.kids[q].kids.length cap') w'∧w'.cell? ⟨w.heap.size,0,none⟩=some (.int .i64 t.k)∧w'.cell? ⟨wi.heap.size,0,none⟩=some (.func (.func fid) #[] #[.pointer (some ⟨bv,0,none⟩)])∧w'.cell? ⟨wr.heap.size,0,none⟩=some (.int .i64 t.kids[q].k)∧w'.cell? ⟨wr.heap.size,1,none⟩=some (.int .i64 t.kids[q].i)∧w'.cell? ⟨wr.heap.size,2,none⟩=some (.int .i64 t.kids[q].j)∧w'.cell? ⟨wr.heap.size,3,none⟩=some (.int .i64 t.kids[q].n)∧w'.cell? ⟨wr.heap.size,4,none⟩=some (.slice a' t.kids[q].kids.length cap')) (by kernel_rfl) ?_ (fun hHeld=>?_)
       ·(try dsimp only)
        (((with_reducible refine held_and2 ?_ d0 hpc);repeat (first | with_reducible assumption | with_reducible exact hH0 | with_reducible refine held_drew ?_ | with_reducible refine held_alloc ?_ _ | ((with_reducible refine held_set ?_ ?hh _);(case hh=>simp)))))
       refine wpAnyH_take (i:=0) (oi:={dst:=some 53,op:=Go.Op.load 68 (Go.Operand.tmp 4),type:=68,pos := "subst.go:89",after:=#[],guard:=none}) (v:=?_) rfl (by kernel_rfl) (by kernel_rfl) (by kernel_rfl) (fun _ _ _ h=>h) (Or.inl ⟨by rfl,?_⟩) (by assumption) ?_
       rotate_left 1
       ·((intro w hSw;(try dsimp only at hSw);go_simp)<;>with_reducible rfl)
       (try simp only [Act.put,List.setIfInBounds_toArray,List.set_cons_zero,List.set_cons_succ])
       refine wpAnyH_take (i:=1) (oi:={dst:=some 54,op:=Go.Op.load 24 (Go.Operand.tmp 12),type:=24,pos := "subst.go:89",after:=#[],guard:=none}) (v:=?_) rfl (by kernel_rfl) (by kernel_rfl) (by kernel_rfl) (fun _ _ _ h=>h) (Or.inl ⟨by rfl,?_⟩) (by assumption) ?_
       rotate_left 1
       ·((intro w hSw;(try dsimp only at hSw);go_simp)<;>with_reducible rfl)
       (try simp only [Act.put,List.setIfInBounds_toArray,List.set_cons_zero,List.set_cons_succ])
       refine wpAnyH_take (i:=2) (oi:={dst:=some 55,op:=Go.Op.move (Go.Operand.tmp 2),type:=3,pos := "subst.go:89",after:=#[],guard:=none}) (v:=?_) rfl (by kernel_rfl) (by kernel_rfl) (by kernel_rfl) (fun _ _ _ h=>h) (Or.inl ⟨by rfl,?_⟩) (by assumption) ?_
       rotate_left 1
       ·((intro w hSw;(try dsimp only at hSw);go_simp)<;>with_reducible rfl)
       (try simp only [Act.put,List.setIfInBounds_toArray,List.set_cons_zero,List.set_cons_succ])
       refine wpAnyH_take (i:=3) (oi:={dst:=some 56,op:=Go.Op.fieldAddr 24 (Go.Operand.tmp 5) 0,type:=0,pos := "subst.go:89",after:=#[],guard:=none}) (v:=?_) rfl (by kernel_rfl) (by kernel_rfl) (by kernel_rfl) (fun _ _ _ h=>h) (Or.inl ⟨by rfl,?_⟩) (by assumption) ?_
       rotate_left 1
       ·((intro w hSw;(try dsimp only at hSw);go_simp)<;>with_reducible rfl)
       (try simp only [Act.put,List.setIfInBounds_toArray,List.set_cons_zero,List.set_cons_succ])
       refine wpAnyH_take (i:=4) (oi:={dst:=some 57,op:=Go.Op.load 3 (Go.Operand.tmp 56),type:=3,pos := "subst.go:89",after:=#[{on:=3,ground:=Go.Ground.data}],guard:=none}) (v:=?_) rfl (by kernel_rfl) (by kernel_rfl) (by kernel_rfl) (fun _ _ _ h=>h) (Or.inl ⟨by rfl,?_⟩) (by assumption) ?_
       rotate_left 1
       ·((intro w hSw;(try dsimp only at hSw);go_simp)<;>with_reducible rfl)
       (try simp only [Act.put,List.setIfInBounds_toArray,List.set_cons_zero,List.set_cons_succ])
       refine wpAnyH_take (i:=5) (oi:={dst:=some 58,op:=Go.Op.move (Go.Operand.tmp 11),type:=3,pos := "subst.go:89",after:=#[],guard:=none}) (v:=?_) rfl (by kernel_rfl) (by kernel_rfl) (by kernel_rfl) (fun _ _ _ h=>h) (Or.inl ⟨by rfl,?_⟩) (by assumption) ?_
       rotate_left 1
       ·((intro w hSw;(try dsimp only at hSw);go_simp)<;>with_reducible rfl)
       (try simp only [Act.put,List.setIfInBounds_toArray,List.set_cons_zero,List.set_cons_succ])
       refine wpAnyH_take (i:=8) (oi:={dst:=some 61,op:=Go.Op.move (Go.Operand.tmp 3),type:=4,pos := "subst.go:89",after:=#[],guard:=none}) (v:=?_) rfl (by kernel_rfl) (by kernel_rfl) (by kernel_rfl) (fun _ _ _ h=>h) (Or.inl ⟨by rfl,?_⟩) (by assumption) ?_
       rotate_left 1
       ·((intro w hSw;(try dsimp only at hSw);go_simp)<;>with_reducible rfl)
       (try simp only [Act.put,List.setIfInBounds_toArray,List.set_cons_zero,List.set_cons_succ])
       refine wpAnyH_ready (rs:=[6,22]) (by kernel_rfl) (by simp) ?_
       refine AllReadyH.cons (o:={dst:=some 59,op:=Go.Op.call {callee:=Go.Callee.value (Go.Operand.func 58),args:=#[Go.Operand.tmp 57,Go.Operand.tmp 58],argTypes:=#[3,3] },type:=3,pos := "subst.go:89",after:=#[{on:=4,ground:=Go.Ground.data},{on:=5,ground:=Go.Ground.data}],guard:=none}) rfl (fun K hK=>?_) ?_
       ·go_simp
        ((go_at_call 58;refine(binds_any _ _ _).mono ?_;rintro e w' ⟨rfl,rfl⟩))
        refine hK.out _ _ ?_ (fun hHeld=>?_)
        ·(try dsimp only)
         (((with_reducible refine held_and2 ?_ d0 hpc);repeat (first | with_reducible assumption | with_reducible exact hH0 | with_reducible refine held_drew ?_ | with_reducible refine held_alloc ?_ _ | ((with_reducible refine held_set ?_ ?hh _);(case hh=>simp)))))
        clear hK K
        (try simp only [Act.put,List.setIfInBounds_toArray,List.set_cons_zero,List.set_cons_succ])
        refine wpAnyH_take (i:=7) (oi:={dst:=some 60,op:=Go.Op.binOp Go.BinOp.add 3 (Go.Operand.tmp 55) (Go.Operand.tmp 59) 3,type:=3,pos := "subst.go:89",after:=#[{on:=2,ground:=Go.Ground.data},{on:=6,ground:=Go.Ground.data}],guard:=none}) (v:=?_) rfl (by kernel_rfl) (by kernel_rfl) (by kernel_rfl) (fun _ _ _ h=>h) (Or.inl ⟨by rfl,?_⟩) (by assumption) ?_
        rotate_left 1
        ·((intro w hSw;(try dsimp only at hSw);go_simp)<;>with_reducible rfl)
        (try simp only [Act.put,List.setIfInBounds_toArray,List.set_cons_zero,List.set_cons_succ])
        refine wpAnyH_take (i:=9) (oi:={dst:=some 62,op:=Go.Op.move (Go.Operand.tmp 61),type:=4,pos := "subst.go:89",after:=#[{on:=8,ground:=Go.Ground.data},{on:=6,ground:=Go.Ground.chain}],guard:=none}) (v:=?_) rfl (by kernel_rfl) (by kernel_rfl) (by kernel_rfl) (fun _ _ _ h=>h) (Or.inl ⟨by rfl,?_⟩) (by assumption) ?_
        rotate_left 1
        ·((intro w hSw;(try dsimp only at hSw);go_simp)<;>with_reducible rfl)
        (try simp only [Act.put,List.setIfInBounds_toArray,List.set_cons_zero,List.set_cons_succ])
        refine wpAnyH_take (i:=10) (oi:={dst:=some 63,op:=Go.Op.fieldAddr 24 (Go.Operand.tmp 5) 0,type:=0,pos := "subst.go:89",after:=#[{on:=9,ground:=Go.Ground.guard}],guard:=some (9,false) }) (v:=undef) rfl (by kernel_rfl) (by kernel_rfl) (by kernel_rfl) (fun _ _ _ h=>h) (Or.inr ⟨by rfl,rfl⟩) (by assumption) ?_
        (try simp only [Act.put,List.setIfInBounds_toArray,List.set_cons_zero,List.set_cons_succ])
        refine wpAnyH_take (i:=11) (oi:={dst:=some 64,op:=Go.Op.load 3 (Go.Operand.tmp 63),type:=3,pos := "subst.go:89",after:=#[{on:=10,ground:=Go.Ground.data},{on:=9,ground:=Go.Ground.guard}],guard:=some (9,false) }) (v:=undef) rfl (by kernel_rfl) (by kernel_rfl) (by kernel_rfl) (fun _ _ _ h=>h) (Or.inr ⟨by rfl,rfl⟩) (by assumption) ?_
        (try simp only [Act.put,List.setIfInBounds_toArray,List.set_cons_zero,List.set_cons_succ])
        refine wpAnyH_take (i:=12) (oi:={dst:=some 65,op:=Go.Op.binOp Go.BinOp.eql 3 (Go.Operand.tmp 64) (Go.Operand.const (Go.Value.int Go.IntKind.i64 12)) 3,type:=4,pos := "subst.go:89",after:=#[{on:=11,ground:=Go.Ground.data},{on:=9,ground:=Go.Ground.guard}],guard:=some (9,false) }) (v:=undef) rfl (by kernel_rfl) (by kernel_rfl) (by kernel_rfl) (fun _ _ _ h=>h) (Or.inr ⟨by rfl,rfl⟩) (by assumption) ?_
        (try simp only [Act.put,List.setIfInBounds_toArray,List.set_cons_zero,List.set_cons_succ])
        refine wpAnyH_take (i:=13) (oi:={dst:=some 66,op:=Go.Op.move (Go.Operand.tmp 65),type:=4,pos := "subst.go:89",after:=#[{on:=12,ground:=Go.Ground.data},{on:=9,ground:=Go.Ground.chain},{on:=9,ground:=Go.Ground.guard}],guard:=some (9,false) }) (v:=undef) rfl (by kernel_rfl) (by kernel_rfl) (by kernel_rfl) (fun _ _ _ h=>h) (Or.inr ⟨by rfl,rfl⟩) (by assumption) ?_
        (try simp only [Act.put,List.setIfInBounds_toArray,List.set_cons_zero,List.set_cons_succ])
        refine wpAnyH_take (i:=14) (oi:={dst:=some 67,op:=Go.Op.move (Go.Operand.tmp 11),type:=3,pos := "subst.go:89",after:=#[{on:=13,ground:=Go.Ground.guard}],guard:=some (13,true) }) (v:=undef) rfl (by kernel_rfl) (by kernel_rfl) (by kernel_rfl) (fun _ _ _ h=>h) (Or.inr ⟨by rfl,rfl⟩) (by assumption) ?_
        (try simp only [Act.put,List.setIfInBounds_toArray,List.set_cons_zero,List.set_cons_succ])
        refine wpAnyH_take (i:=15) (oi:={dst:=some 68,op:=Go.Op.binOp Go.BinOp.eql 3 (Go.Operand.tmp 67) (Go.Operand.const (Go.Value.int Go.IntKind.i64 2)) 3,type:=4,pos := "subst.go:89",after:=#[{on:=14,ground:=Go.Ground.data},{on:=13,ground:=Go.Ground.guard}],guard:=some (13,true) }) (v:=undef) rfl (by kernel_rfl) (by kernel_rfl) (by kernel_rfl) (fun _ _ _ h=>h) (Or.inr ⟨by rfl,rfl⟩) (by assumption) ?_
        (try simp only [Act.put,List.setIfInBounds_toArray,List.set_cons_zero,List.set_cons_succ])
        refine wpAnyH_take (i:=16) (oi:={dst:=some 69,op:=Go.Op.pick (Go.Operand.tmp 66) (Go.Operand.tmp 68) (Go.Operand.const (Go.Value.bool false)),type:=4,pos := "subst.go:89",after:=#[{on:=13,ground:=Go.Ground.data},{on:=15,ground:=Go.Ground.data},{on:=9,ground:=Go.Ground.guard}],guard:=some (9,false) }) (v:=undef) rfl (by kernel_rfl) (by kernel_rfl) (by kernel_rfl) (fun _ _ _ h=>h) (Or.inr ⟨by rfl,rfl⟩) (by assumption) ?_
        (try simp only [Act.put,List.setIfInBounds_toArray,List.set_cons_zero,List.set_cons_succ])
        refine wpAnyH_take (i:=17) (oi:={dst:=some 70,op:=Go.Op.pick (Go.Operand.tmp 62) (Go.Operand.const (Go.Value.bool true)) (Go.Operand.tmp 69),type:=4,pos := "subst.go:89",after:=#[{on:=9,ground:=Go.Ground.data},{on:=16,ground:=Go.Ground.data}],guard:=none}) (v:=?_) rfl (by kernel_rfl) (by kernel_rfl) (by kernel_rfl) (fun _ _ _ h=>h) (Or.inl ⟨by rfl,?_⟩) (by assumption) ?_
        rotate_left 1
        ·((intro w hSw;(try dsimp only at hSw);go_simp)<;>with_reducible rfl)
        (try simp only [Act.put,List.setIfInBounds_toArray,List.set_cons_zero,List.set_cons_succ])
        refine wpAnyH_ready (rs:=[18,22]) (by kernel_rfl) (by simp) ?_
        refine AllReadyH.cons (o:={dst:=some 71,op:=Go.Op.call {callee:=Go.Callee.value (Go.Operand.func 43),args:=#[Go.Operand.tmp 53,Go.Operand.tmp 54,Go.Operand.tmp 60,Go.Operand.tmp 70],argTypes:=#[68,24,3,4] },type:=69,pos := "subst.go:89",after:=#[{on:=0,ground:=Go.Ground.data},{on:=1,ground:=Go.Ground.data},{on:=7,ground:=Go.Ground.data},{on:=17,ground:=Go.Ground.data},{on:=13,ground:=Go.Ground.chain}],guard:=none}) rfl (fun K hK=>?_) ?_
        ·go_simp
         ((go_at_call 43;((with_reducible refine Calls.mono CALLB.out ?_);rintro e wn ⟨u,a2,n2,cap2,ok,rfl,hbn,hans⟩;have HANS:=Lib.hid hans;clear hans;have hh:=held_call (held_drew hH0) hbn)))
         refine hK.out _ _ ?_ (fun hHeld=>?_)
         ·(try dsimp only)
          (((with_reducible refine held_and2 ?_ d0 hpc);repeat (first | with_reducible assumption | with_reducible exact hH0 | with_reducible refine held_drew ?_ | with_reducible refine held_alloc ?_ _ | ((with_reducible refine held_set ?_ ?hh _);(case hh=>simp)))))
         clear hK K
         (try simp only [Act.put,List.setIfInBounds_toArray,List.set_cons_zero,List.set_cons_succ])
         refine wpAnyH_take (i:=19) (oi:={dst:=some 52,op:=Go.Op.move (Go.Operand.tmp 71),type:=69,pos := "subst.go:89",after:=#[{on:=18,ground:=Go.Ground.data}],guard:=none}) (v:=?_) rfl (by kernel_rfl) (by kernel_rfl) (by kernel_rfl) (fun _ _ _ h=>h) (Or.inl ⟨by rfl,?_⟩) (by assumption) ?_
         rotate_left 1
         ·((intro w hSw;(try dsimp only at hSw);go_simp)<;>with_reducible rfl)
         (try simp only [Act.put,List.setIfInBounds_toArray,List.set_cons_zero,List.set_cons_succ])
         refine wpAnyH_take (i:=20) (oi:={dst:=some 72,op:=Go.Op.extract (Go.Operand.tmp 52) 0,type:=24,pos := "subst.go:89",after:=#[{on:=19,ground:=Go.Ground.data}],guard:=none}) (v:=?_) rfl (by kernel_rfl) (by kernel_rfl) (by kernel_rfl) (fun _ _ _ h=>h) (Or.inl ⟨by rfl,?_⟩) (by assumption) ?_
         rotate_left 1
         ·((intro w hSw;(try dsimp only at hSw);go_simp)<;>with_reducible rfl)
         (try simp only [Act.put,List.setIfInBounds_toArray,List.set_cons_zero,List.set_cons_succ])
         refine wpAnyH_take (i:=21) (oi:={dst:=some 73,op:=Go.Op.extract (Go.Operand.tmp 52) 1,type:=4,pos := "subst.go:89",after:=#[{on:=19,ground:=Go.Ground.data},{on:=23,ground:=Go.Ground.gcOnly Go.Departure.lateStores}],guard:=none}) (v:=?_) rfl (by kernel_rfl) (by kernel_rfl) (by kernel_rfl) (fun _ _ _ h=>h) (Or.inl ⟨by rfl,?_⟩) (by assumption) ?_
         rotate_left 1
         ·((intro w hSw;(try dsimp only at hSw);go_simp)<;>with_reducible rfl)
         (try simp only [Act.put,List.setIfInBounds_toArray,List.set_cons_zero,List.set_cons_succ])
         refine wpAnyH_ready (rs:=[22]) (by kernel_rfl) (by simp) ?_
         refine AllReadyH.cons (o:={dst:=some 13,op:=Go.Op.alloc 24,type:=0,pos := "subst.go:89",after:=#[],guard:=none}) rfl (fun K hK=>?_) ?_
         ·go_simp
          refine hK.out _ _ ?_ (fun hHeld=>?_)
          ·(try dsimp only)
           (((with_reducible refine held_and2 ?_ d0 hpc);repeat (first | with_reducible assumption | with_reducible exact hH0 | with_reducible refine held_drew ?_ | with_reducible refine held_alloc ?_ _ | ((with_reducible refine held_set ?_ ?hh _);(case hh=>simp)))))
          clear hK K
          (try simp only [Act.put,List.setIfInBounds_toArray,List.set_cons_zero,List.set_cons_succ])
          refine wpAnyH_ready (rs:=[23]) (by kernel_rfl) (by simp) ?_
          refine AllReadyH.cons (o:={dst:=none,op:=Go.Op.store 24 (Go.Operand.tmp 13) (Go.Operand.tmp 72),type:=0,pos := "subst.go:89",after:=#[{on:=22,ground:=Go.Ground.data},{on:=20,ground:=Go.Ground.data},{on:=18,ground:=Go.Ground.chain},{on:=0,ground:=Go.Ground.phase},{on:=1,ground:=Go.Ground.phase},{on:=2,ground:=Go.Ground.phase},{on:=3,ground:=Go.Ground.phase},{on:=4,ground:=Go.Ground.phase},{on:=5,ground:=Go.Ground.phase},{on:=6,ground:=Go.Ground.phase},{on:=7,ground:=Go.Ground.phase},{on:=8,ground:=Go.Ground.phase},{on:=9,ground:=Go.Ground.phase},{on:=10,ground:=Go.Ground.phase},{on:=11,ground:=Go.Ground.phase},{on:=12,ground:=Go.Ground.phase},{on:=13,ground:=Go.Ground.phase},{on:=14,ground:=Go.Ground.phase},{on:=15,ground:=Go.Ground.phase},{on:=16,ground:=Go.Ground.phase},{on:=17,ground:=Go.Ground.phase},{on:=18,ground:=Go.Ground.phase},{on:=19,ground:=Go.Ground.phase},{on:=20,ground:=Go.Ground.phase},{on:=21,ground:=Go.Ground.textOnly Go.Departure.lateStores},{on:=22,ground:=Go.Ground.phase}],guard:=none}) rfl (fun K hK=>?_) ?_
          ·go_simp
           refine hK.out _ _ ?_ (fun hHeld=>?_)
           ·(try dsimp only)
            (((with_reducible refine held_and2 ?_ d0 hpc);repeat (first | with_reducible assumption | with_reducible exact hH0 | with_reducible refine held_drew ?_ | with_reducible refine held_alloc ?_ _ | ((with_reducible refine held_set ?_ ?hh _);(case hh=>simp)))))
           clear hK K
           (try simp only [Act.put,List.setIfInBounds_toArray,List.set_cons_zero,List.set_cons_succ])
           refine wpAnyH_take (i:=24) (oi:={dst:=some 14,op:=Go.Op.assign (Go.Operand.tmp 73),type:=4,pos := "subst.go:89",after:=#[{on:=21,ground:=Go.Ground.data},{on:=23,ground:=Go.Ground.chain},{on:=0,ground:=Go.Ground.phase},{on:=1,ground:=Go.Ground.phase},{on:=2,ground:=Go.Ground.phase},{on:=3,ground:=Go.Ground.phase},{on:=4,ground:=Go.Ground.phase},{on:=5,ground:=Go.Ground.phase},{on:=6,ground:=Go.Ground.phase},{on:=7,ground:=Go.Ground.phase},{on:=8,ground:=Go.Ground.phase},{on:=9,ground:=Go.Ground.phase},{on:=10,ground:=Go.Ground.phase},{on:=11,ground:=Go.Ground.phase},{on:=12,ground:=Go.Ground.phase},{on:=13,ground:=Go.Ground.phase},{on:=14,ground:=Go.Ground.phase},{on:=15,ground:=Go.Ground.phase},{on:=16,ground:=Go.Ground.phase},{on:=17,ground:=Go.Ground.phase},{on:=18,ground:=Go.Ground.phase},{on:=19,ground:=Go.Ground.phase},{on:=20,ground:=Go.Ground.phase},{on:=21,ground:=Go.Ground.phase},{on:=22,ground:=Go.Ground.phase},{on:=23,ground:=Go.Ground.phase}],guard:=none}) (v:=?_) rfl (by kernel_rfl) (by kernel_rfl) (by kernel_rfl) (fun _ _ _ h=>h) (Or.inl ⟨by rfl,?_⟩) (by assumption) ?_
           rotate_left 1
           ·((intro w hSw;(try dsimp only at hSw);go_simp)<;>with_reducible rfl)
           (try simp only [Act.put,List.setIfInBounds_toArray,List.set_cons_zero,List.set_cons_succ])
           refine wpAnyH_done (by kernel_rfl) ?_ _
           rcases HANS.out with ⟨rfl,hr,rfl,hl2⟩ | ⟨rfl,hr⟩
           ·have HFI2:=Lib.hid (HFX.out u hr)
            have hW:Held wr t.kids[q] (.slice a' t.kids[q].kids.length cap') (wn.alloc (.cells #[.int .i64 u.k,.int .i64 u.i,.int .i64 u.j,.int .i64 u.n,.slice a2 u.kids.length cap2] 24)):=held_alloc hh _
            have hLW:LiesP (wn.alloc (.cells #[.int .i64 u.k,.int .i64 u.i,.int .i64 u.j,.int .i64 u.n,.slice a2 u.kids.length cap2] 24)) (Own wr.heap.size (wn.alloc (.cells #[.int .i64 u.k,.int .i64 u.i,.int .i64 u.j,.int .i64 u.n,.slice a2 u.kids.length cap2] 24))) u.kids (.slice a2 u.kids.length cap2):=((hl2.from (by simp)).later ((Below.refl _ _).alloc (Nat.le_refl _) _))
            have hN:(wn.alloc (.cells #[.int .i64 u.k,.int .i64 u.i,.int .i64 u.j,.int .i64 u.n,.slice a2 u.kids.length cap2] 24)).heap[wn.heap.size]? =some (boxOf u (.slice a2 u.kids.length cap2)):=alloc_new _ _
            clear hh hbn hl2
            generalize (wn.alloc (.cells #[.int .i64 u.k,.int .i64 u.i,.int .i64 u.j,.int .i64 u.n,.slice a2 u.kids.length cap2] 24))=W at hW hLW hN ⊢
            have hdW:=desk_trans hdk (below_from (held_below hW) hsz)
            have hfW:=hfu.later (held_below hW)
            have hxq:q<xs.length:=by rw [HXL.out];exact hlt
            have hLF:=hfu.fresh hsz hLW
            obtain⟨-,-,q2⟩:=desk_blocks hdW
            obtain⟨y0,y1,y2,y3,y4⟩:=five_cells q2
            obtain⟨p0,p1,p2,p3,p4⟩:=five_cells hN
            obtain⟨x0,x1,x2,x3,x4⟩:=hfW.node q hxq
            obtain⟨cs,hcs⟩:=hfW.open'
            have f0:=open_unfrozen hcs (q * 5)
            have f1:=open_unfrozen hcs (q * 5+1)
            have f2:=open_unfrozen hcs (q * 5+2)
            have f3:=open_unfrozen hcs (q * 5+3)
            have f4:=open_unfrozen hcs (q * 5+4)
            have HFW:=Lib.hid hfW
            have HLF:=Lib.hid hLF
            have HFU:=Lib.hid hfu
            clear hcs hN hLW hW hfW hLF hfu d0 d1 d2 d3 d4 z0 z1 z2 z3 z4
            go_wp2
            go_roundw
            case rel=>exact⟨q+1,xs.set q (u,.slice a2 u.kids.length cap2),hlt,by go_num,by simp [Hid,HXL.out],by rw [Hid,optK_next hlt HXS.out hr,List.map_set,take_set_next _ _ _ (by simpa using hxq)],HFW.out.fill hxq HFI2.out HLF.out,desk_put hdW (Nat.le_refl _) _ _ _⟩
            case measure=>simp [intOf];omega
           ·have hW:Held wr t.kids[q] (.slice a' t.kids[q].kids.length cap') (wn.alloc (.cells #[.int .i64 u.k,.int .i64 u.i,.int .i64 u.j,.int .i64 u.n,.slice a2 n2 cap2] 24)):=held_alloc hh _
            clear hh hbn
            generalize (wn.alloc (.cells #[.int .i64 u.k,.int .i64 u.i,.int .i64 u.j,.int .i64 u.n,.slice a2 n2 cap2] 24))=W at hW ⊢
            have hdW:=desk_trans hdk (below_from (held_below hW) hsz)
            obtain⟨-,q1,-⟩:=desk_blocks hdW
            obtain⟨z0,z1,z2,z3,z4⟩:=five_cells q1
            obtain⟨f0,f1,f2,f3,f4⟩:=five_free q1
            go_wp2
            (try simp only [Exit.inBlock,Exit.then])
            refine bodyPost_ret (results_cell_tmp rfl _ _ (w.heap.size+1) _ _ _ du rfl (five_set q1) hu1 (by cases du<;>first | rfl | exact hu2) size_term) rfl ?_
            exact GivesN.wide ⟨((((((desk_under hdW).setCell (by simp) _).setCell (by simp) _).setCell (by simp) _).setCell (by simp) _).setCell (by simp) _),Or.inr ⟨Tm.zero,none,0,0,by rw [HEQ.out,optK_stop hlt hr];rfl,rfl⟩⟩ HBP.out
          exact AllReadyH.nil
         exact AllReadyH.nil
        refine AllReadyH.cons (o:={dst:=some 13,op:=Go.Op.alloc 24,type:=0,pos := "subst.go:89",after:=#[],guard:=none}) rfl (fun K hK=>?_) ?_
        ·go_simp
         refine hK.out _ _ ?_ (fun hHeld=>?_)
         ·(try dsimp only)
          (((with_reducible refine held_and2 ?_ d0 hpc);repeat (first | with_reducible assumption | with_reducible exact hH0 | with_reducible refine held_drew ?_ | with_reducible refine held_alloc ?_ _ | ((with_reducible refine held_set ?_ ?hh _);(case hh=>simp)))))
         clear hK K
         (try simp only [Act.put,List.setIfInBounds_toArray,List.set_cons_zero,List.set_cons_succ])
         refine wpAnyH_ready (rs:=[18]) (by kernel_rfl) (by simp) ?_
         refine AllReadyH.cons (o:={dst:=some 71,op:=Go.Op.call {callee:=Go.Callee.value (Go.Operand.func 43),args:=#[Go.Operand.tmp 53,Go.Operand.tmp 54,Go.Operand.tmp 60,Go.Operand.tmp 70],argTypes:=#[68,24,3,4] },type:=69,pos := "subst.go:89",after:=#[{on:=0,ground:=Go.Ground.data},{on:=1,ground:=Go.Ground.data},{on:=7,ground:=Go.Ground.data},{on:=17,ground:=Go.Ground.data},{on:=13,ground:=Go.Ground.chain}],guard:=none}) rfl (fun K hK=>?_) ?_
         ·go_simp
          ((go_at_call 43;((with_reducible refine Calls.mono CALLA.out ?_);rintro e wn ⟨⟨u,a2,n2,cap2,ok,rfl,hbn,hans⟩,hZ⟩;obtain⟨⟨g0,g1,g2,g3,g4⟩,k0,k1,k2,k3,k4⟩:=And.intro (five_cells hZ) (five_free hZ);have HANS:=Lib.hid hans;clear hans;have hh:=held_call (held_drew (held_alloc hH0 _)) hbn)))
          refine hK.out _ _ ?_ (fun hHeld=>?_)
          ·(try dsimp only)
           (((with_reducible refine held_and2 ?_ d0 hpc);repeat (first | with_reducible assumption | with_reducible exact hH0 | with_reducible refine held_drew ?_ | with_reducible refine held_alloc ?_ _ | ((with_reducible refine held_set ?_ ?hh _);(case hh=>simp)))))
          clear hK K
          (try simp only [Act.put,List.setIfInBounds_toArray,List.set_cons_zero,List.set_cons_succ])
          refine wpAnyH_take (i:=19) (oi:={dst:=some 52,op:=Go.Op.move (Go.Operand.tmp 71),type:=69,pos := "subst.go:89",after:=#[{on:=18,ground:=Go.Ground.data}],guard:=none}) (v:=?_) rfl (by kernel_rfl) (by kernel_rfl) (by kernel_rfl) (fun _ _ _ h=>h) (Or.inl ⟨by rfl,?_⟩) (by assumption) ?_
          rotate_left 1
          ·((intro w hSw;(try dsimp only at hSw);go_simp)<;>with_reducible rfl)
          (try simp only [Act.put,List.setIfInBounds_toArray,List.set_cons_zero,List.set_cons_succ])
          refine wpAnyH_take (i:=20) (oi:={dst:=some 72,op:=Go.Op.extract (Go.Operand.tmp 52) 0,type:=24,pos := "subst.go:89",after:=#[{on:=19,ground:=Go.Ground.data}],guard:=none}) (v:=?_) rfl (by kernel_rfl) (by kernel_rfl) (by kernel_rfl) (fun _ _ _ h=>h) (Or.inl ⟨by rfl,?_⟩) (by assumption) ?_
          rotate_left 1
          ·((intro w hSw;(try dsimp only at hSw);go_simp)<;>with_reducible rfl)
          (try simp only [Act.put,List.setIfInBounds_toArray,List.set_cons_zero,List.set_cons_succ])
          refine wpAnyH_take (i:=21) (oi:={dst:=some 73,op:=Go.Op.extract (Go.Operand.tmp 52) 1,type:=4,pos := "subst.go:89",after:=#[{on:=19,ground:=Go.Ground.data},{on:=23,ground:=Go.Ground.gcOnly Go.Departure.lateStores}],guard:=none}) (v:=?_) rfl (by kernel_rfl) (by kernel_rfl) (by kernel_rfl) (fun _ _ _ h=>h) (Or.inl ⟨by rfl,?_⟩) (by assumption) ?_
          rotate_left 1
          ·((intro w hSw;(try dsimp only at hSw);go_simp)<;>with_reducible rfl)
          (try simp only [Act.put,List.setIfInBounds_toArray,List.set_cons_zero,List.set_cons_succ])
          refine wpAnyH_ready (rs:=[23]) (by kernel_rfl) (by simp) ?_
          refine AllReadyH.cons (o:={dst:=none,op:=Go.Op.store 24 (Go.Operand.tmp 13) (Go.Operand.tmp 72),type:=0,pos := "subst.go:89",after:=#[{on:=22,ground:=Go.Ground.data},{on:=20,ground:=Go.Ground.data},{on:=18,ground:=Go.Ground.chain},{on:=0,ground:=Go.Ground.phase},{on:=1,ground:=Go.Ground.phase},{on:=2,ground:=Go.Ground.phase},{on:=3,ground:=Go.Ground.phase},{on:=4,ground:=Go.Ground.phase},{on:=5,ground:=Go.Ground.phase},{on:=6,ground:=Go.Ground.phase},{on:=7,ground:=Go.Ground.phase},{on:=8,ground:=Go.Ground.phase},{on:=9,ground:=Go.Ground.phase},{on:=10,ground:=Go.Ground.phase},{on:=11,ground:=Go.Ground.phase},{on:=12,ground:=Go.Ground.phase},{on:=13,ground:=Go.Ground.phase},{on:=14,ground:=Go.Ground.phase},{on:=15,ground:=Go.Ground.phase},{on:=16,ground:=Go.Ground.phase},{on:=17,ground:=Go.Ground.phase},{on:=18,ground:=Go.Ground.phase},{on:=19,ground:=Go.Ground.phase},{on:=20,ground:=Go.Ground.phase},{on:=21,ground:=Go.Ground.textOnly Go.Departure.lateStores},{on:=22,ground:=Go.Ground.phase}],guard:=none}) rfl (fun K hK=>?_) ?_
          ·go_simp
           refine hK.out _ _ ?_ (fun hHeld=>?_)
           ·(try dsimp only)
            (((with_reducible refine held_and2 ?_ d0 hpc);repeat (first | with_reducible assumption | with_reducible exact hH0 | with_reducible refine held_drew ?_ | with_reducible refine held_alloc ?_ _ | ((with_reducible refine held_set ?_ ?hh _);(case hh=>simp)))))
           clear hK K
           (try simp only [Act.put,List.setIfInBounds_toArray,List.set_cons_zero,List.set_cons_succ])
           refine wpAnyH_take (i:=24) (oi:={dst:=some 14,op:=Go.Op.assign (Go.Operand.tmp 73),type:=4,pos := "subst.go:89",after:=#[{on:=21,ground:=Go.Ground.data},{on:=23,ground:=Go.Ground.chain},{on:=0,ground:=Go.Ground.phase},{on:=1,ground:=Go.Ground.phase},{on:=2,ground:=Go.Ground.phase},{on:=3,ground:=Go.Ground.phase},{on:=4,ground:=Go.Ground.phase},{on:=5,ground:=Go.Ground.phase},{on:=6,ground:=Go.Ground.phase},{on:=7,ground:=Go.Ground.phase},{on:=8,ground:=Go.Ground.phase},{on:=9,ground:=Go.Ground.phase},{on:=10,ground:=Go.Ground.phase},{on:=11,ground:=Go.Ground.phase},{on:=12,ground:=Go.Ground.phase},{on:=13,ground:=Go.Ground.phase},{on:=14,ground:=Go.Ground.phase},{on:=15,ground:=Go.Ground.phase},{on:=16,ground:=Go.Ground.phase},{on:=17,ground:=Go.Ground.phase},{on:=18,ground:=Go.Ground.phase},{on:=19,ground:=Go.Ground.phase},{on:=20,ground:=Go.Ground.phase},{on:=21,ground:=Go.Ground.phase},{on:=22,ground:=Go.Ground.phase},{on:=23,ground:=Go.Ground.phase}],guard:=none}) (v:=?_) rfl (by kernel_rfl) (by kernel_rfl) (by kernel_rfl) (fun _ _ _ h=>h) (Or.inl ⟨by rfl,?_⟩) (by assumption) ?_
           rotate_left 1
           ·((intro w hSw;(try dsimp only at hSw);go_simp)<;>with_reducible rfl)
           (try simp only [Act.put,List.setIfInBounds_toArray,List.set_cons_zero,List.set_cons_succ])
           refine wpAnyH_done (by kernel_rfl) ?_ _
           rcases HANS.out with ⟨rfl,hr,rfl,hl2⟩ | ⟨rfl,hr⟩
           ·have HFI2:=Lib.hid (HFX.out u hr)
            have hW:Held wr t.kids[q] (.slice a' t.kids[q].kids.length cap') (((((wn.setCell ⟨wr.heap.size+1,0,none⟩ (.int .i64 u.k)).setCell ⟨wr.heap.size+1,1,none⟩ (.int .i64 u.i)).setCell ⟨wr.heap.size+1,2,none⟩ (.int .i64 u.j)).setCell ⟨wr.heap.size+1,3,none⟩ (.int .i64 u.n)).setCell ⟨wr.heap.size+1,4,none⟩ (.slice a2 u.kids.length cap2)):=held_five hh _ _ _ _ _
            have hLW:LiesP (((((wn.setCell ⟨wr.heap.size+1,0,none⟩ (.int .i64 u.k)).setCell ⟨wr.heap.size+1,1,none⟩ (.int .i64 u.i)).setCell ⟨wr.heap.size+1,2,none⟩ (.int .i64 u.j)).setCell ⟨wr.heap.size+1,3,none⟩ (.int .i64 u.n)).setCell ⟨wr.heap.size+1,4,none⟩ (.slice a2 u.kids.length cap2)) (Own wr.heap.size (((((wn.setCell ⟨wr.heap.size+1,0,none⟩ (.int .i64 u.k)).setCell ⟨wr.heap.size+1,1,none⟩ (.int .i64 u.i)).setCell ⟨wr.heap.size+1,2,none⟩ (.int .i64 u.j)).setCell ⟨wr.heap.size+1,3,none⟩ (.int .i64 u.n)).setCell ⟨wr.heap.size+1,4,none⟩ (.slice a2 u.kids.length cap2))) u.kids (.slice a2 u.kids.length cap2):=liesP_five (hl2.from (B':=wr.heap.size+2) (by simp)) _ _ _ _ _
            have hN:(((((wn.setCell ⟨wr.heap.size+1,0,none⟩ (.int .i64 u.k)).setCell ⟨wr.heap.size+1,1,none⟩ (.int .i64 u.i)).setCell ⟨wr.heap.size+1,2,none⟩ (.int .i64 u.j)).setCell ⟨wr.heap.size+1,3,none⟩ (.int .i64 u.n)).setCell ⟨wr.heap.size+1,4,none⟩ (.slice a2 u.kids.length cap2)).heap[wr.heap.size+1]? =some (boxOf u (.slice a2 u.kids.length cap2)):=five_set hZ
            clear hh hbn hl2 hZ g0 g1 g2 g3 g4 k0 k1 k2 k3 k4
            generalize (((((wn.setCell ⟨wr.heap.size+1,0,none⟩ (.int .i64 u.k)).setCell ⟨wr.heap.size+1,1,none⟩ (.int .i64 u.i)).setCell ⟨wr.heap.size+1,2,none⟩ (.int .i64 u.j)).setCell ⟨wr.heap.size+1,3,none⟩ (.int .i64 u.n)).setCell ⟨wr.heap.size+1,4,none⟩ (.slice a2 u.kids.length cap2))=W at hW hLW hN ⊢
            have hdW:=desk_trans hdk (below_from (held_below hW) hsz)
            have hfW:=hfu.later (held_below hW)
            have hxq:q<xs.length:=by rw [HXL.out];exact hlt
            have hLF:=hfu.fresh hsz hLW
            obtain⟨-,-,q2⟩:=desk_blocks hdW
            obtain⟨y0,y1,y2,y3,y4⟩:=five_cells q2
            obtain⟨p0,p1,p2,p3,p4⟩:=five_cells hN
            obtain⟨x0,x1,x2,x3,x4⟩:=hfW.node q hxq
            obtain⟨cs,hcs⟩:=hfW.open'
            have f0:=open_unfrozen hcs (q * 5)
            have f1:=open_unfrozen hcs (q * 5+1)
            have f2:=open_unfrozen hcs (q * 5+2)
            have f3:=open_unfrozen hcs (q * 5+3)
            have f4:=open_unfrozen hcs (q * 5+4)
            have HFW:=Lib.hid hfW
            have HLF:=Lib.hid hLF
            have HFU:=Lib.hid hfu
            clear hcs hN hLW hW hfW hLF hfu d0 d1 d2 d3 d4 z0 z1 z2 z3 z4
            go_wp2
            go_roundw
            case rel=>exact⟨q+1,xs.set q (u,.slice a2 u.kids.length cap2),hlt,by go_num,by simp [Hid,HXL.out],by rw [Hid,optK_next hlt HXS.out hr,List.map_set,take_set_next _ _ _ (by simpa using hxq)],HFW.out.fill hxq HFI2.out HLF.out,desk_put hdW (Nat.le_refl _) _ _ _⟩
            case measure=>simp [intOf];omega
           ·have hW:Held wr t.kids[q] (.slice a' t.kids[q].kids.length cap') (((((wn.setCell ⟨wr.heap.size+1,0,none⟩ (.int .i64 u.k)).setCell ⟨wr.heap.size+1,1,none⟩ (.int .i64 u.i)).setCell ⟨wr.heap.size+1,2,none⟩ (.int .i64 u.j)).setCell ⟨wr.heap.size+1,3,none⟩ (.int .i64 u.n)).setCell ⟨wr.heap.size+1,4,none⟩ (.slice a2 n2 cap2)):=held_five hh _ _ _ _ _
            clear hh hbn hZ g0 g1 g2 g3 g4 k0 k1 k2 k3 k4
            generalize (((((wn.setCell ⟨wr.heap.size+1,0,none⟩ (.int .i64 u.k)).setCell ⟨wr.heap.size+1,1,none⟩ (.int .i64 u.i)).setCell ⟨wr.heap.size+1,2,none⟩ (.int .i64 u.j)).setCell ⟨wr.heap.size+1,3,none⟩ (.int .i64 u.n)).setCell ⟨wr.heap.size+1,4,none⟩ (.slice a2 n2 cap2))=W at hW ⊢
            have hdW:=desk_trans hdk (below_from (held_below hW) hsz)
            obtain⟨-,q1,-⟩:=desk_blocks hdW
            obtain⟨z0,z1,z2,z3,z4⟩:=five_cells q1
            obtain⟨f0,f1,f2,f3,f4⟩:=five_free q1
            go_wp2
            (try simp only [Exit.inBlock,Exit.then])
            refine bodyPost_ret (results_cell_tmp rfl _ _ (w.heap.size+1) _ _ _ du rfl (five_set q1) hu1 (by cases du<;>first | rfl | exact hu2) size_term) rfl ?_
            exact GivesN.wide ⟨((((((desk_under hdW).setCell (by simp) _).setCell (by simp) _).setCell (by simp) _).setCell (by simp) _).setCell (by simp) _),Or.inr ⟨Tm.zero,none,0,0,by rw [HEQ.out,optK_stop hlt hr];rfl,rfl⟩⟩ HBP.out
          exact AllReadyH.nil
         exact AllReadyH.nil
        exact AllReadyH.nil
       refine AllReadyH.cons (o:={dst:=some 13,op:=Go.Op.alloc 24,type:=0,pos := "subst.go:89",after:=#[],guard:=none}) rfl (fun K hK=>?_) ?_
       ·go_simp
        refine hK.out _ _ ?_ (fun hHeld=>?_)
        ·(try dsimp only)
         (((with_reducible refine held_and2 ?_ d0 hpc);repeat (first | with_reducible assumption | with_reducible exact hH0 | with_reducible refine held_drew ?_ | with_reducible refine held_alloc ?_ _ | ((with_reducible refine held_set ?_ ?hh _);(case hh=>simp)))))
        clear hK K
        (try simp only [Act.put,List.setIfInBounds_toArray,List.set_cons_zero,List.set_cons_succ])
        refine wpAnyH_ready (rs:=[6]) (by kernel_rfl) (by simp) ?_
        refine AllReadyH.cons (o:={dst:=some 59,op:=Go.Op.call {callee:=Go.Callee.value (Go.Operand.func 58),args:=#[Go.Operand.tmp 57,Go.Operand.tmp 58],argTypes:=#[3,3] },type:=3,pos := "subst.go:89",after:=#[{on:=4,ground:=Go.Ground.data},{on:=5,ground:=Go.Ground.data}],guard:=none}) rfl (fun K hK=>?_) ?_
        ·go_simp
         ((go_at_call 58;refine(binds_any _ _ _).mono ?_;rintro e w' ⟨rfl,rfl⟩))
         refine hK.out _ _ ?_ (fun hHeld=>?_)
         ·(try dsimp only)
          (((with_reducible refine held_and2 ?_ d0 hpc);repeat (first | with_reducible assumption | with_reducible exact hH0 | with_reducible refine held_drew ?_ | with_reducible refine held_alloc ?_ _ | ((with_reducible refine held_set ?_ ?hh _);(case hh=>simp)))))
         clear hK K
         (try simp only [Act.put,List.setIfInBounds_toArray,List.set_cons_zero,List.set_cons_succ])
         refine wpAnyH_take (i:=7) (oi:={dst:=some 60,op:=Go.Op.binOp Go.BinOp.add 3 (Go.Operand.tmp 55) (Go.Operand.tmp 59) 3,type:=3,pos := "subst.go:89",after:=#[{on:=2,ground:=Go.Ground.data},{on:=6,ground:=Go.Ground.data}],guard:=none}) (v:=?_) rfl (by kernel_rfl) (by kernel_rfl) (by kernel_rfl) (fun _ _ _ h=>h) (Or.inl ⟨by rfl,?_⟩) (by assumption) ?_
         rotate_left 1
         ·((intro w hSw;(try dsimp only at hSw);go_simp)<;>with_reducible rfl)
         (try simp only [Act.put,List.setIfInBounds_toArray,List.set_cons_zero,List.set_cons_succ])
         refine wpAnyH_take (i:=9) (oi:={dst:=some 62,op:=Go.Op.move (Go.Operand.tmp 61),type:=4,pos := "subst.go:89",after:=#[{on:=8,ground:=Go.Ground.data},{on:=6,ground:=Go.Ground.chain}],guard:=none}) (v:=?_) rfl (by kernel_rfl) (by kernel_rfl) (by kernel_rfl) (fun _ _ _ h=>h) (Or.inl ⟨by rfl,?_⟩) (by assumption) ?_
         rotate_left 1
         ·((intro w hSw;(try dsimp only at hSw);go_simp)<;>with_reducible rfl)
         (try simp only [Act.put,List.setIfInBounds_toArray,List.set_cons_zero,List.set_cons_succ])
         refine wpAnyH_take (i:=10) (oi:={dst:=some 63,op:=Go.Op.fieldAddr 24 (Go.Operand.tmp 5) 0,type:=0,pos := "subst.go:89",after:=#[{on:=9,ground:=Go.Ground.guard}],guard:=some (9,false) }) (v:=undef) rfl (by kernel_rfl) (by kernel_rfl) (by kernel_rfl) (fun _ _ _ h=>h) (Or.inr ⟨by rfl,rfl⟩) (by assumption) ?_
         (try simp only [Act.put,List.setIfInBounds_toArray,List.set_cons_zero,List.set_cons_succ])
         refine wpAnyH_take (i:=11) (oi:={dst:=some 64,op:=Go.Op.load 3 (Go.Operand.tmp 63),type:=3,pos := "subst.go:89",after:=#[{on:=10,ground:=Go.Ground.data},{on:=9,ground:=Go.Ground.guard}],guard:=some (9,false) }) (v:=undef) rfl (by kernel_rfl) (by kernel_rfl) (by kernel_rfl) (fun _ _ _ h=>h) (Or.inr ⟨by rfl,rfl⟩) (by assumption) ?_
         (try simp only [Act.put,List.setIfInBounds_toArray,List.set_cons_zero,List.set_cons_succ])
         refine wpAnyH_take (i:=12) (oi:={dst:=some 65,op:=Go.Op.binOp Go.BinOp.eql 3 (Go.Operand.tmp 64) (Go.Operand.const (Go.Value.int Go.IntKind.i64 12)) 3,type:=4,pos := "subst.go:89",after:=#[{on:=11,ground:=Go.Ground.data},{on:=9,ground:=Go.Ground.guard}],guard:=some (9,false) }) (v:=undef) rfl (by kernel_rfl) (by kernel_rfl) (by kernel_rfl) (fun _ _ _ h=>h) (Or.inr ⟨by rfl,rfl⟩) (by assumption) ?_
         (try simp only [Act.put,List.setIfInBounds_toArray,List.set_cons_zero,List.set_cons_succ])
         refine wpAnyH_take (i:=13) (oi:={dst:=some 66,op:=Go.Op.move (Go.Operand.tmp 65),type:=4,pos := "subst.go:89",after:=#[{on:=12,ground:=Go.Ground.data},{on:=9,ground:=Go.Ground.chain},{on:=9,ground:=Go.Ground.guard}],guard:=some (9,false) }) (v:=undef) rfl (by kernel_rfl) (by kernel_rfl) (by kernel_rfl) (fun _ _ _ h=>h) (Or.inr ⟨by rfl,rfl⟩) (by assumption) ?_
         (try simp only [Act.put,List.setIfInBounds_toArray,List.set_cons_zero,List.set_cons_succ])
         refine wpAnyH_take (i:=14) (oi:={dst:=some 67,op:=Go.Op.move (Go.Operand.tmp 11),type:=3,pos := "subst.go:89",after:=#[{on:=13,ground:=Go.Ground.guard}],guard:=some (13,true) }) (v:=undef) rfl (by kernel_rfl) (by kernel_rfl) (by kernel_rfl) (fun _ _ _ h=>h) (Or.inr ⟨by rfl,rfl⟩) (by assumption) ?_
         (try simp only [Act.put,List.setIfInBounds_toArray,List.set_cons_zero,List.set_cons_succ])
         refine wpAnyH_take (i:=15) (oi:={dst:=some 68,op:=Go.Op.binOp Go.BinOp.eql 3 (Go.Operand.tmp 67) (Go.Operand.const (Go.Value.int Go.IntKind.i64 2)) 3,type:=4,pos := "subst.go:89",after:=#[{on:=14,ground:=Go.Ground.data},{on:=13,ground:=Go.Ground.guard}],guard:=some (13,true) }) (v:=undef) rfl (by kernel_rfl) (by kernel_rfl) (by kernel_rfl) (fun _ _ _ h=>h) (Or.inr ⟨by rfl,rfl⟩) (by assumption) ?_
         (try simp only [Act.put,List.setIfInBounds_toArray,List.set_cons_zero,List.set_cons_succ])
         refine wpAnyH_take (i:=16) (oi:={dst:=some 69,op:=Go.Op.pick (Go.Operand.tmp 66) (Go.Operand.tmp 68) (Go.Operand.const (Go.Value.bool false)),type:=4,pos := "subst.go:89",after:=#[{on:=13,ground:=Go.Ground.data},{on:=15,ground:=Go.Ground.data},{on:=9,ground:=Go.Ground.guard}],guard:=some (9,false) }) (v:=undef) rfl (by kernel_rfl) (by kernel_rfl) (by kernel_rfl) (fun _ _ _ h=>h) (Or.inr ⟨by rfl,rfl⟩) (by assumption) ?_
         (try simp only [Act.put,List.setIfInBounds_toArray,List.set_cons_zero,List.set_cons_succ])
         refine wpAnyH_take (i:=17) (oi:={dst:=some 70,op:=Go.Op.pick (Go.Operand.tmp 62) (Go.Operand.const (Go.Value.bool true)) (Go.Operand.tmp 69),type:=4,pos := "subst.go:89",after:=#[{on:=9,ground:=Go.Ground.data},{on:=16,ground:=Go.Ground.data}],guard:=none}) (v:=?_) rfl (by kernel_rfl) (by kernel_rfl) (by kernel_rfl) (fun _ _ _ h=>h) (Or.inl ⟨by rfl,?_⟩) (by assumption) ?_
         rotate_left 1
         ·((intro w hSw;(try dsimp only at hSw);go_simp)<;>with_reducible rfl)
         (try simp only [Act.put,List.setIfInBounds_toArray,List.set_cons_zero,List.set_cons_succ])
         refine wpAnyH_ready (rs:=[18]) (by kernel_rfl) (by simp) ?_
         refine AllReadyH.cons (o:={dst:=some 71,op:=Go.Op.call {callee:=Go.Callee.value (Go.Operand.func 43),args:=#[Go.Operand.tmp 53,Go.Operand.tmp 54,Go.Operand.tmp 60,Go.Operand.tmp 70],argTypes:=#[68,24,3,4] },type:=69,pos := "subst.go:89",after:=#[{on:=0,ground:=Go.Ground.data},{on:=1,ground:=Go.Ground.data},{on:=7,ground:=Go.Ground.data},{on:=17,ground:=Go.Ground.data},{on:=13,ground:=Go.Ground.chain}],guard:=none}) rfl (fun K hK=>?_) ?_
         ·go_simp
          ((go_at_call 43;((with_reducible refine Calls.mono CALLA.out ?_);rintro e wn ⟨⟨u,a2,n2,cap2,ok,rfl,hbn,hans⟩,hZ⟩;obtain⟨⟨g0,g1,g2,g3,g4⟩,k0,k1,k2,k3,k4⟩:=And.intro (five_cells hZ) (five_free hZ);have HANS:=Lib.hid hans;clear hans;have hh:=held_call (held_drew (held_alloc hH0 _)) hbn)))
          refine hK.out _ _ ?_ (fun hHeld=>?_)
          ·(try dsimp only)
           (((with_reducible refine held_and2 ?_ d0 hpc);repeat (first | with_reducible assumption | with_reducible exact hH0 | with_reducible refine held_drew ?_ | with_reducible refine held_alloc ?_ _ | ((with_reducible refine held_set ?_ ?hh _);(case hh=>simp)))))
          clear hK K
          (try simp only [Act.put,List.setIfInBounds_toArray,List.set_cons_zero,List.set_cons_succ])
          refine wpAnyH_take (i:=19) (oi:={dst:=some 52,op:=Go.Op.move (Go.Operand.tmp 71),type:=69,pos := "subst.go:89",after:=#[{on:=18,ground:=Go.Ground.data}],guard:=none}) (v:=?_) rfl (by kernel_rfl) (by kernel_rfl) (by kernel_rfl) (fun _ _ _ h=>h) (Or.inl ⟨by rfl,?_⟩) (by assumption) ?_
          rotate_left 1
          ·((intro w hSw;(try dsimp only at hSw);go_simp)<;>with_reducible rfl)
          (try simp only [Act.put,List.setIfInBounds_toArray,List.set_cons_zero,List.set_cons_succ])
          refine wpAnyH_take (i:=20) (oi:={dst:=some 72,op:=Go.Op.extract (Go.Operand.tmp 52) 0,type:=24,pos := "subst.go:89",after:=#[{on:=19,ground:=Go.Ground.data}],guard:=none}) (v:=?_) rfl (by kernel_rfl) (by kernel_rfl) (by kernel_rfl) (fun _ _ _ h=>h) (Or.inl ⟨by rfl,?_⟩) (by assumption) ?_
          rotate_left 1
          ·((intro w hSw;(try dsimp only at hSw);go_simp)<;>with_reducible rfl)
          (try simp only [Act.put,List.setIfInBounds_toArray,List.set_cons_zero,List.set_cons_succ])
          refine wpAnyH_take (i:=21) (oi:={dst:=some 73,op:=Go.Op.extract (Go.Operand.tmp 52) 1,type:=4,pos := "subst.go:89",after:=#[{on:=19,ground:=Go.Ground.data},{on:=23,ground:=Go.Ground.gcOnly Go.Departure.lateStores}],guard:=none}) (v:=?_) rfl (by kernel_rfl) (by kernel_rfl) (by kernel_rfl) (fun _ _ _ h=>h) (Or.inl ⟨by rfl,?_⟩) (by assumption) ?_
          rotate_left 1
          ·((intro w hSw;(try dsimp only at hSw);go_simp)<;>with_reducible rfl)
          (try simp only [Act.put,List.setIfInBounds_toArray,List.set_cons_zero,List.set_cons_succ])
          refine wpAnyH_ready (rs:=[23]) (by kernel_rfl) (by simp) ?_
          refine AllReadyH.cons (o:={dst:=none,op:=Go.Op.store 24 (Go.Operand.tmp 13) (Go.Operand.tmp 72),type:=0,pos := "subst.go:89",after:=#[{on:=22,ground:=Go.Ground.data},{on:=20,ground:=Go.Ground.data},{on:=18,ground:=Go.Ground.chain},{on:=0,ground:=Go.Ground.phase},{on:=1,ground:=Go.Ground.phase},{on:=2,ground:=Go.Ground.phase},{on:=3,ground:=Go.Ground.phase},{on:=4,ground:=Go.Ground.phase},{on:=5,ground:=Go.Ground.phase},{on:=6,ground:=Go.Ground.phase},{on:=7,ground:=Go.Ground.phase},{on:=8,ground:=Go.Ground.phase},{on:=9,ground:=Go.Ground.phase},{on:=10,ground:=Go.Ground.phase},{on:=11,ground:=Go.Ground.phase},{on:=12,ground:=Go.Ground.phase},{on:=13,ground:=Go.Ground.phase},{on:=14,ground:=Go.Ground.phase},{on:=15,ground:=Go.Ground.phase},{on:=16,ground:=Go.Ground.phase},{on:=17,ground:=Go.Ground.phase},{on:=18,ground:=Go.Ground.phase},{on:=19,ground:=Go.Ground.phase},{on:=20,ground:=Go.Ground.phase},{on:=21,ground:=Go.Ground.textOnly Go.Departure.lateStores},{on:=22,ground:=Go.Ground.phase}],guard:=none}) rfl (fun K hK=>?_) ?_
          ·go_simp
           refine hK.out _ _ ?_ (fun hHeld=>?_)
           ·(try dsimp only)
            (((with_reducible refine held_and2 ?_ d0 hpc);repeat (first | with_reducible assumption | with_reducible exact hH0 | with_reducible refine held_drew ?_ | with_reducible refine held_alloc ?_ _ | ((with_reducible refine held_set ?_ ?hh _);(case hh=>simp)))))
           clear hK K
           (try simp only [Act.put,List.setIfInBounds_toArray,List.set_cons_zero,List.set_cons_succ])
           refine wpAnyH_take (i:=24) (oi:={dst:=some 14,op:=Go.Op.assign (Go.Operand.tmp 73),type:=4,pos := "subst.go:89",after:=#[{on:=21,ground:=Go.Ground.data},{on:=23,ground:=Go.Ground.chain},{on:=0,ground:=Go.Ground.phase},{on:=1,ground:=Go.Ground.phase},{on:=2,ground:=Go.Ground.phase},{on:=3,ground:=Go.Ground.phase},{on:=4,ground:=Go.Ground.phase},{on:=5,ground:=Go.Ground.phase},{on:=6,ground:=Go.Ground.phase},{on:=7,ground:=Go.Ground.phase},{on:=8,ground:=Go.Ground.phase},{on:=9,ground:=Go.Ground.phase},{on:=10,ground:=Go.Ground.phase},{on:=11,ground:=Go.Ground.phase},{on:=12,ground:=Go.Ground.phase},{on:=13,ground:=Go.Ground.phase},{on:=14,ground:=Go.Ground.phase},{on:=15,ground:=Go.Ground.phase},{on:=16,ground:=Go.Ground.phase},{on:=17,ground:=Go.Ground.phase},{on:=18,ground:=Go.Ground.phase},{on:=19,ground:=Go.Ground.phase},{on:=20,ground:=Go.Ground.phase},{on:=21,ground:=Go.Ground.phase},{on:=22,ground:=Go.Ground.phase},{on:=23,ground:=Go.Ground.phase}],guard:=none}) (v:=?_) rfl (by kernel_rfl) (by kernel_rfl) (by kernel_rfl) (fun _ _ _ h=>h) (Or.inl ⟨by rfl,?_⟩) (by assumption) ?_
           rotate_left 1
           ·((intro w hSw;(try dsimp only at hSw);go_simp)<;>with_reducible rfl)
           (try simp only [Act.put,List.setIfInBounds_toArray,List.set_cons_zero,List.set_cons_succ])
           refine wpAnyH_done (by kernel_rfl) ?_ _
           rcases HANS.out with ⟨rfl,hr,rfl,hl2⟩ | ⟨rfl,hr⟩
           ·have HFI2:=Lib.hid (HFX.out u hr)
            have hW:Held wr t.kids[q] (.slice a' t.kids[q].kids.length cap') (((((wn.setCell ⟨wr.heap.size+1,0,none⟩ (.int .i64 u.k)).setCell ⟨wr.heap.size+1,1,none⟩ (.int .i64 u.i)).setCell ⟨wr.heap.size+1,2,none⟩ (.int .i64 u.j)).setCell ⟨wr.heap.size+1,3,none⟩ (.int .i64 u.n)).setCell ⟨wr.heap.size+1,4,none⟩ (.slice a2 u.kids.length cap2)):=held_five hh _ _ _ _ _
            have hLW:LiesP (((((wn.setCell ⟨wr.heap.size+1,0,none⟩ (.int .i64 u.k)).setCell ⟨wr.heap.size+1,1,none⟩ (.int .i64 u.i)).setCell ⟨wr.heap.size+1,2,none⟩ (.int .i64 u.j)).setCell ⟨wr.heap.size+1,3,none⟩ (.int .i64 u.n)).setCell ⟨wr.heap.size+1,4,none⟩ (.slice a2 u.kids.length cap2)) (Own wr.heap.size (((((wn.setCell ⟨wr.heap.size+1,0,none⟩ (.int .i64 u.k)).setCell ⟨wr.heap.size+1,1,none⟩ (.int .i64 u.i)).setCell ⟨wr.heap.size+1,2,none⟩ (.int .i64 u.j)).setCell ⟨wr.heap.size+1,3,none⟩ (.int .i64 u.n)).setCell ⟨wr.heap.size+1,4,none⟩ (.slice a2 u.kids.length cap2))) u.kids (.slice a2 u.kids.length cap2):=liesP_five (hl2.from (B':=wr.heap.size+2) (by simp)) _ _ _ _ _
            have hN:(((((wn.setCell ⟨wr.heap.size+1,0,none⟩ (.int .i64 u.k)).setCell ⟨wr.heap.size+1,1,none⟩ (.int .i64 u.i)).setCell ⟨wr.heap.size+1,2,none⟩ (.int .i64 u.j)).setCell ⟨wr.heap.size+1,3,none⟩ (.int .i64 u.n)).setCell ⟨wr.heap.size+1,4,none⟩ (.slice a2 u.kids.length cap2)).heap[wr.heap.size+1]? =some (boxOf u (.slice a2 u.kids.length cap2)):=five_set hZ
            clear hh hbn hl2 hZ g0 g1 g2 g3 g4 k0 k1 k2 k3 k4
            generalize (((((wn.setCell ⟨wr.heap.size+1,0,none⟩ (.int .i64 u.k)).setCell ⟨wr.heap.size+1,1,none⟩ (.int .i64 u.i)).setCell ⟨wr.heap.size+1,2,none⟩ (.int .i64 u.j)).setCell ⟨wr.heap.size+1,3,none⟩ (.int .i64 u.n)).setCell ⟨wr.heap.size+1,4,none⟩ (.slice a2 u.kids.length cap2))=W at hW hLW hN ⊢
            have hdW:=desk_trans hdk (below_from (held_below hW) hsz)
            have hfW:=hfu.later (held_below hW)
            have hxq:q<xs.length:=by rw [HXL.out];exact hlt
            have hLF:=hfu.fresh hsz hLW
            obtain⟨-,-,q2⟩:=desk_blocks hdW
            obtain⟨y0,y1,y2,y3,y4⟩:=five_cells q2
            obtain⟨p0,p1,p2,p3,p4⟩:=five_cells hN
            obtain⟨x0,x1,x2,x3,x4⟩:=hfW.node q hxq
            obtain⟨cs,hcs⟩:=hfW.open'
            have f0:=open_unfrozen hcs (q * 5)
            have f1:=open_unfrozen hcs (q * 5+1)
            have f2:=open_unfrozen hcs (q * 5+2)
            have f3:=open_unfrozen hcs (q * 5+3)
            have f4:=open_unfrozen hcs (q * 5+4)
            have HFW:=Lib.hid hfW
            have HLF:=Lib.hid hLF
            have HFU:=Lib.hid hfu
            clear hcs hN hLW hW hfW hLF hfu d0 d1 d2 d3 d4 z0 z1 z2 z3 z4
            go_wp2
            go_roundw
            case rel=>exact⟨q+1,xs.set q (u,.slice a2 u.kids.length cap2),hlt,by go_num,by simp [Hid,HXL.out],by rw [Hid,optK_next hlt HXS.out hr,List.map_set,take_set_next _ _ _ (by simpa using hxq)],HFW.out.fill hxq HFI2.out HLF.out,desk_put hdW (Nat.le_refl _) _ _ _⟩
            case measure=>simp [intOf];omega
           ·have hW:Held wr t.kids[q] (.slice a' t.kids[q].kids.length cap') (((((wn.setCell ⟨wr.heap.size+1,0,none⟩ (.int .i64 u.k)).setCell ⟨wr.heap.size+1,1,none⟩ (.int .i64 u.i)).setCell ⟨wr.heap.size+1,2,none⟩ (.int .i64 u.j)).setCell ⟨wr.heap.size+1,3,none⟩ (.int .i64 u.n)).setCell ⟨wr.heap.size+1,4,none⟩ (.slice a2 n2 cap2)):=held_five hh _ _ _ _ _
            clear hh hbn hZ g0 g1 g2 g3 g4 k0 k1 k2 k3 k4
            generalize (((((wn.setCell ⟨wr.heap.size+1,0,none⟩ (.int .i64 u.k)).setCell ⟨wr.heap.size+1,1,none⟩ (.int .i64 u.i)).setCell ⟨wr.heap.size+1,2,none⟩ (.int .i64 u.j)).setCell ⟨wr.heap.size+1,3,none⟩ (.int .i64 u.n)).setCell ⟨wr.heap.size+1,4,none⟩ (.slice a2 n2 cap2))=W at hW ⊢
            have hdW:=desk_trans hdk (below_from (held_below hW) hsz)
            obtain⟨-,q1,-⟩:=desk_blocks hdW
            obtain⟨z0,z1,z2,z3,z4⟩:=five_cells q1
            obtain⟨f0,f1,f2,f3,f4⟩:=five_free q1
            go_wp2
            (try simp only [Exit.inBlock,Exit.then])
            refine bodyPost_ret (results_cell_tmp rfl _ _ (w.heap.size+1) _ _ _ du rfl (five_set q1) hu1 (by cases du<;>first | rfl | exact hu2) size_term) rfl ?_
            exact GivesN.wide ⟨((((((desk_under hdW).setCell (by simp) _).setCell (by simp) _).setCell (by simp) _).setCell (by simp) _).setCell (by simp) _),Or.inr ⟨Tm.zero,none,0,0,by rw [HEQ.out,optK_stop hlt hr];rfl,rfl⟩⟩ HBP.out
          exact AllReadyH.nil
         exact AllReadyH.nil
        exact AllReadyH.nil
       exact AllReadyH.nil
      | false =>
       by_cases h12:t.k=12
       ·have ek12:(t.k==12)=true:=by simpa using h12
        obtain⟨e2v,heq2⟩:∃ e2v,((q:Int)==2)=e2v:=⟨_,rfl⟩
        have hq2:(q==2)=e2v:=by rw [←heq2];exact int_two q
        have hF:(false||(t.k==12&&q==2))=e2v:=by rw [ek12,hq2];rfl
        have hc:=HCALL.out
        rw [hF] at hc
        have hH0:=held_start wr t.kids[q] (.slice a' t.kids[q].kids.length cap')
        have CALL2:∀ w',Held wr t.kids[q] (.slice a' t.kids[q].kids.length cap') w'→Calls Try.prog 43 #[.agg #[.func (.func fid) #[] #[.pointer (some ⟨bv,0,none⟩)]],tv t.kids[q] (.slice a' t.kids[q].kids.length cap'),.int .i64 (b+bindsN t.k q),.bool e2v] w' (GivesY (t.kids[q].putG g (b+bindsN t.k q) (false||(t.k==12&&q==2))) w'):=fun w' h'=>(hc w' h').mono fun e w'' h=>by rw [←hF] at h;exact h.ans
        have CALLB:=Lib.hid (CALL2 (wr.alloc (.cells #[.int .i64 t.kids[q].k,.int .i64 t.kids[q].i,.int .i64 t.kids[q].j,.int .i64 t.kids[q].n,.slice a' t.kids[q].kids.length cap'] 24)).drew (held_drew hH0))
        have CALLA:=Lib.hid ((CALL2 ((wr.alloc (.cells #[.int .i64 t.kids[q].k,.int .i64 t.kids[q].i,.int .i64 t.kids[q].j,.int .i64 t.kids[q].n,.slice a' t.kids[q].kids.length cap'] 24)).alloc zeroObj).drew (held_drew (held_alloc hH0 _))).mono fun e w'' h=>And.intro h (zero_blocks_new h.below))
        clear hc HCALL CALL2 hF h12 hq2
        go_wp2_with fail
        refine wp_region_held_drew (S:=fun w'=>Held wr t.kids[q] (.slice a' t.kids[q].kids.length cap') w'∧w'.cell? ⟨w.heap.size,0,none⟩=some (.int .i64 t.k)∧w'.cell? ⟨wi.heap.size,0,none⟩=some (.func (.func fid) #[] #[.pointer (some ⟨bv,0,none⟩)])∧w'.cell? ⟨wr.heap.size,0,none⟩=some (.int .i64 t.kids[q].k)∧w'.cell? ⟨wr.heap.size,1,none⟩=some (.int .i64 t.kids[q].i)∧w'.cell? ⟨wr.heap.size,2,none⟩=some (.int .i64 t.kids[q].j)∧w'.cell? ⟨wr.heap.size,3,none⟩=some (.int .i64 t.kids[q].n)∧w'.cell? ⟨wr.heap.size,4,none⟩=some (.slice a' t.kids[q].kids.length cap')) (by kernel_rfl) ?_ (fun hHeld=>?_)
        ·(try dsimp only)
         (((with_reducible refine held_and2 ?_ d0 hpc);repeat (first | with_reducible assumption | with_reducible exact hH0 | with_reducible refine held_drew ?_ | with_reducible refine held_alloc ?_ _ | ((with_reducible refine held_set ?_ ?hh _);(case hh=>simp)))))
        refine wpAnyH_take (i:=0) (oi:={dst:=some 53,op:=Go.Op.load 68 (Go.Operand.tmp 4),type:=68,pos := "subst.go:89",after:=#[],guard:=none}) (v:=?_) rfl (by kernel_rfl) (by kernel_rfl) (by kernel_rfl) (fun _ _ _ h=>h) (Or.inl ⟨by rfl,?_⟩) (by assumption) ?_
        rotate_left 1
        ·((intro w hSw;(try dsimp only at hSw);go_simp)<;>with_reducible rfl)
        (try simp only [Act.put,List.setIfInBounds_toArray,List.set_cons_zero,List.set_cons_succ])
        refine wpAnyH_take (i:=1) (oi:={dst:=some 54,op:=Go.Op.load 24 (Go.Operand.tmp 12),type:=24,pos := "subst.go:89",after:=#[],guard:=none}) (v:=?_) rfl (by kernel_rfl) (by kernel_rfl) (by kernel_rfl) (fun _ _ _ h=>h) (Or.inl ⟨by rfl,?_⟩) (by assumption) ?_
        rotate_left 1
        ·((intro w hSw;(try dsimp only at hSw);go_simp)<;>with_reducible rfl)
        (try simp only [Act.put,List.setIfInBounds_toArray,List.set_cons_zero,List.set_cons_succ])
        refine wpAnyH_take (i:=2) (oi:={dst:=some 55,op:=Go.Op.move (Go.Operand.tmp 2),type:=3,pos := "subst.go:89",after:=#[],guard:=none}) (v:=?_) rfl (by kernel_rfl) (by kernel_rfl) (by kernel_rfl) (fun _ _ _ h=>h) (Or.inl ⟨by rfl,?_⟩) (by assumption) ?_
        rotate_left 1
        ·((intro w hSw;(try dsimp only at hSw);go_simp)<;>with_reducible rfl)
        (try simp only [Act.put,List.setIfInBounds_toArray,List.set_cons_zero,List.set_cons_succ])
        refine wpAnyH_take (i:=3) (oi:={dst:=some 56,op:=Go.Op.fieldAddr 24 (Go.Operand.tmp 5) 0,type:=0,pos := "subst.go:89",after:=#[],guard:=none}) (v:=?_) rfl (by kernel_rfl) (by kernel_rfl) (by kernel_rfl) (fun _ _ _ h=>h) (Or.inl ⟨by rfl,?_⟩) (by assumption) ?_
        rotate_left 1
        ·((intro w hSw;(try dsimp only at hSw);go_simp)<;>with_reducible rfl)
        (try simp only [Act.put,List.setIfInBounds_toArray,List.set_cons_zero,List.set_cons_succ])
        refine wpAnyH_take (i:=4) (oi:={dst:=some 57,op:=Go.Op.load 3 (Go.Operand.tmp 56),type:=3,pos := "subst.go:89",after:=#[{on:=3,ground:=Go.Ground.data}],guard:=none}) (v:=?_) rfl (by kernel_rfl) (by kernel_rfl) (by kernel_rfl) (fun _ _ _ h=>h) (Or.inl ⟨by rfl,?_⟩) (by assumption) ?_
        rotate_left 1
        ·((intro w hSw;(try dsimp only at hSw);go_simp)<;>with_reducible rfl)
        (try simp only [Act.put,List.setIfInBounds_toArray,List.set_cons_zero,List.set_cons_succ])
        refine wpAnyH_take (i:=5) (oi:={dst:=some 58,op:=Go.Op.move (Go.Operand.tmp 11),type:=3,pos := "subst.go:89",after:=#[],guard:=none}) (v:=?_) rfl (by kernel_rfl) (by kernel_rfl) (by kernel_rfl) (fun _ _ _ h=>h) (Or.inl ⟨by rfl,?_⟩) (by assumption) ?_
        rotate_left 1
        ·((intro w hSw;(try dsimp only at hSw);go_simp)<;>with_reducible rfl)
        (try simp only [Act.put,List.setIfInBounds_toArray,List.set_cons_zero,List.set_cons_succ])
        refine wpAnyH_take (i:=8) (oi:={dst:=some 61,op:=Go.Op.move (Go.Operand.tmp 3),type:=4,pos := "subst.go:89",after:=#[],guard:=none}) (v:=?_) rfl (by kernel_rfl) (by kernel_rfl) (by kernel_rfl) (fun _ _ _ h=>h) (Or.inl ⟨by rfl,?_⟩) (by assumption) ?_
        rotate_left 1
        ·((intro w hSw;(try dsimp only at hSw);go_simp)<;>with_reducible rfl)
        (try simp only [Act.put,List.setIfInBounds_toArray,List.set_cons_zero,List.set_cons_succ])
        refine wpAnyH_ready (rs:=[6,22]) (by kernel_rfl) (by simp) ?_
        refine AllReadyH.cons (o:={dst:=some 59,op:=Go.Op.call {callee:=Go.Callee.value (Go.Operand.func 58),args:=#[Go.Operand.tmp 57,Go.Operand.tmp 58],argTypes:=#[3,3] },type:=3,pos := "subst.go:89",after:=#[{on:=4,ground:=Go.Ground.data},{on:=5,ground:=Go.Ground.data}],guard:=none}) rfl (fun K hK=>?_) ?_
        ·go_simp
         ((go_at_call 58;refine(binds_any _ _ _).mono ?_;rintro e w' ⟨rfl,rfl⟩))
         refine hK.out _ _ ?_ (fun hHeld=>?_)
         ·(try dsimp only)
          (((with_reducible refine held_and2 ?_ d0 hpc);repeat (first | with_reducible assumption | with_reducible exact hH0 | with_reducible refine held_drew ?_ | with_reducible refine held_alloc ?_ _ | ((with_reducible refine held_set ?_ ?hh _);(case hh=>simp)))))
         clear hK K
         (try simp only [Act.put,List.setIfInBounds_toArray,List.set_cons_zero,List.set_cons_succ])
         refine wpAnyH_take (i:=7) (oi:={dst:=some 60,op:=Go.Op.binOp Go.BinOp.add 3 (Go.Operand.tmp 55) (Go.Operand.tmp 59) 3,type:=3,pos := "subst.go:89",after:=#[{on:=2,ground:=Go.Ground.data},{on:=6,ground:=Go.Ground.data}],guard:=none}) (v:=?_) rfl (by kernel_rfl) (by kernel_rfl) (by kernel_rfl) (fun _ _ _ h=>h) (Or.inl ⟨by rfl,?_⟩) (by assumption) ?_
         rotate_left 1
         ·((intro w hSw;(try dsimp only at hSw);go_simp)<;>with_reducible rfl)
         (try simp only [Act.put,List.setIfInBounds_toArray,List.set_cons_zero,List.set_cons_succ])
         refine wpAnyH_take (i:=9) (oi:={dst:=some 62,op:=Go.Op.move (Go.Operand.tmp 61),type:=4,pos := "subst.go:89",after:=#[{on:=8,ground:=Go.Ground.data},{on:=6,ground:=Go.Ground.chain}],guard:=none}) (v:=?_) rfl (by kernel_rfl) (by kernel_rfl) (by kernel_rfl) (fun _ _ _ h=>h) (Or.inl ⟨by rfl,?_⟩) (by assumption) ?_
         rotate_left 1
         ·((intro w hSw;(try dsimp only at hSw);go_simp)<;>with_reducible rfl)
         (try simp only [Act.put,List.setIfInBounds_toArray,List.set_cons_zero,List.set_cons_succ])
         refine wpAnyH_take (i:=10) (oi:={dst:=some 63,op:=Go.Op.fieldAddr 24 (Go.Operand.tmp 5) 0,type:=0,pos := "subst.go:89",after:=#[{on:=9,ground:=Go.Ground.guard}],guard:=some (9,false) }) (v:=?_) rfl (by kernel_rfl) (by kernel_rfl) (by kernel_rfl) (fun _ _ _ h=>h) (Or.inl ⟨by rfl,?_⟩) (by assumption) ?_
         rotate_left 1
         ·((intro w hSw;(try dsimp only at hSw);go_simp)<;>with_reducible rfl)
         (try simp only [Act.put,List.setIfInBounds_toArray,List.set_cons_zero,List.set_cons_succ])
         refine wpAnyH_take (i:=11) (oi:={dst:=some 64,op:=Go.Op.load 3 (Go.Operand.tmp 63),type:=3,pos := "subst.go:89",after:=#[{on:=10,ground:=Go.Ground.data},{on:=9,ground:=Go.Ground.guard}],guard:=some (9,false) }) (v:=?_) rfl (by kernel_rfl) (by kernel_rfl) (by kernel_rfl) (fun _ _ _ h=>h) (Or.inl ⟨by rfl,?_⟩) (by assumption) ?_
         rotate_left 1
         ·((intro w hSw;(try dsimp only at hSw);go_simp)<;>with_reducible rfl)
         (try simp only [Act.put,List.setIfInBounds_toArray,List.set_cons_zero,List.set_cons_succ])
         refine wpAnyH_take (i:=12) (oi:={dst:=some 65,op:=Go.Op.binOp Go.BinOp.eql 3 (Go.Operand.tmp 64) (Go.Operand.const (Go.Value.int Go.IntKind.i64 12)) 3,type:=4,pos := "subst.go:89",after:=#[{on:=11,ground:=Go.Ground.data},{on:=9,ground:=Go.Ground.guard}],guard:=some (9,false) }) (v:=?_) rfl (by kernel_rfl) (by kernel_rfl) (by kernel_rfl) (fun _ _ _ h=>h) (Or.inl ⟨by rfl,?_⟩) (by assumption) ?_
         rotate_left 1
         ·((intro w hSw;(try dsimp only at hSw);go_simp)<;>with_reducible rfl)
         (try simp only [Act.put,List.setIfInBounds_toArray,List.set_cons_zero,List.set_cons_succ])
         refine wpAnyH_take (i:=13) (oi:={dst:=some 66,op:=Go.Op.move (Go.Operand.tmp 65),type:=4,pos := "subst.go:89",after:=#[{on:=12,ground:=Go.Ground.data},{on:=9,ground:=Go.Ground.chain},{on:=9,ground:=Go.Ground.guard}],guard:=some (9,false) }) (v:=?_) rfl (by kernel_rfl) (by kernel_rfl) (by kernel_rfl) (fun _ _ _ h=>h) (Or.inl ⟨by rfl,?_⟩) (by assumption) ?_
         rotate_left 1
         ·((intro w hSw;(try dsimp only at hSw);go_simp)<;>with_reducible rfl)
         (try simp only [Act.put,List.setIfInBounds_toArray,List.set_cons_zero,List.set_cons_succ])
         refine wpAnyH_take (i:=14) (oi:={dst:=some 67,op:=Go.Op.move (Go.Operand.tmp 11),type:=3,pos := "subst.go:89",after:=#[{on:=13,ground:=Go.Ground.guard}],guard:=some (13,true) }) (v:=?_) rfl (by kernel_rfl) (by kernel_rfl) (by kernel_rfl) (fun _ _ _ h=>h) (Or.inl ⟨by rfl,?_⟩) (by assumption) ?_
         rotate_left 1
         ·((intro w hSw;(try dsimp only at hSw);go_simp)<;>with_reducible rfl)
         (try simp only [Act.put,List.setIfInBounds_toArray,List.set_cons_zero,List.set_cons_succ])
         refine wpAnyH_take (i:=15) (oi:={dst:=some 68,op:=Go.Op.binOp Go.BinOp.eql 3 (Go.Operand.tmp 67) (Go.Operand.const (Go.Value.int Go.IntKind.i64 2)) 3,type:=4,pos := "subst.go:89",after:=#[{on:=14,ground:=Go.Ground.data},{on:=13,ground:=Go.Ground.guard}],guard:=some (13,true) }) (v:=?_) rfl (by kernel_rfl) (by kernel_rfl) (by kernel_rfl) (fun _ _ _ h=>h) (Or.inl ⟨by rfl,?_⟩) (by assumption) ?_
         rotate_left 1
         ·((intro w hSw;(try dsimp only at hSw);go_simp)<;>with_reducible rfl)
         (try simp only [Act.put,List.setIfInBounds_toArray,List.set_cons_zero,List.set_cons_succ])
         refine wpAnyH_take (i:=16) (oi:={dst:=some 69,op:=Go.Op.pick (Go.Operand.tmp 66) (Go.Operand.tmp 68) (Go.Operand.const (Go.Value.bool false)),type:=4,pos := "subst.go:89",after:=#[{on:=13,ground:=Go.Ground.data},{on:=15,ground:=Go.Ground.data},{on:=9,ground:=Go.Ground.guard}],guard:=some (9,false) }) (v:=?_) rfl (by kernel_rfl) (by kernel_rfl) (by kernel_rfl) (fun _ _ _ h=>h) (Or.inl ⟨by rfl,?_⟩) (by assumption) ?_
         rotate_left 1
         ·((intro w hSw;(try dsimp only at hSw);go_simp)<;>with_reducible rfl)
         (try simp only [Act.put,List.setIfInBounds_toArray,List.set_cons_zero,List.set_cons_succ])
         refine wpAnyH_take (i:=17) (oi:={dst:=some 70,op:=Go.Op.pick (Go.Operand.tmp 62) (Go.Operand.const (Go.Value.bool true)) (Go.Operand.tmp 69),type:=4,pos := "subst.go:89",after:=#[{on:=9,ground:=Go.Ground.data},{on:=16,ground:=Go.Ground.data}],guard:=none}) (v:=?_) rfl (by kernel_rfl) (by kernel_rfl) (by kernel_rfl) (fun _ _ _ h=>h) (Or.inl ⟨by rfl,?_⟩) (by assumption) ?_
         rotate_left 1
         ·((intro w hSw;(try dsimp only at hSw);go_simp)<;>with_reducible rfl)
         (try simp only [Act.put,List.setIfInBounds_toArray,List.set_cons_zero,List.set_cons_succ])
         refine wpAnyH_ready (rs:=[18,22]) (by kernel_rfl) (by simp) ?_
         refine AllReadyH.cons (o:={dst:=some 71,op:=Go.Op.call {callee:=Go.Callee.value (Go.Operand.func 43),args:=#[Go.Operand.tmp 53,Go.Operand.tmp 54,Go.Operand.tmp 60,Go.Operand.tmp 70],argTypes:=#[68,24,3,4] },type:=69,pos := "subst.go:89",after:=#[{on:=0,ground:=Go.Ground.data},{on:=1,ground:=Go.Ground.data},{on:=7,ground:=Go.Ground.data},{on:=17,ground:=Go.Ground.data},{on:=13,ground:=Go.Ground.chain}],guard:=none}) rfl (fun K hK=>?_) ?_
         ·go_simp
          ((go_at_call 43;((with_reducible refine Calls.mono CALLB.out ?_);rintro e wn ⟨u,a2,n2,cap2,ok,rfl,hbn,hans⟩;have HANS:=Lib.hid hans;clear hans;have hh:=held_call (held_drew hH0) hbn)))
          refine hK.out _ _ ?_ (fun hHeld=>?_)
          ·(try dsimp only)
           (((with_reducible refine held_and2 ?_ d0 hpc);repeat (first | with_reducible assumption | with_reducible exact hH0 | with_reducible refine held_drew ?_ | with_reducible refine held_alloc ?_ _ | ((with_reducible refine held_set ?_ ?hh _);(case hh=>simp)))))
          clear hK K
          (try simp only [Act.put,List.setIfInBounds_toArray,List.set_cons_zero,List.set_cons_succ])
          refine wpAnyH_take (i:=19) (oi:={dst:=some 52,op:=Go.Op.move (Go.Operand.tmp 71),type:=69,pos := "subst.go:89",after:=#[{on:=18,ground:=Go.Ground.data}],guard:=none}) (v:=?_) rfl (by kernel_rfl) (by kernel_rfl) (by kernel_rfl) (fun _ _ _ h=>h) (Or.inl ⟨by rfl,?_⟩) (by assumption) ?_
          rotate_left 1
          ·((intro w hSw;(try dsimp only at hSw);go_simp)<;>with_reducible rfl)
          (try simp only [Act.put,List.setIfInBounds_toArray,List.set_cons_zero,List.set_cons_succ])
          refine wpAnyH_take (i:=20) (oi:={dst:=some 72,op:=Go.Op.extract (Go.Operand.tmp 52) 0,type:=24,pos := "subst.go:89",after:=#[{on:=19,ground:=Go.Ground.data}],guard:=none}) (v:=?_) rfl (by kernel_rfl) (by kernel_rfl) (by kernel_rfl) (fun _ _ _ h=>h) (Or.inl ⟨by rfl,?_⟩) (by assumption) ?_
          rotate_left 1
          ·((intro w hSw;(try dsimp only at hSw);go_simp)<;>with_reducible rfl)
          (try simp only [Act.put,List.setIfInBounds_toArray,List.set_cons_zero,List.set_cons_succ])
          refine wpAnyH_take (i:=21) (oi:={dst:=some 73,op:=Go.Op.extract (Go.Operand.tmp 52) 1,type:=4,pos := "subst.go:89",after:=#[{on:=19,ground:=Go.Ground.data},{on:=23,ground:=Go.Ground.gcOnly Go.Departure.lateStores}],guard:=none}) (v:=?_) rfl (by kernel_rfl) (by kernel_rfl) (by kernel_rfl) (fun _ _ _ h=>h) (Or.inl ⟨by rfl,?_⟩) (by assumption) ?_
          rotate_left 1
          ·((intro w hSw;(try dsimp only at hSw);go_simp)<;>with_reducible rfl)
          (try simp only [Act.put,List.setIfInBounds_toArray,List.set_cons_zero,List.set_cons_succ])
          refine wpAnyH_ready (rs:=[22]) (by kernel_rfl) (by simp) ?_
          refine AllReadyH.cons (o:={dst:=some 13,op:=Go.Op.alloc 24,type:=0,pos := "subst.go:89",after:=#[],guard:=none}) rfl (fun K hK=>?_) ?_
          ·go_simp
           refine hK.out _ _ ?_ (fun hHeld=>?_)
           ·(try dsimp only)
            (((with_reducible refine held_and2 ?_ d0 hpc);repeat (first | with_reducible assumption | with_reducible exact hH0 | with_reducible refine held_drew ?_ | with_reducible refine held_alloc ?_ _ | ((with_reducible refine held_set ?_ ?hh _);(case hh=>simp)))))
           clear hK K
           (try simp only [Act.put,List.setIfInBounds_toArray,List.set_cons_zero,List.set_cons_succ])
           refine wpAnyH_ready (rs:=[23]) (by kernel_rfl) (by simp) ?_
           refine AllReadyH.cons (o:={dst:=none,op:=Go.Op.store 24 (Go.Operand.tmp 13) (Go.Operand.tmp 72),type:=0,pos := "subst.go:89",after:=#[{on:=22,ground:=Go.Ground.data},{on:=20,ground:=Go.Ground.data},{on:=18,ground:=Go.Ground.chain},{on:=0,ground:=Go.Ground.phase},{on:=1,ground:=Go.Ground.phase},{on:=2,ground:=Go.Ground.phase},{on:=3,ground:=Go.Ground.phase},{on:=4,ground:=Go.Ground.phase},{on:=5,ground:=Go.Ground.phase},{on:=6,ground:=Go.Ground.phase},{on:=7,ground:=Go.Ground.phase},{on:=8,ground:=Go.Ground.phase},{on:=9,ground:=Go.Ground.phase},{on:=10,ground:=Go.Ground.phase},{on:=11,ground:=Go.Ground.phase},{on:=12,ground:=Go.Ground.phase},{on:=13,ground:=Go.Ground.phase},{on:=14,ground:=Go.Ground.phase},{on:=15,ground:=Go.Ground.phase},{on:=16,ground:=Go.Ground.phase},{on:=17,ground:=Go.Ground.phase},{on:=18,ground:=Go.Ground.phase},{on:=19,ground:=Go.Ground.phase},{on:=20,ground:=Go.Ground.phase},{on:=21,ground:=Go.Ground.textOnly Go.Departure.lateStores},{on:=22,ground:=Go.Ground.phase}],guard:=none}) rfl (fun K hK=>?_) ?_
           ·go_simp
            refine hK.out _ _ ?_ (fun hHeld=>?_)
            ·(try dsimp only)
             (((with_reducible refine held_and2 ?_ d0 hpc);repeat (first | with_reducible assumption | with_reducible exact hH0 | with_reducible refine held_drew ?_ | with_reducible refine held_alloc ?_ _ | ((with_reducible refine held_set ?_ ?hh _);(case hh=>simp)))))
            clear hK K
            (try simp only [Act.put,List.setIfInBounds_toArray,List.set_cons_zero,List.set_cons_succ])
            refine wpAnyH_take (i:=24) (oi:={dst:=some 14,op:=Go.Op.assign (Go.Operand.tmp 73),type:=4,pos := "subst.go:89",after:=#[{on:=21,ground:=Go.Ground.data},{on:=23,ground:=Go.Ground.chain},{on:=0,ground:=Go.Ground.phase},{on:=1,ground:=Go.Ground.phase},{on:=2,ground:=Go.Ground.phase},{on:=3,ground:=Go.Ground.phase},{on:=4,ground:=Go.Ground.phase},{on:=5,ground:=Go.Ground.phase},{on:=6,ground:=Go.Ground.phase},{on:=7,ground:=Go.Ground.phase},{on:=8,ground:=Go.Ground.phase},{on:=9,ground:=Go.Ground.phase},{on:=10,ground:=Go.Ground.phase},{on:=11,ground:=Go.Ground.phase},{on:=12,ground:=Go.Ground.phase},{on:=13,ground:=Go.Ground.phase},{on:=14,ground:=Go.Ground.phase},{on:=15,ground:=Go.Ground.phase},{on:=16,ground:=Go.Ground.phase},{on:=17,ground:=Go.Ground.phase},{on:=18,ground:=Go.Ground.phase},{on:=19,ground:=Go.Ground.phase},{on:=20,ground:=Go.Ground.phase},{on:=21,ground:=Go.Ground.phase},{on:=22,ground:=Go.Ground.phase},{on:=23,ground:=Go.Ground.phase}],guard:=none}) (v:=?_) rfl (by kernel_rfl) (by kernel_rfl) (by kernel_rfl) (fun _ _ _ h=>h) (Or.inl ⟨by rfl,?_⟩) (by assumption) ?_
            rotate_left 1
            ·((intro w hSw;(try dsimp only at hSw);go_simp)<;>with_reducible rfl)
            (try simp only [Act.put,List.setIfInBounds_toArray,List.set_cons_zero,List.set_cons_succ])
            refine wpAnyH_done (by kernel_rfl) ?_ _
            rcases HANS.out with ⟨rfl,hr,rfl,hl2⟩ | ⟨rfl,hr⟩
            ·have HFI2:=Lib.hid (HFX.out u hr)
             have hW:Held wr t.kids[q] (.slice a' t.kids[q].kids.length cap') (wn.alloc (.cells #[.int .i64 u.k,.int .i64 u.i,.int .i64 u.j,.int .i64 u.n,.slice a2 u.kids.length cap2] 24)):=held_alloc hh _
             have hLW:LiesP (wn.alloc (.cells #[.int .i64 u.k,.int .i64 u.i,.int .i64 u.j,.int .i64 u.n,.slice a2 u.kids.length cap2] 24)) (Own wr.heap.size (wn.alloc (.cells #[.int .i64 u.k,.int .i64 u.i,.int .i64 u.j,.int .i64 u.n,.slice a2 u.kids.length cap2] 24))) u.kids (.slice a2 u.kids.length cap2):=((hl2.from (by simp)).later ((Below.refl _ _).alloc (Nat.le_refl _) _))
             have hN:(wn.alloc (.cells #[.int .i64 u.k,.int .i64 u.i,.int .i64 u.j,.int .i64 u.n,.slice a2 u.kids.length cap2] 24)).heap[wn.heap.size]? =some (boxOf u (.slice a2 u.kids.length cap2)):=alloc_new _ _
             clear hh hbn hl2
             generalize (wn.alloc (.cells #[.int .i64 u.k,.int .i64 u.i,.int .i64 u.j,.int .i64 u.n,.slice a2 u.kids.length cap2] 24))=W at hW hLW hN ⊢
             have hdW:=desk_trans hdk (below_from (held_below hW) hsz)
             have hfW:=hfu.later (held_below hW)
             have hxq:q<xs.length:=by rw [HXL.out];exact hlt
             have hLF:=hfu.fresh hsz hLW
             obtain⟨-,-,q2⟩:=desk_blocks hdW
             obtain⟨y0,y1,y2,y3,y4⟩:=five_cells q2
             obtain⟨p0,p1,p2,p3,p4⟩:=five_cells hN
             obtain⟨x0,x1,x2,x3,x4⟩:=hfW.node q hxq
             obtain⟨cs,hcs⟩:=hfW.open'
             have f0:=open_unfrozen hcs (q * 5)
             have f1:=open_unfrozen hcs (q * 5+1)
             have f2:=open_unfrozen hcs (q * 5+2)
             have f3:=open_unfrozen hcs (q * 5+3)
             have f4:=open_unfrozen hcs (q * 5+4)
             have HFW:=Lib.hid hfW
             have HLF:=Lib.hid hLF
             have HFU:=Lib.hid hfu
             clear hcs hN hLW hW hfW hLF hfu d0 d1 d2 d3 d4 z0 z1 z2 z3 z4
             go_wp2
             go_roundw
             case rel=>exact⟨q+1,xs.set q (u,.slice a2 u.kids.length cap2),hlt,by go_num,by simp [Hid,HXL.out],by rw [Hid,optK_next hlt HXS.out hr,List.map_set,take_set_next _ _ _ (by simpa using hxq)],HFW.out.fill hxq HFI2.out HLF.out,desk_put hdW (Nat.le_refl _) _ _ _⟩
             case measure=>simp [intOf];omega
            ·have hW:Held wr t.kids[q] (.slice a' t.kids[q].kids.length cap') (wn.alloc (.cells #[.int .i64 u.k,.int .i64 u.i,.int .i64 u.j,.int .i64 u.n,.slice a2 n2 cap2] 24)):=held_alloc hh _
             clear hh hbn
             generalize (wn.alloc (.cells #[.int .i64 u.k,.int .i64 u.i,.int .i64 u.j,.int .i64 u.n,.slice a2 n2 cap2] 24))=W at hW ⊢
             have hdW:=desk_trans hdk (below_from (held_below hW) hsz)
             obtain⟨-,q1,-⟩:=desk_blocks hdW
             obtain⟨z0,z1,z2,z3,z4⟩:=five_cells q1
             obtain⟨f0,f1,f2,f3,f4⟩:=five_free q1
             go_wp2
             (try simp only [Exit.inBlock,Exit.then])
             refine bodyPost_ret (results_cell_tmp rfl _ _ (w.heap.size+1) _ _ _ du rfl (five_set q1) hu1 (by cases du<;>first | rfl | exact hu2) size_term) rfl ?_
             exact GivesN.wide ⟨((((((desk_under hdW).setCell (by simp) _).setCell (by simp) _).setCell (by simp) _).setCell (by simp) _).setCell (by simp) _),Or.inr ⟨Tm.zero,none,0,0,by rw [HEQ.out,optK_stop hlt hr];rfl,rfl⟩⟩ HBP.out
           exact AllReadyH.nil
          exact AllReadyH.nil
         refine AllReadyH.cons (o:={dst:=some 13,op:=Go.Op.alloc 24,type:=0,pos := "subst.go:89",after:=#[],guard:=none}) rfl (fun K hK=>?_) ?_
         ·go_simp
          refine hK.out _ _ ?_ (fun hHeld=>?_)
          ·(try dsimp only)
           (((with_reducible refine held_and2 ?_ d0 hpc);repeat (first | with_reducible assumption | with_reducible exact hH0 | with_reducible refine held_drew ?_ | with_reducible refine held_alloc ?_ _ | ((with_reducible refine held_set ?_ ?hh _);(case hh=>simp)))))
          clear hK K
          (try simp only [Act.put,List.setIfInBounds_toArray,List.set_cons_zero,List.set_cons_succ])
          refine wpAnyH_ready (rs:=[18]) (by kernel_rfl) (by simp) ?_
          refine AllReadyH.cons (o:={dst:=some 71,op:=Go.Op.call {callee:=Go.Callee.value (Go.Operand.func 43),args:=#[Go.Operand.tmp 53,Go.Operand.tmp 54,Go.Operand.tmp 60,Go.Operand.tmp 70],argTypes:=#[68,24,3,4] },type:=69,pos := "subst.go:89",after:=#[{on:=0,ground:=Go.Ground.data},{on:=1,ground:=Go.Ground.data},{on:=7,ground:=Go.Ground.data},{on:=17,ground:=Go.Ground.data},{on:=13,ground:=Go.Ground.chain}],guard:=none}) rfl (fun K hK=>?_) ?_
          ·go_simp
           ((go_at_call 43;((with_reducible refine Calls.mono CALLA.out ?_);rintro e wn ⟨⟨u,a2,n2,cap2,ok,rfl,hbn,hans⟩,hZ⟩;obtain⟨⟨g0,g1,g2,g3,g4⟩,k0,k1,k2,k3,k4⟩:=And.intro (five_cells hZ) (five_free hZ);have HANS:=Lib.hid hans;clear hans;have hh:=held_call (held_drew (held_alloc hH0 _)) hbn)))
           refine hK.out _ _ ?_ (fun hHeld=>?_)
           ·(try dsimp only)
            (((with_reducible refine held_and2 ?_ d0 hpc);repeat (first | with_reducible assumption | with_reducible exact hH0 | with_reducible refine held_drew ?_ | with_reducible refine held_alloc ?_ _ | ((with_reducible refine held_set ?_ ?hh _);(case hh=>simp)))))
           clear hK K
           (try simp only [Act.put,List.setIfInBounds_toArray,List.set_cons_zero,List.set_cons_succ])
           refine wpAnyH_take (i:=19) (oi:={dst:=some 52,op:=Go.Op.move (Go.Operand.tmp 71),type:=69,pos := "subst.go:89",after:=#[{on:=18,ground:=Go.Ground.data}],guard:=none}) (v:=?_) rfl (by kernel_rfl) (by kernel_rfl) (by kernel_rfl) (fun _ _ _ h=>h) (Or.inl ⟨by rfl,?_⟩) (by assumption) ?_
           rotate_left 1
           ·((intro w hSw;(try dsimp only at hSw);go_simp)<;>with_reducible rfl)
           (try simp only [Act.put,List.setIfInBounds_toArray,List.set_cons_zero,List.set_cons_succ])
           refine wpAnyH_take (i:=20) (oi:={dst:=some 72,op:=Go.Op.extract (Go.Operand.tmp 52) 0,type:=24,pos := "subst.go:89",after:=#[{on:=19,ground:=Go.Ground.data}],guard:=none}) (v:=?_) rfl (by kernel_rfl) (by kernel_rfl) (by kernel_rfl) (fun _ _ _ h=>h) (Or.inl ⟨by rfl,?_⟩) (by assumption) ?_
           rotate_left 1
           ·((intro w hSw;(try dsimp only at hSw);go_simp)<;>with_reducible rfl)
           (try simp only [Act.put,List.setIfInBounds_toArray,List.set_cons_zero,List.set_cons_succ])
           refine wpAnyH_take (i:=21) (oi:={dst:=some 73,op:=Go.Op.extract (Go.Operand.tmp 52) 1,type:=4,pos := "subst.go:89",after:=#[{on:=19,ground:=Go.Ground.data},{on:=23,ground:=Go.Ground.gcOnly Go.Departure.lateStores}],guard:=none}) (v:=?_) rfl (by kernel_rfl) (by kernel_rfl) (by kernel_rfl) (fun _ _ _ h=>h) (Or.inl ⟨by rfl,?_⟩) (by assumption) ?_
           rotate_left 1
           ·((intro w hSw;(try dsimp only at hSw);go_simp)<;>with_reducible rfl)
           (try simp only [Act.put,List.setIfInBounds_toArray,List.set_cons_zero,List.set_cons_succ])
           refine wpAnyH_ready (rs:=[23]) (by kernel_rfl) (by simp) ?_
           refine AllReadyH.cons (o:={dst:=none,op:=Go.Op.store 24 (Go.Operand.tmp 13) (Go.Operand.tmp 72),type:=0,pos := "subst.go:89",after:=#[{on:=22,ground:=Go.Ground.data},{on:=20,ground:=Go.Ground.data},{on:=18,ground:=Go.Ground.chain},{on:=0,ground:=Go.Ground.phase},{on:=1,ground:=Go.Ground.phase},{on:=2,ground:=Go.Ground.phase},{on:=3,ground:=Go.Ground.phase},{on:=4,ground:=Go.Ground.phase},{on:=5,ground:=Go.Ground.phase},{on:=6,ground:=Go.Ground.phase},{on:=7,ground:=Go.Ground.phase},{on:=8,ground:=Go.Ground.phase},{on:=9,ground:=Go.Ground.phase},{on:=10,ground:=Go.Ground.phase},{on:=11,ground:=Go.Ground.phase},{on:=12,ground:=Go.Ground.phase},{on:=13,ground:=Go.Ground.phase},{on:=14,ground:=Go.Ground.phase},{on:=15,ground:=Go.Ground.phase},{on:=16,ground:=Go.Ground.phase},{on:=17,ground:=Go.Ground.phase},{on:=18,ground:=Go.Ground.phase},{on:=19,ground:=Go.Ground.phase},{on:=20,ground:=Go.Ground.phase},{on:=21,ground:=Go.Ground.textOnly Go.Departure.lateStores},{on:=22,ground:=Go.Ground.phase}],guard:=none}) rfl (fun K hK=>?_) ?_
           ·go_simp
            refine hK.out _ _ ?_ (fun hHeld=>?_)
            ·(try dsimp only)
             (((with_reducible refine held_and2 ?_ d0 hpc);repeat (first | with_reducible assumption | with_reducible exact hH0 | with_reducible refine held_drew ?_ | with_reducible refine held_alloc ?_ _ | ((with_reducible refine held_set ?_ ?hh _);(case hh=>simp)))))
            clear hK K
            (try simp only [Act.put,List.setIfInBounds_toArray,List.set_cons_zero,List.set_cons_succ])
            refine wpAnyH_take (i:=24) (oi:={dst:=some 14,op:=Go.Op.assign (Go.Operand.tmp 73),type:=4,pos := "subst.go:89",after:=#[{on:=21,ground:=Go.Ground.data},{on:=23,ground:=Go.Ground.chain},{on:=0,ground:=Go.Ground.phase},{on:=1,ground:=Go.Ground.phase},{on:=2,ground:=Go.Ground.phase},{on:=3,ground:=Go.Ground.phase},{on:=4,ground:=Go.Ground.phase},{on:=5,ground:=Go.Ground.phase},{on:=6,ground:=Go.Ground.phase},{on:=7,ground:=Go.Ground.phase},{on:=8,ground:=Go.Ground.phase},{on:=9,ground:=Go.Ground.phase},{on:=10,ground:=Go.Ground.phase},{on:=11,ground:=Go.Ground.phase},{on:=12,ground:=Go.Ground.phase},{on:=13,ground:=Go.Ground.phase},{on:=14,ground:=Go.Ground.phase},{on:=15,ground:=Go.Ground.phase},{on:=16,ground:=Go.Ground.phase},{on:=17,ground:=Go.Ground.phase},{on:=18,ground:=Go.Ground.phase},{on:=19,ground:=Go.Ground.phase},{on:=20,ground:=Go.Ground.phase},{on:=21,ground:=Go.Ground.phase},{on:=22,ground:=Go.Ground.phase},{on:=23,ground:=Go.Ground.phase}],guard:=none}) (v:=?_) rfl (by kernel_rfl) (by kernel_rfl) (by kernel_rfl) (fun _ _ _ h=>h) (Or.inl ⟨by rfl,?_⟩) (by assumption) ?_
            rotate_left 1
            ·((intro w hSw;(try dsimp only at hSw);go_simp)<;>with_reducible rfl)
            (try simp only [Act.put,List.setIfInBounds_toArray,List.set_cons_zero,List.set_cons_succ])
            refine wpAnyH_done (by kernel_rfl) ?_ _
            rcases HANS.out with ⟨rfl,hr,rfl,hl2⟩ | ⟨rfl,hr⟩
            ·have HFI2:=Lib.hid (HFX.out u hr)
             have hW:Held wr t.kids[q] (.slice a' t.kids[q].kids.length cap') (((((wn.setCell ⟨wr.heap.size+1,0,none⟩ (.int .i64 u.k)).setCell ⟨wr.heap.size+1,1,none⟩ (.int .i64 u.i)).setCell ⟨wr.heap.size+1,2,none⟩ (.int .i64 u.j)).setCell ⟨wr.heap.size+1,3,none⟩ (.int .i64 u.n)).setCell ⟨wr.heap.size+1,4,none⟩ (.slice a2 u.kids.length cap2)):=held_five hh _ _ _ _ _
             have hLW:LiesP (((((wn.setCell ⟨wr.heap.size+1,0,none⟩ (.int .i64 u.k)).setCell ⟨wr.heap.size+1,1,none⟩ (.int .i64 u.i)).setCell ⟨wr.heap.size+1,2,none⟩ (.int .i64 u.j)).setCell ⟨wr.heap.size+1,3,none⟩ (.int .i64 u.n)).setCell ⟨wr.heap.size+1,4,none⟩ (.slice a2 u.kids.length cap2)) (Own wr.heap.size (((((wn.setCell ⟨wr.heap.size+1,0,none⟩ (.int .i64 u.k)).setCell ⟨wr.heap.size+1,1,none⟩ (.int .i64 u.i)).setCell ⟨wr.heap.size+1,2,none⟩ (.int .i64 u.j)).setCell ⟨wr.heap.size+1,3,none⟩ (.int .i64 u.n)).setCell ⟨wr.heap.size+1,4,none⟩ (.slice a2 u.kids.length cap2))) u.kids (.slice a2 u.kids.length cap2):=liesP_five (hl2.from (B':=wr.heap.size+2) (by simp)) _ _ _ _ _
             have hN:(((((wn.setCell ⟨wr.heap.size+1,0,none⟩ (.int .i64 u.k)).setCell ⟨wr.heap.size+1,1,none⟩ (.int .i64 u.i)).setCell ⟨wr.heap.size+1,2,none⟩ (.int .i64 u.j)).setCell ⟨wr.heap.size+1,3,none⟩ (.int .i64 u.n)).setCell ⟨wr.heap.size+1,4,none⟩ (.slice a2 u.kids.length cap2)).heap[wr.heap.size+1]? =some (boxOf u (.slice a2 u.kids.length cap2)):=five_set hZ
             clear hh hbn hl2 hZ g0 g1 g2 g3 g4 k0 k1 k2 k3 k4
             generalize (((((wn.setCell ⟨wr.heap.size+1,0,none⟩ (.int .i64 u.k)).setCell ⟨wr.heap.size+1,1,none⟩ (.int .i64 u.i)).setCell ⟨wr.heap.size+1,2,none⟩ (.int .i64 u.j)).setCell ⟨wr.heap.size+1,3,none⟩ (.int .i64 u.n)).setCell ⟨wr.heap.size+1,4,none⟩ (.slice a2 u.kids.length cap2))=W at hW hLW hN ⊢
             have hdW:=desk_trans hdk (below_from (held_below hW) hsz)
             have hfW:=hfu.later (held_below hW)
             have hxq:q<xs.length:=by rw [HXL.out];exact hlt
             have hLF:=hfu.fresh hsz hLW
             obtain⟨-,-,q2⟩:=desk_blocks hdW
             obtain⟨y0,y1,y2,y3,y4⟩:=five_cells q2
             obtain⟨p0,p1,p2,p3,p4⟩:=five_cells hN
             obtain⟨x0,x1,x2,x3,x4⟩:=hfW.node q hxq
             obtain⟨cs,hcs⟩:=hfW.open'
             have f0:=open_unfrozen hcs (q * 5)
             have f1:=open_unfrozen hcs (q * 5+1)
             have f2:=open_unfrozen hcs (q * 5+2)
             have f3:=open_unfrozen hcs (q * 5+3)
             have f4:=open_unfrozen hcs (q * 5+4)
             have HFW:=Lib.hid hfW
             have HLF:=Lib.hid hLF
             have HFU:=Lib.hid hfu
             clear hcs hN hLW hW hfW hLF hfu d0 d1 d2 d3 d4 z0 z1 z2 z3 z4
             go_wp2
             go_roundw
             case rel=>exact⟨q+1,xs.set q (u,.slice a2 u.kids.length cap2),hlt,by go_num,by simp [Hid,HXL.out],by rw [Hid,optK_next hlt HXS.out hr,List.map_set,take_set_next _ _ _ (by simpa using hxq)],HFW.out.fill hxq HFI2.out HLF.out,desk_put hdW (Nat.le_refl _) _ _ _⟩
             case measure=>simp [intOf];omega
            ·have hW:Held wr t.kids[q] (.slice a' t.kids[q].kids.length cap') (((((wn.setCell ⟨wr.heap.size+1,0,none⟩ (.int .i64 u.k)).setCell ⟨wr.heap.size+1,1,none⟩ (.int .i64 u.i)).setCell ⟨wr.heap.size+1,2,none⟩ (.int .i64 u.j)).setCell ⟨wr.heap.size+1,3,none⟩ (.int .i64 u.n)).setCell ⟨wr.heap.size+1,4,none⟩ (.slice a2 n2 cap2)):=held_five hh _ _ _ _ _
             clear hh hbn hZ g0 g1 g2 g3 g4 k0 k1 k2 k3 k4
             generalize (((((wn.setCell ⟨wr.heap.size+1,0,none⟩ (.int .i64 u.k)).setCell ⟨wr.heap.size+1,1,none⟩ (.int .i64 u.i)).setCell ⟨wr.heap.size+1,2,none⟩ (.int .i64 u.j)).setCell ⟨wr.heap.size+1,3,none⟩ (.int .i64 u.n)).setCell ⟨wr.heap.size+1,4,none⟩ (.slice a2 n2 cap2))=W at hW ⊢
             have hdW:=desk_trans hdk (below_from (held_below hW) hsz)
             obtain⟨-,q1,-⟩:=desk_blocks hdW
             obtain⟨z0,z1,z2,z3,z4⟩:=five_cells q1
             obtain⟨f0,f1,f2,f3,f4⟩:=five_free q1
             go_wp2
             (try simp only [Exit.inBlock,Exit.then])
             refine bodyPost_ret (results_cell_tmp rfl _ _ (w.heap.size+1) _ _ _ du rfl (five_set q1) hu1 (by cases du<;>first | rfl | exact hu2) size_term) rfl ?_
             exact GivesN.wide ⟨((((((desk_under hdW).setCell (by simp) _).setCell (by simp) _).setCell (by simp) _).setCell (by simp) _).setCell (by simp) _),Or.inr ⟨Tm.zero,none,0,0,by rw [HEQ.out,optK_stop hlt hr];rfl,rfl⟩⟩ HBP.out
           exact AllReadyH.nil
          exact AllReadyH.nil
         exact AllReadyH.nil
        refine AllReadyH.cons (o:={dst:=some 13,op:=Go.Op.alloc 24,type:=0,pos := "subst.go:89",after:=#[],guard:=none}) rfl (fun K hK=>?_) ?_
        ·go_simp
         refine hK.out _ _ ?_ (fun hHeld=>?_)
         ·(try dsimp only)
          (((with_reducible refine held_and2 ?_ d0 hpc);repeat (first | with_reducible assumption | with_reducible exact hH0 | with_reducible refine held_drew ?_ | with_reducible refine held_alloc ?_ _ | ((with_reducible refine held_set ?_ ?hh _);(case hh=>simp)))))
         clear hK K
         (try simp only [Act.put,List.setIfInBounds_toArray,List.set_cons_zero,List.set_cons_succ])
         refine wpAnyH_ready (rs:=[6]) (by kernel_rfl) (by simp) ?_
         refine AllReadyH.cons (o:={dst:=some 59,op:=Go.Op.call {callee:=Go.Callee.value (Go.Operand.func 58),args:=#[Go.Operand.tmp 57,Go.Operand.tmp 58],argTypes:=#[3,3] },type:=3,pos := "subst.go:89",after:=#[{on:=4,ground:=Go.Ground.data},{on:=5,ground:=Go.Ground.data}],guard:=none}) rfl (fun K hK=>?_) ?_
         ·go_simp
          ((go_at_call 58;refine(binds_any _ _ _).mono ?_;rintro e w' ⟨rfl,rfl⟩))
          refine hK.out _ _ ?_ (fun hHeld=>?_)
          ·(try dsimp only)
           (((with_reducible refine held_and2 ?_ d0 hpc);repeat (first | with_reducible assumption | with_reducible exact hH0 | with_reducible refine held_drew ?_ | with_reducible refine held_alloc ?_ _ | ((with_reducible refine held_set ?_ ?hh _);(case hh=>simp)))))
          clear hK K
          (try simp only [Act.put,List.setIfInBounds_toArray,List.set_cons_zero,List.set_cons_succ])
          refine wpAnyH_take (i:=7) (oi:={dst:=some 60,op:=Go.Op.binOp Go.BinOp.add 3 (Go.Operand.tmp 55) (Go.Operand.tmp 59) 3,type:=3,pos := "subst.go:89",after:=#[{on:=2,ground:=Go.Ground.data},{on:=6,ground:=Go.Ground.data}],guard:=none}) (v:=?_) rfl (by kernel_rfl) (by kernel_rfl) (by kernel_rfl) (fun _ _ _ h=>h) (Or.inl ⟨by rfl,?_⟩) (by assumption) ?_
          rotate_left 1
          ·((intro w hSw;(try dsimp only at hSw);go_simp)<;>with_reducible rfl)
          (try simp only [Act.put,List.setIfInBounds_toArray,List.set_cons_zero,List.set_cons_succ])
          refine wpAnyH_take (i:=9) (oi:={dst:=some 62,op:=Go.Op.move (Go.Operand.tmp 61),type:=4,pos := "subst.go:89",after:=#[{on:=8,ground:=Go.Ground.data},{on:=6,ground:=Go.Ground.chain}],guard:=none}) (v:=?_) rfl (by kernel_rfl) (by kernel_rfl) (by kernel_rfl) (fun _ _ _ h=>h) (Or.inl ⟨by rfl,?_⟩) (by assumption) ?_
          rotate_left 1
          ·((intro w hSw;(try dsimp only at hSw);go_simp)<;>with_reducible rfl)
          (try simp only [Act.put,List.setIfInBounds_toArray,List.set_cons_zero,List.set_cons_succ])
          refine wpAnyH_take (i:=10) (oi:={dst:=some 63,op:=Go.Op.fieldAddr 24 (Go.Operand.tmp 5) 0,type:=0,pos := "subst.go:89",after:=#[{on:=9,ground:=Go.Ground.guard}],guard:=some (9,false) }) (v:=?_) rfl (by kernel_rfl) (by kernel_rfl) (by kernel_rfl) (fun _ _ _ h=>h) (Or.inl ⟨by rfl,?_⟩) (by assumption) ?_
          rotate_left 1
          ·((intro w hSw;(try dsimp only at hSw);go_simp)<;>with_reducible rfl)
          (try simp only [Act.put,List.setIfInBounds_toArray,List.set_cons_zero,List.set_cons_succ])
          refine wpAnyH_take (i:=11) (oi:={dst:=some 64,op:=Go.Op.load 3 (Go.Operand.tmp 63),type:=3,pos := "subst.go:89",after:=#[{on:=10,ground:=Go.Ground.data},{on:=9,ground:=Go.Ground.guard}],guard:=some (9,false) }) (v:=?_) rfl (by kernel_rfl) (by kernel_rfl) (by kernel_rfl) (fun _ _ _ h=>h) (Or.inl ⟨by rfl,?_⟩) (by assumption) ?_
          rotate_left 1
          ·((intro w hSw;(try dsimp only at hSw);go_simp)<;>with_reducible rfl)
          (try simp only [Act.put,List.setIfInBounds_toArray,List.set_cons_zero,List.set_cons_succ])
          refine wpAnyH_take (i:=12) (oi:={dst:=some 65,op:=Go.Op.binOp Go.BinOp.eql 3 (Go.Operand.tmp 64) (Go.Operand.const (Go.Value.int Go.IntKind.i64 12)) 3,type:=4,pos := "subst.go:89",after:=#[{on:=11,ground:=Go.Ground.data},{on:=9,ground:=Go.Ground.guard}],guard:=some (9,false) }) (v:=?_) rfl (by kernel_rfl) (by kernel_rfl) (by kernel_rfl) (fun _ _ _ h=>h) (Or.inl ⟨by rfl,?_⟩) (by assumption) ?_
          rotate_left 1
          ·((intro w hSw;(try dsimp only at hSw);go_simp)<;>with_reducible rfl)
          (try simp only [Act.put,List.setIfInBounds_toArray,List.set_cons_zero,List.set_cons_succ])
          refine wpAnyH_take (i:=13) (oi:={dst:=some 66,op:=Go.Op.move (Go.Operand.tmp 65),type:=4,pos := "subst.go:89",after:=#[{on:=12,ground:=Go.Ground.data},{on:=9,ground:=Go.Ground.chain},{on:=9,ground:=Go.Ground.guard}],guard:=some (9,false) }) (v:=?_) rfl (by kernel_rfl) (by kernel_rfl) (by kernel_rfl) (fun _ _ _ h=>h) (Or.inl ⟨by rfl,?_⟩) (by assumption) ?_
          rotate_left 1
          ·((intro w hSw;(try dsimp only at hSw);go_simp)<;>with_reducible rfl)
          (try simp only [Act.put,List.setIfInBounds_toArray,List.set_cons_zero,List.set_cons_succ])
          refine wpAnyH_take (i:=14) (oi:={dst:=some 67,op:=Go.Op.move (Go.Operand.tmp 11),type:=3,pos := "subst.go:89",after:=#[{on:=13,ground:=Go.Ground.guard}],guard:=some (13,true) }) (v:=?_) rfl (by kernel_rfl) (by kernel_rfl) (by kernel_rfl) (fun _ _ _ h=>h) (Or.inl ⟨by rfl,?_⟩) (by assumption) ?_
          rotate_left 1
          ·((intro w hSw;(try dsimp only at hSw);go_simp)<;>with_reducible rfl)
          (try simp only [Act.put,List.setIfInBounds_toArray,List.set_cons_zero,List.set_cons_succ])
          refine wpAnyH_take (i:=15) (oi:={dst:=some 68,op:=Go.Op.binOp Go.BinOp.eql 3 (Go.Operand.tmp 67) (Go.Operand.const (Go.Value.int Go.IntKind.i64 2)) 3,type:=4,pos := "subst.go:89",after:=#[{on:=14,ground:=Go.Ground.data},{on:=13,ground:=Go.Ground.guard}],guard:=some (13,true) }) (v:=?_) rfl (by kernel_rfl) (by kernel_rfl) (by kernel_rfl) (fun _ _ _ h=>h) (Or.inl ⟨by rfl,?_⟩) (by assumption) ?_
          rotate_left 1
          ·((intro w hSw;(try dsimp only at hSw);go_simp)<;>with_reducible rfl)
          (try simp only [Act.put,List.setIfInBounds_toArray,List.set_cons_zero,List.set_cons_succ])
          refine wpAnyH_take (i:=16) (oi:={dst:=some 69,op:=Go.Op.pick (Go.Operand.tmp 66) (Go.Operand.tmp 68) (Go.Operand.const (Go.Value.bool false)),type:=4,pos := "subst.go:89",after:=#[{on:=13,ground:=Go.Ground.data},{on:=15,ground:=Go.Ground.data},{on:=9,ground:=Go.Ground.guard}],guard:=some (9,false) }) (v:=?_) rfl (by kernel_rfl) (by kernel_rfl) (by kernel_rfl) (fun _ _ _ h=>h) (Or.inl ⟨by rfl,?_⟩) (by assumption) ?_
          rotate_left 1
          ·((intro w hSw;(try dsimp only at hSw);go_simp)<;>with_reducible rfl)
          (try simp only [Act.put,List.setIfInBounds_toArray,List.set_cons_zero,List.set_cons_succ])
          refine wpAnyH_take (i:=17) (oi:={dst:=some 70,op:=Go.Op.pick (Go.Operand.tmp 62) (Go.Operand.const (Go.Value.bool true)) (Go.Operand.tmp 69),type:=4,pos := "subst.go:89",after:=#[{on:=9,ground:=Go.Ground.data},{on:=16,ground:=Go.Ground.data}],guard:=none}) (v:=?_) rfl (by kernel_rfl) (by kernel_rfl) (by kernel_rfl) (fun _ _ _ h=>h) (Or.inl ⟨by rfl,?_⟩) (by assumption) ?_
          rotate_left 1
          ·((intro w hSw;(try dsimp only at hSw);go_simp)<;>with_reducible rfl)
          (try simp only [Act.put,List.setIfInBounds_toArray,List.set_cons_zero,List.set_cons_succ])
          refine wpAnyH_ready (rs:=[18]) (by kernel_rfl) (by simp) ?_
          refine AllReadyH.cons (o:={dst:=some 71,op:=Go.Op.call {callee:=Go.Callee.value (Go.Operand.func 43),args:=#[Go.Operand.tmp 53,Go.Operand.tmp 54,Go.Operand.tmp 60,Go.Operand.tmp 70],argTypes:=#[68,24,3,4] },type:=69,pos := "subst.go:89",after:=#[{on:=0,ground:=Go.Ground.data},{on:=1,ground:=Go.Ground.data},{on:=7,ground:=Go.Ground.data},{on:=17,ground:=Go.Ground.data},{on:=13,ground:=Go.Ground.chain}],guard:=none}) rfl (fun K hK=>?_) ?_
          ·go_simp
           ((go_at_call 43;((with_reducible refine Calls.mono CALLA.out ?_);rintro e wn ⟨⟨u,a2,n2,cap2,ok,rfl,hbn,hans⟩,hZ⟩;obtain⟨⟨g0,g1,g2,g3,g4⟩,k0,k1,k2,k3,k4⟩:=And.intro (five_cells hZ) (five_free hZ);have HANS:=Lib.hid hans;clear hans;have hh:=held_call (held_drew (held_alloc hH0 _)) hbn)))
           refine hK.out _ _ ?_ (fun hHeld=>?_)
           ·(try dsimp only)
            (((with_reducible refine held_and2 ?_ d0 hpc);repeat (first | with_reducible assumption | with_reducible exact hH0 | with_reducible refine held_drew ?_ | with_reducible refine held_alloc ?_ _ | ((with_reducible refine held_set ?_ ?hh _);(case hh=>simp)))))
           clear hK K
           (try simp only [Act.put,List.setIfInBounds_toArray,List.set_cons_zero,List.set_cons_succ])
           refine wpAnyH_take (i:=19) (oi:={dst:=some 52,op:=Go.Op.move (Go.Operand.tmp 71),type:=69,pos := "subst.go:89",after:=#[{on:=18,ground:=Go.Ground.data}],guard:=none}) (v:=?_) rfl (by kernel_rfl) (by kernel_rfl) (by kernel_rfl) (fun _ _ _ h=>h) (Or.inl ⟨by rfl,?_⟩) (by assumption) ?_
           rotate_left 1
           ·((intro w hSw;(try dsimp only at hSw);go_simp)<;>with_reducible rfl)
           (try simp only [Act.put,List.setIfInBounds_toArray,List.set_cons_zero,List.set_cons_succ])
           refine wpAnyH_take (i:=20) (oi:={dst:=some 72,op:=Go.Op.extract (Go.Operand.tmp 52) 0,type:=24,pos := "subst.go:89",after:=#[{on:=19,ground:=Go.Ground.data}],guard:=none}) (v:=?_) rfl (by kernel_rfl) (by kernel_rfl) (by kernel_rfl) (fun _ _ _ h=>h) (Or.inl ⟨by rfl,?_⟩) (by assumption) ?_
           rotate_left 1
           ·((intro w hSw;(try dsimp only at hSw);go_simp)<;>with_reducible rfl)
           (try simp only [Act.put,List.setIfInBounds_toArray,List.set_cons_zero,List.set_cons_succ])
           refine wpAnyH_take (i:=21) (oi:={dst:=some 73,op:=Go.Op.extract (Go.Operand.tmp 52) 1,type:=4,pos := "subst.go:89",after:=#[{on:=19,ground:=Go.Ground.data},{on:=23,ground:=Go.Ground.gcOnly Go.Departure.lateStores}],guard:=none}) (v:=?_) rfl (by kernel_rfl) (by kernel_rfl) (by kernel_rfl) (fun _ _ _ h=>h) (Or.inl ⟨by rfl,?_⟩) (by assumption) ?_
           rotate_left 1
           ·((intro w hSw;(try dsimp only at hSw);go_simp)<;>with_reducible rfl)
           (try simp only [Act.put,List.setIfInBounds_toArray,List.set_cons_zero,List.set_cons_succ])
           refine wpAnyH_ready (rs:=[23]) (by kernel_rfl) (by simp) ?_
           refine AllReadyH.cons (o:={dst:=none,op:=Go.Op.store 24 (Go.Operand.tmp 13) (Go.Operand.tmp 72),type:=0,pos := "subst.go:89",after:=#[{on:=22,ground:=Go.Ground.data},{on:=20,ground:=Go.Ground.data},{on:=18,ground:=Go.Ground.chain},{on:=0,ground:=Go.Ground.phase},{on:=1,ground:=Go.Ground.phase},{on:=2,ground:=Go.Ground.phase},{on:=3,ground:=Go.Ground.phase},{on:=4,ground:=Go.Ground.phase},{on:=5,ground:=Go.Ground.phase},{on:=6,ground:=Go.Ground.phase},{on:=7,ground:=Go.Ground.phase},{on:=8,ground:=Go.Ground.phase},{on:=9,ground:=Go.Ground.phase},{on:=10,ground:=Go.Ground.phase},{on:=11,ground:=Go.Ground.phase},{on:=12,ground:=Go.Ground.phase},{on:=13,ground:=Go.Ground.phase},{on:=14,ground:=Go.Ground.phase},{on:=15,ground:=Go.Ground.phase},{on:=16,ground:=Go.Ground.phase},{on:=17,ground:=Go.Ground.phase},{on:=18,ground:=Go.Ground.phase},{on:=19,ground:=Go.Ground.phase},{on:=20,ground:=Go.Ground.phase},{on:=21,ground:=Go.Ground.textOnly Go.Departure.lateStores},{on:=22,ground:=Go.Ground.phase}],guard:=none}) rfl (fun K hK=>?_) ?_
           ·go_simp
            refine hK.out _ _ ?_ (fun hHeld=>?_)
            ·(try dsimp only)
             (((with_reducible refine held_and2 ?_ d0 hpc);repeat (first | with_reducible assumption | with_reducible exact hH0 | with_reducible refine held_drew ?_ | with_reducible refine held_alloc ?_ _ | ((with_reducible refine held_set ?_ ?hh _);(case hh=>simp)))))
            clear hK K
            (try simp only [Act.put,List.setIfInBounds_toArray,List.set_cons_zero,List.set_cons_succ])
            refine wpAnyH_take (i:=24) (oi:={dst:=some 14,op:=Go.Op.assign (Go.Operand.tmp 73),type:=4,pos := "subst.go:89",after:=#[{on:=21,ground:=Go.Ground.data},{on:=23,ground:=Go.Ground.chain},{on:=0,ground:=Go.Ground.phase},{on:=1,ground:=Go.Ground.phase},{on:=2,ground:=Go.Ground.phase},{on:=3,ground:=Go.Ground.phase},{on:=4,ground:=Go.Ground.phase},{on:=5,ground:=Go.Ground.phase},{on:=6,ground:=Go.Ground.phase},{on:=7,ground:=Go.Ground.phase},{on:=8,ground:=Go.Ground.phase},{on:=9,ground:=Go.Ground.phase},{on:=10,ground:=Go.Ground.phase},{on:=11,ground:=Go.Ground.phase},{on:=12,ground:=Go.Ground.phase},{on:=13,ground:=Go.Ground.phase},{on:=14,ground:=Go.Ground.phase},{on:=15,ground:=Go.Ground.phase},{on:=16,ground:=Go.Ground.phase},{on:=17,ground:=Go.Ground.phase},{on:=18,ground:=Go.Ground.phase},{on:=19,ground:=Go.Ground.phase},{on:=20,ground:=Go.Ground.phase},{on:=21,ground:=Go.Ground.phase},{on:=22,ground:=Go.Ground.phase},{on:=23,ground:=Go.Ground.phase}],guard:=none}) (v:=?_) rfl (by kernel_rfl) (by kernel_rfl) (by kernel_rfl) (fun _ _ _ h=>h) (Or.inl ⟨by rfl,?_⟩) (by assumption) ?_
            rotate_left 1
            ·((intro w hSw;(try dsimp only at hSw);go_simp)<;>with_reducible rfl)
            (try simp only [Act.put,List.setIfInBounds_toArray,List.set_cons_zero,List.set_cons_succ])
            refine wpAnyH_done (by kernel_rfl) ?_ _
            rcases HANS.out with ⟨rfl,hr,rfl,hl2⟩ | ⟨rfl,hr⟩
            ·have HFI2:=Lib.hid (HFX.out u hr)
             have hW:Held wr t.kids[q] (.slice a' t.kids[q].kids.length cap') (((((wn.setCell ⟨wr.heap.size+1,0,none⟩ (.int .i64 u.k)).setCell ⟨wr.heap.size+1,1,none⟩ (.int .i64 u.i)).setCell ⟨wr.heap.size+1,2,none⟩ (.int .i64 u.j)).setCell ⟨wr.heap.size+1,3,none⟩ (.int .i64 u.n)).setCell ⟨wr.heap.size+1,4,none⟩ (.slice a2 u.kids.length cap2)):=held_five hh _ _ _ _ _
             have hLW:LiesP (((((wn.setCell ⟨wr.heap.size+1,0,none⟩ (.int .i64 u.k)).setCell ⟨wr.heap.size+1,1,none⟩ (.int .i64 u.i)).setCell ⟨wr.heap.size+1,2,none⟩ (.int .i64 u.j)).setCell ⟨wr.heap.size+1,3,none⟩ (.int .i64 u.n)).setCell ⟨wr.heap.size+1,4,none⟩ (.slice a2 u.kids.length cap2)) (Own wr.heap.size (((((wn.setCell ⟨wr.heap.size+1,0,none⟩ (.int .i64 u.k)).setCell ⟨wr.heap.size+1,1,none⟩ (.int .i64 u.i)).setCell ⟨wr.heap.size+1,2,none⟩ (.int .i64 u.j)).setCell ⟨wr.heap.size+1,3,none⟩ (.int .i64 u.n)).setCell ⟨wr.heap.size+1,4,none⟩ (.slice a2 u.kids.length cap2))) u.kids (.slice a2 u.kids.length cap2):=liesP_five (hl2.from (B':=wr.heap.size+2) (by simp)) _ _ _ _ _
             have hN:(((((wn.setCell ⟨wr.heap.size+1,0,none⟩ (.int .i64 u.k)).setCell ⟨wr.heap.size+1,1,none⟩ (.int .i64 u.i)).setCell ⟨wr.heap.size+1,2,none⟩ (.int .i64 u.j)).setCell ⟨wr.heap.size+1,3,none⟩ (.int .i64 u.n)).setCell ⟨wr.heap.size+1,4,none⟩ (.slice a2 u.kids.length cap2)).heap[wr.heap.size+1]? =some (boxOf u (.slice a2 u.kids.length cap2)):=five_set hZ
             clear hh hbn hl2 hZ g0 g1 g2 g3 g4 k0 k1 k2 k3 k4
             generalize (((((wn.setCell ⟨wr.heap.size+1,0,none⟩ (.int .i64 u.k)).setCell ⟨wr.heap.size+1,1,none⟩ (.int .i64 u.i)).setCell ⟨wr.heap.size+1,2,none⟩ (.int .i64 u.j)).setCell ⟨wr.heap.size+1,3,none⟩ (.int .i64 u.n)).setCell ⟨wr.heap.size+1,4,none⟩ (.slice a2 u.kids.length cap2))=W at hW hLW hN ⊢
             have hdW:=desk_trans hdk (below_from (held_below hW) hsz)
             have hfW:=hfu.later (held_below hW)
             have hxq:q<xs.length:=by rw [HXL.out];exact hlt
             have hLF:=hfu.fresh hsz hLW
             obtain⟨-,-,q2⟩:=desk_blocks hdW
             obtain⟨y0,y1,y2,y3,y4⟩:=five_cells q2
             obtain⟨p0,p1,p2,p3,p4⟩:=five_cells hN
             obtain⟨x0,x1,x2,x3,x4⟩:=hfW.node q hxq
             obtain⟨cs,hcs⟩:=hfW.open'
             have f0:=open_unfrozen hcs (q * 5)
             have f1:=open_unfrozen hcs (q * 5+1)
             have f2:=open_unfrozen hcs (q * 5+2)
             have f3:=open_unfrozen hcs (q * 5+3)
             have f4:=open_unfrozen hcs (q * 5+4)
             have HFW:=Lib.hid hfW
             have HLF:=Lib.hid hLF
             have HFU:=Lib.hid hfu
             clear hcs hN hLW hW hfW hLF hfu d0 d1 d2 d3 d4 z0 z1 z2 z3 z4
             go_wp2
             go_roundw
             case rel=>exact⟨q+1,xs.set q (u,.slice a2 u.kids.length cap2),hlt,by go_num,by simp [Hid,HXL.out],by rw [Hid,optK_next hlt HXS.out hr,List.map_set,take_set_next _ _ _ (by simpa using hxq)],HFW.out.fill hxq HFI2.out HLF.out,desk_put hdW (Nat.le_refl _) _ _ _⟩
             case measure=>simp [intOf];omega
            ·have hW:Held wr t.kids[q] (.slice a' t.kids[q].kids.length cap') (((((wn.setCell ⟨wr.heap.size+1,0,none⟩ (.int .i64 u.k)).setCell ⟨wr.heap.size+1,1,none⟩ (.int .i64 u.i)).setCell ⟨wr.heap.size+1,2,none⟩ (.int .i64 u.j)).setCell ⟨wr.heap.size+1,3,none⟩ (.int .i64 u.n)).setCell ⟨wr.heap.size+1,4,none⟩ (.slice a2 n2 cap2)):=held_five hh _ _ _ _ _
             clear hh hbn hZ g0 g1 g2 g3 g4 k0 k1 k2 k3 k4
             generalize (((((wn.setCell ⟨wr.heap.size+1,0,none⟩ (.int .i64 u.k)).setCell ⟨wr.heap.size+1,1,none⟩ (.int .i64 u.i)).setCell ⟨wr.heap.size+1,2,none⟩ (.int .i64 u.j)).setCell ⟨wr.heap.size+1,3,none⟩ (.int .i64 u.n)).setCell ⟨wr.heap.size+1,4,none⟩ (.slice a2 n2 cap2))=W at hW ⊢
             have hdW:=desk_trans hdk (below_from (held_below hW) hsz)
             obtain⟨-,q1,-⟩:=desk_blocks hdW
             obtain⟨z0,z1,z2,z3,z4⟩:=five_cells q1
             obtain⟨f0,f1,f2,f3,f4⟩:=five_free q1
             go_wp2
             (try simp only [Exit.inBlock,Exit.then])
             refine bodyPost_ret (results_cell_tmp rfl _ _ (w.heap.size+1) _ _ _ du rfl (five_set q1) hu1 (by cases du<;>first | rfl | exact hu2) size_term) rfl ?_
             exact GivesN.wide ⟨((((((desk_under hdW).setCell (by simp) _).setCell (by simp) _).setCell (by simp) _).setCell (by simp) _).setCell (by simp) _),Or.inr ⟨Tm.zero,none,0,0,by rw [HEQ.out,optK_stop hlt hr];rfl,rfl⟩⟩ HBP.out
           exact AllReadyH.nil
          exact AllReadyH.nil
         exact AllReadyH.nil
        exact AllReadyH.nil
       ·have ek12:(t.k==12)=false:=by simpa using h12
        have hF:(false||(t.k==12&&q==2))=false:=by rw [ek12];rfl
        have hc:=HCALL.out
        rw [hF] at hc
        have hH0:=held_start wr t.kids[q] (.slice a' t.kids[q].kids.length cap')
        have CALL2:∀ w',Held wr t.kids[q] (.slice a' t.kids[q].kids.length cap') w'→Calls Try.prog 43 #[.agg #[.func (.func fid) #[] #[.pointer (some ⟨bv,0,none⟩)]],tv t.kids[q] (.slice a' t.kids[q].kids.length cap'),.int .i64 (b+bindsN t.k q),.bool false] w' (GivesY (t.kids[q].putG g (b+bindsN t.k q) (false||(t.k==12&&q==2))) w'):=fun w' h'=>(hc w' h').mono fun e w'' h=>by rw [←hF] at h;exact h.ans
        have CALLB:=Lib.hid (CALL2 (wr.alloc (.cells #[.int .i64 t.kids[q].k,.int .i64 t.kids[q].i,.int .i64 t.kids[q].j,.int .i64 t.kids[q].n,.slice a' t.kids[q].kids.length cap'] 24)).drew (held_drew hH0))
        have CALLA:=Lib.hid ((CALL2 ((wr.alloc (.cells #[.int .i64 t.kids[q].k,.int .i64 t.kids[q].i,.int .i64 t.kids[q].j,.int .i64 t.kids[q].n,.slice a' t.kids[q].kids.length cap'] 24)).alloc zeroObj).drew (held_drew (held_alloc hH0 _))).mono fun e w'' h=>And.intro h (zero_blocks_new h.below))
        clear hc HCALL CALL2 hF h12
        go_wp2_with fail
        refine wp_region_held_drew (S:=fun w'=>Held wr t.kids[q] (.slice a' t.kids[q].kids.length cap') w'∧w'.cell? ⟨w.heap.size,0,none⟩=some (.int .i64 t.k)∧w'.cell? ⟨wi.heap.size,0,none⟩=some (.func (.func fid) #[] #[.pointer (some ⟨bv,0,none⟩)])∧w'.cell? ⟨wr.heap.size,0,none⟩=some (.int .i64 t.kids[q].k)∧w'.cell? ⟨wr.heap.size,1,none⟩=some (.int .i64 t.kids[q].i)∧w'.cell? ⟨wr.heap.size,2,none⟩=some (.int .i64 t.kids[q].j)∧w'.cell? ⟨wr.heap.size,3,none⟩=some (.int .i64 t.kids[q].n)∧w'.cell? ⟨wr.heap.size,4,none⟩=some (.slice a' t.kids[q].kids.length cap')) (by kernel_rfl) ?_ (fun hHeld=>?_)
        ·(try dsimp only)
         (((with_reducible refine held_and2 ?_ d0 hpc);repeat (first | with_reducible assumption | with_reducible exact hH0 | with_reducible refine held_drew ?_ | with_reducible refine held_alloc ?_ _ | ((with_reducible refine held_set ?_ ?hh _);(case hh=>simp)))))
        refine wpAnyH_take (i:=0) (oi:={dst:=some 53,op:=Go.Op.load 68 (Go.Operand.tmp 4),type:=68,pos := "subst.go:89",after:=#[],guard:=none}) (v:=?_) rfl (by kernel_rfl) (by kernel_rfl) (by kernel_rfl) (fun _ _ _ h=>h) (Or.inl ⟨by rfl,?_⟩) (by assumption) ?_
        rotate_left 1
        ·((intro w hSw;(try dsimp only at hSw);go_simp)<;>with_reducible rfl)
        (try simp only [Act.put,List.setIfInBounds_toArray,List.set_cons_zero,List.set_cons_succ])
        refine wpAnyH_take (i:=1) (oi:={dst:=some 54,op:=Go.Op.load 24 (Go.Operand.tmp 12),type:=24,pos := "subst.go:89",after:=#[],guard:=none}) (v:=?_) rfl (by kernel_rfl) (by kernel_rfl) (by kernel_rfl) (fun _ _ _ h=>h) (Or.inl ⟨by rfl,?_⟩) (by assumption) ?_
        rotate_left 1
        ·((intro w hSw;(try dsimp only at hSw);go_simp)<;>with_reducible rfl)
        (try simp only [Act.put,List.setIfInBounds_toArray,List.set_cons_zero,List.set_cons_succ])
        refine wpAnyH_take (i:=2) (oi:={dst:=some 55,op:=Go.Op.move (Go.Operand.tmp 2),type:=3,pos := "subst.go:89",after:=#[],guard:=none}) (v:=?_) rfl (by kernel_rfl) (by kernel_rfl) (by kernel_rfl) (fun _ _ _ h=>h) (Or.inl ⟨by rfl,?_⟩) (by assumption) ?_
        rotate_left 1
        ·((intro w hSw;(try dsimp only at hSw);go_simp)<;>with_reducible rfl)
        (try simp only [Act.put,List.setIfInBounds_toArray,List.set_cons_zero,List.set_cons_succ])
        refine wpAnyH_take (i:=3) (oi:={dst:=some 56,op:=Go.Op.fieldAddr 24 (Go.Operand.tmp 5) 0,type:=0,pos := "subst.go:89",after:=#[],guard:=none}) (v:=?_) rfl (by kernel_rfl) (by kernel_rfl) (by kernel_rfl) (fun _ _ _ h=>h) (Or.inl ⟨by rfl,?_⟩) (by assumption) ?_
        rotate_left 1
        ·((intro w hSw;(try dsimp only at hSw);go_simp)<;>with_reducible rfl)
        (try simp only [Act.put,List.setIfInBounds_toArray,List.set_cons_zero,List.set_cons_succ])
        refine wpAnyH_take (i:=4) (oi:={dst:=some 57,op:=Go.Op.load 3 (Go.Operand.tmp 56),type:=3,pos := "subst.go:89",after:=#[{on:=3,ground:=Go.Ground.data}],guard:=none}) (v:=?_) rfl (by kernel_rfl) (by kernel_rfl) (by kernel_rfl) (fun _ _ _ h=>h) (Or.inl ⟨by rfl,?_⟩) (by assumption) ?_
        rotate_left 1
        ·((intro w hSw;(try dsimp only at hSw);go_simp)<;>with_reducible rfl)
        (try simp only [Act.put,List.setIfInBounds_toArray,List.set_cons_zero,List.set_cons_succ])
        refine wpAnyH_take (i:=5) (oi:={dst:=some 58,op:=Go.Op.move (Go.Operand.tmp 11),type:=3,pos := "subst.go:89",after:=#[],guard:=none}) (v:=?_) rfl (by kernel_rfl) (by kernel_rfl) (by kernel_rfl) (fun _ _ _ h=>h) (Or.inl ⟨by rfl,?_⟩) (by assumption) ?_
        rotate_left 1
        ·((intro w hSw;(try dsimp only at hSw);go_simp)<;>with_reducible rfl)
        (try simp only [Act.put,List.setIfInBounds_toArray,List.set_cons_zero,List.set_cons_succ])
        refine wpAnyH_take (i:=8) (oi:={dst:=some 61,op:=Go.Op.move (Go.Operand.tmp 3),type:=4,pos := "subst.go:89",after:=#[],guard:=none}) (v:=?_) rfl (by kernel_rfl) (by kernel_rfl) (by kernel_rfl) (fun _ _ _ h=>h) (Or.inl ⟨by rfl,?_⟩) (by assumption) ?_
        rotate_left 1
        ·((intro w hSw;(try dsimp only at hSw);go_simp)<;>with_reducible rfl)
        (try simp only [Act.put,List.setIfInBounds_toArray,List.set_cons_zero,List.set_cons_succ])
        refine wpAnyH_ready (rs:=[6,22]) (by kernel_rfl) (by simp) ?_
        refine AllReadyH.cons (o:={dst:=some 59,op:=Go.Op.call {callee:=Go.Callee.value (Go.Operand.func 58),args:=#[Go.Operand.tmp 57,Go.Operand.tmp 58],argTypes:=#[3,3] },type:=3,pos := "subst.go:89",after:=#[{on:=4,ground:=Go.Ground.data},{on:=5,ground:=Go.Ground.data}],guard:=none}) rfl (fun K hK=>?_) ?_
        ·go_simp
         ((go_at_call 58;refine(binds_any _ _ _).mono ?_;rintro e w' ⟨rfl,rfl⟩))
         refine hK.out _ _ ?_ (fun hHeld=>?_)
         ·(try dsimp only)
          (((with_reducible refine held_and2 ?_ d0 hpc);repeat (first | with_reducible assumption | with_reducible exact hH0 | with_reducible refine held_drew ?_ | with_reducible refine held_alloc ?_ _ | ((with_reducible refine held_set ?_ ?hh _);(case hh=>simp)))))
         clear hK K
         (try simp only [Act.put,List.setIfInBounds_toArray,List.set_cons_zero,List.set_cons_succ])
         refine wpAnyH_take (i:=7) (oi:={dst:=some 60,op:=Go.Op.binOp Go.BinOp.add 3 (Go.Operand.tmp 55) (Go.Operand.tmp 59) 3,type:=3,pos := "subst.go:89",after:=#[{on:=2,ground:=Go.Ground.data},{on:=6,ground:=Go.Ground.data}],guard:=none}) (v:=?_) rfl (by kernel_rfl) (by kernel_rfl) (by kernel_rfl) (fun _ _ _ h=>h) (Or.inl ⟨by rfl,?_⟩) (by assumption) ?_
         rotate_left 1
         ·((intro w hSw;(try dsimp only at hSw);go_simp)<;>with_reducible rfl)
         (try simp only [Act.put,List.setIfInBounds_toArray,List.set_cons_zero,List.set_cons_succ])
         refine wpAnyH_take (i:=9) (oi:={dst:=some 62,op:=Go.Op.move (Go.Operand.tmp 61),type:=4,pos := "subst.go:89",after:=#[{on:=8,ground:=Go.Ground.data},{on:=6,ground:=Go.Ground.chain}],guard:=none}) (v:=?_) rfl (by kernel_rfl) (by kernel_rfl) (by kernel_rfl) (fun _ _ _ h=>h) (Or.inl ⟨by rfl,?_⟩) (by assumption) ?_
         rotate_left 1
         ·((intro w hSw;(try dsimp only at hSw);go_simp)<;>with_reducible rfl)
         (try simp only [Act.put,List.setIfInBounds_toArray,List.set_cons_zero,List.set_cons_succ])
         refine wpAnyH_take (i:=10) (oi:={dst:=some 63,op:=Go.Op.fieldAddr 24 (Go.Operand.tmp 5) 0,type:=0,pos := "subst.go:89",after:=#[{on:=9,ground:=Go.Ground.guard}],guard:=some (9,false) }) (v:=?_) rfl (by kernel_rfl) (by kernel_rfl) (by kernel_rfl) (fun _ _ _ h=>h) (Or.inl ⟨by rfl,?_⟩) (by assumption) ?_
         rotate_left 1
         ·((intro w hSw;(try dsimp only at hSw);go_simp)<;>with_reducible rfl)
         (try simp only [Act.put,List.setIfInBounds_toArray,List.set_cons_zero,List.set_cons_succ])
         refine wpAnyH_take (i:=11) (oi:={dst:=some 64,op:=Go.Op.load 3 (Go.Operand.tmp 63),type:=3,pos := "subst.go:89",after:=#[{on:=10,ground:=Go.Ground.data},{on:=9,ground:=Go.Ground.guard}],guard:=some (9,false) }) (v:=?_) rfl (by kernel_rfl) (by kernel_rfl) (by kernel_rfl) (fun _ _ _ h=>h) (Or.inl ⟨by rfl,?_⟩) (by assumption) ?_
         rotate_left 1
         ·((intro w hSw;(try dsimp only at hSw);go_simp)<;>with_reducible rfl)
         (try simp only [Act.put,List.setIfInBounds_toArray,List.set_cons_zero,List.set_cons_succ])
         refine wpAnyH_take (i:=12) (oi:={dst:=some 65,op:=Go.Op.binOp Go.BinOp.eql 3 (Go.Operand.tmp 64) (Go.Operand.const (Go.Value.int Go.IntKind.i64 12)) 3,type:=4,pos := "subst.go:89",after:=#[{on:=11,ground:=Go.Ground.data},{on:=9,ground:=Go.Ground.guard}],guard:=some (9,false) }) (v:=?_) rfl (by kernel_rfl) (by kernel_rfl) (by kernel_rfl) (fun _ _ _ h=>h) (Or.inl ⟨by rfl,?_⟩) (by assumption) ?_
         rotate_left 1
         ·((intro w hSw;(try dsimp only at hSw);go_simp)<;>with_reducible rfl)
         (try simp only [Act.put,List.setIfInBounds_toArray,List.set_cons_zero,List.set_cons_succ])
         refine wpAnyH_take (i:=13) (oi:={dst:=some 66,op:=Go.Op.move (Go.Operand.tmp 65),type:=4,pos := "subst.go:89",after:=#[{on:=12,ground:=Go.Ground.data},{on:=9,ground:=Go.Ground.chain},{on:=9,ground:=Go.Ground.guard}],guard:=some (9,false) }) (v:=?_) rfl (by kernel_rfl) (by kernel_rfl) (by kernel_rfl) (fun _ _ _ h=>h) (Or.inl ⟨by rfl,?_⟩) (by assumption) ?_
         rotate_left 1
         ·((intro w hSw;(try dsimp only at hSw);go_simp)<;>with_reducible rfl)
         (try simp only [Act.put,List.setIfInBounds_toArray,List.set_cons_zero,List.set_cons_succ])
         refine wpAnyH_take (i:=14) (oi:={dst:=some 67,op:=Go.Op.move (Go.Operand.tmp 11),type:=3,pos := "subst.go:89",after:=#[{on:=13,ground:=Go.Ground.guard}],guard:=some (13,true) }) (v:=undef) rfl (by kernel_rfl) (by kernel_rfl) (by kernel_rfl) (fun _ _ _ h=>h) (Or.inr ⟨by rfl,rfl⟩) (by assumption) ?_
         (try simp only [Act.put,List.setIfInBounds_toArray,List.set_cons_zero,List.set_cons_succ])
         refine wpAnyH_take (i:=15) (oi:={dst:=some 68,op:=Go.Op.binOp Go.BinOp.eql 3 (Go.Operand.tmp 67) (Go.Operand.const (Go.Value.int Go.IntKind.i64 2)) 3,type:=4,pos := "subst.go:89",after:=#[{on:=14,ground:=Go.Ground.data},{on:=13,ground:=Go.Ground.guard}],guard:=some (13,true) }) (v:=undef) rfl (by kernel_rfl) (by kernel_rfl) (by kernel_rfl) (fun _ _ _ h=>h) (Or.inr ⟨by rfl,rfl⟩) (by assumption) ?_
         (try simp only [Act.put,List.setIfInBounds_toArray,List.set_cons_zero,List.set_cons_succ])
         refine wpAnyH_take (i:=16) (oi:={dst:=some 69,op:=Go.Op.pick (Go.Operand.tmp 66) (Go.Operand.tmp 68) (Go.Operand.const (Go.Value.bool false)),type:=4,pos := "subst.go:89",after:=#[{on:=13,ground:=Go.Ground.data},{on:=15,ground:=Go.Ground.data},{on:=9,ground:=Go.Ground.guard}],guard:=some (9,false) }) (v:=?_) rfl (by kernel_rfl) (by kernel_rfl) (by kernel_rfl) (fun _ _ _ h=>h) (Or.inl ⟨by rfl,?_⟩) (by assumption) ?_
         rotate_left 1
         ·((intro w hSw;(try dsimp only at hSw);go_simp)<;>with_reducible rfl)
         (try simp only [Act.put,List.setIfInBounds_toArray,List.set_cons_zero,List.set_cons_succ])
         refine wpAnyH_take (i:=17) (oi:={dst:=some 70,op:=Go.Op.pick (Go.Operand.tmp 62) (Go.Operand.const (Go.Value.bool true)) (Go.Operand.tmp 69),type:=4,pos := "subst.go:89",after:=#[{on:=9,ground:=Go.Ground.data},{on:=16,ground:=Go.Ground.data}],guard:=none}) (v:=?_) rfl (by kernel_rfl) (by kernel_rfl) (by kernel_rfl) (fun _ _ _ h=>h) (Or.inl ⟨by rfl,?_⟩) (by assumption) ?_
         rotate_left 1
         ·((intro w hSw;(try dsimp only at hSw);go_simp)<;>with_reducible rfl)
         (try simp only [Act.put,List.setIfInBounds_toArray,List.set_cons_zero,List.set_cons_succ])
         refine wpAnyH_ready (rs:=[18,22]) (by kernel_rfl) (by simp) ?_
         refine AllReadyH.cons (o:={dst:=some 71,op:=Go.Op.call {callee:=Go.Callee.value (Go.Operand.func 43),args:=#[Go.Operand.tmp 53,Go.Operand.tmp 54,Go.Operand.tmp 60,Go.Operand.tmp 70],argTypes:=#[68,24,3,4] },type:=69,pos := "subst.go:89",after:=#[{on:=0,ground:=Go.Ground.data},{on:=1,ground:=Go.Ground.data},{on:=7,ground:=Go.Ground.data},{on:=17,ground:=Go.Ground.data},{on:=13,ground:=Go.Ground.chain}],guard:=none}) rfl (fun K hK=>?_) ?_
         ·go_simp
          ((go_at_call 43;((with_reducible refine Calls.mono CALLB.out ?_);rintro e wn ⟨u,a2,n2,cap2,ok,rfl,hbn,hans⟩;have HANS:=Lib.hid hans;clear hans;have hh:=held_call (held_drew hH0) hbn)))
          refine hK.out _ _ ?_ (fun hHeld=>?_)
          ·(try dsimp only)
           (((with_reducible refine held_and2 ?_ d0 hpc);repeat (first | with_reducible assumption | with_reducible exact hH0 | with_reducible refine held_drew ?_ | with_reducible refine held_alloc ?_ _ | ((with_reducible refine held_set ?_ ?hh _);(case hh=>simp)))))
          clear hK K
          (try simp only [Act.put,List.setIfInBounds_toArray,List.set_cons_zero,List.set_cons_succ])
          refine wpAnyH_take (i:=19) (oi:={dst:=some 52,op:=Go.Op.move (Go.Operand.tmp 71),type:=69,pos := "subst.go:89",after:=#[{on:=18,ground:=Go.Ground.data}],guard:=none}) (v:=?_) rfl (by kernel_rfl) (by kernel_rfl) (by kernel_rfl) (fun _ _ _ h=>h) (Or.inl ⟨by rfl,?_⟩) (by assumption) ?_
          rotate_left 1
          ·((intro w hSw;(try dsimp only at hSw);go_simp)<;>with_reducible rfl)
          (try simp only [Act.put,List.setIfInBounds_toArray,List.set_cons_zero,List.set_cons_succ])
          refine wpAnyH_take (i:=20) (oi:={dst:=some 72,op:=Go.Op.extract (Go.Operand.tmp 52) 0,type:=24,pos := "subst.go:89",after:=#[{on:=19,ground:=Go.Ground.data}],guard:=none}) (v:=?_) rfl (by kernel_rfl) (by kernel_rfl) (by kernel_rfl) (fun _ _ _ h=>h) (Or.inl ⟨by rfl,?_⟩) (by assumption) ?_
          rotate_left 1
          ·((intro w hSw;(try dsimp only at hSw);go_simp)<;>with_reducible rfl)
          (try simp only [Act.put,List.setIfInBounds_toArray,List.set_cons_zero,List.set_cons_succ])
          refine wpAnyH_take (i:=21) (oi:={dst:=some 73,op:=Go.Op.extract (Go.Operand.tmp 52) 1,type:=4,pos := "subst.go:89",after:=#[{on:=19,ground:=Go.Ground.data},{on:=23,ground:=Go.Ground.gcOnly Go.Departure.lateStores}],guard:=none}) (v:=?_) rfl (by kernel_rfl) (by kernel_rfl) (by kernel_rfl) (fun _ _ _ h=>h) (Or.inl ⟨by rfl,?_⟩) (by assumption) ?_
          rotate_left 1
          ·((intro w hSw;(try dsimp only at hSw);go_simp)<;>with_reducible rfl)
          (try simp only [Act.put,List.setIfInBounds_toArray,List.set_cons_zero,List.set_cons_succ])
          refine wpAnyH_ready (rs:=[22]) (by kernel_rfl) (by simp) ?_
          refine AllReadyH.cons (o:={dst:=some 13,op:=Go.Op.alloc 24,type:=0,pos := "subst.go:89",after:=#[],guard:=none}) rfl (fun K hK=>?_) ?_
          ·go_simp
           refine hK.out _ _ ?_ (fun hHeld=>?_)
           ·(try dsimp only)
            (((with_reducible refine held_and2 ?_ d0 hpc);repeat (first | with_reducible assumption | with_reducible exact hH0 | with_reducible refine held_drew ?_ | with_reducible refine held_alloc ?_ _ | ((with_reducible refine held_set ?_ ?hh _);(case hh=>simp)))))
           clear hK K
           (try simp only [Act.put,List.setIfInBounds_toArray,List.set_cons_zero,List.set_cons_succ])
           refine wpAnyH_ready (rs:=[23]) (by kernel_rfl) (by simp) ?_
           refine AllReadyH.cons (o:={dst:=none,op:=Go.Op.store 24 (Go.Operand.tmp 13) (Go.Operand.tmp 72),type:=0,pos := "subst.go:89",after:=#[{on:=22,ground:=Go.Ground.data},{on:=20,ground:=Go.Ground.data},{on:=18,ground:=Go.Ground.chain},{on:=0,ground:=Go.Ground.phase},{on:=1,ground:=Go.Ground.phase},{on:=2,ground:=Go.Ground.phase},{on:=3,ground:=Go.Ground.phase},{on:=4,ground:=Go.Ground.phase},{on:=5,ground:=Go.Ground.phase},{on:=6,ground:=Go.Ground.phase},{on:=7,ground:=Go.Ground.phase},{on:=8,ground:=Go.Ground.phase},{on:=9,ground:=Go.Ground.phase},{on:=10,ground:=Go.Ground.phase},{on:=11,ground:=Go.Ground.phase},{on:=12,ground:=Go.Ground.phase},{on:=13,ground:=Go.Ground.phase},{on:=14,ground:=Go.Ground.phase},{on:=15,ground:=Go.Ground.phase},{on:=16,ground:=Go.Ground.phase},{on:=17,ground:=Go.Ground.phase},{on:=18,ground:=Go.Ground.phase},{on:=19,ground:=Go.Ground.phase},{on:=20,ground:=Go.Ground.phase},{on:=21,ground:=Go.Ground.textOnly Go.Departure.lateStores},{on:=22,ground:=Go.Ground.phase}],guard:=none}) rfl (fun K hK=>?_) ?_
           ·go_simp
            refine hK.out _ _ ?_ (fun hHeld=>?_)
            ·(try dsimp only)
             (((with_reducible refine held_and2 ?_ d0 hpc);repeat (first | with_reducible assumption | with_reducible exact hH0 | with_reducible refine held_drew ?_ | with_reducible refine held_alloc ?_ _ | ((with_reducible refine held_set ?_ ?hh _);(case hh=>simp)))))
            clear hK K
            (try simp only [Act.put,List.setIfInBounds_toArray,List.set_cons_zero,List.set_cons_succ])
            refine wpAnyH_take (i:=24) (oi:={dst:=some 14,op:=Go.Op.assign (Go.Operand.tmp 73),type:=4,pos := "subst.go:89",after:=#[{on:=21,ground:=Go.Ground.data},{on:=23,ground:=Go.Ground.chain},{on:=0,ground:=Go.Ground.phase},{on:=1,ground:=Go.Ground.phase},{on:=2,ground:=Go.Ground.phase},{on:=3,ground:=Go.Ground.phase},{on:=4,ground:=Go.Ground.phase},{on:=5,ground:=Go.Ground.phase},{on:=6,ground:=Go.Ground.phase},{on:=7,ground:=Go.Ground.phase},{on:=8,ground:=Go.Ground.phase},{on:=9,ground:=Go.Ground.phase},{on:=10,ground:=Go.Ground.phase},{on:=11,ground:=Go.Ground.phase},{on:=12,ground:=Go.Ground.phase},{on:=13,ground:=Go.Ground.phase},{on:=14,ground:=Go.Ground.phase},{on:=15,ground:=Go.Ground.phase},{on:=16,ground:=Go.Ground.phase},{on:=17,ground:=Go.Ground.phase},{on:=18,ground:=Go.Ground.phase},{on:=19,ground:=Go.Ground.phase},{on:=20,ground:=Go.Ground.phase},{on:=21,ground:=Go.Ground.phase},{on:=22,ground:=Go.Ground.phase},{on:=23,ground:=Go.Ground.phase}],guard:=none}) (v:=?_) rfl (by kernel_rfl) (by kernel_rfl) (by kernel_rfl) (fun _ _ _ h=>h) (Or.inl ⟨by rfl,?_⟩) (by assumption) ?_
            rotate_left 1
            ·((intro w hSw;(try dsimp only at hSw);go_simp)<;>with_reducible rfl)
            (try simp only [Act.put,List.setIfInBounds_toArray,List.set_cons_zero,List.set_cons_succ])
            refine wpAnyH_done (by kernel_rfl) ?_ _
            rcases HANS.out with ⟨rfl,hr,rfl,hl2⟩ | ⟨rfl,hr⟩
            ·have HFI2:=Lib.hid (HFX.out u hr)
             have hW:Held wr t.kids[q] (.slice a' t.kids[q].kids.length cap') (wn.alloc (.cells #[.int .i64 u.k,.int .i64 u.i,.int .i64 u.j,.int .i64 u.n,.slice a2 u.kids.length cap2] 24)):=held_alloc hh _
             have hLW:LiesP (wn.alloc (.cells #[.int .i64 u.k,.int .i64 u.i,.int .i64 u.j,.int .i64 u.n,.slice a2 u.kids.length cap2] 24)) (Own wr.heap.size (wn.alloc (.cells #[.int .i64 u.k,.int .i64 u.i,.int .i64 u.j,.int .i64 u.n,.slice a2 u.kids.length cap2] 24))) u.kids (.slice a2 u.kids.length cap2):=((hl2.from (by simp)).later ((Below.refl _ _).alloc (Nat.le_refl _) _))
             have hN:(wn.alloc (.cells #[.int .i64 u.k,.int .i64 u.i,.int .i64 u.j,.int .i64 u.n,.slice a2 u.kids.length cap2] 24)).heap[wn.heap.size]? =some (boxOf u (.slice a2 u.kids.length cap2)):=alloc_new _ _
             clear hh hbn hl2
             generalize (wn.alloc (.cells #[.int .i64 u.k,.int .i64 u.i,.int .i64 u.j,.int .i64 u.n,.slice a2 u.kids.length cap2] 24))=W at hW hLW hN ⊢
             have hdW:=desk_trans hdk (below_from (held_below hW) hsz)
             have hfW:=hfu.later (held_below hW)
             have hxq:q<xs.length:=by rw [HXL.out];exact hlt
             have hLF:=hfu.fresh hsz hLW
             obtain⟨-,-,q2⟩:=desk_blocks hdW
             obtain⟨y0,y1,y2,y3,y4⟩:=five_cells q2
             obtain⟨p0,p1,p2,p3,p4⟩:=five_cells hN
             obtain⟨x0,x1,x2,x3,x4⟩:=hfW.node q hxq
             obtain⟨cs,hcs⟩:=hfW.open'
             have f0:=open_unfrozen hcs (q * 5)
             have f1:=open_unfrozen hcs (q * 5+1)
             have f2:=open_unfrozen hcs (q * 5+2)
             have f3:=open_unfrozen hcs (q * 5+3)
             have f4:=open_unfrozen hcs (q * 5+4)
             have HFW:=Lib.hid hfW
             have HLF:=Lib.hid hLF
             have HFU:=Lib.hid hfu
             clear hcs hN hLW hW hfW hLF hfu d0 d1 d2 d3 d4 z0 z1 z2 z3 z4
             go_wp2
             go_roundw
             case rel=>exact⟨q+1,xs.set q (u,.slice a2 u.kids.length cap2),hlt,by go_num,by simp [Hid,HXL.out],by rw [Hid,optK_next hlt HXS.out hr,List.map_set,take_set_next _ _ _ (by simpa using hxq)],HFW.out.fill hxq HFI2.out HLF.out,desk_put hdW (Nat.le_refl _) _ _ _⟩
             case measure=>simp [intOf];omega
            ·have hW:Held wr t.kids[q] (.slice a' t.kids[q].kids.length cap') (wn.alloc (.cells #[.int .i64 u.k,.int .i64 u.i,.int .i64 u.j,.int .i64 u.n,.slice a2 n2 cap2] 24)):=held_alloc hh _
             clear hh hbn
             generalize (wn.alloc (.cells #[.int .i64 u.k,.int .i64 u.i,.int .i64 u.j,.int .i64 u.n,.slice a2 n2 cap2] 24))=W at hW ⊢
             have hdW:=desk_trans hdk (below_from (held_below hW) hsz)
             obtain⟨-,q1,-⟩:=desk_blocks hdW
             obtain⟨z0,z1,z2,z3,z4⟩:=five_cells q1
             obtain⟨f0,f1,f2,f3,f4⟩:=five_free q1
             go_wp2
             (try simp only [Exit.inBlock,Exit.then])
             refine bodyPost_ret (results_cell_tmp rfl _ _ (w.heap.size+1) _ _ _ du rfl (five_set q1) hu1 (by cases du<;>first | rfl | exact hu2) size_term) rfl ?_
             exact GivesN.wide ⟨((((((desk_under hdW).setCell (by simp) _).setCell (by simp) _).setCell (by simp) _).setCell (by simp) _).setCell (by simp) _),Or.inr ⟨Tm.zero,none,0,0,by rw [HEQ.out,optK_stop hlt hr];rfl,rfl⟩⟩ HBP.out
           exact AllReadyH.nil
          exact AllReadyH.nil
         refine AllReadyH.cons (o:={dst:=some 13,op:=Go.Op.alloc 24,type:=0,pos := "subst.go:89",after:=#[],guard:=none}) rfl (fun K hK=>?_) ?_
         ·go_simp
          refine hK.out _ _ ?_ (fun hHeld=>?_)
          ·(try dsimp only)
           (((with_reducible refine held_and2 ?_ d0 hpc);repeat (first | with_reducible assumption | with_reducible exact hH0 | with_reducible refine held_drew ?_ | with_reducible refine held_alloc ?_ _ | ((with_reducible refine held_set ?_ ?hh _);(case hh=>simp)))))
          clear hK K
          (try simp only [Act.put,List.setIfInBounds_toArray,List.set_cons_zero,List.set_cons_succ])
          refine wpAnyH_ready (rs:=[18]) (by kernel_rfl) (by simp) ?_
          refine AllReadyH.cons (o:={dst:=some 71,op:=Go.Op.call {callee:=Go.Callee.value (Go.Operand.func 43),args:=#[Go.Operand.tmp 53,Go.Operand.tmp 54,Go.Operand.tmp 60,Go.Operand.tmp 70],argTypes:=#[68,24,3,4] },type:=69,pos := "subst.go:89",after:=#[{on:=0,ground:=Go.Ground.data},{on:=1,ground:=Go.Ground.data},{on:=7,ground:=Go.Ground.data},{on:=17,ground:=Go.Ground.data},{on:=13,ground:=Go.Ground.chain}],guard:=none}) rfl (fun K hK=>?_) ?_
          ·go_simp
           ((go_at_call 43;((with_reducible refine Calls.mono CALLA.out ?_);rintro e wn ⟨⟨u,a2,n2,cap2,ok,rfl,hbn,hans⟩,hZ⟩;obtain⟨⟨g0,g1,g2,g3,g4⟩,k0,k1,k2,k3,k4⟩:=And.intro (five_cells hZ) (five_free hZ);have HANS:=Lib.hid hans;clear hans;have hh:=held_call (held_drew (held_alloc hH0 _)) hbn)))
           refine hK.out _ _ ?_ (fun hHeld=>?_)
           ·(try dsimp only)
            (((with_reducible refine held_and2 ?_ d0 hpc);repeat (first | with_reducible assumption | with_reducible exact hH0 | with_reducible refine held_drew ?_ | with_reducible refine held_alloc ?_ _ | ((with_reducible refine held_set ?_ ?hh _);(case hh=>simp)))))
           clear hK K
           (try simp only [Act.put,List.setIfInBounds_toArray,List.set_cons_zero,List.set_cons_succ])
           refine wpAnyH_take (i:=19) (oi:={dst:=some 52,op:=Go.Op.move (Go.Operand.tmp 71),type:=69,pos := "subst.go:89",after:=#[{on:=18,ground:=Go.Ground.data}],guard:=none}) (v:=?_) rfl (by kernel_rfl) (by kernel_rfl) (by kernel_rfl) (fun _ _ _ h=>h) (Or.inl ⟨by rfl,?_⟩) (by assumption) ?_
           rotate_left 1
           ·((intro w hSw;(try dsimp only at hSw);go_simp)<;>with_reducible rfl)
           (try simp only [Act.put,List.setIfInBounds_toArray,List.set_cons_zero,List.set_cons_succ])
           refine wpAnyH_take (i:=20) (oi:={dst:=some 72,op:=Go.Op.extract (Go.Operand.tmp 52) 0,type:=24,pos := "subst.go:89",after:=#[{on:=19,ground:=Go.Ground.data}],guard:=none}) (v:=?_) rfl (by kernel_rfl) (by kernel_rfl) (by kernel_rfl) (fun _ _ _ h=>h) (Or.inl ⟨by rfl,?_⟩) (by assumption) ?_
           rotate_left 1
           ·((intro w hSw;(try dsimp only at hSw);go_simp)<;>with_reducible rfl)
           (try simp only [Act.put,List.setIfInBounds_toArray,List.set_cons_zero,List.set_cons_succ])
           refine wpAnyH_take (i:=21) (oi:={dst:=some 73,op:=Go.Op.extract (Go.Operand.tmp 52) 1,type:=4,pos := "subst.go:89",after:=#[{on:=19,ground:=Go.Ground.data},{on:=23,ground:=Go.Ground.gcOnly Go.Departure.lateStores}],guard:=none}) (v:=?_) rfl (by kernel_rfl) (by kernel_rfl) (by kernel_rfl) (fun _ _ _ h=>h) (Or.inl ⟨by rfl,?_⟩) (by assumption) ?_
           rotate_left 1
           ·((intro w hSw;(try dsimp only at hSw);go_simp)<;>with_reducible rfl)
           (try simp only [Act.put,List.setIfInBounds_toArray,List.set_cons_zero,List.set_cons_succ])
           refine wpAnyH_ready (rs:=[23]) (by kernel_rfl) (by simp) ?_
           refine AllReadyH.cons (o:={dst:=none,op:=Go.Op.store 24 (Go.Operand.tmp 13) (Go.Operand.tmp 72),type:=0,pos := "subst.go:89",after:=#[{on:=22,ground:=Go.Ground.data},{on:=20,ground:=Go.Ground.data},{on:=18,ground:=Go.Ground.chain},{on:=0,ground:=Go.Ground.phase},{on:=1,ground:=Go.Ground.phase},{on:=2,ground:=Go.Ground.phase},{on:=3,ground:=Go.Ground.phase},{on:=4,ground:=Go.Ground.phase},{on:=5,ground:=Go.Ground.phase},{on:=6,ground:=Go.Ground.phase},{on:=7,ground:=Go.Ground.phase},{on:=8,ground:=Go.Ground.phase},{on:=9,ground:=Go.Ground.phase},{on:=10,ground:=Go.Ground.phase},{on:=11,ground:=Go.Ground.phase},{on:=12,ground:=Go.Ground.phase},{on:=13,ground:=Go.Ground.phase},{on:=14,ground:=Go.Ground.phase},{on:=15,ground:=Go.Ground.phase},{on:=16,ground:=Go.Ground.phase},{on:=17,ground:=Go.Ground.phase},{on:=18,ground:=Go.Ground.phase},{on:=19,ground:=Go.Ground.phase},{on:=20,ground:=Go.Ground.phase},{on:=21,ground:=Go.Ground.textOnly Go.Departure.lateStores},{on:=22,ground:=Go.Ground.phase}],guard:=none}) rfl (fun K hK=>?_) ?_
           ·go_simp
            refine hK.out _ _ ?_ (fun hHeld=>?_)
            ·(try dsimp only)
             (((with_reducible refine held_and2 ?_ d0 hpc);repeat (first | with_reducible assumption | with_reducible exact hH0 | with_reducible refine held_drew ?_ | with_reducible refine held_alloc ?_ _ | ((with_reducible refine held_set ?_ ?hh _);(case hh=>simp)))))
            clear hK K
            (try simp only [Act.put,List.setIfInBounds_toArray,List.set_cons_zero,List.set_cons_succ])
            refine wpAnyH_take (i:=24) (oi:={dst:=some 14,op:=Go.Op.assign (Go.Operand.tmp 73),type:=4,pos := "subst.go:89",after:=#[{on:=21,ground:=Go.Ground.data},{on:=23,ground:=Go.Ground.chain},{on:=0,ground:=Go.Ground.phase},{on:=1,ground:=Go.Ground.phase},{on:=2,ground:=Go.Ground.phase},{on:=3,ground:=Go.Ground.phase},{on:=4,ground:=Go.Ground.phase},{on:=5,ground:=Go.Ground.phase},{on:=6,ground:=Go.Ground.phase},{on:=7,ground:=Go.Ground.phase},{on:=8,ground:=Go.Ground.phase},{on:=9,ground:=Go.Ground.phase},{on:=10,ground:=Go.Ground.phase},{on:=11,ground:=Go.Ground.phase},{on:=12,ground:=Go.Ground.phase},{on:=13,ground:=Go.Ground.phase},{on:=14,ground:=Go.Ground.phase},{on:=15,ground:=Go.Ground.phase},{on:=16,ground:=Go.Ground.phase},{on:=17,ground:=Go.Ground.phase},{on:=18,ground:=Go.Ground.phase},{on:=19,ground:=Go.Ground.phase},{on:=20,ground:=Go.Ground.phase},{on:=21,ground:=Go.Ground.phase},{on:=22,ground:=Go.Ground.phase},{on:=23,ground:=Go.Ground.phase}],guard:=none}) (v:=?_) rfl (by kernel_rfl) (by kernel_rfl) (by kernel_rfl) (fun _ _ _ h=>h) (Or.inl ⟨by rfl,?_⟩) (by assumption) ?_
            rotate_left 1
            ·((intro w hSw;(try dsimp only at hSw);go_simp)<;>with_reducible rfl)
            (try simp only [Act.put,List.setIfInBounds_toArray,List.set_cons_zero,List.set_cons_succ])
            refine wpAnyH_done (by kernel_rfl) ?_ _
            rcases HANS.out with ⟨rfl,hr,rfl,hl2⟩ | ⟨rfl,hr⟩
            ·have HFI2:=Lib.hid (HFX.out u hr)
             have hW:Held wr t.kids[q] (.slice a' t.kids[q].kids.length cap') (((((wn.setCell ⟨wr.heap.size+1,0,none⟩ (.int .i64 u.k)).setCell ⟨wr.heap.size+1,1,none⟩ (.int .i64 u.i)).setCell ⟨wr.heap.size+1,2,none⟩ (.int .i64 u.j)).setCell ⟨wr.heap.size+1,3,none⟩ (.int .i64 u.n)).setCell ⟨wr.heap.size+1,4,none⟩ (.slice a2 u.kids.length cap2)):=held_five hh _ _ _ _ _
             have hLW:LiesP (((((wn.setCell ⟨wr.heap.size+1,0,none⟩ (.int .i64 u.k)).setCell ⟨wr.heap.size+1,1,none⟩ (.int .i64 u.i)).setCell ⟨wr.heap.size+1,2,none⟩ (.int .i64 u.j)).setCell ⟨wr.heap.size+1,3,none⟩ (.int .i64 u.n)).setCell ⟨wr.heap.size+1,4,none⟩ (.slice a2 u.kids.length cap2)) (Own wr.heap.size (((((wn.setCell ⟨wr.heap.size+1,0,none⟩ (.int .i64 u.k)).setCell ⟨wr.heap.size+1,1,none⟩ (.int .i64 u.i)).setCell ⟨wr.heap.size+1,2,none⟩ (.int .i64 u.j)).setCell ⟨wr.heap.size+1,3,none⟩ (.int .i64 u.n)).setCell ⟨wr.heap.size+1,4,none⟩ (.slice a2 u.kids.length cap2))) u.kids (.slice a2 u.kids.length cap2):=liesP_five (hl2.from (B':=wr.heap.size+2) (by simp)) _ _ _ _ _
             have hN:(((((wn.setCell ⟨wr.heap.size+1,0,none⟩ (.int .i64 u.k)).setCell ⟨wr.heap.size+1,1,none⟩ (.int .i64 u.i)).setCell ⟨wr.heap.size+1,2,none⟩ (.int .i64 u.j)).setCell ⟨wr.heap.size+1,3,none⟩ (.int .i64 u.n)).setCell ⟨wr.heap.size+1,4,none⟩ (.slice a2 u.kids.length cap2)).heap[wr.heap.size+1]? =some (boxOf u (.slice a2 u.kids.length cap2)):=five_set hZ
             clear hh hbn hl2 hZ g0 g1 g2 g3 g4 k0 k1 k2 k3 k4
             generalize (((((wn.setCell ⟨wr.heap.size+1,0,none⟩ (.int .i64 u.k)).setCell ⟨wr.heap.size+1,1,none⟩ (.int .i64 u.i)).setCell ⟨wr.heap.size+1,2,none⟩ (.int .i64 u.j)).setCell ⟨wr.heap.size+1,3,none⟩ (.int .i64 u.n)).setCell ⟨wr.heap.size+1,4,none⟩ (.slice a2 u.kids.length cap2))=W at hW hLW hN ⊢
             have hdW:=desk_trans hdk (below_from (held_below hW) hsz)
             have hfW:=hfu.later (held_below hW)
             have hxq:q<xs.length:=by rw [HXL.out];exact hlt
             have hLF:=hfu.fresh hsz hLW
             obtain⟨-,-,q2⟩:=desk_blocks hdW
             obtain⟨y0,y1,y2,y3,y4⟩:=five_cells q2
             obtain⟨p0,p1,p2,p3,p4⟩:=five_cells hN
             obtain⟨x0,x1,x2,x3,x4⟩:=hfW.node q hxq
             obtain⟨cs,hcs⟩:=hfW.open'
             have f0:=open_unfrozen hcs (q * 5)
             have f1:=open_unfrozen hcs (q * 5+1)
             have f2:=open_unfrozen hcs (q * 5+2)
             have f3:=open_unfrozen hcs (q * 5+3)
             have f4:=open_unfrozen hcs (q * 5+4)
             have HFW:=Lib.hid hfW
             have HLF:=Lib.hid hLF
             have HFU:=Lib.hid hfu
             clear hcs hN hLW hW hfW hLF hfu d0 d1 d2 d3 d4 z0 z1 z2 z3 z4
             go_wp2
             go_roundw
             case rel=>exact⟨q+1,xs.set q (u,.slice a2 u.kids.length cap2),hlt,by go_num,by simp [Hid,HXL.out],by rw [Hid,optK_next hlt HXS.out hr,List.map_set,take_set_next _ _ _ (by simpa using hxq)],HFW.out.fill hxq HFI2.out HLF.out,desk_put hdW (Nat.le_refl _) _ _ _⟩
             case measure=>simp [intOf];omega
            ·have hW:Held wr t.kids[q] (.slice a' t.kids[q].kids.length cap') (((((wn.setCell ⟨wr.heap.size+1,0,none⟩ (.int .i64 u.k)).setCell ⟨wr.heap.size+1,1,none⟩ (.int .i64 u.i)).setCell ⟨wr.heap.size+1,2,none⟩ (.int .i64 u.j)).setCell ⟨wr.heap.size+1,3,none⟩ (.int .i64 u.n)).setCell ⟨wr.heap.size+1,4,none⟩ (.slice a2 n2 cap2)):=held_five hh _ _ _ _ _
             clear hh hbn hZ g0 g1 g2 g3 g4 k0 k1 k2 k3 k4
             generalize (((((wn.setCell ⟨wr.heap.size+1,0,none⟩ (.int .i64 u.k)).setCell ⟨wr.heap.size+1,1,none⟩ (.int .i64 u.i)).setCell ⟨wr.heap.size+1,2,none⟩ (.int .i64 u.j)).setCell ⟨wr.heap.size+1,3,none⟩ (.int .i64 u.n)).setCell ⟨wr.heap.size+1,4,none⟩ (.slice a2 n2 cap2))=W at hW ⊢
             have hdW:=desk_trans hdk (below_from (held_below hW) hsz)
             obtain⟨-,q1,-⟩:=desk_blocks hdW
             obtain⟨z0,z1,z2,z3,z4⟩:=five_cells q1
             obtain⟨f0,f1,f2,f3,f4⟩:=five_free q1
             go_wp2
             (try simp only [Exit.inBlock,Exit.then])
             refine bodyPost_ret (results_cell_tmp rfl _ _ (w.heap.size+1) _ _ _ du rfl (five_set q1) hu1 (by cases du<;>first | rfl | exact hu2) size_term) rfl ?_
             exact GivesN.wide ⟨((((((desk_under hdW).setCell (by simp) _).setCell (by simp) _).setCell (by simp) _).setCell (by simp) _).setCell (by simp) _),Or.inr ⟨Tm.zero,none,0,0,by rw [HEQ.out,optK_stop hlt hr];rfl,rfl⟩⟩ HBP.out
           exact AllReadyH.nil
          exact AllReadyH.nil
         exact AllReadyH.nil
        refine AllReadyH.cons (o:={dst:=some 13,op:=Go.Op.alloc 24,type:=0,pos := "subst.go:89",after:=#[],guard:=none}) rfl (fun K hK=>?_) ?_
        ·go_simp
         refine hK.out _ _ ?_ (fun hHeld=>?_)
         ·(try dsimp only)
          (((with_reducible refine held_and2 ?_ d0 hpc);repeat (first | with_reducible assumption | with_reducible exact hH0 | with_reducible refine held_drew ?_ | with_reducible refine held_alloc ?_ _ | ((with_reducible refine held_set ?_ ?hh _);(case hh=>simp)))))
         clear hK K
         (try simp only [Act.put,List.setIfInBounds_toArray,List.set_cons_zero,List.set_cons_succ])
         refine wpAnyH_ready (rs:=[6]) (by kernel_rfl) (by simp) ?_
         refine AllReadyH.cons (o:={dst:=some 59,op:=Go.Op.call {callee:=Go.Callee.value (Go.Operand.func 58),args:=#[Go.Operand.tmp 57,Go.Operand.tmp 58],argTypes:=#[3,3] },type:=3,pos := "subst.go:89",after:=#[{on:=4,ground:=Go.Ground.data},{on:=5,ground:=Go.Ground.data}],guard:=none}) rfl (fun K hK=>?_) ?_
         ·go_simp
          ((go_at_call 58;refine(binds_any _ _ _).mono ?_;rintro e w' ⟨rfl,rfl⟩))
          refine hK.out _ _ ?_ (fun hHeld=>?_)
          ·(try dsimp only)
           (((with_reducible refine held_and2 ?_ d0 hpc);repeat (first | with_reducible assumption | with_reducible exact hH0 | with_reducible refine held_drew ?_ | with_reducible refine held_alloc ?_ _ | ((with_reducible refine held_set ?_ ?hh _);(case hh=>simp)))))
          clear hK K
          (try simp only [Act.put,List.setIfInBounds_toArray,List.set_cons_zero,List.set_cons_succ])
          refine wpAnyH_take (i:=7) (oi:={dst:=some 60,op:=Go.Op.binOp Go.BinOp.add 3 (Go.Operand.tmp 55) (Go.Operand.tmp 59) 3,type:=3,pos := "subst.go:89",after:=#[{on:=2,ground:=Go.Ground.data},{on:=6,ground:=Go.Ground.data}],guard:=none}) (v:=?_) rfl (by kernel_rfl) (by kernel_rfl) (by kernel_rfl) (fun _ _ _ h=>h) (Or.inl ⟨by rfl,?_⟩) (by assumption) ?_
          rotate_left 1
          ·((intro w hSw;(try dsimp only at hSw);go_simp)<;>with_reducible rfl)
          (try simp only [Act.put,List.setIfInBounds_toArray,List.set_cons_zero,List.set_cons_succ])
          refine wpAnyH_take (i:=9) (oi:={dst:=some 62,op:=Go.Op.move (Go.Operand.tmp 61),type:=4,pos := "subst.go:89",after:=#[{on:=8,ground:=Go.Ground.data},{on:=6,ground:=Go.Ground.chain}],guard:=none}) (v:=?_) rfl (by kernel_rfl) (by kernel_rfl) (by kernel_rfl) (fun _ _ _ h=>h) (Or.inl ⟨by rfl,?_⟩) (by assumption) ?_
          rotate_left 1
          ·((intro w hSw;(try dsimp only at hSw);go_simp)<;>with_reducible rfl)
          (try simp only [Act.put,List.setIfInBounds_toArray,List.set_cons_zero,List.set_cons_succ])
          refine wpAnyH_take (i:=10) (oi:={dst:=some 63,op:=Go.Op.fieldAddr 24 (Go.Operand.tmp 5) 0,type:=0,pos := "subst.go:89",after:=#[{on:=9,ground:=Go.Ground.guard}],guard:=some (9,false) }) (v:=?_) rfl (by kernel_rfl) (by kernel_rfl) (by kernel_rfl) (fun _ _ _ h=>h) (Or.inl ⟨by rfl,?_⟩) (by assumption) ?_
          rotate_left 1
          ·((intro w hSw;(try dsimp only at hSw);go_simp)<;>with_reducible rfl)
          (try simp only [Act.put,List.setIfInBounds_toArray,List.set_cons_zero,List.set_cons_succ])
          refine wpAnyH_take (i:=11) (oi:={dst:=some 64,op:=Go.Op.load 3 (Go.Operand.tmp 63),type:=3,pos := "subst.go:89",after:=#[{on:=10,ground:=Go.Ground.data},{on:=9,ground:=Go.Ground.guard}],guard:=some (9,false) }) (v:=?_) rfl (by kernel_rfl) (by kernel_rfl) (by kernel_rfl) (fun _ _ _ h=>h) (Or.inl ⟨by rfl,?_⟩) (by assumption) ?_
          rotate_left 1
          ·((intro w hSw;(try dsimp only at hSw);go_simp)<;>with_reducible rfl)
          (try simp only [Act.put,List.setIfInBounds_toArray,List.set_cons_zero,List.set_cons_succ])
          refine wpAnyH_take (i:=12) (oi:={dst:=some 65,op:=Go.Op.binOp Go.BinOp.eql 3 (Go.Operand.tmp 64) (Go.Operand.const (Go.Value.int Go.IntKind.i64 12)) 3,type:=4,pos := "subst.go:89",after:=#[{on:=11,ground:=Go.Ground.data},{on:=9,ground:=Go.Ground.guard}],guard:=some (9,false) }) (v:=?_) rfl (by kernel_rfl) (by kernel_rfl) (by kernel_rfl) (fun _ _ _ h=>h) (Or.inl ⟨by rfl,?_⟩) (by assumption) ?_
          rotate_left 1
          ·((intro w hSw;(try dsimp only at hSw);go_simp)<;>with_reducible rfl)
          (try simp only [Act.put,List.setIfInBounds_toArray,List.set_cons_zero,List.set_cons_succ])
          refine wpAnyH_take (i:=13) (oi:={dst:=some 66,op:=Go.Op.move (Go.Operand.tmp 65),type:=4,pos := "subst.go:89",after:=#[{on:=12,ground:=Go.Ground.data},{on:=9,ground:=Go.Ground.chain},{on:=9,ground:=Go.Ground.guard}],guard:=some (9,false) }) (v:=?_) rfl (by kernel_rfl) (by kernel_rfl) (by kernel_rfl) (fun _ _ _ h=>h) (Or.inl ⟨by rfl,?_⟩) (by assumption) ?_
          rotate_left 1
          ·((intro w hSw;(try dsimp only at hSw);go_simp)<;>with_reducible rfl)
          (try simp only [Act.put,List.setIfInBounds_toArray,List.set_cons_zero,List.set_cons_succ])
          refine wpAnyH_take (i:=14) (oi:={dst:=some 67,op:=Go.Op.move (Go.Operand.tmp 11),type:=3,pos := "subst.go:89",after:=#[{on:=13,ground:=Go.Ground.guard}],guard:=some (13,true) }) (v:=undef) rfl (by kernel_rfl) (by kernel_rfl) (by kernel_rfl) (fun _ _ _ h=>h) (Or.inr ⟨by rfl,rfl⟩) (by assumption) ?_
          (try simp only [Act.put,List.setIfInBounds_toArray,List.set_cons_zero,List.set_cons_succ])
          refine wpAnyH_take (i:=15) (oi:={dst:=some 68,op:=Go.Op.binOp Go.BinOp.eql 3 (Go.Operand.tmp 67) (Go.Operand.const (Go.Value.int Go.IntKind.i64 2)) 3,type:=4,pos := "subst.go:89",after:=#[{on:=14,ground:=Go.Ground.data},{on:=13,ground:=Go.Ground.guard}],guard:=some (13,true) }) (v:=undef) rfl (by kernel_rfl) (by kernel_rfl) (by kernel_rfl) (fun _ _ _ h=>h) (Or.inr ⟨by rfl,rfl⟩) (by assumption) ?_
          (try simp only [Act.put,List.setIfInBounds_toArray,List.set_cons_zero,List.set_cons_succ])
          refine wpAnyH_take (i:=16) (oi:={dst:=some 69,op:=Go.Op.pick (Go.Operand.tmp 66) (Go.Operand.tmp 68) (Go.Operand.const (Go.Value.bool false)),type:=4,pos := "subst.go:89",after:=#[{on:=13,ground:=Go.Ground.data},{on:=15,ground:=Go.Ground.data},{on:=9,ground:=Go.Ground.guard}],guard:=some (9,false) }) (v:=?_) rfl (by kernel_rfl) (by kernel_rfl) (by kernel_rfl) (fun _ _ _ h=>h) (Or.inl ⟨by rfl,?_⟩) (by assumption) ?_
          rotate_left 1
          ·((intro w hSw;(try dsimp only at hSw);go_simp)<;>with_reducible rfl)
          (try simp only [Act.put,List.setIfInBounds_toArray,List.set_cons_zero,List.set_cons_succ])
          refine wpAnyH_take (i:=17) (oi:={dst:=some 70,op:=Go.Op.pick (Go.Operand.tmp 62) (Go.Operand.const (Go.Value.bool true)) (Go.Operand.tmp 69),type:=4,pos := "subst.go:89",after:=#[{on:=9,ground:=Go.Ground.data},{on:=16,ground:=Go.Ground.data}],guard:=none}) (v:=?_) rfl (by kernel_rfl) (by kernel_rfl) (by kernel_rfl) (fun _ _ _ h=>h) (Or.inl ⟨by rfl,?_⟩) (by assumption) ?_
          rotate_left 1
          ·((intro w hSw;(try dsimp only at hSw);go_simp)<;>with_reducible rfl)
          (try simp only [Act.put,List.setIfInBounds_toArray,List.set_cons_zero,List.set_cons_succ])
          refine wpAnyH_ready (rs:=[18]) (by kernel_rfl) (by simp) ?_
          refine AllReadyH.cons (o:={dst:=some 71,op:=Go.Op.call {callee:=Go.Callee.value (Go.Operand.func 43),args:=#[Go.Operand.tmp 53,Go.Operand.tmp 54,Go.Operand.tmp 60,Go.Operand.tmp 70],argTypes:=#[68,24,3,4] },type:=69,pos := "subst.go:89",after:=#[{on:=0,ground:=Go.Ground.data},{on:=1,ground:=Go.Ground.data},{on:=7,ground:=Go.Ground.data},{on:=17,ground:=Go.Ground.data},{on:=13,ground:=Go.Ground.chain}],guard:=none}) rfl (fun K hK=>?_) ?_
          ·go_simp
           ((go_at_call 43;((with_reducible refine Calls.mono CALLA.out ?_);rintro e wn ⟨⟨u,a2,n2,cap2,ok,rfl,hbn,hans⟩,hZ⟩;obtain⟨⟨g0,g1,g2,g3,g4⟩,k0,k1,k2,k3,k4⟩:=And.intro (five_cells hZ) (five_free hZ);have HANS:=Lib.hid hans;clear hans;have hh:=held_call (held_drew (held_alloc hH0 _)) hbn)))
           refine hK.out _ _ ?_ (fun hHeld=>?_)
           ·(try dsimp only)
            (((with_reducible refine held_and2 ?_ d0 hpc);repeat (first | with_reducible assumption | with_reducible exact hH0 | with_reducible refine held_drew ?_ | with_reducible refine held_alloc ?_ _ | ((with_reducible refine held_set ?_ ?hh _);(case hh=>simp)))))
           clear hK K
           (try simp only [Act.put,List.setIfInBounds_toArray,List.set_cons_zero,List.set_cons_succ])
           refine wpAnyH_take (i:=19) (oi:={dst:=some 52,op:=Go.Op.move (Go.Operand.tmp 71),type:=69,pos := "subst.go:89",after:=#[{on:=18,ground:=Go.Ground.data}],guard:=none}) (v:=?_) rfl (by kernel_rfl) (by kernel_rfl) (by kernel_rfl) (fun _ _ _ h=>h) (Or.inl ⟨by rfl,?_⟩) (by assumption) ?_
           rotate_left 1
           ·((intro w hSw;(try dsimp only at hSw);go_simp)<;>with_reducible rfl)
           (try simp only [Act.put,List.setIfInBounds_toArray,List.set_cons_zero,List.set_cons_succ])
           refine wpAnyH_take (i:=20) (oi:={dst:=some 72,op:=Go.Op.extract (Go.Operand.tmp 52) 0,type:=24,pos := "subst.go:89",after:=#[{on:=19,ground:=Go.Ground.data}],guard:=none}) (v:=?_) rfl (by kernel_rfl) (by kernel_rfl) (by kernel_rfl) (fun _ _ _ h=>h) (Or.inl ⟨by rfl,?_⟩) (by assumption) ?_
           rotate_left 1
           ·((intro w hSw;(try dsimp only at hSw);go_simp)<;>with_reducible rfl)
           (try simp only [Act.put,List.setIfInBounds_toArray,List.set_cons_zero,List.set_cons_succ])
           refine wpAnyH_take (i:=21) (oi:={dst:=some 73,op:=Go.Op.extract (Go.Operand.tmp 52) 1,type:=4,pos := "subst.go:89",after:=#[{on:=19,ground:=Go.Ground.data},{on:=23,ground:=Go.Ground.gcOnly Go.Departure.lateStores}],guard:=none}) (v:=?_) rfl (by kernel_rfl) (by kernel_rfl) (by kernel_rfl) (fun _ _ _ h=>h) (Or.inl ⟨by rfl,?_⟩) (by assumption) ?_
           rotate_left 1
           ·((intro w hSw;(try dsimp only at hSw);go_simp)<;>with_reducible rfl)
           (try simp only [Act.put,List.setIfInBounds_toArray,List.set_cons_zero,List.set_cons_succ])
           refine wpAnyH_ready (rs:=[23]) (by kernel_rfl) (by simp) ?_
           refine AllReadyH.cons (o:={dst:=none,op:=Go.Op.store 24 (Go.Operand.tmp 13) (Go.Operand.tmp 72),type:=0,pos := "subst.go:89",after:=#[{on:=22,ground:=Go.Ground.data},{on:=20,ground:=Go.Ground.data},{on:=18,ground:=Go.Ground.chain},{on:=0,ground:=Go.Ground.phase},{on:=1,ground:=Go.Ground.phase},{on:=2,ground:=Go.Ground.phase},{on:=3,ground:=Go.Ground.phase},{on:=4,ground:=Go.Ground.phase},{on:=5,ground:=Go.Ground.phase},{on:=6,ground:=Go.Ground.phase},{on:=7,ground:=Go.Ground.phase},{on:=8,ground:=Go.Ground.phase},{on:=9,ground:=Go.Ground.phase},{on:=10,ground:=Go.Ground.phase},{on:=11,ground:=Go.Ground.phase},{on:=12,ground:=Go.Ground.phase},{on:=13,ground:=Go.Ground.phase},{on:=14,ground:=Go.Ground.phase},{on:=15,ground:=Go.Ground.phase},{on:=16,ground:=Go.Ground.phase},{on:=17,ground:=Go.Ground.phase},{on:=18,ground:=Go.Ground.phase},{on:=19,ground:=Go.Ground.phase},{on:=20,ground:=Go.Ground.phase},{on:=21,ground:=Go.Ground.textOnly Go.Departure.lateStores},{on:=22,ground:=Go.Ground.phase}],guard:=none}) rfl (fun K hK=>?_) ?_
           ·go_simp
            refine hK.out _ _ ?_ (fun hHeld=>?_)
            ·(try dsimp only)
             (((with_reducible refine held_and2 ?_ d0 hpc);repeat (first | with_reducible assumption | with_reducible exact hH0 | with_reducible refine held_drew ?_ | with_reducible refine held_alloc ?_ _ | ((with_reducible refine held_set ?_ ?hh _);(case hh=>simp)))))
            clear hK K
            (try simp only [Act.put,List.setIfInBounds_toArray,List.set_cons_zero,List.set_cons_succ])
            refine wpAnyH_take (i:=24) (oi:={dst:=some 14,op:=Go.Op.assign (Go.Operand.tmp 73),type:=4,pos := "subst.go:89",after:=#[{on:=21,ground:=Go.Ground.data},{on:=23,ground:=Go.Ground.chain},{on:=0,ground:=Go.Ground.phase},{on:=1,ground:=Go.Ground.phase},{on:=2,ground:=Go.Ground.phase},{on:=3,ground:=Go.Ground.phase},{on:=4,ground:=Go.Ground.phase},{on:=5,ground:=Go.Ground.phase},{on:=6,ground:=Go.Ground.phase},{on:=7,ground:=Go.Ground.phase},{on:=8,ground:=Go.Ground.phase},{on:=9,ground:=Go.Ground.phase},{on:=10,ground:=Go.Ground.phase},{on:=11,ground:=Go.Ground.phase},{on:=12,ground:=Go.Ground.phase},{on:=13,ground:=Go.Ground.phase},{on:=14,ground:=Go.Ground.phase},{on:=15,ground:=Go.Ground.phase},{on:=16,ground:=Go.Ground.phase},{on:=17,ground:=Go.Ground.phase},{on:=18,ground:=Go.Ground.phase},{on:=19,ground:=Go.Ground.phase},{on:=20,ground:=Go.Ground.phase},{on:=21,ground:=Go.Ground.phase},{on:=22,ground:=Go.Ground.phase},{on:=23,ground:=Go.Ground.phase}],guard:=none}) (v:=?_) rfl (by kernel_rfl) (by kernel_rfl) (by kernel_rfl) (fun _ _ _ h=>h) (Or.inl ⟨by rfl,?_⟩) (by assumption) ?_
            rotate_left 1
            ·((intro w hSw;(try dsimp only at hSw);go_simp)<;>with_reducible rfl)
            (try simp only [Act.put,List.setIfInBounds_toArray,List.set_cons_zero,List.set_cons_succ])
            refine wpAnyH_done (by kernel_rfl) ?_ _
            rcases HANS.out with ⟨rfl,hr,rfl,hl2⟩ | ⟨rfl,hr⟩
            ·have HFI2:=Lib.hid (HFX.out u hr)
             have hW:Held wr t.kids[q] (.slice a' t.kids[q].kids.length cap') (((((wn.setCell ⟨wr.heap.size+1,0,none⟩ (.int .i64 u.k)).setCell ⟨wr.heap.size+1,1,none⟩ (.int .i64 u.i)).setCell ⟨wr.heap.size+1,2,none⟩ (.int .i64 u.j)).setCell ⟨wr.heap.size+1,3,none⟩ (.int .i64 u.n)).setCell ⟨wr.heap.size+1,4,none⟩ (.slice a2 u.kids.length cap2)):=held_five hh _ _ _ _ _
             have hLW:LiesP (((((wn.setCell ⟨wr.heap.size+1,0,none⟩ (.int .i64 u.k)).setCell ⟨wr.heap.size+1,1,none⟩ (.int .i64 u.i)).setCell ⟨wr.heap.size+1,2,none⟩ (.int .i64 u.j)).setCell ⟨wr.heap.size+1,3,none⟩ (.int .i64 u.n)).setCell ⟨wr.heap.size+1,4,none⟩ (.slice a2 u.kids.length cap2)) (Own wr.heap.size (((((wn.setCell ⟨wr.heap.size+1,0,none⟩ (.int .i64 u.k)).setCell ⟨wr.heap.size+1,1,none⟩ (.int .i64 u.i)).setCell ⟨wr.heap.size+1,2,none⟩ (.int .i64 u.j)).setCell ⟨wr.heap.size+1,3,none⟩ (.int .i64 u.n)).setCell ⟨wr.heap.size+1,4,none⟩ (.slice a2 u.kids.length cap2))) u.kids (.slice a2 u.kids.length cap2):=liesP_five (hl2.from (B':=wr.heap.size+2) (by simp)) _ _ _ _ _
             have hN:(((((wn.setCell ⟨wr.heap.size+1,0,none⟩ (.int .i64 u.k)).setCell ⟨wr.heap.size+1,1,none⟩ (.int .i64 u.i)).setCell ⟨wr.heap.size+1,2,none⟩ (.int .i64 u.j)).setCell ⟨wr.heap.size+1,3,none⟩ (.int .i64 u.n)).setCell ⟨wr.heap.size+1,4,none⟩ (.slice a2 u.kids.length cap2)).heap[wr.heap.size+1]? =some (boxOf u (.slice a2 u.kids.length cap2)):=five_set hZ
             clear hh hbn hl2 hZ g0 g1 g2 g3 g4 k0 k1 k2 k3 k4
             generalize (((((wn.setCell ⟨wr.heap.size+1,0,none⟩ (.int .i64 u.k)).setCell ⟨wr.heap.size+1,1,none⟩ (.int .i64 u.i)).setCell ⟨wr.heap.size+1,2,none⟩ (.int .i64 u.j)).setCell ⟨wr.heap.size+1,3,none⟩ (.int .i64 u.n)).setCell ⟨wr.heap.size+1,4,none⟩ (.slice a2 u.kids.length cap2))=W at hW hLW hN ⊢
             have hdW:=desk_trans hdk (below_from (held_below hW) hsz)
             have hfW:=hfu.later (held_below hW)
             have hxq:q<xs.length:=by rw [HXL.out];exact hlt
             have hLF:=hfu.fresh hsz hLW
             obtain⟨-,-,q2⟩:=desk_blocks hdW
             obtain⟨y0,y1,y2,y3,y4⟩:=five_cells q2
             obtain⟨p0,p1,p2,p3,p4⟩:=five_cells hN
             obtain⟨x0,x1,x2,x3,x4⟩:=hfW.node q hxq
             obtain⟨cs,hcs⟩:=hfW.open'
             have f0:=open_unfrozen hcs (q * 5)
             have f1:=open_unfrozen hcs (q * 5+1)
             have f2:=open_unfrozen hcs (q * 5+2)
             have f3:=open_unfrozen hcs (q * 5+3)
             have f4:=open_unfrozen hcs (q * 5+4)
             have HFW:=Lib.hid hfW
             have HLF:=Lib.hid hLF
             have HFU:=Lib.hid hfu
             clear hcs hN hLW hW hfW hLF hfu d0 d1 d2 d3 d4 z0 z1 z2 z3 z4
             go_wp2
             go_roundw
             case rel=>exact⟨q+1,xs.set q (u,.slice a2 u.kids.length cap2),hlt,by go_num,by simp [Hid,HXL.out],by rw [Hid,optK_next hlt HXS.out hr,List.map_set,take_set_next _ _ _ (by simpa using hxq)],HFW.out.fill hxq HFI2.out HLF.out,desk_put hdW (Nat.le_refl _) _ _ _⟩
             case measure=>simp [intOf];omega
            ·have hW:Held wr t.kids[q] (.slice a' t.kids[q].kids.length cap') (((((wn.setCell ⟨wr.heap.size+1,0,none⟩ (.int .i64 u.k)).setCell ⟨wr.heap.size+1,1,none⟩ (.int .i64 u.i)).setCell ⟨wr.heap.size+1,2,none⟩ (.int .i64 u.j)).setCell ⟨wr.heap.size+1,3,none⟩ (.int .i64 u.n)).setCell ⟨wr.heap.size+1,4,none⟩ (.slice a2 n2 cap2)):=held_five hh _ _ _ _ _
             clear hh hbn hZ g0 g1 g2 g3 g4 k0 k1 k2 k3 k4
             generalize (((((wn.setCell ⟨wr.heap.size+1,0,none⟩ (.int .i64 u.k)).setCell ⟨wr.heap.size+1,1,none⟩ (.int .i64 u.i)).setCell ⟨wr.heap.size+1,2,none⟩ (.int .i64 u.j)).setCell ⟨wr.heap.size+1,3,none⟩ (.int .i64 u.n)).setCell ⟨wr.heap.size+1,4,none⟩ (.slice a2 n2 cap2))=W at hW ⊢
             have hdW:=desk_trans hdk (below_from (held_below hW) hsz)
             obtain⟨-,q1,-⟩:=desk_blocks hdW
             obtain⟨z0,z1,z2,z3,z4⟩:=five_cells q1
             obtain⟨f0,f1,f2,f3,f4⟩:=five_free q1
             go_wp2
             (try simp only [Exit.inBlock,Exit.then])
             refine bodyPost_ret (results_cell_tmp rfl _ _ (w.heap.size+1) _ _ _ du rfl (five_set q1) hu1 (by cases du<;>first | rfl | exact hu2) size_term) rfl ?_
             exact GivesN.wide ⟨((((((desk_under hdW).setCell (by simp) _).setCell (by simp) _).setCell (by simp) _).setCell (by simp) _).setCell (by simp) _),Or.inr ⟨Tm.zero,none,0,0,by rw [HEQ.out,optK_stop hlt hr];rfl,rfl⟩⟩ HBP.out
           exact AllReadyH.nil
          exact AllReadyH.nil
         exact AllReadyH.nil
        exact AllReadyH.nil
     ·have:q=t.kids.length:=by omega
      subst this
      go_wp2_with fail
      (try simp only [Exit.inBlock,Exit.then])
      refine bodyPost_ret (results_cell_tmp rfl _ _ (w.heap.size+1) _ _ _ du rfl (five_set q1) hu1 (by cases du<;>first | rfl | exact hu2) size_term) rfl ?_
      have hxe:(xs.map (·.1)).take t.kids.length=xs.map (·.1):=by rw [←HXL.out,←List.length_map (f:=(·.1)),List.take_length]
      have hres:t.putG g b pl=some (.mk t.k t.i t.j t.n (xs.map (·.1))):=by
       have:=HXS.out
       rw [List.take_length,hxe] at this
       rw [HEQ.out,this];rfl
      refine GivesN.wide ⟨((((((desk_under hdk).setCell (by simp) _).setCell (by simp) _).setCell (by simp) _).setCell (by simp) _).setCell (by simp) _),Or.inl ⟨_,_,hres,rfl,?_⟩⟩ HBP.out
      refine five_lies (hfu.lies (cap:=t.kids.length) (by rw [HXL.out];exact Nat.le_refl _) (by unfold maxLen;omega)) HXL.out _ _ _ _ _
end Go.Proofs.Ytpdinlejmlbbeaa

namespace Go.Proofs.Ytpdinlejmlbbeaa
open Go.RowKit
set_option maxHeartbeats 2000000 in
theorem refStripS_any (t:Tm) (E:Nat) (w:World) (s:Value) (hE:E≤w.heap.size) (hl:LiesQ w (·<E) t.kids s):Calls Try.prog 70 #[tv t s] w (Shares E t.stripB w):=by
 obtain⟨a,cap,S,rfl,hc,hm,-,-,-⟩:=hl.out
 have HL:=Lib.hid hl
 obtain⟨du,hu1,hu2⟩:=under_term
 have H0:=boxes_start w t (.slice a t.kids.length cap)
 clear hl
 unfold tv
 cases hp:t.plainB with
 | true =>
  have hres:=Lib.hid (stripB_ofPlain hp)
  go_enter Try.func70,Try.ntmps70
  go_wp2_with fail
  refine(refplain_any t _ _ (boxes_lies H0 HL.out.lies)).mono ?_
  rw [hp]
  rintro e w2 ⟨rfl,hb2⟩
  have H2:=boxes_call H0 hb2
  obtain⟨-,q1⟩:=boxes_two H2
  obtain⟨d0,d1,d2,d3,d4⟩:=held_cells (boxes_held H2)
  obtain⟨z0,z1,z2,z3,z4⟩:=five_cells q1
  obtain⟨f0,f1,f2,f3,f4⟩:=five_free q1
  clear hb2 H0
  go_wp2
  refine bodyPost_ret (results_cell_row rfl _ _ (w.heap.size+1) _ _ _ du rfl (five_set q1) hu1 (by cases du<;>first | rfl | exact hu2) size_term) rfl ?_
  rw [hres.out]
  exact⟨_,rfl,(HL.out.later (below_five (boxes_under H2) (by omega) _ _ _ _ _)).wide (fun b hb=>Or.inl hb),below_five (boxes_under H2) (by omega) _ _ _ _ _⟩
 | false =>
  cases hr:t.markedB with
  | false =>
   have hres:=Lib.hid (stripB_ofNone hp hr)
   go_enter Try.func70,Try.ntmps70
   go_wp2_with fail
   refine(refplain_any t _ _ (boxes_lies H0 HL.out.lies)).mono ?_
   rw [hp]
   rintro e w1 ⟨rfl,hb1⟩
   have H1:=boxes_call H0 hb1
   obtain⟨d0,d1,d2,d3,d4⟩:=held_cells (boxes_held H1)
   clear hb1 H0
   go_wp2_with fail
   refine(refmarked_any t _ _ (boxes_lies H1 HL.out.lies)).mono ?_
   rw [hr]
   rintro e w2 ⟨rfl,hb2⟩
   have H2:=boxes_call H1 hb2
   obtain⟨-,q1⟩:=boxes_two H2
   obtain⟨z0,z1,z2,z3,z4⟩:=five_cells q1
   obtain⟨f0,f1,f2,f3,f4⟩:=five_free q1
   clear hb2 d0 d1 d2 d3 d4
   obtain⟨d0,d1,d2,d3,d4⟩:=held_cells (boxes_held H2)
   go_wp2
   refine bodyPost_ret (results_cell_row rfl _ _ (w.heap.size+1) _ _ _ du rfl (five_set q1) hu1 (by cases du<;>first | rfl | exact hu2) size_term) rfl ?_
   rw [hres.out]
   exact⟨.slice none 0 0,rfl,liesQ_nil _ _,below_five (boxes_under H2) (by omega) _ _ _ _ _⟩
  | true =>
   have hres:=Lib.hid (stripB_ofMarked hr)
   go_enter Try.func70,Try.ntmps70
   go_wp2_with fail
   refine(refplain_any t _ _ (boxes_lies H0 HL.out.lies)).mono ?_
   rw [hp]
   rintro e w1 ⟨rfl,hb1⟩
   have H1:=boxes_call H0 hb1
   obtain⟨d0,d1,d2,d3,d4⟩:=held_cells (boxes_held H1)
   clear hb1 H0
   go_wp2_with fail
   refine(refmarked_any t _ _ (boxes_lies H1 HL.out.lies)).mono ?_
   rw [hr]
   rintro e w2 ⟨rfl,hb2⟩
   have H2:=boxes_call H1 hb2
   have hs2:w.heap.size+2≤w2.heap.size:=by have:=Below.size H2;simpa using this
   clear hb2 d0 d1 d2 d3 d4
   obtain⟨d0,d1,d2,d3,d4⟩:=held_cells (boxes_held H2)
   go_wp2_with fail
   refine(refstrip_any t E w2 _ (by omega) (HL.out.later (boxes_under H2)) hr).mono ?_
   rintro e w3 ⟨s3,rfl,hl3,hb3⟩
   obtain⟨a3,cap3,S3,rfl,-⟩:=hl3.out
   have H3:=boxes_call H2 hb3
   obtain⟨-,q1⟩:=boxes_two H3
   obtain⟨z0,z1,z2,z3,z4⟩:=five_cells q1
   obtain⟨f0,f1,f2,f3,f4⟩:=five_free q1
   have HL3:=Lib.hid hl3
   clear hb3 hl3 d0 d1 d2 d3 d4
   go_wp2
   refine bodyPost_ret (results_cell_row rfl _ _ (w.heap.size+1) _ _ _ du rfl (five_set q1) hu1 (by cases du<;>first | rfl | exact hu2) size_term) rfl ?_
   rw [hres.out]
   exact⟨_,rfl,liesQ_fives HL3.out (by omega) (by omega) (by omega) _ _ _ _ _,below_five (boxes_under H3) (by omega) _ _ _ _ _⟩
def plainlyB (t:Tm) (q:Int):Bool:=decide (12<t.k)||(t.k==12&&q==2)
theorem refplainly_any (t:Tm) (q:Int) (w:World) (a:Option Addr) (n cap:Nat):Calls Try.prog 64 #[tv t (.slice a n cap),.int .i64 q] w fun e w'=>e=.returned (.bool (plainlyB t q))∧Below w.heap.size w w':=by
 unfold tv
 go_enter Try.func64,Try.ntmps64
 go_wp2
 all_goals go_ret
 all_goals exact⟨ret_bool (by unfold plainlyB;simp_all),(Below.refl _ _).alloc (Nat.le_refl _) _⟩
theorem gives_pick {r:Option Tm} {w w':World} {e:Ending} (h:Gives r w e w'):GivesY r w e w':=by
 obtain⟨hb,⟨u,s',h1,h2,h3⟩ | ⟨z,h1,-,h2⟩⟩:=h
 ·obtain⟨a,cap,rfl,-,-⟩:=h3.out
  exact⟨u,a,_,cap,true,h2,hb,Or.inl ⟨rfl,h1,rfl,h3⟩⟩
 ·exact⟨z,none,0,0,false,h2,hb,Or.inr ⟨rfl,h1⟩⟩
theorem below_two (w:World) (a b:Obj):Below w.heap.size w ((w.alloc a).alloc b):=((Below.refl _ _).alloc (Nat.le_refl _) _).alloc (by simp) _
theorem heap_two (w:World) (a b:Obj):((w.alloc a).alloc b).heap[w.heap.size]? =some a∧((w.alloc a).alloc b).heap[w.heap.size+1]? =some b:=by
 refine⟨by rw [Below.heap_alloc _ _ _ (by simp),alloc_new],heap_alloc2_new _ _ _⟩
set_option maxRecDepth 20000 in
set_option maxHeartbeats 2000000 in
theorem refraised_any (u:Tm) (b:Int) (pl:Bool) (w:World) (s:Value) (hl:Lies w u.kids s) (hr:u.rightB=true) (hd:u.deep≤100000) (hb0:0≤b) (hb1:b≤9223372036854775807) :
 Calls Try.prog 62 #[tv u s,.int .i64 b,.bool pl] w (GivesY ((if pl=true then u.bare else u).each (liftF b 0) 0) w):=by
 obtain⟨a,cap,S,rfl,-⟩:=hl.out
 obtain⟨du,hu1,hu2⟩:=under_term
 have hB:=below_two w (.cells #[.int .i64 u.k,.int .i64 u.i,.int .i64 u.j,.int .i64 u.n,.slice a u.kids.length cap] 24) (.cells #[.int .i64 0,.int .i64 0,.int .i64 0,.int .i64 0,.slice none 0 0] 24)
 obtain⟨q0,q1⟩:=heap_two w (.cells #[.int .i64 u.k,.int .i64 u.i,.int .i64 u.j,.int .i64 u.n,.slice a u.kids.length cap] 24) (.cells #[.int .i64 0,.int .i64 0,.int .i64 0,.int .i64 0,.slice none 0 0] 24)
 have HQ:=Lib.hid (hl.q.later hB)
 have hs2:w.heap.size+1<((w.alloc (.cells #[.int .i64 u.k,.int .i64 u.i,.int .i64 u.j,.int .i64 u.n,.slice a u.kids.length cap] 24)).alloc (.cells #[.int .i64 0,.int .i64 0,.int .i64 0,.int .i64 0,.slice none 0 0] 24)).heap.size:=by simp
 clear hl
 unfold tv
 have hi64:I64 b:=by unfold I64;omega
 cases pl with
 | false =>
  have CL:=rlift_any b hi64 hb0 u 0
  have hre:=rlift_lift u b 0 hb0 (Int.le_refl 0) (by omega) hr
  go_enter Try.func62,Try.ntmps62
  go_upto_region 1 with fail
  generalize (w.alloc (.cells #[.int .i64 u.k,.int .i64 u.i,.int .i64 u.j,.int .i64 u.n,.slice a u.kids.length cap] 24)).alloc (.cells #[.int .i64 0,.int .i64 0,.int .i64 0,.int .i64 0,.slice none 0 0] 24)=w2 at hB q0 q1 HQ hs2 ⊢
  obtain⟨d0,d1,d2,d3,d4⟩:=five_cells q0
  have CL2:=CL w2 _ HQ.out.lies hr (Int.le_refl 0) (by omega)
  rw [hre] at CL2
  have CL3:=Lib.hid CL2
  have HQ1:=Lib.hid q1
  clear CL CL2 hre hr q0 q1
  simp only [Bool.false_eq_true,if_false]
  go_wp2_with fail
  refine CL3.out.mono ?_
  intro e w3 hg
  obtain⟨x,xa,xn,xc,ok,rfl,hb3,hans⟩:=gives_pick hg
  have HANS:=Lib.hid hans
  have q1':=(hb3.block _ hs2).trans HQ1.out
  obtain⟨z0,z1,z2,z3,z4⟩:=five_cells q1'
  obtain⟨f0,f1,f2,f3,f4⟩:=five_free q1'
  have hs3:w.heap.size+1<w3.heap.size:=block_lt q1'
  have HB3:=Lib.hid (hB.trans (hb3.mono hB.size))
  clear hg hans hb3 d0 d1 d2 d3 d4
  go_wp2
  refine bodyPost_ret (results_cell_tmp rfl _ _ (w.heap.size+1) _ _ _ du rfl (five_set q1') hu1 (by cases du<;>first | rfl | exact hu2) size_term) rfl ?_
  refine⟨x,xa,xn,xc,ok,rfl,below_five HB3.out (by omega) _ _ _ _ _,?_⟩
  rcases HANS.out with ⟨rfl,h1,h2,h3⟩ | ⟨rfl,h1⟩
  ·exact Or.inl ⟨rfl,h1,h2,liesP_fives h3 (by omega) (by have:=hB.size;omega) _ _ _ _ _⟩
  ·exact Or.inr ⟨rfl,h1⟩
 | true =>
  have hbr:u.bare.rightB=true:=bareIf_right hr true
  have hbd:u.bare.deep≤100000:=by have:=bareIf_deep u true;simp at this;omega
  have CL:=rlift_any b hi64 hb0 u.bare 0
  have hre:=rlift_lift u.bare b 0 hb0 (Int.le_refl 0) (by omega) hbr
  have hst:u.stripB=u.bare:=by unfold Tm.stripB;rw [if_pos hr]
  go_enter Try.func62,Try.ntmps62
  go_upto_region 1 with fail
  generalize (w.alloc (.cells #[.int .i64 u.k,.int .i64 u.i,.int .i64 u.j,.int .i64 u.n,.slice a u.kids.length cap] 24)).alloc (.cells #[.int .i64 0,.int .i64 0,.int .i64 0,.int .i64 0,.slice none 0 0] 24)=w2 at hB q0 q1 HQ hs2 ⊢
  obtain⟨d0,d1,d2,d3,d4⟩:=five_cells q0
  have CS:=refStripS_any u w.heap.size w2 _ hB.size HQ.out
  rw [hst] at CS
  have HRE:=Lib.hid hre
  have HCL:=Lib.hid CL
  have HCS:=Lib.hid CS
  have HBR:=Lib.hid hbr
  have HQ0:=Lib.hid q0
  have HQ1:=Lib.hid q1
  clear CL CS hre hr hbr hst q0 q1
  simp only [if_true]
  go_wp2_with fail
  refine HCS.out.mono ?_
  rintro e w3 ⟨s3,rfl,hl3,hb3⟩
  obtain⟨a3,cap3,S3,rfl,-⟩:=hl3.out
  have q0':=(hb3.block _ (by omega)).trans HQ0.out
  have q1':=(hb3.block _ hs2).trans HQ1.out
  obtain⟨z0,z1,z2,z3,z4⟩:=five_cells q0'
  obtain⟨f0,f1,f2,f3,f4⟩:=five_free q0'
  have hl4:Lies (((((w3.setCell ⟨w.heap.size,0,none⟩ (.int .i64 u.bare.k)).setCell ⟨w.heap.size,1,none⟩ (.int .i64 u.bare.i)).setCell ⟨w.heap.size,2,none⟩ (.int .i64 u.bare.j)).setCell ⟨w.heap.size,3,none⟩ (.int .i64 u.bare.n)).setCell ⟨w.heap.size,4,none⟩ (.slice a3 u.bare.kids.length cap3)) u.bare.kids (.slice a3 u.bare.kids.length cap3):=(liesQ_fives (E:=w.heap.size) (N:=w2.heap.size) hl3 (Nat.le_refl _) (by omega) (Nat.le_refl _) _ _ _ _ _).lies
  have hb4:Below w.heap.size w (((((w3.setCell ⟨w.heap.size,0,none⟩ (.int .i64 u.bare.k)).setCell ⟨w.heap.size,1,none⟩ (.int .i64 u.bare.i)).setCell ⟨w.heap.size,2,none⟩ (.int .i64 u.bare.j)).setCell ⟨w.heap.size,3,none⟩ (.int .i64 u.bare.n)).setCell ⟨w.heap.size,4,none⟩ (.slice a3 u.bare.kids.length cap3)):=below_five (hB.trans (hb3.mono hB.size)) (Nat.le_refl _) _ _ _ _ _
  have q1f:(((((w3.setCell ⟨w.heap.size,0,none⟩ (.int .i64 u.bare.k)).setCell ⟨w.heap.size,1,none⟩ (.int .i64 u.bare.i)).setCell ⟨w.heap.size,2,none⟩ (.int .i64 u.bare.j)).setCell ⟨w.heap.size,3,none⟩ (.int .i64 u.bare.n)).setCell ⟨w.heap.size,4,none⟩ (.slice a3 u.bare.kids.length cap3)).heap[w.heap.size+1]? =some (.cells #[.int .i64 0,.int .i64 0,.int .i64 0,.int .i64 0,.slice none 0 0] 24 (0,0)):=(five_other _ _ _ _ _ _ _ (by omega)).trans q1'
  have hs4:w.heap.size+1<(((((w3.setCell ⟨w.heap.size,0,none⟩ (.int .i64 u.bare.k)).setCell ⟨w.heap.size,1,none⟩ (.int .i64 u.bare.i)).setCell ⟨w.heap.size,2,none⟩ (.int .i64 u.bare.j)).setCell ⟨w.heap.size,3,none⟩ (.int .i64 u.bare.n)).setCell ⟨w.heap.size,4,none⟩ (.slice a3 u.bare.kids.length cap3)).heap.size:=block_lt q1f
  have q0f:(((((w3.setCell ⟨w.heap.size,0,none⟩ (.int .i64 u.bare.k)).setCell ⟨w.heap.size,1,none⟩ (.int .i64 u.bare.i)).setCell ⟨w.heap.size,2,none⟩ (.int .i64 u.bare.j)).setCell ⟨w.heap.size,3,none⟩ (.int .i64 u.bare.n)).setCell ⟨w.heap.size,4,none⟩ (.slice a3 u.bare.kids.length cap3)).heap[w.heap.size]? =some (.cells #[.int .i64 u.bare.k,.int .i64 u.bare.i,.int .i64 u.bare.j,.int .i64 u.bare.n,.slice a3 u.bare.kids.length cap3] 24 (0,0)):=five_set (v0:=.int .i64 u.bare.k) (v1:=.int .i64 u.bare.i) (v2:=.int .i64 u.bare.j) (v3:=.int .i64 u.bare.n) (v4:=.slice a3 u.bare.kids.length cap3) q0'
  have HL4:=Lib.hid hl4
  have HB4:=Lib.hid hb4
  have HQ1F:=Lib.hid q1f
  have HQ0F:=Lib.hid q0f
  have HS4:=Lib.hid hs4
  clear hl3 hb3 q0' q1' d0 d1 d2 d3 d4 hl4 hb4 q1f q0f hs4 HQ HQ0 HQ1 HCS hB hs2
  go_upto_region 3 with fail
  generalize ((((w3.setCell ⟨w.heap.size,0,none⟩ (.int .i64 u.bare.k)).setCell ⟨w.heap.size,1,none⟩ (.int .i64 u.bare.i)).setCell ⟨w.heap.size,2,none⟩ (.int .i64 u.bare.j)).setCell ⟨w.heap.size,3,none⟩ (.int .i64 u.bare.n)).setCell ⟨w.heap.size,4,none⟩ (.slice a3 u.bare.kids.length cap3)=w4 at HL4 HB4 HQ1F HQ0F HS4 ⊢
  obtain⟨d0,d1,d2,d3,d4⟩:=five_cells HQ0F.out
  have CL2:=HCL.out w4 _ HL4.out HBR.out (Int.le_refl 0) (by omega)
  rw [HRE.out] at CL2
  have CL3:=Lib.hid CL2
  clear CL2 HRE HCL z0 z1 z2 z3 z4 f0 f1 f2 f3 f4
  go_wp2_with fail
  refine CL3.out.mono ?_
  intro e w5 hg
  obtain⟨x,xa,xn,xc,ok,rfl,hb5,hans⟩:=gives_pick hg
  have HANS:=Lib.hid hans
  have q1':=(hb5.block _ HS4.out).trans HQ1F.out
  obtain⟨z0,z1,z2,z3,z4⟩:=five_cells q1'
  obtain⟨f0,f1,f2,f3,f4⟩:=five_free q1'
  have hs5:w.heap.size+1<w5.heap.size:=block_lt q1'
  have HB5:=Lib.hid (HB4.out.trans (hb5.mono HB4.out.size))
  clear hg hans hb5 d0 d1 d2 d3 d4
  go_wp2
  refine bodyPost_ret (results_cell_tmp rfl _ _ (w.heap.size+1) _ _ _ du rfl (five_set q1') hu1 (by cases du<;>first | rfl | exact hu2) size_term) rfl ?_
  refine⟨x,xa,xn,xc,ok,rfl,below_five HB5.out (by omega) _ _ _ _ _,?_⟩
  rcases HANS.out with ⟨rfl,h1,h2,h3⟩ | ⟨rfl,h1⟩
  ·exact Or.inl ⟨rfl,h1,h2,liesP_fives h3 (by have:=HS4.out;omega) (by have:=HB4.out.size;omega) _ _ _ _ _⟩
  ·exact Or.inr ⟨rfl,h1⟩
end Go.Proofs.Ytpdinlejmlbbeaa
