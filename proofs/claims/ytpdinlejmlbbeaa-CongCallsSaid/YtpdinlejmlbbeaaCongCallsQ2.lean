/-
  Facts and contracts that the proof of CongCalls uses.
-/
import Derived.OrdersHeld
import Derived.Below
import Derived.Laws.Rows
import Derived.Laws.CopyRow
import Derived.KernelRfl
import Derived.WalkKit
import Derived.Lib.Hide
import Derived.Lib.MinMax
import Derived.Deep.RegionHeld3
import Derived.Test.YtpdinlejmlbbeaaRows
import Derived.Deep.RegionWith
import Derived.Deep.AppendLies
import Derived.Laws.IdiomCopy
import Derived.Deep.Slices
import Derived.Deep.QuietTactic
import Derived.BigQuiet
import Derived.Lib.QuietBelow
import Derived.StillTailTactics
import Derived.IntWalk
import Derived.OwnWalk
import Derived.Deep.DeepCutAuto
import Derived.Deep.RegionLaw
import Derived.Deep.LoopGhost
import Derived.Deep.MidRow
import Derived.Laws.Tables
import Derived.Laws.CopyOwn
import Derived.Deep.Upon
import Derived.ArgAppend
import Derived.Deep.RegionHeld
import Derived.Laws.EntriesVeiled
import Derived.ProofKit
import Derived.OpenShut
import Derived.Carry
import Derived.ChangeSlices
import Derived.JoinedOf
import Derived.Test.YtpdinlejmlbbeaaCongCallsQ1
namespace Go.Proofs.Ytpdinlejmlbbeaa
open Go.RowKit
set_option maxHeartbeats 1000000 in
theorem terms_of (l:List Tm) (ih:∀ x ∈ l,∀ (y:Tm) (w:World) (s r:Value),Lies w x.kids s→Lies w y.kids r→Calls Try.prog 18 #[tv x s,tv y r] w fun e w'=>e=.returned (.bool (sameB x y))∧Below w.heap.size w w')
 (m:List Tm) (w:World) (s r:Value) (hl:Lies w l s) (hm:Lies w m r):Calls Try.prog 36 #[s,r] w fun e w'=>e=.returned (.bool (samesB l m))∧Below w.heap.size w w':=by
 obtain⟨a,cap,S,rfl,hc,hmx,-,hn,hk⟩:=hl.out
 obtain⟨a2,cap2,S2,rfl,hc2,hmx2,-,hn2,hk2⟩:=hm.out
 unfold maxLen at hmx hmx2
 have IH:=Lib.hid ih
 have HN:=Lib.hid hn
 have HK:=Lib.hid hk
 have HN2:=Lib.hid hn2
 have HK2:=Lib.hid hk2
 clear ih hn hk hn2 hk2 hl hm
 by_cases hlen:l.length=m.length
 rotate_left
 ·have h1:((l.length:Int)==(m.length:Int))=false:=by simp;omega
  have h2:((l.length:Int) != (m.length:Int))=true:=by simp;omega
  have HS:=Lib.hid (sames_ne hlen)
  clear hlen
  go_enter Try.func36,Try.ntmps36
  go_wp2
  go_ret
  exact⟨ret_bool HS.out.symm,Below.refl _ _⟩
 have h1:((l.length:Int)==(m.length:Int))=true:=by simp;omega
 have h2:((l.length:Int) != (m.length:Int))=false:=by simp;omega
 have HL:=Lib.hid hlen
 clear hlen
 go_enter Try.func36,Try.ntmps36
 go_wp2
 go_loopw [5] (fun iv wr=>∃ k:Nat,k≤l.length∧iv=.int .i64 k∧Hid (samesB (l.take k) (m.take k)=true)∧Below w.heap.size w wr) (fun iv _=>l.length-(intOf iv).toNat)
 case atStart=>exact⟨0,Nat.zero_le _,rfl,by simp [Hid,samesB],Below.refl _ _⟩
 case round =>
  obtain⟨k,hk,rfl,hgood,hb⟩:=hrel
  by_cases hlt:k<l.length
  ·have hlt2:k<m.length:=by have:=HL.out;omega
   obtain⟨b,o,rfl,hx⟩:=HN.out k hlt
   obtain⟨b2,o2,rfl,hx2⟩:=HN2.out k hlt2
   obtain⟨c0,c1,c2,c3,c4⟩:=hx.below hb hx.lt
   obtain⟨e0,e1,e2,e3,e4⟩:=hx2.below hb hx2.lt
   have hq:=(HK.out k hlt).keep hb
   have hq2:=(HK2.out k hlt2).keep hb
   obtain⟨a',cap',S',hS,-⟩:=hq.out
   obtain⟨a2',cap2',S2',hS2,-⟩:=hq2.out
   rw [hS] at c4 hq
   rw [hS2] at e4 hq2
   have HQ:=Lib.hid hq
   have HQ2:=Lib.hid hq2
   have HM:=Lib.hid (List.getElem_mem hlt)
   have HT:=Lib.hid (sames_take l m k hlt hlt2)
   have HO:=Lib.hid (sames_of l m k hlt hlt2)
   clear hS hS2 hq hq2
   go_wp2
   go_region_with (go_at_call 18;refine(IH.out _ HM.out _ _ _ _ (HQ.out.keep (Below.refl _ _).drew) (HQ2.out.keep (Below.refl _ _).drew)).mono ?_;rintro e wn ⟨rfl,hb'⟩;have HB3:=below_call hb.drew hb' hb.size;clear hb')
   all_goals
    cases hs:sameB l[k] m[k]
    ·go_wp2
     go_ret
     exact⟨ret_bool (HO.out hs).symm,HB3⟩
    ·go_wp2
     go_roundw
     case rel=>exact⟨k+1,by omega,by go_num,by show _=true;rw [HT.out,hgood.out,hs];rfl,HB3⟩
     case measure=>simp [intOf];omega
  ·have:k=l.length:=by omega
   subst this
   go_wp2
   go_ret
   exact⟨ret_bool (by have hg:=hgood.out;rw [List.take_length,HL.out,List.take_length] at hg;exact hg.symm),hb⟩
set_option maxHeartbeats 1000000 in
theorem keepsame_any (t:Tm):∀ (u:Tm) (w:World) (s r:Value),Lies w t.kids s→Lies w u.kids r→Calls Try.prog 18 #[tv t s,tv u r] w fun e w'=>e=.returned (.bool (sameB t u))∧Below w.heap.size w w':=by
 induction t using Tm.ind with
 | h t ih =>
  intro u w s r hl hm
  obtain⟨a,cap,S,rfl,-⟩:=hl.out
  obtain⟨a2,cap2,S2,rfl,-⟩:=hm.out
  have HTM:=Lib.hid (terms_of t.kids ih)
  have HE:=Lib.hid (sameB_eq t u)
  have HL:=Lib.hid hl
  have HM:=Lib.hid hm
  have H0:=held2_start w t (.slice a t.kids.length cap) u (.slice a2 u.kids.length cap2)
  clear hl hm ih
  unfold tv
  cases ek:(t.k==u.k)
  ·go_enter Try.func18,Try.ntmps18
   go_wp2
   go_ret
   exact⟨ret_bool (by rw [HE.out];simp only [ek,Bool.false_and]),held2_below H0⟩
  cases ei:(t.i==u.i)
  ·go_enter Try.func18,Try.ntmps18
   go_wp2
   go_ret
   exact⟨ret_bool (by rw [HE.out];simp only [ek,ei,Bool.false_and,Bool.true_and]),held2_below H0⟩
  cases ej:(t.j==u.j)
  ·go_enter Try.func18,Try.ntmps18
   go_wp2
   go_ret
   exact⟨ret_bool (by rw [HE.out];simp only [ek,ei,ej,Bool.false_and,Bool.true_and]),held2_below H0⟩
  cases en:(t.n==u.n)
  ·go_enter Try.func18,Try.ntmps18
   go_wp2
   go_ret
   exact⟨ret_bool (by rw [HE.out];simp only [ek,ei,ej,en,Bool.false_and,Bool.true_and]),held2_below H0⟩
  go_enter Try.func18,Try.ntmps18
  go_wp2_with fail
  refine(HTM.out u.kids _ _ _ (held2_lies H0 HL.out) (held2_lies H0 HM.out)).mono ?_
  rintro e wn ⟨rfl,hb'⟩
  have H1:=held2_call H0 hb'
  clear hb'
  go_wp2
  go_ret
  exact⟨ret_bool (by rw [HE.out];simp only [ek,ei,ej,en,Bool.true_and]),held2_below H1⟩
end Go.Proofs.Ytpdinlejmlbbeaa

namespace Go.Proofs.Ytpdinlejmlbbeaa
mutual
def Tm.each (f:Int→Int→Option Int):Tm→Int→Option Tm
 | .mk k i j n l,b=>if k=2 then(f i b).map (fun v=>.mk 2 v 0 0 []) else(eaches f k 0 b l).map (fun l'=>.mk k i j n l')
def eaches (f:Int→Int→Option Int):Int→Nat→Int→List Tm→Option (List Tm)
 | _,_,_,[]=>some []
 | k,p,b,t::r=>(t.each f (b+bindsN k p)).bind fun x=>(eaches f k (p+1) b r).map fun y=>x::y
end
theorem Tm.each_eq (f:Int→Int→Option Int) (t:Tm) (b:Int):t.each f b=if t.k=2 then(f t.i b).map (fun v=>.mk 2 v 0 0 []) else(eaches f t.k 0 b t.kids).map (fun l=>.mk t.k t.i t.j t.n l):=by
 cases t;simp only [Tm.each];rfl
theorem eaches_length (f:Int→Int→Option Int) (k b:Int):∀ (l:List Tm) (p:Nat) (m:List Tm),eaches f k p b l=some m→m.length=l.length
 | [],p,m,h=>by simp only [eaches,Option.some.injEq] at h;subst h;rfl
 | t::r,p,m,h=>by
  simp only [eaches,Option.bind_eq_some_iff,Option.map_eq_some_iff] at h
  obtain⟨x,_,y,hy,rfl⟩:=h
  simp [eaches_length f k b r (p+1) y hy]
theorem right_var_eq {t:Tm} (h:t.rightB=true) (hk:t.k=2):t=.mk 2 t.i 0 0 []:=by
 have h2:=t.right_node h
 have h0:t.kids=[]:=(sorts_two h2 (by omega)).2
 simp only [Tm.nodeB,numbersN,hk,Bool.and_eq_true,if_true,decide_eq_true_eq] at h2
 have h3:=h2.2
 have hj:t.j=0:=by simp at h3;omega
 have hn:t.n=0:=by simp at h3;omega
 rw [←t.eta,hk,hj,hn,h0];rfl
theorem each_stays (f:Int→Int→Option Int) (t:Tm):∀ b,t.rightB=true→0≤b→(∀ v c,0≤v→v≤2147483647→b≤c→v<t.freeN+c-b→f v c=some v)→t.each f b=some t:=by
 induction t using Tm.ind with
 | h t ih =>
  intro b hr hb hf
  rw [Tm.each_eq]
  have hm:=t.right_kids hr
  by_cases hk:t.k=2
  ·have hv:=t.right_var hr hk
   have hfr:t.freeN=t.i+1:=by rw [t.freeN_eq,if_pos hk]
   rw [if_pos hk,hf t.i b hv.1 hv.2 (Int.le_refl _) (by omega)]
   exact congrArg some (right_var_eq hr hk).symm
  ·rw [if_neg hk]
   have hfr:t.freeN=frees t.k 0 t.kids:=by rw [t.freeN_eq,if_neg hk]
   have key:∀ (l:List Tm) (p:Nat),(∀ x ∈ l,∀ b,x.rightB=true→0≤b→(∀ v c,0≤v→v≤2147483647→b≤c→v<x.freeN+c-b→f v c=some v)→x.each f b=some x)→(∀ x ∈ l,x.rightB=true)→frees t.k p l≤t.freeN→eaches f t.k p b l=some l:=by
    intro l
    induction l with
    | nil=>intro p _ _ _;simp [eaches]
    | cons x r ihr =>
     intro p h1 h2 h3
     simp only [frees] at h3
     have hbd:=binds_range t.k (p:Int)
     have e1:=h1 x (List.mem_cons_self ..) (b+bindsN t.k p) (h2 x (List.mem_cons_self ..)) (by omega) (fun v c hv hv2 hc hlt=>hf v c hv hv2 (by omega) (by omega))
     have e2:=ihr (p+1) (fun y hy=>h1 y (List.mem_cons_of_mem _ hy)) (fun y hy=>h2 y (List.mem_cons_of_mem _ hy)) (by omega)
     simp only [eaches,e1,e2,Option.bind_some,Option.map_some]
   rw [key t.kids 0 ih hm (by omega)]
   exact congrArg some t.eta
theorem var_sorts {t:Tm} (h:t.nodeB=true) (hk:t.k=2):t.markedB=true∧t.plainB=true:=by
 have h3:=(sorts_two h (by omega)).1
 unfold Tm.sortsN at h3
 cases hm:t.markedB<;>cases hp:t.plainB<;>simp [hm,hp] at h3 ⊢
theorem each_keeps (f:Int→Int→Option Int) (hf:∀ v b w,0≤v→v≤2147483647→f v b=some w→0≤w∧w≤2147483647) (t:Tm) :
 ∀ b u,t.rightB=true→t.each f b=some u→u.markedB=t.markedB∧u.plainB=t.plainB∧u.size=t.size:=by
 induction t using Tm.ind with
 | h t ih =>
  intro b u hr he
  have hm:=t.right_kids hr
  rw [Tm.each_eq] at he
  by_cases hk:t.k=2
  ·rw [if_pos hk] at he
   simp only [Option.map_eq_some_iff] at he
   obtain⟨v,hv,rfl⟩:=he
   have hr2:=t.right_var hr hk
   have hv2:=hf _ _ _ hr2.1 hr2.2 hv
   have hnode:(Tm.mk 2 v 0 0 []).nodeB=true:=by simp [Tm.nodeB,Tm.k,Tm.i,Tm.j,Tm.n,Tm.kids,numbersN,kidsN,hv2.1,hv2.2]
   have a1:=var_sorts hnode rfl
   have a2:=var_sorts (t.right_node hr) hk
   refine⟨by rw [a1.1,a2.1],by rw [a1.2,a2.2],?_⟩
   rw [right_var_eq hr hk];simp [Tm.size,sizes]
  ·rw [if_neg hk] at he
   simp only [Option.map_eq_some_iff] at he
   obtain⟨m,hm2,rfl⟩:=he
   have key:∀ (l:List Tm) (p q:Nat) (m:List Tm),(∀ x ∈ l,∀ b u,x.rightB=true→x.each f b=some u→u.markedB=x.markedB∧u.plainB=x.plainB∧u.size=x.size)→(∀ x ∈ l,x.rightB=true)→eaches f t.k p b l=some m →
    plains m=plains l∧(∀ tr,markeds tr q m=markeds tr q l)∧sizes m=sizes l:=by
    intro l
    induction l with
    | nil=>intro p q m _ _ h;simp only [eaches,Option.some.injEq] at h;subst h;exact⟨rfl,fun _=>rfl,rfl⟩
    | cons x r ihr =>
     intro p q m h1 h2 h
     simp only [eaches,Option.bind_eq_some_iff,Option.map_eq_some_iff] at h
     obtain⟨x',hx,r',hr',rfl⟩:=h
     obtain⟨e1,e2,e3⟩:=h1 x (List.mem_cons_self ..) _ _ (h2 x (List.mem_cons_self ..)) hx
     obtain⟨g1,g2,g3⟩:=ihr (p+1) (q+1) r' (fun y hy=>h1 y (List.mem_cons_of_mem _ hy)) (fun y hy=>h2 y (List.mem_cons_of_mem _ hy)) hr'
     exact⟨by simp only [plains,e2,g1],fun tr=>by simp only [markeds,e1,e2,g2],by simp only [sizes,e3,g3]⟩
   obtain⟨g1,g2,g3⟩:=key t.kids 0 0 m ih hm hm2
   have hlen:=eaches_length _ _ _ _ _ _ hm2
   have hnode:(Tm.mk t.k t.i t.j t.n m).nodeB=t.nodeB:=by
    show(((m.length:Int)==kidsN t.k t.n)&&numbersN t.k t.i t.j t.n)=_
    rw [hlen];rfl
   refine⟨?_,?_,?_⟩
   ·rw [Tm.markedB_eq,Tm.markedB_eq,hnode];show(_&&(_&&markeds (t.k==12) 0 m))=_;rw [g2];rfl
   ·rw [Tm.plainB_eq,Tm.plainB_eq,hnode];show(_&&(_&&plains m))=_;rw [g1];rfl
   ·rw [Tm.size_eq,Tm.size_eq];show sizes m+1=_;rw [g3]
def liftF (k from':Int) (v b:Int):Option Int:=if v-b<from' then some v else if k>2147483647-v then none else some (v+k)
theorem liftF_range (k c:Int) (hk:0≤k):∀ v b w,0≤v→v≤2147483647→liftF k c v b=some w→0≤w∧w≤2147483647:=by
 intro v b w h0 h1 h
 unfold liftF at h
 split at h
 ·have:=Option.some.inj h;omega
 ·split at h
  ·cases h
  ·have:=Option.some.inj h;omega
end Go.Proofs.Ytpdinlejmlbbeaa

namespace Go.Proofs.Ytpdinlejmlbbeaa
def Tm.zero:Tm:=.mk 0 0 0 0 []
def optK (g:Nat→Tm→Option Tm):Nat→List Tm→Option (List Tm)
 | _,[]=>some []
 | p,t::r=>(g p t).bind fun x=>(optK g (p+1) r).map fun y=>x::y
theorem optK_take (g:Nat→Tm→Option Tm) (l:List Tm) (p k:Nat) (h:k<l.length):optK g p (l.take (k+1))=(optK g p (l.take k)).bind fun m=>(g (p+k) l[k]).map fun x=>m++[x]:=by
 induction l generalizing p k with
 | nil=>simp at h
 | cons a r ih =>
  cases k with
  | zero=>simp only [List.take_succ_cons,List.take_zero,optK,List.getElem_cons_zero,Nat.add_zero,Option.map_some,Option.bind_some,List.nil_append];cases g p a<;>rfl
  | succ k =>
   simp only [List.take_succ_cons,optK,List.getElem_cons_succ]
   rw [ih (p+1) k (by simpa using h),show p+1+k=p+(k+1) by omega]
   cases g p a with
   | none=>rfl
   | some x=>simp only [Option.bind_some];cases optK g (p+1) (r.take k) with
    | none=>rfl
    | some m=>simp only [Option.bind_some,Option.map_some];cases g (p+(k+1)) (r[k]'(by simpa using h))<;>rfl
theorem optK_none (g:Nat→Tm→Option Tm) (l:List Tm) (p k:Nat) (h:k<l.length) (hg:g (p+k) l[k]=none):optK g p l=none:=by
 induction l generalizing p k with
 | nil=>simp at h
 | cons a r ih =>
  cases k with
  | zero=>simp only [List.getElem_cons_zero,Nat.add_zero] at hg;simp only [optK,hg,Option.bind_none]
  | succ k =>
   simp only [List.getElem_cons_succ] at hg
   simp only [optK]
   rw [ih (p+1) k (by simpa using h) (by rw [show p+1+k=p+(k+1) by omega];exact hg)]
   cases g p a<;>rfl
theorem optK_next {g:Nat→Tm→Option Tm} {l m:List Tm} {k:Nat} (h:k<l.length) (hm:optK g 0 (l.take k)=some m) {x:Tm} (hx:g k l[k]=some x):optK g 0 (l.take (k+1))=some (m++[x]):=by
 rw [optK_take g l 0 k h,hm,Option.bind_some,Nat.zero_add,hx,Option.map_some]
theorem optK_stop {g:Nat→Tm→Option Tm} {l:List Tm} {k:Nat} (h:k<l.length) (hx:g k l[k]=none):optK g 0 l=none:=optK_none g l 0 k h (by rw [Nat.zero_add];exact hx)
theorem optK_length {g:Nat→Tm→Option Tm}:∀ {l m:List Tm} {p:Nat},optK g p l=some m→m.length=l.length
 | [],m,p,h=>by simp only [optK,Option.some.injEq] at h;subst h;rfl
 | t::r,m,p,h=>by
  simp only [optK,Option.bind_eq_some_iff,Option.map_eq_some_iff] at h
  obtain⟨x,_,y,hy,rfl⟩:=h
  simp [optK_length hy]
theorem optK_get {g:Nat→Tm→Option Tm}:∀ {l m:List Tm} {p:Nat},optK g p l=some m→∀ k (h:k<l.length) (h':k<m.length),g (p+k) l[k]=some m[k]
 | [],m,p,h,k,hk,_=>by simp at hk
 | t::r,m,p,h,k,hk,hk'=>by
  simp only [optK,Option.bind_eq_some_iff,Option.map_eq_some_iff] at h
  obtain⟨x,hx,y,hy,rfl⟩:=h
  cases k with
  | zero=>simpa using hx
  | succ k =>
   have:=optK_get hy k (by simpa using hk) (by simpa using hk')
   simp only [List.getElem_cons_succ]
   rw [show p+(k+1)=p+1+k by omega];exact this
theorem optK_congr {g g':Nat→Tm→Option Tm}:∀ (l:List Tm) (p:Nat),(∀ k (h:k<l.length),g (p+k) l[k]=g' (p+k) l[k])→optK g p l=optK g' p l
 | [],p,_=>rfl
 | t::r,p,h=>by
  have h0:=h 0 (by simp)
  simp only [List.getElem_cons_zero,Nat.add_zero] at h0
  simp only [optK,h0]
  rw [optK_congr r (p+1) (fun k hk=>by have:=h (k+1) (by simpa using hk);simpa [Nat.add_assoc,Nat.add_comm 1 k] using this)]
theorem optK_some {g:Nat→Tm→Option Tm} {f:Tm→Tm}:∀ (l:List Tm) (p:Nat),(∀ k (h:k<l.length),g (p+k) l[k]=some (f l[k]))→optK g p l=some (l.map f)
 | [],p,_=>rfl
 | t::r,p,h=>by
  have h0:=h 0 (by simp)
  simp only [List.getElem_cons_zero,Nat.add_zero] at h0
  simp only [optK,h0,Option.bind_some]
  rw [optK_some r (p+1) (fun k hk=>by have:=h (k+1) (by simpa using hk);simpa [Nat.add_assoc,Nat.add_comm 1 k] using this)]
  rfl
theorem eaches_optK (f:Int→Int→Option Int) (k b:Int):∀ (l:List Tm) (p:Nat),eaches f k p b l=optK (fun q t=>t.each f (b+bindsN k q)) p l
 | [],p=>rfl
 | t::r,p=>by simp only [eaches,optK];rw [eaches_optK f k b r (p+1)]
theorem Tm.each_var (f:Int→Int→Option Int) (t:Tm) (b:Int) (h:t.k=2):t.each f b=(f t.i b).map (fun v=>.mk 2 v 0 0 []):=by rw [t.each_eq,if_pos h]
theorem Tm.each_node (f:Int→Int→Option Int) (t:Tm) (b:Int) (h:t.k≠2):t.each f b=(optK (fun q x=>x.each f (b+bindsN t.k q)) 0 t.kids).map (fun l=>.mk t.k t.i t.j t.n l):=by rw [t.each_eq,if_neg h,eaches_optK]
def Tm.liftB (t:Tm) (k c:Int):Tm:=if k<0∨c<0∨t.rightB=false then .zero else(t.each (liftF k c) 0).getD .zero
def step62 (c:Int) (k q:Int):Int:=c+(if 4611686018427387904<c then 0 else bindsN k q)
mutual
def Tm.rlift (k:Int):Tm→Int→Option Tm
 | .mk K i j n l,c=>if K=2∧c≤i∧k>2147483647-i then none else(rlifts k K 0 c l).map (fun l'=>.mk K (if K=2∧c≤i then i+k else i) j n l')
def rlifts (k:Int):Int→Nat→Int→List Tm→Option (List Tm)
 | _,_,_,[]=>some []
 | K,p,c,t::r=>(t.rlift k (step62 c K p)).bind fun x=>(rlifts k K (p+1) c r).map fun y=>x::y
end
theorem rlifts_optK (k K c:Int):∀ (l:List Tm) (p:Nat),rlifts k K p c l=optK (fun q t=>t.rlift k (step62 c K q)) p l
 | [],p=>rfl
 | t::r,p=>by simp only [rlifts,optK];rw [rlifts_optK k K c r (p+1)]
theorem Tm.rlift_eq (k:Int) (t:Tm) (c:Int):t.rlift k c=if t.k=2∧c≤t.i∧k>2147483647-t.i then none else(optK (fun q x=>x.rlift k (step62 c t.k q)) 0 t.kids).map (fun l=>.mk t.k (if t.k=2∧c≤t.i then t.i+k else t.i) t.j t.n l):=by
 cases t;simp only [Tm.rlift,rlifts_optK];rfl
theorem rlift_stays (k:Int) (t:Tm):∀ c,2147483647<c→t.rightB=true→t.rlift k c=some t:=by
 induction t using Tm.ind with
 | h t ih =>
  intro c hc hr
  rw [Tm.rlift_eq]
  have hv:t.k=2→t.i≤2147483647:=fun h=>(t.right_var hr h).2
  rw [if_neg (by rintro⟨h1,h2,-⟩;have:=hv h1;omega),if_neg (by rintro⟨h1,h2⟩;have:=hv h1;omega)]
  rw [optK_some (f:=id) t.kids 0 (fun q hq=>by
   rw [Nat.zero_add]
   refine ih _ (List.getElem_mem hq) _ ?_ (t.right_kids hr _ (List.getElem_mem hq))
   unfold step62;have:=binds_range t.k q;split<;>omega)]
  simp [t.eta]
theorem rlift_each (k:Int) (t:Tm):∀ (c b:Int),0≤b→c+b+2 * (t.deep:Int)≤4611686018427387904→t.rightB=true→t.rlift k (c+b)=t.each (liftF k c) b:=by
 induction t using Tm.ind with
 | h t ih =>
  intro c b hb hd hr
  rw [Tm.rlift_eq]
  have hm:=t.right_kids hr
  by_cases hk:t.k=2
  ·rw [Tm.each_var _ _ _ hk]
   have hv:=t.right_var hr hk
   have hkids:t.kids=[]:=(sorts_two (t.right_node hr) (by omega)).2
   have he:=right_var_eq hr hk
   rw [hkids]
   simp only [optK,Option.map_some,hk,true_and]
   unfold liftF
   by_cases h1:t.i-b<c
   ·rw [if_pos h1,if_neg (by omega),if_neg (by omega)]
    have hj:t.j=0:=by rw [he];rfl
    have hn:t.n=0:=by rw [he];rfl
    rw [hj,hn];rfl
   ·rw [if_neg h1]
    by_cases h2:k>2147483647-t.i
    ·rw [if_pos h2,if_pos ⟨by omega,h2⟩];rfl
    ·rw [if_neg h2,if_neg (by omega),if_pos (by omega)]
     have hj:t.j=0:=by rw [he];rfl
     have hn:t.n=0:=by rw [he];rfl
     rw [hj,hn];rfl
  ·rw [Tm.each_node _ _ _ hk,if_neg (fun h=>hk h.1),if_neg (fun h=>hk h.1)]
   rw [optK_congr (g':=fun q x=>x.each (liftF k c) (b+bindsN t.k q)) t.kids 0 (fun q hq=>by
    have hbd:=binds_range t.k q
    have hde:(t.kids[q]).deep+1≤t.deep:=by
     rw [t.deep_eq]
     have:∀ (l:List Tm) (q:Nat) (h:q<l.length),(l[q]).deep≤deeps l:=by
      intro l
      induction l with
      | nil=>intro q h;simp at h
      | cons a r ihr =>
       intro q h
       cases q with
       | zero=>simp only [List.getElem_cons_zero,deeps];omega
       | succ q=>have:=ihr q (by simpa using h);simp only [List.getElem_cons_succ,deeps];omega
     have:=this t.kids q hq;omega
    rw [Nat.zero_add]
    have hs:step62 (c+b) t.k q=c+(b+bindsN t.k q):=by unfold step62;rw [if_neg (by omega)];omega
    rw [hs]
    exact ih _ (List.getElem_mem hq) c (b+bindsN t.k q) (by omega) (by omega) (hm _ (List.getElem_mem hq)))]
theorem rlift_lift (t:Tm) (k c:Int) (_:0≤k) (hc:0≤c) (hd:t.deep≤1000000) (hr:t.rightB=true):t.rlift k c=t.each (liftF k c) 0:=by
 by_cases h:c≤4000000000000000000
 ·have:=rlift_each k t c 0 (Int.le_refl _) (by omega) hr
  rwa [Int.add_zero] at this
 ·rw [rlift_stays k t c (by omega) hr]
  refine(each_stays _ t 0 hr (Int.le_refl _) (fun v b hv hv2 _ _=>?_)).symm
  unfold liftF;rw [if_pos (by omega)]
end Go.Proofs.Ytpdinlejmlbbeaa

namespace Go.Proofs.Ytpdinlejmlbbeaa
theorem mk_k (k i j n:Int) (l:List Tm):(Tm.mk k i j n l).k=k:=rfl
theorem mk_i (k i j n:Int) (l:List Tm):(Tm.mk k i j n l).i=i:=rfl
theorem mk_j (k i j n:Int) (l:List Tm):(Tm.mk k i j n l).j=j:=rfl
theorem mk_n (k i j n:Int) (l:List Tm):(Tm.mk k i j n l).n=n:=rfl
theorem mk_kids (k i j n:Int) (l:List Tm):(Tm.mk k i j n l).kids=l:=rfl
def bareKind (k:Int):Int:=if k=3 then 13 else if k=4 then 14 else if k=5 then 15 else if k=6 then 16 else if k=7 then 17 else if k=8 then 18 else if k=9 then 19 else if k=10 then 20 else if k=11 then 21 else if k=12 then 23 else k
def barePick (k:Int):List Nat:=if k=3 then [0,1] else if k=4 then [0,2] else if k=5 then [2,3] else if k=6 then [0,1] else if k=7 then [0,1,2,3] else if k=8 then [2] else if k=9 then [2] else if k=10 then [0,1,2] else if k=11 then [0,1] else [0,1,2,3]
def pickT (p:List Nat) (l:List Tm):List Tm:=p.filterMap fun i=>l[i]?
def bareNode (k i j n:Int) (l:List Tm):Tm:=if 3≤k∧k≤12 then .mk (bareKind k) (if k=12 then i else 0) 0 (if k=12 then 5 else 0) (pickT (barePick k) l) else .mk k i j n l
mutual
def Tm.bare:Tm→Tm
 | .mk k i j n l=>bareNode k i j n (bares l)
def bares:List Tm→List Tm
 | []=>[]
 | t::r=>t.bare::bares r
end
theorem bares_map:∀ l:List Tm,bares l=l.map Tm.bare
 | []=>rfl
 | t::r=>by simp only [bares,List.map_cons,bares_map r]
theorem Tm.bare_eq (t:Tm):t.bare=bareNode t.k t.i t.j t.n (t.kids.map Tm.bare):=by cases t;simp only [Tm.bare,bares_map];rfl
theorem kids_two {l:List Tm} (h:l.length=2):∃ a b,l=[a,b]:=by
 match l,h with | [a,b],_=>exact⟨a,b,rfl⟩
theorem kids_three {l:List Tm} (h:l.length=3):∃ a b c,l=[a,b,c]:=by
 match l,h with | [a,b,c],_=>exact⟨a,b,c,rfl⟩
theorem kids_four {l:List Tm} (h:l.length=4):∃ a b c d,l=[a,b,c,d]:=by
 match l,h with | [a,b,c,d],_=>exact⟨a,b,c,d,rfl⟩
theorem node_length {t:Tm} (h:t.nodeB=true):(t.kids.length:Int)=kidsN t.k t.n:=by
 simp only [Tm.nodeB,Bool.and_eq_true,beq_iff_eq] at h;exact h.1
theorem marked_shape {t:Tm} (h:t.nodeB=true) (h3:3≤t.k) (h12:t.k≤12) :
 ((t.k=3∨t.k=6∨t.k=11)∧∃ a b,t.kids=[a,b])∨((t.k=4∨t.k=8∨t.k=9∨t.k=10)∧∃ a b c,t.kids=[a,b,c])∨((t.k=5∨t.k=7∨t.k=12)∧∃ a b c d,t.kids=[a,b,c,d]):=by
 have hl:=node_length h
 have hk:t.k=3∨t.k=4∨t.k=5∨t.k=6∨t.k=7∨t.k=8∨t.k=9∨t.k=10∨t.k=11∨t.k=12:=by omega
 rcases hk with e | e | e | e | e | e | e | e | e | e<;>rw [e] at hl<;>simp only [kidsN] at hl<;>simp at hl
 ·exact Or.inl ⟨by omega,kids_two (by omega)⟩
 ·exact Or.inr (Or.inl ⟨by omega,kids_three (by omega)⟩)
 ·exact Or.inr (Or.inr ⟨by omega,kids_four (by omega)⟩)
 ·exact Or.inl ⟨by omega,kids_two (by omega)⟩
 ·exact Or.inr (Or.inr ⟨by omega,kids_four (by omega)⟩)
 ·exact Or.inr (Or.inl ⟨by omega,kids_three (by omega)⟩)
 ·exact Or.inr (Or.inl ⟨by omega,kids_three (by omega)⟩)
 ·exact Or.inr (Or.inl ⟨by omega,kids_three (by omega)⟩)
 ·exact Or.inl ⟨by omega,kids_two (by omega)⟩
 ·exact Or.inr (Or.inr ⟨by omega,kids_four (by omega)⟩)
theorem plain_kids {t:Tm} (h:t.plainB=true):∀ x ∈ t.kids,x.plainB=true:=by
 rw [Tm.plainB_eq] at h;simp only [Bool.and_eq_true] at h;exact plains_mem h.2.2
theorem plain_kind {t:Tm} (h:t.plainB=true):t.k=1∨t.k=2∨13≤t.k:=by
 rw [Tm.plainB_eq] at h;simp at h;omega
theorem plain_right {t:Tm} (h:t.plainB=true):t.rightB=true:=by simp [Tm.rightB,h]
theorem marked_right {t:Tm} (h:t.markedB=true):t.rightB=true:=by simp [Tm.rightB,h]
theorem plain_bare (t:Tm):t.plainB=true→t.bare=t:=by
 induction t using Tm.ind with
 | h t ih =>
  intro h
  have hk:=plain_kind h
  rw [Tm.bare_eq,bareNode,if_neg (by omega)]
  have:t.kids.map Tm.bare=t.kids:=by
   have hp:=plain_kids h
   conv=>rhs;rw [←List.map_id t.kids]
   exact List.map_congr_left (fun x hx=>ih x hx (hp x hx))
  rw [this];exact t.eta
theorem right_cases {t:Tm} (h:t.rightB=true):t.plainB=true∨(t.markedB=true∧3≤t.k∧t.k≤12):=by
 cases hp:t.plainB
 ·right
  simp [Tm.rightB,hp] at h
  refine⟨h,?_⟩
  have hn:t.nodeB=true:=Tm.right_node (by simp [Tm.rightB,h])
  have h1:=Tm.node_kind hn
  by_cases h2:t.k≤2
  ·have:=(sorts_two hn h2).1
   simp [Tm.sortsN,h,hp] at this
  ·rw [Tm.markedB_eq] at h;simp at h;omega
 ·exact Or.inl rfl
theorem bare_plain (t:Tm):t.rightB=true→t.bare.plainB=true:=by
 induction t using Tm.ind with
 | h t ih =>
  intro h
  rcases right_cases h with hp | ⟨hm,h3,h12⟩
  ·rw [plain_bare t hp];exact hp
  ·have hn:=t.right_node h
   have hr:=t.right_kids h
   have hnum:=hn
   simp only [Tm.nodeB,Bool.and_eq_true] at hnum
   replace hnum:=hnum.2
   rw [Tm.bare_eq,bareNode,if_pos ⟨h3,h12⟩,Tm.plainB_eq]
   rcases marked_shape hn h3 h12 with ⟨hk,a,b,hkids⟩ | ⟨hk,a,b,c,hkids⟩ | ⟨hk,a,b,c,d,hkids⟩
   ·have ea:=ih a (by simp [hkids]) (hr a (by simp [hkids]))
    have eb:=ih b (by simp [hkids]) (hr b (by simp [hkids]))
    rcases hk with e | e | e<;>simp [e,hkids,bareKind,barePick,pickT,Tm.nodeB,mk_k,mk_i,mk_j,mk_n,mk_kids,kidsN,numbersN,plains,ea,eb]
   ·have ea:=ih a (by simp [hkids]) (hr a (by simp [hkids]))
    have eb:=ih b (by simp [hkids]) (hr b (by simp [hkids]))
    have ec:=ih c (by simp [hkids]) (hr c (by simp [hkids]))
    rcases hk with e | e | e | e<;>simp [e,hkids,bareKind,barePick,pickT,Tm.nodeB,mk_k,mk_i,mk_j,mk_n,mk_kids,kidsN,numbersN,plains,ea,eb,ec]
   ·have ea:=ih a (by simp [hkids]) (hr a (by simp [hkids]))
    have eb:=ih b (by simp [hkids]) (hr b (by simp [hkids]))
    have ec:=ih c (by simp [hkids]) (hr c (by simp [hkids]))
    have ed:=ih d (by simp [hkids]) (hr d (by simp [hkids]))
    rcases hk with e | e | e
    ·simp [e,hkids,bareKind,barePick,pickT,Tm.nodeB,mk_k,mk_i,mk_j,mk_n,mk_kids,kidsN,numbersN,plains,ec,ed]
    ·simp [e,hkids,bareKind,barePick,pickT,Tm.nodeB,mk_k,mk_i,mk_j,mk_n,mk_kids,kidsN,numbersN,plains,ea,eb,ec,ed]
    ·simp [e,numbersN,levelB] at hnum
     simp [e,hkids,bareKind,barePick,pickT,Tm.nodeB,mk_k,mk_i,mk_j,mk_n,mk_kids,kidsN,givenN,numbersN,plains,ea,eb,ec,ed,hnum,levelB]
theorem bare_bare (t:Tm) (h:t.rightB=true):t.bare.bare=t.bare:=plain_bare _ (bare_plain t h)
mutual
def Tm.putG (g:Int→Int→Bool→Option Tm):Tm→Int→Bool→Option Tm
 | .mk k i j n l,b,pl=>if k=2 then g i b pl else(putGs g k 0 b pl l).map (fun l'=>.mk k i j n l')
def putGs (g:Int→Int→Bool→Option Tm):Int→Nat→Int→Bool→List Tm→Option (List Tm)
 | _,_,_,_,[]=>some []
 | k,p,b,pl,t::r=>(t.putG g (b+bindsN k p) (pl||(k==12&&p==2))).bind fun x=>(putGs g k (p+1) b pl r).map fun y=>x::y
end
theorem putGs_optK (g:Int→Int→Bool→Option Tm) (k b:Int) (pl:Bool):∀ (l:List Tm) (p:Nat),putGs g k p b pl l=optK (fun q x=>x.putG g (b+bindsN k q) (pl||(k==12&&q==2))) p l
 | [],p=>rfl
 | t::r,p=>by simp only [putGs,optK];rw [putGs_optK g k b pl r (p+1)]
theorem Tm.putG_eq (g:Int→Int→Bool→Option Tm) (t:Tm) (b:Int) (pl:Bool):t.putG g b pl=if t.k=2 then g t.i b pl else(optK (fun q x=>x.putG g (b+bindsN t.k q) (pl||(t.k==12&&q==2))) 0 t.kids).map (fun l=>.mk t.k t.i t.j t.n l):=by
 cases t;simp only [Tm.putG,putGs_optK];rfl
theorem Tm.putG_var (g:Int→Int→Bool→Option Tm) (t:Tm) (b:Int) (pl:Bool) (h:t.k=2):t.putG g b pl=g t.i b pl:=by rw [t.putG_eq,if_pos h]
theorem Tm.putG_node (g:Int→Int→Bool→Option Tm) (t:Tm) (b:Int) (pl:Bool) (h:t.k≠2):t.putG g b pl=(optK (fun q x=>x.putG g (b+bindsN t.k q) (pl||(t.k==12&&q==2))) 0 t.kids).map (fun l=>.mk t.k t.i t.j t.n l):=by rw [t.putG_eq,if_neg h]
theorem deeps_get:∀ (l:List Tm) (q:Nat) (h:q<l.length),(l[q]).deep≤deeps l
 | [],q,h=>by simp at h
 | a::r,q,h=>by
  cases q with
  | zero=>simp only [List.getElem_cons_zero,deeps];omega
  | succ q=>have:=deeps_get r q (by simpa using h);simp only [List.getElem_cons_succ,deeps];omega
end Go.Proofs.Ytpdinlejmlbbeaa

namespace Go.Proofs.Ytpdinlejmlbbeaa
open Go.RowKit
theorem results_cell_tmp {P:Program} {fn:Func} {p q:Tmp} {ty:TypeId} (h:fn.results=#[.cell p ty,.tmp q]) (tmps:Array Value) (w:World) (g:Nat) (t:TypeId) (cs:Array Value) (fr:Nat × Nat) (d:TypeDesc)
 (hp:tmps.getD p undef=.pointer (some ⟨g,0,none⟩)) (hg:w.heap[g]? =some (.cells cs t fr))
 (hu:P.underlying ty=some d) (hd:(match d with | .struct _ | .array _ _=>true | _=>false)=true) (hi:(P.info? ty).map (·.size)=some cs.size) :
 (results fn tmps).run P w=.ok (.tuple #[.agg cs,tmps.getD q undef]) w:=by
 have hp':tmps[p]?.getD undef=.pointer (some ⟨g,0,none⟩):=by simpa using hp
 simp [results,h,hp',asAddr,run_loadVar_row w g t ty cs fr d hg hu hd hi]
def Gives (r:Option Tm) (w:World) (e:Ending) (w':World):Prop:=Below w.heap.size w w' ∧
 ((∃ u s',r=some u∧e=.returned (.tuple #[tv u s',.bool true])∧LiesP w' (Own w.heap.size w') u.kids s')∨(∃ z:Tm,r=none∧z.kids=[]∧e=.returned (.tuple #[tv z (.slice none 0 0),.bool false])))
theorem liftc_some (v b c k r:Int) (bf bk:Nat) (w:World) (h:liftF k c v b=some r) (hv:0≤v) (hv2:v≤2147483647) (hb:0≤b) (hb2:b≤4000000) (hk:I64 k) (hk0:0≤k)
 (hc:w.cell? ⟨bf,0,none⟩=some (.int .i64 c)) (hck:w.cell? ⟨bk,0,none⟩=some (.int .i64 k)) :
 Calls Try.prog 75 #[.int .i64 v,.int .i64 b,.pointer (some ⟨bf,0,none⟩),.pointer (some ⟨bk,0,none⟩)] w fun e w'=>e=.returned (.tuple #[.int .i64 r,.bool true])∧w=w':=by
 unfold liftF at h
 unfold I64 at hk
 obtain⟨hk1,hk2⟩:=hk
 by_cases h1:v-b<c
 ·rw [if_pos h1] at h
  obtain rfl:=Option.some.inj h
  have e1:decide (v-b<c)=true:=by simpa using h1
  clear h h1
  go_enter Try.func75,Try.ntmps75
  go_wp2
  go_ret2
  exact⟨rfl,rfl⟩
 ·rw [if_neg h1] at h
  by_cases h2:k>2147483647-v
  ·rw [if_pos h2] at h;cases h
  ·rw [if_neg h2] at h
   obtain rfl:=Option.some.inj h
   have e1:decide (v-b<c)=false:=by simpa using h1
   have e2:decide (2147483647-v<k)=false:=by simpa using h2
   have h2':k≤2147483647-v:=by omega
   clear h h1 h2
   go_enter Try.func75,Try.ntmps75
   go_wp2
   go_ret2
   exact⟨rfl,rfl⟩
theorem liftc_none (v b c k:Int) (bf bk:Nat) (w:World) (h:liftF k c v b=none) (hv:0≤v) (hv2:v≤2147483647) (hb:0≤b) (hb2:b≤4000000) (hk:I64 k) (_:0≤k)
 (hc:w.cell? ⟨bf,0,none⟩=some (.int .i64 c)) (hck:w.cell? ⟨bk,0,none⟩=some (.int .i64 k)) :
 Calls Try.prog 75 #[.int .i64 v,.int .i64 b,.pointer (some ⟨bf,0,none⟩),.pointer (some ⟨bk,0,none⟩)] w fun e w'=>e=.returned (.tuple #[.int .i64 0,.bool false])∧w=w':=by
 unfold liftF at h
 unfold I64 at hk
 obtain⟨hk1,hk2⟩:=hk
 by_cases h1:v-b<c
 ·rw [if_pos h1] at h;cases h
 ·rw [if_neg h1] at h
  by_cases h2:k>2147483647-v
  ·have e1:decide (v-b<c)=false:=by simpa using h1
   have e2:decide (2147483647-v<k)=true:=by simpa using h2
   clear h h1 h2
   go_enter Try.func75,Try.ntmps75
   go_wp2
   go_ret2
   exact⟨rfl,rfl⟩
  ·rw [if_neg h2] at h;cases h
theorem level_I64 {i:Int} (h:levelB i=true):I64 i:=by simp [levelB] at h;unfold I64;omega
theorem right_fine {t:Tm} (h:t.rightB=true):t.fine:=by
 have hn:=t.right_node h
 have hk:=Tm.node_kind hn
 have hl:=node_length hn
 simp only [Tm.nodeB,Bool.and_eq_true] at hn
 replace hn:=hn.2
 have i0:I64 0:=by unfold I64;omega
 have gn:0≤givenN t.n→I64 t.n:=fun h=>by unfold givenN at h;unfold I64;(repeat' split at h)<;>omega
 refine⟨by unfold I64;omega,?_⟩
 unfold numbersN at hn
 split at hn
 ·simp at hn;exact⟨by unfold I64;omega,by rw [hn.2.2.1];exact i0,by rw [hn.2.2.2];exact i0⟩
 split at hn
 ·simp at hn;exact⟨level_I64 hn.1,by rw [hn.2.1];exact i0,by rw [hn.2.2];exact i0⟩
 split at hn
 ·simp at hn;exact⟨level_I64 hn.1,level_I64 hn.2.1,by rw [hn.2.2];exact i0⟩
 split at hn
 ·rename_i h23
  simp at hn
  rw [h23] at hl
  exact⟨level_I64 hn.1,level_I64 hn.2,gn (by have:kidsN 23 t.n=givenN t.n:=rfl;omega)⟩
 ·simp at hn;exact⟨by rw [hn.1];exact i0,by rw [hn.2.1];exact i0,by rw [hn.2.2];exact i0⟩
theorem kidsN_le (k n:Int):kidsN k n≤12:=by
 have:givenN n≤12:=by unfold givenN;(repeat' split)<;>omega
 unfold kidsN;(repeat' split)<;>omega
theorem right_len {t:Tm} (h:t.rightB=true):t.kids.length≤12:=by
 have:=node_length (t.right_node h);have:=kidsN_le t.k t.n;omega
end Go.Proofs.Ytpdinlejmlbbeaa

namespace Go.Proofs.Ytpdinlejmlbbeaa
open Go.RowKit
def Makes (u:Tm) (w:World) (e:Ending) (w':World):Prop:=∃ s':Value,e=.returned (tv u s')∧LiesP w' (Own w.heap.size w') u.kids s'∧Below w.heap.size w w'
def MakesAll (l:List Tm) (w:World) (e:Ending) (w':World):Prop:=∃ s':Value,e=.returned s'∧LiesP w' (Own w.heap.size w') l s'∧Below w.heap.size w w'
theorem LiesP.out {w:World} {P:Nat→Prop} {l:List Tm} {s:Value} (h:LiesP w P l s):∃ (a:Option Addr) (cap:Nat),s=.slice a l.length cap∧l.length≤cap∧cap≤maxLen:=by
 cases h with
 | mk l a cap S hc hm hf hn hk=>exact⟨a,cap,rfl,hc,hm⟩
def Boxes (w:World) (t:Tm) (s:Value) (w':World):Prop:=Below (w.heap.size+2) ((w.alloc (boxOf t s)).alloc (.cells #[.int .i64 0,.int .i64 0,.int .i64 0,.int .i64 0,.slice none 0 0] 24)) w'
theorem boxes_start (w:World) (t:Tm) (s:Value):Boxes w t s ((w.alloc (.cells #[.int .i64 t.k,.int .i64 t.i,.int .i64 t.j,.int .i64 t.n,s] 24)).alloc (.cells #[.int .i64 0,.int .i64 0,.int .i64 0,.int .i64 0,.slice none 0 0] 24)):=Below.refl _ _
theorem boxes_held {w w':World} {t:Tm} {s:Value} (h:Boxes w t s w'):Held w t s w' :=
 ((Below.refl (w.heap.size+1) (w.alloc (boxOf t s))).alloc (by simp) _).trans (Below.mono h (by omega))
theorem boxes_cells {w w':World} {t:Tm} {s:Value} (h:Boxes w t s w'):w'.cell? ⟨w.heap.size,0,none⟩=some (.int .i64 t.k)∧w'.cell? ⟨w.heap.size,1,none⟩=some (.int .i64 t.i)∧w'.cell? ⟨w.heap.size,2,none⟩=some (.int .i64 t.j)∧w'.cell? ⟨w.heap.size,3,none⟩=some (.int .i64 t.n)∧w'.cell? ⟨w.heap.size,4,none⟩=some s ∧
 w'.cell? ⟨w.heap.size+1,0,none⟩=some (.int .i64 0)∧w'.cell? ⟨w.heap.size+1,1,none⟩=some (.int .i64 0)∧w'.cell? ⟨w.heap.size+1,2,none⟩=some (.int .i64 0)∧w'.cell? ⟨w.heap.size+1,3,none⟩=some (.int .i64 0)∧w'.cell? ⟨w.heap.size+1,4,none⟩=some (.slice none 0 0)∧w'.frozen? ⟨w.heap.size+1,0,none⟩=false∧w'.frozen? ⟨w.heap.size+1,1,none⟩=false∧w'.frozen? ⟨w.heap.size+1,2,none⟩=false∧w'.frozen? ⟨w.heap.size+1,3,none⟩=false∧w'.frozen? ⟨w.heap.size+1,4,none⟩=false:=by
 obtain⟨h0,h1,h2,h3,h4⟩:=held_cells (boxes_held h)
 have hs:(w.alloc (boxOf t s)).heap.size=w.heap.size+1:=by simp
 have:=box_cells (w:=w.alloc (boxOf t s)) (by rw [hs];exact h)
 rw [hs] at this
 obtain⟨y0,y1,y2,y3,y4⟩:=this
 have fr:∀ q,w'.frozen? ⟨w.heap.size+1,q,none⟩=false:=fun q=>by
  rw [Below.frozen h (p:=⟨w.heap.size+1,q,none⟩) (by simp)]
  unfold World.frozen?
  rw [show(⟨w.heap.size+1,q,none⟩:Addr).block=(w.alloc (boxOf t s)).heap.size by simp,alloc_new]
  rfl
 exact⟨h0,h1,h2,h3,h4,y0,y1,y2,y3,y4,fr _,fr _,fr _,fr _,fr _⟩
theorem boxes_call {w w1 w2:World} {t:Tm} {s:Value} (h:Boxes w t s w1) (hb:Below w1.heap.size w1 w2):Boxes w t s w2:=below_call h hb (by have:=Below.size h;simpa using this)
theorem held_set {w w1:World} {t:Tm} {s:Value} (h:Held w t s w1) {p:Addr} (hp:w.heap.size+1≤p.block) (u:Value):Held w t s (w1.setCell p u):=Below.setCell h hp u
theorem boxes_block {w w1:World} {t:Tm} {s:Value} (h:Boxes w t s w1):w1.heap[w.heap.size+1]? =some (.cells #[.int .i64 0,.int .i64 0,.int .i64 0,.int .i64 0,.slice none 0 0] 24 (0,0)):=by
 rw [Below.block h _ (by omega)]
 exact heap_alloc2_new _ _ _
theorem boxes_lies {w w1:World} {t:Tm} {s s':Value} {l:List Tm} (h:Boxes w t s w1) (hl:Lies w l s'):Lies w1 l s':=held_lies (boxes_held h) hl
theorem len_sizes:∀ l:List Tm,l.length≤sizes l
 | []=>by simp
 | t::r=>by have:=len_sizes r;have:=t.size_eq;simp only [sizes,List.length_cons];omega
theorem size_mem:∀ (l:List Tm) (x:Tm),x ∈ l→x.size≤sizes l
 | t::r,x,h=>by
  simp only [sizes]
  rcases List.mem_cons.1 h with rfl | h
  ·omega
  ·have:=size_mem r x h;omega
theorem under_term:∃ d,Try.prog.underlying 24=some d∧(match d with | .struct _ | .array _ _=>true | _=>false)=true:=by
 have h:(Try.prog.underlying 24).map (fun d=>match d with | .struct _ | .array _ _=>true | _=>false)=some true:=by kernel_rfl
 cases e:Try.prog.underlying 24 with
 | none=>rw [e] at h;cases h
 | some d=>rw [e] at h;exact⟨d,rfl,Option.some.inj h⟩
theorem size_term:(Try.prog.info? 24).map (·.size)=some 5:=by kernel_rfl
end Go.Proofs.Ytpdinlejmlbbeaa

namespace Go.Proofs.Ytpdinlejmlbbeaa
open Go.RowKit
theorem Shr.refl {P:Nat→Prop} {w:World} (h:Free P w):Shr P w w:=⟨h,Nat.le_refl _,⟨rfl,rfl,rfl⟩,fun _ _ _=>rfl,fun l _ hl=>⟨l,rfl,Nat.le_refl _,hl⟩⟩
theorem open_unfrozen {w:World} {b:Nat} {cs:Array Value} {T:TypeId} (h:w.heap[b]? =some (.cells cs T (0,0))) (q:Nat):w.frozen? ⟨b,q,none⟩=false:=by
 unfold World.frozen?
 rw [show(⟨b,q,none⟩:Addr).block=b from rfl,h];rfl
end Go.Proofs.Ytpdinlejmlbbeaa

namespace Go.Proofs.Ytpdinlejmlbbeaa
open Go.RowKit
theorem cell_lat {w wx:World} {a:Addr} {v:Value} (hb:Below w.heap.size w wx) (h:w.cell? a=some v):wx.cell? a=some v:=(hb.cell (World.block_lt_of_cell? _ _ h)).trans h
theorem boxes_under {w w':World} {t:Tm} {s:Value} (h:Boxes w t s w'):Below w.heap.size w w':=held_below (boxes_held h)
abbrev zeroObj:Obj:=.cells #[.int .i64 0,.int .i64 0,.int .i64 0,.int .i64 0,.slice none 0 0] 24
def Desk (w:World) (t u:Tm) (s v:Value) (w':World):Prop:=Below (w.heap.size+3) (((w.alloc (boxOf t s)).alloc zeroObj).alloc (boxOf u v)) w'
theorem heap_three (w:World) (a b c:Obj):(((w.alloc a).alloc b).alloc c).heap[w.heap.size]? =some a∧(((w.alloc a).alloc b).alloc c).heap[w.heap.size+1]? =some b∧(((w.alloc a).alloc b).alloc c).heap[w.heap.size+2]? =some c∧∀ k,k<w.heap.size→(((w.alloc a).alloc b).alloc c).heap[k]? =w.heap[k]?:=by
 refine⟨?_,?_,?_,fun k hk=>?_⟩
 ·rw [Below.heap_alloc _ _ _ (by simp;omega),Below.heap_alloc _ _ _ (by simp),alloc_new]
 ·rw [Below.heap_alloc _ _ _ (by simp)]
  have:=alloc_new (w.alloc a) b
  simpa using this
 ·have:=alloc_new ((w.alloc a).alloc b) c
  simpa using this
 ·rw [Below.heap_alloc _ _ _ (by simp;omega),Below.heap_alloc _ _ _ (by simp;omega),Below.heap_alloc _ _ _ hk]
theorem desk_blocks {w w':World} {t u:Tm} {s v:Value} (h:Desk w t u s v w'):w'.heap[w.heap.size]? =some (boxOf t s)∧w'.heap[w.heap.size+1]? =some zeroObj∧w'.heap[w.heap.size+2]? =some (boxOf u v):=by
 obtain⟨h0,h1,h2,-⟩:=heap_three w (boxOf t s) zeroObj (boxOf u v)
 exact⟨by rw [Below.block h _ (by omega)];exact h0,by rw [Below.block h _ (by omega)];exact h1,by rw [Below.block h _ (by omega)];exact h2⟩
theorem five_cells {w:World} {g:Nat} {v0 v1 v2 v3 v4:Value} {T:TypeId} (h:w.heap[g]? =some (.cells #[v0,v1,v2,v3,v4] T (0,0))) :
 w.cell? ⟨g,0,none⟩=some v0∧w.cell? ⟨g,1,none⟩=some v1∧w.cell? ⟨g,2,none⟩=some v2∧w.cell? ⟨g,3,none⟩=some v3∧w.cell? ⟨g,4,none⟩=some v4:=by
 refine⟨?_,?_,?_,?_,?_⟩<;>(rw [cell_of_row w g _ _ _ _ h];rfl)
theorem five_free {w:World} {g:Nat} {cs:Array Value} {T:TypeId} (h:w.heap[g]? =some (.cells cs T (0,0))) :
 w.frozen? ⟨g,0,none⟩=false∧w.frozen? ⟨g,1,none⟩=false∧w.frozen? ⟨g,2,none⟩=false∧w.frozen? ⟨g,3,none⟩=false∧w.frozen? ⟨g,4,none⟩=false :=
 ⟨open_unfrozen h _,open_unfrozen h _,open_unfrozen h _,open_unfrozen h _,open_unfrozen h _⟩
theorem desk_start (w:World) (t u:Tm) (s v:Value):Desk w t u s v (((w.alloc (.cells #[.int .i64 t.k,.int .i64 t.i,.int .i64 t.j,.int .i64 t.n,s] 24)).alloc (.cells #[.int .i64 0,.int .i64 0,.int .i64 0,.int .i64 0,.slice none 0 0] 24)).alloc (.cells #[.int .i64 u.k,.int .i64 u.i,.int .i64 u.j,.int .i64 u.n,v] 24)):=Below.refl _ _
theorem desk_under {w w':World} {t u:Tm} {s v:Value} (h:Desk w t u s v w'):Below w.heap.size w w' :=
 ((((Below.refl _ _).alloc (Nat.le_refl _) _).alloc (by simp) _).alloc (by simp;omega) _).trans (h.mono (by omega))
theorem desk_size {w w':World} {t u:Tm} {s v:Value} (h:Desk w t u s v w'):w.heap.size+3≤w'.heap.size:=by have:=Below.size h;simpa using this
theorem desk_later {w w1 w2:World} {t u:Tm} {s v:Value} (h:Desk w t u s v w1) (hb:Below w1.heap.size w1 w2):Desk w t u s v w2:=below_call h hb (by have:=desk_size h;omega)
theorem desk_trans {w w1 w2:World} {t u:Tm} {s v:Value} (h:Desk w t u s v w1) (hb:Below (w.heap.size+3) w1 w2):Desk w t u s v w2:=Below.trans h hb
theorem desk_set {w w1:World} {t u:Tm} {s v v':Value} (h:Desk w t u s v w1):Desk w t u s v' (w1.setCell ⟨w.heap.size+2,4,none⟩ v'):=by
 obtain⟨h0,h1,h2,h3⟩:=heap_three w (boxOf t s) zeroObj (boxOf u v')
 obtain⟨g0,g1,g2⟩:=desk_blocks h
 refine⟨(Below.os h).trans rfl,(Below.tape h).trans rfl,(Below.output h).trans rfl,by have:=desk_size h;simp [World.setCell];omega,fun k hk=>?_⟩
 by_cases e2:k=w.heap.size+2
 ·subst e2
  rw [h2,heap_setCell_same _ _ _ _ _ _ g2];rfl
 ·rw [Below.heap_setCell _ _ _ _ (by exact e2)]
  by_cases e1:k=w.heap.size+1
  ·subst e1;rw [h1,g1]
  ·by_cases e0:k=w.heap.size
   ·subst e0;rw [h0,g0]
   ·rw [h3 k (by omega),(desk_under h).block k (by omega)]
theorem desk_put {w w1:World} {t u:Tm} {s v:Value} (h:Desk w t u s v w1) {g:Nat} (hg:w.heap.size+3≤g) (o:Nat) (x:Tm) (sx:Value):Desk w t u s v (put5 w1 g o x sx) :=
 Below.trans h ⟨(put5_rest _ _ _ _ _).1,(put5_rest _ _ _ _ _).2.1,(put5_rest _ _ _ _ _).2.2,by rw [put5_size];exact Nat.le_refl _,fun k hk=>put5_other _ _ _ _ _ (by omega)⟩
theorem cells5_zeros:∀ n:Nat,(cells5 (List.replicate n (Tm.zero,Value.slice none 0 0)))=(madeCells #[.int .i64 0,.int .i64 0,.int .i64 0,.int .i64 0,.slice none 0 0] (n * 5)).toList:=by
 intro n
 apply List.ext_getElem?
 intro j
 by_cases hj:j<n * 5
 ·have h5:j % 5<5:=Nat.mod_lt _ (by omega)
  have hd:j / 5<n:=by omega
  have e:j=j / 5 * 5+j % 5:=by omega
  have h1:=cells5_get (List.replicate n (Tm.zero,Value.slice none 0 0)) (j / 5) (by simpa using hd) (j % 5) h5
  rw [←e] at h1
  rw [h1]
  simp only [List.getElem_replicate]
  have hz:(madeCells #[Value.int .i64 0,.int .i64 0,.int .i64 0,.int .i64 0,.slice none 0 0] (n * 5)).toList[j]? =some (#[Value.int .i64 0,.int .i64 0,.int .i64 0,.int .i64 0,.slice none 0 0][j % 5]!):=by simp [madeCells,hj]
  rw [hz]
  generalize j % 5=q at h5
  match q,h5 with
  | 0,_=>rfl
  | 1,_=>rfl
  | 2,_=>rfl
  | 3,_=>rfl
  | 4,_=>rfl
 ·rw [List.getElem?_eq_none (by rw [cells5_length];simp;omega),List.getElem?_eq_none (by simp [madeCells];omega)]
theorem zero_fine:Tm.zero.fine:=by simp [Tm.zero,Tm.fine,I64,Tm.k,Tm.i,Tm.j,Tm.n]
theorem full_made {B:Nat} {w:World} {g n:Nat} (h:w.ownsRow B 24 5 (.slice (some ⟨g,0,none⟩) n n) n (madeCells #[.int .i64 0,.int .i64 0,.int .i64 0,.int .i64 0,.slice none 0 0] (n * 5)).toList) :
 Full B w g (List.replicate n (Tm.zero,.slice none 0 0)):=by
 rw [←cells5_zeros] at h
 have hb:B≤g∧∃ cs,w.heap[g]? =some (.cells cs 24 (0,0)):=by
  obtain⟨-,⟨h1,-⟩ | ⟨g',cap,cur,h1,h2,h3,-⟩⟩:=h
  ·cases h1
  ·obtain rfl:g=g':=by simp only [Value.slice.injEq,Option.some.injEq,Addr.mk.injEq] at h1;exact h1.1.1
   exact⟨h2,cur,h3⟩
 refine⟨hb.1,hb.2,fun i hi=>?_,fun p hp=>?_,fun p hp=>?_⟩
 ·have cellq:∀ q,q<5→w.cell? ⟨g,i * 5+q,none⟩=[Value.int .i64 ((List.replicate n (Tm.zero,Value.slice none 0 0))[i]).1.k,.int .i64 ((List.replicate n (Tm.zero,Value.slice none 0 0))[i]).1.i,.int .i64 ((List.replicate n (Tm.zero,Value.slice none 0 0))[i]).1.j,.int .i64 ((List.replicate n (Tm.zero,Value.slice none 0 0))[i]).1.n,((List.replicate n (Tm.zero,Value.slice none 0 0))[i]).2][q]?:=fun q hq=>by
   rw [h.cellAt (i * 5+q) (by simp at hi;omega)];exact cells5_get _ i hi q hq
  exact⟨cellq 0 (by omega),cellq 1 (by omega),cellq 2 (by omega),cellq 3 (by omega),cellq 4 (by omega)⟩
 ·rw [(List.mem_replicate.1 hp).2];exact zero_fine
 ·rw [(List.mem_replicate.1 hp).2];exact liesP_nil _ _
theorem Full.below {B g b o:Nat} {w:World} {xs:List (Tm × Value)} (h:Full B w g xs) (hb:b<B) (v:Value):Full B (w.setCell ⟨b,o,none⟩ v) g xs:=by
 have hg:=h.above
 have hk:∀ b',B≤b'→(w.setCell ⟨b,o,none⟩ v).heap[b']? =w.heap[b']?:=fun b' hb'=>Below.heap_setCell _ _ _ _ (by show b'≠b;omega)
 exact⟨hg,by rw [hk g hg];exact h.open',fun i hi=>(h.node i hi).same (hk g hg),h.fine,fun p hp=>(h.kids p hp).keep (fun b' hb' _=>hk b' hb'.1.1) (fun b' hb' _=>⟨hb'.1.same (hk b' hb'.1.1),hb'.2⟩)⟩
theorem held_and {w w':World} {t:Tm} {s v:Value} {p:Addr} (h:Held w t s w') (hp:w.cell? p=some v):Held w t s w'∧w'.cell? p=some v∧w'.cell? ⟨w.heap.size,0,none⟩=some (.int .i64 t.k)∧w'.cell? ⟨w.heap.size,1,none⟩=some (.int .i64 t.i)∧w'.cell? ⟨w.heap.size,2,none⟩=some (.int .i64 t.j)∧w'.cell? ⟨w.heap.size,3,none⟩=some (.int .i64 t.n)∧w'.cell? ⟨w.heap.size,4,none⟩=some s :=
 ⟨h,cell_lat (held_below h) hp,held_cells h⟩
theorem held_alloc {w w1:World} {t:Tm} {s:Value} (h:Held w t s w1) (o:Obj):Held w t s (w1.alloc o):=Below.alloc h (by have:=Below.size h;simpa using this) o
theorem zero_blocks_new {wr wn:World} {A:Obj} (h:Below ((wr.alloc A).alloc zeroObj).drew.heap.size ((wr.alloc A).alloc zeroObj).drew wn):wn.heap[wr.heap.size+1]? =some zeroObj:=by
 have hN:((wr.alloc A).alloc zeroObj).heap[wr.heap.size+1]? =some zeroObj:=heap_alloc2_new wr A zeroObj
 have hb:=h.block (wr.heap.size+1) (by have:=(Array.getElem?_eq_some_iff.1 hN).1;exact this)
 exact hb.trans hN
theorem below_from {B:Nat} {w w':World} (h:Below w.heap.size w w') (hB:B≤w.heap.size):Below B w w':=h.mono hB
theorem held_five {w w1:World} {t:Tm} {s:Value} (h:Held w t s w1) (v0 v1 v2 v3 v4:Value):Held w t s (((((w1.setCell ⟨w.heap.size+1,0,none⟩ v0).setCell ⟨w.heap.size+1,1,none⟩ v1).setCell ⟨w.heap.size+1,2,none⟩ v2).setCell ⟨w.heap.size+1,3,none⟩ v3).setCell ⟨w.heap.size+1,4,none⟩ v4) :=
 held_set (held_set (held_set (held_set (held_set h (Nat.le_refl _) _) (Nat.le_refl _) _) (Nat.le_refl _) _) (Nat.le_refl _) _) (Nat.le_refl _) _
theorem liesP_five {N:Nat} {w:World} {l:List Tm} {s:Value} (h:LiesP w (Own (N+2) w) l s) (v0 v1 v2 v3 v4:Value) :
 LiesP (((((w.setCell ⟨N+1,0,none⟩ v0).setCell ⟨N+1,1,none⟩ v1).setCell ⟨N+1,2,none⟩ v2).setCell ⟨N+1,3,none⟩ v3).setCell ⟨N+1,4,none⟩ v4) (Own N (((((w.setCell ⟨N+1,0,none⟩ v0).setCell ⟨N+1,1,none⟩ v1).setCell ⟨N+1,2,none⟩ v2).setCell ⟨N+1,3,none⟩ v3).setCell ⟨N+1,4,none⟩ v4)) l s:=by
 have hb:∀ b,N+2≤b→(((((w.setCell ⟨N+1,0,none⟩ v0).setCell ⟨N+1,1,none⟩ v1).setCell ⟨N+1,2,none⟩ v2).setCell ⟨N+1,3,none⟩ v3).setCell ⟨N+1,4,none⟩ v4).heap[b]? =w.heap[b]?:=fun b hb=>by
  have hne:b≠N+1:=by omega
  repeat rw [Below.heap_setCell _ _ _ _ (by exact hne)]
 exact h.keep (fun b hp _=>hb b hp.1) (fun b hp _=>(hp.from (by omega)).same (hb b hp.1))
theorem take_set_next {α:Type} (l:List α) (q:Nat) (x:α) (h:q<l.length):(l.set q x).take (q+1)=l.take q++[x]:=by
 rw [List.take_succ_eq_append_getElem (by simpa using h),List.getElem_set_self,List.take_set_of_le (Nat.le_refl _)]
theorem five_lies {N n:Nat} {w:World} {l:List Tm} {m:Nat} (h:LiesP w (Own (N+3) w) l (.slice (some ⟨N+3,0,none⟩) m n)) (hm:m=n) (v0 v1 v2 v3 v4:Value) :
 LiesP (((((w.setCell ⟨N+1,0,none⟩ v0).setCell ⟨N+1,1,none⟩ v1).setCell ⟨N+1,2,none⟩ v2).setCell ⟨N+1,3,none⟩ v3).setCell ⟨N+1,4,none⟩ v4) (Own N (((((w.setCell ⟨N+1,0,none⟩ v0).setCell ⟨N+1,1,none⟩ v1).setCell ⟨N+1,2,none⟩ v2).setCell ⟨N+1,3,none⟩ v3).setCell ⟨N+1,4,none⟩ v4)) l (.slice (some ⟨N+3,0,none⟩) n n):=by
 subst hm
 exact liesP_five (h.from (by omega)) v0 v1 v2 v3 v4
theorem right_each (f:Int→Int→Option Int) (hf:∀ v b w,0≤v→v≤2147483647→f v b=some w→0≤w∧w≤2147483647) (t:Tm) (b:Int) (u:Tm) (hr:t.rightB=true) (h:t.each f b=some u):u.rightB=true:=by
 obtain⟨h1,h2,-⟩:=each_keeps f hf t b u hr h
 unfold Tm.rightB at hr ⊢;rw [h1,h2];exact hr
def GivesNone (w:World) (e:Ending) (w':World):Prop:=(∃ z:Tm,e=.returned (.tuple #[tv z (.slice none 0 0),.bool false]))∧Below w.heap.size w w'
def GivesSome (u:Tm) (w:World) (e:Ending) (w':World):Prop:=(∃ s',e=.returned (.tuple #[tv u s',.bool true])∧LiesP w' (Own w.heap.size w') u.kids s')∧Below w.heap.size w w'
theorem Gives.none {w w':World} {e:Ending} (h:Gives none w e w'):GivesNone w e w':=by
 obtain⟨hb,⟨u,s',h1,-⟩ | ⟨z,-,-,h2⟩⟩:=h
 ·cases h1
 ·exact⟨⟨z,h2⟩,hb⟩
theorem Gives.some {u:Tm} {w w':World} {e:Ending} (h:Gives (some u) w e w'):GivesSome u w e w':=by
 obtain⟨hb,⟨u',s',h1,h2,h3⟩ | ⟨z,h1,-⟩⟩:=h
 ·cases h1;exact⟨⟨s',h2,h3⟩,hb⟩
 ·cases h1
end Go.Proofs.Ytpdinlejmlbbeaa

namespace Go.Proofs.Ytpdinlejmlbbeaa
open Go.RowKit
abbrev five (w:World) (g:Nat) (v0 v1 v2 v3 v4:Value):World:=((((w.setCell ⟨g,0,none⟩ v0).setCell ⟨g,1,none⟩ v1).setCell ⟨g,2,none⟩ v2).setCell ⟨g,3,none⟩ v3).setCell ⟨g,4,none⟩ v4
theorem five_size (w:World) (g:Nat) (v0 v1 v2 v3 v4:Value):(five w g v0 v1 v2 v3 v4).heap.size=w.heap.size:=by simp [five,World.setCell]
theorem five_other (w:World) (g:Nat) (v0 v1 v2 v3 v4:Value) {b:Nat} (h:b≠g):(five w g v0 v1 v2 v3 v4).heap[b]? =w.heap[b]?:=by
 unfold five;repeat rw [Below.heap_setCell _ _ _ _ (by exact h)]
theorem five_alloc {w:World} {g:Nat} {T:TypeId} {z0 z1 z2 z3 z4:Value} (h:w.heap[g]? =some (.cells #[z0,z1,z2,z3,z4] T (0,0))) (v0 v1 v2 v3 v4:Value) (X:Obj):((five w g v0 v1 v2 v3 v4).alloc X).heap[g]? =some (.cells #[v0,v1,v2,v3,v4] T (0,0)):=by
 rw [Below.heap_alloc _ _ _ (by rw [five_size];exact(Array.getElem?_eq_some_iff.1 h).1)]
 exact five_set h
theorem below_five {B:Nat} {w w1:World} (h:Below B w w1) {g:Nat} (hg:B≤g) (v0 v1 v2 v3 v4:Value):Below B w (five w1 g v0 v1 v2 v3 v4) :=
 ((((h.setCell hg _).setCell hg _).setCell hg _).setCell hg _).setCell hg _
theorem below_five_alloc {B:Nat} {w w1:World} (h:Below B w w1) (hB:B≤w1.heap.size) {g:Nat} (hg:B≤g) (v0 v1 v2 v3 v4:Value) (X:Obj):Below B w ((five w1 g v0 v1 v2 v3 v4).alloc X) :=
 (below_five h hg v0 v1 v2 v3 v4).alloc (by rw [five_size];exact hB) X
theorem liesP_fives {B N g:Nat} {w:World} {l:List Tm} {s:Value} (h:LiesP w (Own B w) l s) (hg:g<B) (hN:N≤B) (v0 v1 v2 v3 v4:Value):LiesP (five w g v0 v1 v2 v3 v4) (Own N (five w g v0 v1 v2 v3 v4)) l s :=
 h.keep (fun b hp _=>five_other w g v0 v1 v2 v3 v4 (by have:=hp.1;omega)) (fun b hp _=>(hp.from hN).same (five_other w g v0 v1 v2 v3 v4 (by have:=hp.1;omega)))
theorem liesP_fives_alloc {B N g:Nat} {w:World} {l:List Tm} {s:Value} (h:LiesP w (Own B w) l s) (hg:g<B) (hN:N≤B) (v0 v1 v2 v3 v4:Value) (X:Obj):LiesP ((five w g v0 v1 v2 v3 v4).alloc X) (Own N ((five w g v0 v1 v2 v3 v4).alloc X)) l s :=
 (liesP_fives h hg hN v0 v1 v2 v3 v4).later ((Below.refl _ _).alloc (Nat.le_refl _) _)
theorem liesP_set {B N g o:Nat} {w:World} {l:List Tm} {s:Value} (h:LiesP w (Own B w) l s) (hg:g<B) (hN:N≤B) (v:Value):LiesP (w.setCell ⟨g,o,none⟩ v) (Own N (w.setCell ⟨g,o,none⟩ v)) l s :=
 h.keep (fun b hp _=>Below.heap_setCell _ _ _ _ (by show b≠g;have:=hp.1;omega)) (fun b hp _=>(hp.from hN).same (Below.heap_setCell _ _ _ _ (by show b≠g;have:=hp.1;omega)))
theorem below_three (w:World) (a b c:Obj):Below w.heap.size w (((w.alloc a).alloc b).alloc c):=(((Below.refl _ _).alloc (Nat.le_refl _) _).alloc (by simp) _).alloc (by simp<;>omega) _
theorem news_new2 (w:World) (o:Obj) (t:Tm) (s:Value) (T:TypeId):∀ j u,(cells5 [(t,s)])[j]? =some u→((w.alloc o).alloc (.cells #[.int .i64 t.k,.int .i64 t.i,.int .i64 t.j,.int .i64 t.n,s] T)).cell? ((⟨w.heap.size+1,0,none⟩:Addr).add j)=some u:=by
 have:=news_new (w.alloc o) t s T
 simpa using this
theorem push_after {w wr w2 w3:World} {t t':Tm} {s v vl:Value} {ps:List (Tm × Value)} {u:Tm} {s2:Value} {g cap:Nat} (hd:Desk w t t' s vl wr) (h:Made (w.heap.size+3) wr v ps) (hf:u.fine) (hb2:Below wr.heap.size wr w2) (hk:LiesP w2 (Own wr.heap.size w2) u.kids s2) (o o':Obj)
 (hown:w3.ownsRow (w.heap.size+3) 24 5 (.slice (some ⟨g,0,none⟩) (ps.length+1) cap) (ps.length+1) (cells5 ps++cells5 [(u,s2)])) (hgrow:((w2.alloc o).alloc o').grownBy w3 v.ownBlock) (hat:v.ownBlock=some g∨g=w2.heap.size+1+1) :
 Made (w.heap.size+3) w3 (.slice (some ⟨g,0,none⟩) (ps.length+1) cap) (ps++[(u,s2)])∧Desk w t t' s vl w3:=by
 have hb3:Below wr.heap.size wr (w2.alloc o):=hb2.alloc hb2.size o
 have hk3:LiesP (w2.alloc o) (Own wr.heap.size (w2.alloc o)) u.kids s2:=hk.later ((Below.refl _ _).alloc (Nat.le_refl _) _)
 exact⟨made_push h hf (desk_size hd) hb3 hk3 o' hown hgrow (by simpa using hat),desk_trans hd (below_push h (Below.refl _ _) (desk_size hd) hb3 o' hgrow)⟩
theorem push_once {w wr w2 w3:World} {t t':Tm} {s v vl:Value} {ps:List (Tm × Value)} {u:Tm} {s2:Value} {g cap:Nat} (hd:Desk w t t' s vl wr) (h:Made (w.heap.size+3) wr v ps) (hf:u.fine) (hb2:Below wr.heap.size wr w2) (hk:LiesP w2 (Own wr.heap.size w2) u.kids s2) (o:Obj)
 (hown:w3.ownsRow (w.heap.size+3) 24 5 (.slice (some ⟨g,0,none⟩) (ps.length+1) cap) (ps.length+1) (cells5 ps++cells5 [(u,s2)])) (hgrow:(w2.alloc o).grownBy w3 v.ownBlock) (hat:v.ownBlock=some g∨g=(w2.alloc o).heap.size) :
 Made (w.heap.size+3) w3 (.slice (some ⟨g,0,none⟩) (ps.length+1) cap) (ps++[(u,s2)])∧Desk w t t' s vl w3 :=
 ⟨made_push h hf (desk_size hd) hb2 hk o hown hgrow (by simpa using hat),desk_trans hd (below_push h (Below.refl _ _) (desk_size hd) hb2 o hgrow)⟩
theorem one5 (t:Tm) (s:Value) (hs:s.oneCell'=true:=by rfl):∀ v ∈ cells5 [(t,s)],v.oneCell'=true:=by
 intro v hv;simp [cells5] at hv;rcases hv with rfl | rfl | rfl | rfl | rfl
 ·rfl
 ·rfl
 ·rfl
 ·rfl
 ·exact hs
def GivesZ (r:Option Tm) (w:World) (e:Ending) (w':World):Prop:=Below w.heap.size w w' ∧
 ((∃ u s',r=some u∧e=.returned (.tuple #[tv u s',.bool true])∧LiesP w' (Own w.heap.size w') u.kids s')∨(r=none∧e=.returned (.tuple #[tv Tm.zero (.slice none 0 0),.bool false])))
theorem GivesZ.none {w w':World} {e:Ending} (h:GivesZ none w e w'):e=.returned (.tuple #[tv Tm.zero (.slice none 0 0),.bool false])∧Below w.heap.size w w':=by
 obtain⟨hb,⟨u,s',h1,-⟩ | ⟨-,h2⟩⟩:=h
 ·cases h1
 ·exact⟨h2,hb⟩
theorem GivesZ.some {u:Tm} {w w':World} {e:Ending} (h:GivesZ (some u) w e w'):GivesSome u w e w':=by
 obtain⟨hb,⟨u',s',h1,h2,h3⟩ | ⟨h1,-⟩⟩:=h
 ·cases h1;exact⟨⟨s',h2,h3⟩,hb⟩
 ·cases h1
theorem above3 (N:Nat):N≤N+3:=by omega
end Go.Proofs.Ytpdinlejmlbbeaa

namespace Go.Proofs.Ytpdinlejmlbbeaa
open Go.RowKit
def Kept (w w':World):Prop:=Below w.heap.size w w'
theorem kept_start (w:World):Kept w w:=Below.refl _ _
theorem kept_drew {w w1:World} (h:Kept w w1):Kept w w1.drew:=Below.drew h
theorem kept_call {w w1 w2:World} (h:Kept w w1) (hb:Below w1.heap.size w1 w2):Kept w w2:=below_call h hb (Below.size h)
theorem kept_alloc {w w1:World} (h:Kept w w1) (o:Obj):Kept w (w1.alloc o):=Below.alloc h (Below.size h) o
theorem kept_lies {w w1:World} (h:Kept w w1) {l:List Tm} {s:Value} (hl:Lies w l s):Lies w1 l s:=hl.keep h
theorem keep_block {B n:Nat} {w w':World} {o:Obj} (hb:Below B w w') (hn:n<B) (h:w.heap[n]? =some o):w'.heap[n]? =some o:=by rw [hb.block n hn];exact h
theorem block_lt {w:World} {n:Nat} {o:Obj} (h:w.heap[n]? =some o):n<w.heap.size:=(Array.getElem?_eq_some_iff.1 h).1
theorem kept_boxes1 {w w':World} {b0:Nat} {v00 v01 v02 v03 v04:Value} (h:Kept w w') (H:w.cell? ⟨b0,0,none⟩=some v00∧w.cell? ⟨b0,1,none⟩=some v01∧w.cell? ⟨b0,2,none⟩=some v02∧w.cell? ⟨b0,3,none⟩=some v03∧w.cell? ⟨b0,4,none⟩=some v04):Kept w w'∧w'.cell? ⟨b0,0,none⟩=some v00∧w'.cell? ⟨b0,1,none⟩=some v01∧w'.cell? ⟨b0,2,none⟩=some v02∧w'.cell? ⟨b0,3,none⟩=some v03∧w'.cell? ⟨b0,4,none⟩=some v04:=by
 obtain⟨c00,c01,c02,c03,c04⟩:=H
 exact⟨h,cell_lat h c00,cell_lat h c01,cell_lat h c02,cell_lat h c03,cell_lat h c04⟩
end Go.Proofs.Ytpdinlejmlbbeaa

namespace Go.Proofs.Ytpdinlejmlbbeaa
open Go
theorem take_at {P:Program} {ops:Array Oper} {Q:Exit→Act→World→Prop} {md:Region.Mode} {S:World→Prop} (i d:Nat) (oi:Oper) {v:Value} {fuel:Nat} {listed:Array Bool} {a:Act} {w:World} (hy:YieldsIf P ops S oi v a)
 (h:wpAnyH P md ops Q S fuel (listed.setIfInBounds i true) (a.put (some d) v) w)
 (hi:ops[i]? =some oi:=by rfl) (hd:oi.dst=some d:=by rfl)
 (hs:Region.noSelect ops=true:=by kernel_rfl) (hf:Region.free md ops listed i=true:=by kernel_rfl) (hr:(Region.ready md ops listed).contains i=true:=by kernel_rfl)
 (hQ:∀ c a w,Q (.panic c) (a.put (some d) v) w→Q (.panic c) a w:=by exact fun _ _ _ h=>h) (hS:S w:=by assumption):wpAnyH P md ops Q S (fuel+1) listed a w:=by
 rw [←hd] at hQ h
 exact wpAnyH_take hi hs hf hr hQ hy hS h
end Go.Proofs.Ytpdinlejmlbbeaa

namespace Go.Proofs.Ytpdinlejmlbbeaa
open Go.RowKit
structure Jd where
 eq:Bool
 u:Tm
 v:Tm
 a:Tm
 i:Int
def Jd.fine (j:Jd):Prop:=j.u.fine∧j.v.fine∧j.a.fine∧I64 j.i
def JLies (w:World) (j:Jd) (su sv sa:Value):Prop:=Lies w j.u.kids su∧Lies w j.v.kids sv∧Lies w j.a.kids sa
theorem JLies.keep {w w':World} {j:Jd} {su sv sa:Value} (h:JLies w j su sv sa) (hb:Below w.heap.size w w'):JLies w' j su sv sa:=⟨h.1.keep hb,h.2.1.keep hb,h.2.2.keep hb⟩
def JBox (w:World) (b:Nat) (j:Jd) (su sv sa:Value):Prop:=w.cell? ⟨b,0,none⟩=some (.bool j.eq)∧w.cell? ⟨b,1,none⟩=some (.int .i64 j.u.k)∧w.cell? ⟨b,2,none⟩=some (.int .i64 j.u.i)∧w.cell? ⟨b,3,none⟩=some (.int .i64 j.u.j)∧w.cell? ⟨b,4,none⟩=some (.int .i64 j.u.n)∧w.cell? ⟨b,5,none⟩=some (su)∧w.cell? ⟨b,6,none⟩=some (.int .i64 j.v.k)∧w.cell? ⟨b,7,none⟩=some (.int .i64 j.v.i)∧w.cell? ⟨b,8,none⟩=some (.int .i64 j.v.j)∧w.cell? ⟨b,9,none⟩=some (.int .i64 j.v.n)∧w.cell? ⟨b,10,none⟩=some (sv)∧w.cell? ⟨b,11,none⟩=some (.int .i64 j.a.k)∧w.cell? ⟨b,12,none⟩=some (.int .i64 j.a.i)∧w.cell? ⟨b,13,none⟩=some (.int .i64 j.a.j)∧w.cell? ⟨b,14,none⟩=some (.int .i64 j.a.n)∧w.cell? ⟨b,15,none⟩=some (sa)∧w.cell? ⟨b,16,none⟩=some (.int .i64 j.i)
def JNode (w:World) (b o:Nat) (j:Jd) (su sv sa:Value):Prop:=w.cell? ⟨b,o,none⟩=some (.bool j.eq)∧w.cell? ⟨b,o+1,none⟩=some (.int .i64 j.u.k)∧w.cell? ⟨b,o+2,none⟩=some (.int .i64 j.u.i)∧w.cell? ⟨b,o+3,none⟩=some (.int .i64 j.u.j)∧w.cell? ⟨b,o+4,none⟩=some (.int .i64 j.u.n)∧w.cell? ⟨b,o+5,none⟩=some (su)∧w.cell? ⟨b,o+6,none⟩=some (.int .i64 j.v.k)∧w.cell? ⟨b,o+7,none⟩=some (.int .i64 j.v.i)∧w.cell? ⟨b,o+8,none⟩=some (.int .i64 j.v.j)∧w.cell? ⟨b,o+9,none⟩=some (.int .i64 j.v.n)∧w.cell? ⟨b,o+10,none⟩=some (sv)∧w.cell? ⟨b,o+11,none⟩=some (.int .i64 j.a.k)∧w.cell? ⟨b,o+12,none⟩=some (.int .i64 j.a.i)∧w.cell? ⟨b,o+13,none⟩=some (.int .i64 j.a.j)∧w.cell? ⟨b,o+14,none⟩=some (.int .i64 j.a.n)∧w.cell? ⟨b,o+15,none⟩=some (sa)∧w.cell? ⟨b,o+16,none⟩=some (.int .i64 j.i)
theorem JBox.keep {w w':World} {b:Nat} {j:Jd} {su sv sa:Value} (h:JBox w b j su sv sa) (hb:Below w.heap.size w w'):JBox w' b j su sv sa:=by
 obtain⟨x0,x1,x2,x3,x4,x5,x6,x7,x8,x9,x10,x11,x12,x13,x14,x15,x16⟩:=h
 exact⟨cell_lat hb x0,cell_lat hb x1,cell_lat hb x2,cell_lat hb x3,cell_lat hb x4,cell_lat hb x5,cell_lat hb x6,cell_lat hb x7,cell_lat hb x8,cell_lat hb x9,cell_lat hb x10,cell_lat hb x11,cell_lat hb x12,cell_lat hb x13,cell_lat hb x14,cell_lat hb x15,cell_lat hb x16⟩
theorem JNode.keep {w w':World} {b o:Nat} {j:Jd} {su sv sa:Value} (h:JNode w b o j su sv sa) (hb:Below w.heap.size w w'):JNode w' b o j su sv sa:=by
 obtain⟨x0,x1,x2,x3,x4,x5,x6,x7,x8,x9,x10,x11,x12,x13,x14,x15,x16⟩:=h
 exact⟨cell_lat hb x0,cell_lat hb x1,cell_lat hb x2,cell_lat hb x3,cell_lat hb x4,cell_lat hb x5,cell_lat hb x6,cell_lat hb x7,cell_lat hb x8,cell_lat hb x9,cell_lat hb x10,cell_lat hb x11,cell_lat hb x12,cell_lat hb x13,cell_lat hb x14,cell_lat hb x15,cell_lat hb x16⟩
theorem JNode.lt {w:World} {b o:Nat} {j:Jd} {su sv sa:Value} (h:JNode w b o j su sv sa):b<w.heap.size:=World.block_lt_of_cell? _ _ h.1
theorem JNode.same {w w':World} {b o:Nat} {j:Jd} {su sv sa:Value} (h:JNode w b o j su sv sa) (hb:w'.heap[b]? =w.heap[b]?):JNode w' b o j su sv sa:=by
 have hc:∀ q,w'.cell? ⟨b,q,none⟩=w.cell? ⟨b,q,none⟩:=fun q=>World.cell?_of_block (a:=⟨b,q,none⟩) hb
 obtain⟨x0,x1,x2,x3,x4,x5,x6,x7,x8,x9,x10,x11,x12,x13,x14,x15,x16⟩:=h
 exact⟨(hc _).trans x0,(hc _).trans x1,(hc _).trans x2,(hc _).trans x3,(hc _).trans x4,(hc _).trans x5,(hc _).trans x6,(hc _).trans x7,(hc _).trans x8,(hc _).trans x9,(hc _).trans x10,(hc _).trans x11,(hc _).trans x12,(hc _).trans x13,(hc _).trans x14,(hc _).trans x15,(hc _).trans x16⟩
end Go.Proofs.Ytpdinlejmlbbeaa

namespace Go.Proofs.Ytpdinlejmlbbeaa
open Go.RowKit
instance instJd:Inhabited (Jd × (Value × Value × Value)):=⟨(⟨false,.mk 0 0 0 0 [],.mk 0 0 0 0 [],.mk 0 0 0 0 [],0⟩,(.nilIface,.nilIface,.nilIface))⟩
structure LiesJ (w:World) (l:List Jd) (s:Value):Prop where
 out:∃ (a:Option Addr) (cap:Nat) (S:Nat→Value × Value × Value),s=.slice a l.length cap∧l.length≤cap∧cap≤maxLen∧(∀ x ∈ l,x.fine) ∧
  (∀ i (h:i<l.length),∃ b o,a=some ⟨b,o,none⟩∧JNode w b (o+i * 17) l[i] (S i).1 (S i).2.1 (S i).2.2)∧(∀ i (h:i<l.length),JLies w l[i] (S i).1 (S i).2.1 (S i).2.2)
theorem LiesJ.keep {w w':World} {l:List Jd} {s:Value} (h:LiesJ w l s) (hb:Below w.heap.size w w'):LiesJ w' l s:=by
 obtain⟨a,cap,S,hs,hc,hm,hf,hn,hk⟩:=h.out
 exact⟨a,cap,S,hs,hc,hm,hf,fun i hi=>by obtain⟨b,o,ha,hx⟩:=hn i hi;exact⟨b,o,ha,hx.keep hb⟩,fun i hi=>(hk i hi).keep hb⟩
end Go.Proofs.Ytpdinlejmlbbeaa

namespace Go.Proofs.Ytpdinlejmlbbeaa
open Go.RowKit
inductive LiesQ (w:World) (P:Nat→Prop):List Tm→Value→Prop
 | mk (l:List Tm) (a:Option Addr) (cap:Nat) (S:Nat→Value) (hc:l.length≤cap) (hm:cap≤maxLen) (hf:∀ x ∈ l,x.fine)
  (hn:∀ i (h:i<l.length),∃ b o,a=some ⟨b,o,none⟩∧P b∧Node w b (o+i * 5) l[i] (S i)) (hk:∀ i (h:i<l.length),LiesQ w P (l[i]).kids (S i)):LiesQ w P l (.slice a l.length cap)
theorem LiesQ.lies {w:World} {P:Nat→Prop} {l:List Tm} {s:Value} (h:LiesQ w P l s):Lies w l s:=by
 induction h with
 | mk l a cap S hc hm hf hn hk ih=>exact .mk l a cap S hc hm hf (fun i hi=>by obtain⟨b,o,ha,_,hx⟩:=hn i hi;exact⟨b,o,ha,hx⟩) ih
theorem Lies.q {w:World} {l:List Tm} {s:Value} (h:Lies w l s):LiesQ w (fun b=>b<w.heap.size) l s:=by
 induction h with
 | mk l a cap S hc hm hf hn hk ih=>exact .mk l a cap S hc hm hf (fun i hi=>by obtain⟨b,o,ha,hx⟩:=hn i hi;exact⟨b,o,ha,hx.lt,hx⟩) ih
theorem LiesQ.keep {w w':World} {P Q:Nat→Prop} {l:List Tm} {s:Value} (h:LiesQ w P l s) (hb:∀ b,P b→b<w.heap.size→w'.heap[b]? =w.heap[b]?) (hq:∀ b,P b→b<w.heap.size→Q b):LiesQ w' Q l s:=by
 induction h with
 | mk l a cap S hc hm hf hn hk ih =>
  exact .mk l a cap S hc hm hf (fun i hi=>by obtain⟨b,o,ha,hp,hx⟩:=hn i hi;exact⟨b,o,ha,hq b hp hx.lt,hx.same (hb b hp hx.lt)⟩) ih
theorem LiesQ.later {w w':World} {P:Nat→Prop} {l:List Tm} {s:Value} (h:LiesQ w P l s) (hb:Below w.heap.size w w'):LiesQ w' P l s:=h.keep (fun b _ hlt=>hb.block b hlt) (fun _ hp _=>hp)
theorem LiesQ.wide {w:World} {P Q:Nat→Prop} {l:List Tm} {s:Value} (h:LiesQ w P l s) (hq:∀ b,P b→Q b):LiesQ w Q l s:=h.keep (fun _ _ _=>rfl) (fun b hp _=>hq b hp)
theorem LiesQ.out {w:World} {P:Nat→Prop} {l:List Tm} {s:Value} (h:LiesQ w P l s):∃ (a:Option Addr) (cap:Nat) (S:Nat→Value),s=.slice a l.length cap∧l.length≤cap∧cap≤maxLen∧(∀ x ∈ l,x.fine) ∧
 (∀ i (h:i<l.length),∃ b o,a=some ⟨b,o,none⟩∧P b∧Node w b (o+i * 5) l[i] (S i))∧(∀ i (h:i<l.length),LiesQ w P (l[i]).kids (S i)):=by
 cases h with
 | mk l a cap S hc hm hf hn hk=>exact⟨a,cap,S,rfl,hc,hm,hf,hn,hk⟩
theorem liesQ_nil (w:World) (P:Nat→Prop):LiesQ w P [] (.slice none 0 0):=.mk [] none 0 (fun _=>.nilIface) (Nat.le_refl _) (by decide) (fun _ h=>by cases h) (fun _ h=>by cases h) (fun _ h=>by cases h)
theorem LiesP.q {w:World} {P:Nat→Prop} {l:List Tm} {s:Value} (h:LiesP w P l s):LiesQ w P l s:=by
 induction h with
 | mk l a cap S hc hm hf hn hk ih=>exact .mk l a cap S hc hm hf (fun i hi=>by obtain⟨b,ha,hp,hx⟩:=hn i hi;exact⟨b,0,ha,hp,by rw [Nat.zero_add];exact hx⟩) ih
def Far (E N b:Nat):Prop:=b<E∨N≤b
def Shares (E:Nat) (u:Tm) (w:World) (e:Ending) (w':World):Prop:=∃ s':Value,e=.returned (tv u s')∧LiesQ w' (Far E w.heap.size) u.kids s'∧Below w.heap.size w w'
structure MadeQ (E N B:Nat) (w:World) (v:Value) (ps:List (Tm × Value)):Prop where
 own:w.ownsRow B 24 5 v ps.length (cells5 ps)
 fine:∀ p ∈ ps,p.1.fine
 kids:∀ p ∈ ps,LiesQ w (fun b=>Far E N b∧v.ownBlock≠some b) p.1.kids p.2
theorem madeQ_nil (E N B:Nat) (w:World):MadeQ E N B w (.slice none 0 0) []:=⟨⟨rfl,Or.inl ⟨rfl,rfl⟩⟩,(fun _ h=>by cases h),(fun _ h=>by cases h)⟩
theorem madeQ_later {E N B:Nat} {w w':World} {v:Value} {ps:List (Tm × Value)} (h:MadeQ E N B w v ps) (hb:Below w.heap.size w w'):MadeQ E N B w' v ps:=by
 refine⟨?_,h.fine,fun p hp=>(h.kids p hp).later hb⟩
 obtain⟨h1,h2⟩:=h.own
 refine⟨h1,?_⟩
 rcases h2 with h2 | ⟨g,cap,cur,hv,hg,hh,r⟩
 ·exact Or.inl h2
 ·refine Or.inr ⟨g,cap,cur,hv,hg,?_,r⟩
  rw [hb.block g ?_];exact hh
  exact(Array.getElem?_eq_some_iff.1 hh).1
theorem madeQ_block {E N B:Nat} {w:World} {v:Value} {ps:List (Tm × Value)} (h:MadeQ E N B w v ps) {g:Nat} (hg:v.ownBlock=some g):B≤g∧g<w.heap.size:=by
 rcases h.own.2 with ⟨rfl,-⟩ | ⟨g',cap,cur,rfl,hg',hh,-⟩
 ·simp [Value.ownBlock] at hg
 ·have:=(Array.getElem?_eq_some_iff.1 hh).1
  simp [Value.ownBlock] at hg
  omega
theorem madeQ_push {E N B:Nat} {wr w2 w3:World} {v:Value} {ps:List (Tm × Value)} {u:Tm} {s2:Value} {g cap:Nat} (h:MadeQ E N B wr v ps) (hEN:E≤N) (hNB:N≤B) (hB:B≤wr.heap.size) (hf:u.fine) (hb2:Below wr.heap.size wr w2)
 (hk:LiesQ w2 (Far E wr.heap.size) u.kids s2) (o:Obj) (hown:w3.ownsRow B 24 5 (.slice (some ⟨g,0,none⟩) (ps.length+1) cap) (ps.length+1) (cells5 ps++cells5 [(u,s2)]))
 (hgrow:(w2.alloc o).grownBy w3 v.ownBlock) (hat:v.ownBlock=some g∨g=(w2.alloc o).heap.size):MadeQ E N B w3 (.slice (some ⟨g,0,none⟩) (ps.length+1) cap) (ps++[(u,s2)]):=by
 have hs2:(w2.alloc o).heap.size=w2.heap.size+1:=by simp
 have hsz:=hb2.size
 have h2:MadeQ E N B (w2.alloc o) v ps:=madeQ_later (madeQ_later h hb2) ((Below.refl _ _).alloc (Nat.le_refl _) _)
 have keep:∀ q:Tm × Value,LiesQ (w2.alloc o) (fun b=>Far E N b∧v.ownBlock≠some b) q.1.kids q.2→LiesQ w3 (fun b=>Far E N b∧(Value.slice (some ⟨g,0,none⟩) (ps.length+1) cap).ownBlock≠some b) q.1.kids q.2:=fun q hq =>
  hq.keep (fun b hb hlt=>hgrow.block b hlt (fun e=>hb.2 e.symm)) (fun b hb hlt=>⟨hb.1,by
   show some g≠some b
   rcases hat with e | e
   ·rw [←e];exact hb.2
   ·intro e';have:=Option.some.inj e';omega⟩)
 have hnew:LiesQ (w2.alloc o) (fun b=>Far E N b∧v.ownBlock≠some b) u.kids s2 :=
  (hk.later ((Below.refl _ _).alloc (Nat.le_refl _) o)).wide (fun b hb=>⟨by rcases hb with hb | hb;exact Or.inl hb;exact Or.inr (by omega),fun e=>by
    have:=madeQ_block h e
    rcases hb with hb | hb<;>omega⟩)
 refine⟨by rw [cells5_append];simpa using hown,fun q hq=>?_,fun q hq=>?_⟩
 ·rcases List.mem_append.1 hq with hq | hq
  ·exact h.fine q hq
  ·rw [List.mem_singleton.1 hq];exact hf
 ·rcases List.mem_append.1 hq with hq | hq
  ·exact keep q (h2.kids q hq)
  ·rw [List.mem_singleton.1 hq];exact keep (u,s2) hnew
theorem madeQ_above {E N B:Nat} {w:World} {v:Value} {ps:List (Tm × Value)} (h:MadeQ E N B w v ps):∀ g,v.ownBlock=some g→B≤g:=fun _ hg=>(madeQ_block h hg).1
theorem madeQ_lies {E N B:Nat} {w:World} {v:Value} {ps:List (Tm × Value)} (h:MadeQ E N B w v ps) (hNB:N≤B):LiesQ w (Far E N) (ps.map (·.1)) v:=by
 have fin:∀ x ∈ ps.map (·.1),x.fine:=fun x hx=>by obtain⟨p,hp,rfl⟩:=List.mem_map.1 hx;exact h.fine p hp
 have kid:∀ i (hi:i<ps.length),LiesQ w (Far E N) (ps[i]).1.kids (ps[i]).2:=fun i hi=>(h.kids _ (List.getElem_mem hi)).wide (fun _ hb=>hb.1)
 obtain⟨-,⟨rfl,hn⟩ | ⟨g,cap,cur,rfl,hg,hh,hnc,hcm,hsz,htk⟩⟩:=h.own
 ·obtain rfl:ps=[]:=List.eq_nil_of_length_eq_zero hn
  exact liesQ_nil _ _
 ·have:=LiesQ.mk (w:=w) (P:=Far E N) (ps.map (·.1)) (some ⟨g,0,none⟩) cap (fun i=>(ps[i]?.map (·.2)).getD (.slice none 0 0)) (by simpa using hnc) hcm fin
   (fun i hi=>by
     have hi':i<ps.length:=by simpa using hi
     refine⟨g,0,rfl,Or.inr (by omega),?_⟩
     simp only [List.getElem_map,List.getElem?_eq_getElem hi',Option.map_some,Option.getD_some,Nat.zero_add]
     have cellq:∀ q,q<5→w.cell? ⟨g,i * 5+q,none⟩=[Value.int .i64 (ps[i]).1.k,.int .i64 (ps[i]).1.i,.int .i64 (ps[i]).1.j,.int .i64 (ps[i]).1.n,(ps[i]).2][q]?:=fun q hq=>by
      rw [h.own.cellAt (i * 5+q) (by omega)];exact cells5_get ps i hi' q hq
     exact⟨cellq 0 (by omega),cellq 1 (by omega),cellq 2 (by omega),cellq 3 (by omega),cellq 4 (by omega)⟩)
   (fun i hi=>by
     have hi':i<ps.length:=by simpa using hi
     simp only [List.getElem_map,List.getElem?_eq_getElem hi',Option.map_some,Option.getD_some]
     exact kid i hi')
  simpa using this
end Go.Proofs.Ytpdinlejmlbbeaa

namespace Go.Proofs.Ytpdinlejmlbbeaa.Se
open Go Go.RowKit
inductive D15 where
 | tms (l:List Tm)
 | jds (l:List Jd)
 | ents (l:List En)
abbrev F15:=FL D15
def intOf:F15→Option Int
 | .int n | .oint n=>some n
 | _=>none
def tmsOf:F15→Option (List Tm)
 | .nil=>some []
 | .dat (.tms l)=>some l
 | _=>none
def tmOf:List F15→Option Tm
 | [k,i,j,n,l]=>match intOf k,intOf i,intOf j,intOf n,tmsOf l with
  | some k,some i,some j,some n,some l=>some (.mk k i j n l)
  | _,_,_,_,_=>none
 | _=>none
def tmF (t:Tm):List F15:=[.oint t.k,.oint t.i,.oint t.j,.oint t.n,.dat (.tms t.kids)]
def jdF (j:Jd):List F15:=.bool j.eq::(tmF j.u++(tmF j.v++(tmF j.a++[.oint j.i])))
def packT:List F15→Option (List Tm)
 | []=>some []
 | k::i::j::n::l::r=>match tmOf [k,i,j,n,l],packT r with
  | some t,some s=>some (t::s)
  | _,_=>none
 | _=>none
def re (t:Tm):Tm:=.mk t.k t.i t.j t.n t.kids
theorem re_eq (t:Tm):re t=t:=t.eta
structure LiesJQ (w:World) (P:Nat→Prop) (l:List Jd) (v:Value):Prop where
 out:∃ (a:Option Addr) (cap:Nat) (S:Nat→Value × Value × Value),v=.slice a l.length cap∧l.length≤cap∧cap≤maxLen∧(∀ x ∈ l,x.fine) ∧
  ∀ i (h:i<l.length),(∃ b o,a=some ⟨b,o,none⟩∧P b∧JNode w b (o+i * 17) l[i] (S i).1 (S i).2.1 (S i).2.2)∧LiesQ w P (l[i]).u.kids (S i).1∧LiesQ w P (l[i]).v.kids (S i).2.1∧LiesQ w P (l[i]).a.kids (S i).2.2
structure LiesEQ (w:World) (P:Nat→Prop) (l:List En) (v:Value):Prop where
 out:∃ (a:Option Addr) (cap:Nat) (S:Nat→Value),v=.slice a l.length cap∧l.length≤cap∧cap≤maxLen∧(∀ x ∈ l,x.fine) ∧
  ∀ i (h:i<l.length),(∃ b o,a=some ⟨b,o,none⟩∧P b∧ENode w b (o+i * 6) l[i] (S i))∧LiesQ w P (l[i]).a.kids (S i)
def den15 (w:World) (P:Nat→Prop):D15→Value→Prop
 | .tms l,v=>LiesQ w P l v
 | .jds l,v=>LiesJQ w P l v
 | .ents l,v=>LiesEQ w P l v
def rowOf:D15→List F15
 | .tms l=>l.flatMap tmF
 | .jds l=>l.flatMap jdF
 | .ents _=>[]
instance:Dat D15 where
 den:=den15
 len
  | .tms l=>l.length
  | .jds l=>l.length
  | .ents l=>l.length
 lit
  | .jds _=>true
  | _=>false
 peek d o n:=let c:=((rowOf d).drop o).take n;bif Nat.beq c.length n&&Nat.blt 0 n then some c else none
 pack T n ls:=bif Nat.beq T 24&&Nat.beq ls.length (5 * n) then(packT ls).map .tms else none
theorem F2.drop {α β:Type} {R:α→β→Prop}:∀ (n:Nat) {l:List α} {m:List β},F2 R l m→F2 R (l.drop n) (m.drop n)
 | 0,_,_,h=>h
 | _+1,[],[],_=>trivial
 | n+1,_::_,_::_,h=>F2.drop n h.2
theorem F2.take {α β:Type} {R:α→β→Prop}:∀ (n:Nat) {l:List α} {m:List β},F2 R l m→F2 R (l.take n) (m.take n)
 | 0,l,m,_=>by cases l<;>cases m<;>trivial
 | _+1,[],[],_=>trivial
 | n+1,_::_,_::_,h=>⟨h.1,F2.take n h.2⟩
theorem flat_get {W:Nat} (hW:0<W):∀ (L:List (List Value)) (k:Nat) {x:Value},(∀ r ∈ L,r.length=W)→L.flatten[k]? =some x→∃ i q r,k=i * W+q∧q<W∧L[i]? =some r∧r[q]? =some x
 | [],k,x,_,h=>by simp at h
 | r::L,k,x,hL,h=>by
  have hr:=hL r (List.mem_cons_self ..)
  rw [List.flatten_cons] at h
  rcases Nat.lt_or_ge k W with hk | hk
  ·rw [List.getElem?_append_left (by omega)] at h
   exact⟨0,k,r,by omega,hk,rfl,h⟩
  ·rw [List.getElem?_append_right (by omega),hr] at h
   obtain⟨i,q,r',e1,e2,e3,e4⟩:=flat_get hW L (k-W) (fun r hr=>hL r (List.mem_cons_of_mem _ hr)) h
   exact⟨i+1,q,r',by rw [Nat.add_mul];omega,e2,by simpa using e3,e4⟩
theorem flat_F2 {α β γ:Type} {R:α→β→Prop} {f:γ→List α} {g:Nat→List β}:∀ (l:List γ) (s:Nat),(∀ i (h:i<l.length),F2 R (f l[i]) (g (s+i)))→F2 R (l.flatMap f) ((List.range' s l.length).map g).flatten
 | [],_,_=>trivial
 | x::l,s,h=>by
  rw [List.flatMap_cons,List.length_cons,List.range'_succ,List.map_cons,List.flatten_cons]
  refine F2.append (by exact h 0 (by simp)) (flat_F2 l (s+1) fun i hi=>?_)
  have:=h (i+1) (by simpa using hi)
  rw [show s+1+i=s+(i+1) by omega]
  simpa using this
theorem row_peek {γ:Type} {w:World} {P:Nat→Prop} {l:List γ} {f:γ→List F15} {W b o0 o n:Nat} (hW:0<W) {g:Nat→List Value} (hg:∀ i,i<l.length→(g i).length=W) (h1:∀ i (h:i<l.length),F2 (FLDen w P) (f l[i]) (g i))
 (h2:∀ i,i<l.length→∀ q x,(g i)[q]? =some x→w.cell? ⟨b,o0+i * W+q,none⟩=some x) :
 ∃ vs,F2 (FLDen w P) (((l.flatMap f).drop o).take n) vs∧∀ i x,vs[i]? =some x→w.cell? ⟨b,o0+(o+i),none⟩=some x:=by
 have hF:F2 (FLDen w P) (l.flatMap f) ((List.range' 0 l.length).map g).flatten:=flat_F2 l 0 (fun i hi=>by rw [Nat.zero_add];exact h1 i hi)
 refine⟨_,F2.take n (F2.drop o hF),fun i x hx=>?_⟩
 have hlt:i<n:=by
  have:=(List.getElem?_eq_some_iff.1 hx).1
  rw [List.length_take] at this
  omega
 rw [List.getElem?_take_of_lt hlt,List.getElem?_drop] at hx
 obtain⟨j,q,r,e1,e2,e3,e4⟩:=flat_get hW _ (o+i) (fun r hr=>by
  obtain⟨j,hj,rfl⟩:=List.mem_map.1 hr
  exact hg j (by simp at hj;omega)) hx
 rw [List.getElem?_map] at e3
 have hj:j<l.length:=by
  refine Classical.byContradiction fun hn=>?_
  have:(List.range' 0 l.length)[j]? =none:=by simp;omega
  rw [this] at e3
  cases e3
 have:(List.range' 0 l.length)[j]? =some j:=by simp [hj]
 rw [this] at e3
 obtain rfl:=Option.some.inj e3
 have:=h2 j hj q x e4
 rw [←this]
 congr 2
 omega
theorem tmF_den {w:World} {P:Nat→Prop} {t:Tm} {s:Value} (hf:t.fine) (hk:LiesQ w P t.kids s):F2 (FLDen w P) (tmF t) [.int .i64 t.k,.int .i64 t.i,.int .i64 t.j,.int .i64 t.n,s] :=
 ⟨⟨rfl,hf.1⟩,⟨rfl,hf.2.1⟩,⟨rfl,hf.2.2.1⟩,⟨rfl,hf.2.2.2⟩,hk,trivial⟩
theorem jdF_den {w:World} {P:Nat→Prop} {j:Jd} {su sv sa:Value} (hf:j.fine) (hu:LiesQ w P j.u.kids su) (hv:LiesQ w P j.v.kids sv) (ha:LiesQ w P j.a.kids sa):F2 (FLDen w P) (jdF j) [.bool j.eq,.int .i64 j.u.k,.int .i64 j.u.i,.int .i64 j.u.j,.int .i64 j.u.n,su,.int .i64 j.v.k,.int .i64 j.v.i,.int .i64 j.v.j,.int .i64 j.v.n,sv,.int .i64 j.a.k,.int .i64 j.a.i,.int .i64 j.a.j,.int .i64 j.a.n,sa,.int .i64 j.i] :=
 ⟨rfl,⟨rfl,hf.1.1⟩,⟨rfl,hf.1.2.1⟩,⟨rfl,hf.1.2.2.1⟩,⟨rfl,hf.1.2.2.2⟩,hu,⟨rfl,hf.2.1.1⟩,⟨rfl,hf.2.1.2.1⟩,⟨rfl,hf.2.1.2.2.1⟩,⟨rfl,hf.2.1.2.2.2⟩,hv,⟨rfl,hf.2.2.1.1⟩,⟨rfl,hf.2.2.1.2.1⟩,⟨rfl,hf.2.2.1.2.2.1⟩,⟨rfl,hf.2.2.1.2.2.2⟩,ha,⟨rfl,hf.2.2.2⟩,trivial⟩
theorem tmOf_den {w:World} {P:Nat→Prop} {l:List F15} {vs:List Value} {t:Tm} (h:tmOf l=some t) (hv:F2 (FLDen w P) l vs):∃ s,vs=[.int .i64 t.k,.int .i64 t.i,.int .i64 t.j,.int .i64 t.n,s]∧t.fine∧LiesQ w P t.kids s:=by
 have hi:∀ {x:F15} {v:Value} {n:Int},intOf x=some n→FLDen w P x v→v=.int .i64 n∧I64 n:=by
  intro x v n h hd
  cases x<;>simp only [intOf] at h<;>first | (cases h;done) | (obtain rfl:=Option.some.inj h;exact hd)
 have hk:∀ {x:F15} {v:Value} {l:List Tm},tmsOf x=some l→FLDen w P x v→LiesQ w P l v:=by
  intro x v l h hd
  cases x with
  | nil =>
   obtain rfl:=Option.some.inj h
   obtain rfl:v=.slice none 0 0:=hd
   exact liesQ_nil w P
  | dat d =>
   cases d<;>simp only [tmsOf] at h<;>first | (cases h;done) | (obtain rfl:=Option.some.inj h;exact hd)
  | _=>cases h
 unfold tmOf at h
 split at h
 ·rename_i k i j n l
  match vs,hv with
  | [v1,v2,v3,v4,v5],hv =>
   obtain⟨d1,d2,d3,d4,d5,-⟩:=hv
   split at h
   ·rename_i k' i' j' n' l' e1 e2 e3 e4 e5
    obtain rfl:=Option.some.inj h
    obtain⟨rfl,f1⟩:=hi e1 d1
    obtain⟨rfl,f2⟩:=hi e2 d2
    obtain⟨rfl,f3⟩:=hi e3 d3
    obtain⟨rfl,f4⟩:=hi e4 d4
    exact⟨v5,rfl,⟨f1,f2,f3,f4⟩,hk e5 d5⟩
   ·cases h
 ·cases h
theorem packT_den {w:World} {P:Nat→Prop}:∀ {ls:List F15} {vs:List Value} {l:List Tm},packT ls=some l→F2 (FLDen w P) ls vs→ls.length=5 * l.length∧∀ i (h:i<l.length),(l[i]).fine∧∃ s,vs[i * 5]? =some (.int .i64 (l[i]).k)∧vs[i * 5+1]? =some (.int .i64 (l[i]).i)∧vs[i * 5+2]? =some (.int .i64 (l[i]).j)∧vs[i * 5+3]? =some (.int .i64 (l[i]).n)∧vs[i * 5+4]? =some s∧LiesQ w P (l[i]).kids s
 | [],vs,l,h,_=>by cases h;exact⟨rfl,fun i h=>absurd h (Nat.not_lt_zero _)⟩
 | k::i::j::n::x::r,vs,l,h,hv=>by
  simp only [packT] at h
  split at h
  ·rename_i t s e1 e2
   cases h
   match vs,hv with
   | v1::v2::v3::v4::v5::vr,hv =>
    obtain⟨d1,d2,d3,d4,d5,dr⟩:=hv
    obtain⟨h1,h2⟩:=packT_den e2 dr
    obtain⟨s5,he,hf,hk⟩:=tmOf_den (vs:=[v1,v2,v3,v4,v5]) e1 ⟨d1,d2,d3,d4,d5,trivial⟩
    obtain⟨rfl,rfl,rfl,rfl,rfl,-⟩:v1=_∧v2=_∧v3=_∧v4=_∧v5=_∧True:=by simpa using he
    refine⟨by simp only [List.length_cons];omega,fun q hq=>?_⟩
    cases q with
    | zero=>exact⟨hf,v5,rfl,rfl,rfl,rfl,rfl,hk⟩
    | succ q =>
     have:=h2 q (by simpa using hq)
     simp only [Nat.add_mul,Nat.one_mul,List.getElem_cons_succ]
     exact this
  ·cases h
 | [_],_,_,h,_=>by cases h
 | [_,_],_,_,h,_=>by cases h
 | [_,_,_],_,_,h,_=>by cases h
 | [_,_,_,_],_,_,h,_=>by cases h
end Go.Proofs.Ytpdinlejmlbbeaa.Se

namespace Go.Proofs.Ytpdinlejmlbbeaa.Se
open Go Go.RowKit
theorem liesJQ_keep {w w':World} {P Q:Nat→Prop} {l:List Jd} {v:Value} (h:LiesJQ w P l v) (hb:∀ b,P b→b<w.heap.size→w'.heap[b]? =w.heap[b]?) (hq:∀ b,P b→b<w.heap.size→Q b):LiesJQ w' Q l v:=by
 obtain⟨a,cap,S,rfl,hc,hm,hf,hn⟩:=h.out
 refine⟨a,cap,S,rfl,hc,hm,hf,fun i hi=>?_⟩
 obtain⟨⟨b,o,h1,h2,h3⟩,h4,h5,h6⟩:=hn i hi
 exact⟨⟨b,o,h1,hq b h2 h3.lt,h3.same (hb b h2 h3.lt)⟩,h4.keep hb hq,h5.keep hb hq,h6.keep hb hq⟩
theorem liesEQ_keep {w w':World} {P Q:Nat→Prop} {l:List En} {v:Value} (h:LiesEQ w P l v) (hb:∀ b,P b→b<w.heap.size→w'.heap[b]? =w.heap[b]?) (hq:∀ b,P b→b<w.heap.size→Q b):LiesEQ w' Q l v:=by
 obtain⟨a,cap,S,rfl,hc,hm,hf,hn⟩:=h.out
 refine⟨a,cap,S,rfl,hc,hm,hf,fun i hi=>?_⟩
 obtain⟨⟨b,o,h1,h2,h3⟩,h4⟩:=hn i hi
 exact⟨⟨b,o,h1,hq b h2 h3.lt,h3.same (hb b h2 h3.lt)⟩,h4.keep hb hq⟩
theorem len_ne {α β:Type} {f:α→List β} {l:List α} {o n:Nat} (hn:0<n) (h:((l.flatMap f).drop o |>.take n).length=n):0<l.length:=by
 cases l with
 | nil=>simp at h;omega
 | cons a r=>simp
instance:DatOk D15 where
 keep:=by
  intro w w' P Q d v h hb hq
  cases d with
  | tms l=>exact LiesQ.keep h hb hq
  | jds l=>exact liesJQ_keep h hb hq
  | ents l=>exact liesEQ_keep h hb hq
 slice:=by
  intro w P d v h
  cases d with
  | tms l =>
   obtain⟨a,cap,S,e,hc,hm,hf,hn,hk⟩:=LiesQ.out h
   exact⟨a,cap,e,hc,hm,fun h0=>by obtain⟨b,o,h1,-⟩:=hn 0 h0;exact⟨b,o,h1⟩⟩
  | jds l =>
   obtain⟨a,cap,S,e,hc,hm,hf,hn⟩:=LiesJQ.out h
   exact⟨a,cap,e,hc,hm,fun h0=>by obtain⟨⟨b,o,h1,-⟩,-⟩:=hn 0 h0;exact⟨b,o,h1⟩⟩
  | ents l =>
   obtain⟨a,cap,S,e,hc,hm,hf,hn⟩:=LiesEQ.out h
   exact⟨a,cap,e,hc,hm,fun h0=>by obtain⟨⟨b,o,h1,-⟩,-⟩:=hn 0 h0;exact⟨b,o,h1⟩⟩
 peek:=by
  intro w P d v o n ls h hp
  change (bif Nat.beq (((rowOf d).drop o).take n).length n&&Nat.blt 0 n then some (((rowOf d).drop o).take n) else none)=some ls at hp
  cases hb:(Nat.beq (((rowOf d).drop o).take n).length n&&Nat.blt 0 n) with
  | false=>rw [hb] at hp;cases hp
  | true =>
   rw [hb] at hp
   obtain rfl:=Option.some.inj hp
   obtain⟨hb1,hb2⟩:=Bool.and_eq_true_iff.1 hb
   have hb1:=Nat.eq_of_beq_eq_true hb1
   have hb2:0<n:=Nat.le_of_ble_eq_true hb2
   cases d with
   | tms l =>
    obtain⟨a,cap,S,rfl,hc,hm,hf,hn,hk⟩:=LiesQ.out h
    obtain⟨b,o0,rfl,-⟩:=hn 0 (len_ne hb2 hb1)
    obtain⟨vs,h1,h2⟩:=row_peek (w:=w) (P:=P) (l:=l) (f:=tmF) (W:=5) (b:=b) (o0:=o0) (o:=o) (n:=n) (by omega) (g:=fun i=>match l[i]? with | some t=>[.int .i64 t.k,.int .i64 t.i,.int .i64 t.j,.int .i64 t.n,S i] | none=>[]) (fun i hi=>by simp [hi]) (fun i hi=>by
     simp only [List.getElem?_eq_getElem hi]
     exact tmF_den (hf _ (List.getElem_mem hi)) (hk i hi)) (fun i hi q x hx=>by
     simp only [List.getElem?_eq_getElem hi] at hx
     obtain⟨b',o',e1,-,hN⟩:=hn i hi
     cases e1
     match q,hx with
     | 0,hx=>cases hx;exact hN.c0
     | 1,hx=>cases hx;exact hN.c1
     | 2,hx=>cases hx;exact hN.c2
     | 3,hx=>cases hx;exact hN.c3
     | 4,hx=>cases hx;exact hN.c4)
    exact⟨b,o0,_,cap,vs,rfl,h1,hb1,h2⟩
   | jds l =>
    obtain⟨a,cap,S,rfl,hc,hm,hf,hn⟩:=LiesJQ.out h
    obtain⟨⟨b,o0,rfl,-⟩,-⟩:=hn 0 (len_ne hb2 hb1)
    obtain⟨vs,h1,h2⟩:=row_peek (w:=w) (P:=P) (l:=l) (f:=jdF) (W:=17) (b:=b) (o0:=o0) (o:=o) (n:=n) (by omega) (g:=fun i=>match l[i]? with | some j=>[.bool j.eq,.int .i64 j.u.k,.int .i64 j.u.i,.int .i64 j.u.j,.int .i64 j.u.n,(S i).1,.int .i64 j.v.k,.int .i64 j.v.i,.int .i64 j.v.j,.int .i64 j.v.n,(S i).2.1,.int .i64 j.a.k,.int .i64 j.a.i,.int .i64 j.a.j,.int .i64 j.a.n,(S i).2.2,.int .i64 j.i] | none=>[]) (fun i hi=>by simp [hi]) (fun i hi=>by
     simp only [List.getElem?_eq_getElem hi]
     obtain⟨-,k1,k2,k3⟩:=hn i hi
     exact jdF_den (hf _ (List.getElem_mem hi)) k1 k2 k3) (fun i hi q x hx=>by
     simp only [List.getElem?_eq_getElem hi] at hx
     obtain⟨⟨b',o',e1,-,hN⟩,-⟩:=hn i hi
     cases e1
     obtain⟨c0,c1,c2,c3,c4,c5,c6,c7,c8,c9,c10,c11,c12,c13,c14,c15,c16⟩:=hN
     match q,hx with
     | 0,hx=>cases hx;exact c0
     | 1,hx=>cases hx;exact c1
     | 2,hx=>cases hx;exact c2
     | 3,hx=>cases hx;exact c3
     | 4,hx=>cases hx;exact c4
     | 5,hx=>cases hx;exact c5
     | 6,hx=>cases hx;exact c6
     | 7,hx=>cases hx;exact c7
     | 8,hx=>cases hx;exact c8
     | 9,hx=>cases hx;exact c9
     | 10,hx=>cases hx;exact c10
     | 11,hx=>cases hx;exact c11
     | 12,hx=>cases hx;exact c12
     | 13,hx=>cases hx;exact c13
     | 14,hx=>cases hx;exact c14
     | 15,hx=>cases hx;exact c15
     | 16,hx=>cases hx;exact c16)
    exact⟨b,o0,_,cap,vs,rfl,h1,hb1,h2⟩
   | ents l =>
    simp [rowOf] at hb1
    omega
 pack:=by
  intro w P T n ls vs d b o cap hp hF hc hP hn hm
  change (bif Nat.beq T 24&&Nat.beq ls.length (5 * n) then(packT ls).map D15.tms else none)=some d at hp
  cases hb:(Nat.beq T 24&&Nat.beq ls.length (5 * n)) with
  | false=>rw [hb] at hp;cases hp
  | true =>
   rw [hb] at hp
   obtain⟨-,hb2⟩:=Bool.and_eq_true_iff.1 hb
   have hb2:=Nat.eq_of_beq_eq_true hb2
   simp only [cond_true] at hp
   cases hq:packT ls with
   | none=>rw [hq] at hp;cases hp
   | some l =>
    rw [hq] at hp
    obtain rfl:=Option.some.inj hp
    obtain⟨h1,h2⟩:=packT_den hq hF
    have hl:l.length=n:=by omega
    subst hl
    refine LiesQ.mk l (some ⟨b,o,none⟩) cap (fun i=>(vs[i * 5+4]?).getD undef) hn hm (fun x hx=>?_) (fun i hi=>?_) (fun i hi=>?_)
    ·obtain⟨i,hi,rfl⟩:=List.getElem_of_mem hx
     exact(h2 i hi).1
    ·obtain⟨-,s,e0,e1,e2,e3,e4,-⟩:=h2 i hi
     refine⟨b,o,rfl,hP,?_,?_,?_,?_,?_⟩
     ·exact hc _ _ e0
     ·exact hc _ _ e1
     ·exact hc _ _ e2
     ·exact hc _ _ e3
     ·rw [e4];exact hc _ _ e4
    ·obtain⟨-,s,e0,e1,e2,e3,e4,hk⟩:=h2 i hi
     simp only [e4,Option.getD_some]
     exact hk
end Go.Proofs.Ytpdinlejmlbbeaa.Se

namespace Go.Proofs.Ytpdinlejmlbbeaa.Se
open Go Go.RowKit
theorem F2.at2 {α β:Type} {R:α→β→Prop} {a b:α} {l:List β} (h:F2 R [a,b] l):∃ x y,l=[x,y]∧R a x∧R b y:=by
 match l,h with
 | [x,y],h=>exact⟨x,y,rfl,h.1,h.2.1⟩
theorem F2.at1 {α β:Type} {R:α→β→Prop} {a:α} {l:List β} (h:F2 R [a] l):∃ x,l=[x]∧R a x:=by
 match l,h with
 | [x],h=>exact⟨x,rfl,h.1⟩
theorem F2.at3 {α β:Type} {R:α→β→Prop} {a b c:α} {l:List β} (h:F2 R [a,b,c] l):∃ x y z,l=[x,y,z]∧R a x∧R b y∧R c z:=by
 match l,h with
 | [x,y,z],h=>exact⟨x,y,z,rfl,h.1,h.2.1,h.2.2.1⟩
inductive D24 where
 | base (d:D15)
 | raw (n:Nat) (ls:List F15)
def up:F15→FL D24
 | .int n=>.int n
 | .oint n=>.oint n
 | .bool b=>.bool b
 | .obool b=>.obool b
 | .nil=>.nil
 | .dat d=>.dat (.base d)
def dn:FL D24→Option F15
 | .int n=>some (.int n)
 | .oint n=>some (.oint n)
 | .bool b=>some (.bool b)
 | .obool b=>some (.obool b)
 | .nil=>some .nil
 | .dat (.base d)=>some (.dat d)
 | .dat (.raw _ _)=>none
def dns:List (FL D24)→Option (List F15)
 | []=>some []
 | x::r=>match dn x,dns r with
  | some y,some l=>some (y::l)
  | _,_=>none
def RawRow (w:World) (P:Nat→Prop) (n:Nat) (ls:List F15) (v:Value):Prop :=
 ∃ b o cap vs,v=.slice (some ⟨b,o,none⟩) n cap∧P b∧b<w.heap.size∧n≤cap∧cap≤maxLen∧F2 (FLDen w P) ls vs∧∀ i x,vs[i]? =some x→w.cell? ⟨b,o+i,none⟩=some x
instance:Dat D24 where
 den w P d v:=match d with
  | .base d=>Dat.den w P d v
  | .raw n ls=>RawRow w P n ls v
 len d:=match d with
  | .base d=>Dat.len d
  | .raw n _=>n
 lit d:=match d with
  | .base d=>Dat.lit d
  | .raw _ _=>true
 peek d o n:=match d with
  | .base d=>(Dat.peek d o n).map (·.map up)
  | .raw _ ls=>let c:=(ls.drop o).take n;bif Nat.beq c.length n&&Nat.blt 0 n then some (c.map up) else none
 pack T n ls:=match dns ls with
  | some l=>match (Dat.pack T n l:Option D15) with
   | some d=>some (.base d)
   | none=>bif Nat.blt 0 l.length then some (.raw n l) else none
  | none=>none
theorem up_den {w:World} {P:Nat→Prop} {x:F15} {v:Value} (h:FLDen w P x v):FLDen w P (up x) v:=by cases x<;>exact h
theorem dn_den {w:World} {P:Nat→Prop} {x:FL D24} {y:F15} {v:Value} (e:dn x=some y) (h:FLDen w P x v):FLDen w P y v:=by
 cases x with
 | dat d =>
  cases d with
  | base d=>cases e;exact h
  | raw n l=>cases e
 | _=>cases e;exact h
theorem ups_den {w:World} {P:Nat→Prop}:∀ {l:List F15} {vs:List Value},F2 (FLDen w P) l vs→F2 (FLDen w P) (l.map up) vs
 | [],[],_=>trivial
 | _::_,_::_,h=>⟨up_den h.1,ups_den h.2⟩
theorem dns_den {w:World} {P:Nat→Prop}:∀ {l:List (FL D24)} {m:List F15} {vs:List Value},dns l=some m→F2 (FLDen w P) l vs→F2 (FLDen w P) m vs
 | [],m,[],e,_=>by cases e;trivial
 | x::r,m,v::vs,e,h=>by
  simp only [dns] at e
  split at e
  ·rename_i y l e1 e2
   cases e
   exact⟨dn_den e1 h.1,dns_den e2 h.2⟩
  ·cases e
instance:DatOk D24 where
 keep:=by
  intro w w' P Q d v h hb hq
  cases d with
  | base d=>exact DatOk.keep (D:=D15) h hb hq
  | raw n ls =>
   obtain⟨b,o,cap,vs,rfl,h1,h2,h3,h4,h5,h6⟩:=h
   have e:=hb b h1 h2
   refine⟨b,o,cap,vs,rfl,hq b h1 h2,?_,h3,h4,h5.imp fun _ _ h=>h.keep hb hq,fun i x hx=>(World.cell?_of_block (a:=⟨b,_,none⟩) e).trans (h6 i x hx)⟩
   have h7:=Array.getElem?_eq_getElem h2
   exact(Array.getElem?_eq_some_iff.1 (e.trans h7)).1
 slice:=by
  intro w P d v h
  cases d with
  | base d=>exact DatOk.slice (D:=D15) h
  | raw n ls =>
   obtain⟨b,o,cap,vs,rfl,h1,h2,h3,h4,h5,h6⟩:=h
   exact⟨_,cap,rfl,h3,h4,fun _=>⟨b,o,rfl⟩⟩
 peek:=by
  intro w P d v o n ls h hp
  cases d with
  | base d =>
   change (Dat.peek d o n).map (·.map up)=some ls at hp
   cases hq:(Dat.peek d o n:Option (List F15)) with
   | none=>rw [hq] at hp;cases hp
   | some l =>
    rw [hq] at hp
    cases hp
    obtain⟨b,o0,len,cap,vs,h1,h2,h3,h4⟩:=DatOk.peek (D:=D15) h hq
    exact⟨b,o0,len,cap,vs,h1,ups_den h2,by simpa using h3,h4⟩
  | raw m l =>
   obtain⟨b,o0,cap,vs,rfl,h1,h2,h3,h4,h5,h6⟩:=h
   change (bif Nat.beq ((l.drop o).take n).length n&&Nat.blt 0 n then some (((l.drop o).take n).map up) else none)=some ls at hp
   cases hb:(Nat.beq ((l.drop o).take n).length n&&Nat.blt 0 n) with
   | false=>rw [hb] at hp;cases hp
   | true =>
    rw [hb] at hp
    obtain rfl:=Option.some.inj hp
    obtain⟨hb1,hb2⟩:=Bool.and_eq_true_iff.1 hb
    have hb1:=Nat.eq_of_beq_eq_true hb1
    refine⟨b,o0,m,cap,(vs.drop o).take n,rfl,ups_den (F2.take n (F2.drop o h5)),by simpa using hb1,fun i x hx=>?_⟩
    have hlt:i<n:=by
     have:=(List.getElem?_eq_some_iff.1 hx).1
     rw [List.length_take] at this
     omega
    rw [List.getElem?_take_of_lt hlt,List.getElem?_drop] at hx
    exact h6 _ _ hx
 pack:=by
  intro w P T n ls vs d b o cap hp hF hc hP hn hm
  change (match dns ls with
   | some l=>match (Dat.pack T n l:Option D15) with
    | some d=>some (D24.base d)
    | none=>bif Nat.blt 0 l.length then some (D24.raw n l) else none
   | none=>none)=some d at hp
  split at hp
  ·rename_i l hl
   have hF:=dns_den hl hF
   split at hp
   ·rename_i d' hd
    cases hp
    exact DatOk.pack (D:=D15) hd hF hc hP hn hm
   ·cases hq:Nat.blt 0 l.length with
    | false=>rw [hq] at hp;cases hp
    | true =>
     rw [hq] at hp
     cases hp
     have h0:0<vs.length:=by rw [←hF.length];exact Nat.le_of_ble_eq_true hq
     exact⟨b,o,cap,vs,rfl,hP,block_lt_of_cell (hc 0 _ (List.getElem?_eq_getElem h0)),hn,hm,hF,hc⟩
  ·cases hp
def upA (x:Bool × List F15):Bool × List (FL D24):=(x.1,x.2.map up)
def dnAs:List (Bool × List (FL D24))→Option (List (Bool × List F15))
 | []=>some []
 | x::r=>match dns x.2,dnAs r with
  | some y,some l=>some ((x.1,y)::l)
  | _,_=>none
def liftS (S:Spec D15):Spec D24:=fun f args orc=>match dnAs args with
 | some a=>match S f a orc with
  | some (ret,tup,pre,o)=>some (ret.map upA,tup,pre,o)
  | none=>none
 | none=>none
theorem dnA_den {w:World} {P:Nat→Prop} {x:Bool × List (FL D24)} {m:List F15} {v:Value} (e:dns x.2=some m) (h:ArgDen w P x v):ArgDen w P (x.1,m) v:=by
 obtain⟨t,l⟩:=x
 cases t
 ·obtain⟨a,h1,h2⟩:=h
  simp only at h1
  subst h1
  simp only [dns] at e
  split at e
  ·rename_i y l e1 e2
   cases e2
   cases e
   exact⟨_,rfl,dn_den e1 h2⟩
  ·cases e
 ·obtain⟨vs,h1,h2⟩:=h
  exact⟨vs,h1,dns_den e h2⟩
theorem dnAs_den {w:World} {P:Nat→Prop}:∀ {l:List (Bool × List (FL D24))} {m:List (Bool × List F15)} {vs:List Value},dnAs l=some m→F2 (ArgDen w P) l vs→F2 (ArgDen w P) m vs
 | [],m,[],e,_=>by cases e;trivial
 | x::r,m,v::vs,e,h=>by
  simp only [dnAs] at e
  split at e
  ·rename_i y l e1 e2
   cases e
   exact⟨dnA_den e1 h.1,dnAs_den e2 h.2⟩
  ·cases e
theorem upA_den {w:World} {P:Nat→Prop} {x:Bool × List F15} {v:Value} (h:ArgDen w P x v):ArgDen w P (upA x) v:=by
 obtain⟨t,l⟩:=x
 cases t
 ·obtain⟨a,h1,h2⟩:=h
  simp only at h1
  subst h1
  exact⟨_,rfl,up_den h2⟩
 ·obtain⟨vs,h1,h2⟩:=h
  exact⟨vs,h1,ups_den h2⟩
theorem upAs_den {w:World} {P:Nat→Prop}:∀ {l:List (Bool × List F15)} {vs:List Value},F2 (ArgDen w P) l vs→F2 (ArgDen w P) (l.map upA) vs
 | [],[],_=>trivial
 | _::_,_::_,h=>⟨upA_den h.1,upAs_den h.2⟩
theorem up_gives {A:Nat→Prop} {ret:List (Bool × List F15)} {tup:Bool} {w w':World} {e:Ending} (h:Gives A ret tup w e w'):Gives A (ret.map upA) tup w e w':=by
 obtain⟨v,h1,h2,h3⟩:=h
 refine⟨v,h1,?_,h3⟩
 cases tup
 ·obtain⟨r,h4,h5⟩:=h2
  subst h4
  exact⟨_,rfl,upA_den h5⟩
 ·obtain⟨vs,h4,h5⟩:=h2
  exact⟨vs,h4,upAs_den h5⟩
theorem liftS_ok {P:Program} {S:Spec D15} (h:SpecOk P S):SpecOk P (liftS S):=by
 intro f args orc ret tup pre orc' hs
 unfold liftS at hs
 split at hs
 ·rename_i a ha
  split at hs
  ·rename_i ret' tup' pre' o' h1
   cases hs
   exact⟨(h _ _ _ _ _ _ _ h1).1,fun hp w A vs hv=>((h _ _ _ _ _ _ _ h1).2 hp w A vs (dnAs_den ha hv)).mono fun _ _ hg=>up_gives hg⟩
  ·cases hs
 ·cases hs
end Go.Proofs.Ytpdinlejmlbbeaa.Se

namespace Go.Proofs.Ytpdinlejmlbbeaa
open Go.RowKit
structure LiesI (w:World) (l:List Int) (s:Value):Prop where
 out:∃ (a:Option Addr) (cap:Nat),s=.slice a l.length cap∧l.length≤cap∧cap≤maxLen∧∀ i (h:i<l.length),∃ b o,a=some ⟨b,o,none⟩∧w.cell? ⟨b,o+i,none⟩=some (.int .i64 l[i])
theorem LiesI.keep {w w':World} {l:List Int} {s:Value} (h:LiesI w l s) (hb:Below w.heap.size w w'):LiesI w' l s:=by
 obtain⟨a,cap,hs,hc,hm,hn⟩:=h.out
 refine⟨a,cap,hs,hc,hm,fun i hi=>?_⟩
 obtain⟨b,o,ha,hx⟩:=hn i hi
 exact⟨b,o,ha,(hb.cell (World.block_lt_of_cell? _ _ hx)).trans hx⟩
end Go.Proofs.Ytpdinlejmlbbeaa

namespace Go.Proofs.Ytpdinlejmlbbeaa
theorem liftB_good {t:Tm} {k c:Int} (hk:0≤k) (hc:0≤c) (hr:t.rightB=true):t.liftB k c=(t.each (liftF k c) 0).getD .zero:=by
 unfold Tm.liftB;rw [if_neg (by rw [hr];simp;omega)]
end Go.Proofs.Ytpdinlejmlbbeaa

namespace Go.Proofs.Ytpdinlejmlbbeaa
open Go.RowKit
structure Desk2 (w:World) (M:Nat) (t u:Tm) (s v:Value) (w':World):Prop where
 under:Below w.heap.size w w'
 above:w.heap.size+3≤M
 box:w'.heap[w.heap.size]? =some (boxOf t s)
 res:w'.heap[w.heap.size+1]? =some zeroObj
 made:w'.heap[M]? =some (boxOf u v)
theorem Desk2.size {w w':World} {M:Nat} {t u:Tm} {s v:Value} (h:Desk2 w M t u s v w'):M<w'.heap.size:=(Array.getElem?_eq_some_iff.1 h.made).1
theorem Desk2.later {w w1 w2:World} {M:Nat} {t u:Tm} {s v:Value} (h:Desk2 w M t u s v w1) (hb:Below w1.heap.size w1 w2):Desk2 w M t u s v w2:=by
 have hs:=h.size
 have ha:=h.above
 exact⟨h.under.trans (hb.mono (by omega)),ha,by rw [hb.block _ (by omega)];exact h.box,by rw [hb.block _ (by omega)];exact h.res,by rw [hb.block _ (by omega)];exact h.made⟩
theorem Desk2.set {w w1:World} {M:Nat} {t u:Tm} {s v:Value} (h:Desk2 w M t u s v w1) (o:Nat) (x:Value):Desk2 w M t u s v (w1.setCell ⟨w.heap.size+2,o,none⟩ x):=by
 have ha:=h.above
 exact⟨h.under.setCell (by simp) _,ha,by rw [Below.heap_setCell _ _ _ _ (by show w.heap.size≠w.heap.size+2;omega)];exact h.box,by rw [Below.heap_setCell _ _ _ _ (by show w.heap.size+1≠w.heap.size+2;omega)];exact h.res,by rw [Below.heap_setCell _ _ _ _ (by show M≠w.heap.size+2;omega)];exact h.made⟩
theorem Desk2.drew {w w1:World} {M:Nat} {t u:Tm} {s v:Value} (h:Desk2 w M t u s v w1):Desk2 w M t u s v w1.drew:=⟨h.under.drew,h.above,h.box,h.res,h.made⟩
theorem desk2_and {w w':World} {M:Nat} {t u x:Tm} {s v sx:Value} {b o:Nat} (h:Desk2 w M t u s v w') (hx:Node w b o x sx):Desk2 w M t u s v w'∧w'.cell? ⟨w.heap.size,4,none⟩=some s∧w'.cell? ⟨M,4,none⟩=some v ∧
 w'.cell? ⟨b,o,none⟩=some (.int .i64 x.k)∧w'.cell? ⟨b,o+1,none⟩=some (.int .i64 x.i)∧w'.cell? ⟨b,o+2,none⟩=some (.int .i64 x.j)∧w'.cell? ⟨b,o+3,none⟩=some (.int .i64 x.n)∧w'.cell? ⟨b,o+4,none⟩=some sx:=by
 obtain⟨-,-,-,-,d4⟩:=five_cells h.box
 obtain⟨-,-,-,-,e4⟩:=five_cells h.made
 obtain⟨c0,c1,c2,c3,c4⟩:=hx.below h.under hx.lt
 exact⟨h,d4,e4,c0,c1,c2,c3,c4⟩
theorem desk2_start {w w1:World} {t:Tm} {K:Int} {s v:Value} (hb:Below (w.heap.size+2) ((w.alloc (boxOf t s)).alloc zeroObj) w1) (hs:w.heap.size+3≤w1.heap.size):Desk2 w w1.heap.size t (.mk K 0 0 0 []) s v (w1.alloc (.cells #[.int .i64 K,.int .i64 0,.int .i64 0,.int .i64 0,v] 24)):=by
 have h0:((w.alloc (boxOf t s)).alloc zeroObj).heap[w.heap.size]? =some (boxOf t s):=by rw [Below.heap_alloc _ _ _ (by simp),alloc_new]
 have h1:((w.alloc (boxOf t s)).alloc zeroObj).heap[w.heap.size+1]? =some zeroObj:=heap_alloc2_new _ _ _
 refine⟨?_,hs,?_,?_,alloc_new _ _⟩
 ·exact((((Below.refl _ _).alloc (Nat.le_refl _) _).alloc (by simp) _).trans (hb.mono (by omega))).alloc (by omega) _
 ·rw [Below.heap_alloc _ _ _ (by omega),hb.block _ (by omega)];exact h0
 ·rw [Below.heap_alloc _ _ _ (by omega),hb.block _ (by omega)];exact h1
def picked (t:Tm) (pk:List Nat):List Tm:=pk.map fun p=>((t.kids[p]?).getD .zero).bare
set_option maxRecDepth 20000 in
set_option maxHeartbeats 2000000 in
theorem plain_of (t:Tm) (ih:∀ x ∈ t.kids,∀ (w:World) (s:Value),Lies w x.kids s→x.rightB=true→Calls Try.prog 56 #[tv x s] w (Makes x.bare w)) (hr:∀ x ∈ t.kids,x.rightB=true)
 (K:Int) (pk:List Nat) (hpk:∀ p ∈ pk,p<t.kids.length) (hp4:pk.length≤4) (w:World) (s st:Value) (hl:Lies w t.kids s) (hti:LiesI w (pk.map fun(p:Nat)=>(p:Int)) st) :
 Calls Try.prog 67 #[.int .i64 K,tv t s,st] w (Makes (.mk K 0 0 0 (picked t pk)) w):=by
 obtain⟨a,cap,S,rfl,hc,hm,-,hn,hkk⟩:=hl.out
 obtain⟨ta,tcap,rfl,htc,htm,htn⟩:=hti.out
 rw [List.length_map] at htc
 replace htn:∀ i (h:i<pk.length),∃ b o,ta=some ⟨b,o,none⟩∧w.cell? ⟨b,o+i,none⟩=some (.int .i64 (pk[i]:Int)):=fun i h=>by
  have:=htn i (by rw [List.length_map];exact h)
  simpa using this
 simp only [List.length_map]
 obtain⟨du,hu1,hu2⟩:=under_term
 unfold maxLen at hm htm
 have IH:=Lib.hid ih
 have HR:=Lib.hid hr
 have HPK:=Lib.hid hpk
 have HN:=Lib.hid hn
 have HK:=Lib.hid hkk
 have HTN:=Lib.hid htn
 clear ih hr hpk hn hkk htn hl hti
 unfold tv
 obtain⟨i0,hi,hz0,hz1,hz2⟩:=info_parts info_term
 have HI:=Lib.hid (And.intro hi (And.intro hz0 (And.intro hz1 hz2)))
 clear hi hz0 hz1 hz2
 go_enter Try.func67,Try.ntmps67
 go_wp2_with (at_make;refine wpList_make_full _ rfl _ _ 22 rfl (w.heap.size+2) 24 i0 _ 5 (by kernel_rfl) HI.out.1 HI.out.2.1 HI.out.2.2.1 _ _ _ _ pk.length rfl rfl rfl rfl ?bytes ?max ?base ?next)
 case bytes=>rw [HI.out.2.2.2];omega
 case max=>unfold maxLen;omega
 case base=>simp
 case next =>
 intro w1 hown hgrow
 have hful:=full_made hown
 have hbel:Below (w.heap.size+2) _ w1:=(Below.refl _ _).grown hgrow (by simp) (by simp)
 have hs1:w.heap.size+3≤w1.heap.size:=by
  obtain⟨cs,hcs⟩:=hful.open'
  have:=(Array.getElem?_eq_some_iff.1 hcs).1
  omega
 have hd0:=desk2_start (K:=K) (v:=.slice (some ⟨w.heap.size+2,0,none⟩) pk.length pk.length) hbel hs1
 have hf0:=hful.later ((Below.refl _ _).alloc (Nat.le_refl _) (.cells #[.int .i64 K,.int .i64 0,.int .i64 0,.int .i64 0,.slice (some ⟨w.heap.size+2,0,none⟩) pk.length pk.length] 24))
 clear hbel hgrow hown hful
 obtain⟨M,hM⟩:∃ M,w1.heap.size=M:=⟨_,rfl⟩
 rw [hM] at hd0 hs1
 have HM:=Lib.hid hM
 go_wp2_with fail
 clear hM
 go_loopw [17] (fun i wr=>∃ (q:Nat) (xs:List (Tm × Value)),q≤pk.length∧i=.int .i64 q∧Hid (xs.length=pk.length)∧Hid ((xs.map (·.1)).take q=(picked t pk).take q)∧Full (w.heap.size+2) wr (w.heap.size+2) xs∧Desk2 w M t (.mk K 0 0 0 []) (.slice a t.kids.length cap) (.slice (some ⟨w.heap.size+2,0,none⟩) pk.length pk.length) wr) (fun i _=>pk.length-(intOf i).toNat)
 case atStart=>exact⟨0,_,Nat.zero_le _,rfl,List.length_replicate,rfl,hf0,hd0⟩
 case round =>
  clear hf0 hd0
  obtain⟨q,xs,hq0,rfl,hxl,hxs,hfu,hdk⟩:=hrel
  have HXL:=Lib.hid hxl.out
  have HXS:=Lib.hid hxs.out
  clear hxl hxs
  obtain⟨d0,d1,d2,d3,d4⟩:=five_cells hdk.box
  obtain⟨y0,y1,y2,y3,y4⟩:=five_cells hdk.made
  obtain⟨z0,z1,z2,z3,z4⟩:=five_cells hdk.res
  obtain⟨f0,f1,f2,f3,f4⟩:=five_free hdk.res
  have hsz:=hdk.size
  by_cases hlt:q<pk.length
  ·obtain⟨p,hp⟩:∃ p,pk[q]=p:=⟨_,rfl⟩
   have hplt:p<t.kids.length:=HPK.out p (by rw [←hp];exact List.getElem_mem hlt)
   obtain⟨b9,o9,rfl,hx9⟩:=HTN.out q hlt
   rw [hp] at hx9
   have hc9:=cell_lat hdk.under hx9
   obtain⟨b',o,rfl,hx⟩:=HN.out p hplt
   have hq:=HK.out p hplt
   obtain⟨a',cap',S',hS,-⟩:=hq.out
   rw [hS] at hx hq
   have hkid:(t.kids[p]?).getD .zero=t.kids[p]:=by rw [List.getElem?_eq_getElem hplt];rfl
   have HMem:=Lib.hid (List.getElem_mem hplt)
   have hrk:=HR.out _ HMem.out
   have hfx:=right_fine (plain_right (bare_plain _ hrk))
   have CALL:=Lib.hid (IH.out _ HMem.out wr.drew _ (hq.keep (hdk.under.trans (Below.refl _ _).drew)) hrk)
   have hpick:(picked t pk).take (q+1)=(picked t pk).take q++[(t.kids[p]).bare]:=by
    rw [List.take_succ_eq_append_getElem (by unfold picked;rw [List.length_map];exact hlt)]
    congr 2
    simp only [picked,List.getElem_map,hp,hkid]
   obtain⟨x,hxb⟩:∃ x,(t.kids[p]).bare=x:=⟨_,rfl⟩
   rw [hxb] at CALL hfx hpick
   have hxq:q<xs.length:=by rw [HXL.out];exact hlt
   have HFX:=Lib.hid hfx
   have HPICK:=Lib.hid hpick
   have HFU:=Lib.hid hfu
   have hnode:=hx
   obtain⟨c0,c1,c2,c3,c4⟩:=hx.below hdk.under hx.lt
   clear hS hq hx hfx hpick hxb hkid hrk hp hx9 hfu
   go_wp2_with fail
   go_region_held3 (fun w'=>Desk2 w M t (.mk K 0 0 0 []) (.slice (some ⟨b',o,none⟩) t.kids.length cap) (.slice (some ⟨w.heap.size+2,0,none⟩) pk.length pk.length) w'∧w'.cell? ⟨w.heap.size,4,none⟩=some (.slice (some ⟨b',o,none⟩) t.kids.length cap)∧w'.cell? ⟨M,4,none⟩=some (.slice (some ⟨w.heap.size+2,0,none⟩) pk.length pk.length)∧w'.cell? ⟨b',o+p * 5,none⟩=some (.int .i64 t.kids[p].k)∧w'.cell? ⟨b',o+p * 5+1,none⟩=some (.int .i64 t.kids[p].i)∧w'.cell? ⟨b',o+p * 5+2,none⟩=some (.int .i64 t.kids[p].j)∧w'.cell? ⟨b',o+p * 5+3,none⟩=some (.int .i64 t.kids[p].n)∧w'.cell? ⟨b',o+p * 5+4,none⟩=some (.slice a' t.kids[p].kids.length cap'))
    (((with_reducible refine desk2_and ?_ hnode);repeat (first | with_reducible assumption | with_reducible exact hdk | with_reducible refine Desk2.drew ?_ | with_reducible refine Desk2.set ?_ _ _)))
    (first | (go_at_call 56;((with_reducible refine Calls.mono CALL.out ?_);rintro e wn ⟨s2,rfl,hl2,hbn⟩;obtain⟨a2,cap2,rfl,-,-⟩:=hl2.out;have hd2:=Desk2.later (Desk2.drew hdk) hbn;have hfw:=(HFU.out.later (Below.refl _ _).drew).later hbn;obtain⟨x0,x1,x2,x3,x4⟩:=hfw.node q hxq;obtain⟨cs,hcs⟩:=hfw.open';have g0:=open_unfrozen hcs (q * 5);have g1:=open_unfrozen hcs (q * 5+1);have g2:=open_unfrozen hcs (q * 5+2);have g3:=open_unfrozen hcs (q * 5+3);have g4:=open_unfrozen hcs (q * 5+4);have HLF:=Lib.hid (HFU.out.fresh (w2:=wn) (by have:=hdk.above;omega) hl2);have HFW:=Lib.hid hfw;have HD2:=Lib.hid hd2;clear hcs hfw hl2 hbn)))
   go_wp2_with fail
   go_roundw
   case rel=>exact⟨q+1,xs.set q (x,.slice a2 x.kids.length cap2),hlt,by go_num,by simp [Hid,HXL.out],by rw [Hid,List.map_set,take_set_next _ _ _ (by simpa using hxq),HXS.out,HPICK.out],HFW.out.fill hxq HFX.out HLF.out,((((HD2.out.set _ _).set _ _).set _ _).set _ _).set _ _⟩
   case measure=>simp [intOf];omega
  ·have:q=pk.length:=by omega
   subst this
   have hres:xs.map (·.1)=picked t pk:=by
    have h1:=HXS.out
    rw [List.take_of_length_le (by rw [List.length_map,HXL.out];exact Nat.le_refl _),List.take_of_length_le (by unfold picked;rw [List.length_map];exact Nat.le_refl _)] at h1
    exact h1
   have hll:=hfu.lies (cap:=pk.length) (by rw [HXL.out];exact Nat.le_refl _) (by unfold maxLen;omega)
   rw [hres,HXL.out] at hll
   have HLL:=Lib.hid hll
   have HPL:Hid ((picked t pk).length=pk.length):=by simp [Hid,picked]
   have q1:=hdk.res
   clear hres hll hfu
   go_wp2
   (try simp only [Exit.inBlock,Exit.then])
   refine bodyPost_ret (results_cell_row rfl _ _ (w.heap.size+1) _ _ _ du rfl (five_set q1) hu1 (by cases du<;>first | rfl | exact hu2) size_term) rfl ?_
   refine⟨.slice (some ⟨w.heap.size+2,0,none⟩) pk.length pk.length,rfl,?_,below_five hdk.under (by omega) _ _ _ _ _⟩
   exact liesP_fives HLL.out (by omega) (by omega) _ _ _ _ _
end Go.Proofs.Ytpdinlejmlbbeaa

namespace Go.Proofs.Ytpdinlejmlbbeaa
open Go.RowKit
theorem picked_pickT (t:Tm):∀ pk:List Nat,(∀ p ∈ pk,p<t.kids.length)→pickT pk (t.kids.map Tm.bare)=picked t pk
 | [],_=>rfl
 | p::r,h=>by
  have hp:=h p (List.mem_cons_self ..)
  have ih:=picked_pickT t r (fun q hq=>h q (List.mem_cons_of_mem _ hq))
  unfold pickT at ih ⊢
  rw [List.filterMap_cons,List.getElem?_map,List.getElem?_eq_getElem hp]
  simp only [Option.map_some]
  rw [ih]
  simp [picked,List.getElem?_eq_getElem hp]
theorem bare_pick (t:Tm) (c:Int) (pk:List Nat) (hk:t.k=c) (hc:(decide (3≤c)&&decide (c≤12))=true) (hp:barePick c=pk) (h:∀ p ∈ pk,p<t.kids.length):t.bare=.mk (bareKind c) (if c=12 then t.i else 0) 0 (if c=12 then 5 else 0) (picked t pk):=by
 simp at hc
 rw [Tm.bare_eq,bareNode,hk,if_pos hc,hp,picked_pickT t pk h]
theorem liesI_new {W:World} {g:Nat} {T:TypeId} {l:List Int} {fr:Nat × Nat} (h:W.heap[g]? =some (.cells (l.map (Value.int .i64)).toArray T fr)) (hm:l.length≤maxLen):LiesI W l (.slice (some ⟨g,0,none⟩) l.length l.length) :=
 ⟨_,_,rfl,Nat.le_refl _,hm,fun i hi=>⟨g,0,rfl,by rw [Nat.zero_add,cell_of_row _ _ _ _ _ _ h];simp [hi]⟩⟩
theorem made_below {B b o:Nat} {w:World} {v:Value} {ps:List (Tm × Value)} (h:Made B w v ps) (hb:b<B) (x:Value):Made B (w.setCell ⟨b,o,none⟩ x) v ps:=by
 have hk:∀ b',B≤b'→(w.setCell ⟨b,o,none⟩ x).heap[b']? =w.heap[b']?:=fun b' hb'=>Below.heap_setCell _ _ _ _ (by show b'≠b;omega)
 obtain⟨h1,h2⟩:=h.own
 refine⟨⟨h1,?_⟩,h.fine,fun p hp=>(h.kids p hp).keep (fun b' hb' _=>hk b' hb'.1.1) (fun b' hb' _=>⟨hb'.1.same (hk b' hb'.1.1),hb'.2⟩)⟩
 rcases h2 with h2 | ⟨g,cap,cur,hv,hg,hh,r⟩
 ·exact Or.inl h2
 ·exact Or.inr ⟨g,cap,cur,hv,hg,by rw [hk g hg];exact hh,r⟩
set_option maxRecDepth 20000 in
set_option maxHeartbeats 1500000 in
theorem sbare_any (t:Tm):∀ (w:World) (s:Value),Lies w t.kids s→t.rightB=true→Calls Try.prog 56 #[tv t s] w (Makes t.bare w):=by
 induction t using Tm.ind with
 | h t ih =>
  intro w s hl hr
  obtain⟨a,cap,S,rfl,hc,hm,hf,hn,hkk⟩:=hl.out
  have hlen:=right_len hr
  obtain⟨du,hu1,hu2⟩:=under_term
  have HR0:=Lib.hid hr
  have HRK:=Lib.hid (t.right_kids hr)
  have IH:=Lib.hid ih
  have HL:=Lib.hid hl
  have HN:=Lib.hid hn
  have HK:=Lib.hid hkk
  have hkind:=Tm.node_kind (t.right_node hr)
  unfold maxLen at hm
  clear ih hl hn hkk hr hf
  unfold tv
  by_cases hmk:3≤t.k∧t.k≤12
  ·have hcs:t.k=3∨t.k=4∨t.k=5∨t.k=6∨t.k=7∨t.k=8∨t.k=9∨t.k=10∨t.k=11∨t.k=12:=by omega
   clear hmk hkind
   rcases hcs with hkc | hkc | hkc | hkc | hkc | hkc | hkc | hkc | hkc | hkc
   ·have hpk:∀ p ∈ ([0,1]:List Nat),p<t.kids.length:=by
     have hlen:=node_length (t.right_node HR0.out)
     rw [hkc] at hlen
     have h9:t.kids.length=2:=by simp [kidsN] at hlen;omega
     intro p hp
     simp at hp
     omega
    have hres:=bare_pick t 3 [0,1] hkc rfl rfl hpk
    have hb3:=below_three w (.cells #[.int .i64 t.k,.int .i64 t.i,.int .i64 t.j,.int .i64 t.n,.slice a t.kids.length cap] 24) (.cells #[.int .i64 0,.int .i64 0,.int .i64 0,.int .i64 0,.slice none 0 0] 24) (.cells #[.int .i64 0,.int .i64 1] 3)
    obtain⟨q0,q1,q2,-⟩:=heap_three w (.cells #[.int .i64 t.k,.int .i64 t.i,.int .i64 t.j,.int .i64 t.n,.slice a t.kids.length cap] 24) (.cells #[.int .i64 0,.int .i64 0,.int .i64 0,.int .i64 0,.slice none 0 0] 24) (.cells #[.int .i64 0,.int .i64 1] 3)
    have hti:=liesI_new (l:=[(0:Int),(1:Int)]) q2 (by decide)
    have CALL:=Lib.hid (plain_of t IH.out HRK.out 13 [0,1] hpk (by decide) _ _ _ (HL.out.keep hb3) hti)
    have HRES:=Lib.hid hres
    clear hti hpk hres q2 q0
    have e3:(t.k==3)=true:=by rw [hkc];decide
    clear hkc
    go_enter Try.func56,Try.ntmps56
    go_wp2_with fail
    refine CALL.out.mono ?_
    rintro e wn ⟨s2,rfl,hl2,hbn⟩
    obtain⟨a2,cap2,rfl,-,-⟩:=hl2.out
    have hbw:=hb3.trans (hbn.mono hb3.size)
    have q1n:=hbn.block (w.heap.size+1) (by simp)
    rw [q1] at q1n
    obtain⟨z0,z1,z2,z3,z4⟩:=five_cells q1n
    obtain⟨f0,f1,f2,f3,f4⟩:=five_free q1n
    have HL2:=Lib.hid hl2
    clear hbn hl2 q1
    go_wp2
    (try simp only [Exit.inBlock,Exit.then])
    refine bodyPost_ret (results_cell_row rfl _ _ (w.heap.size+1) _ _ _ du rfl (five_set q1n) hu1 (by cases du<;>first | rfl | exact hu2) size_term) rfl ?_
    rw [HRES.out]
    exact⟨_,rfl,liesP_fives HL2.out (by simp<;>omega) (by simp<;>omega) _ _ _ _ _,below_five hbw (by omega) _ _ _ _ _⟩
   ·have hpk:∀ p ∈ ([0,2]:List Nat),p<t.kids.length:=by
     have hlen:=node_length (t.right_node HR0.out)
     rw [hkc] at hlen
     have h9:t.kids.length=3:=by simp [kidsN] at hlen;omega
     intro p hp
     simp at hp
     omega
    have hres:=bare_pick t 4 [0,2] hkc rfl rfl hpk
    have hb3:=below_three w (.cells #[.int .i64 t.k,.int .i64 t.i,.int .i64 t.j,.int .i64 t.n,.slice a t.kids.length cap] 24) (.cells #[.int .i64 0,.int .i64 0,.int .i64 0,.int .i64 0,.slice none 0 0] 24) (.cells #[.int .i64 0,.int .i64 2] 3)
    obtain⟨q0,q1,q2,-⟩:=heap_three w (.cells #[.int .i64 t.k,.int .i64 t.i,.int .i64 t.j,.int .i64 t.n,.slice a t.kids.length cap] 24) (.cells #[.int .i64 0,.int .i64 0,.int .i64 0,.int .i64 0,.slice none 0 0] 24) (.cells #[.int .i64 0,.int .i64 2] 3)
    have hti:=liesI_new (l:=[(0:Int),(2:Int)]) q2 (by decide)
    have CALL:=Lib.hid (plain_of t IH.out HRK.out 14 [0,2] hpk (by decide) _ _ _ (HL.out.keep hb3) hti)
    have HRES:=Lib.hid hres
    clear hti hpk hres q2 q0
    have e3:(t.k==3)=false:=by rw [hkc];decide
    have e4:(t.k==4)=true:=by rw [hkc];decide
    clear hkc
    go_enter Try.func56,Try.ntmps56
    go_wp2_with fail
    refine CALL.out.mono ?_
    rintro e wn ⟨s2,rfl,hl2,hbn⟩
    obtain⟨a2,cap2,rfl,-,-⟩:=hl2.out
    have hbw:=hb3.trans (hbn.mono hb3.size)
    have q1n:=hbn.block (w.heap.size+1) (by simp)
    rw [q1] at q1n
    obtain⟨z0,z1,z2,z3,z4⟩:=five_cells q1n
    obtain⟨f0,f1,f2,f3,f4⟩:=five_free q1n
    have HL2:=Lib.hid hl2
    clear hbn hl2 q1
    go_wp2
    (try simp only [Exit.inBlock,Exit.then])
    refine bodyPost_ret (results_cell_row rfl _ _ (w.heap.size+1) _ _ _ du rfl (five_set q1n) hu1 (by cases du<;>first | rfl | exact hu2) size_term) rfl ?_
    rw [HRES.out]
    exact⟨_,rfl,liesP_fives HL2.out (by simp<;>omega) (by simp<;>omega) _ _ _ _ _,below_five hbw (by omega) _ _ _ _ _⟩
   ·have hpk:∀ p ∈ ([2,3]:List Nat),p<t.kids.length:=by
     have hlen:=node_length (t.right_node HR0.out)
     rw [hkc] at hlen
     have h9:t.kids.length=4:=by simp [kidsN] at hlen;omega
     intro p hp
     simp at hp
     omega
    have hres:=bare_pick t 5 [2,3] hkc rfl rfl hpk
    have hb3:=below_three w (.cells #[.int .i64 t.k,.int .i64 t.i,.int .i64 t.j,.int .i64 t.n,.slice a t.kids.length cap] 24) (.cells #[.int .i64 0,.int .i64 0,.int .i64 0,.int .i64 0,.slice none 0 0] 24) (.cells #[.int .i64 2,.int .i64 3] 3)
    obtain⟨q0,q1,q2,-⟩:=heap_three w (.cells #[.int .i64 t.k,.int .i64 t.i,.int .i64 t.j,.int .i64 t.n,.slice a t.kids.length cap] 24) (.cells #[.int .i64 0,.int .i64 0,.int .i64 0,.int .i64 0,.slice none 0 0] 24) (.cells #[.int .i64 2,.int .i64 3] 3)
    have hti:=liesI_new (l:=[(2:Int),(3:Int)]) q2 (by decide)
    have CALL:=Lib.hid (plain_of t IH.out HRK.out 15 [2,3] hpk (by decide) _ _ _ (HL.out.keep hb3) hti)
    have HRES:=Lib.hid hres
    clear hti hpk hres q2 q0
    have e3:(t.k==3)=false:=by rw [hkc];decide
    have e4:(t.k==4)=false:=by rw [hkc];decide
    have e5:(t.k==5)=true:=by rw [hkc];decide
    clear hkc
    go_enter Try.func56,Try.ntmps56
    go_wp2_with fail
    refine CALL.out.mono ?_
    rintro e wn ⟨s2,rfl,hl2,hbn⟩
    obtain⟨a2,cap2,rfl,-,-⟩:=hl2.out
    have hbw:=hb3.trans (hbn.mono hb3.size)
    have q1n:=hbn.block (w.heap.size+1) (by simp)
    rw [q1] at q1n
    obtain⟨z0,z1,z2,z3,z4⟩:=five_cells q1n
    obtain⟨f0,f1,f2,f3,f4⟩:=five_free q1n
    have HL2:=Lib.hid hl2
    clear hbn hl2 q1
    go_wp2
    (try simp only [Exit.inBlock,Exit.then])
    refine bodyPost_ret (results_cell_row rfl _ _ (w.heap.size+1) _ _ _ du rfl (five_set q1n) hu1 (by cases du<;>first | rfl | exact hu2) size_term) rfl ?_
    rw [HRES.out]
    exact⟨_,rfl,liesP_fives HL2.out (by simp<;>omega) (by simp<;>omega) _ _ _ _ _,below_five hbw (by omega) _ _ _ _ _⟩
   ·have hpk:∀ p ∈ ([0,1]:List Nat),p<t.kids.length:=by
     have hlen:=node_length (t.right_node HR0.out)
     rw [hkc] at hlen
     have h9:t.kids.length=2:=by simp [kidsN] at hlen;omega
     intro p hp
     simp at hp
     omega
    have hres:=bare_pick t 6 [0,1] hkc rfl rfl hpk
    have hb3:=below_three w (.cells #[.int .i64 t.k,.int .i64 t.i,.int .i64 t.j,.int .i64 t.n,.slice a t.kids.length cap] 24) (.cells #[.int .i64 0,.int .i64 0,.int .i64 0,.int .i64 0,.slice none 0 0] 24) (.cells #[.int .i64 0,.int .i64 1] 3)
    obtain⟨q0,q1,q2,-⟩:=heap_three w (.cells #[.int .i64 t.k,.int .i64 t.i,.int .i64 t.j,.int .i64 t.n,.slice a t.kids.length cap] 24) (.cells #[.int .i64 0,.int .i64 0,.int .i64 0,.int .i64 0,.slice none 0 0] 24) (.cells #[.int .i64 0,.int .i64 1] 3)
    have hti:=liesI_new (l:=[(0:Int),(1:Int)]) q2 (by decide)
    have CALL:=Lib.hid (plain_of t IH.out HRK.out 16 [0,1] hpk (by decide) _ _ _ (HL.out.keep hb3) hti)
    have HRES:=Lib.hid hres
    clear hti hpk hres q2 q0
    have e3:(t.k==3)=false:=by rw [hkc];decide
    have e4:(t.k==4)=false:=by rw [hkc];decide
    have e5:(t.k==5)=false:=by rw [hkc];decide
    have e6:(t.k==6)=true:=by rw [hkc];decide
    clear hkc
    go_enter Try.func56,Try.ntmps56
    go_wp2_with fail
    refine CALL.out.mono ?_
    rintro e wn ⟨s2,rfl,hl2,hbn⟩
    obtain⟨a2,cap2,rfl,-,-⟩:=hl2.out
    have hbw:=hb3.trans (hbn.mono hb3.size)
    have q1n:=hbn.block (w.heap.size+1) (by simp)
    rw [q1] at q1n
    obtain⟨z0,z1,z2,z3,z4⟩:=five_cells q1n
    obtain⟨f0,f1,f2,f3,f4⟩:=five_free q1n
    have HL2:=Lib.hid hl2
    clear hbn hl2 q1
    go_wp2
    (try simp only [Exit.inBlock,Exit.then])
    refine bodyPost_ret (results_cell_row rfl _ _ (w.heap.size+1) _ _ _ du rfl (five_set q1n) hu1 (by cases du<;>first | rfl | exact hu2) size_term) rfl ?_
    rw [HRES.out]
    exact⟨_,rfl,liesP_fives HL2.out (by simp<;>omega) (by simp<;>omega) _ _ _ _ _,below_five hbw (by omega) _ _ _ _ _⟩
   ·have hpk:∀ p ∈ ([0,1,2,3]:List Nat),p<t.kids.length:=by
     have hlen:=node_length (t.right_node HR0.out)
     rw [hkc] at hlen
     have h9:t.kids.length=4:=by simp [kidsN] at hlen;omega
     intro p hp
     simp at hp
     omega
    have hres:=bare_pick t 7 [0,1,2,3] hkc rfl rfl hpk
    have hb3:=below_three w (.cells #[.int .i64 t.k,.int .i64 t.i,.int .i64 t.j,.int .i64 t.n,.slice a t.kids.length cap] 24) (.cells #[.int .i64 0,.int .i64 0,.int .i64 0,.int .i64 0,.slice none 0 0] 24) (.cells #[.int .i64 0,.int .i64 1,.int .i64 2,.int .i64 3] 3)
    obtain⟨q0,q1,q2,-⟩:=heap_three w (.cells #[.int .i64 t.k,.int .i64 t.i,.int .i64 t.j,.int .i64 t.n,.slice a t.kids.length cap] 24) (.cells #[.int .i64 0,.int .i64 0,.int .i64 0,.int .i64 0,.slice none 0 0] 24) (.cells #[.int .i64 0,.int .i64 1,.int .i64 2,.int .i64 3] 3)
    have hti:=liesI_new (l:=[(0:Int),(1:Int),(2:Int),(3:Int)]) q2 (by decide)
    have CALL:=Lib.hid (plain_of t IH.out HRK.out 17 [0,1,2,3] hpk (by decide) _ _ _ (HL.out.keep hb3) hti)
    have HRES:=Lib.hid hres
    clear hti hpk hres q2 q0
    have e3:(t.k==3)=false:=by rw [hkc];decide
    have e4:(t.k==4)=false:=by rw [hkc];decide
    have e5:(t.k==5)=false:=by rw [hkc];decide
    have e6:(t.k==6)=false:=by rw [hkc];decide
    have e7:(t.k==7)=true:=by rw [hkc];decide
    clear hkc
    go_enter Try.func56,Try.ntmps56
    go_wp2_with fail
    refine CALL.out.mono ?_
    rintro e wn ⟨s2,rfl,hl2,hbn⟩
    obtain⟨a2,cap2,rfl,-,-⟩:=hl2.out
    have hbw:=hb3.trans (hbn.mono hb3.size)
    have q1n:=hbn.block (w.heap.size+1) (by simp)
    rw [q1] at q1n
    obtain⟨z0,z1,z2,z3,z4⟩:=five_cells q1n
    obtain⟨f0,f1,f2,f3,f4⟩:=five_free q1n
    have HL2:=Lib.hid hl2
    clear hbn hl2 q1
    go_wp2
    (try simp only [Exit.inBlock,Exit.then])
    refine bodyPost_ret (results_cell_row rfl _ _ (w.heap.size+1) _ _ _ du rfl (five_set q1n) hu1 (by cases du<;>first | rfl | exact hu2) size_term) rfl ?_
    rw [HRES.out]
    exact⟨_,rfl,liesP_fives HL2.out (by simp<;>omega) (by simp<;>omega) _ _ _ _ _,below_five hbw (by omega) _ _ _ _ _⟩
   ·have hpk:∀ p ∈ ([2]:List Nat),p<t.kids.length:=by
     have hlen:=node_length (t.right_node HR0.out)
     rw [hkc] at hlen
     have h9:t.kids.length=3:=by simp [kidsN] at hlen;omega
     intro p hp
     simp at hp
     omega
    have hres:=bare_pick t 8 [2] hkc rfl rfl hpk
    have hb3:=below_three w (.cells #[.int .i64 t.k,.int .i64 t.i,.int .i64 t.j,.int .i64 t.n,.slice a t.kids.length cap] 24) (.cells #[.int .i64 0,.int .i64 0,.int .i64 0,.int .i64 0,.slice none 0 0] 24) (.cells #[.int .i64 2] 3)
    obtain⟨q0,q1,q2,-⟩:=heap_three w (.cells #[.int .i64 t.k,.int .i64 t.i,.int .i64 t.j,.int .i64 t.n,.slice a t.kids.length cap] 24) (.cells #[.int .i64 0,.int .i64 0,.int .i64 0,.int .i64 0,.slice none 0 0] 24) (.cells #[.int .i64 2] 3)
    have hti:=liesI_new (l:=[(2:Int)]) q2 (by decide)
    have CALL:=Lib.hid (plain_of t IH.out HRK.out 18 [2] hpk (by decide) _ _ _ (HL.out.keep hb3) hti)
    have HRES:=Lib.hid hres
    clear hti hpk hres q2 q0
    have e3:(t.k==3)=false:=by rw [hkc];decide
    have e4:(t.k==4)=false:=by rw [hkc];decide
    have e5:(t.k==5)=false:=by rw [hkc];decide
    have e6:(t.k==6)=false:=by rw [hkc];decide
    have e7:(t.k==7)=false:=by rw [hkc];decide
    have e8:(t.k==8)=true:=by rw [hkc];decide
    clear hkc
    go_enter Try.func56,Try.ntmps56
    go_wp2_with fail
    refine CALL.out.mono ?_
    rintro e wn ⟨s2,rfl,hl2,hbn⟩
    obtain⟨a2,cap2,rfl,-,-⟩:=hl2.out
    have hbw:=hb3.trans (hbn.mono hb3.size)
    have q1n:=hbn.block (w.heap.size+1) (by simp)
    rw [q1] at q1n
    obtain⟨z0,z1,z2,z3,z4⟩:=five_cells q1n
    obtain⟨f0,f1,f2,f3,f4⟩:=five_free q1n
    have HL2:=Lib.hid hl2
    clear hbn hl2 q1
    go_wp2
    (try simp only [Exit.inBlock,Exit.then])
    refine bodyPost_ret (results_cell_row rfl _ _ (w.heap.size+1) _ _ _ du rfl (five_set q1n) hu1 (by cases du<;>first | rfl | exact hu2) size_term) rfl ?_
    rw [HRES.out]
    exact⟨_,rfl,liesP_fives HL2.out (by simp<;>omega) (by simp<;>omega) _ _ _ _ _,below_five hbw (by omega) _ _ _ _ _⟩
   ·have hpk:∀ p ∈ ([2]:List Nat),p<t.kids.length:=by
     have hlen:=node_length (t.right_node HR0.out)
     rw [hkc] at hlen
     have h9:t.kids.length=3:=by simp [kidsN] at hlen;omega
     intro p hp
     simp at hp
     omega
    have hres:=bare_pick t 9 [2] hkc rfl rfl hpk
    have hb3:=below_three w (.cells #[.int .i64 t.k,.int .i64 t.i,.int .i64 t.j,.int .i64 t.n,.slice a t.kids.length cap] 24) (.cells #[.int .i64 0,.int .i64 0,.int .i64 0,.int .i64 0,.slice none 0 0] 24) (.cells #[.int .i64 2] 3)
    obtain⟨q0,q1,q2,-⟩:=heap_three w (.cells #[.int .i64 t.k,.int .i64 t.i,.int .i64 t.j,.int .i64 t.n,.slice a t.kids.length cap] 24) (.cells #[.int .i64 0,.int .i64 0,.int .i64 0,.int .i64 0,.slice none 0 0] 24) (.cells #[.int .i64 2] 3)
    have hti:=liesI_new (l:=[(2:Int)]) q2 (by decide)
    have CALL:=Lib.hid (plain_of t IH.out HRK.out 19 [2] hpk (by decide) _ _ _ (HL.out.keep hb3) hti)
    have HRES:=Lib.hid hres
    clear hti hpk hres q2 q0
    have e3:(t.k==3)=false:=by rw [hkc];decide
    have e4:(t.k==4)=false:=by rw [hkc];decide
    have e5:(t.k==5)=false:=by rw [hkc];decide
    have e6:(t.k==6)=false:=by rw [hkc];decide
    have e7:(t.k==7)=false:=by rw [hkc];decide
    have e8:(t.k==8)=false:=by rw [hkc];decide
    have e9:(t.k==9)=true:=by rw [hkc];decide
    clear hkc
    go_enter Try.func56,Try.ntmps56
    go_wp2_with fail
    refine CALL.out.mono ?_
    rintro e wn ⟨s2,rfl,hl2,hbn⟩
    obtain⟨a2,cap2,rfl,-,-⟩:=hl2.out
    have hbw:=hb3.trans (hbn.mono hb3.size)
    have q1n:=hbn.block (w.heap.size+1) (by simp)
    rw [q1] at q1n
    obtain⟨z0,z1,z2,z3,z4⟩:=five_cells q1n
    obtain⟨f0,f1,f2,f3,f4⟩:=five_free q1n
    have HL2:=Lib.hid hl2
    clear hbn hl2 q1
    go_wp2
    (try simp only [Exit.inBlock,Exit.then])
    refine bodyPost_ret (results_cell_row rfl _ _ (w.heap.size+1) _ _ _ du rfl (five_set q1n) hu1 (by cases du<;>first | rfl | exact hu2) size_term) rfl ?_
    rw [HRES.out]
    exact⟨_,rfl,liesP_fives HL2.out (by simp<;>omega) (by simp<;>omega) _ _ _ _ _,below_five hbw (by omega) _ _ _ _ _⟩
   ·have hpk:∀ p ∈ ([0,1,2]:List Nat),p<t.kids.length:=by
     have hlen:=node_length (t.right_node HR0.out)
     rw [hkc] at hlen
     have h9:t.kids.length=3:=by simp [kidsN] at hlen;omega
     intro p hp
     simp at hp
     omega
    have hres:=bare_pick t 10 [0,1,2] hkc rfl rfl hpk
    have hb3:=below_three w (.cells #[.int .i64 t.k,.int .i64 t.i,.int .i64 t.j,.int .i64 t.n,.slice a t.kids.length cap] 24) (.cells #[.int .i64 0,.int .i64 0,.int .i64 0,.int .i64 0,.slice none 0 0] 24) (.cells #[.int .i64 0,.int .i64 1,.int .i64 2] 3)
    obtain⟨q0,q1,q2,-⟩:=heap_three w (.cells #[.int .i64 t.k,.int .i64 t.i,.int .i64 t.j,.int .i64 t.n,.slice a t.kids.length cap] 24) (.cells #[.int .i64 0,.int .i64 0,.int .i64 0,.int .i64 0,.slice none 0 0] 24) (.cells #[.int .i64 0,.int .i64 1,.int .i64 2] 3)
    have hti:=liesI_new (l:=[(0:Int),(1:Int),(2:Int)]) q2 (by decide)
    have CALL:=Lib.hid (plain_of t IH.out HRK.out 20 [0,1,2] hpk (by decide) _ _ _ (HL.out.keep hb3) hti)
    have HRES:=Lib.hid hres
    clear hti hpk hres q2 q0
    have e3:(t.k==3)=false:=by rw [hkc];decide
    have e4:(t.k==4)=false:=by rw [hkc];decide
    have e5:(t.k==5)=false:=by rw [hkc];decide
    have e6:(t.k==6)=false:=by rw [hkc];decide
    have e7:(t.k==7)=false:=by rw [hkc];decide
    have e8:(t.k==8)=false:=by rw [hkc];decide
    have e9:(t.k==9)=false:=by rw [hkc];decide
    have e10:(t.k==10)=true:=by rw [hkc];decide
    clear hkc
    go_enter Try.func56,Try.ntmps56
    go_wp2_with fail
    refine CALL.out.mono ?_
    rintro e wn ⟨s2,rfl,hl2,hbn⟩
    obtain⟨a2,cap2,rfl,-,-⟩:=hl2.out
    have hbw:=hb3.trans (hbn.mono hb3.size)
    have q1n:=hbn.block (w.heap.size+1) (by simp)
    rw [q1] at q1n
    obtain⟨z0,z1,z2,z3,z4⟩:=five_cells q1n
    obtain⟨f0,f1,f2,f3,f4⟩:=five_free q1n
    have HL2:=Lib.hid hl2
    clear hbn hl2 q1
    go_wp2
    (try simp only [Exit.inBlock,Exit.then])
    refine bodyPost_ret (results_cell_row rfl _ _ (w.heap.size+1) _ _ _ du rfl (five_set q1n) hu1 (by cases du<;>first | rfl | exact hu2) size_term) rfl ?_
    rw [HRES.out]
    exact⟨_,rfl,liesP_fives HL2.out (by simp<;>omega) (by simp<;>omega) _ _ _ _ _,below_five hbw (by omega) _ _ _ _ _⟩
   ·have hpk:∀ p ∈ ([0,1]:List Nat),p<t.kids.length:=by
     have hlen:=node_length (t.right_node HR0.out)
     rw [hkc] at hlen
     have h9:t.kids.length=2:=by simp [kidsN] at hlen;omega
     intro p hp
     simp at hp
     omega
    have hres:=bare_pick t 11 [0,1] hkc rfl rfl hpk
    have hb3:=below_three w (.cells #[.int .i64 t.k,.int .i64 t.i,.int .i64 t.j,.int .i64 t.n,.slice a t.kids.length cap] 24) (.cells #[.int .i64 0,.int .i64 0,.int .i64 0,.int .i64 0,.slice none 0 0] 24) (.cells #[.int .i64 0,.int .i64 1] 3)
    obtain⟨q0,q1,q2,-⟩:=heap_three w (.cells #[.int .i64 t.k,.int .i64 t.i,.int .i64 t.j,.int .i64 t.n,.slice a t.kids.length cap] 24) (.cells #[.int .i64 0,.int .i64 0,.int .i64 0,.int .i64 0,.slice none 0 0] 24) (.cells #[.int .i64 0,.int .i64 1] 3)
    have hti:=liesI_new (l:=[(0:Int),(1:Int)]) q2 (by decide)
    have CALL:=Lib.hid (plain_of t IH.out HRK.out 21 [0,1] hpk (by decide) _ _ _ (HL.out.keep hb3) hti)
    have HRES:=Lib.hid hres
    clear hti hpk hres q2 q0
    have e3:(t.k==3)=false:=by rw [hkc];decide
    have e4:(t.k==4)=false:=by rw [hkc];decide
    have e5:(t.k==5)=false:=by rw [hkc];decide
    have e6:(t.k==6)=false:=by rw [hkc];decide
    have e7:(t.k==7)=false:=by rw [hkc];decide
    have e8:(t.k==8)=false:=by rw [hkc];decide
    have e9:(t.k==9)=false:=by rw [hkc];decide
    have e10:(t.k==10)=false:=by rw [hkc];decide
    have e11:(t.k==11)=true:=by rw [hkc];decide
    clear hkc
    go_enter Try.func56,Try.ntmps56
    go_wp2_with fail
    refine CALL.out.mono ?_
    rintro e wn ⟨s2,rfl,hl2,hbn⟩
    obtain⟨a2,cap2,rfl,-,-⟩:=hl2.out
    have hbw:=hb3.trans (hbn.mono hb3.size)
    have q1n:=hbn.block (w.heap.size+1) (by simp)
    rw [q1] at q1n
    obtain⟨z0,z1,z2,z3,z4⟩:=five_cells q1n
    obtain⟨f0,f1,f2,f3,f4⟩:=five_free q1n
    have HL2:=Lib.hid hl2
    clear hbn hl2 q1
    go_wp2
    (try simp only [Exit.inBlock,Exit.then])
    refine bodyPost_ret (results_cell_row rfl _ _ (w.heap.size+1) _ _ _ du rfl (five_set q1n) hu1 (by cases du<;>first | rfl | exact hu2) size_term) rfl ?_
    rw [HRES.out]
    exact⟨_,rfl,liesP_fives HL2.out (by simp<;>omega) (by simp<;>omega) _ _ _ _ _,below_five hbw (by omega) _ _ _ _ _⟩
   ·have hpk:∀ p ∈ ([0,1,2,3]:List Nat),p<t.kids.length:=by
     have hlen:=node_length (t.right_node HR0.out)
     rw [hkc] at hlen
     have h9:t.kids.length=4:=by simp [kidsN] at hlen;omega
     intro p hp
     simp at hp
     omega
    have hres:=bare_pick t 12 [0,1,2,3] hkc rfl rfl hpk
    have hb3:=below_three w (.cells #[.int .i64 t.k,.int .i64 t.i,.int .i64 t.j,.int .i64 t.n,.slice a t.kids.length cap] 24) (.cells #[.int .i64 0,.int .i64 0,.int .i64 0,.int .i64 0,.slice none 0 0] 24) (.cells #[.int .i64 0,.int .i64 1,.int .i64 2,.int .i64 3] 3)
    obtain⟨q0,q1,q2,-⟩:=heap_three w (.cells #[.int .i64 t.k,.int .i64 t.i,.int .i64 t.j,.int .i64 t.n,.slice a t.kids.length cap] 24) (.cells #[.int .i64 0,.int .i64 0,.int .i64 0,.int .i64 0,.slice none 0 0] 24) (.cells #[.int .i64 0,.int .i64 1,.int .i64 2,.int .i64 3] 3)
    have hti:=liesI_new (l:=[(0:Int),(1:Int),(2:Int),(3:Int)]) q2 (by decide)
    have CALL:=Lib.hid (plain_of t IH.out HRK.out 23 [0,1,2,3] hpk (by decide) _ _ _ (HL.out.keep hb3) hti)
    have HRES:=Lib.hid hres
    clear hti hpk hres q2
    have e3:(t.k==3)=false:=by rw [hkc];decide
    have e4:(t.k==4)=false:=by rw [hkc];decide
    have e5:(t.k==5)=false:=by rw [hkc];decide
    have e6:(t.k==6)=false:=by rw [hkc];decide
    have e7:(t.k==7)=false:=by rw [hkc];decide
    have e8:(t.k==8)=false:=by rw [hkc];decide
    have e9:(t.k==9)=false:=by rw [hkc];decide
    have e10:(t.k==10)=false:=by rw [hkc];decide
    have e11:(t.k==11)=false:=by rw [hkc];decide
    have e12:(t.k==12)=true:=by rw [hkc];decide
    clear hkc
    go_enter Try.func56,Try.ntmps56
    go_wp2_with fail
    refine CALL.out.mono ?_
    rintro e wn ⟨s2,rfl,hl2,hbn⟩
    obtain⟨a2,cap2,rfl,-,-⟩:=hl2.out
    have hbw:=hb3.trans (hbn.mono hb3.size)
    have q1n:=hbn.block (w.heap.size+1) (by simp)
    rw [q1] at q1n
    obtain⟨z0,z1,z2,z3,z4⟩:=five_cells q1n
    obtain⟨f0,f1,f2,f3,f4⟩:=five_free q1n
    have HL2:=Lib.hid hl2
    have q0n:=hbn.block w.heap.size (by simp;omega)
    rw [q0] at q0n
    obtain⟨d0,d1,d2,d3,d4⟩:=five_cells q0n
    have hsn:w.heap.size+1<wn.heap.size:=by have:=(Array.getElem?_eq_some_iff.1 q1n).1;exact this
    have hsn0:w.heap.size<wn.heap.size:=by omega
    clear hbn hl2 q1
    go_wp2_with fail
    go_region
    all_goals
     go_wp2
     refine bodyPost_ret (results_cell_row rfl _ _ (w.heap.size+1) _ _ _ du rfl (five_alloc q1n _ _ _ _ _ _) hu1 (by cases du<;>first | rfl | exact hu2) size_term) rfl ?_
     rw [HRES.out]
     exact⟨_,rfl,(liesP_fives_alloc HL2.out (by simp<;>omega) (by simp<;>omega) _ _ _ _ _ _).later (Below.refl _ _).drew,(below_five_alloc hbw (by omega) (by omega) _ _ _ _ _ _).drew⟩
  ·have hres:t.bare=.mk t.k t.i t.j t.n (t.kids.map Tm.bare):=by rw [Tm.bare_eq,bareNode,if_neg hmk]
   have HRES:=Lib.hid hres
   have e3:(t.k==3)=false:=by simp;omega
   have e4:(t.k==4)=false:=by simp;omega
   have e5:(t.k==5)=false:=by simp;omega
   have e6:(t.k==6)=false:=by simp;omega
   have e7:(t.k==7)=false:=by simp;omega
   have e8:(t.k==8)=false:=by simp;omega
   have e9:(t.k==9)=false:=by simp;omega
   have e10:(t.k==10)=false:=by simp;omega
   have e11:(t.k==11)=false:=by simp;omega
   have e12:(t.k==12)=false:=by simp;omega
   have hd0:=desk_start w t t (.slice a t.kids.length cap) (.slice none 0 0)
   obtain⟨i0,hi,hz0,hz1,hz2⟩:=info_parts info_term
   have HI:=Lib.hid (And.intro hi (And.intro hz0 (And.intro hz1 hz2)))
   clear hi hz0 hz1 hz2 hres hmk hkind
   go_enter Try.func56,Try.ntmps56
   go_wp2_with fail
   go_loopw [76] (fun i wr=>∃ (q:Nat) (ps:List (Tm × Value)) (vv:Value),q≤t.kids.length∧i=.int .i64 q∧Hid (ps.map (·.1)=(t.kids.map Tm.bare).take q)∧Made (w.heap.size+3) wr vv ps∧Desk w t t (.slice a t.kids.length cap) vv wr) (fun i _=>t.kids.length-(intOf i).toNat)
   case atStart=>exact⟨0,[],_,Nat.zero_le _,rfl,by simp [Hid],made_nil _ _,hd0⟩
   case round =>
    clear hd0
    obtain⟨q,ps,vv,hq0,rfl,hps,hmade,hdk⟩:=hrel
    have HPS:=Lib.hid hps.out
    clear hps
    obtain⟨q0,q1,q2⟩:=desk_blocks hdk
    obtain⟨d0,d1,d2,d3,d4⟩:=five_cells q0
    obtain⟨y0,y1,y2,y3,y4⟩:=five_cells q2
    obtain⟨z0,z1,z2,z3,z4⟩:=five_cells q1
    obtain⟨f0,f1,f2,f3,f4⟩:=five_free q1
    have hsz:=desk_size hdk
    have hsw:w.heap.size+1+1<wr.heap.size:=by omega
    clear q0 q2
    by_cases hlt:q<t.kids.length
    ·obtain⟨b',o,rfl,hx⟩:=HN.out q hlt
     have hq:=HK.out q hlt
     obtain⟨a',cap',S',hS,-⟩:=hq.out
     rw [hS] at hx hq
     obtain⟨c0,c1,c2,c3,c4⟩:=hx.below (desk_under hdk) hx.lt
     have HM:=Lib.hid (List.getElem_mem hlt)
     have hrk:=HRK.out _ HM.out
     have hfx:=right_fine (plain_right (bare_plain _ hrk))
     obtain⟨x,hxb⟩:∃ x,(t.kids[q]).bare=x:=⟨_,rfl⟩
     have hb9:Below wr.heap.size wr (wr.alloc (.cells #[.int .i64 t.kids[q].k,.int .i64 t.kids[q].i,.int .i64 t.kids[q].j,.int .i64 t.kids[q].n,.slice a' t.kids[q].kids.length cap'] 24)).drew:=((Below.refl _ _).alloc (Nat.le_refl _) _).drew
     have CALL:=IH.out _ HM.out _ _ (hq.keep ((desk_under hdk).trans (hb9.mono (by omega)))) hrk
     rw [hxb] at CALL hfx
     have hpl:ps.length=q:=by have:=congrArg List.length HPS.out;simp at this;omega
     have hnext:(t.kids.map Tm.bare).take (q+1)=(t.kids.map Tm.bare).take q++[x]:=by
      rw [List.take_succ_eq_append_getElem (by simpa using hlt),List.getElem_map,hxb]
     have HPL:=Lib.hid hpl
     have HMD:=Lib.hid hmade
     have HFX:=Lib.hid hfx
     have HNX:=Lib.hid hnext
     have HB9:=Lib.hid hb9
     have HCALL:=Lib.hid CALL
     have hda:=desk_later hdk ((Below.refl _ _).alloc (Nat.le_refl _) (.cells #[.int .i64 t.kids[q].k,.int .i64 t.kids[q].i,.int .i64 t.kids[q].j,.int .i64 t.kids[q].n,.slice a' t.kids[q].kids.length cap'] 24))
     obtain⟨-,-,r2⟩:=desk_blocks hda
     obtain⟨-,-,-,-,r4⟩:=five_cells r2
     clear hS hq hx hfx hxb hrk hpl hnext hmade CALL hb9 hda r2
     go_wp2_with fail
     go_region_law (first | (refine step_append_lies _ rfl _ _ 22 rfl (w.heap.size+3) 24 i0 _ 5 56 (by kernel_rfl) HI.out.1 HI.out.2.1 HI.out.2.2.1 HI.out.2.2.2 rfl (by decide) _ ps.length (cells5 ps) rfl (made_later (made_later HMD.out HB2.out) ((Below.refl _ _).alloc (Nat.le_refl _) _)).own ⟨wn.heap.size,0,none⟩ 1 1 (cells5 [(x,.slice a2 x.kids.length cap2)]) rfl rfl (news_new _ _ _ _) (one5 _ _) (by decide) (by have:=HPL.out;unfold maxLen;omega) (by have:=HPL.out;omega) (by have:=desk_size hd2;simp;omega) _ rfl ?_;intro g cap3 w3 hown hgrow hat _;have hpb:=push_once hdk HMD.out HFX.out HB2.out HL2.out _ hown hgrow hat;have HPB:=Lib.hid hpb.1;have hd3:=hpb.2;have HD3:=Lib.hid hd3;obtain⟨-,-,r3⟩:=desk_blocks hd3;obtain⟨-,-,-,-,r4⟩:=five_cells r3;obtain⟨-,-,-,-,s4⟩:=five_free r3;clear r3 hpb hown hgrow hat hd3) | (go_simp;go_at_call 56;((with_reducible refine Calls.mono HCALL.out ?_);rintro e wn ⟨s2,rfl,hl2,hbn⟩;obtain⟨a2,cap2,rfl,-,-⟩:=hl2.out;have hbn2:=HB9.out.trans (hbn.mono HB9.out.size);have hd2:=desk_later hdk hbn2;obtain⟨-,-,r2⟩:=desk_blocks hd2;obtain⟨-,-,-,-,r4⟩:=five_cells r2;have HL2:=Lib.hid (hl2.from (B':=wr.heap.size) (by simp<;>omega));have HB2:=Lib.hid hbn2;have hsn:w.heap.size+1+1<wn.heap.size:=(by have:=desk_size hd2;omega);clear r2 hl2 hbn hbn2)))
     all_goals
      go_wp2_with fail
      go_roundw
      case rel=>exact⟨q+1,ps++[(x,.slice a2 x.kids.length cap2)],_,hlt,by go_num,by rw [Hid,List.map_append,HPS.out,HNX.out];rfl,made_below HPB.out (by omega) _,desk_set HD3.out⟩
      case measure=>simp [intOf];omega
    ·have:q=t.kids.length:=by omega
     subst this
     have hres:ps.map (·.1)=t.kids.map Tm.bare:=by
      have:=HPS.out
      rwa [List.take_of_length_le (by simp)] at this
     have hll:=made_lies hmade
     rw [hres] at hll
     obtain⟨a2,cap2,rfl,-,-⟩:=hll.out
     simp only [List.length_map] at hll hdk y4
     have HLL:=Lib.hid hll
     clear hres hll
     go_wp2
     (try simp only [Exit.inBlock,Exit.then])
     refine bodyPost_ret (results_cell_row rfl _ _ (w.heap.size+1) _ _ _ du rfl (five_set q1) hu1 (by cases du<;>first | rfl | exact hu2) size_term) rfl ?_
     rw [HRES.out]
     exact⟨_,rfl,liesP_fives HLL.out (by omega) (by omega) _ _ _ _ _,below_five (desk_under hdk) (by omega) _ _ _ _ _⟩
end Go.Proofs.Ytpdinlejmlbbeaa

namespace Go.Proofs.Ytpdinlejmlbbeaa
open Go.RowKit
theorem boxes_two {w w':World} {t:Tm} {s:Value} (h:Boxes w t s w'):w'.heap[w.heap.size]? =some (boxOf t s)∧w'.heap[w.heap.size+1]? =some zeroObj:=by
 refine⟨?_,boxes_block h⟩
 rw [Below.block h _ (by omega),Below.heap_alloc _ _ _ (by simp),alloc_new]
end Go.Proofs.Ytpdinlejmlbbeaa

namespace Go.Proofs.Ytpdinlejmlbbeaa
open Go.RowKit
def Row (w:World) (b:Nat):Nat→List (Tm × Value)→Prop
 | _,[]=>True
 | o,(t,s)::r=>Node w b o t s∧t.fine∧Lies w t.kids s∧Row w b (o+5) r
theorem Row.at {w:World} {b:Nat} {ps:List (Tm × Value)}:∀ {o:Nat},Row w b o ps→∀ i (h:i<ps.length),Node w b (o+i * 5) (ps[i]).1 (ps[i]).2∧(ps[i]).1.fine∧Lies w (ps[i]).1.kids (ps[i]).2:=by
 induction ps with
 | nil=>intro o _ i h;simp at h
 | cons p r ih =>
  intro o hr i h
  cases i with
  | zero=>exact⟨by simpa using hr.1,hr.2.1,hr.2.2.1⟩
  | succ i =>
   have:=ih hr.2.2.2 i (by simpa using h)
   rw [show o+5+i * 5=o+(i+1) * 5 by omega] at this
   simpa using this
theorem Row.lies {w:World} {b o cap:Nat} {ps:List (Tm × Value)} (h:Row w b o ps) (hc:ps.length≤cap) (hm:cap≤maxLen):Lies w (ps.map (·.1)) (.slice (some ⟨b,o,none⟩) ps.length cap):=by
 have:=Lies.mk (w:=w) (ps.map (·.1)) (some ⟨b,o,none⟩) cap (fun i=>(ps[i]?.map (·.2)).getD (.slice none 0 0)) (by simpa using hc) hm
  (fun x hx=>by
    obtain⟨p,hp,rfl⟩:=List.mem_map.1 hx
    obtain⟨i,hi,rfl⟩:=List.getElem_of_mem hp
    exact(h.at i hi).2.1)
  (fun i hi=>by
    have hi':i<ps.length:=by simpa using hi
    refine⟨b,o,rfl,?_⟩
    simp only [List.getElem_map,List.getElem?_eq_getElem hi',Option.map_some,Option.getD_some]
    exact(h.at i hi').1)
  (fun i hi=>by
    have hi':i<ps.length:=by simpa using hi
    simp only [List.getElem_map,List.getElem?_eq_getElem hi',Option.map_some,Option.getD_some]
    exact(h.at i hi').2.2)
 simpa using this
end Go.Proofs.Ytpdinlejmlbbeaa

namespace Go.Proofs.Ytpdinlejmlbbeaa
theorem marked_node {t:Tm} (h:t.markedB=true):t.nodeB=true:=Tm.right_node (marked_right h)
theorem marked_kind {t:Tm} (h:t.markedB=true):1≤t.k∧t.k≤12:=by rw [Tm.markedB_eq] at h;simp at h;omega
theorem marked_tr {t:Tm} (h:t.markedB=true) (hk:t.k=12):∃ a b p x,t.kids=[a,b,p,x]∧a.markedB=true∧b.markedB=true∧p.plainB=true∧x.markedB=true:=by
 have hn:=marked_node h
 rcases marked_shape hn (by omega) (by omega) with ⟨h1,-⟩ | ⟨h1,-⟩ | ⟨-,a,b,p,x,hkids⟩
 ·omega
 ·omega
 ·refine⟨a,b,p,x,hkids,?_⟩
  rw [Tm.markedB_eq,hkids,hk] at h
  simp [markeds] at h
  exact⟨h.2.1,h.2.2.1,h.2.2.2.1,h.2.2.2.2⟩
theorem marked_others {t:Tm} (h:t.markedB=true) (hk:t.k≠12):∀ x ∈ t.kids,x.markedB=true:=by
 rw [Tm.markedB_eq] at h
 have e:(t.k==12)=false:=by simpa using hk
 rw [e] at h
 simp only [Bool.and_eq_true] at h
 have key:∀ (l:List Tm) (p:Nat),markeds false p l=true→∀ x ∈ l,x.markedB=true:=by
  intro l
  induction l with
  | nil=>intro p _ x hx;cases hx
  | cons a r ih =>
   intro p hm x hx
   simp only [markeds,Bool.false_and,Bool.and_eq_true] at hm
   rcases List.mem_cons.1 hx with rfl | hx
   ·simpa using hm.1
   ·exact ih _ hm.2 x hx
 exact key _ _ h.2.2
end Go.Proofs.Ytpdinlejmlbbeaa

namespace Go.Proofs.Ytpdinlejmlbbeaa
open Go.RowKit
structure Pair (w:World) (x:Tm) (s:Value) (w':World):Prop where
 under:Below w.heap.size w w'
 box:w'.heap[w.heap.size]? =some (boxOf x s)
 res:w'.heap[w.heap.size+1]? =some zeroObj
theorem Pair.put {w w1:World} {x:Tm} {s:Value} (h:Pair w x s w1) (y:Tm) (sy:Value):Pair w y sy (five w1 w.heap.size (.int .i64 y.k) (.int .i64 y.i) (.int .i64 y.j) (.int .i64 y.n) sy) :=
 ⟨below_five h.under (Nat.le_refl _) _ _ _ _ _,five_set h.box,by rw [five_other _ _ _ _ _ _ _ (by omega)];exact h.res⟩
end Go.Proofs.Ytpdinlejmlbbeaa

namespace Go.Proofs.Ytpdinlejmlbbeaa
open Go.RowKit
structure Two (w:World) (x:Tm) (s:Value) (y:Tm) (r:Value) (w':World):Prop where
 under:Below w.heap.size w w'
 one:w'.heap[w.heap.size]? =some (boxOf x s)
 two:w'.heap[w.heap.size+1]? =some (boxOf y r)
theorem Two.call {w w1 w2:World} {x y:Tm} {s r:Value} (h:Two w x s y r w1) (hb:Below w1.heap.size w1 w2):Two w x s y r w2 :=
 ⟨h.under.trans (hb.mono h.under.size),by rw [hb.block _ (block_lt h.one)];exact h.one,by rw [hb.block _ (block_lt h.two)];exact h.two⟩
theorem Two.drew {w w1:World} {x y:Tm} {s r:Value} (h:Two w x s y r w1):Two w x s y r w1.drew:=⟨h.under.drew,h.one,h.two⟩
theorem Two.put {w w1:World} {x y:Tm} {s r:Value} (h:Two w x s y r w1) (p:Tm) (sp:Value) (q:Tm) (sq:Value):Two w p sp q sq (five (five w1 w.heap.size (.int .i64 p.k) (.int .i64 p.i) (.int .i64 p.j) (.int .i64 p.n) sp) (w.heap.size+1) (.int .i64 q.k) (.int .i64 q.i) (.int .i64 q.j) (.int .i64 q.n) sq) :=
 ⟨below_five (below_five h.under (Nat.le_refl _) _ _ _ _ _) (by omega) _ _ _ _ _,by rw [five_other _ _ _ _ _ _ _ (by omega)];exact five_set h.one,five_set (by rw [five_other _ _ _ _ _ _ _ (by omega)];exact h.two)⟩
end Go.Proofs.Ytpdinlejmlbbeaa

namespace Go.Proofs.Ytpdinlejmlbbeaa
open Go.RowKit
set_option maxHeartbeats 1000000 in
theorem refnode_any (t:Tm) (w:World) (s:Value) (hl:Lies w t.kids s):Calls Try.prog 69 #[tv t s] w fun e w'=>e=.returned (.bool t.nodeB)∧Below w.heap.size w w':=by
 obtain⟨a,cap,S,hs,hc,hm,-⟩:=hl.out
 subst hs
 unfold maxLen at hm
 have HB:=(Below.refl (w.heap.size+1) (w.alloc (.cells #[.int .i64 t.k,.int .i64 t.i,.int .i64 t.j,.int .i64 t.n,.slice a t.kids.length cap] 24)))
 have HBX:=Lib.hid (fun(wr:World)=>box_cells (w:=w) (wr:=wr) (v0:=.int .i64 t.k) (v1:=.int .i64 t.i) (v2:=.int .i64 t.j) (v3:=.int .i64 t.n) (v4:=.slice a t.kids.length cap) (T:=24))
 clear hl
 unfold tv
 go_enter Try.func69,Try.ntmps69
 cases h3:((t.kids.length:Int)==kidsN t.k t.n)
 ·go_wp2
  go_region_with (go_at_call 76;refine(refkids_any _ _ _).mono ?_;rintro e w1 ⟨rfl,hb1⟩;have HB2:=below_call HB.drew hb1 (by simp);obtain⟨d0,d1,d2,d3,d4⟩:=HBX.out _ HB2;clear hb1)
  all_goals
   go_wp2
   go_ret
   exact⟨ret_bool (by simp only [Tm.nodeB,h3,Bool.false_and]),below_of_box HB2⟩
 ·go_wp2
  go_region_held3 (fun w'=>w'.cell? ⟨w.heap.size,0,none⟩=some (.int .i64 t.k)∧w'.cell? ⟨w.heap.size,1,none⟩=some (.int .i64 t.i)∧w'.cell? ⟨w.heap.size,2,none⟩=some (.int .i64 t.j)∧w'.cell? ⟨w.heap.size,3,none⟩=some (.int .i64 t.n)∧w'.cell? ⟨w.heap.size,4,none⟩=some (.slice a t.kids.length cap)) (go_keep)
   (first | (go_at_call 76;refine(refkids_any _ _ _).mono ?_;rintro e w1 ⟨rfl,hb1⟩;have HB2:=below_call HB.drew hb1 (by simp);obtain⟨d0,d1,d2,d3,d4⟩:=HBX.out _ HB2;clear hb1) | (go_at_call 77;refine(refnumbers_any t _ _).mono ?_;rintro e w2 ⟨rfl,hb2⟩;have HB3:=below_call HB2 hb2 (by have:=HB2.size;simpa using this);obtain⟨y0,y1,y2,y3,y4⟩:=HBX.out _ HB3;clear hb2))
  go_wp2
  go_ret
  exact⟨ret_bool (by simp only [Tm.nodeB,h3,Bool.true_and]),below_of_box HB3⟩
set_option maxHeartbeats 1000000 in
theorem refplain_any (t:Tm):∀ (w:World) (s:Value),Lies w t.kids s→Calls Try.prog 60 #[tv t s] w fun e w'=>e=.returned (.bool t.plainB)∧Below w.heap.size w w':=by
 induction t using Tm.ind with
 | h t ih =>
  intro w s hl
  obtain⟨a,cap,S,rfl,hc,hm,hf,hn,hk⟩:=hl.out
  unfold tv
  unfold maxLen at hm
  have HL:=Lib.hid ((hl.keep (w':=w.alloc (.cells #[.int .i64 t.k,.int .i64 t.i,.int .i64 t.j,.int .i64 t.n,.slice a t.kids.length cap] 24)) ((Below.refl _ _).alloc (Nat.le_refl _) _)))
  have HP:=Lib.hid (t.plainB_eq)
  have IH:=Lib.hid ih
  have HN:=Lib.hid hn
  have HK:=Lib.hid hk
  have HBX:=Lib.hid (fun(wr:World)=>box_cells (w:=w) (wr:=wr) (v0:=.int .i64 t.k) (v1:=.int .i64 t.i) (v2:=.int .i64 t.j) (v3:=.int .i64 t.n) (v4:=.slice a t.kids.length cap) (T:=24))
  clear ih hn hk hf hl
  by_cases hkind:t.k=1∨t.k=2∨(13≤t.k∧t.k≤23)
  rotate_left
  ·have h1:(t.k==1)=false:=by simp;omega
   have h2:(t.k==2)=false:=by simp;omega
   have h5:t.plainB=false:=by rw [HP.out,h1,h2];simp;omega
   have H5:=Lib.hid h5
   clear h5
   have h1':(t.k != 1)=true:=by simp;omega
   have h2':(t.k != 2)=true:=by simp;omega
   have h3:t.k<13∨23<t.k:=by omega
   rcases h3 with h3 | h3
   all_goals
    go_enter Try.func60,Try.ntmps60
    go_wp2
    go_ret
    exact⟨ret_bool H5.out.symm,(Below.refl _ _).alloc (Nat.le_refl _) _⟩
  have hkb:(t.k==1||(t.k==2||(decide (13≤t.k)&&decide (t.k≤23))))=true:=by simp;omega
  have HP2:Hid (t.plainB=(t.nodeB&&plains t.kids)):=by have:=HP.out;rw [hkb,Bool.true_and] at this;exact this
  clear hkb
  have hk3:t.k=1∨t.k=2∨(¬ t.k=1∧¬ t.k=2∧13≤t.k∧t.k≤23):=by omega
  have hb3:((t.k != 1)=false)∨((t.k != 1)=true∧(t.k != 2)=false)∨((t.k != 1)=true∧(t.k != 2)=true∧13≤t.k∧t.k≤23):=by
   rcases hk3 with h | h | h
   ·left;simp [h]
   ·right;left;simp [h]
   ·right;right;simp;omega
  clear hk3 hkind
  cases hn:t.nodeB with
  | false =>
   have h5:t.plainB=false:=by rw [HP2.out,hn];rfl
   have H5:=Lib.hid h5
   have HNN:=Lib.hid hn
   clear h5 hn
   rcases hb3 with h1 | ⟨h1,h2⟩ | ⟨h1,h2,h3,h4⟩
   all_goals
    go_enter Try.func60,Try.ntmps60
    go_wp2_with fail
    refine(refnode_any t _ _ HL.out).mono ?_
    rintro e w1 ⟨rfl,hb'⟩
    have HB2:=below_call (Below.refl (w.heap.size+1) (w.alloc (.cells #[.int .i64 t.k,.int .i64 t.i,.int .i64 t.j,.int .i64 t.n,.slice a t.kids.length cap] 24))) hb' (by simp)
    obtain⟨d0,d1,d2,d3,d4⟩:=HBX.out _ HB2
    clear hb'
    rw [HNN.out]
    go_wp2
    go_ret
    exact⟨ret_bool H5.out.symm,below_of_box HB2⟩
  | true =>
   have HNN:=Lib.hid hn
   clear hn
   rcases hb3 with h1 | ⟨h1,h2⟩ | ⟨h1,h2,h3,h4⟩
   all_goals
    go_enter Try.func60,Try.ntmps60
    go_wp2_with fail
    refine(refnode_any t _ _ HL.out).mono ?_
    rintro e w1 ⟨rfl,hb'⟩
    have HB2:=below_call (Below.refl (w.heap.size+1) (w.alloc (.cells #[.int .i64 t.k,.int .i64 t.i,.int .i64 t.j,.int .i64 t.n,.slice a t.kids.length cap] 24))) hb' (by simp)
    obtain⟨d0,d1,d2,d3,d4⟩:=HBX.out _ HB2
    clear hb'
    rw [HNN.out]
    go_wp2_with fail
    go_loopw [3] (fun iv wr=>∃ k:Nat,k≤t.kids.length∧iv=.int .i64 k∧Hid (plains (t.kids.take k)=true)∧Below (w.heap.size+1) (w.alloc (.cells #[.int .i64 t.k,.int .i64 t.i,.int .i64 t.j,.int .i64 t.n,.slice a t.kids.length cap] 24)) wr) (fun iv _=>t.kids.length-(intOf iv).toNat)
    case atStart=>exact⟨0,Nat.zero_le _,rfl,by simp [Hid,plains],HB2⟩
    case round =>
     obtain⟨k,hk,rfl,hgood,hb⟩:=hrel
     obtain⟨d0,d1,d2,d3,d4⟩:=HBX.out _ hb
     have hb0:=below_of_box hb
     by_cases hlt:k<t.kids.length
     ·obtain⟨b,o,rfl,hx⟩:=HN.out k hlt
      have hy:=hx.below hb0 hx.lt
      obtain⟨c0,c1,c2,c3,c4⟩:=hy
      have hq:=HK.out k hlt
      obtain⟨a',cap',S',hS,-⟩:=hq.out
      rw [hS] at c4 hq
      have HQ:=Lib.hid (hq.keep hb0)
      clear hS hq
      have HM:=Lib.hid (List.getElem_mem hlt)
      have HT:=Lib.hid (plains_take t.kids k hlt)
      go_wp2_with fail
      refine(IH.out _ HM.out _ _ HQ.out).mono ?_
      rintro e w2 ⟨rfl,hb'⟩
      have HB3:=below_call hb hb' (by have:=hb.size;simpa using this)
      obtain⟨x0,x1,x2,x3,x4⟩:=HBX.out _ HB3
      clear hb' hb d0 d1 d2 d3 d4 hb0 c0 c1 c2 c3 c4
      cases hp:(t.kids[k]).plainB
      ·go_wp2
       go_ret
       exact⟨ret_bool (by rw [HP2.out,plains_of t.kids k hlt hp,Bool.and_false]),below_of_box HB3⟩
      ·go_wp2
       go_roundw
       case rel=>exact⟨k+1,by omega,by go_num,by show _=true;rw [HT.out,hgood.out,hp];rfl,HB3⟩
       case measure=>simp [intOf];omega
     ·have:k=t.kids.length:=by omega
      subst this
      go_wp2
      go_ret
      exact⟨ret_bool (by have hg:=hgood.out;rw [List.take_length] at hg;rw [HP2.out,HNN.out,hg];rfl),hb0⟩
end Go.Proofs.Ytpdinlejmlbbeaa

namespace Go.Proofs.Ytpdinlejmlbbeaa
open Go.RowKit
set_option maxHeartbeats 1000000 in
theorem refmarked_any (t:Tm):∀ (w:World) (s:Value),Lies w t.kids s→Calls Try.prog 61 #[tv t s] w fun e w'=>e=.returned (.bool t.markedB)∧Below w.heap.size w w':=by
 induction t using Tm.ind with
 | h t ih =>
  intro w s hl
  obtain⟨a,cap,S,rfl,hc,hm,hf,hn,hk⟩:=hl.out
  unfold tv
  unfold maxLen at hm
  have HL:=Lib.hid ((hl.keep (w':=w.alloc (.cells #[.int .i64 t.k,.int .i64 t.i,.int .i64 t.j,.int .i64 t.n,.slice a t.kids.length cap] 24)) ((Below.refl _ _).alloc (Nat.le_refl _) _)))
  have HP:=Lib.hid (t.markedB_eq)
  have IH:=Lib.hid ih
  have HN:=Lib.hid hn
  have HK:=Lib.hid hk
  have HBX:=Lib.hid (fun(wr:World)=>box_cells (w:=w) (wr:=wr) (v0:=.int .i64 t.k) (v1:=.int .i64 t.i) (v2:=.int .i64 t.j) (v3:=.int .i64 t.n) (v4:=.slice a t.kids.length cap) (T:=24))
  clear ih hn hk hf hl
  by_cases h1:t.k<1
  ·have H5:Hid (t.markedB=false):=by show _=_;rw [HP.out];simp;omega
   go_enter Try.func61,Try.ntmps61
   go_wp2
   go_ret
   exact⟨ret_bool H5.out.symm,(Below.refl _ _).alloc (Nat.le_refl _) _⟩
  by_cases h2:12<t.k
  ·have H5:Hid (t.markedB=false):=by show _=_;rw [HP.out];simp;omega
   go_enter Try.func61,Try.ntmps61
   go_wp2
   go_ret
   exact⟨ret_bool H5.out.symm,(Below.refl _ _).alloc (Nat.le_refl _) _⟩
  have hkb:(decide (1≤t.k)&&decide (t.k≤12))=true:=by simp;omega
  have HP2:Hid (t.markedB=(t.nodeB&&markeds (t.k==12) 0 t.kids)):=by have:=HP.out;rw [hkb,Bool.true_and] at this;exact this
  clear hkb
  cases hn:t.nodeB with
  | false =>
   have H5:Hid (t.markedB=false):=by show _=_;rw [HP2.out,hn];rfl
   have HNN:=Lib.hid hn
   clear hn
   go_enter Try.func61,Try.ntmps61
   go_wp2_with fail
   refine(refnode_any t _ _ HL.out).mono ?_
   rintro e w1 ⟨rfl,hb'⟩
   have HB2:=below_call (Below.refl (w.heap.size+1) (w.alloc (.cells #[.int .i64 t.k,.int .i64 t.i,.int .i64 t.j,.int .i64 t.n,.slice a t.kids.length cap] 24))) hb' (by simp)
   obtain⟨d0,d1,d2,d3,d4⟩:=HBX.out _ HB2
   clear hb'
   rw [HNN.out]
   go_wp2
   go_ret
   exact⟨ret_bool H5.out.symm,below_of_box HB2⟩
  | true =>
   have HNN:=Lib.hid hn
   clear hn
   go_enter Try.func61,Try.ntmps61
   go_wp2_with fail
   refine(refnode_any t _ _ HL.out).mono ?_
   rintro e w1 ⟨rfl,hb'⟩
   have HB2:=below_call (Below.refl (w.heap.size+1) (w.alloc (.cells #[.int .i64 t.k,.int .i64 t.i,.int .i64 t.j,.int .i64 t.n,.slice a t.kids.length cap] 24))) hb' (by simp)
   obtain⟨d0,d1,d2,d3,d4⟩:=HBX.out _ HB2
   clear hb'
   rw [HNN.out]
   go_wp2_with fail
   go_loopw [3] (fun iv wr=>∃ k:Nat,k≤t.kids.length∧iv=.int .i64 k∧Hid (markeds (t.k==12) 0 (t.kids.take k)=true)∧Below (w.heap.size+1) (w.alloc (.cells #[.int .i64 t.k,.int .i64 t.i,.int .i64 t.j,.int .i64 t.n,.slice a t.kids.length cap] 24)) wr) (fun iv _=>t.kids.length-(intOf iv).toNat)
   case atStart=>exact⟨0,Nat.zero_le _,rfl,by simp [Hid,markeds],HB2⟩
   case round =>
    obtain⟨k,hk,rfl,hgood,hb⟩:=hrel
    obtain⟨d0,d1,d2,d3,d4⟩:=HBX.out _ hb
    have hb0:=below_of_box hb
    by_cases hlt:k<t.kids.length
    ·obtain⟨b,o,rfl,hx⟩:=HN.out k hlt
     have hy:=hx.below hb0 hx.lt
     obtain⟨c0,c1,c2,c3,c4⟩:=hy
     have hq:=HK.out k hlt
     obtain⟨a',cap',S',hS,-⟩:=hq.out
     rw [hS] at c4 hq
     have HQ:=Lib.hid (hq.keep hb0)
     clear hS hq
     have HM:=Lib.hid (List.getElem_mem hlt)
     have HT:=Lib.hid (markeds_take (t.k==12) t.kids 0 k hlt)
     cases e12:(t.k==12)<;>cases e2:((k:Int)==2)
     rotate_right
     ·have e2':(k==2)=((k:Int)==2):=by rw [e2];simp at e2 ⊢;omega
      have hkB:(t.kids[k]).kidB (t.k==12) k=(t.kids[k]).plainB:=by simp [Tm.kidB,e12,e2',e2]
      have HKB:=Lib.hid hkB
      clear e2' hkB
      go_wp2_with fail
      refine(refplain_any _ _ _ HQ.out).mono ?_
      rintro e w2 ⟨rfl,hb'⟩
      have HB3:=below_call hb hb' (by have:=hb.size;simpa using this)
      obtain⟨x0,x1,x2,x3,x4⟩:=HBX.out _ HB3
      clear hb' hb d0 d1 d2 d3 d4 hb0 c0 c1 c2 c3 c4
      cases hp:(t.kids[k]).plainB
      ·go_wp2
       go_ret
       exact⟨ret_bool (by rw [HP2.out,markeds_of _ t.kids 0 k hlt (by rw [Nat.zero_add,HKB.out];exact hp),Bool.and_false]),below_of_box HB3⟩
      ·go_wp2
       go_roundw
       case rel=>exact⟨k+1,by omega,by go_num,by have h1:=HT.out;rw [hgood.out,Nat.zero_add,HKB.out,hp] at h1;show _=true;first | exact h1 | (rw [e12] at h1;exact h1),HB3⟩
       case measure=>simp [intOf];omega
     all_goals
      have e2':(k==2)=((k:Int)==2):=by rw [e2];simp at e2 ⊢;omega
      have hkB:(t.kids[k]).kidB (t.k==12) k=(t.kids[k]).markedB:=by simp [Tm.kidB,e12,e2',e2]
      have HKB:=Lib.hid hkB
      clear e2' hkB
      go_wp2_with fail
      refine(IH.out _ HM.out _ _ HQ.out).mono ?_
      rintro e w2 ⟨rfl,hb'⟩
      have HB3:=below_call hb hb' (by have:=hb.size;simpa using this)
      obtain⟨x0,x1,x2,x3,x4⟩:=HBX.out _ HB3
      clear hb' hb d0 d1 d2 d3 d4 hb0 c0 c1 c2 c3 c4
      cases hp:(t.kids[k]).markedB
      ·go_wp2
       go_ret
       exact⟨ret_bool (by rw [HP2.out,markeds_of _ t.kids 0 k hlt (by rw [Nat.zero_add,HKB.out];exact hp),Bool.and_false]),below_of_box HB3⟩
      ·go_wp2
       go_roundw
       case rel=>exact⟨k+1,by omega,by go_num,by have h1:=HT.out;rw [hgood.out,Nat.zero_add,HKB.out,hp] at h1;show _=true;first | exact h1 | (rw [e12] at h1;exact h1),HB3⟩
       case measure=>simp [intOf];omega
    ·have:k=t.kids.length:=by omega
     subst this
     go_wp2
     go_ret
     exact⟨ret_bool (by have hg:=hgood.out;rw [List.take_length] at hg;rw [HP2.out,HNN.out,hg];rfl),hb0⟩
end Go.Proofs.Ytpdinlejmlbbeaa

namespace Go.Proofs.Ytpdinlejmlbbeaa
open Go.RowKit
set_option maxHeartbeats 800000 in
theorem refright_any (t:Tm) (w:World) (s:Value) (hl:Lies w t.kids s):Calls Try.prog 49 #[tv t s] w fun e w'=>e=.returned (.bool t.rightB)∧Below w.heap.size w w':=by
 obtain⟨a,cap,S,hs,-⟩:=hl.out
 subst hs
 have HB:=(Below.refl (w.heap.size+1) (w.alloc (.cells #[.int .i64 t.k,.int .i64 t.i,.int .i64 t.j,.int .i64 t.n,.slice a t.kids.length cap] 24)))
 have HL:=Lib.hid (hl.keep (below_of_box HB))
 have HBX:=Lib.hid (fun(wr:World)=>box_cells (w:=w) (wr:=wr) (v0:=.int .i64 t.k) (v1:=.int .i64 t.i) (v2:=.int .i64 t.j) (v3:=.int .i64 t.n) (v4:=.slice a t.kids.length cap) (T:=24))
 have hl0:=Lib.hid hl
 clear hl
 unfold tv
 go_enter Try.func49,Try.ntmps49
 go_wp2_with fail
 refine(refmarked_any t _ _ HL.out).mono ?_
 rintro e w' ⟨rfl,hb'⟩
 have HB2:=below_call HB hb' (by simp)
 obtain⟨d0,d1,d2,d3,d4⟩:=HBX.out _ HB2
 clear hb'
 have HL2:=Lib.hid (hl0.out.keep (below_of_box HB2))
 cases hm:t.markedB
 ·go_wp2_with fail
  refine(refplain_any t _ _ HL2.out).mono ?_
  rintro e w2 ⟨rfl,hb'⟩
  have HB3:=below_call HB2 hb' (by have:=HB2.size;simpa using this)
  clear hb'
  go_wp2
  go_ret
  exact⟨ret_bool (by simp [Tm.rightB,hm]),below_of_box HB3⟩
 ·go_wp2
  go_ret
  exact⟨ret_bool (by simp [Tm.rightB,hm]),below_of_box HB2⟩
end Go.Proofs.Ytpdinlejmlbbeaa

namespace Go.Proofs.Ytpdinlejmlbbeaa
open Go.RowKit
def Tm.stripB (t:Tm):Tm:=if t.rightB=true then t.bare else .zero
set_option maxHeartbeats 2000000 in
theorem strip_any (t:Tm) (w:World) (s:Value) (hl:Lies w t.kids s):Calls Try.prog 41 #[tv t s] w (Makes t.stripB w):=by
 obtain⟨a,cap,S,rfl,hc,hm,-,-,-⟩:=hl.out
 have HL:=Lib.hid hl
 obtain⟨du,hu1,hu2⟩:=under_term
 have H0:=boxes_start w t (.slice a t.kids.length cap)
 clear hl
 unfold tv
 cases hr:t.rightB with
 | false =>
  have hres:=Lib.hid (show t.stripB=Tm.zero by unfold Tm.stripB;rw [if_neg (by rw [hr];decide)])
  go_enter Try.func41,Try.ntmps41
  go_wp2_with fail
  refine(right_any t _ _ (boxes_lies H0 HL.out)).mono ?_
  rw [hr]
  rintro e w2 ⟨rfl,hb2⟩
  have H2:=boxes_call H0 hb2
  obtain⟨-,q1⟩:=boxes_two H2
  obtain⟨d0,d1,d2,d3,d4⟩:=held_cells (boxes_held H2)
  obtain⟨z0,z1,z2,z3,z4⟩:=five_cells q1
  obtain⟨f0,f1,f2,f3,f4⟩:=five_free q1
  clear hb2 H0
  go_wp2
  refine bodyPost_ret (results_cell_row rfl _ _ (w.heap.size+1) _ _ _ du rfl (five_set q1) hu1 (by cases du<;>first | rfl | exact hu2) size_term) rfl ?_
  rw [hres.out]
  exact⟨.slice none 0 0,rfl,liesP_nil _ _,below_five (boxes_under H2) (by omega) _ _ _ _ _⟩
 | true =>
  have hres:=Lib.hid (show t.stripB=t.bare by unfold Tm.stripB;rw [if_pos hr])
  go_enter Try.func41,Try.ntmps41
  go_wp2_with fail
  refine(right_any t _ _ (boxes_lies H0 HL.out)).mono ?_
  rw [hr]
  rintro e w2 ⟨rfl,hb2⟩
  have H2:=boxes_call H0 hb2
  obtain⟨-,q1⟩:=boxes_two H2
  obtain⟨d0,d1,d2,d3,d4⟩:=held_cells (boxes_held H2)
  obtain⟨z0,z1,z2,z3,z4⟩:=five_cells q1
  obtain⟨f0,f1,f2,f3,f4⟩:=five_free q1
  clear hb2 H0
  go_wp2_with fail
  refine(sbare_any t w2 _ (boxes_lies H2 HL.out) hr).mono ?_
  rintro e w3 ⟨s3,rfl,hl3,hb3⟩
  obtain⟨a3,cap3,rfl,-,-⟩:=hl3.out
  have hs2:w.heap.size+2≤w2.heap.size:=by have:=Below.size H2;simpa using this
  have H3:=boxes_call H2 hb3
  clear q1 z0 z1 z2 z3 z4 f0 f1 f2 f3 f4
  obtain⟨-,q1⟩:=boxes_two H3
  obtain⟨z0,z1,z2,z3,z4⟩:=five_cells q1
  obtain⟨f0,f1,f2,f3,f4⟩:=five_free q1
  have HL3:=Lib.hid hl3
  clear hb3 hl3 d0 d1 d2 d3 d4
  go_wp2
  refine bodyPost_ret (results_cell_row rfl _ _ (w.heap.size+1) _ _ _ du rfl (five_set q1) hu1 (by cases du<;>first | rfl | exact hu2) size_term) rfl ?_
  rw [hres.out]
  exact⟨_,rfl,liesP_fives HL3.out (by omega) (by omega) _ _ _ _ _,below_five (boxes_under H3) (by omega) _ _ _ _ _⟩
end Go.Proofs.Ytpdinlejmlbbeaa
namespace Go.Proofs.Ytpdinlejmlbbeaa
theorem stripB_good {t:Tm} (hr:t.rightB=true):t.stripB=t.bare:=by unfold Tm.stripB;rw [if_pos hr]
theorem deeps_bound {n:Nat}:∀ {l:List Tm},(∀ x ∈ l,x.deep≤n)→deeps l≤n
 | [],_=>by simp [deeps]
 | a::r,h=>by
  have h1:=h a (List.mem_cons_self ..)
  have h2:=deeps_bound (l:=r) (fun x hx=>h x (List.mem_cons_of_mem _ hx))
  simp only [deeps];omega
theorem deep_mem {l:List Tm} {x:Tm} (h:x ∈ l):x.deep≤deeps l:=by
 obtain⟨q,hq,rfl⟩:=List.getElem_of_mem h
 exact deeps_get l q hq
theorem bare_deep (t:Tm):t.bare.deep≤t.deep:=by
 induction t using Tm.ind with
 | h t ih =>
  have hall:∀ x ∈ t.kids.map Tm.bare,x.deep≤deeps t.kids:=fun x hx=>by
   obtain⟨y,hy,rfl⟩:=List.mem_map.1 hx
   exact Nat.le_trans (ih y hy) (deep_mem hy)
  rw [Tm.bare_eq,Tm.deep_eq,t.deep_eq]
  unfold bareNode
  split
  ·refine Nat.succ_le_succ (deeps_bound (fun x hx=>?_))
   have hx2:x ∈ pickT (barePick t.k) (t.kids.map Tm.bare):=hx
   obtain⟨i,-,hi⟩:=List.mem_filterMap.1 hx2
   exact hall x (List.mem_of_getElem? hi)
  ·exact Nat.succ_le_succ (deeps_bound hall)
end Go.Proofs.Ytpdinlejmlbbeaa
namespace Go.Proofs.Ytpdinlejmlbbeaa
open Go.RowKit
end Go.Proofs.Ytpdinlejmlbbeaa
namespace Go.Proofs.Ytpdinlejmlbbeaa
open Go.RowKit
end Go.Proofs.Ytpdinlejmlbbeaa
namespace Go.Proofs.Ytpdinlejmlbbeaa
open Go.RowKit
end Go.Proofs.Ytpdinlejmlbbeaa
namespace Go.Proofs.Ytpdinlejmlbbeaa
end Go.Proofs.Ytpdinlejmlbbeaa
namespace Go.Proofs.Ytpdinlejmlbbeaa
open Go.RowKit
end Go.Proofs.Ytpdinlejmlbbeaa

namespace Go.Proofs.Ytpdinlejmlbbeaa
abbrev varT (v:Int):Tm:=.mk 2 v 0 0 []
def gPut (u:Tm) (v b:Int) (pl:Bool):Option Tm:=if v<b then some (varT v) else if v=b then(if pl=true then u.bare else u).each (liftF b 0) 0 else some (varT (v-1))
def mayB (t u:Tm):Bool:=u.rightB&&(t.k==1||(t.k==2||(t.plainB||u.markedB)))
def fitsB (t u:Tm):Bool:=if t.k≤2∨12<t.k then u.rightB else u.markedB
def Tm.putB (t u:Tm):Tm:=if t.rightB=true∧mayB t u=true then(t.putG (gPut u) 0 (decide (12<t.k))).getD .zero else .zero
theorem right_of_kind {t:Tm} (h:t.rightB=true) (hk:12<t.k):t.plainB=true:=by
 rcases right_cases h with hp | ⟨-,-,h12⟩
 ·exact hp
 ·omega
theorem fits_may {t:Tm} (u:Tm) (h:t.rightB=true):fitsB t u=mayB t u:=by
 have hk:=Tm.node_kind (t.right_node h)
 unfold fitsB mayB
 by_cases h1:t.k≤2
 ·rw [if_pos (Or.inl h1)]
  have:t.k=1∨t.k=2:=by omega
  rcases this with e | e<;>simp [e]
 ·by_cases h2:12<t.k
  ·rw [if_pos (Or.inr h2),right_of_kind h h2];simp
  ·rw [if_neg (by omega)]
   have hp:t.plainB=false:=by
    cases hp:t.plainB with
    | false=>rfl
    | true=>have:=plain_kind hp;omega
   have e1:(t.k==1)=false:=by simp;omega
   have e2:(t.k==2)=false:=by simp;omega
   rw [hp,e1,e2]
   cases hm:u.markedB with
   | false=>simp
   | true=>rw [marked_right hm];rfl
theorem flag_kid {t:Tm} (h:t.rightB=true) (pl:Bool) (q:Nat) (hq:q<t.kids.length):(((pl||decide (12<t.k))||(t.k==12&&q==2))||decide (12<(t.kids[q]).k))=((pl||decide (12<t.k))||(t.k==12&&q==2)):=by
 cases pl with
 | true=>rfl
 | false =>
  by_cases h2:12<t.k
  ·simp [h2]
  ·rcases right_cases h with hp | ⟨hm,h3,h12⟩
   ·have hk:=plain_kind hp
    have hn:t.kids=[]:=(sorts_two (t.right_node h) (by omega)).2
    rw [hn] at hq;simp at hq
   ·have e:decide (12<t.k)=false:=by simpa using h2
    rw [e]
    by_cases hk:t.k=12
    ·obtain⟨a,b,p,x,hkids,ha,hb,hpp,hx⟩:=marked_tr hm hk
     have e12:(t.k==12)=true:=by simpa using hk
     rw [e12]
     have hq4:q<4:=by rw [hkids] at hq;exact hq
     have key:q=2∨(t.kids[q]).k≤12:=by
      have:q=0∨q=1∨q=2∨q=3:=by omega
      rcases this with rfl | rfl | rfl | rfl
      ·right;simp only [hkids];exact(marked_kind ha).2
      ·right;simp only [hkids];exact(marked_kind hb).2
      ·left;rfl
      ·right;simp only [hkids];exact(marked_kind hx).2
     rcases key with rfl | hle
     ·rfl
     ·have:decide (12<(t.kids[q]).k)=false:=by simp;omega
      rw [this,Bool.or_false]
    ·have hx:=marked_kind (marked_others hm hk _ (List.getElem_mem hq))
     have:decide (12<(t.kids[q]).k)=false:=by simp;omega
     rw [this,Bool.or_false]
theorem flag_kid' {t:Tm} (h:t.rightB=true) (q:Nat) (hq:q<t.kids.length) (pl:Bool):((pl||decide (12<t.k)||(t.k==12&&q==2))||decide (12<(t.kids[q]).k))=(pl||decide (12<t.k)||(t.k==12&&q==2)):=flag_kid h pl q hq
theorem var_right {v:Int} (h0:0≤v) (h1:v≤2147483647):(varT v).markedB=true∧(varT v).plainB=true∧(varT v).rightB=true:=by
 have hnode:(varT v).nodeB=true:=by simp [Tm.nodeB,mk_k,mk_i,mk_j,mk_n,mk_kids,numbersN,kidsN,h0,h1]
 have a1:=var_sorts hnode rfl
 exact⟨a1.1,a1.2,marked_right a1.1⟩
theorem bareIf_right {u:Tm} (hu:u.rightB=true) (pl:Bool):(if pl=true then u.bare else u).rightB=true:=by
 cases pl with
 | true=>exact plain_right (bare_plain u hu)
 | false=>exact hu
theorem bareIf_deep (u:Tm) (pl:Bool):(if pl=true then u.bare else u).deep≤u.deep:=by
 cases pl with
 | true=>exact bare_deep u
 | false=>exact Nat.le_refl _
theorem lift_zero {t:Tm} (hr:t.rightB=true):t.each (liftF 0 0) 0=some t:=by
 refine each_stays _ t 0 hr (Int.le_refl _) (fun v b h1 h2 _ _=>?_)
 unfold liftF
 split
 ·rfl
 ·rw [if_neg (by omega)];simp
theorem plains_all {l:List Tm}:(∀ x ∈ l,x.plainB=true)→plains l=true:=by
 induction l with
 | nil=>intro _;simp [plains]
 | cons a r ih =>
  intro h
  simp only [plains,Bool.and_eq_true]
  exact⟨h a (List.mem_cons_self ..),ih (fun x hx=>h x (List.mem_cons_of_mem _ hx))⟩
theorem markeds_get {tr:Bool}:∀ {l:List Tm} {p:Nat},markeds tr p l=true→∀ q (h:q<l.length),(if(tr&&p+q==2)=true then(l[q]).plainB else(l[q]).markedB)=true
 | [],p,_,q,h=>by simp at h
 | a::r,p,hm,q,h=>by
  simp only [markeds] at hm
  replace hm:=Bool.and_eq_true_iff.1 hm
  cases q with
  | zero=>simp only [List.getElem_cons_zero,Nat.add_zero];exact hm.1
  | succ q =>
   have:=markeds_get hm.2 q (by simpa using h)
   rw [show p+1+q=p+(q+1) by omega] at this
   simp only [List.getElem_cons_succ];exact this
theorem markeds_put {tr:Bool}:∀ {l:List Tm} {p:Nat},(∀ q (h:q<l.length),(if(tr&&p+q==2)=true then(l[q]).plainB else(l[q]).markedB)=true)→markeds tr p l=true
 | [],p,_=>by simp [markeds]
 | a::r,p,h=>by
  simp only [markeds]
  have h0:=h 0 (by simp)
  simp only [List.getElem_cons_zero,Nat.add_zero] at h0
  refine Bool.and_eq_true_iff.2 ⟨h0,markeds_put (fun q hq=>?_)⟩
  have:=h (q+1) (by simpa using hq)
  simp only [List.getElem_cons_succ] at this
  rw [show p+1+q=p+(q+1) by omega]
  exact this
theorem node_same {t:Tm} {m:List Tm} (h:m.length=t.kids.length):(Tm.mk t.k t.i t.j t.n m).nodeB=t.nodeB:=by
 show(((m.length:Int)==kidsN t.k t.n)&&numbersN t.k t.i t.j t.n)=_
 rw [h];rfl
theorem putG_plainT (g:Int→Int→Bool→Option Tm) (hg:∀ v c x,0≤v→v≤2147483647→0≤c→g v c true=some x→x.plainB=true) (t:Tm):∀ b x,0≤b→t.plainB=true→t.putG g b true=some x→x.plainB=true:=by
 induction t using Tm.ind with
 | h t ih =>
  intro b x hb hp hx
  have hr:=plain_right hp
  by_cases hk:t.k=2
  ·rw [Tm.putG_var _ _ _ _ hk] at hx
   have hv:=t.right_var hr hk
   exact hg _ _ _ hv.1 hv.2 hb hx
  ·rw [Tm.putG_node _ _ _ _ hk] at hx
   simp only [Option.map_eq_some_iff] at hx
   obtain⟨m,hm,rfl⟩:=hx
   have hlen:=optK_length hm
   have hall:∀ y ∈ m,y.plainB=true:=fun y hy=>by
    obtain⟨q,hq,rfl⟩:=List.getElem_of_mem hy
    have hq':q<t.kids.length:=by omega
    have:=optK_get hm q hq' hq
    have hbd:=binds_range t.k q
    rw [Nat.zero_add,Bool.true_or] at this
    exact ih _ (List.getElem_mem hq') _ _ (by omega) (plain_kids hp _ (List.getElem_mem hq')) this
   rw [Tm.plainB_eq] at hp ⊢
   rw [node_same hlen,mk_kids,plains_all hall,mk_k]
   simp only [Bool.and_eq_true] at hp ⊢
   exact⟨hp.1,hp.2.1,trivial⟩
theorem putG_markedT (g:Int→Int→Bool→Option Tm) (hg:∀ v c x,0≤v→v≤2147483647→0≤c→g v c true=some x→x.plainB=true) (hgm:∀ v c x,0≤v→v≤2147483647→0≤c→g v c false=some x→x.markedB=true) (t:Tm) :
 ∀ b x,0≤b→t.markedB=true→t.putG g b false=some x→x.markedB=true:=by
 induction t using Tm.ind with
 | h t ih =>
  intro b x hb hp hx
  have hr:=marked_right hp
  by_cases hk:t.k=2
  ·rw [Tm.putG_var _ _ _ _ hk] at hx
   have hv:=t.right_var hr hk
   exact hgm _ _ _ hv.1 hv.2 hb hx
  ·rw [Tm.putG_node _ _ _ _ hk] at hx
   simp only [Option.map_eq_some_iff] at hx
   obtain⟨m,hm,rfl⟩:=hx
   have hlen:=optK_length hm
   rw [Tm.markedB_eq] at hp ⊢
   simp only [Bool.and_eq_true] at hp
   have hmk:=markeds_get hp.2.2
   have hnew:markeds (t.k==12) 0 m=true:=markeds_put (fun q hq=>by
    have hq':q<t.kids.length:=by omega
    have h1:=optK_get hm q hq' hq
    have h2:=hmk q hq'
    have hbd:=binds_range t.k q
    rw [Nat.zero_add] at h1 h2 ⊢
    cases hf:(t.k==12&&q==2) with
    | true =>
     rw [hf] at h1 h2
     rw [if_pos rfl] at h2 ⊢
     exact putG_plainT g hg _ _ _ (by omega) h2 h1
    | false =>
     rw [hf] at h1 h2
     rw [if_neg (by decide)] at h2 ⊢
     exact ih _ (List.getElem_mem hq') _ _ (by omega) h2 h1)
   rw [node_same hlen,mk_kids,mk_k,hnew]
   simp only [Bool.and_eq_true]
   exact⟨hp.1,hp.2.1,trivial⟩
theorem gPut_plain {u:Tm} (hu:u.rightB=true):∀ v c x,0≤v→v≤2147483647→0≤c→gPut u v c true=some x→x.plainB=true:=by
 intro v c x h0 h1 hc hx
 unfold gPut at hx
 split at hx
 ·cases hx;exact(var_right h0 h1).2.1
 ·split at hx
  ·rw [if_pos rfl] at hx
   have hp:=bare_plain u hu
   rw [(each_keeps _ (liftF_range c 0 hc) _ 0 x (plain_right hp) hx).2.1];exact hp
  ·cases hx;exact(var_right (by omega) (by omega)).2.1
theorem gPut_marked {u:Tm} (hu:u.markedB=true):∀ v c x,0≤v→v≤2147483647→0≤c→gPut u v c false=some x→x.markedB=true:=by
 intro v c x h0 h1 hc hx
 unfold gPut at hx
 split at hx
 ·cases hx;exact(var_right h0 h1).1
 ·split at hx
  ·rw [if_neg (by decide)] at hx
   rw [(each_keeps _ (liftF_range c 0 hc) _ 0 x (marked_right hu) hx).1];exact hu
  ·cases hx;exact(var_right (by omega) (by omega)).1
end Go.Proofs.Ytpdinlejmlbbeaa

namespace Go.Proofs.Ytpdinlejmlbbeaa
theorem may_right {t u:Tm} (h:mayB t u=true):u.rightB=true:=by unfold mayB at h;simp only [Bool.and_eq_true] at h;exact h.1
theorem may_need {t u:Tm} (h:mayB t u=true) (h3:3≤t.k) (h12:t.k≤12):u.markedB=true:=by
 unfold mayB at h
 have hp:t.plainB=false:=by
  cases hp:t.plainB with
  | false=>rfl
  | true=>have:=plain_kind hp;omega
 have e1:(t.k==1)=false:=by simp;omega
 have e2:(t.k==2)=false:=by simp;omega
 rw [hp,e1,e2] at h
 simpa using (Bool.and_eq_true _ _▸h).2
theorem put_sorts {u w y:Tm} (hu:u.rightB=true) (hm:mayB u w=true) (hy:u.putG (gPut w) 0 (decide (12<u.k))=some y):y.rightB=true∧(u.markedB=true→w.markedB=true→y.markedB=true)∧(12<u.k→y.plainB=true):=by
 have hw:=may_right hm
 have hk:=Tm.node_kind (u.right_node hu)
 by_cases h12:12<u.k
 ·have hp:=right_of_kind hu h12
  have e:decide (12<u.k)=true:=by simpa using h12
  rw [e] at hy
  have hyp:=putG_plainT _ (gPut_plain hw) u 0 y (Int.le_refl _) hp hy
  refine⟨plain_right hyp,fun h=>?_,fun _=>hyp⟩
  have:=marked_kind h;omega
 ·have e:decide (12<u.k)=false:=by simpa using h12
  rw [e] at hy
  have hmk:u.markedB=true:=by
   by_cases h2:u.k≤2
   ·have hs:=sorts_two (u.right_node hu) h2
    have h3:=hs.1
    unfold Tm.sortsN at h3
    cases hm:u.markedB<;>cases hp:u.plainB<;>simp [hm,hp] at h3 ⊢
   ·rcases right_cases hu with hp | ⟨hm,-⟩
    ·have:=plain_kind hp;omega
    ·exact hm
  cases hwm:w.markedB with
  | true =>
   have:=putG_markedT _ (gPut_plain hw) (gPut_marked hwm) u 0 y (Int.le_refl _) hmk hy
   exact⟨marked_right this,fun _ _=>this,fun h=>absurd h h12⟩
  | false =>
   have h2:u.k≤2:=by
    cases Int.decLt 2 u.k with
    | isTrue h=>have:=may_need hm (by omega) (by omega);rw [hwm] at this;cases this
    | isFalse h=>omega
   refine⟨?_,(fun _ h=>by cases h),fun h=>absurd h h12⟩
   by_cases hk2:u.k=2
   ·have hv:=u.right_var hu hk2
    rw [Tm.putG_var _ _ _ _ hk2] at hy
    unfold gPut at hy
    rw [if_neg (by omega)] at hy
    split at hy
    ·rw [if_neg (by decide),lift_zero hw] at hy;cases hy;exact hw
    ·cases hy;exact(var_right (by omega) (by omega)).2.2
   ·rw [Tm.putG_node _ _ _ _ hk2,(sorts_two (u.right_node hu) h2).2] at hy
    cases hy
    have e:Tm.mk u.k u.i u.j u.n []=u:=by rw [←(sorts_two (u.right_node hu) h2).2];exact u.eta
    show(Tm.mk u.k u.i u.j u.n []).rightB=true
    rw [e];exact hu
theorem putG_indep (g:Int→Int→Bool→Option Tm) (hg:∀ v b p p',g v b p=g v b p') (t:Tm):∀ b pl pl',t.putG g b pl=t.putG g b pl':=by
 induction t using Tm.ind with
 | h t ih =>
  intro b pl pl'
  by_cases hk:t.k=2
  ·rw [Tm.putG_var _ _ _ _ hk,Tm.putG_var _ _ _ _ hk];exact hg _ _ _ _
  ·rw [Tm.putG_node _ _ _ _ hk,Tm.putG_node _ _ _ _ hk]
   rw [optK_congr (g':=fun q x=>x.putG g (b+bindsN t.k q) (pl'||(t.k==12&&q==2))) t.kids 0 (fun q hq=>ih _ (List.getElem_mem hq) _ _ _)]
theorem gPut_bare_indep {u:Tm} (hu:u.rightB=true):∀ v b p p',gPut u.bare v b p=gPut u.bare v b p':=by
 intro v b p p'
 have e:∀ p:Bool,(if p=true then u.bare.bare else u.bare)=u.bare:=fun p=>by rw [bare_bare u hu];cases p<;>rfl
 unfold gPut
 rw [e p,e p']
end Go.Proofs.Ytpdinlejmlbbeaa

namespace Go.Proofs.Ytpdinlejmlbbeaa
structure He where
 i:Int
 a:Tm
 b:Tm
 x:Tm
 y:Tm
 h:Tm
def He.zero:He:=⟨0,.zero,.zero,.zero,.zero,.zero⟩
def He.fine (h:He):Prop:=I64 h.i∧h.a.fine∧h.b.fine∧h.x.fine∧h.y.fine∧h.h.fine
structure Fm where
 i:Int
 j:Int
 a:Tm
 c:Tm
 b:Tm
 d:Tm
 e:Tm
 f:Tm
def Fm.fine (g:Fm):Prop:=I64 g.i∧I64 g.j∧g.a.fine∧g.c.fine∧g.b.fine∧g.d.fine∧g.e.fine∧g.f.fine
def levN (low i:Int):Bool:=decide (0≤i)&&decide (i≤1000-low)
def plainL (l:List Tm):Bool:=l.all Tm.plainB
theorem plainL_iff {l:List Tm}:plainL l=true↔∀ x ∈ l,x.plainB=true:=by unfold plainL;exact List.all_eq_true
def useT (n i j:Int) (l:List Tm):Tm:=.mk 23 i j n l
def nodeT (k:Int) (l:List Tm):Tm:=.mk k 0 0 0 l
theorem plainL_plains {l:List Tm} (h:∀ x ∈ l,x.plainB=true):plains l=true:=plains_all h
def fmR (g:Fm):Bool:=(levN 3 g.i&&levN 3 g.j)&&plainL [g.a,g.c,g.b,g.d,g.e,g.f]
def sixT (n:Int) (g:Fm) (more:List Tm):Tm:=useT n g.i g.j ([g.a,g.c,g.e,nodeT 14 [g.a,g.b],nodeT 14 [g.c,g.d],g.f]++more)
end Go.Proofs.Ytpdinlejmlbbeaa

namespace Go.Proofs.Ytpdinlejmlbbeaa
open Go.RowKit
mutual
def Tm.wgh:Tm→Int→Int→Int
 | .mk _ _ _ _ l,most,deep=>if deep<0 then most+1 else wghs l 1 most (deep-1)
def wghs:List Tm→Int→Int→Int→Int
 | [],n,_,_=>n
 | x::r,n,most,deep=>if n≤most then wghs r (n+x.wgh (most-n) deep) most deep else n
end
theorem wgh_eq (t:Tm) (most deep:Int):t.wgh most deep=if deep<0 then most+1 else wghs t.kids 1 most (deep-1):=by cases t;rw [Tm.wgh];rfl
theorem wghs_nil (n most deep:Int):wghs [] n most deep=n:=by rw [wghs]
theorem wghs_over {l:List Tm} {n most deep:Int} (h:¬ n≤most):wghs l n most deep=n:=by
 cases l with
 | nil=>rw [wghs]
 | cons x r=>rw [wghs,if_neg h]
theorem wghs_on {x:Tm} {r:List Tm} {n most deep:Int} (h:n≤most):wghs (x::r) n most deep=wghs r (n+x.wgh (most-n) deep) most deep:=by rw [wghs,if_pos h]
theorem wghs_bd {deep:Int}:∀ (l:List Tm),(∀ x ∈ l,∀ most:Int,0≤most→1≤x.wgh most deep∧x.wgh most deep≤most+1∧(x.wgh most deep≤most→x.wgh most deep=x.size∧(x.deep:Int)≤deep+1))→∀ n most:Int,n≤most+1→-1≤deep →
 n≤wghs l n most deep∧wghs l n most deep≤most+1∧(wghs l n most deep≤most→wghs l n most deep=n+sizes l∧(deeps l:Int)≤deep+1)
 | [],_,n,most,h,hd=>by rw [wghs_nil];exact⟨Int.le_refl _,h,fun _=>⟨by simp [sizes],by simp [deeps];omega⟩⟩
 | x::r,hx,n,most,h,hd=>by
  by_cases hn:n≤most
  ·rw [wghs_on hn]
   obtain⟨a1,a2,a3⟩:=hx x (List.mem_cons_self ..) (most-n) (by omega)
   obtain⟨b1,b2,b3⟩:=wghs_bd r (fun y hy=>hx y (List.mem_cons_of_mem _ hy)) (n+x.wgh (most-n) deep) most (by omega) hd
   refine⟨by omega,b2,fun hle=>?_⟩
   obtain⟨c1,c2⟩:=b3 hle
   obtain⟨d1,d2⟩:=a3 (by omega)
   rw [c1,d1]
   simp only [sizes,deeps]
   omega
  ·rw [wghs_over hn]
   exact⟨Int.le_refl _,h,fun hle=>absurd hle hn⟩
theorem wgh_bd (t:Tm):∀ deep:Int,-1≤deep→∀ most:Int,0≤most→1≤t.wgh most deep∧t.wgh most deep≤most+1∧(t.wgh most deep≤most→t.wgh most deep=t.size∧(t.deep:Int)≤deep+1):=by
 induction t using Tm.ind with
 | h t ih =>
  intro deep hd most h0
  rw [wgh_eq]
  have hsz:=t.size_eq
  have hdp:=t.deep_eq
  by_cases h:deep<0
  ·rw [if_pos h]
   exact⟨by omega,by omega,fun hle=>by omega⟩
  ·rw [if_neg h]
   obtain⟨b1,b2,b3⟩:=wghs_bd (deep:=deep-1) t.kids (fun x hx most h0=>ih x hx (deep-1) (by omega) most h0) 1 most (by omega) (by omega)
   refine⟨b1,b2,fun hle=>?_⟩
   obtain⟨c1,c2⟩:=b3 hle
   omega
set_option maxHeartbeats 800000 in
theorem weighX_any (t:Tm):∀ (w:World) (s:Value) (most deep:Int),Lies w t.kids s→0≤most→most≤100000→-1≤deep→deep≤100000 →
 Calls Try.prog 35 #[tv t s,.int .i64 most,.int .i64 deep] w fun e w'=>e=.returned (.int .i64 (t.wgh most deep))∧Below w.heap.size w w':=by
 induction t using Tm.ind with
 | h t ih =>
  intro w s most deep hl h0 h1 h2 h3
  obtain⟨a,cap,S,rfl,hc,hm,hf,hn,hk⟩:=hl.out
  unfold tv
  unfold maxLen at hm
  have IH:=Lib.hid ih
  have HN:=Lib.hid hn
  have HK:=Lib.hid hk
  have HE:=Lib.hid (wgh_eq t most deep)
  clear ih hn hk hf hl
  by_cases hd:deep<0
  ·go_enter Try.func35,Try.ntmps35
   go_wp2
   go_ret
   exact⟨congrArg (fun z=>Ending.returned (.int .i64 z)) (HE.out.trans (if_pos hd)).symm,(Below.refl _ _).alloc (Nat.le_refl _) _⟩
  have HE2:=Lib.hid (HE.out.trans (if_neg hd))
  go_enter Try.func35,Try.ntmps35
  have hcell:∀ (wr:World),Below (w.heap.size+1) (w.alloc (.cells #[.int .i64 t.k,.int .i64 t.i,.int .i64 t.j,.int .i64 t.n,.slice a t.kids.length cap] 24)) wr→wr.cell? ⟨w.heap.size,4,none⟩=some (.slice a t.kids.length cap):=fun wr h=>by
   rw [h.cell (p:=⟨w.heap.size,4,none⟩) (by exact Nat.lt_succ_self _),World.cell?_alloc_at _ _ _ _ rfl];rfl
  have HC:=Lib.hid hcell
  clear hcell
  go_wp2
  go_loopw [7,8] (fun nv iv wr=>∃ (k:Nat) (n:Int),k≤t.kids.length∧iv=.int .i64 k∧nv=.int .i64 n∧1≤n∧n≤most+1∧Hid (wghs (t.kids.drop k) n most (deep-1)=t.wgh most deep) ∧
   Below (w.heap.size+1) (w.alloc (.cells #[.int .i64 t.k,.int .i64 t.i,.int .i64 t.j,.int .i64 t.n,.slice a t.kids.length cap] 24)) wr) (fun _ i _=>t.kids.length-(intOf i).toNat)
  case atStart=>exact⟨0,1,Nat.zero_le _,rfl,rfl,by omega,by omega,HE2.out.symm,Below.refl _ _⟩
  case round =>
   obtain⟨k,n,hk,rfl,rfl,hn1,hn2,hrel,hb⟩:=hrel
   have hc4:=HC.out wr hb
   have hb0:Below w.heap.size w wr:=((Below.refl _ _).alloc (Nat.le_refl _) _).trans (hb.mono (by omega))
   by_cases hlt:k<t.kids.length
   ·by_cases hnm:n≤most
    ·obtain⟨b,o,rfl,hx⟩:=HN.out k hlt
     have hy:=hx.below hb0 hx.lt
     obtain⟨c0,c1,c2,c3,c4⟩:=hy
     have hq:=HK.out k hlt
     obtain⟨a',cap',S',hS,-⟩:=hq.out
     rw [hS] at c4 hq
     have HQ:=Lib.hid (hq.keep hb0)
     clear hS hq
     have HM:=Lib.hid (List.getElem_mem hlt)
     have hst:=hrel.out
     rw [List.drop_eq_getElem_cons hlt,wghs_on hnm] at hst
     have HST:=Lib.hid hst
     have HBD:=Lib.hid (wgh_bd t.kids[k] (deep-1) (by omega) (most-n) (by omega))
     clear hst
     go_wp2_with fail
     refine(IH.out _ HM.out _ _ _ _ HQ.out (by omega) (by omega) (by omega) (by omega)).mono ?_
     rintro e w' ⟨rfl,hb'⟩
     have HB':=hb.trans (hb'.mono (by have:=hb.size;simpa using this))
     obtain⟨r,hr⟩:∃ r,(t.kids[k]).wgh (most-n) (deep-1)=r:=⟨_,rfl⟩
     rw [hr] at HST HBD ⊢
     have hr1:=HBD.out.1
     have hr2:=HBD.out.2.1
     clear hb' hb hb0 hc4 hr HBD
     go_wp2
     go_roundw
     case rel=>exact⟨k+1,n+r,by omega,by go_num,rfl,by omega,by omega,HST.out,HB'⟩
     case measure=>simp [intOf];omega
    ·go_wp2
     go_ret
     exact⟨congrArg (fun z=>Ending.returned (.int .i64 z)) ((wghs_over (by omega)).symm.trans hrel.out),hb0⟩
   ·have:k=t.kids.length:=by omega
    subst this
    go_wp2
    all_goals go_ret
    all_goals exact⟨congrArg (fun z=>Ending.returned (.int .i64 z)) (by have h:=hrel.out;rw [List.drop_eq_nil_of_le (Nat.le_refl _),wghs_nil] at h;exact h),hb0⟩
def grtB (l:List Tm) (M:Nat):Bool:=decide (M<l.length)||decide ((M:Int)<wghs l 0 M 200)
theorem grtB_no {l:List Tm} {M:Nat} (h:grtB l M=false):l.length≤M∧∀ u ∈ l,(u.size:Int)≤M∧u.deep≤201:=by
 unfold grtB at h
 simp only [Bool.or_eq_false_iff,decide_eq_false_iff_not] at h
 obtain⟨h1,h2⟩:=h
 refine⟨by omega,?_⟩
 have key:∀ (l:List Tm) (n:Int),0≤n→¬ (M:Int)<wghs l n M 200→∀ u ∈ l,(u.size:Int)≤M∧u.deep≤201:=by
  intro l
  induction l with
  | nil=>intro n _ _ u hu;cases hu
  | cons x r ih =>
   intro n h0 hn u hu
   by_cases hle:n≤(M:Int)
   ·rw [wghs_on hle] at hn
    obtain⟨a1,a2,a3⟩:=wgh_bd x 200 (by omega) ((M:Int)-n) (by omega)
    obtain⟨b1,b2,-⟩:=wghs_bd (deep:=200) r (fun y _ most h0=>wgh_bd y 200 (by omega) most h0) (n+x.wgh ((M:Int)-n) 200) M (by omega) (by omega)
    rcases List.mem_cons.1 hu with rfl | hu
    ·obtain⟨d1,d2⟩:=a3 (by omega)
     omega
    ·exact ih _ (by omega) hn u hu
   ·rw [wghs_over hle] at hn
    omega
 exact key l 0 (by omega) h2
set_option maxHeartbeats 1000000 in
theorem greatsX_any (l:List Tm) (M:Nat) (hM:M≤10000) (w:World) (ls:Value) (hl:Lies w l ls) :
 Calls Try.prog 17 #[ls,.int .i64 (M:Int)] w fun e w'=>e=.returned (.bool (grtB l M))∧Below w.heap.size w w':=by
 obtain⟨a,cap,S,rfl,hc,hm,-,hn,hk⟩:=hl.out
 unfold maxLen at hm
 have HN:=Lib.hid hn
 have HK:=Lib.hid hk
 clear hl hn hk
 go_enter Try.func17,Try.ntmps17
 by_cases hlen:M<l.length
 ·have e1:decide ((M:Int)<(l.length:Int))=true:=decide_eq_true (by omega)
  have e2:decide (M<l.length)=true:=decide_eq_true hlen
  have HG:=Lib.hid (show grtB l M=true by unfold grtB;rw [e2];rfl)
  go_wp2
  go_ret
  exact⟨congrArg (fun z=>Ending.returned (.bool z)) HG.out.symm,Below.refl _ _⟩
 have e1:decide ((M:Int)<(l.length:Int))=false:=decide_eq_false (by omega)
 have e2:decide (M<l.length)=false:=decide_eq_false hlen
 have HG:=Lib.hid (show grtB l M=decide ((M:Int)<wghs l 0 M 200) by unfold grtB;rw [e2];rfl)
 go_wp2
 go_loopw [5,6] (fun nv iv wr=>∃ (k:Nat) (n:Int),k≤l.length∧iv=.int .i64 k∧nv=.int .i64 n∧0≤n∧n≤(M:Int)+1∧Hid (wghs (l.drop k) n M 200=wghs l 0 M 200)∧Kept w wr) (fun _ i _=>l.length-(intOf i).toNat)
 case atStart=>exact⟨0,0,Nat.zero_le _,rfl,rfl,by omega,by omega,rfl,kept_start _⟩
 case round =>
  obtain⟨k,n,hk,rfl,rfl,hn1,hn2,hrel,hb⟩:=hrel
  by_cases hlt:k<l.length
  ·by_cases hnm:n≤(M:Int)
   ·obtain⟨b,o,rfl,hx⟩:=HN.out k hlt
    obtain⟨c0,c1,c2,c3,c4⟩:=hx.below hb hx.lt
    have hq:=HK.out k hlt
    obtain⟨a',cap',S',hS,-⟩:=hq.out
    rw [hS] at c4 hq
    have HQ:=Lib.hid (hq.keep hb)
    have hst:=hrel.out
    rw [List.drop_eq_getElem_cons hlt,wghs_on hnm] at hst
    have HST:=Lib.hid hst
    have HBD:=Lib.hid (wgh_bd l[k] 200 (by omega) ((M:Int)-n) (by omega))
    clear hS hq hst
    go_wp2_with fail
    refine(weighX_any l[k] _ _ _ _ HQ.out (by omega) (by omega) (by omega) (by omega)).mono ?_
    rintro e w' ⟨rfl,hb'⟩
    have HB':=kept_call hb hb'
    obtain⟨r,hr⟩:∃ r,(l[k]).wgh ((M:Int)-n) 200=r:=⟨_,rfl⟩
    rw [hr] at HST HBD ⊢
    have hr1:=HBD.out.1
    have hr2:=HBD.out.2.1
    clear hb' hb hr HBD c0 c1 c2 c3 c4
    go_wp2
    go_roundw
    case rel=>exact⟨k+1,n+r,by omega,by go_num,rfl,by omega,by omega,HST.out,HB'⟩
    case measure=>simp [intOf];omega
   ·have HF:=Lib.hid (show decide ((M:Int)<n)=grtB l M by rw [HG.out,←hrel.out,wghs_over (by omega)])
    go_wp2
    go_ret
    first | exact⟨congrArg (fun z=>Ending.returned (.bool z)) HF.out,hb⟩ | exact⟨congrArg (fun z=>Ending.returned (.bool z)) ((decide_eq_true (by omega)).symm.trans HF.out),hb⟩ | exact⟨congrArg (fun z=>Ending.returned (.bool z)) ((decide_eq_false (by omega)).symm.trans HF.out),hb⟩
  ·have:k=l.length:=by omega
   subst this
   have HF:=Lib.hid (show decide ((M:Int)<n)=grtB l M by rw [HG.out,←hrel.out,List.drop_eq_nil_of_le (Nat.le_refl _),wghs_nil])
   go_wp2
   all_goals go_ret
   all_goals first | exact⟨congrArg (fun z=>Ending.returned (.bool z)) HF.out,hb⟩ | exact⟨congrArg (fun z=>Ending.returned (.bool z)) ((decide_eq_true (by omega)).symm.trans HF.out),hb⟩ | exact⟨congrArg (fun z=>Ending.returned (.bool z)) ((decide_eq_false (by omega)).symm.trans HF.out),hb⟩
end Go.Proofs.Ytpdinlejmlbbeaa

namespace Go.Proofs.Ytpdinlejmlbbeaa.Sd
open Go Go.RowKit Se
abbrev R15:=List (Bool × List F15) × Bool × List Prop × List Bool
def on {α:Type} (o:Option α) (k:α→Option R15):Option R15:=match o with
 | some x=>k x
 | none=>none
def on4 {α β:Type} (o:Option α) (k:α→Option β):Option β:=match o with
 | some x=>k x
 | none=>none
def fmOf:List F15→Option Fm
 | [fi,fj,fa1,fa2,fa3,fa4,fa5,fc1,fc2,fc3,fc4,fc5,fb1,fb2,fb3,fb4,fb5,fd1,fd2,fd3,fd4,fd5,fe1,fe2,fe3,fe4,fe5,ff1,ff2,ff3,ff4,ff5]=>on4 (intOf fi) fun i=>on4 (intOf fj) fun j=>on4 (tmOf [fa1,fa2,fa3,fa4,fa5]) fun a=>on4 (tmOf [fc1,fc2,fc3,fc4,fc5]) fun c=>on4 (tmOf [fb1,fb2,fb3,fb4,fb5]) fun b=>on4 (tmOf [fd1,fd2,fd3,fd4,fd5]) fun d=>on4 (tmOf [fe1,fe2,fe3,fe4,fe5]) fun e=>on4 (tmOf [ff1,ff2,ff3,ff4,ff5]) fun f=>some ⟨i,j,a,c,b,d,e,f⟩
 | _=>none
def baseC:Se.Spec D15:=fun f args orc =>
 bif Nat.beq f 38 then(match args with
  | [(false,[a1])]=>on (tmsOf a1) fun x1=>some ([(false,[.obool (plainL x1)])],false,[],orc)
  | _=>none)
 else bif Nat.beq f 48 then(match args with
  | [(false,[a1])]=>on (tmsOf a1) fun x1=>some ([(false,[.obool (plainL x1)])],false,[],orc)
  | _=>none)
 else bif Nat.beq f 19 then(match args with
  | [(true,a1)]=>on (fmOf a1) fun x1=>some ([(false,[.obool (fmR x1)])],false,[],orc)
  | _=>none)
 else bif Nat.beq f 25 then(match args with
  | [(true,a1)]=>on (fmOf a1) fun x1=>some ([(false,[.obool (fmR x1)])],false,[],orc)
  | _=>none)
 else bif Nat.beq f 23 then(match args with
  | [(true,a1),(false,[a2]),(false,[a3])]=>on (fmOf a1) fun x1=>on (intOf a2) fun x2=>on (tmsOf a3) fun x3=>some ([(true,tmF (sixT x2 x1 x3))],false,[fmR x1=true∧True,∀ x ∈ x3,x.plainB=true,x3.length≤900],orc)
  | _=>none)
 else bif Nat.beq f 29 then(match args with
  | [(false,[a1]),(true,a2),(false,[a3])]=>on (intOf a1) fun x1=>on (fmOf a2) fun x2=>on (tmsOf a3) fun x3=>some ([(true,tmF (sixT x1 x2 x3))],false,[x3.length≤900],orc)
  | _=>none)
 else bif Nat.beq f 28 then(match args with
  | [(false,[a1]),(false,[a2])]=>on (intOf a1) fun x1=>on (tmsOf a2) fun x2=>some ([(true,tmF (nodeT x1 x2))],false,[x2.length≤1000],orc)
  | _=>none)
 else bif Nat.beq f 21 then(match args with
  | [(true,a1),(true,a2)]=>on (tmOf a1) fun x1=>on (tmOf a2) fun x2=>some ([(true,tmF (x1.putB x2))],false,[x1.deep≤100000,x2.deep≤100000],orc)
  | _=>none)
 else bif Nat.beq f 27 then(match args with
  | [(true,a1),(true,a2)]=>on (tmOf a1) fun x1=>on (tmOf a2) fun x2=>some ([(true,tmF (x1.putB x2))],false,[x1.deep≤100000,x2.deep≤100000],orc)
  | _=>none)
 else bif Nat.beq f 46 then(match args with
  | [(true,a1)]=>on (tmOf a1) fun x1=>some ([(true,tmF (x1))],false,[x1.plainB=true∨x1=.zero],orc)
  | _=>none)
 else bif Nat.beq f 18 then(match args with
  | [(true,a1),(true,a2)]=>on (tmOf a1) fun x1=>on (tmOf a2) fun x2=>some ([(false,[.obool (sameB x1 x2)])],false,[],orc)
  | _=>none)
 else bif Nat.beq f 17 then(match args with
  | [(false,[a1]),(false,[.int 120])]=>on (tmsOf a1) fun x1=>some ([(false,[.obool (grtB x1 120)])],false,[],orc)
  | _=>none)
 else  none
noncomputable def fCC:Func:=(Try.prog.funcs[3]?).getD default
noncomputable def S24:Se.Spec D24:=inl (liftS baseC) Try.prog 60 9
abbrev tU (t:Tm):List (FL D24):=(tmF t).map up
abbrev fU (g:Fm):List (FL D24):=.oint g.i:: .oint g.j::(tU g.a++(tU g.c++(tU g.b++(tU g.d++(tU g.e++tU g.f)))))
abbrev hU (h:He):List (FL D24):=.oint h.i::(tU h.a++(tU h.b++(tU h.x++(tU h.y++tU h.h))))
end Go.Proofs.Ytpdinlejmlbbeaa.Sd

namespace Go.Proofs.Ytpdinlejmlbbeaa
open Go.RowKit
def Sees (V:World) (g:Nat) (w':World):Prop:=∀ k,k<V.heap.size→k≠g→w'.heap[k]? =V.heap[k]?
theorem sees_kept {V W:World} (g:Nat) (h:Kept V W):Sees V g W:=fun k hk _=>Below.block h k hk
theorem sees_of {V W w':World} {g:Nat} (h:Kept V W) (hs:Sees W g w'):Sees V g w':=fun k hk hne=>(hs k (Nat.lt_of_lt_of_le hk (Below.size h)) hne).trans (Below.block h k hk)
theorem extract_list {C vs:Array Value} {o:Nat} (h:(C.toList.drop o).take vs.size=vs.toList):C.extract o (o+vs.size)=vs:=by
 apply Array.toList_inj.1
 rw [←h,Array.toList_extract]
 simp
theorem part_cell {V:World} {r g:Nat} {C:Array Value} {T:TypeId} {fr:Nat × Nat} (h:V.heap[g]? =some (.cells C T fr)) (hne:g≠r) (o:Nat) (v:Value) (hv:C[o]? =some v):∀ w',Sees V r w'→w'.cell? ⟨g,o,none⟩=some v:=fun w' hk=>by
 have hb:w'.heap[g]? =some (.cells C T fr):=(hk g (block_lt h) hne).trans h
 rw [cell_of_row w' g o C T fr hb];exact hv
theorem kept_refl (w:World):Kept w w:=Below.refl _ _
theorem kept_trans {w w1 w2:World} (h:Kept w w1) (h':Kept w1 w2):Kept w w2:=kept_call h h'
theorem kept_new (w:World) (o:Obj):Kept w (w.alloc o):=(Below.refl _ _).alloc (Nat.le_refl _) _
abbrev hv (h:He) (sa sb sx sy sh:Value):Value:=.agg #[.int .i64 h.i,.int .i64 h.a.k,.int .i64 h.a.i,.int .i64 h.a.j,.int .i64 h.a.n,sa,.int .i64 h.b.k,.int .i64 h.b.i,.int .i64 h.b.j,.int .i64 h.b.n,sb,.int .i64 h.x.k,.int .i64 h.x.i,.int .i64 h.x.j,.int .i64 h.x.n,sx,.int .i64 h.y.k,.int .i64 h.y.i,.int .i64 h.y.j,.int .i64 h.y.n,sy,.int .i64 h.h.k,.int .i64 h.h.i,.int .i64 h.h.j,.int .i64 h.h.n,sh]
def HLies (w:World) (h:He) (sa sb sx sy sh:Value):Prop:=Lies w h.a.kids sa∧Lies w h.b.kids sb∧Lies w h.x.kids sx∧Lies w h.y.kids sy∧Lies w h.h.kids sh
theorem HLies.keep {w w':World} {h:He} {sa sb sx sy sh:Value} (H:HLies w h sa sb sx sy sh) (hb:Kept w w'):HLies w' h sa sb sx sy sh:=⟨H.1.keep hb,H.2.1.keep hb,H.2.2.1.keep hb,H.2.2.2.1.keep hb,H.2.2.2.2.keep hb⟩
abbrev fv (g:Fm) (sa sc sb sd se sf:Value):Value:=.agg #[.int .i64 g.i,.int .i64 g.j,.int .i64 g.a.k,.int .i64 g.a.i,.int .i64 g.a.j,.int .i64 g.a.n,sa,.int .i64 g.c.k,.int .i64 g.c.i,.int .i64 g.c.j,.int .i64 g.c.n,sc,.int .i64 g.b.k,.int .i64 g.b.i,.int .i64 g.b.j,.int .i64 g.b.n,sb,.int .i64 g.d.k,.int .i64 g.d.i,.int .i64 g.d.j,.int .i64 g.d.n,sd,.int .i64 g.e.k,.int .i64 g.e.i,.int .i64 g.e.j,.int .i64 g.e.n,se,.int .i64 g.f.k,.int .i64 g.f.i,.int .i64 g.f.j,.int .i64 g.f.n,sf]
def FLies (w:World) (g:Fm) (sa sc sb sd se sf:Value):Prop:=Lies w g.a.kids sa∧Lies w g.c.kids sc∧Lies w g.b.kids sb∧Lies w g.d.kids sd∧Lies w g.e.kids se∧Lies w g.f.kids sf
theorem FLies.keep {w w':World} {g:Fm} {sa sc sb sd se sf:Value} (H:FLies w g sa sc sb sd se sf) (hb:Kept w w'):FLies w' g sa sc sb sd se sf:=⟨H.1.keep hb,H.2.1.keep hb,H.2.2.1.keep hb,H.2.2.2.1.keep hb,H.2.2.2.2.1.keep hb,H.2.2.2.2.2.keep hb⟩
def GivesO (u:Tm) (w:World) (e:Ending) (w':World):Prop:=∃ s':Value,e=.returned (tv u s')∧Lies w' u.kids s'∧Kept w w'
theorem Makes.gives {u:Tm} {w w':World} {e:Ending} (h:Makes u w e w'):GivesO u w e w':=by obtain⟨s',h1,h2,h3⟩:=h;exact⟨s',h1,h2.lies,h3⟩
end Go.Proofs.Ytpdinlejmlbbeaa

namespace Go.Proofs.Ytpdinlejmlbbeaa
open Go.RowKit
def GivesP (P:Nat→Prop) (u:Tm) (w:World) (e:Ending) (w':World):Prop:=∃ s':Value,e=.returned (tv u s')∧LiesQ w' (fun b=>P b∨w.heap.size≤b) u.kids s'∧Kept w w'
theorem Makes.givesP {P:Nat→Prop} {u:Tm} {w w':World} {e:Ending} (h:Makes u w e w'):GivesP P u w e w':=by
 obtain⟨s',h1,h2,h3⟩:=h
 exact⟨s',h1,h2.q.wide (fun _ hb=>Or.inr hb.1),h3⟩
def GivesLP (P:Nat→Prop) (l:List Tm) (w:World) (e:Ending) (w':World):Prop:=∃ s':Value,e=.returned s'∧LiesQ w' (fun b=>P b∨w.heap.size≤b) l s'∧Kept w w'
theorem MakesAll.givesP {P:Nat→Prop} {l:List Tm} {w w':World} {e:Ending} (h:MakesAll l w e w'):GivesLP P l w e w':=by
 obtain⟨s',h1,h2,h3⟩:=h
 exact⟨s',h1,h2.q.wide (fun _ hb=>Or.inr hb.1),h3⟩
def Par (w:World) (n:Nat) (X:List Nat) (P:Nat→Prop) (b:Nat):Prop:=(P b∧b<w.heap.size)∨(n≤b∧b ∉ X)
def XLt (X:List Nat) (V:World):Prop:=∀ x ∈ X,x<V.heap.size
theorem xlt_nil (V:World):XLt [] V:=fun _ h=>by cases h
theorem par_in {w:World} {P:Nat→Prop} {l:List Tm} {s:Value} (n:Nat) (X:List Nat) (h:LiesQ w P l s):LiesQ w (Par w n X P) l s:=h.keep (fun _ _ _=>rfl) (fun _ hp hlt=>Or.inl ⟨hp,hlt⟩)
theorem par_give {w V w':World} {n:Nat} {X:List Nat} {P:Nat→Prop} {l:List Tm} {s:Value} (h:LiesQ w' (fun b=>Par w n X P b∨V.heap.size≤b) l s) (hn:n≤V.heap.size) (hX:XLt X V):LiesQ w' (Par w n X P) l s :=
 h.wide (fun b hb=>hb.elim id (fun h=>Or.inr ⟨Nat.le_trans hn h,fun hx=>by have:=hX b hx;omega⟩))
theorem par_new {w V:World} {n:Nat} {X:List Nat} {P:Nat→Prop} {g:Nat} (hn:n≤V.heap.size) (hX:XLt X V) (hg:V.heap.size≤g):Par w n X P g:=Or.inr ⟨Nat.le_trans hn hg,fun hx=>by have:=hX g hx;omega⟩
theorem par_row' {w V W:World} {n g:Nat} {X:List Nat} {P:Nat→Prop} {l:List Tm} {s:Value} {cs:Array Value} (h:LiesQ V (Par w n X P) l s) (hw:V.setRow g cs=W) (hg:w.heap.size≤g) (hg2:g<n):LiesQ W (Par w n X P) l s:=by
 subst hw
 exact h.keep (fun b hb _=>setRow_other _ _ _ _ (by rcases hb with ⟨-,hb⟩ | hb<;>omega)) (fun _ hb _=>hb)
theorem par_end {w V:World} {n:Nat} {X:List Nat} {P:Nat→Prop} {l:List Tm} {s:Value} (h:LiesQ V (Par w n X P) l s) (hn:w.heap.size≤n):LiesQ V (fun b=>P b∨w.heap.size≤b) l s :=
 h.wide (fun _ hb=>hb.elim (fun h=>Or.inl h.1) (fun h=>Or.inr (Nat.le_trans hn h.1)))
theorem kept_set {b V W:World} {g:Nat} {cs:Array Value} (h:Kept b V) (hw:V.setRow g cs=W) (hg:b.heap.size≤g):Kept b W:=by subst hw;exact below_setRow h hg _
theorem sees_set {V W W':World} {g:Nat} {cs:Array Value} (h:Kept V W) (hw:W.setRow g cs=W'):Sees V g W':=by
 subst hw
 exact fun k hk hne=>(setRow_other _ _ _ _ hne).trans (Below.block h k hk)
theorem blk_same {V W:World} {g:Nat} {old cs:Array Value} {T:TypeId} {fr:Nat × Nat} (h:V.heap[g]? =some (.cells old T fr)) (hw:V.setRow g cs=W):W.heap[g]? =some (.cells cs T fr):=by subst hw;exact setRow_heap _ _ _ _ _ _ h
theorem q_row {V:World} {Q:Nat→Prop} {g:Nat} {T:TypeId} {fr:Nat × Nat} (ps:List (Tm × Value)) (C:Array Value) (hC:cells5 ps=C.toList) (h:V.heap[g]? =some (.cells C T fr)) (hQ:Q g) (hp:∀ p ∈ ps,p.1.fine∧LiesQ V Q p.1.kids p.2) (hm:ps.length≤1000) :
 LiesQ V Q (ps.map (·.1)) (.slice (some ⟨g,0,none⟩) ps.length ps.length):=by
 have:=LiesQ.mk (w:=V) (P:=Q) (ps.map (·.1)) (some ⟨g,0,none⟩) ps.length (fun i=>(ps[i]?.map (·.2)).getD (.slice none 0 0)) (by simp) (by unfold maxLen;omega) (fun x hx=>by obtain⟨p,hq,rfl⟩:=List.mem_map.1 hx;exact(hp p hq).1)
  (fun i hi=>by
    have hi':i<ps.length:=by simpa using hi
    refine⟨g,0,rfl,hQ,?_⟩
    simp only [List.getElem_map,List.getElem?_eq_getElem hi',Option.map_some,Option.getD_some,Nat.zero_add]
    have cellq:∀ q,q<5→V.cell? ⟨g,i * 5+q,none⟩=[Value.int .i64 (ps[i]).1.k,.int .i64 (ps[i]).1.i,.int .i64 (ps[i]).1.j,.int .i64 (ps[i]).1.n,(ps[i]).2][q]?:=fun q hq=>by
     rw [cell_of_row V g _ C T fr h,←Array.getElem?_toList,←hC];exact cells5_get ps i hi' q hq
    exact⟨cellq 0 (by omega),cellq 1 (by omega),cellq 2 (by omega),cellq 3 (by omega),cellq 4 (by omega)⟩)
  (fun i hi=>by
    have hi':i<ps.length:=by simpa using hi
    simp only [List.getElem_map,List.getElem?_eq_getElem hi',Option.map_some,Option.getD_some]
    exact(hp _ (List.getElem_mem hi')).2)
 simpa using this
theorem mk_fine {k i j n:Int} {l:List Tm} (hk:I64 k) (hi:I64 i) (hj:I64 j) (hn:I64 n):(Tm.mk k i j n l).fine:=⟨hk,hi,hj,hn⟩
theorem at_world {P:Program} {f:FuncId} {args:Array Value} {V:World} {K:Ending→World→Prop} (h:∀ W,V=W→Calls P f args W K):Calls P f args V K:=h V rfl
theorem at_code {P:Program} {c:Code} {Q:Exit→Act→World→Prop} {a:Act} {V:World} (h:∀ W,V=W→c.wp P Q a W):c.wp P Q a V:=h V rfl
theorem at_K {K:Act→World→Prop} {a:Act} {V:World} (h:∀ W,V=W→K a W):K a V:=h V rfl
theorem stop_store {P:Program} {ops:Array Oper} {rest:List Oper} {o:Oper} {a:Act} {w:World} {Q:Exit→Act→World→Prop} (ty:TypeId) (x y:Operand) (_:o.op=.store ty x y) (h:True→wpList P ops Q (o::rest) a w):wpList P ops Q (o::rest) a w:=h trivial
theorem stop_load {P:Program} {ops:Array Oper} {rest:List Oper} {o:Oper} {a:Act} {w:World} {Q:Exit→Act→World→Prop} (ty:TypeId) (x:Operand) (_:o.op=.load ty x) (h:True→wpList P ops Q (o::rest) a w):wpList P ops Q (o::rest) a w:=h trivial
theorem run_loadAt_part {P:Program} {w:World} {g:Nat} {C:Array Value} {T:TypeId} {fr:Nat × Nat} (hb:w.heap[g]? =some (.cells C T fr)) (o:Nat) (ty:TypeId) (vs:Array Value) (d:TypeDesc) (hv:(C.toList.drop o).take vs.size=vs.toList)
 (hu:P.underlying ty=some d) (hd:(match d with | .struct _ | .array _ _=>true | _=>false)=true) (hi:(P.info? ty).map (·.size)=some vs.size) :
 (Instr.loadAt ty (.pointer (some ⟨g,o,none⟩))).run P w=.ok (.agg vs) w:=by
 have hr:=World.rangeAt_of_block hb o vs.size
 rw [extract_list hv] at hr
 have:=run_loadAt_mid (P:=P) w g o ty vs.toList d hr hu (by cases d<;>first | rfl | exact hd) (by simpa using hi)
 simpa using this
theorem wpList_load_part {P:Program} {ops:Array Oper} {rest:List Oper} {op:Oper} {a:Act} {w:World} {Q:Exit→Act→World→Prop} (g o:Nat) (ty:TypeId) (x:Operand) (vs:Array Value) (d:TypeDesc) {C:Array Value} {T:TypeId} {fr:Nat × Nat}
 (hg:w.heap[g]? =some (.cells C T fr)) (hw:Region.wanted op (yielded ops a.tmps)=true) (ho:op.op=.load ty x) (hx:a.eval x=.pointer (some ⟨g,o,none⟩)) (hv:(C.toList.drop o).take vs.size=vs.toList)
 (hu:P.underlying ty=some d) (hd:(match d with | .struct _ | .array _ _=>true | _=>false)=true) (hi:(P.info? ty).map (·.size)=some vs.size)
 (h:wpList P ops Q rest (a.put op.dst (.agg vs)) w):wpList P ops Q (op::rest) a w:=by
 unfold wpList
 rw [if_pos hw]
 refine .inl ?_
 unfold Oper.wp execOp
 simp only [ho,hx,run_loadAt_part hg o ty vs d hv hu hd hi,Result.andThen_ok,Sem.run_bind,Sem.run_pure]
 exact h
theorem yields_part {P:Program} {ops:Array Oper} {S:World→Prop} {op:Oper} {a:Act} (g o:Nat) (ty:TypeId) (x:Operand) (vs:Array Value) (d:TypeDesc) {C:Array Value} {T:TypeId} {fr:Nat × Nat}
 (hS:∀ w,S w→w.heap[g]? =some (.cells C T fr)) (hw:Region.wanted op (yielded ops a.tmps)=true) (ho:op.op=.load ty x) (hx:a.eval x=.pointer (some ⟨g,o,none⟩)) (hv:(C.toList.drop o).take vs.size=vs.toList)
 (hu:P.underlying ty=some d) (hd:(match d with | .struct _ | .array _ _=>true | _=>false)=true) (hi:(P.info? ty).map (·.size)=some vs.size):YieldsIf P ops S op (.agg vs) a:=by
 refine .inl ⟨hw,fun w h=>?_⟩
 unfold execOp
 simp only [ho,hx,run_loadAt_part (hS w h) o ty vs d hv hu hd hi,Result.andThen_ok,Sem.run_bind,Sem.run_pure]
theorem sees_blk {V w':World} {r g:Nat} {o:Obj} (h:V.heap[g]? =some o) (hne:g≠r) (hs:Sees V r w'):w'.heap[g]? =some o:=(hs g (block_lt h) hne).trans h
theorem row_ok {cells:Array Value} (h:cells.toList.all (·.oneCell')=true):cells.all (·.oneCell')=true:=by rw [←Array.all_toList];exact h
theorem setCells_row (g:Nat) (t:TypeId) (fr:Nat × Nat):∀ (vs:List Value) (o:Nat) (cur:Array Value) (w:World),w.heap[g]? =some (.cells cur t fr)→o+vs.length≤cur.size →
 w.setCells g o vs=w.setRow g (cur.toList.take o++vs++cur.toList.drop (o+vs.length)).toArray
 | [],o,cur,w,hg,_=>by
  have e:(cur.toList.take o++([]:List Value)++cur.toList.drop (o+([]:List Value).length)).toArray=cur:=by simp
  rw [e,setRow_self w g cur t fr hg];rfl
 | v::r,o,cur,w,hg,hl=>by
  have hl':o+1+r.length≤(cur.setIfInBounds o v).size:=by simp at hl ⊢;omega
  rw [World.setCells,setCell_eq_setRow w g o cur t fr v hg,setCells_row g t fr r (o+1) (cur.setIfInBounds o v) _ (setRow_heap w g cur _ t _ hg) hl',setRow_setRow]
  congr 2
  simp only [List.length_cons] at hl ⊢
  have ho:o<cur.toList.length:=by simp;omega
  rw [Array.toList_setIfInBounds]
  rw [List.take_succ_eq_append_getElem (by simpa using ho),List.take_set_of_le (Nat.le_refl _),List.getElem_set_self,List.drop_set_of_lt (by omega)]
  simp [Nat.add_assoc,Nat.add_comm 1]
theorem run_storeVar_part {P:Program} (w:World) (g o:Nat) (t ty:TypeId) (old cells new:Array Value) (hg:w.heap[g]? =some (.cells old t (0,0))) (hi:(P.info? ty).map (·.size)=some cells.size)
 (hn:old.toList.take o++cells.toList++old.toList.drop (o+cells.size)=new.toList) (hl:o+cells.size≤old.size) (h1:cells.all (·.oneCell')=true) :
 (storeVar ty ⟨g,o,none⟩ (.agg cells)).run P w=.ok () (w.setRow g new):=by
 have ht:w.there g o cells.size:=fun j hj=>by
  rw [cell_of_row w g (o+j) old t _ hg]
  exact⟨by rw [Array.getElem?_eq_getElem (by omega)];rfl,by simp [World.frozen?,hg]⟩
 rw [run_storeVar_mid w g o ty cells ht hi h1,setCells_row g t (0,0) cells.toList o old w hg (by simpa using hl)]
 simp only [Array.length_toList]
 rw [hn]
theorem wp_store_part {P:Program} {o:Oper} {a:Act} {w:World} {K:Act→World→Prop} {Q:Exit→Act→World→Prop} (ty:TypeId) (x y:Operand) (ho:o.op=.store ty x y)
 (g off:Nat) (cells:Array Value) (hx:a.eval x=.pointer (some ⟨g,off,none⟩)) (hy:a.eval y=.agg cells) (t:TypeId) (hi:(P.info? ty).map (·.size)=some cells.size) (h1:cells.all (·.oneCell')=true)
 (old new:Array Value) (hg:w.heap[g]? =some (.cells old t (0,0))) (hn:old.toList.take off++cells.toList++old.toList.drop (off+cells.size)=new.toList) (hl:off+cells.size≤old.size)
 (h:K (a.put o.dst undef) (w.setRow g new)):o.wp P a w K Q:=by
 unfold Oper.wp execOp
 simp only [ho,hx,hy,Instr.storeAt,Instr.sureAddr,Sem.run_bind,Sem.run_pure,Result.andThen_ok,run_storeVar_part w g off t ty old cells new hg hi hn hl h1]
 exact h
theorem step_store_part {P:Program} {ops:Array Oper} {o:Oper} {a:Act} {w:World} {K:Act→World→Prop} {Q:Exit→Act→World→Prop} {E:Prop} (hgd:o.guard=none) (ty:TypeId) (x y:Operand) (ho:o.op=.store ty x y)
 (g off:Nat) (cells:Array Value) (hx:a.eval x=.pointer (some ⟨g,off,none⟩)) (hy:a.eval y=.agg cells) (t:TypeId) (hi:(P.info? ty).map (·.size)=some cells.size) (h1:cells.all (·.oneCell')=true)
 (old new:Array Value) (hg:w.heap[g]? =some (.cells old t (0,0))) (hn:old.toList.take off++cells.toList++old.toList.drop (off+cells.size)=new.toList) (hl:off+cells.size≤old.size)
 (h:∀ W,w.setRow g new=W→K (a.put o.dst undef) W):if Region.wanted o (yielded ops a.tmps)=true then Oper.wp P o a w K Q else E:=by
 have hw:Region.wanted o (yielded ops a.tmps)=true:=by simp [Region.wanted,hgd]
 rw [if_pos hw]
 exact wp_store_part ty x y ho g off cells hx hy t hi h1 old new hg hn hl (h _ rfl)
theorem wpList_store_part_n {P:Program} {ops:Array Oper} {rest:List Oper} {o:Oper} {a:Act} {w:World} {Q:Exit→Act→World→Prop} (hgd:o.guard=none) (ty:TypeId) (x y:Operand) (ho:o.op=.store ty x y)
 (g off:Nat) (cells:Array Value) (hx:a.eval x=.pointer (some ⟨g,off,none⟩)) (hy:a.eval y=.agg cells) (t:TypeId) (hi:(P.info? ty).map (·.size)=some cells.size) (h1:cells.all (·.oneCell')=true)
 (h:∀ W,w=W→∃ old new:Array Value,W.heap[g]? =some (.cells old t (0,0))∧old.toList.take off++cells.toList++old.toList.drop (off+cells.size)=new.toList∧off+cells.size≤old.size∧∀ W',W.setRow g new=W'→wpList P ops Q rest (a.put o.dst undef) W'):wpList P ops Q (o::rest) a w:=by
 obtain⟨old,new,hg,hn,hl,h2⟩:=h w rfl
 exact wpList_plain hgd fun _ hK=>wp_store_part ty x y ho g off cells hx hy t hi h1 old new hg hn hl (hK _ _ (h2 _ rfl))
theorem blk_at {V W:World} {g:Nat} {o:Obj} (h:V.heap[g]? =some o) (hk:Kept V W):W.heap[g]? =some o:=(Below.block hk g (block_lt h)).trans h
theorem alloc1 {w V:World} {o0:Obj} (h:w.alloc o0=V):Kept w V∧V.heap[w.heap.size]? =some o0∧V.heap.size=w.heap.size+1:=by
 subst h
 exact⟨kept_new _ _,alloc_new _ _,by simp⟩
theorem alloc2 {w V:World} {o0 o1:Obj} (h:(w.alloc o0).alloc o1=V):Kept w V∧V.heap[w.heap.size]? =some o0∧V.heap[w.heap.size+1]? =some o1∧V.heap.size=w.heap.size+2:=by
 obtain⟨W,hW⟩:∃ W,w.alloc o0=W:=⟨_,rfl⟩
 rw [hW] at h
 obtain⟨hk,h0,hs⟩:=alloc1 hW
 obtain⟨gk,g0,gs⟩:=alloc1 h
 exact⟨kept_trans hk gk,blk_at h0 gk,by rw [←hs];exact g0,by omega⟩
theorem alloc3 {w V:World} {o0 o1 o2:Obj} (h:((w.alloc o0).alloc o1).alloc o2=V):Kept w V∧V.heap[w.heap.size]? =some o0∧V.heap[w.heap.size+1]? =some o1∧V.heap[w.heap.size+2]? =some o2∧V.heap.size=w.heap.size+3:=by
 obtain⟨W,hW⟩:∃ W,(w.alloc o0).alloc o1=W:=⟨_,rfl⟩
 rw [hW] at h
 obtain⟨hk,h0,h1,hs⟩:=alloc2 hW
 obtain⟨gk,g0,gs⟩:=alloc1 h
 exact⟨kept_trans hk gk,blk_at h0 gk,blk_at h1 gk,by rw [←hs];exact g0,by omega⟩
def HQ (w:World) (P:Nat→Prop) (h:He) (sa sb sx sy sh:Value):Prop:=LiesQ w P h.a.kids sa∧LiesQ w P h.b.kids sb∧LiesQ w P h.x.kids sx∧LiesQ w P h.y.kids sy∧LiesQ w P h.h.kids sh
theorem HQ.lies {w:World} {P:Nat→Prop} {h:He} {sa sb sx sy sh:Value} (H:HQ w P h sa sb sx sy sh):HLies w h sa sb sx sy sh:=⟨H.1.lies,H.2.1.lies,H.2.2.1.lies,H.2.2.2.1.lies,H.2.2.2.2.lies⟩
theorem HLies.q {w:World} {h:He} {sa sb sx sy sh:Value} (H:HLies w h sa sb sx sy sh):HQ w (fun b=>b<w.heap.size) h sa sb sx sy sh:=⟨H.1.q,H.2.1.q,H.2.2.1.q,H.2.2.2.1.q,H.2.2.2.2.q⟩
def FQ (w:World) (P:Nat→Prop) (g:Fm) (sa sc sb sd se sf:Value):Prop:=LiesQ w P g.a.kids sa∧LiesQ w P g.c.kids sc∧LiesQ w P g.b.kids sb∧LiesQ w P g.d.kids sd∧LiesQ w P g.e.kids se∧LiesQ w P g.f.kids sf
theorem FLies.q {w:World} {g:Fm} {sa sc sb sd se sf:Value} (H:FLies w g sa sc sb sd se sf):FQ w (fun b=>b<w.heap.size) g sa sc sb sd se sf:=⟨H.1.q,H.2.1.q,H.2.2.1.q,H.2.2.2.1.q,H.2.2.2.2.1.q,H.2.2.2.2.2.q⟩
theorem under_of (t:TypeId) (h:(Try.prog.underlying t).map (fun d=>match d with | .struct _ | .array _ _=>true | _=>false)=some true):∃ d,Try.prog.underlying t=some d∧(match d with | .struct _ | .array _ _=>true | _=>false)=true:=by
 cases e:Try.prog.underlying t with
 | none=>rw [e] at h;cases h
 | some d=>rw [e] at h;exact⟨d,rfl,Option.some.inj h⟩
end Go.Proofs.Ytpdinlejmlbbeaa

namespace Go.Proofs.Ytpdinlejmlbbeaa
open Go.RowKit
theorem node_fine {k:Int} {l:List Tm} (h:I64 k):(nodeT k l).fine:=mk_fine h (by unfold I64;decide) (by unfold I64;decide) (by unfold I64;decide)
theorem use_fineJ {n i j:Int} {l:List Tm} (hn:I64 n) (hi:I64 i) (hj:I64 j):(useT n i j l).fine:=mk_fine (by unfold I64;decide) hi hj hn
theorem pairs_of (l:List Tm) (S:Nat→Value):∃ ps:List (Tm × Value),ps.map (·.1)=l∧ps.length=l.length∧∀ i (h:i<l.length) (h':i<ps.length),ps[i]=(l[i],S i):=by
 refine⟨(List.range l.length).map fun i=>((l[i]?).getD .zero,S i),?_,by simp,fun i h h'=>by simp [h]⟩
 apply List.ext_getElem
 ·simp
 ·intro i h1 h2
  simp at h1
  simp [h2]
theorem owns_later {B:Nat} {w w':World} {T:TypeId} {v:Value} {n:Nat} {xs:List Value} (h:w.ownsRow B T 5 v n xs) (hb:Below w.heap.size w w'):w'.ownsRow B T 5 v n xs:=by
 obtain⟨h1,h2⟩:=h
 refine⟨h1,?_⟩
 rcases h2 with h2 | ⟨g,cap,cur,hv,hg,hh,r⟩
 ·exact Or.inl h2
 ·refine Or.inr ⟨g,cap,cur,hv,hg,?_,r⟩
  rw [hb.block g (Array.getElem?_eq_some_iff.1 hh).1];exact hh
theorem owns_above {B:Nat} {w:World} {T:TypeId} {v:Value} {n:Nat} {xs:List Value} (h:w.ownsRow B T 5 v n xs):∀ g,v.ownBlock=some g→B≤g:=fun g hg=>by
 rcases h.2 with ⟨rfl,-⟩ | ⟨g',cap,cur,rfl,hg',-⟩
 ·simp [Value.ownBlock] at hg
 ·simp [Value.ownBlock] at hg;omega
theorem owns_lies {B:Nat} {w:World} {Q:Nat→Prop} {v:Value} {ps:List (Tm × Value)} (h:w.ownsRow B 24 5 v ps.length (cells5 ps)) (hQ:∀ g,B≤g→g<w.heap.size→Q g) (hp:∀ p ∈ ps,p.1.fine∧LiesQ w Q p.1.kids p.2):LiesQ w Q (ps.map (·.1)) v:=by
 have h0:=h
 obtain⟨-,⟨rfl,hn⟩ | ⟨g,cap,cur,rfl,hg,hh,hnc,hcm,hsz,htk⟩⟩:=h
 ·obtain rfl:ps=[]:=List.eq_nil_of_length_eq_zero hn
  exact liesQ_nil _ _
 ·have:=LiesQ.mk (w:=w) (P:=Q) (ps.map (·.1)) (some ⟨g,0,none⟩) cap (fun i=>(ps[i]?.map (·.2)).getD (.slice none 0 0)) (by simpa using hnc) hcm (fun x hx=>by obtain⟨p,hq,rfl⟩:=List.mem_map.1 hx;exact(hp p hq).1)
   (fun i hi=>by
     have hi':i<ps.length:=by simpa using hi
     refine⟨g,0,rfl,hQ g hg (Array.getElem?_eq_some_iff.1 hh).1,?_⟩
     simp only [List.getElem_map,List.getElem?_eq_getElem hi',Option.map_some,Option.getD_some,Nat.zero_add]
     have cellq:∀ q,q<5→w.cell? ⟨g,i * 5+q,none⟩=[Value.int .i64 (ps[i]).1.k,.int .i64 (ps[i]).1.i,.int .i64 (ps[i]).1.j,.int .i64 (ps[i]).1.n,(ps[i]).2][q]?:=fun q hq=>by
      rw [h0.cellAt (i * 5+q) (by omega)];exact cells5_get ps i hi' q hq
     exact⟨cellq 0 (by omega),cellq 1 (by omega),cellq 2 (by omega),cellq 3 (by omega),cellq 4 (by omega)⟩)
   (fun i hi=>by
     have hi':i<ps.length:=by simpa using hi
     simp only [List.getElem_map,List.getElem?_eq_getElem hi',Option.map_some,Option.getD_some]
     exact(hp _ (List.getElem_mem hi')).2)
  simpa using this
set_option maxRecDepth 20000 in
set_option maxHeartbeats 4000000 in
theorem rlevel_any (i:Int) (low:Int) (w:World) (hri:I64 i) (hrlow:I64 low) (h0:0≤low) (h1:low≤1000):Calls Try.prog 47 #[.int .i64 i,.int .i64 low] w fun e w'=>e=.returned (.bool (levN low i))∧Kept w w':=by
 have Ri:=Lib.hid hri
 clear hri
 have Rlow:=Lib.hid hrlow
 clear hrlow
 have ew:IntKind.i64.wrap (1000-low)=1000-low:=IntWalk.i64_in _ (by omega)
 clear h0 h1
 go_enter Try.func47,Try.ntmps47
 have kvw:Sees w w.heap.size w:=sees_kept _ (kept_refl _)
 by_cases c1:0≤i
 ·have ec1:decide (0≤i)=true:=decide_eq_true c1
  have Ec1:=Lib.hid ec1
  have Hc1:=Lib.hid c1
  clear c1
  by_cases c2:i≤(1000-low)
  ·have ec2:decide (i≤(1000-low))=true:=decide_eq_true c2
   have Ec2:=Lib.hid ec2
   have Hc2:=Lib.hid c2
   clear c2
   go_wp2
   go_ret
   exact⟨ret_bool (Eq.symm (show levN low i=true from by unfold levN;rw [Ec1.out,Ec2.out];(try rfl))),(kept_refl _)⟩
  ·have ec2:decide (i≤(1000-low))=false:=decide_eq_false c2
   have Ec2:=Lib.hid ec2
   have Hc2:=Lib.hid c2
   clear c2
   go_wp2
   go_ret
   exact⟨ret_bool (Eq.symm (show levN low i=false from by unfold levN;rw [Ec1.out,Ec2.out];(try rfl))),(kept_refl _)⟩
 ·have ec1:decide (0≤i)=false:=decide_eq_false c1
  have Ec1:=Lib.hid ec1
  have Hc1:=Lib.hid c1
  clear c1
  go_wp2
  go_ret
  exact⟨ret_bool (Eq.symm (show levN low i=false from by unfold levN;rw [Ec1.out];(try rfl))),(kept_refl _)⟩
set_option maxRecDepth 20000 in
set_option maxHeartbeats 4000000 in
theorem rplain_any (l:List Tm) (w:World) (s:Value) (hl:Lies w l s):Calls Try.prog 48 #[s] w fun e w'=>e=.returned (.bool (plainL l))∧Kept w w':=by
 obtain⟨a,cap,S,rfl,hc,hmx,-,hn,hk⟩:=hl.out
 unfold maxLen at hmx
 have HN:=Lib.hid hn
 have HK:=Lib.hid hk
 clear hn hk hl
 go_enter Try.func48,Try.ntmps48
 go_wp2
 go_loopw [3] (fun iv wr=>∃ k:Nat,k≤l.length∧iv=.int .i64 k∧Hid (∀ j (h:j<l.length),j<k→(l[j]).plainB=true)∧Kept w wr) (fun iv _=>l.length-(intOf iv).toNat)
 case atStart=>exact⟨0,Nat.zero_le _,rfl,fun j _ h=>absurd h (by omega),kept_refl _⟩
 case round =>
  obtain⟨k,hkl,rfl,hrel,hb⟩:=hrel
  by_cases hlt:k<l.length
  ·obtain⟨b,o,rfl,hx⟩:=HN.out k hlt
   obtain⟨c0,c1,c2,c3,c4⟩:=hx.below hb hx.lt
   have hq:=HK.out k hlt
   obtain⟨a',cap',S',hS,-⟩:=hq.out
   rw [hS] at c4 hq
   have HQ:=Lib.hid (hq.keep hb)
   have HB:=Lib.hid hb
   clear hS hq hb
   go_wp2_with fail
   refine(refplain_any l[k] _ _ HQ.out).mono ?_
   clear c0 c1 c2 c3 c4
   cases hp:(l[k]).plainB with
   | false =>
    have HF:Hid (plainL l=false):=by
     show _=_
     cases hh:plainL l with
     | false=>rfl
     | true=>rw [plainL_iff.1 hh _ (List.getElem_mem hlt)] at hp;cases hp
    rintro e w' ⟨rfl,hb'⟩
    have HB2:=Lib.hid (kept_trans HB.out hb')
    clear hb' hp
    go_wp2
    go_ret
    exact⟨ret_bool (by rw [HF.out]),HB2.out⟩
   | true =>
    have HP:=Lib.hid hp
    rintro e w' ⟨rfl,hb'⟩
    have HB2:=Lib.hid (kept_trans HB.out hb')
    clear hb' hp
    go_wp2
    go_roundw
    case rel =>
     refine⟨k+1,hlt,by go_num,fun j hj hjk=>?_,HB2.out⟩
     by_cases e:j=k
     ·subst e;exact HP.out
     ·exact hrel.out j hj (by omega)
    case measure=>simp [intOf];omega
  ·obtain rfl:k=l.length:=by omega
   have HF:Hid (plainL l=true):=by
    show _=_
    exact plainL_iff.2 (fun x hx=>by obtain⟨j,hj,rfl⟩:=List.getElem_of_mem hx;exact hrel.out j hj hj)
   have HB:=Lib.hid hb
   clear hb
   go_wp2
   go_ret
   exact⟨ret_bool (by rw [HF.out]),HB.out⟩
set_option maxRecDepth 20000 in
set_option maxHeartbeats 4000000 in
theorem rnode_any (kd:Int) (l:List Tm) (P:Nat→Prop) (w:World) (s:Value) (_:I64 kd) (hl:LiesQ w P l s) (hlen:l.length≤1000):Calls Try.prog 28 #[.int .i64 kd,s] w (GivesP P (nodeT kd l) w):=by
 obtain⟨a,cap,S,rfl,hc,hmx,hf,hn,hk⟩:=hl.out
 obtain⟨ps,hps,hpl,hpg⟩:=pairs_of l S
 unfold maxLen at hmx
 obtain⟨du,hu1,hu2⟩:=under_term
 obtain⟨i0,hi,hz0,hz1,hz2⟩:=info_parts info_term
 have HI:=Lib.hid (And.intro hi (And.intro hz0 (And.intro hz1 hz2)))
 have HN:=Lib.hid hn
 have HK:=Lib.hid hk
 have HF:=Lib.hid hf
 have HPS:=Lib.hid hps
 have HPL:=Lib.hid hpl
 have HPG:=Lib.hid hpg
 have HLEN:=Lib.hid hlen
 clear hn hk hl hf hi hz0 hz1 hz2 hps hpl hpg
 go_enter Try.func28,Try.ntmps28
 go_upto_region 1 with fail
 refine at_code (fun V0 hV0=>?_)
 obtain⟨k0,x0,z0⟩:=alloc1 hV0
 have HK0:=Lib.hid k0
 have HX0:=Lib.hid x0
 have HZ0:=Lib.hid z0
 clear k0 x0 z0 hV0
 go_wp2_with fail
 go_loopw [5,6] (fun v iv wr=>∃ (k:Nat) (vv:Value),vv=v∧k≤l.length∧iv=.int .i64 k∧Hid (wr.ownsRow V0.heap.size 24 5 vv k (cells5 (ps.take k)))∧Kept V0 wr) (fun _ iv _=>l.length-(intOf iv).toNat)
 case atStart=>exact⟨0,_,rfl,Nat.zero_le _,rfl,⟨rfl,Or.inl ⟨rfl,rfl⟩⟩,kept_refl _⟩
 case round =>
  obtain⟨k,vv,rfl,hkl,rfl,hown0,hb⟩:=hrel
  have HO:=Lib.hid hown0.out
  clear hown0
  by_cases hlt:k<l.length
  ·obtain⟨b,o,rfl,-,hx⟩:=HN.out k hlt
   obtain⟨c0,c1,c2,c3,c4⟩:=hx.below (kept_trans HK0.out hb) hx.lt
   have hq:=HK.out k hlt
   obtain⟨a',cap',S',hS,-⟩:=hq.out
   rw [hS] at c4
   have HS:=Lib.hid hS
   have HB:=Lib.hid hb
   have hon:(wr.alloc (.cells #[.int .i64 l[k].k,.int .i64 l[k].i,.int .i64 l[k].j,.int .i64 l[k].n,.slice a' l[k].kids.length cap'] 24)).ownsRow V0.heap.size 24 5 vv k (cells5 (ps.take k)):=owns_later HO.out (kept_new _ _)
   have HON:=Lib.hid hon
   clear hS hq hb hon
   go_wp2_with (at_builtin;refine wpList_append_lies _ rfl (.tmp 13) (.tmp 18) 22 rfl V0.heap.size 24 i0 _ 5 56 (by kernel_rfl) HI.out.1 HI.out.2.1 HI.out.2.2.1 HI.out.2.2.2 rfl (by decide) _ k (cells5 (ps.take k)) rfl HON.out ⟨wr.heap.size,0,none⟩ 1 1 (cells5 [(l[k],.slice a' l[k].kids.length cap')]) rfl rfl ?news ?one (by decide) ?max ?bytes ?base _ rfl ?next)
   case news=>exact news_new _ _ _ _
   case one=>intro u hu;simp [cells5] at hu;rcases hu with rfl | rfl | rfl | rfl | rfl<;>rfl
   case max=>have:=HLEN.out;unfold maxLen;omega
   case bytes=>have:=HLEN.out;omega
   case base=>have:=Below.size HB.out;simp;omega
   case next =>
   intro g cap3 w3 hown hgrow hat hlt3
   have hkE:Kept V0 w3:=Below.grown (kept_alloc HB.out _) hgrow (by have:=Below.size HB.out;simp;omega) (owns_above HO.out)
   have hO3:w3.ownsRow V0.heap.size 24 5 (.slice (some ⟨g,0,none⟩) (k+1) cap3) (k+1) (cells5 (ps.take (k+1))):=by
    have e:ps.take (k+1)=ps.take k++[(l[k],.slice a' l[k].kids.length cap')]:=by
     rw [List.take_succ_eq_append_getElem (by rw [HPL.out];exact hlt),HPG.out k hlt (by rw [HPL.out];exact hlt),HS.out]
    rw [e,cells5_append];exact hown
   have HO3:=Lib.hid hO3
   clear hown hgrow hat hlt3 c0 c1 c2 c3 c4 hO3 hx
   go_wp2_with fail
   go_roundw
   case rel=>exact⟨k+1,_,rfl,hlt,by go_num,HO3.out,hkE⟩
   case measure=>simp [intOf];omega
  ·obtain rfl:k=l.length:=by omega
   have hl2:LiesQ wr (fun b=>(P b∧b<w.heap.size)∨V0.heap.size≤b) (ps.map (·.1)) vv:=by
    have ho:=HO.out
    rw [List.take_of_length_le (by rw [HPL.out];exact Nat.le_refl _),←HPL.out] at ho
    refine owns_lies ho (fun g hg _=>Or.inr hg) (fun p hp=>?_)
    obtain⟨j,hj,rfl⟩:=List.getElem_of_mem hp
    have hj':j<l.length:=by rw [←HPL.out];exact hj
    rw [HPG.out j hj' hj]
    exact⟨HF.out _ (List.getElem_mem hj'),(HK.out j hj').keep (fun b _ hlt=>Below.block (kept_trans HK0.out hb) b hlt) (fun b hp hlt=>Or.inl ⟨hp,hlt⟩)⟩
   rw [HPS.out] at hl2
   obtain⟨a2,cap2,S2,rfl,-⟩:=hl2.out
   have HL2:=Lib.hid hl2
   have HB:=Lib.hid hb
   clear hl2 hb HO
   go_wp2_with (refine stop_store 24 (.tmp 4) (.tmp 22) rfl ?_)
   intro _
   refine wpList_store_part_n (by rfl) 24 (.tmp 4) (.tmp 22) rfl (w.heap.size) 0 #[.int .i64 kd,.int .i64 0,.int .i64 0,.int .i64 0,.slice a2 l.length cap2] (by rfl) (by rfl) 24 size_term (row_ok rfl) ?_
   intro W hW
   subst hW
   refine⟨_,#[.int .i64 kd,.int .i64 0,.int .i64 0,.int .i64 0,.slice a2 l.length cap2],blk_at HX0.out HB.out,rfl,Nat.le_of_ble_eq_true rfl,?_⟩
   intro W2 hW2
   go_wp2_with fail
   refine bodyPost_ret (results_cell_row rfl _ _ (w.heap.size) 24 _ _ du rfl (blk_same (blk_at HX0.out HB.out) hW2) hu1 (by cases du<;>first | rfl | exact hu2) size_term) rfl ?_
   refine⟨_,rfl,?_,kept_set (kept_trans HK0.out HB.out) hW2 (Nat.le_refl _)⟩
   have hz:=HZ0.out
   subst hW2
   exact HL2.out.keep (fun b hb _=>setRow_other _ _ _ _ (by rcases hb with ⟨-,hb⟩ | hb<;>omega)) (fun b hb _=>by rcases hb with ⟨hb,-⟩ | hb;exact Or.inl hb;exact Or.inr (by omega))
set_option maxRecDepth 20000 in
set_option maxHeartbeats 4000000 in
theorem ruse_any (n:Int) (i:Int) (j:Int) (l:List Tm) (P:Nat→Prop) (w:World) (s:Value) (_:I64 n) (_:I64 i) (_:I64 j) (hl:LiesQ w P l s) (hlen:l.length≤1000):Calls Try.prog 52 #[.int .i64 n,.int .i64 i,.int .i64 j,s] w (GivesP P (useT n i j l) w):=by
 obtain⟨a,cap,S,rfl,hc,hmx,hf,hn,hk⟩:=hl.out
 obtain⟨ps,hps,hpl,hpg⟩:=pairs_of l S
 unfold maxLen at hmx
 obtain⟨du,hu1,hu2⟩:=under_term
 obtain⟨i0,hi,hz0,hz1,hz2⟩:=info_parts info_term
 have HI:=Lib.hid (And.intro hi (And.intro hz0 (And.intro hz1 hz2)))
 have HN:=Lib.hid hn
 have HK:=Lib.hid hk
 have HF:=Lib.hid hf
 have HPS:=Lib.hid hps
 have HPL:=Lib.hid hpl
 have HPG:=Lib.hid hpg
 have HLEN:=Lib.hid hlen
 clear hn hk hl hf hi hz0 hz1 hz2 hps hpl hpg
 go_enter Try.func52,Try.ntmps52
 go_upto_region 1 with fail
 refine at_code (fun V0 hV0=>?_)
 obtain⟨k0,x0,z0⟩:=alloc1 hV0
 have HK0:=Lib.hid k0
 have HX0:=Lib.hid x0
 have HZ0:=Lib.hid z0
 clear k0 x0 z0 hV0
 go_wp2_with fail
 go_loopw [9,10] (fun v iv wr=>∃ (k:Nat) (vv:Value),vv=v∧k≤l.length∧iv=.int .i64 k∧Hid (wr.ownsRow V0.heap.size 24 5 vv k (cells5 (ps.take k)))∧Kept V0 wr) (fun _ iv _=>l.length-(intOf iv).toNat)
 case atStart=>exact⟨0,_,rfl,Nat.zero_le _,rfl,⟨rfl,Or.inl ⟨rfl,rfl⟩⟩,kept_refl _⟩
 case round =>
  obtain⟨k,vv,rfl,hkl,rfl,hown0,hb⟩:=hrel
  have HO:=Lib.hid hown0.out
  clear hown0
  by_cases hlt:k<l.length
  ·obtain⟨b,o,rfl,-,hx⟩:=HN.out k hlt
   obtain⟨c0,c1,c2,c3,c4⟩:=hx.below (kept_trans HK0.out hb) hx.lt
   have hq:=HK.out k hlt
   obtain⟨a',cap',S',hS,-⟩:=hq.out
   rw [hS] at c4
   have HS:=Lib.hid hS
   have HB:=Lib.hid hb
   have hon:(wr.alloc (.cells #[.int .i64 l[k].k,.int .i64 l[k].i,.int .i64 l[k].j,.int .i64 l[k].n,.slice a' l[k].kids.length cap'] 24)).ownsRow V0.heap.size 24 5 vv k (cells5 (ps.take k)):=owns_later HO.out (kept_new _ _)
   have HON:=Lib.hid hon
   clear hS hq hb hon
   go_wp2_with (at_builtin;refine wpList_append_lies _ rfl (.tmp 17) (.tmp 22) 22 rfl V0.heap.size 24 i0 _ 5 56 (by kernel_rfl) HI.out.1 HI.out.2.1 HI.out.2.2.1 HI.out.2.2.2 rfl (by decide) _ k (cells5 (ps.take k)) rfl HON.out ⟨wr.heap.size,0,none⟩ 1 1 (cells5 [(l[k],.slice a' l[k].kids.length cap')]) rfl rfl ?news ?one (by decide) ?max ?bytes ?base _ rfl ?next)
   case news=>exact news_new _ _ _ _
   case one=>intro u hu;simp [cells5] at hu;rcases hu with rfl | rfl | rfl | rfl | rfl<;>rfl
   case max=>have:=HLEN.out;unfold maxLen;omega
   case bytes=>have:=HLEN.out;omega
   case base=>have:=Below.size HB.out;simp;omega
   case next =>
   intro g cap3 w3 hown hgrow hat hlt3
   have hkE:Kept V0 w3:=Below.grown (kept_alloc HB.out _) hgrow (by have:=Below.size HB.out;simp;omega) (owns_above HO.out)
   have hO3:w3.ownsRow V0.heap.size 24 5 (.slice (some ⟨g,0,none⟩) (k+1) cap3) (k+1) (cells5 (ps.take (k+1))):=by
    have e:ps.take (k+1)=ps.take k++[(l[k],.slice a' l[k].kids.length cap')]:=by
     rw [List.take_succ_eq_append_getElem (by rw [HPL.out];exact hlt),HPG.out k hlt (by rw [HPL.out];exact hlt),HS.out]
    rw [e,cells5_append];exact hown
   have HO3:=Lib.hid hO3
   clear hown hgrow hat hlt3 c0 c1 c2 c3 c4 hO3 hx
   go_wp2_with fail
   go_roundw
   case rel=>exact⟨k+1,_,rfl,hlt,by go_num,HO3.out,hkE⟩
   case measure=>simp [intOf];omega
  ·obtain rfl:k=l.length:=by omega
   have hl2:LiesQ wr (fun b=>(P b∧b<w.heap.size)∨V0.heap.size≤b) (ps.map (·.1)) vv:=by
    have ho:=HO.out
    rw [List.take_of_length_le (by rw [HPL.out];exact Nat.le_refl _),←HPL.out] at ho
    refine owns_lies ho (fun g hg _=>Or.inr hg) (fun p hp=>?_)
    obtain⟨j,hj,rfl⟩:=List.getElem_of_mem hp
    have hj':j<l.length:=by rw [←HPL.out];exact hj
    rw [HPG.out j hj' hj]
    exact⟨HF.out _ (List.getElem_mem hj'),(HK.out j hj').keep (fun b _ hlt=>Below.block (kept_trans HK0.out hb) b hlt) (fun b hp hlt=>Or.inl ⟨hp,hlt⟩)⟩
   rw [HPS.out] at hl2
   obtain⟨a2,cap2,S2,rfl,-⟩:=hl2.out
   have HL2:=Lib.hid hl2
   have HB:=Lib.hid hb
   clear hl2 hb HO
   go_wp2_with (refine stop_store 24 (.tmp 8) (.tmp 28) rfl ?_)
   intro _
   refine wpList_store_part_n (by rfl) 24 (.tmp 8) (.tmp 28) rfl (w.heap.size) 0 #[.int .i64 23,.int .i64 i,.int .i64 j,.int .i64 n,.slice a2 l.length cap2] (by rfl) (by rfl) 24 size_term (row_ok rfl) ?_
   intro W hW
   subst hW
   refine⟨_,#[.int .i64 23,.int .i64 i,.int .i64 j,.int .i64 n,.slice a2 l.length cap2],blk_at HX0.out HB.out,rfl,Nat.le_of_ble_eq_true rfl,?_⟩
   intro W2 hW2
   go_wp2_with fail
   refine bodyPost_ret (results_cell_row rfl _ _ (w.heap.size) 24 _ _ du rfl (blk_same (blk_at HX0.out HB.out) hW2) hu1 (by cases du<;>first | rfl | exact hu2) size_term) rfl ?_
   refine⟨_,rfl,?_,kept_set (kept_trans HK0.out HB.out) hW2 (Nat.le_refl _)⟩
   have hz:=HZ0.out
   subst hW2
   exact HL2.out.keep (fun b hb _=>setRow_other _ _ _ _ (by rcases hb with ⟨-,hb⟩ | hb<;>omega)) (fun b hb _=>by rcases hb with ⟨hb,-⟩ | hb;exact Or.inl hb;exact Or.inr (by omega))
end Go.Proofs.Ytpdinlejmlbbeaa

namespace Go.Proofs.Ytpdinlejmlbbeaa
open Go.RowKit
def BNode (w:World) (b:Nat) (e:En) (s:Value):Prop:=w.cell? ⟨b,0,none⟩=some (.int .i64 e.a.k)∧w.cell? ⟨b,1,none⟩=some (.int .i64 e.a.i)∧w.cell? ⟨b,2,none⟩=some (.int .i64 e.a.j)∧w.cell? ⟨b,3,none⟩=some (.int .i64 e.a.n)∧w.cell? ⟨b,4,none⟩=some (s)∧w.cell? ⟨b,5,none⟩=some (.int .i64 e.i)
theorem BNode.keep {v w':World} {b:Nat} {e:En} {s:Value} (h:BNode v b e s) (hk:Kept v w'):BNode w' b e s:=⟨cell_lat hk h.1,cell_lat hk h.2.1,cell_lat hk h.2.2.1,cell_lat hk h.2.2.2.1,cell_lat hk h.2.2.2.2.1,cell_lat hk h.2.2.2.2.2⟩
end Go.Proofs.Ytpdinlejmlbbeaa
