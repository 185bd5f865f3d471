/-
  Facts and contracts that the proof of CheckLevels uses.
-/
import Derived.Test.YtgnllglbopaheaaRows
import Derived.WalkKit
import Derived.Lib.Hide
import Derived.KernelRfl
import Derived.Deep.RegionWith
import Derived.Deep.RegionHeld3
import Derived.Deep.AppendLies
import Derived.Laws.Rows
import Derived.Laws.IdiomCopy
import Derived.Deep.Slices
import Derived.Lib.QuietBelow
import Derived.StillTailTactics
import Derived.BigQuiet
import Derived.IntWalk
import Derived.OwnWalk
import Derived.Deep.RegionLaw
import Derived.Deep.QuietTactic
import Derived.Deep.LoopGhost
import Derived.Deep.DeepCutAuto
import Derived.Deep.MidRow
import Derived.OrdersHeld
import Derived.Laws.Tables
import Derived.Laws.CopyOwn
import Derived.Laws.CopyRow
import Derived.Maps.AppendAt
import Derived.Lib.Builder
import Derived.Shelf.Spec.SlicesInsertGrow
import Derived.Below
import Derived.Lib.MinMax
import Derived.Deep.RegionHeld
import Derived.Deep.Upon
import Derived.ArgAppend
import Derived.Laws.EntriesVeiled
import GoSem.Core.Float
import Derived.ProofKit
import Derived.LoopTactic
import Derived.Laws.Cover2
import Derived.Laws.FloatArith
import Derived.Laws.Externs
import Derived.RowKit
import Derived.Deep.Cut
import Derived.Deep.CutBlock
import Derived.OpenShut
import Derived.Carry
import Derived.ChangeSlices
import Derived.JoinedOf
namespace Go.Proofs.Ytgnllglbopaheaa
open Go.RowKit
def givenN (s:Int):Int:=if s=3∨s=5∨s=6∨s=8∨s=10∨s=11 then 4 else if s=1∨s=2∨s=7∨s=9 then 5 else if s=4∨s=12∨s=13∨s=14∨s=21 then 6 else if s=15∨s=18∨s=19∨s=20 then 9 else if s=16∨s=17 then 12 else -1
def kidsN (k s:Int):Int :=
 if k=1∨k=2 then 0 else if k=18∨k=19 then 1 else if k=3∨k=6∨k=13∨k=14∨k=15∨k=16∨k=21∨k=11 then 2
 else if k=4∨k=8∨k=9∨k=10∨k=20 then 3 else if k=5∨k=7∨k=12∨k=17 then 4 else if k=22 then 6 else if k=23 then givenN s else -1
def bindsN (k i:Int):Int :=
 if k=3∨k=5∨k=6∨k=7∨k=8∨k=9∨k=13∨k=14∨k=16∨k=17 then(if i=1 then 1 else 0)
 else if k=4 then(if i=1∨i=2 then 1 else 0) else if k=22 then(if i=2 then 2 else 0) else 0
theorem ret_int {a b:Int} (h:a=b):Ending.returned (.int .i64 a)=.returned (.int .i64 b):=by rw [h]
theorem ret_bool {a b:Bool} (h:a=b):Ending.returned (.bool a)=.returned (.bool b):=by rw [h]
set_option maxHeartbeats 1000000 in
theorem given_any (s:Int) (w:World):Calls Try.prog 77 #[.int .i64 s] w fun e w'=>e=.returned (.int .i64 (givenN s))∧w=w':=by
 go_enter Try.func77,Try.ntmps77
 go_wp2
 all_goals go_ret
 all_goals exact⟨ret_int (by simp only [beq_iff_eq,beq_eq_false_iff_ne,ne_eq] at *;unfold givenN;(repeat' split)<;>omega),rfl⟩
set_option maxHeartbeats 1000000 in
theorem kids_any (k s:Int) (w:World):Calls Try.prog 63 #[.int .i64 k,.int .i64 s] w fun e w'=>e=.returned (.int .i64 (kidsN k s))∧w=w':=by
 go_enter Try.func63,Try.ntmps63
 go_wp2_with (go_at_call 77;refine(given_any _ _).mono ?_;rintro e w' ⟨rfl,rfl⟩)
 all_goals go_ret
 all_goals exact⟨ret_int (by simp only [beq_iff_eq,beq_eq_false_iff_ne,ne_eq] at *;unfold kidsN;(repeat' split)<;>omega),rfl⟩
set_option maxHeartbeats 1000000 in
theorem binds_any (k i:Int) (w:World):Calls Try.prog 65 #[.int .i64 k,.int .i64 i] w fun e w'=>e=.returned (.int .i64 (bindsN k i))∧w=w':=by
 go_enter Try.func65,Try.ntmps65
 go_wp2
 all_goals go_ret
 all_goals exact⟨ret_int (by simp only [beq_iff_eq,beq_eq_false_iff_ne,ne_eq] at *;unfold bindsN;(repeat' split)<;>omega),rfl⟩
def levelB (i:Int):Bool:=decide (0≤i)&&decide (i≤1000)
set_option maxHeartbeats 1000000 in
theorem level_any (i:Int) (w:World):Calls Try.prog 78 #[.int .i64 i] w fun e w'=>e=.returned (.bool (levelB i))∧w=w':=by
 go_enter Try.func78,Try.ntmps78
 go_wp2
 all_goals go_ret
 all_goals exact⟨ret_bool (by unfold levelB;first | (simp_all;done) | (simp_all;omega)),rfl⟩
end Go.Proofs.Ytgnllglbopaheaa

namespace Go.Proofs.Ytgnllglbopaheaa
open Go.RowKit
inductive Tm where
 | mk (k i j n:Int) (l:List Tm)
namespace Tm
def k:Tm→Int | .mk k _ _ _ _=>k
def i:Tm→Int | .mk _ i _ _ _=>i
def j:Tm→Int | .mk _ _ j _ _=>j
def n:Tm→Int | .mk _ _ _ n _=>n
def kids:Tm→List Tm | .mk _ _ _ _ l=>l
theorem eta (t:Tm):Tm.mk t.k t.i t.j t.n t.kids=t:=by cases t;rfl
theorem ind {P:Tm→Prop} (h:∀ t,(∀ x ∈ t.kids,P x)→P t):∀ t,P t
 | .mk k i j n l=>h (.mk k i j n l) (fun x (_:x ∈ l)=>ind h x)
end Tm
def I64 (x:Int):Prop:=-9223372036854775808≤x∧x≤9223372036854775807
def Tm.fine (t:Tm):Prop:=I64 t.k∧I64 t.i∧I64 t.j∧I64 t.n
abbrev tv (t:Tm) (s:Value):Value:=.agg #[.int .i64 t.k,.int .i64 t.i,.int .i64 t.j,.int .i64 t.n,s]
structure Node (w:World) (b o:Nat) (t:Tm) (s:Value):Prop where
 c0:w.cell? ⟨b,o,none⟩=some (.int .i64 t.k)
 c1:w.cell? ⟨b,o+1,none⟩=some (.int .i64 t.i)
 c2:w.cell? ⟨b,o+2,none⟩=some (.int .i64 t.j)
 c3:w.cell? ⟨b,o+3,none⟩=some (.int .i64 t.n)
 c4:w.cell? ⟨b,o+4,none⟩=some s
inductive Lies (w:World):List Tm→Value→Prop
 | mk (l:List Tm) (a:Option Addr) (cap:Nat) (S:Nat→Value) (hc:l.length≤cap) (hm:cap≤maxLen) (hf:∀ x ∈ l,x.fine)
  (hn:∀ i (h:i<l.length),∃ b o,a=some ⟨b,o,none⟩∧Node w b (o+i * 5) l[i] (S i)) (hk:∀ i (h:i<l.length),Lies w (l[i]).kids (S i)):Lies w l (.slice a l.length cap)
theorem Lies.out {w:World} {l:List Tm} {s:Value} (h:Lies w l s):∃ (a:Option Addr) (cap:Nat) (S:Nat→Value),s=.slice a l.length cap∧l.length≤cap∧cap≤maxLen∧(∀ x ∈ l,x.fine) ∧
 (∀ i (h:i<l.length),∃ b o,a=some ⟨b,o,none⟩∧Node w b (o+i * 5) l[i] (S i))∧(∀ i (h:i<l.length),Lies w (l[i]).kids (S i)):=by
 cases h with
 | mk l a cap S hc hm hf hn hk=>exact⟨a,cap,S,rfl,hc,hm,hf,hn,hk⟩
theorem Node.lt {w:World} {b o:Nat} {t:Tm} {s:Value} (h:Node w b o t s):b<w.heap.size:=World.block_lt_of_cell? _ _ h.c0
theorem Node.below {w w':World} {b o B:Nat} {t:Tm} {s:Value} (h:Node w b o t s) (hb:Below B w w') (hB:b<B):Node w' b o t s :=
 ⟨(hb.cell (by exact hB)).trans h.c0,(hb.cell (by exact hB)).trans h.c1,(hb.cell (by exact hB)).trans h.c2,(hb.cell (by exact hB)).trans h.c3,(hb.cell (by exact hB)).trans h.c4⟩
theorem Lies.keep {w w':World} {l:List Tm} {s:Value} (h:Lies w l s) (hb:Below w.heap.size w w'):Lies w' l s:=by
 induction h with
 | mk l a cap S hc hm hf hn hk ih =>
  exact .mk l a cap S hc hm hf (fun i hi=>by obtain⟨b,o,ha,hx⟩:=hn i hi;exact⟨b,o,ha,hx.below hb hx.lt⟩) ih
end Go.Proofs.Ytgnllglbopaheaa

namespace Go.Proofs.Ytgnllglbopaheaa
open Go.RowKit
def numbersN (k i j n:Int):Bool :=
 if k=2 then decide (0≤i)&&(decide (i≤2147483647)&&((j==0)&&(n==0)))
 else if k=1∨k=10∨k=11∨k=12 then levelB i&&((j==0)&&(n==0))
 else if k=3∨k=4∨k=5∨k=6∨k=7∨k=8∨k=9 then levelB i&&(levelB j&&(n==0))
 else if k=23 then levelB i&&levelB j else(i==0)&&((j==0)&&(n==0))
set_option maxHeartbeats 2000000 in
theorem numbers_any (t:Tm) (s:Value) (w:World):Calls Try.prog 64 #[tv t s] w fun e w'=>e=.returned (.bool (numbersN t.k t.i t.j t.n))∧Below w.heap.size w w':=by
 unfold tv
 generalize t.k=k,t.i=i,t.j=j,t.n=n
 go_enter Try.func64,Try.ntmps64
 go_wp2_with (go_at_call 78;refine(level_any _ _).mono ?_;rintro e w' ⟨rfl,rfl⟩)
 all_goals go_ret
 all_goals exact⟨ret_bool (by simp only [beq_iff_eq,beq_eq_false_iff_ne,ne_eq] at *;unfold numbersN;(simp [*]<;>omega)),(Below.refl _ _).alloc (Nat.le_refl _) _⟩
end Go.Proofs.Ytgnllglbopaheaa

namespace Go.Proofs.Ytgnllglbopaheaa
open Go.RowKit
mutual
def Tm.plainB:Tm→Bool
 | .mk k i j n l=>(k==1||(k==2||(decide (13≤k)&&decide (k≤23))))&&(((l.length:Int)==kidsN k n)&&(numbersN k i j n&&plains l))
def plains:List Tm→Bool
 | []=>true
 | t::r=>t.plainB&&plains r
end
mutual
def Tm.markedB:Tm→Bool
 | .mk k i j n l=>(decide (1≤k)&&decide (k≤12))&&(((l.length:Int)==kidsN k n)&&(numbersN k i j n&&markeds (k==12) 0 l))
def markeds:Bool→Nat→List Tm→Bool
 | _,_,[]=>true
 | tr,p,t::r=>(if tr&&p==2 then t.plainB else t.markedB)&&markeds tr (p+1) r
end
def Tm.nodeB (t:Tm):Bool:=((t.kids.length:Int)==kidsN t.k t.n)&&numbersN t.k t.i t.j t.n
theorem Tm.plainB_eq (t:Tm):t.plainB=((t.k==1||(t.k==2||(decide (13≤t.k)&&decide (t.k≤23))))&&(t.nodeB&&plains t.kids)):=by
 cases t;simp only [Tm.plainB,Tm.nodeB,Tm.k,Tm.i,Tm.j,Tm.n,Tm.kids,Bool.and_assoc];rfl
theorem Tm.markedB_eq (t:Tm):t.markedB=((decide (1≤t.k)&&decide (t.k≤12))&&(t.nodeB&&markeds (t.k==12) 0 t.kids)):=by
 cases t;simp only [Tm.markedB,Tm.nodeB,Tm.k,Tm.i,Tm.j,Tm.n,Tm.kids,Bool.and_assoc];rfl
theorem plains_take (l:List Tm) (k:Nat) (h:k<l.length):plains (l.take (k+1))=(plains (l.take k)&&(l[k]).plainB):=by
 induction l generalizing k with
 | nil=>simp at h
 | cons a r ih =>
  cases k with
  | zero=>simp [plains]
  | succ k=>simp only [List.take_succ_cons,plains,List.getElem_cons_succ];rw [ih k (by simpa using h),Bool.and_assoc]
theorem plains_of (l:List Tm) (k:Nat) (h:k<l.length) (hp:(l[k]).plainB=false):plains l=false:=by
 induction l generalizing k with
 | nil=>simp at h
 | cons a r ih =>
  cases k with
  | zero=>simp only [List.getElem_cons_zero] at hp;simp [plains,hp]
  | succ k=>simp only [List.getElem_cons_succ] at hp;simp [plains,ih k (by simpa using h) hp]
def Tm.kidB (t:Tm) (tr:Bool) (k:Nat):Bool:=if tr&&k==2 then t.plainB else t.markedB
theorem markeds_take (tr:Bool) (l:List Tm) (p k:Nat) (h:k<l.length):markeds tr p (l.take (k+1))=(markeds tr p (l.take k)&&(l[k]).kidB tr (p+k)):=by
 induction l generalizing p k with
 | nil=>simp at h
 | cons a r ih =>
  cases k with
  | zero=>simp [markeds,Tm.kidB]
  | succ k =>
   simp only [List.take_succ_cons,markeds,List.getElem_cons_succ]
   rw [ih (p+1) k (by simpa using h),Bool.and_assoc,show p+1+k=p+(k+1) by omega]
theorem markeds_of (tr:Bool) (l:List Tm) (p k:Nat) (h:k<l.length) (hp:(l[k]).kidB tr (p+k)=false):markeds tr p l=false:=by
 induction l generalizing p k with
 | nil=>simp at h
 | cons a r ih =>
  cases k with
  | zero=>simp only [List.getElem_cons_zero,Nat.add_zero,Tm.kidB] at hp;simp only [markeds,hp,Bool.false_and]
  | succ k =>
   simp only [List.getElem_cons_succ] at hp
   simp only [markeds]
   rw [ih (p+1) k (by simpa using h) (by rw [show p+1+k=p+(k+1) by omega];exact hp),Bool.and_false]
theorem kidsN_nonneg {k n:Int} (h:0≤kidsN k n):1≤k∧k≤23:=by
 unfold kidsN at h;(repeat' split at h)<;>omega
theorem kidsN_two {k n:Int} (h1:1≤k) (h2:k≤2):kidsN k n=0:=by
 unfold kidsN;rw [if_pos (by omega)]
theorem Tm.node_kind {t:Tm} (h:t.nodeB=true):1≤t.k∧t.k≤23:=by
 simp only [Tm.nodeB,Bool.and_eq_true,beq_iff_eq] at h
 exact kidsN_nonneg (n:=t.n) (by omega)
def Tm.sortsN (t:Tm):Int:=(if t.markedB then 1 else 0)+(if t.plainB then 2 else 0)
theorem sorts_bad {t:Tm} (h:t.nodeB=false):t.sortsN=0:=by
 simp [Tm.sortsN,Tm.plainB_eq,Tm.markedB_eq,h]
theorem sorts_two {t:Tm} (h:t.nodeB=true) (h2:t.k≤2):t.sortsN=3∧t.kids=[]:=by
 have hk:=(Tm.node_kind h).1
 have hl:t.kids=[]:=by
  simp only [Tm.nodeB,Bool.and_eq_true,beq_iff_eq] at h
  rw [kidsN_two hk h2] at h
  exact List.eq_nil_of_length_eq_zero (by omega)
 have h3:(t.k==1||(t.k==2||(decide (13≤t.k)&&decide (t.k≤23))))=true:=by
  have:t.k=1∨t.k=2:=by omega
  rcases this with e | e<;>simp [e]
 have h4:(decide (1≤t.k)&&decide (t.k≤12))=true:=by simp;omega
 refine⟨?_,hl⟩
 simp [Tm.sortsN,Tm.plainB_eq,Tm.markedB_eq,h,h3,h4,hl,plains,markeds]
theorem sorts_marked {t:Tm} (h:t.nodeB=true) (h2:2<t.k) (h3:t.k≤12):t.sortsN=if markeds (t.k==12) 0 t.kids then 1 else 0:=by
 have h4:(decide (1≤t.k)&&decide (t.k≤12))=true:=by simp;omega
 have h5:(t.k==1||(t.k==2||(decide (13≤t.k)&&decide (t.k≤23))))=false:=by
  simp;omega
 simp [Tm.sortsN,Tm.plainB_eq,Tm.markedB_eq,h,h4,h5]
theorem sorts_plain {t:Tm} (h:t.nodeB=true) (h2:12<t.k):t.sortsN=if plains t.kids then 2 else 0:=by
 have hk:=(Tm.node_kind h).2
 have h4:(decide (1≤t.k)&&decide (t.k≤12))=false:=by simp;omega
 have h5:(t.k==1||(t.k==2||(decide (13≤t.k)&&decide (t.k≤23))))=true:=by
  simp;omega
 simp [Tm.sortsN,Tm.plainB_eq,Tm.markedB_eq,h,h4,h5]
end Go.Proofs.Ytgnllglbopaheaa

namespace Go.Proofs.Ytgnllglbopaheaa
open Go.RowKit
mutual
def Tm.size:Tm→Nat
 | .mk _ _ _ _ l=>sizes l+1
def sizes:List Tm→Nat
 | []=>0
 | t::r=>t.size+sizes r
end
theorem sizes_take (l:List Tm) (k:Nat) (h:k<l.length):sizes (l.take (k+1))=sizes (l.take k)+(l[k]).size:=by
 induction l generalizing k with
 | nil=>simp at h
 | cons a r ih =>
  cases k with
  | zero=>simp [sizes]
  | succ k=>simp only [List.take_succ_cons,sizes,List.getElem_cons_succ];rw [ih k (by simpa using h)];omega
theorem sizes_le (l:List Tm) (k:Nat):sizes (l.take k)≤sizes l:=by
 induction l generalizing k with
 | nil=>simp
 | cons a r ih =>
  cases k with
  | zero=>simp [sizes]
  | succ k=>simp only [List.take_succ_cons,sizes];have:=ih k;omega
theorem Tm.size_eq (t:Tm):t.size=sizes t.kids+1:=by cases t;rfl
set_option maxHeartbeats 400000 in
theorem size_any (t:Tm):∀ (w:World) (s:Value),Lies w t.kids s→t.size≤1000000000000→Calls Try.prog 40 #[tv t s] w fun e w'=>e=.returned (.int .i64 t.size)∧Below w.heap.size w w':=by
 induction t using Tm.ind with
 | h t ih =>
  intro w s hl hs
  obtain⟨a,cap,S,rfl,hc,hm,hf,hn,hk⟩:=hl.out
  unfold tv
  have hsz:=t.size_eq
  unfold maxLen at hm
  have IH:=Lib.hid ih
  have HN:=Lib.hid hn
  have HK:=Lib.hid hk
  have HL:=Lib.hid hl
  have HSZ:=Lib.hid hsz
  clear ih hn hk hf hl hsz
  go_enter Try.func40,Try.ntmps40
  go_wp2
  go_loopw [3,9] (fun n i wr=>∃ k:Nat,k≤t.kids.length∧i=.int .i64 k∧n=.int .i64 ((1+sizes (t.kids.take k):Nat):Int)∧Below w.heap.size w wr) (fun _ i _=>t.kids.length-(intOf i).toNat)
  case atStart=>exact⟨0,Nat.zero_le _,rfl,by simp [sizes],(Below.refl _ _).alloc (Nat.le_refl _) _⟩
  case round =>
   obtain⟨k,hk,rfl,rfl,hb⟩:=hrel
   by_cases hlt:k<t.kids.length
   ·obtain⟨b,o,rfl,hx⟩:=HN.out k hlt
    have hy:=hx.below hb hx.lt
    obtain⟨c0,c1,c2,c3,c4⟩:=hy
    have hq:=HK.out k hlt
    obtain⟨a',cap',S',hS,-⟩:=hq.out
    rw [hS] at c4 hq
    have HQ:=Lib.hid hq
    clear hS hq
    have HM:=Lib.hid (List.getElem_mem hlt)
    have HT:=Lib.hid (sizes_take t.kids k hlt)
    have h1:=sizes_le t.kids (k+1)
    have h2:1+sizes (t.kids.take k)+(t.kids[k]).size≤1000000000000:=by rw [HT.out] at h1;rw [HSZ.out] at hs;omega
    clear h1
    have HB:Below w.heap.size w (wr.alloc (.cells #[.int .i64 t.kids[k].k,.int .i64 t.kids[k].i,.int .i64 t.kids[k].j,.int .i64 t.kids[k].n,.slice a' t.kids[k].kids.length cap'] 38)):=hb.alloc hb.size _
    go_wp2_with fail
    refine(IH.out _ HM.out _ _ (HQ.out.keep HB) (by omega)).mono ?_
    rintro e w' ⟨rfl,hb'⟩
    have HB':Below w.heap.size w w':=HB.trans (hb'.mono HB.size)
    clear hb' HB hb
    go_wp2
    go_roundw
    case rel=>exact⟨k+1,by omega,by go_num,by rw [HT.out];go_num,HB'⟩
    case measure=>simp [intOf];omega
   ·have:k=t.kids.length:=by omega
    subst this
    go_wp2
    go_ret
    refine⟨?_,hb⟩
    rw [List.take_length,HSZ.out,Nat.add_comm]
    rfl
end Go.Proofs.Ytgnllglbopaheaa

namespace Go.Proofs.Ytgnllglbopaheaa
open Go.RowKit
mutual
def Tm.deep:Tm→Nat
 | .mk _ _ _ _ l=>deeps l+1
def deeps:List Tm→Nat
 | []=>0
 | t::r=>max t.deep (deeps r)
end
theorem deeps_take (l:List Tm) (k:Nat) (h:k<l.length):deeps (l.take (k+1))=max (deeps (l.take k)) (l[k]).deep:=by
 induction l generalizing k with
 | nil=>simp at h
 | cons a r ih =>
  cases k with
  | zero=>simp [deeps]
  | succ k=>simp only [List.take_succ_cons,deeps,List.getElem_cons_succ];rw [ih k (by simpa using h)];omega
theorem Tm.deep_eq (t:Tm):t.deep=deeps t.kids+1:=by cases t;rfl
theorem deep_le_size (t:Tm):t.deep≤t.size:=by
 induction t using Tm.ind with
 | h t ih =>
  rw [t.deep_eq,t.size_eq]
  have:∀ l:List Tm,(∀ x ∈ l,x.deep≤x.size)→deeps l≤sizes l:=by
   intro l hl
   induction l with
   | nil=>simp [deeps]
   | cons a r ihr=>simp only [deeps,sizes];have:=ihr (fun x hx=>hl x (List.mem_cons_of_mem _ hx));have:=hl a List.mem_cons_self;omega
  have:=this t.kids ih
  omega
end Go.Proofs.Ytgnllglbopaheaa

namespace Go.Proofs.Ytgnllglbopaheaa
open Go.RowKit
def Weighed (t:Tm) (most deep:Int) (w:World) (e:Ending) (w':World):Prop :=
 ∃ r:Int,e=.returned (.int .i64 r)∧1≤r∧r≤most+1∧(r≤most→r=t.size∧(t.deep:Int)≤deep+1)∧Below w.heap.size w w'
def NotGreat (t:Tm) (most:Int) (w:World) (e:Ending) (w':World):Prop :=
 ∃ g:Bool,e=.returned (.bool g)∧(g=false→(t.size:Int)≤most∧t.deep≤201)∧Below w.heap.size w w'
end Go.Proofs.Ytgnllglbopaheaa

namespace Go.Proofs.Ytgnllglbopaheaa
open Go.RowKit
theorem box_cells {w wr:World} {v0 v1 v2 v3 v4:Value} {T:TypeId} (h:Below (w.heap.size+1) (w.alloc (.cells #[v0,v1,v2,v3,v4] T)) wr) :
 wr.cell? ⟨w.heap.size,0,none⟩=some v0∧wr.cell? ⟨w.heap.size,1,none⟩=some v1∧wr.cell? ⟨w.heap.size,2,none⟩=some v2∧wr.cell? ⟨w.heap.size,3,none⟩=some v3∧wr.cell? ⟨w.heap.size,4,none⟩=some v4:=by
 have key:∀ o,wr.cell? ⟨w.heap.size,o,none⟩=(#[v0,v1,v2,v3,v4]:Array Value)[o]?:=fun o=>by
  rw [h.cell (p:=⟨w.heap.size,o,none⟩) (by exact Nat.lt_succ_self _),World.cell?_alloc_at _ _ _ _ rfl]
 exact⟨by rw [key];rfl,by rw [key];rfl,by rw [key];rfl,by rw [key];rfl,by rw [key];rfl⟩
theorem below_of_box {w wr:World} {o:Obj} (h:Below (w.heap.size+1) (w.alloc o) wr):Below w.heap.size w wr :=
 ((Below.refl _ _).alloc (Nat.le_refl _) _).trans (h.mono (Nat.le_succ _))
theorem below_call {B:Nat} {a w w':World} (h:Below B a w) (h':Below w.heap.size w w') (hB:B≤w.heap.size):Below B a w':=h.trans (h'.mono hB)
end Go.Proofs.Ytgnllglbopaheaa

namespace Go.Proofs.Ytgnllglbopaheaa
open Go.RowKit
theorem bits_table:bits BinOp.and IntKind.i64 0 1=0∧bits BinOp.and IntKind.i64 1 1=1∧bits BinOp.and IntKind.i64 2 1=0∧bits BinOp.and IntKind.i64 3 1=1 ∧
 bits BinOp.and IntKind.i64 0 2=0∧bits BinOp.and IntKind.i64 1 2=0∧bits BinOp.and IntKind.i64 2 2=2∧bits BinOp.and IntKind.i64 3 2=2:=by
 refine⟨?_,?_,?_,?_,?_,?_,?_,?_⟩<;>kernel_rfl
set_option maxHeartbeats 800000 in
theorem sorts_any (t:Tm):∀ (w:World) (s:Value),Lies w t.kids s→Calls Try.prog 42 #[tv t s] w fun e w'=>e=.returned (.int .i64 t.sortsN)∧Below w.heap.size w w':=by
 induction t using Tm.ind with
 | h t ih =>
  intro w s hl
  obtain⟨a,cap,S,rfl,hc,hm,hf,hn,hk⟩:=hl.out
  unfold tv
  unfold maxLen at hm
  have IH:=Lib.hid ih
  have HN:=Lib.hid hn
  have HK:=Lib.hid hk
  have HBX:=Lib.hid (fun(wr:World)=>box_cells (w:=w) (wr:=wr) (v0:=.int .i64 t.k) (v1:=.int .i64 t.i) (v2:=.int .i64 t.j) (v3:=.int .i64 t.n) (v4:=.slice a t.kids.length cap) (T:=38))
  clear ih hn hk hf hl
  by_cases h1:kidsN t.k t.n<0
  ·have hv:t.sortsN=0:=sorts_bad (by simp only [Tm.nodeB,Bool.and_eq_false_iff];left;simp;omega)
   have HV:=Lib.hid hv
   clear hv
   go_enter Try.func42,Try.ntmps42
   go_wp2_with (go_at_call 63;refine(kids_any _ _ _).mono ?_;rintro e w' ⟨rfl,rfl⟩)
   go_ret
   exact⟨by rw [HV.out];rfl,(Below.refl _ _).alloc (Nat.le_refl _) _⟩
  by_cases h2:(t.kids.length:Int)=kidsN t.k t.n
  rotate_left
  ·have hv:t.sortsN=0:=sorts_bad (by simp only [Tm.nodeB,Bool.and_eq_false_iff];left;simp;omega)
   have HV:=Lib.hid hv
   have h3:((t.kids.length:Int)==kidsN t.k t.n)=false:=by simpa using h2
   have h4:((t.kids.length:Int) != kidsN t.k t.n)=true:=by simpa using h2
   clear hv
   go_enter Try.func42,Try.ntmps42
   go_wp2_with (go_at_call 63;refine(kids_any _ _ _).mono ?_;rintro e w' ⟨rfl,rfl⟩)
   go_ret
   exact⟨by rw [HV.out];rfl,(Below.refl _ _).alloc (Nat.le_refl _) _⟩
  have h3:((t.kids.length:Int)==kidsN t.k t.n)=true:=by simpa using h2
  have h4:((t.kids.length:Int) != kidsN t.k t.n)=false:=by simpa using h2
  have H2:=Lib.hid h2
  clear h2
  cases h5:numbersN t.k t.i t.j t.n with
  | false =>
   have hv:t.sortsN=0:=sorts_bad (by simp only [Tm.nodeB,Bool.and_eq_false_iff];right;exact h5)
   have HV:=Lib.hid hv
   clear hv
   go_enter Try.func42,Try.ntmps42
   go_wp2_with (first | (go_at_call 63;refine(kids_any _ _ _).mono ?_;rintro e w' ⟨rfl,rfl⟩) | (go_at_call 64;refine(numbers_any t _ _).mono ?_;rintro e w' ⟨rfl,hb'⟩;have HB':=((Below.refl w.heap.size w).alloc (Nat.le_refl _) _).trans (hb'.mono (by simp));clear hb';rw [h5]))
   go_ret
   exact⟨by rw [HV.out];rfl,HB'⟩
  | true =>
   have hnode:t.nodeB=true:=by simp only [Tm.nodeB,h5,Bool.and_true];simpa using H2.out
   by_cases k2:t.k≤2
   ·have hv:=sorts_two hnode k2
    have hl0:t.kids.length=0:=by rw [hv.2];rfl
    have HL0:=Lib.hid hl0
    clear hl0
    have HV:=Lib.hid hv.1
    clear hv hnode
    go_enter Try.func42,Try.ntmps42
    go_wp2_with (first | (go_at_call 63;refine(kids_any _ _ _).mono ?_;rintro e w' ⟨rfl,rfl⟩) | (go_at_call 64;refine(numbers_any t _ _).mono ?_;rintro e w' ⟨rfl,hb'⟩;have HB':=below_call (Below.refl (w.heap.size+1) _) hb' (by simp);clear hb';obtain⟨d0,d1,d2,d3,d4⟩:=HBX.out _ HB';rw [h5]))
    have hl0:=HL0.out
    refine wp_loop_rounds 1 ?_
    rw [rounds_succ]
    go_wp2
    go_ret
    exact⟨by rw [HV.out];rfl,below_of_box HB'⟩
   by_cases k12:t.k≤12
   ·have hv:=sorts_marked hnode (by omega) k12
    have HV:=Lib.hid hv
    clear hv hnode
    go_enter Try.func42,Try.ntmps42
    go_wp2_with (first | (go_at_call 63;refine(kids_any _ _ _).mono ?_;rintro e w' ⟨rfl,rfl⟩) | (go_at_call 64;refine(numbers_any t _ _).mono ?_;rintro e w' ⟨rfl,hb'⟩;have HB':=below_call (Below.refl (w.heap.size+1) _) hb' (by simp);clear hb';obtain⟨d0,d1,d2,d3,d4⟩:=HBX.out _ HB';rw [h5]))
    go_loopw [36] (fun iv wr=>∃ k:Nat,k≤t.kids.length∧iv=.int .i64 k∧Hid (markeds (t.k==12) 0 (t.kids.take k)=true)∧Below (w.heap.size+1) (w.alloc (.cells #[.int .i64 t.k,.int .i64 t.i,.int .i64 t.j,.int .i64 t.n,.slice a t.kids.length cap] 38)) wr) (fun i _=>t.kids.length-(intOf i).toNat)
    case atStart=>exact⟨0,Nat.zero_le _,rfl,by simp [Hid,markeds],HB'⟩
    case round =>
     obtain⟨k,hk,rfl,hgood,hb⟩:=hrel
     obtain⟨d0,d1,d2,d3,d4⟩:=HBX.out _ hb
     have hb0:=below_of_box hb
     by_cases hlt:k<t.kids.length
     ·obtain⟨b,o,rfl,hx⟩:=HN.out k hlt
      have hy:=hx.below hb0 hx.lt
      obtain⟨c0,c1,c2,c3,c4⟩:=hy
      have hq:=HK.out k hlt
      obtain⟨a',cap',S',hS,-⟩:=hq.out
      rw [hS] at c4 hq
      have HM:=Lib.hid (List.getElem_mem hlt)
      have HB2:Below (w.heap.size+1) (w.alloc (.cells #[.int .i64 t.k,.int .i64 t.i,.int .i64 t.j,.int .i64 t.n,.slice (some ⟨b,o,none⟩) t.kids.length cap] 38)) (wr.alloc (.cells #[.int .i64 t.kids[k].k,.int .i64 t.kids[k].i,.int .i64 t.kids[k].j,.int .i64 t.kids[k].n,.slice a' t.kids[k].kids.length cap'] 38)):=hb.alloc (by have:=hb.size;simpa using this) _
      have hq2:=hq.keep (below_of_box HB2)
      have HQ:=Lib.hid hq2
      have hsz2:w.heap.size+1≤wr.heap.size:=by have:=hb.size;simpa using this
      obtain⟨y0,y1,y2,y3,y4⟩:=HBX.out _ HB2
      clear hS hq hq2 hb HB'
      cases e12:(t.k==12)<;>cases e2:((k:Int)==2)
      all_goals
       go_wp2_with fail
       refine(IH.out _ HM.out _ _ HQ.out).mono ?_
       rintro e w' ⟨he,hb'⟩
       have HB3:=below_call HB2 hb' (by simp;omega)
       obtain⟨x0,x1,x2,x3,x4⟩:=HBX.out _ HB3
       have e2':(k==2)=((k:Int)==2):=by rw [e2];simp at e2 ⊢;omega
       have HE2:=Lib.hid e2'
       clear e2' hb' HB2 d0 d1 d2 d3 d4 y0 y1 y2 y3 y4 hb0
       cases hm:(t.kids[k]).markedB<;>cases hp:(t.kids[k]).plainB
       all_goals
        simp [Tm.sortsN,hm,hp] at he
        subst he
        obtain⟨t1,t2,t3,t4,t5,t6,t7,t8⟩:=bits_table
        go_wp2
        first
        | (go_ret
           exact⟨by rw [HV.out,if_neg (by rw [markeds_of _ t.kids 0 k hlt (by simp [Tm.kidB,e12,HE2.out,e2,hm,hp])];simp)];rfl,below_of_box HB3⟩)
        | (go_roundw
           case rel=>exact⟨k+1,by omega,by go_num,by have hg:=hgood.out;rw [e12] at hg;show _=true;rw [markeds_take _ _ _ _ hlt,hg];simp [Tm.kidB,HE2.out,e2,hm,hp],HB3⟩
           case measure=>simp [intOf];omega)
     ·have:k=t.kids.length:=by omega
      subst this
      go_wp2
      go_ret
      exact⟨by rw [HV.out,if_pos (by have:=hgood.out;rwa [List.take_length] at this)];rfl,hb0⟩
   ·have hv:=sorts_plain hnode (by omega)
    have HV:=Lib.hid hv
    clear hv hnode
    go_enter Try.func42,Try.ntmps42
    go_wp2_with (first | (go_at_call 63;refine(kids_any _ _ _).mono ?_;rintro e w' ⟨rfl,rfl⟩) | (go_at_call 64;refine(numbers_any t _ _).mono ?_;rintro e w' ⟨rfl,hb'⟩;have HB':=below_call (Below.refl (w.heap.size+1) _) hb' (by simp);clear hb';obtain⟨d0,d1,d2,d3,d4⟩:=HBX.out _ HB';rw [h5]))
    go_loopw [36] (fun iv wr=>∃ k:Nat,k≤t.kids.length∧iv=.int .i64 k∧Hid (plains (t.kids.take k)=true)∧Below (w.heap.size+1) (w.alloc (.cells #[.int .i64 t.k,.int .i64 t.i,.int .i64 t.j,.int .i64 t.n,.slice a t.kids.length cap] 38)) wr) (fun i _=>t.kids.length-(intOf i).toNat)
    case atStart=>exact⟨0,Nat.zero_le _,rfl,by simp [Hid,plains],HB'⟩
    case round =>
     obtain⟨k,hk,rfl,hgood,hb⟩:=hrel
     obtain⟨d0,d1,d2,d3,d4⟩:=HBX.out _ hb
     have hb0:=below_of_box hb
     by_cases hlt:k<t.kids.length
     ·obtain⟨b,o,rfl,hx⟩:=HN.out k hlt
      have hy:=hx.below hb0 hx.lt
      obtain⟨c0,c1,c2,c3,c4⟩:=hy
      have hq:=HK.out k hlt
      obtain⟨a',cap',S',hS,-⟩:=hq.out
      rw [hS] at c4 hq
      have HM:=Lib.hid (List.getElem_mem hlt)
      have HB2:Below (w.heap.size+1) (w.alloc (.cells #[.int .i64 t.k,.int .i64 t.i,.int .i64 t.j,.int .i64 t.n,.slice (some ⟨b,o,none⟩) t.kids.length cap] 38)) (wr.alloc (.cells #[.int .i64 t.kids[k].k,.int .i64 t.kids[k].i,.int .i64 t.kids[k].j,.int .i64 t.kids[k].n,.slice a' t.kids[k].kids.length cap'] 38)):=hb.alloc (by have:=hb.size;simpa using this) _
      have hq2:=hq.keep (below_of_box HB2)
      have HQ:=Lib.hid hq2
      have hsz2:w.heap.size+1≤wr.heap.size:=by have:=hb.size;simpa using this
      obtain⟨y0,y1,y2,y3,y4⟩:=HBX.out _ HB2
      clear hS hq hq2 hb HB'
      have e12:(t.k==12)=false:=by simp;omega
      cases e2:((k:Int)==2)
      all_goals
       go_wp2_with fail
       refine(IH.out _ HM.out _ _ HQ.out).mono ?_
       rintro e w' ⟨he,hb'⟩
       have HB3:=below_call HB2 hb' (by simp;omega)
       obtain⟨x0,x1,x2,x3,x4⟩:=HBX.out _ HB3
       have e2':(k==2)=((k:Int)==2):=by rw [e2];simp at e2 ⊢;omega
       have HE2:=Lib.hid e2'
       clear e2' hb' HB2 d0 d1 d2 d3 d4 y0 y1 y2 y3 y4 hb0
       cases hm:(t.kids[k]).markedB<;>cases hp:(t.kids[k]).plainB
       all_goals
        simp [Tm.sortsN,hm,hp] at he
        subst he
        obtain⟨t1,t2,t3,t4,t5,t6,t7,t8⟩:=bits_table
        go_wp2
        first
        | (go_ret
           exact⟨by rw [HV.out,if_neg (by rw [plains_of t.kids k hlt hp];simp)];rfl,below_of_box HB3⟩)
        | (go_roundw
           case rel=>exact⟨k+1,by omega,by go_num,by show _=true;rw [plains_take _ _ hlt,hgood.out];simp [hp],HB3⟩
           case measure=>simp [intOf];omega)
     ·have:k=t.kids.length:=by omega
      subst this
      go_wp2
      go_ret
      exact⟨by rw [HV.out,if_pos (by have:=hgood.out;rwa [List.take_length] at this)];rfl,hb0⟩
end Go.Proofs.Ytgnllglbopaheaa

namespace Go.Proofs.Ytgnllglbopaheaa
open Go.RowKit
mutual
def Tm.freeN:Tm→Int
 | .mk k i _ _ l=>if k=2 then i+1 else frees k 0 l
def frees:Int→Nat→List Tm→Int
 | _,_,[]=>0
 | k,p,t::r=>max (t.freeN-bindsN k p) (frees k (p+1) r)
end
theorem Tm.freeN_eq (t:Tm):t.freeN=if t.k=2 then t.i+1 else frees t.k 0 t.kids:=by cases t;rfl
theorem frees_nonneg (k:Int) (l:List Tm) (p:Nat):0≤frees k p l:=by
 induction l generalizing p with
 | nil=>simp [frees]
 | cons a r ih=>simp only [frees];have:=ih (p+1);omega
theorem frees_take (k:Int) (l:List Tm) (p m:Nat) (h:m<l.length):frees k p (l.take (m+1))=max (frees k p (l.take m)) ((l[m]).freeN-bindsN k ((p+m:Nat):Int)):=by
 induction l generalizing p m with
 | nil=>simp at h
 | cons a r ih =>
  cases m with
  | zero=>simp [frees];omega
  | succ m=>simp only [List.take_succ_cons,frees,List.getElem_cons_succ];rw [ih (p+1) m (by simpa using h),show p+1+m=p+(m+1) by omega];omega
def Tm.rightB (t:Tm):Bool:=t.markedB||t.plainB
theorem plains_mem {l:List Tm} (h:plains l=true):∀ x ∈ l,x.plainB=true:=by
 induction l with
 | nil=>simp
 | cons a r ih =>
  simp only [plains,Bool.and_eq_true] at h
  intro x hx
  rcases List.mem_cons.1 hx with rfl | hx
  ·exact h.1
  ·exact ih h.2 x hx
theorem markeds_mem {tr:Bool} {l:List Tm} {p:Nat} (h:markeds tr p l=true):∀ x ∈ l,x.rightB=true:=by
 induction l generalizing p with
 | nil=>simp
 | cons a r ih =>
  simp only [markeds,Bool.and_eq_true] at h
  intro x hx
  rcases List.mem_cons.1 hx with rfl | hx
  ·have:=h.1;simp only [Tm.rightB];split at this<;>simp [this]
  ·exact ih h.2 x hx
theorem Tm.right_node {t:Tm} (h:t.rightB=true):t.nodeB=true:=by
 simp only [Tm.rightB,Tm.markedB_eq,Tm.plainB_eq,Bool.or_eq_true,Bool.and_eq_true] at h
 rcases h with h | h
 ·exact h.2.1
 ·exact h.2.1
theorem Tm.right_kids {t:Tm} (h:t.rightB=true):∀ x ∈ t.kids,x.rightB=true:=by
 simp only [Tm.rightB,Tm.markedB_eq,Tm.plainB_eq,Bool.or_eq_true,Bool.and_eq_true] at h
 rcases h with h | h
 ·exact markeds_mem h.2.2
 ·intro x hx;simp only [Tm.rightB,Bool.or_eq_true];right;exact plains_mem h.2.2 x hx
theorem Tm.right_var {t:Tm} (h:t.rightB=true) (hk:t.k=2):0≤t.i∧t.i≤2147483647:=by
 have:=t.right_node h
 simp only [Tm.nodeB,numbersN,hk,Bool.and_eq_true,if_true,decide_eq_true_eq] at this
 exact⟨this.2.1,this.2.2.1⟩
theorem frees_le (k:Int) (B:Int) (hB:0≤B) (l:List Tm) (p:Nat) (h:∀ x ∈ l,x.freeN≤B):frees k p l≤B:=by
 induction l generalizing p with
 | nil=>simpa [frees] using hB
 | cons a r ih =>
  simp only [frees]
  have h1:=ih (p+1) (fun x hx=>h x (List.mem_cons_of_mem _ hx))
  have h2:=h a List.mem_cons_self
  have h3:0≤bindsN k p:=by unfold bindsN;(repeat' split)<;>omega
  omega
theorem binds_range (k i:Int):0≤bindsN k i∧bindsN k i≤2:=by unfold bindsN;(repeat' split)<;>omega
theorem Tm.free_range (t:Tm):t.rightB=true→0≤t.freeN∧t.freeN≤2147483648:=by
 induction t using Tm.ind with
 | h t ih =>
  intro h
  rw [t.freeN_eq]
  split
  ·rename_i hk;have:=t.right_var h hk;omega
  ·exact⟨frees_nonneg _ _ _,frees_le _ _ (by omega) _ _ (fun x hx=>(ih x hx (t.right_kids h x hx)).2)⟩
set_option maxHeartbeats 800000 in
theorem free_any (t:Tm):∀ (w:World) (s:Value),Lies w t.kids s→t.rightB=true→Calls Try.prog 44 #[tv t s] w fun e w'=>e=.returned (.int .i64 t.freeN)∧Below w.heap.size w w':=by
 induction t using Tm.ind with
 | h t ih =>
  intro w s hl hr
  obtain⟨a,cap,S,rfl,hc,hm,hf,hn,hk⟩:=hl.out
  unfold tv
  unfold maxLen at hm
  have HF:=Lib.hid (t.freeN_eq)
  have HR:=Lib.hid (t.right_kids hr)
  have IH:=Lib.hid ih
  have HN:=Lib.hid hn
  have HK:=Lib.hid hk
  have HBX:=Lib.hid (fun(wr:World)=>box_cells (w:=w) (wr:=wr) (v0:=.int .i64 t.k) (v1:=.int .i64 t.i) (v2:=.int .i64 t.j) (v3:=.int .i64 t.n) (v4:=.slice a t.kids.length cap) (T:=38))
  clear ih hn hk hf hl
  by_cases h2:t.k=2
  ·have hv:=t.right_var hr h2
   have e2:(t.k==2)=true:=by simpa using h2
   have H2:=Lib.hid h2
   clear h2 hr
   go_enter Try.func44,Try.ntmps44
   go_wp2
   go_ret
   exact⟨ret_int (by rw [HF.out,if_pos H2.out]),(Below.refl _ _).alloc (Nat.le_refl _) _⟩
  have e2:(t.k==2)=false:=by simpa using h2
  have H2:=Lib.hid h2
  have HFB:=Lib.hid (fun(x:Tm) (hx:x ∈ t.kids)=>x.free_range (t.right_kids hr x hx))
  clear h2 hr
  go_enter Try.func44,Try.ntmps44
  go_wp2
  go_loopw [3,15] (fun n i wr=>∃ k:Nat,k≤t.kids.length∧i=.int .i64 k∧n=.int .i64 (frees t.k 0 (t.kids.take k))∧Below (w.heap.size+1) (w.alloc (.cells #[.int .i64 t.k,.int .i64 t.i,.int .i64 t.j,.int .i64 t.n,.slice a t.kids.length cap] 38)) wr) (fun n i _=>t.kids.length-(intOf i).toNat)
  case atStart=>exact⟨0,Nat.zero_le _,rfl,by simp [frees],Below.refl _ _⟩
  case round =>
   obtain⟨k,hk,rfl,rfl,hb⟩:=hrel
   obtain⟨d0,d1,d2,d3,d4⟩:=HBX.out _ hb
   have hb0:=below_of_box hb
   by_cases hlt:k<t.kids.length
   ·obtain⟨b,o,rfl,hx⟩:=HN.out k hlt
    have hy:=hx.below hb0 hx.lt
    obtain⟨c0,c1,c2,c3,c4⟩:=hy
    have hq:=HK.out k hlt
    obtain⟨a',cap',S',hS,-⟩:=hq.out
    rw [hS] at c4 hq
    have HM:=Lib.hid (List.getElem_mem hlt)
    have HB2:Below (w.heap.size+1) (w.alloc (.cells #[.int .i64 t.k,.int .i64 t.i,.int .i64 t.j,.int .i64 t.n,.slice (some ⟨b,o,none⟩) t.kids.length cap] 38)) (wr.alloc (.cells #[.int .i64 t.kids[k].k,.int .i64 t.kids[k].i,.int .i64 t.kids[k].j,.int .i64 t.kids[k].n,.slice a' t.kids[k].kids.length cap'] 38)):=hb.alloc (by have:=hb.size;simpa using this) _
    have HQ:=Lib.hid (hq.keep (below_of_box HB2))
    have hsz2:w.heap.size+1≤wr.heap.size:=by have:=hb.size;simpa using this
    obtain⟨y0,y1,y2,y3,y4⟩:=HBX.out _ HB2
    clear hS hq
    have hfr:=HFB.out _ HM.out
    have hbr:=binds_range t.k k
    have HT:=Lib.hid (frees_take t.k t.kids 0 k hlt)
    have hfn:=frees_nonneg t.k (t.kids.take k) 0
    have HRK:=Lib.hid (HR.out _ HM.out)
    have hfl:frees t.k 0 (t.kids.take k)≤2147483648:=frees_le _ _ (by omega) _ _ (fun x hx=>(HFB.out x (List.mem_of_mem_take hx)).2)
    go_wp2_with fail
    go_region_with (first | (go_at_call 65;refine(binds_any _ _ _).mono ?_;rintro e w' ⟨rfl,rfl⟩) | (go_at_call 44;refine(IH.out _ HM.out _ _ (HQ.out.keep (Below.refl _ _).drew) HRK.out).mono ?_;rintro e w' ⟨rfl,hb'⟩;have HB3:=below_call HB2.drew hb' (by simp;omega);obtain⟨x0,x1,x2,x3,x4⟩:=HBX.out _ HB3))
    all_goals
     clear hfn hfl hb0
     go_wp2
     go_roundw
     case rel=>exact⟨k+1,by omega,by go_num,by rw [HT.out,Nat.zero_add];all_goals ((try split)<;>go_num),HB3⟩
     case measure=>simp [intOf];omega
   ·have:k=t.kids.length:=by omega
    subst this
    go_wp2
    go_ret
    refine⟨?_,hb0⟩
    rw [HF.out,if_neg H2.out,List.take_length]
    rfl
end Go.Proofs.Ytgnllglbopaheaa

namespace Go.Proofs.Ytgnllglbopaheaa
mutual
def Tm.each (f:Int→Int→Option Int):Tm→Int→Option Tm
 | .mk k i j n l,b=>if k=2 then(f i b).map (fun v=>.mk 2 v 0 0 []) else(eaches f k 0 b l).map (fun l'=>.mk k i j n l')
def eaches (f:Int→Int→Option Int):Int→Nat→Int→List Tm→Option (List Tm)
 | _,_,_,[]=>some []
 | k,p,b,t::r=>(t.each f (b+bindsN k p)).bind fun x=>(eaches f k (p+1) b r).map fun y=>x::y
end
theorem Tm.each_eq (f:Int→Int→Option Int) (t:Tm) (b:Int):t.each f b=if t.k=2 then(f t.i b).map (fun v=>.mk 2 v 0 0 []) else(eaches f t.k 0 b t.kids).map (fun l=>.mk t.k t.i t.j t.n l):=by
 cases t;simp only [Tm.each];rfl
theorem eaches_length (f:Int→Int→Option Int) (k b:Int):∀ (l:List Tm) (p:Nat) (m:List Tm),eaches f k p b l=some m→m.length=l.length
 | [],p,m,h=>by simp only [eaches,Option.some.injEq] at h;subst h;rfl
 | t::r,p,m,h=>by
  simp only [eaches,Option.bind_eq_some_iff,Option.map_eq_some_iff] at h
  obtain⟨x,_,y,hy,rfl⟩:=h
  simp [eaches_length f k b r (p+1) y hy]
theorem right_var_eq {t:Tm} (h:t.rightB=true) (hk:t.k=2):t=.mk 2 t.i 0 0 []:=by
 have h2:=t.right_node h
 have h0:t.kids=[]:=(sorts_two h2 (by omega)).2
 simp only [Tm.nodeB,numbersN,hk,Bool.and_eq_true,if_true,decide_eq_true_eq] at h2
 have h3:=h2.2
 have hj:t.j=0:=by simp at h3;omega
 have hn:t.n=0:=by simp at h3;omega
 rw [←t.eta,hk,hj,hn,h0];rfl
theorem each_stays (f:Int→Int→Option Int) (t:Tm):∀ b,t.rightB=true→0≤b→(∀ v c,0≤v→v≤2147483647→b≤c→v<t.freeN+c-b→f v c=some v)→t.each f b=some t:=by
 induction t using Tm.ind with
 | h t ih =>
  intro b hr hb hf
  rw [Tm.each_eq]
  have hm:=t.right_kids hr
  by_cases hk:t.k=2
  ·have hv:=t.right_var hr hk
   have hfr:t.freeN=t.i+1:=by rw [t.freeN_eq,if_pos hk]
   rw [if_pos hk,hf t.i b hv.1 hv.2 (Int.le_refl _) (by omega)]
   exact congrArg some (right_var_eq hr hk).symm
  ·rw [if_neg hk]
   have hfr:t.freeN=frees t.k 0 t.kids:=by rw [t.freeN_eq,if_neg hk]
   have key:∀ (l:List Tm) (p:Nat),(∀ x ∈ l,∀ b,x.rightB=true→0≤b→(∀ v c,0≤v→v≤2147483647→b≤c→v<x.freeN+c-b→f v c=some v)→x.each f b=some x)→(∀ x ∈ l,x.rightB=true)→frees t.k p l≤t.freeN→eaches f t.k p b l=some l:=by
    intro l
    induction l with
    | nil=>intro p _ _ _;simp [eaches]
    | cons x r ihr =>
     intro p h1 h2 h3
     simp only [frees] at h3
     have hbd:=binds_range t.k (p:Int)
     have e1:=h1 x (List.mem_cons_self ..) (b+bindsN t.k p) (h2 x (List.mem_cons_self ..)) (by omega) (fun v c hv hv2 hc hlt=>hf v c hv hv2 (by omega) (by omega))
     have e2:=ihr (p+1) (fun y hy=>h1 y (List.mem_cons_of_mem _ hy)) (fun y hy=>h2 y (List.mem_cons_of_mem _ hy)) (by omega)
     simp only [eaches,e1,e2,Option.bind_some,Option.map_some]
   rw [key t.kids 0 ih hm (by omega)]
   exact congrArg some t.eta
theorem var_sorts {t:Tm} (h:t.nodeB=true) (hk:t.k=2):t.markedB=true∧t.plainB=true:=by
 have h3:=(sorts_two h (by omega)).1
 unfold Tm.sortsN at h3
 cases hm:t.markedB<;>cases hp:t.plainB<;>simp [hm,hp] at h3 ⊢
theorem each_keeps (f:Int→Int→Option Int) (hf:∀ v b w,0≤v→v≤2147483647→f v b=some w→0≤w∧w≤2147483647) (t:Tm) :
 ∀ b u,t.rightB=true→t.each f b=some u→u.markedB=t.markedB∧u.plainB=t.plainB∧u.size=t.size:=by
 induction t using Tm.ind with
 | h t ih =>
  intro b u hr he
  have hm:=t.right_kids hr
  rw [Tm.each_eq] at he
  by_cases hk:t.k=2
  ·rw [if_pos hk] at he
   simp only [Option.map_eq_some_iff] at he
   obtain⟨v,hv,rfl⟩:=he
   have hr2:=t.right_var hr hk
   have hv2:=hf _ _ _ hr2.1 hr2.2 hv
   have hnode:(Tm.mk 2 v 0 0 []).nodeB=true:=by simp [Tm.nodeB,Tm.k,Tm.i,Tm.j,Tm.n,Tm.kids,numbersN,kidsN,hv2.1,hv2.2]
   have a1:=var_sorts hnode rfl
   have a2:=var_sorts (t.right_node hr) hk
   refine⟨by rw [a1.1,a2.1],by rw [a1.2,a2.2],?_⟩
   rw [right_var_eq hr hk];simp [Tm.size,sizes]
  ·rw [if_neg hk] at he
   simp only [Option.map_eq_some_iff] at he
   obtain⟨m,hm2,rfl⟩:=he
   have key:∀ (l:List Tm) (p q:Nat) (m:List Tm),(∀ x ∈ l,∀ b u,x.rightB=true→x.each f b=some u→u.markedB=x.markedB∧u.plainB=x.plainB∧u.size=x.size)→(∀ x ∈ l,x.rightB=true)→eaches f t.k p b l=some m →
    plains m=plains l∧(∀ tr,markeds tr q m=markeds tr q l)∧sizes m=sizes l:=by
    intro l
    induction l with
    | nil=>intro p q m _ _ h;simp only [eaches,Option.some.injEq] at h;subst h;exact⟨rfl,fun _=>rfl,rfl⟩
    | cons x r ihr =>
     intro p q m h1 h2 h
     simp only [eaches,Option.bind_eq_some_iff,Option.map_eq_some_iff] at h
     obtain⟨x',hx,r',hr',rfl⟩:=h
     obtain⟨e1,e2,e3⟩:=h1 x (List.mem_cons_self ..) _ _ (h2 x (List.mem_cons_self ..)) hx
     obtain⟨g1,g2,g3⟩:=ihr (p+1) (q+1) r' (fun y hy=>h1 y (List.mem_cons_of_mem _ hy)) (fun y hy=>h2 y (List.mem_cons_of_mem _ hy)) hr'
     exact⟨by simp only [plains,e2,g1],fun tr=>by simp only [markeds,e1,e2,g2],by simp only [sizes,e3,g3]⟩
   obtain⟨g1,g2,g3⟩:=key t.kids 0 0 m ih hm hm2
   have hlen:=eaches_length _ _ _ _ _ _ hm2
   have hnode:(Tm.mk t.k t.i t.j t.n m).nodeB=t.nodeB:=by
    show(((m.length:Int)==kidsN t.k t.n)&&numbersN t.k t.i t.j t.n)=_
    rw [hlen];rfl
   refine⟨?_,?_,?_⟩
   ·rw [Tm.markedB_eq,Tm.markedB_eq,hnode];show(_&&(_&&markeds (t.k==12) 0 m))=_;rw [g2];rfl
   ·rw [Tm.plainB_eq,Tm.plainB_eq,hnode];show(_&&(_&&plains m))=_;rw [g1];rfl
   ·rw [Tm.size_eq,Tm.size_eq];show sizes m+1=_;rw [g3]
def liftF (k from':Int) (v b:Int):Option Int:=if v-b<from' then some v else if k>2147483647-v then none else some (v+k)
theorem frees_nil (k:Int) (p:Nat):frees k p []=0:=by simp only [frees]
theorem frees_cons (k:Int) (p:Nat) (t:Tm) (r:List Tm):frees k p (t::r)=max (t.freeN-bindsN k p) (frees k (p+1) r):=by simp only [frees]
theorem lift_free (k:Int) (hk0:0≤k) (t:Tm):∀ b u,0≤b→t.rightB=true→t.each (liftF k 0) b=some u→u.freeN=if b<t.freeN then t.freeN+k else t.freeN:=by
 induction t using Tm.ind with
 | h t ih =>
  intro b u hb hr he
  have hm:=t.right_kids hr
  rw [Tm.each_eq] at he
  by_cases hk:t.k=2
  ·rw [if_pos hk] at he
   simp only [Option.map_eq_some_iff] at he
   obtain⟨v,hv,rfl⟩:=he
   have hfr:t.freeN=t.i+1:=by rw [t.freeN_eq,if_pos hk]
   have hu:(Tm.mk 2 v 0 0 []).freeN=v+1:=by rw [Tm.freeN_eq];rfl
   rw [hu,hfr]
   unfold liftF at hv
   split at hv
   ·have:=Option.some.inj hv;rw [if_neg (by omega)];omega
   ·split at hv
    ·cases hv
    ·have:=Option.some.inj hv;rw [if_pos (by omega)];omega
  ·rw [if_neg hk] at he
   simp only [Option.map_eq_some_iff] at he
   obtain⟨m,hm2,rfl⟩:=he
   have key:∀ (l:List Tm) (p:Nat) (m:List Tm),(∀ x ∈ l,∀ b u,0≤b→x.rightB=true→x.each (liftF k 0) b=some u→u.freeN=if b<x.freeN then x.freeN+k else x.freeN)→(∀ x ∈ l,x.rightB=true)→eaches (liftF k 0) t.k p b l=some m →
    frees t.k p m=if b<frees t.k p l then frees t.k p l+k else frees t.k p l:=by
    intro l
    induction l with
    | nil=>intro p m _ _ h;simp only [eaches,Option.some.injEq] at h;subst h;rw [frees_nil,if_neg (by omega)]
    | cons x r ihr =>
     intro p m h1 h2 h
     simp only [eaches,Option.bind_eq_some_iff,Option.map_eq_some_iff] at h
     obtain⟨x',hx,r',hr',rfl⟩:=h
     have hbd:=binds_range t.k (p:Int)
     have e1:=h1 x (List.mem_cons_self ..) _ _ (by omega) (h2 x (List.mem_cons_self ..)) hx
     have e2:=ihr (p+1) r' (fun y hy=>h1 y (List.mem_cons_of_mem _ hy)) (fun y hy=>h2 y (List.mem_cons_of_mem _ hy)) hr'
     rw [frees_cons,frees_cons,e1,e2]
     split<;>split<;>first | (rw [if_pos (by omega)];done) | (rw [if_pos (by omega)];omega) | (rw [if_neg (by omega)];done) | (rw [if_neg (by omega)];omega)
   have hfr:t.freeN=frees t.k 0 t.kids:=by rw [t.freeN_eq,if_neg hk]
   have hu:(Tm.mk t.k t.i t.j t.n m).freeN=frees t.k 0 m:=by rw [Tm.freeN_eq];exact if_neg hk
   rw [hu,hfr]
   exact key t.kids 0 m ih hm hm2
theorem liftF_range (k c:Int) (hk:0≤k):∀ v b w,0≤v→v≤2147483647→liftF k c v b=some w→0≤w∧w≤2147483647:=by
 intro v b w h0 h1 h
 unfold liftF at h
 split at h
 ·have:=Option.some.inj h;omega
 ·split at h
  ·cases h
  ·have:=Option.some.inj h;omega
end Go.Proofs.Ytgnllglbopaheaa

namespace Go.Proofs.Ytgnllglbopaheaa
def Tm.zero:Tm:=.mk 0 0 0 0 []
def optK (g:Nat→Tm→Option Tm):Nat→List Tm→Option (List Tm)
 | _,[]=>some []
 | p,t::r=>(g p t).bind fun x=>(optK g (p+1) r).map fun y=>x::y
theorem optK_take (g:Nat→Tm→Option Tm) (l:List Tm) (p k:Nat) (h:k<l.length):optK g p (l.take (k+1))=(optK g p (l.take k)).bind fun m=>(g (p+k) l[k]).map fun x=>m++[x]:=by
 induction l generalizing p k with
 | nil=>simp at h
 | cons a r ih =>
  cases k with
  | zero=>simp only [List.take_succ_cons,List.take_zero,optK,List.getElem_cons_zero,Nat.add_zero,Option.map_some,Option.bind_some,List.nil_append];cases g p a<;>rfl
  | succ k =>
   simp only [List.take_succ_cons,optK,List.getElem_cons_succ]
   rw [ih (p+1) k (by simpa using h),show p+1+k=p+(k+1) by omega]
   cases g p a with
   | none=>rfl
   | some x=>simp only [Option.bind_some];cases optK g (p+1) (r.take k) with
    | none=>rfl
    | some m=>simp only [Option.bind_some,Option.map_some];cases g (p+(k+1)) (r[k]'(by simpa using h))<;>rfl
theorem optK_none (g:Nat→Tm→Option Tm) (l:List Tm) (p k:Nat) (h:k<l.length) (hg:g (p+k) l[k]=none):optK g p l=none:=by
 induction l generalizing p k with
 | nil=>simp at h
 | cons a r ih =>
  cases k with
  | zero=>simp only [List.getElem_cons_zero,Nat.add_zero] at hg;simp only [optK,hg,Option.bind_none]
  | succ k =>
   simp only [List.getElem_cons_succ] at hg
   simp only [optK]
   rw [ih (p+1) k (by simpa using h) (by rw [show p+1+k=p+(k+1) by omega];exact hg)]
   cases g p a<;>rfl
theorem optK_next {g:Nat→Tm→Option Tm} {l m:List Tm} {k:Nat} (h:k<l.length) (hm:optK g 0 (l.take k)=some m) {x:Tm} (hx:g k l[k]=some x):optK g 0 (l.take (k+1))=some (m++[x]):=by
 rw [optK_take g l 0 k h,hm,Option.bind_some,Nat.zero_add,hx,Option.map_some]
theorem optK_stop {g:Nat→Tm→Option Tm} {l:List Tm} {k:Nat} (h:k<l.length) (hx:g k l[k]=none):optK g 0 l=none:=optK_none g l 0 k h (by rw [Nat.zero_add];exact hx)
theorem optK_length {g:Nat→Tm→Option Tm}:∀ {l m:List Tm} {p:Nat},optK g p l=some m→m.length=l.length
 | [],m,p,h=>by simp only [optK,Option.some.injEq] at h;subst h;rfl
 | t::r,m,p,h=>by
  simp only [optK,Option.bind_eq_some_iff,Option.map_eq_some_iff] at h
  obtain⟨x,_,y,hy,rfl⟩:=h
  simp [optK_length hy]
theorem optK_get {g:Nat→Tm→Option Tm}:∀ {l m:List Tm} {p:Nat},optK g p l=some m→∀ k (h:k<l.length) (h':k<m.length),g (p+k) l[k]=some m[k]
 | [],m,p,h,k,hk,_=>by simp at hk
 | t::r,m,p,h,k,hk,hk'=>by
  simp only [optK,Option.bind_eq_some_iff,Option.map_eq_some_iff] at h
  obtain⟨x,hx,y,hy,rfl⟩:=h
  cases k with
  | zero=>simpa using hx
  | succ k =>
   have:=optK_get hy k (by simpa using hk) (by simpa using hk')
   simp only [List.getElem_cons_succ]
   rw [show p+(k+1)=p+1+k by omega];exact this
theorem optK_congr {g g':Nat→Tm→Option Tm}:∀ (l:List Tm) (p:Nat),(∀ k (h:k<l.length),g (p+k) l[k]=g' (p+k) l[k])→optK g p l=optK g' p l
 | [],p,_=>rfl
 | t::r,p,h=>by
  have h0:=h 0 (by simp)
  simp only [List.getElem_cons_zero,Nat.add_zero] at h0
  simp only [optK,h0]
  rw [optK_congr r (p+1) (fun k hk=>by have:=h (k+1) (by simpa using hk);simpa [Nat.add_assoc,Nat.add_comm 1 k] using this)]
theorem eaches_optK (f:Int→Int→Option Int) (k b:Int):∀ (l:List Tm) (p:Nat),eaches f k p b l=optK (fun q t=>t.each f (b+bindsN k q)) p l
 | [],p=>rfl
 | t::r,p=>by simp only [eaches,optK];rw [eaches_optK f k b r (p+1)]
theorem Tm.each_var (f:Int→Int→Option Int) (t:Tm) (b:Int) (h:t.k=2):t.each f b=(f t.i b).map (fun v=>.mk 2 v 0 0 []):=by rw [t.each_eq,if_pos h]
theorem Tm.each_node (f:Int→Int→Option Int) (t:Tm) (b:Int) (h:t.k≠2):t.each f b=(optK (fun q x=>x.each f (b+bindsN t.k q)) 0 t.kids).map (fun l=>.mk t.k t.i t.j t.n l):=by rw [t.each_eq,if_neg h,eaches_optK]
def Tm.liftB (t:Tm) (k c:Int):Tm:=if k<0∨c<0∨t.rightB=false then .zero else(t.each (liftF k c) 0).getD .zero
end Go.Proofs.Ytgnllglbopaheaa

namespace Go.Proofs.Ytgnllglbopaheaa
theorem mk_k (k i j n:Int) (l:List Tm):(Tm.mk k i j n l).k=k:=rfl
theorem mk_i (k i j n:Int) (l:List Tm):(Tm.mk k i j n l).i=i:=rfl
theorem mk_j (k i j n:Int) (l:List Tm):(Tm.mk k i j n l).j=j:=rfl
theorem mk_n (k i j n:Int) (l:List Tm):(Tm.mk k i j n l).n=n:=rfl
theorem mk_kids (k i j n:Int) (l:List Tm):(Tm.mk k i j n l).kids=l:=rfl
def bareKind (k:Int):Int:=if k=3 then 13 else if k=4 then 14 else if k=5 then 15 else if k=6 then 16 else if k=7 then 17 else if k=8 then 18 else if k=9 then 19 else if k=10 then 20 else if k=11 then 21 else if k=12 then 23 else k
def barePick (k:Int):List Nat:=if k=3 then [0,1] else if k=4 then [0,2] else if k=5 then [2,3] else if k=6 then [0,1] else if k=7 then [0,1,2,3] else if k=8 then [2] else if k=9 then [2] else if k=10 then [0,1,2] else if k=11 then [0,1] else [0,1,2,3]
def pickT (p:List Nat) (l:List Tm):List Tm:=p.filterMap fun i=>l[i]?
def bareNode (k i j n:Int) (l:List Tm):Tm:=if 3≤k∧k≤12 then .mk (bareKind k) (if k=12 then i else 0) 0 (if k=12 then 5 else 0) (pickT (barePick k) l) else .mk k i j n l
mutual
def Tm.bare:Tm→Tm
 | .mk k i j n l=>bareNode k i j n (bares l)
def bares:List Tm→List Tm
 | []=>[]
 | t::r=>t.bare::bares r
end
theorem bares_map:∀ l:List Tm,bares l=l.map Tm.bare
 | []=>rfl
 | t::r=>by simp only [bares,List.map_cons,bares_map r]
theorem Tm.bare_eq (t:Tm):t.bare=bareNode t.k t.i t.j t.n (t.kids.map Tm.bare):=by cases t;simp only [Tm.bare,bares_map];rfl
theorem kids_two {l:List Tm} (h:l.length=2):∃ a b,l=[a,b]:=by
 match l,h with | [a,b],_=>exact⟨a,b,rfl⟩
theorem kids_three {l:List Tm} (h:l.length=3):∃ a b c,l=[a,b,c]:=by
 match l,h with | [a,b,c],_=>exact⟨a,b,c,rfl⟩
theorem kids_four {l:List Tm} (h:l.length=4):∃ a b c d,l=[a,b,c,d]:=by
 match l,h with | [a,b,c,d],_=>exact⟨a,b,c,d,rfl⟩
theorem node_length {t:Tm} (h:t.nodeB=true):(t.kids.length:Int)=kidsN t.k t.n:=by
 simp only [Tm.nodeB,Bool.and_eq_true,beq_iff_eq] at h;exact h.1
theorem marked_shape {t:Tm} (h:t.nodeB=true) (h3:3≤t.k) (h12:t.k≤12) :
 ((t.k=3∨t.k=6∨t.k=11)∧∃ a b,t.kids=[a,b])∨((t.k=4∨t.k=8∨t.k=9∨t.k=10)∧∃ a b c,t.kids=[a,b,c])∨((t.k=5∨t.k=7∨t.k=12)∧∃ a b c d,t.kids=[a,b,c,d]):=by
 have hl:=node_length h
 have hk:t.k=3∨t.k=4∨t.k=5∨t.k=6∨t.k=7∨t.k=8∨t.k=9∨t.k=10∨t.k=11∨t.k=12:=by omega
 rcases hk with e | e | e | e | e | e | e | e | e | e<;>rw [e] at hl<;>simp only [kidsN] at hl<;>simp at hl
 ·exact Or.inl ⟨by omega,kids_two (by omega)⟩
 ·exact Or.inr (Or.inl ⟨by omega,kids_three (by omega)⟩)
 ·exact Or.inr (Or.inr ⟨by omega,kids_four (by omega)⟩)
 ·exact Or.inl ⟨by omega,kids_two (by omega)⟩
 ·exact Or.inr (Or.inr ⟨by omega,kids_four (by omega)⟩)
 ·exact Or.inr (Or.inl ⟨by omega,kids_three (by omega)⟩)
 ·exact Or.inr (Or.inl ⟨by omega,kids_three (by omega)⟩)
 ·exact Or.inr (Or.inl ⟨by omega,kids_three (by omega)⟩)
 ·exact Or.inl ⟨by omega,kids_two (by omega)⟩
 ·exact Or.inr (Or.inr ⟨by omega,kids_four (by omega)⟩)
theorem plain_kids {t:Tm} (h:t.plainB=true):∀ x ∈ t.kids,x.plainB=true:=by
 rw [Tm.plainB_eq] at h;simp only [Bool.and_eq_true] at h;exact plains_mem h.2.2
theorem plain_kind {t:Tm} (h:t.plainB=true):t.k=1∨t.k=2∨13≤t.k:=by
 rw [Tm.plainB_eq] at h;simp at h;omega
theorem plain_right {t:Tm} (h:t.plainB=true):t.rightB=true:=by simp [Tm.rightB,h]
theorem marked_right {t:Tm} (h:t.markedB=true):t.rightB=true:=by simp [Tm.rightB,h]
theorem plain_bare (t:Tm):t.plainB=true→t.bare=t:=by
 induction t using Tm.ind with
 | h t ih =>
  intro h
  have hk:=plain_kind h
  rw [Tm.bare_eq,bareNode,if_neg (by omega)]
  have:t.kids.map Tm.bare=t.kids:=by
   have hp:=plain_kids h
   conv=>rhs;rw [←List.map_id t.kids]
   exact List.map_congr_left (fun x hx=>ih x hx (hp x hx))
  rw [this];exact t.eta
theorem right_cases {t:Tm} (h:t.rightB=true):t.plainB=true∨(t.markedB=true∧3≤t.k∧t.k≤12):=by
 cases hp:t.plainB
 ·right
  simp [Tm.rightB,hp] at h
  refine⟨h,?_⟩
  have hn:t.nodeB=true:=Tm.right_node (by simp [Tm.rightB,h])
  have h1:=Tm.node_kind hn
  by_cases h2:t.k≤2
  ·have:=(sorts_two hn h2).1
   simp [Tm.sortsN,h,hp] at this
  ·rw [Tm.markedB_eq] at h;simp at h;omega
 ·exact Or.inl rfl
theorem bare_plain (t:Tm):t.rightB=true→t.bare.plainB=true:=by
 induction t using Tm.ind with
 | h t ih =>
  intro h
  rcases right_cases h with hp | ⟨hm,h3,h12⟩
  ·rw [plain_bare t hp];exact hp
  ·have hn:=t.right_node h
   have hr:=t.right_kids h
   have hnum:=hn
   simp only [Tm.nodeB,Bool.and_eq_true] at hnum
   replace hnum:=hnum.2
   rw [Tm.bare_eq,bareNode,if_pos ⟨h3,h12⟩,Tm.plainB_eq]
   rcases marked_shape hn h3 h12 with ⟨hk,a,b,hkids⟩ | ⟨hk,a,b,c,hkids⟩ | ⟨hk,a,b,c,d,hkids⟩
   ·have ea:=ih a (by simp [hkids]) (hr a (by simp [hkids]))
    have eb:=ih b (by simp [hkids]) (hr b (by simp [hkids]))
    rcases hk with e | e | e<;>simp [e,hkids,bareKind,barePick,pickT,Tm.nodeB,mk_k,mk_i,mk_j,mk_n,mk_kids,kidsN,numbersN,plains,ea,eb]
   ·have ea:=ih a (by simp [hkids]) (hr a (by simp [hkids]))
    have eb:=ih b (by simp [hkids]) (hr b (by simp [hkids]))
    have ec:=ih c (by simp [hkids]) (hr c (by simp [hkids]))
    rcases hk with e | e | e | e<;>simp [e,hkids,bareKind,barePick,pickT,Tm.nodeB,mk_k,mk_i,mk_j,mk_n,mk_kids,kidsN,numbersN,plains,ea,eb,ec]
   ·have ea:=ih a (by simp [hkids]) (hr a (by simp [hkids]))
    have eb:=ih b (by simp [hkids]) (hr b (by simp [hkids]))
    have ec:=ih c (by simp [hkids]) (hr c (by simp [hkids]))
    have ed:=ih d (by simp [hkids]) (hr d (by simp [hkids]))
    rcases hk with e | e | e
    ·simp [e,hkids,bareKind,barePick,pickT,Tm.nodeB,mk_k,mk_i,mk_j,mk_n,mk_kids,kidsN,numbersN,plains,ec,ed]
    ·simp [e,hkids,bareKind,barePick,pickT,Tm.nodeB,mk_k,mk_i,mk_j,mk_n,mk_kids,kidsN,numbersN,plains,ea,eb,ec,ed]
    ·simp [e,numbersN,levelB] at hnum
     simp [e,hkids,bareKind,barePick,pickT,Tm.nodeB,mk_k,mk_i,mk_j,mk_n,mk_kids,kidsN,givenN,numbersN,plains,ea,eb,ec,ed,hnum,levelB]
theorem bare_free (t:Tm):t.rightB=true→t.bare.freeN≤t.freeN:=by
 induction t using Tm.ind with
 | h t ih =>
  intro h
  rcases right_cases h with hp | ⟨hm,h3,h12⟩
  ·rw [plain_bare t hp];exact Int.le_refl _
  ·have hn:=t.right_node h
   have hr:=t.right_kids h
   rw [Tm.bare_eq,bareNode,if_pos ⟨h3,h12⟩,Tm.freeN_eq,Tm.freeN_eq]
   rcases marked_shape hn h3 h12 with ⟨hk,a,b,hkids⟩ | ⟨hk,a,b,c,hkids⟩ | ⟨hk,a,b,c,d,hkids⟩
   ·have ea:=ih a (by simp [hkids]) (hr a (by simp [hkids]))
    have eb:=ih b (by simp [hkids]) (hr b (by simp [hkids]))
    rcases hk with e | e | e<;>simp [e,hkids,bareKind,barePick,pickT,mk_k,mk_kids,frees,bindsN]<;>omega
   ·have ea:=ih a (by simp [hkids]) (hr a (by simp [hkids]))
    have eb:=ih b (by simp [hkids]) (hr b (by simp [hkids]))
    have ec:=ih c (by simp [hkids]) (hr c (by simp [hkids]))
    rcases hk with e | e | e | e<;>simp [e,hkids,bareKind,barePick,pickT,mk_k,mk_kids,frees,bindsN]<;>omega
   ·have ea:=ih a (by simp [hkids]) (hr a (by simp [hkids]))
    have eb:=ih b (by simp [hkids]) (hr b (by simp [hkids]))
    have ec:=ih c (by simp [hkids]) (hr c (by simp [hkids]))
    have ed:=ih d (by simp [hkids]) (hr d (by simp [hkids]))
    rcases hk with e | e | e<;>simp [e,hkids,bareKind,barePick,pickT,mk_k,mk_kids,frees,bindsN]<;>omega
mutual
def Tm.putG (g:Int→Int→Bool→Option Tm):Tm→Int→Bool→Option Tm
 | .mk k i j n l,b,pl=>if k=2 then g i b pl else(putGs g k 0 b pl l).map (fun l'=>.mk k i j n l')
def putGs (g:Int→Int→Bool→Option Tm):Int→Nat→Int→Bool→List Tm→Option (List Tm)
 | _,_,_,_,[]=>some []
 | k,p,b,pl,t::r=>(t.putG g (b+bindsN k p) (pl||(k==12&&p==2))).bind fun x=>(putGs g k (p+1) b pl r).map fun y=>x::y
end
theorem putGs_optK (g:Int→Int→Bool→Option Tm) (k b:Int) (pl:Bool):∀ (l:List Tm) (p:Nat),putGs g k p b pl l=optK (fun q x=>x.putG g (b+bindsN k q) (pl||(k==12&&q==2))) p l
 | [],p=>rfl
 | t::r,p=>by simp only [putGs,optK];rw [putGs_optK g k b pl r (p+1)]
theorem Tm.putG_eq (g:Int→Int→Bool→Option Tm) (t:Tm) (b:Int) (pl:Bool):t.putG g b pl=if t.k=2 then g t.i b pl else(optK (fun q x=>x.putG g (b+bindsN t.k q) (pl||(t.k==12&&q==2))) 0 t.kids).map (fun l=>.mk t.k t.i t.j t.n l):=by
 cases t;simp only [Tm.putG,putGs_optK];rfl
theorem Tm.putG_var (g:Int→Int→Bool→Option Tm) (t:Tm) (b:Int) (pl:Bool) (h:t.k=2):t.putG g b pl=g t.i b pl:=by rw [t.putG_eq,if_pos h]
theorem Tm.putG_node (g:Int→Int→Bool→Option Tm) (t:Tm) (b:Int) (pl:Bool) (h:t.k≠2):t.putG g b pl=(optK (fun q x=>x.putG g (b+bindsN t.k q) (pl||(t.k==12&&q==2))) 0 t.kids).map (fun l=>.mk t.k t.i t.j t.n l):=by rw [t.putG_eq,if_neg h]
theorem each_putG (f:Int→Int→Option Int) (t:Tm):∀ b pl,t.each f b=t.putG (fun v b _=>(f v b).map fun v=>.mk 2 v 0 0 []) b pl:=by
 induction t using Tm.ind with
 | h t ih =>
  intro b pl
  by_cases hk:t.k=2
  ·rw [Tm.each_var _ _ _ hk,Tm.putG_var _ _ _ _ hk]
  ·rw [Tm.each_node _ _ _ hk,Tm.putG_node _ _ _ _ hk]
   rw [optK_congr (g':=fun q x=>x.putG (fun v b _=>(f v b).map fun v=>.mk 2 v 0 0 []) (b+bindsN t.k q) (pl||(t.k==12&&q==2))) t.kids 0 (fun q hq=>by rw [Nat.zero_add];exact ih _ (List.getElem_mem hq) _ _)]
theorem deeps_get:∀ (l:List Tm) (q:Nat) (h:q<l.length),(l[q]).deep≤deeps l
 | [],q,h=>by simp at h
 | a::r,q,h=>by
  cases q with
  | zero=>simp only [List.getElem_cons_zero,deeps];omega
  | succ q=>have:=deeps_get r q (by simpa using h);simp only [List.getElem_cons_succ,deeps];omega
theorem frees_get (k:Int):∀ (l:List Tm) (p q:Nat) (h:q<l.length),(l[q]).freeN-bindsN k ((p+q:Nat):Int)≤frees k p l
 | [],p,q,h=>by simp at h
 | a::r,p,q,h=>by
  cases q with
  | zero=>simp only [List.getElem_cons_zero,frees,Nat.add_zero];omega
  | succ q=>have:=frees_get k r (p+1) q (by simpa using h);simp only [List.getElem_cons_succ,frees];rw [show p+1+q=p+(q+1) by omega] at this;omega
end Go.Proofs.Ytgnllglbopaheaa

namespace Go.Proofs.Ytgnllglbopaheaa
open Go.RowKit
def boxOf (t:Tm) (s:Value):Obj:=.cells #[.int .i64 t.k,.int .i64 t.i,.int .i64 t.j,.int .i64 t.n,s] 38
def Held (w:World) (t:Tm) (s:Value) (w':World):Prop:=Below (w.heap.size+1) (w.alloc (boxOf t s)) w'
theorem held_start (w:World) (t:Tm) (s:Value):Held w t s (w.alloc (.cells #[.int .i64 t.k,.int .i64 t.i,.int .i64 t.j,.int .i64 t.n,s] 38)):=Below.refl _ _
theorem held_cells {w w':World} {t:Tm} {s:Value} (h:Held w t s w'):w'.cell? ⟨w.heap.size,0,none⟩=some (.int .i64 t.k)∧w'.cell? ⟨w.heap.size,1,none⟩=some (.int .i64 t.i)∧w'.cell? ⟨w.heap.size,2,none⟩=some (.int .i64 t.j) ∧
 w'.cell? ⟨w.heap.size,3,none⟩=some (.int .i64 t.n)∧w'.cell? ⟨w.heap.size,4,none⟩=some s:=box_cells h
theorem held_call {w w1 w2:World} {t:Tm} {s:Value} (h:Held w t s w1) (hb:Below w1.heap.size w1 w2):Held w t s w2 :=
 below_call h hb (by have:=h.size;simpa using this)
theorem held_drew {w w1:World} {t:Tm} {s:Value} (h:Held w t s w1):Held w t s w1.drew:=Below.drew h
theorem held_lies {w w1:World} {t:Tm} {s s':Value} {l:List Tm} (h:Held w t s w1) (hl:Lies w l s'):Lies w1 l s':=hl.keep (below_of_box h)
theorem held_below {w w1:World} {t:Tm} {s:Value} (h:Held w t s w1):Below w.heap.size w w1:=below_of_box h
end Go.Proofs.Ytgnllglbopaheaa

namespace Go.Proofs.Ytgnllglbopaheaa
open Go.RowKit
inductive LiesP (w:World) (P:Nat→Prop):List Tm→Value→Prop
 | mk (l:List Tm) (a:Option Addr) (cap:Nat) (S:Nat→Value) (hc:l.length≤cap) (hm:cap≤maxLen) (hf:∀ x ∈ l,x.fine)
  (hn:∀ i (h:i<l.length),∃ b,a=some ⟨b,0,none⟩∧P b∧Node w b (i * 5) l[i] (S i)) (hk:∀ i (h:i<l.length),LiesP w P (l[i]).kids (S i)):LiesP w P l (.slice a l.length cap)
theorem LiesP.lies {w:World} {P:Nat→Prop} {l:List Tm} {s:Value} (h:LiesP w P l s):Lies w l s:=by
 induction h with
 | mk l a cap S hc hm hf hn hk ih=>exact .mk l a cap S hc hm hf (fun i hi=>by obtain⟨b,ha,_,hx⟩:=hn i hi;exact⟨b,0,ha,by rw [Nat.zero_add];exact hx⟩) ih
theorem Node.same {w w':World} {b o:Nat} {t:Tm} {s:Value} (h:Node w b o t s) (hb:w'.heap[b]? =w.heap[b]?):Node w' b o t s :=
 ⟨(World.cell?_of_block (a:=⟨b,o,none⟩) hb).trans h.c0,(World.cell?_of_block (a:=⟨b,o+1,none⟩) hb).trans h.c1,(World.cell?_of_block (a:=⟨b,o+2,none⟩) hb).trans h.c2,
   (World.cell?_of_block (a:=⟨b,o+3,none⟩) hb).trans h.c3,(World.cell?_of_block (a:=⟨b,o+4,none⟩) hb).trans h.c4⟩
theorem LiesP.keep {w w':World} {P Q:Nat→Prop} {l:List Tm} {s:Value} (h:LiesP w P l s) (hb:∀ b,P b→b<w.heap.size→w'.heap[b]? =w.heap[b]?) (hq:∀ b,P b→b<w.heap.size→Q b):LiesP w' Q l s:=by
 induction h with
 | mk l a cap S hc hm hf hn hk ih =>
  exact .mk l a cap S hc hm hf (fun i hi=>by obtain⟨b,ha,hp,hx⟩:=hn i hi;exact⟨b,ha,hq b hp hx.lt,hx.same (hb b hp hx.lt)⟩) ih
def Own (B:Nat) (w:World) (b:Nat):Prop:=B≤b∧∃ cs,w.heap[b]? =some (.cells cs 38 (0,0))
theorem Own.lt {B:Nat} {w:World} {b:Nat} (h:Own B w b):b<w.heap.size:=by obtain⟨-,cs,h⟩:=h;exact(Array.getElem?_eq_some_iff.1 h).1
theorem Own.same {B:Nat} {w w':World} {b:Nat} (h:Own B w b) (hb:w'.heap[b]? =w.heap[b]?):Own B w' b:=⟨h.1,by rw [hb];exact h.2⟩
theorem Own.later {B:Nat} {w w':World} {b:Nat} (h:Own B w b) (hb:Below w.heap.size w w'):Own B w' b:=h.same (hb.block b h.lt)
theorem Own.from {B B':Nat} {w:World} {b:Nat} (h:Own B w b) (hB:B'≤B):Own B' w b:=⟨Nat.le_trans hB h.1,h.2⟩
theorem LiesP.later {w w':World} {B:Nat} {l:List Tm} {s:Value} (h:LiesP w (Own B w) l s) (hb:Below w.heap.size w w'):LiesP w' (Own B w') l s:=h.keep (fun b _ hlt=>hb.block b hlt) (fun _ hp _=>hp.later hb)
theorem LiesP.from {w:World} {B B':Nat} {l:List Tm} {s:Value} (h:LiesP w (Own B w) l s) (hB:B'≤B):LiesP w (Own B' w) l s:=h.keep (fun _ _ _=>rfl) (fun _ hp _=>hp.from hB)
def cells5:List (Tm × Value)→List Value
 | []=>[]
 | (t,s)::r=>.int .i64 t.k:: .int .i64 t.i:: .int .i64 t.j:: .int .i64 t.n::s::cells5 r
theorem cells5_length:∀ ps:List (Tm × Value),(cells5 ps).length=ps.length * 5
 | []=>rfl
 | (t,s)::r=>by simp [cells5,cells5_length r];omega
theorem cells5_append:∀ ps qs:List (Tm × Value),cells5 (ps++qs)=cells5 ps++cells5 qs
 | [],qs=>rfl
 | (t,s)::r,qs=>by simp [cells5,cells5_append r qs]
theorem cells5_get:∀ (ps:List (Tm × Value)) (i:Nat) (h:i<ps.length) (q:Nat),q<5→(cells5 ps)[i * 5+q]? =[Value.int .i64 (ps[i]).1.k,.int .i64 (ps[i]).1.i,.int .i64 (ps[i]).1.j,.int .i64 (ps[i]).1.n,(ps[i]).2][q]?
 | (t,s)::r,0,_,q,hq=>by
  rw [Nat.zero_mul,Nat.zero_add]
  match q,hq with
  | 0,_=>rfl
  | 1,_=>rfl
  | 2,_=>rfl
  | 3,_=>rfl
  | 4,_=>rfl
 | (t,s)::r,i+1,h,q,hq=>by
  have:=cells5_get r i (by simpa using h) q hq
  rw [show(i+1) * 5+q=(i * 5+q)+5 by omega]
  simpa [cells5] using this
structure Made (B:Nat) (w:World) (v:Value) (ps:List (Tm × Value)):Prop where
 own:w.ownsRow B 38 5 v ps.length (cells5 ps)
 fine:∀ p ∈ ps,p.1.fine
 kids:∀ p ∈ ps,LiesP w (fun b=>Own B w b∧v.ownBlock≠some b) p.1.kids p.2
theorem made_nil (B:Nat) (w:World):Made B w (.slice none 0 0) []:=⟨⟨rfl,Or.inl ⟨rfl,rfl⟩⟩,(fun _ h=>by cases h),(fun _ h=>by cases h)⟩
theorem made_later {B:Nat} {w w':World} {v:Value} {ps:List (Tm × Value)} (h:Made B w v ps) (hb:Below w.heap.size w w'):Made B w' v ps:=by
 refine⟨?_,h.fine,fun p hp=>(h.kids p hp).keep (fun b _ hlt=>hb.block b hlt) (fun _ hq _=>⟨hq.1.later hb,hq.2⟩)⟩
 obtain⟨h1,h2⟩:=h.own
 refine⟨h1,?_⟩
 rcases h2 with h2 | ⟨g,cap,cur,hv,hg,hh,r⟩
 ·exact Or.inl h2
 ·refine Or.inr ⟨g,cap,cur,hv,hg,?_,r⟩
  rw [hb.block g ?_];exact hh
  exact(Array.getElem?_eq_some_iff.1 hh).1
theorem made_block {B:Nat} {w:World} {v:Value} {ps:List (Tm × Value)} (h:Made B w v ps) {b:Nat} (hb:w.heap.size≤b):v.ownBlock≠some b:=by
 rcases h.own.2 with ⟨rfl,-⟩ | ⟨g,cap,cur,rfl,-,hh,-⟩
 ·simp [Value.ownBlock]
 ·have:=(Array.getElem?_eq_some_iff.1 hh).1
  simp [Value.ownBlock];omega
theorem made_step {B:Nat} {w w1:World} {v:Value} {ps:List (Tm × Value)} {p:Tm × Value} {g cap:Nat} (h:Made B w v ps) (hf:p.1.fine) (hk:LiesP w (fun b=>Own B w b∧v.ownBlock≠some b) p.1.kids p.2)
 (hown:w1.ownsRow B 38 5 (.slice (some ⟨g,0,none⟩) (ps.length+1) cap) (ps.length+1) (cells5 ps++cells5 [p])) (hgrow:w.grownBy w1 v.ownBlock) (hg:v.ownBlock=some g∨g=w.heap.size) :
 Made B w1 (.slice (some ⟨g,0,none⟩) (ps.length+1) cap) (ps++[p]):=by
 have keep:∀ q:Tm × Value,LiesP w (fun b=>Own B w b∧v.ownBlock≠some b) q.1.kids q.2→LiesP w1 (fun b=>Own B w1 b∧(Value.slice (some ⟨g,0,none⟩) (ps.length+1) cap).ownBlock≠some b) q.1.kids q.2:=fun q hq =>
  hq.keep (fun b hb hlt=>hgrow.block b hlt (fun e=>hb.2 e.symm)) (fun b hb hlt=>⟨hb.1.same (hgrow.block b hlt (fun e=>hb.2 e.symm)),by
   show some g≠some b
   rcases hg with e | e
   ·rw [←e];exact hb.2
   ·intro e';have:=Option.some.inj e';omega⟩)
 refine⟨by rw [cells5_append];simpa using hown,fun q hq=>?_,fun q hq=>?_⟩
 ·rcases List.mem_append.1 hq with hq | hq
  ·exact h.fine q hq
  ·rw [List.mem_singleton.1 hq];exact hf
 ·rcases List.mem_append.1 hq with hq | hq
  ·exact keep q (h.kids q hq)
  ·rw [List.mem_singleton.1 hq];exact keep p hk
theorem made_lies {B:Nat} {w:World} {v:Value} {ps:List (Tm × Value)} (h:Made B w v ps):LiesP w (Own B w) (ps.map (·.1)) v:=by
 have fin:∀ x ∈ ps.map (·.1),x.fine:=fun x hx=>by obtain⟨p,hp,rfl⟩:=List.mem_map.1 hx;exact h.fine p hp
 have kid:∀ i (hi:i<ps.length),LiesP w (Own B w) (ps[i]).1.kids (ps[i]).2:=fun i hi=>(h.kids _ (List.getElem_mem hi)).keep (fun _ _ _=>rfl) (fun _ hb _=>hb.1)
 obtain⟨-,⟨rfl,hn⟩ | ⟨g,cap,cur,rfl,hg,hh,hnc,hcm,hsz,htk⟩⟩:=h.own
 ·obtain rfl:ps=[]:=List.eq_nil_of_length_eq_zero hn
  exact .mk [] none 0 (fun _=>.nilIface) (Nat.le_refl _) (by decide) (fun _ h=>by cases h) (fun _ h=>by cases h) (fun _ h=>by cases h)
 ·have:=LiesP.mk (w:=w) (P:=Own B w) (ps.map (·.1)) (some ⟨g,0,none⟩) cap (fun i=>(ps[i]?.map (·.2)).getD (.slice none 0 0)) (by simpa using hnc) hcm fin
   (fun i hi=>by
     have hi':i<ps.length:=by simpa using hi
     refine⟨g,rfl,⟨hg,cur,hh⟩,?_⟩
     simp only [List.getElem_map,List.getElem?_eq_getElem hi',Option.map_some,Option.getD_some]
     have cellq:∀ q,q<5→w.cell? ⟨g,i * 5+q,none⟩=[Value.int .i64 (ps[i]).1.k,.int .i64 (ps[i]).1.i,.int .i64 (ps[i]).1.j,.int .i64 (ps[i]).1.n,(ps[i]).2][q]?:=fun q hq=>by
      rw [h.own.cellAt (i * 5+q) (by omega)];exact cells5_get ps i hi' q hq
     exact⟨cellq 0 (by omega),cellq 1 (by omega),cellq 2 (by omega),cellq 3 (by omega),cellq 4 (by omega)⟩)
   (fun i hi=>by
     have hi':i<ps.length:=by simpa using hi
     simp only [List.getElem_map,List.getElem?_eq_getElem hi',Option.map_some,Option.getD_some]
     exact kid i hi')
  simpa using this
theorem alloc_new (w:World) (o:Obj):(w.alloc o).heap[w.heap.size]? =some o:=by
 unfold World.alloc;simp
theorem news_new (w:World) (t:Tm) (s:Value) (T:TypeId):∀ j u,(cells5 [(t,s)])[j]? =some u→(w.alloc (.cells #[.int .i64 t.k,.int .i64 t.i,.int .i64 t.j,.int .i64 t.n,s] T)).cell? ((⟨w.heap.size,0,none⟩:Addr).add j)=some u :=
 World.news_of_block (alloc_new w _)
theorem five_set {w:World} {g:Nat} {T:TypeId} {z0 z1 z2 z3 z4 v0 v1 v2 v3 v4:Value} (h:w.heap[g]? =some (.cells #[z0,z1,z2,z3,z4] T (0,0))) :
 (((((w.setCell ⟨g,0,none⟩ v0).setCell ⟨g,1,none⟩ v1).setCell ⟨g,2,none⟩ v2).setCell ⟨g,3,none⟩ v3).setCell ⟨g,4,none⟩ v4).heap[g]? =some (.cells #[v0,v1,v2,v3,v4] T (0,0)) :=
 heap_setCell_same _ _ _ _ _ _ (heap_setCell_same _ _ _ _ _ _ (heap_setCell_same _ _ _ _ _ _ (heap_setCell_same _ _ _ _ _ _ (heap_setCell_same _ _ _ _ _ _ h))))
theorem made_above {B:Nat} {w:World} {v:Value} {ps:List (Tm × Value)} (h:Made B w v ps):∀ k,v.ownBlock=some k→B≤k:=by
 intro k hk
 rcases h.own.2 with ⟨rfl,-⟩ | ⟨g,cap,cur,rfl,hg,-⟩
 ·simp [Value.ownBlock] at hk
 ·simp [Value.ownBlock] at hk;omega
theorem made_push {B:Nat} {wr w2 w3:World} {v:Value} {ps:List (Tm × Value)} {t:Tm} {s2:Value} {g cap:Nat} (h:Made B wr v ps) (hf:t.fine) (hB:B≤wr.heap.size) (hb2:Below wr.heap.size wr w2) (hk:LiesP w2 (Own wr.heap.size w2) t.kids s2) (o:Obj)
 (hown:w3.ownsRow B 38 5 (.slice (some ⟨g,0,none⟩) (ps.length+1) cap) (ps.length+1) (cells5 ps++cells5 [(t,s2)])) (hgrow:(w2.alloc o).grownBy w3 v.ownBlock) (hat:v.ownBlock=some g∨g=w2.heap.size+1) :
 Made B w3 (.slice (some ⟨g,0,none⟩) (ps.length+1) cap) (ps++[(t,s2)]) :=
 made_step (made_later (made_later h hb2) ((Below.refl _ _).alloc (Nat.le_refl _) _)) hf
  (hk.keep (fun b _ hlt=>Below.heap_alloc _ _ _ hlt) (fun b hb hlt=>⟨(hb.same (Below.heap_alloc _ _ _ hlt)).from hB,made_block h hb.1⟩)) hown hgrow (by simpa using hat)
theorem below_push {B:Nat} {w wr w2 w3:World} {v:Value} {ps:List (Tm × Value)} (h:Made B wr v ps) (hb:Below B w wr) (hB:B≤wr.heap.size) (hb2:Below wr.heap.size wr w2) (o:Obj) (hgrow:(w2.alloc o).grownBy w3 v.ownBlock):Below B w w3 :=
 ((below_call hb hb2 hB).alloc (Nat.le_trans hB hb2.size) o).grown hgrow (by have:=hb2.size;simp;omega) (made_above h)
theorem info_term:(Try.prog.info? 38).map (fun i=>(i.zero,i.size,i.bytes))=some (some (.agg #[.int .i64 0,.int .i64 0,.int .i64 0,.int .i64 0,.slice none 0 0]),5,56):=by kernel_rfl
end Go.Proofs.Ytgnllglbopaheaa

namespace Go.Proofs.Ytgnllglbopaheaa
open Go.RowKit
def put5 (w:World) (g o:Nat) (t:Tm) (s:Value):World:=((((w.setCell ⟨g,o,none⟩ (.int .i64 t.k)).setCell ⟨g,o+1,none⟩ (.int .i64 t.i)).setCell ⟨g,o+2,none⟩ (.int .i64 t.j)).setCell ⟨g,o+3,none⟩ (.int .i64 t.n)).setCell ⟨g,o+4,none⟩ s
theorem put5_other (w:World) (g o:Nat) (t:Tm) (s:Value) {b:Nat} (h:b≠g):(put5 w g o t s).heap[b]? =w.heap[b]?:=by
 unfold put5;repeat rw [Below.heap_setCell _ _ _ _ (by exact h)]
theorem put5_rest (w:World) (g o:Nat) (t:Tm) (s:Value):(put5 w g o t s).os=w.os∧(put5 w g o t s).tape=w.tape∧(put5 w g o t s).output=w.output:=by simp [put5,World.setCell]
theorem put5_size (w:World) (g o:Nat) (t:Tm) (s:Value):(put5 w g o t s).heap.size=w.heap.size:=by simp [put5,World.setCell]
theorem put5_block {w:World} {g:Nat} {cs:Array Value} {T:TypeId} (o:Nat) (t:Tm) (s:Value) (h:w.heap[g]? =some (.cells cs T (0,0))) :
 (put5 w g o t s).heap[g]? =some (.cells (((((cs.setIfInBounds o (.int .i64 t.k)).setIfInBounds (o+1) (.int .i64 t.i)).setIfInBounds (o+2) (.int .i64 t.j)).setIfInBounds (o+3) (.int .i64 t.n)).setIfInBounds (o+4) s) T (0,0)) :=
 heap_setCell_same _ _ _ _ _ _ (heap_setCell_same _ _ _ _ _ _ (heap_setCell_same _ _ _ _ _ _ (heap_setCell_same _ _ _ _ _ _ (heap_setCell_same _ _ _ _ _ _ h))))
theorem put5_out (w:World) (g o:Nat) (t:Tm) (s:Value) {q:Nat} (h:q<o∨o+5≤q):(put5 w g o t s).cell? ⟨g,q,none⟩=w.cell? ⟨g,q,none⟩:=by
 unfold put5
 repeat rw [World.cell?_setCell_other _ _ _ _ (by intro e;have:=congrArg Addr.off e;simp only at this;omega)]
theorem put5_node {w:World} {g o:Nat} {t0:Tm} {s0:Value} (t:Tm) (s:Value) (h:Node w g o t0 s0):Node (put5 w g o t s) g o t s:=by
 have ne:∀ p q:Nat,p≠q→(⟨g,p,none⟩:Addr)≠⟨g,q,none⟩:=fun p q hpq e=>hpq (congrArg Addr.off e)
 unfold put5
 refine⟨?_,?_,?_,?_,?_⟩
 ·rw [World.cell?_setCell_other _ _ _ _ (ne _ _ (by omega)),World.cell?_setCell_other _ _ _ _ (ne _ _ (by omega)),World.cell?_setCell_other _ _ _ _ (ne _ _ (by omega)),World.cell?_setCell_other _ _ _ _ (ne _ _ (by omega))]
  exact World.cell?_setCell_same _ _ _ h.c0
 ·rw [World.cell?_setCell_other _ _ _ _ (ne _ _ (by omega)),World.cell?_setCell_other _ _ _ _ (ne _ _ (by omega)),World.cell?_setCell_other _ _ _ _ (ne _ _ (by omega))]
  refine World.cell?_setCell_same _ _ _ (u:=.int .i64 t0.i) ?_
  rw [World.cell?_setCell_other _ _ _ _ (ne _ _ (by omega))];exact h.c1
 ·rw [World.cell?_setCell_other _ _ _ _ (ne _ _ (by omega)),World.cell?_setCell_other _ _ _ _ (ne _ _ (by omega))]
  refine World.cell?_setCell_same _ _ _ (u:=.int .i64 t0.j) ?_
  rw [World.cell?_setCell_other _ _ _ _ (ne _ _ (by omega)),World.cell?_setCell_other _ _ _ _ (ne _ _ (by omega))];exact h.c2
 ·rw [World.cell?_setCell_other _ _ _ _ (ne _ _ (by omega))]
  refine World.cell?_setCell_same _ _ _ (u:=.int .i64 t0.n) ?_
  rw [World.cell?_setCell_other _ _ _ _ (ne _ _ (by omega)),World.cell?_setCell_other _ _ _ _ (ne _ _ (by omega)),World.cell?_setCell_other _ _ _ _ (ne _ _ (by omega))];exact h.c3
 ·refine World.cell?_setCell_same _ _ _ (u:=s0) ?_
  rw [World.cell?_setCell_other _ _ _ _ (ne _ _ (by omega)),World.cell?_setCell_other _ _ _ _ (ne _ _ (by omega)),World.cell?_setCell_other _ _ _ _ (ne _ _ (by omega)),World.cell?_setCell_other _ _ _ _ (ne _ _ (by omega))];exact h.c4
theorem put5_keep {w:World} {g o o' b:Nat} {t x:Tm} {s sx:Value} (h:Node w b o' x sx) (hne:b≠g∨o'+5≤o∨o+5≤o'):Node (put5 w g o t s) b o' x sx:=by
 by_cases hb:b=g
 ·subst hb
  have hne':o'+5≤o∨o+5≤o':=hne.resolve_left (fun h=>h rfl)
  exact⟨(put5_out _ _ _ _ _ (by omega)).trans h.c0,(put5_out _ _ _ _ _ (by omega)).trans h.c1,(put5_out _ _ _ _ _ (by omega)).trans h.c2,(put5_out _ _ _ _ _ (by omega)).trans h.c3,(put5_out _ _ _ _ _ (by omega)).trans h.c4⟩
 ·exact h.same (put5_other _ _ _ _ _ hb)
structure Full (B:Nat) (w:World) (g:Nat) (xs:List (Tm × Value)):Prop where
 above:B≤g
 open':∃ cs,w.heap[g]? =some (.cells cs 38 (0,0))
 node:∀ i (h:i<xs.length),Node w g (i * 5) (xs[i]).1 (xs[i]).2
 fine:∀ p ∈ xs,p.1.fine
 kids:∀ p ∈ xs,LiesP w (fun b=>Own B w b∧b≠g) p.1.kids p.2
theorem Full.later {B g:Nat} {w w':World} {xs:List (Tm × Value)} (h:Full B w g xs) (hb:Below w.heap.size w w'):Full B w' g xs:=by
 have hg:g<w.heap.size:=by obtain⟨cs,h⟩:=h.open';exact(Array.getElem?_eq_some_iff.1 h).1
 exact⟨h.above,by rw [hb.block g hg];exact h.open',fun i hi=>(h.node i hi).below hb hg,h.fine,fun p hp=>(h.kids p hp).keep (fun b _ hlt=>hb.block b hlt) (fun _ hq _=>⟨hq.1.later hb,hq.2⟩)⟩
theorem Full.fill {B g k:Nat} {w:World} {xs:List (Tm × Value)} {t:Tm} {s:Value} (h:Full B w g xs) (hk:k<xs.length) (hf:t.fine) (hl:LiesP w (fun b=>Own B w b∧b≠g) t.kids s) :
 Full B (put5 w g (k * 5) t s) g (xs.set k (t,s)):=by
 have keepL:∀ l s',LiesP w (fun b=>Own B w b∧b≠g) l s'→LiesP (put5 w g (k * 5) t s) (fun b=>Own B (put5 w g (k * 5) t s) b∧b≠g) l s':=fun l s' h' =>
  h'.keep (fun b hb _=>put5_other _ _ _ _ _ hb.2) (fun b hb _=>⟨hb.1.same (put5_other _ _ _ _ _ hb.2),hb.2⟩)
 refine⟨h.above,?_,fun i hi=>?_,fun p hp=>?_,fun p hp=>?_⟩
 ·obtain⟨cs,hcs⟩:=h.open';exact⟨_,put5_block _ _ _ hcs⟩
 ·have hi':i<xs.length:=by simpa using hi
  by_cases e:k=i
  ·subst e
   simp only [List.getElem_set_self]
   exact put5_node t s (h.node k hk)
  ·rw [List.getElem_set_ne e]
   exact put5_keep (h.node i hi') (Or.inr (by omega))
 ·rcases List.mem_or_eq_of_mem_set hp with hp | rfl
  ·exact h.fine p hp
  ·exact hf
 ·rcases List.mem_or_eq_of_mem_set hp with hp | rfl
  ·exact keepL _ _ (h.kids p hp)
  ·exact keepL _ _ hl
theorem Full.fresh {B g:Nat} {wr w2:World} {xs:List (Tm × Value)} {l:List Tm} {s2:Value} (h:Full B wr g xs) (hB:B≤wr.heap.size) (hk:LiesP w2 (Own wr.heap.size w2) l s2):LiesP w2 (fun b=>Own B w2 b∧b≠g) l s2:=by
 have hg:g<wr.heap.size:=by obtain⟨cs,h⟩:=h.open';exact(Array.getElem?_eq_some_iff.1 h).1
 exact hk.keep (fun _ _ _=>rfl) (fun b hb _=>⟨hb.from hB,by have:=hb.1;omega⟩)
theorem Full.lies {B g cap:Nat} {w:World} {xs:List (Tm × Value)} (h:Full B w g xs) (hc:xs.length≤cap) (hm:cap≤maxLen):LiesP w (Own B w) (xs.map (·.1)) (.slice (some ⟨g,0,none⟩) xs.length cap):=by
 have:=LiesP.mk (w:=w) (P:=Own B w) (xs.map (·.1)) (some ⟨g,0,none⟩) cap (fun i=>(xs[i]?.map (·.2)).getD (.slice none 0 0)) (by simpa using hc) hm
  (fun x hx=>by obtain⟨p,hp,rfl⟩:=List.mem_map.1 hx;exact h.fine p hp)
  (fun i hi=>by
    have hi':i<xs.length:=by simpa using hi
    refine⟨g,rfl,⟨h.above,h.open'⟩,?_⟩
    simp only [List.getElem_map,List.getElem?_eq_getElem hi',Option.map_some,Option.getD_some]
    exact h.node i hi')
  (fun i hi=>by
    have hi':i<xs.length:=by simpa using hi
    simp only [List.getElem_map,List.getElem?_eq_getElem hi',Option.map_some,Option.getD_some]
    exact(h.kids _ (List.getElem_mem hi')).keep (fun _ _ _=>rfl) (fun _ hb _=>hb.1))
 simpa using this
theorem liesP_nil (w:World) (P:Nat→Prop):LiesP w P [] (.slice none 0 0):=.mk [] none 0 (fun _=>.nilIface) (Nat.le_refl _) (by decide) (fun _ h=>by cases h) (fun _ h=>by cases h) (fun _ h=>by cases h)
theorem sizes_map_le {n:Nat} (f:Nat→Tm):∀ (l:List Tm),l.length=n→(∀ i (h:i<l.length),(f i).size≤(l[i]).size)→sizes ((List.range n).map f)≤sizes l:=by
 intro l hl h
 subst hl
 induction l generalizing f with
 | nil=>simp [sizes]
 | cons a r ih =>
  have h0:=h 0 (by simp)
  simp only [List.getElem_cons_zero] at h0
  have:=ih (fun i=>f (i+1)) (fun i hi=>by have:=h (i+1) (by simpa using hi);simpa using this)
  rw [List.length_cons,List.range_succ_eq_map,List.map_cons,List.map_map]
  simp only [sizes]
  have e:((fun i=>f (i+1)))=f∘Nat.succ:=rfl
  rw [e] at this
  omega
instance:Inhabited (Tm × Value):=⟨(.mk 0 0 0 0 [],.nilIface)⟩
end Go.Proofs.Ytgnllglbopaheaa

namespace Go.Proofs.Ytgnllglbopaheaa
open Go.RowKit
theorem results_cell_tmp {P:Program} {fn:Func} {p q:Tmp} {ty:TypeId} (h:fn.results=#[.cell p ty,.tmp q]) (tmps:Array Value) (w:World) (g:Nat) (t:TypeId) (cs:Array Value) (fr:Nat × Nat) (d:TypeDesc)
 (hp:tmps.getD p undef=.pointer (some ⟨g,0,none⟩)) (hg:w.heap[g]? =some (.cells cs t fr))
 (hu:P.underlying ty=some d) (hd:(match d with | .struct _ | .array _ _=>true | _=>false)=true) (hi:(P.info? ty).map (·.size)=some cs.size) :
 (results fn tmps).run P w=.ok (.tuple #[.agg cs,tmps.getD q undef]) w:=by
 have hp':tmps[p]?.getD undef=.pointer (some ⟨g,0,none⟩):=by simpa using hp
 simp [results,h,hp',asAddr,run_loadVar_row w g t ty cs fr d hg hu hd hi]
def Gives (r:Option Tm) (w:World) (e:Ending) (w':World):Prop:=Below w.heap.size w w' ∧
 ((∃ u s',r=some u∧e=.returned (.tuple #[tv u s',.bool true])∧LiesP w' (Own w.heap.size w') u.kids s')∨(∃ z:Tm,r=none∧z.kids=[]∧e=.returned (.tuple #[tv z (.slice none 0 0),.bool false])))
theorem liftc_some (v b c k r:Int) (bf bk:Nat) (w:World) (h:liftF k c v b=some r) (hv:0≤v) (hv2:v≤2147483647) (hb:0≤b) (hb2:b≤4000000) (hk:I64 k) (hk0:0≤k)
 (hc:w.cell? ⟨bf,0,none⟩=some (.int .i64 c)) (hck:w.cell? ⟨bk,0,none⟩=some (.int .i64 k)) :
 Calls Try.prog 80 #[.int .i64 v,.int .i64 b,.pointer (some ⟨bf,0,none⟩),.pointer (some ⟨bk,0,none⟩)] w fun e w'=>e=.returned (.tuple #[.int .i64 r,.bool true])∧w=w':=by
 unfold liftF at h
 unfold I64 at hk
 obtain⟨hk1,hk2⟩:=hk
 by_cases h1:v-b<c
 ·rw [if_pos h1] at h
  obtain rfl:=Option.some.inj h
  have e1:decide (v-b<c)=true:=by simpa using h1
  clear h h1
  go_enter Try.func80,Try.ntmps80
  go_wp2
  go_ret2
  exact⟨rfl,rfl⟩
 ·rw [if_neg h1] at h
  by_cases h2:k>2147483647-v
  ·rw [if_pos h2] at h;cases h
  ·rw [if_neg h2] at h
   obtain rfl:=Option.some.inj h
   have e1:decide (v-b<c)=false:=by simpa using h1
   have e2:decide (2147483647-v<k)=false:=by simpa using h2
   have h2':k≤2147483647-v:=by omega
   clear h h1 h2
   go_enter Try.func80,Try.ntmps80
   go_wp2
   go_ret2
   exact⟨rfl,rfl⟩
theorem liftc_none (v b c k:Int) (bf bk:Nat) (w:World) (h:liftF k c v b=none) (hv:0≤v) (hv2:v≤2147483647) (hb:0≤b) (hb2:b≤4000000) (hk:I64 k) (_:0≤k)
 (hc:w.cell? ⟨bf,0,none⟩=some (.int .i64 c)) (hck:w.cell? ⟨bk,0,none⟩=some (.int .i64 k)) :
 Calls Try.prog 80 #[.int .i64 v,.int .i64 b,.pointer (some ⟨bf,0,none⟩),.pointer (some ⟨bk,0,none⟩)] w fun e w'=>e=.returned (.tuple #[.int .i64 0,.bool false])∧w=w':=by
 unfold liftF at h
 unfold I64 at hk
 obtain⟨hk1,hk2⟩:=hk
 by_cases h1:v-b<c
 ·rw [if_pos h1] at h;cases h
 ·rw [if_neg h1] at h
  by_cases h2:k>2147483647-v
  ·have e1:decide (v-b<c)=false:=by simpa using h1
   have e2:decide (2147483647-v<k)=true:=by simpa using h2
   clear h h1 h2
   go_enter Try.func80,Try.ntmps80
   go_wp2
   go_ret2
   exact⟨rfl,rfl⟩
  ·rw [if_neg h2] at h;cases h
theorem level_I64 {i:Int} (h:levelB i=true):I64 i:=by simp [levelB] at h;unfold I64;omega
theorem right_fine {t:Tm} (h:t.rightB=true):t.fine:=by
 have hn:=t.right_node h
 have hk:=Tm.node_kind hn
 have hl:=node_length hn
 simp only [Tm.nodeB,Bool.and_eq_true] at hn
 replace hn:=hn.2
 have i0:I64 0:=by unfold I64;omega
 have gn:0≤givenN t.n→I64 t.n:=fun h=>by unfold givenN at h;unfold I64;(repeat' split at h)<;>omega
 refine⟨by unfold I64;omega,?_⟩
 unfold numbersN at hn
 split at hn
 ·simp at hn;exact⟨by unfold I64;omega,by rw [hn.2.2.1];exact i0,by rw [hn.2.2.2];exact i0⟩
 split at hn
 ·simp at hn;exact⟨level_I64 hn.1,by rw [hn.2.1];exact i0,by rw [hn.2.2];exact i0⟩
 split at hn
 ·simp at hn;exact⟨level_I64 hn.1,level_I64 hn.2.1,by rw [hn.2.2];exact i0⟩
 split at hn
 ·rename_i h23
  simp at hn
  rw [h23] at hl
  exact⟨level_I64 hn.1,level_I64 hn.2,gn (by have:kidsN 23 t.n=givenN t.n:=rfl;omega)⟩
 ·simp at hn;exact⟨by rw [hn.1];exact i0,by rw [hn.2.1];exact i0,by rw [hn.2.2];exact i0⟩
theorem kidsN_le (k n:Int):kidsN k n≤12:=by
 have:givenN n≤12:=by unfold givenN;(repeat' split)<;>omega
 unfold kidsN;(repeat' split)<;>omega
theorem right_len {t:Tm} (h:t.rightB=true):t.kids.length≤12:=by
 have:=node_length (t.right_node h);have:=kidsN_le t.k t.n;omega
end Go.Proofs.Ytgnllglbopaheaa

namespace Go.Proofs.Ytgnllglbopaheaa
open Go.RowKit
structure LiesI (w:World) (l:List Int) (s:Value):Prop where
 out:∃ (a:Option Addr) (cap:Nat),s=.slice a l.length cap∧l.length≤cap∧cap≤maxLen∧∀ i (h:i<l.length),∃ b o,a=some ⟨b,o,none⟩∧w.cell? ⟨b,o+i,none⟩=some (.int .i64 l[i])
end Go.Proofs.Ytgnllglbopaheaa

namespace Go.Proofs.Ytgnllglbopaheaa
open Go.RowKit
mutual
def Tm.count:Tm→Nat
 | .mk k _ _ _ l=>(if k=12 then 1 else 0)+counts l
def counts:List Tm→Nat
 | []=>0
 | t::r=>t.count+counts r
end
theorem Tm.count_eq (t:Tm):t.count=(if t.k=12 then 1 else 0)+counts t.kids:=by cases t;rfl
theorem counts_take (l:List Tm) (k:Nat) (h:k<l.length):counts (l.take (k+1))=counts (l.take k)+(l[k]).count:=by
 induction l generalizing k with
 | nil=>simp at h
 | cons a r ih =>
  cases k with
  | zero=>simp [counts]
  | succ k=>simp only [List.take_succ_cons,counts,List.getElem_cons_succ];rw [ih k (by simpa using h)];omega
theorem counts_le (l:List Tm) (k:Nat):counts (l.take k)≤counts l:=by
 induction l generalizing k with
 | nil=>simp
 | cons a r ih =>
  cases k with
  | zero=>simp [counts]
  | succ k=>simp only [List.take_succ_cons,counts];have:=ih k;omega
set_option maxHeartbeats 400000 in
theorem moves_any (t:Tm):∀ (w:World) (s:Value),Lies w t.kids s→Calls Try.prog 33 #[tv t s] w fun e w'=>e=.returned (.bool (decide (0<t.count)))∧Below w.heap.size w w':=by
 induction t using Tm.ind with
 | h t ih =>
  intro w s hl
  obtain⟨a,cap,S,rfl,hc,hm,hf,hn,hk⟩:=hl.out
  unfold tv
  have hcq:=t.count_eq
  unfold maxLen at hm
  have IH:=Lib.hid ih
  have HN:=Lib.hid hn
  have HK:=Lib.hid hk
  have HCQ:=Lib.hid hcq
  clear ih hn hk hf hl hcq
  by_cases h12:t.k=12
  ·have e12:(t.k==12)=true:=by simpa using h12
   have H12:=Lib.hid h12
   clear h12
   go_enter Try.func33,Try.ntmps33
   go_wp2
   go_ret
   exact⟨ret_bool (by rw [HCQ.out,if_pos H12.out];simp;omega),(Below.refl _ _).alloc (Nat.le_refl _) _⟩
  have e12:(t.k==12)=false:=by simpa using h12
  have H12:=Lib.hid h12
  clear h12
  go_enter Try.func33,Try.ntmps33
  go_wp2
  go_loopw [11] (fun i wr=>∃ k:Nat,k≤t.kids.length∧i=.int .i64 k∧Hid (counts (t.kids.take k)=0)∧Below w.heap.size w wr) (fun i _=>t.kids.length-(intOf i).toNat)
  case atStart=>exact⟨0,Nat.zero_le _,rfl,by simp [counts,Hid],(Below.refl _ _).alloc (Nat.le_refl _) _⟩
  case round =>
   obtain⟨k,hk,rfl,h0,hb⟩:=hrel
   by_cases hlt:k<t.kids.length
   ·obtain⟨b,o,rfl,hx⟩:=HN.out k hlt
    have hy:=hx.below hb hx.lt
    obtain⟨c0,c1,c2,c3,c4⟩:=hy
    have hq:=HK.out k hlt
    obtain⟨a',cap',S',hS,-⟩:=hq.out
    rw [hS] at c4 hq
    have HQ:=Lib.hid hq
    clear hS hq
    have HM:=Lib.hid (List.getElem_mem hlt)
    have HT:=Lib.hid (counts_take t.kids k hlt)
    have HB:Below w.heap.size w (wr.alloc (.cells #[.int .i64 t.kids[k].k,.int .i64 t.kids[k].i,.int .i64 t.kids[k].j,.int .i64 t.kids[k].n,.slice a' t.kids[k].kids.length cap'] 38)):=hb.alloc hb.size _
    go_wp2_with fail
    refine(IH.out _ HM.out _ _ (HQ.out.keep HB)).mono ?_
    rintro e w' ⟨rfl,hb'⟩
    have HB':Below w.heap.size w w':=HB.trans (hb'.mono HB.size)
    clear hb' HB hb
    by_cases hcnt:0<(t.kids[k]).count
    ·have hcd:decide (0<(t.kids[k]).count)=true:=by simpa using hcnt
     go_wp2
     go_ret
     exact⟨ret_bool (by have:=counts_le t.kids (k+1);rw [HT.out] at this;rw [HCQ.out];simp;omega),HB'⟩
    ·have hcd:decide (0<(t.kids[k]).count)=false:=by simpa using hcnt
     go_wp2
     go_roundw
     case rel=>exact⟨k+1,by omega,by go_num,by show _=_;rw [HT.out,h0.out];omega,HB'⟩
     case measure=>simp [intOf];omega
   ·have:k=t.kids.length:=by omega
    subst this
    go_wp2
    go_ret
    refine⟨ret_bool ?_,hb⟩
    have:=h0.out
    rw [List.take_length] at this
    rw [HCQ.out,if_neg H12.out,this];rfl
end Go.Proofs.Ytgnllglbopaheaa

namespace Go.Proofs.Ytgnllglbopaheaa
open Go.RowKit
def Tm.pureB (t:Tm):Bool:=t.markedB&&(t.count==0)
def Tm.freeB (t:Tm):Int:=if t.rightB then t.freeN else 0
set_option maxHeartbeats 800000 in
theorem right_any (t:Tm) (w:World) (s:Value) (hl:Lies w t.kids s):Calls Try.prog 43 #[tv t s] w fun e w'=>e=.returned (.bool t.rightB)∧Below w.heap.size w w':=by
 obtain⟨a,cap,S,hs,-⟩:=hl.out
 subst hs
 have HB:=(Below.refl (w.heap.size+1) (w.alloc (.cells #[.int .i64 t.k,.int .i64 t.i,.int .i64 t.j,.int .i64 t.n,.slice a t.kids.length cap] 38)))
 have HL:=Lib.hid (hl.keep (below_of_box HB))
 have HBX:=Lib.hid (fun(wr:World)=>box_cells (w:=w) (wr:=wr) (v0:=.int .i64 t.k) (v1:=.int .i64 t.i) (v2:=.int .i64 t.j) (v3:=.int .i64 t.n) (v4:=.slice a t.kids.length cap) (T:=38))
 clear hl
 unfold tv
 go_enter Try.func43,Try.ntmps43
 go_wp2_with fail
 refine(sorts_any t _ _ HL.out).mono ?_
 rintro e w' ⟨he,hb'⟩
 have HB2:=below_call HB hb' (by simp)
 obtain⟨d0,d1,d2,d3,d4⟩:=HBX.out _ HB2
 clear hb'
 obtain⟨t1,t2,t3,t4,t5,t6,t7,t8⟩:=bits_table
 cases hm:t.markedB<;>cases hp:t.plainB
 all_goals
  simp [Tm.sortsN,hm,hp] at he
  subst he
  go_wp2
  go_ret
  exact⟨ret_bool (by simp [Tm.rightB,hm,hp]),below_of_box HB2⟩
set_option maxHeartbeats 800000 in
theorem marked_any (t:Tm) (w:World) (s:Value) (hl:Lies w t.kids s):Calls Try.prog 32 #[tv t s] w fun e w'=>e=.returned (.bool t.markedB)∧Below w.heap.size w w':=by
 obtain⟨a,cap,S,hs,-⟩:=hl.out
 subst hs
 have HB:=(Below.refl (w.heap.size+1) (w.alloc (.cells #[.int .i64 t.k,.int .i64 t.i,.int .i64 t.j,.int .i64 t.n,.slice a t.kids.length cap] 38)))
 have HL:=Lib.hid (hl.keep (below_of_box HB))
 have HBX:=Lib.hid (fun(wr:World)=>box_cells (w:=w) (wr:=wr) (v0:=.int .i64 t.k) (v1:=.int .i64 t.i) (v2:=.int .i64 t.j) (v3:=.int .i64 t.n) (v4:=.slice a t.kids.length cap) (T:=38))
 clear hl
 unfold tv
 go_enter Try.func32,Try.ntmps32
 go_wp2_with fail
 refine(sorts_any t _ _ HL.out).mono ?_
 rintro e w' ⟨he,hb'⟩
 have HB2:=below_call HB hb' (by simp)
 obtain⟨d0,d1,d2,d3,d4⟩:=HBX.out _ HB2
 clear hb'
 obtain⟨t1,t2,t3,t4,t5,t6,t7,t8⟩:=bits_table
 cases hm:t.markedB<;>cases hp:t.plainB
 all_goals
  simp [Tm.sortsN,hm,hp] at he
  subst he
  go_wp2
  go_ret
  exact⟨ret_bool (by simp [hm]),below_of_box HB2⟩
set_option maxHeartbeats 800000 in
theorem pure_any (t:Tm) (w:World) (s:Value) (hl:Lies w t.kids s):Calls Try.prog 24 #[tv t s] w fun e w'=>e=.returned (.bool t.pureB)∧Below w.heap.size w w':=by
 obtain⟨a,cap,S,hs,-⟩:=hl.out
 subst hs
 have HB:=(Below.refl (w.heap.size+1) (w.alloc (.cells #[.int .i64 t.k,.int .i64 t.i,.int .i64 t.j,.int .i64 t.n,.slice a t.kids.length cap] 38)))
 have HL:=Lib.hid (hl.keep (below_of_box HB))
 have HBX:=Lib.hid (fun(wr:World)=>box_cells (w:=w) (wr:=wr) (v0:=.int .i64 t.k) (v1:=.int .i64 t.i) (v2:=.int .i64 t.j) (v3:=.int .i64 t.n) (v4:=.slice a t.kids.length cap) (T:=38))
 have hl0:=Lib.hid hl
 clear hl
 unfold tv
 go_enter Try.func24,Try.ntmps24
 go_wp2_with fail
 refine(marked_any t _ _ HL.out).mono ?_
 rintro e w' ⟨rfl,hb'⟩
 have HB2:=below_call HB hb' (by simp)
 obtain⟨d0,d1,d2,d3,d4⟩:=HBX.out _ HB2
 clear hb'
 have HL2:=Lib.hid (hl0.out.keep (below_of_box HB2))
 cases hm:t.markedB
 ·go_wp2
  go_ret
  exact⟨ret_bool (by simp [Tm.pureB,hm]),below_of_box HB2⟩
 ·go_wp2_with fail
  refine(moves_any t _ _ HL2.out).mono ?_
  rintro e w2 ⟨rfl,hb'⟩
  have HB3:=below_call HB2 hb' (by have:=HB2.size;simpa using this)
  clear hb'
  go_wp2
  go_ret
  exact⟨ret_bool (by simp [Tm.pureB,hm];(try rw [Bool.eq_iff_iff]);simp;omega),below_of_box HB3⟩
set_option maxHeartbeats 800000 in
theorem Free_any (t:Tm) (w:World) (s:Value) (hl:Lies w t.kids s):Calls Try.prog 34 #[tv t s] w fun e w'=>e=.returned (.int .i64 t.freeB)∧Below w.heap.size w w':=by
 obtain⟨a,cap,S,hs,-⟩:=hl.out
 subst hs
 have HB:=(Below.refl (w.heap.size+1) (w.alloc (.cells #[.int .i64 t.k,.int .i64 t.i,.int .i64 t.j,.int .i64 t.n,.slice a t.kids.length cap] 38)))
 have HL:=Lib.hid (hl.keep (below_of_box HB))
 have HBX:=Lib.hid (fun(wr:World)=>box_cells (w:=w) (wr:=wr) (v0:=.int .i64 t.k) (v1:=.int .i64 t.i) (v2:=.int .i64 t.j) (v3:=.int .i64 t.n) (v4:=.slice a t.kids.length cap) (T:=38))
 have hl0:=Lib.hid hl
 clear hl
 unfold tv
 go_enter Try.func34,Try.ntmps34
 go_wp2_with fail
 refine(right_any t _ _ HL.out).mono ?_
 rintro e w' ⟨rfl,hb'⟩
 have HB2:=below_call HB hb' (by simp)
 obtain⟨d0,d1,d2,d3,d4⟩:=HBX.out _ HB2
 clear hb'
 have HL2:=Lib.hid (hl0.out.keep (below_of_box HB2))
 cases hr:t.rightB
 ·go_wp2
  go_ret
  exact⟨ret_int (by simp [Tm.freeB,hr]),below_of_box HB2⟩
 ·go_wp2_with fail
  refine(free_any t _ _ HL2.out hr).mono ?_
  rintro e w2 ⟨rfl,hb'⟩
  have HB3:=below_call HB2 hb' (by have:=HB2.size;simpa using this)
  clear hb'
  go_wp2
  go_ret
  exact⟨ret_int (by simp [Tm.freeB,hr]),below_of_box HB3⟩
end Go.Proofs.Ytgnllglbopaheaa

namespace Go.Proofs.Ytgnllglbopaheaa
open Go.RowKit
def Makes (u:Tm) (w:World) (e:Ending) (w':World):Prop:=∃ s':Value,e=.returned (tv u s')∧LiesP w' (Own w.heap.size w') u.kids s'∧Below w.heap.size w w'
def MakesAll (l:List Tm) (w:World) (e:Ending) (w':World):Prop:=∃ s':Value,e=.returned s'∧LiesP w' (Own w.heap.size w') l s'∧Below w.heap.size w w'
theorem LiesP.out {w:World} {P:Nat→Prop} {l:List Tm} {s:Value} (h:LiesP w P l s):∃ (a:Option Addr) (cap:Nat),s=.slice a l.length cap∧l.length≤cap∧cap≤maxLen:=by
 cases h with
 | mk l a cap S hc hm hf hn hk=>exact⟨a,cap,rfl,hc,hm⟩
def Boxes (w:World) (t:Tm) (s:Value) (w':World):Prop:=Below (w.heap.size+2) ((w.alloc (boxOf t s)).alloc (.cells #[.int .i64 0,.int .i64 0,.int .i64 0,.int .i64 0,.slice none 0 0] 38)) w'
theorem boxes_start (w:World) (t:Tm) (s:Value):Boxes w t s ((w.alloc (.cells #[.int .i64 t.k,.int .i64 t.i,.int .i64 t.j,.int .i64 t.n,s] 38)).alloc (.cells #[.int .i64 0,.int .i64 0,.int .i64 0,.int .i64 0,.slice none 0 0] 38)):=Below.refl _ _
theorem boxes_held {w w':World} {t:Tm} {s:Value} (h:Boxes w t s w'):Held w t s w' :=
 ((Below.refl (w.heap.size+1) (w.alloc (boxOf t s))).alloc (by simp) _).trans (Below.mono h (by omega))
theorem boxes_cells {w w':World} {t:Tm} {s:Value} (h:Boxes w t s w'):w'.cell? ⟨w.heap.size,0,none⟩=some (.int .i64 t.k)∧w'.cell? ⟨w.heap.size,1,none⟩=some (.int .i64 t.i)∧w'.cell? ⟨w.heap.size,2,none⟩=some (.int .i64 t.j)∧w'.cell? ⟨w.heap.size,3,none⟩=some (.int .i64 t.n)∧w'.cell? ⟨w.heap.size,4,none⟩=some s ∧
 w'.cell? ⟨w.heap.size+1,0,none⟩=some (.int .i64 0)∧w'.cell? ⟨w.heap.size+1,1,none⟩=some (.int .i64 0)∧w'.cell? ⟨w.heap.size+1,2,none⟩=some (.int .i64 0)∧w'.cell? ⟨w.heap.size+1,3,none⟩=some (.int .i64 0)∧w'.cell? ⟨w.heap.size+1,4,none⟩=some (.slice none 0 0)∧w'.frozen? ⟨w.heap.size+1,0,none⟩=false∧w'.frozen? ⟨w.heap.size+1,1,none⟩=false∧w'.frozen? ⟨w.heap.size+1,2,none⟩=false∧w'.frozen? ⟨w.heap.size+1,3,none⟩=false∧w'.frozen? ⟨w.heap.size+1,4,none⟩=false:=by
 obtain⟨h0,h1,h2,h3,h4⟩:=held_cells (boxes_held h)
 have hs:(w.alloc (boxOf t s)).heap.size=w.heap.size+1:=by simp
 have:=box_cells (w:=w.alloc (boxOf t s)) (by rw [hs];exact h)
 rw [hs] at this
 obtain⟨y0,y1,y2,y3,y4⟩:=this
 have fr:∀ q,w'.frozen? ⟨w.heap.size+1,q,none⟩=false:=fun q=>by
  rw [Below.frozen h (p:=⟨w.heap.size+1,q,none⟩) (by simp)]
  unfold World.frozen?
  rw [show(⟨w.heap.size+1,q,none⟩:Addr).block=(w.alloc (boxOf t s)).heap.size by simp,alloc_new]
  rfl
 exact⟨h0,h1,h2,h3,h4,y0,y1,y2,y3,y4,fr _,fr _,fr _,fr _,fr _⟩
theorem boxes_call {w w1 w2:World} {t:Tm} {s:Value} (h:Boxes w t s w1) (hb:Below w1.heap.size w1 w2):Boxes w t s w2:=below_call h hb (by have:=Below.size h;simpa using this)
theorem held_set {w w1:World} {t:Tm} {s:Value} (h:Held w t s w1) {p:Addr} (hp:w.heap.size+1≤p.block) (u:Value):Held w t s (w1.setCell p u):=Below.setCell h hp u
theorem boxes_block {w w1:World} {t:Tm} {s:Value} (h:Boxes w t s w1):w1.heap[w.heap.size+1]? =some (.cells #[.int .i64 0,.int .i64 0,.int .i64 0,.int .i64 0,.slice none 0 0] 38 (0,0)):=by
 rw [Below.block h _ (by omega)]
 exact heap_alloc2_new _ _ _
theorem boxes_lies {w w1:World} {t:Tm} {s s':Value} {l:List Tm} (h:Boxes w t s w1) (hl:Lies w l s'):Lies w1 l s':=held_lies (boxes_held h) hl
theorem len_sizes:∀ l:List Tm,l.length≤sizes l
 | []=>by simp
 | t::r=>by have:=len_sizes r;have:=t.size_eq;simp only [sizes,List.length_cons];omega
theorem size_mem:∀ (l:List Tm) (x:Tm),x ∈ l→x.size≤sizes l
 | t::r,x,h=>by
  simp only [sizes]
  rcases List.mem_cons.1 h with rfl | h
  ·omega
  ·have:=size_mem r x h;omega
theorem under_term:∃ d,Try.prog.underlying 38=some d∧(match d with | .struct _ | .array _ _=>true | _=>false)=true:=by
 have h:(Try.prog.underlying 38).map (fun d=>match d with | .struct _ | .array _ _=>true | _=>false)=some true:=by kernel_rfl
 cases e:Try.prog.underlying 38 with
 | none=>rw [e] at h;cases h
 | some d=>rw [e] at h;exact⟨d,rfl,Option.some.inj h⟩
theorem size_term:(Try.prog.info? 38).map (·.size)=some 5:=by kernel_rfl
end Go.Proofs.Ytgnllglbopaheaa

namespace Go.Proofs.Ytgnllglbopaheaa
open Go.RowKit
theorem open_unfrozen {w:World} {b:Nat} {cs:Array Value} {T:TypeId} (h:w.heap[b]? =some (.cells cs T (0,0))) (q:Nat):w.frozen? ⟨b,q,none⟩=false:=by
 unfold World.frozen?
 rw [show(⟨b,q,none⟩:Addr).block=b from rfl,h];rfl
end Go.Proofs.Ytgnllglbopaheaa

namespace Go.Proofs.Ytgnllglbopaheaa
open Go.RowKit
theorem cell_lat {w wx:World} {a:Addr} {v:Value} (hb:Below w.heap.size w wx) (h:w.cell? a=some v):wx.cell? a=some v:=(hb.cell (World.block_lt_of_cell? _ _ h)).trans h
theorem boxes_under {w w':World} {t:Tm} {s:Value} (h:Boxes w t s w'):Below w.heap.size w w':=held_below (boxes_held h)
abbrev zeroObj:Obj:=.cells #[.int .i64 0,.int .i64 0,.int .i64 0,.int .i64 0,.slice none 0 0] 38
def Desk (w:World) (t u:Tm) (s v:Value) (w':World):Prop:=Below (w.heap.size+3) (((w.alloc (boxOf t s)).alloc zeroObj).alloc (boxOf u v)) w'
theorem heap_three (w:World) (a b c:Obj):(((w.alloc a).alloc b).alloc c).heap[w.heap.size]? =some a∧(((w.alloc a).alloc b).alloc c).heap[w.heap.size+1]? =some b∧(((w.alloc a).alloc b).alloc c).heap[w.heap.size+2]? =some c∧∀ k,k<w.heap.size→(((w.alloc a).alloc b).alloc c).heap[k]? =w.heap[k]?:=by
 refine⟨?_,?_,?_,fun k hk=>?_⟩
 ·rw [Below.heap_alloc _ _ _ (by simp;omega),Below.heap_alloc _ _ _ (by simp),alloc_new]
 ·rw [Below.heap_alloc _ _ _ (by simp)]
  have:=alloc_new (w.alloc a) b
  simpa using this
 ·have:=alloc_new ((w.alloc a).alloc b) c
  simpa using this
 ·rw [Below.heap_alloc _ _ _ (by simp;omega),Below.heap_alloc _ _ _ (by simp;omega),Below.heap_alloc _ _ _ hk]
theorem desk_blocks {w w':World} {t u:Tm} {s v:Value} (h:Desk w t u s v w'):w'.heap[w.heap.size]? =some (boxOf t s)∧w'.heap[w.heap.size+1]? =some zeroObj∧w'.heap[w.heap.size+2]? =some (boxOf u v):=by
 obtain⟨h0,h1,h2,-⟩:=heap_three w (boxOf t s) zeroObj (boxOf u v)
 exact⟨by rw [Below.block h _ (by omega)];exact h0,by rw [Below.block h _ (by omega)];exact h1,by rw [Below.block h _ (by omega)];exact h2⟩
theorem five_cells {w:World} {g:Nat} {v0 v1 v2 v3 v4:Value} {T:TypeId} (h:w.heap[g]? =some (.cells #[v0,v1,v2,v3,v4] T (0,0))) :
 w.cell? ⟨g,0,none⟩=some v0∧w.cell? ⟨g,1,none⟩=some v1∧w.cell? ⟨g,2,none⟩=some v2∧w.cell? ⟨g,3,none⟩=some v3∧w.cell? ⟨g,4,none⟩=some v4:=by
 refine⟨?_,?_,?_,?_,?_⟩<;>(rw [cell_of_row w g _ _ _ _ h];rfl)
theorem five_free {w:World} {g:Nat} {cs:Array Value} {T:TypeId} (h:w.heap[g]? =some (.cells cs T (0,0))) :
 w.frozen? ⟨g,0,none⟩=false∧w.frozen? ⟨g,1,none⟩=false∧w.frozen? ⟨g,2,none⟩=false∧w.frozen? ⟨g,3,none⟩=false∧w.frozen? ⟨g,4,none⟩=false :=
 ⟨open_unfrozen h _,open_unfrozen h _,open_unfrozen h _,open_unfrozen h _,open_unfrozen h _⟩
theorem desk_start (w:World) (t u:Tm) (s v:Value):Desk w t u s v (((w.alloc (.cells #[.int .i64 t.k,.int .i64 t.i,.int .i64 t.j,.int .i64 t.n,s] 38)).alloc (.cells #[.int .i64 0,.int .i64 0,.int .i64 0,.int .i64 0,.slice none 0 0] 38)).alloc (.cells #[.int .i64 u.k,.int .i64 u.i,.int .i64 u.j,.int .i64 u.n,v] 38)):=Below.refl _ _
theorem desk_under {w w':World} {t u:Tm} {s v:Value} (h:Desk w t u s v w'):Below w.heap.size w w' :=
 ((((Below.refl _ _).alloc (Nat.le_refl _) _).alloc (by simp) _).alloc (by simp;omega) _).trans (h.mono (by omega))
theorem desk_size {w w':World} {t u:Tm} {s v:Value} (h:Desk w t u s v w'):w.heap.size+3≤w'.heap.size:=by have:=Below.size h;simpa using this
theorem desk_later {w w1 w2:World} {t u:Tm} {s v:Value} (h:Desk w t u s v w1) (hb:Below w1.heap.size w1 w2):Desk w t u s v w2:=below_call h hb (by have:=desk_size h;omega)
theorem desk_trans {w w1 w2:World} {t u:Tm} {s v:Value} (h:Desk w t u s v w1) (hb:Below (w.heap.size+3) w1 w2):Desk w t u s v w2:=Below.trans h hb
theorem desk_set {w w1:World} {t u:Tm} {s v v':Value} (h:Desk w t u s v w1):Desk w t u s v' (w1.setCell ⟨w.heap.size+2,4,none⟩ v'):=by
 obtain⟨h0,h1,h2,h3⟩:=heap_three w (boxOf t s) zeroObj (boxOf u v')
 obtain⟨g0,g1,g2⟩:=desk_blocks h
 refine⟨(Below.os h).trans rfl,(Below.tape h).trans rfl,(Below.output h).trans rfl,by have:=desk_size h;simp [World.setCell];omega,fun k hk=>?_⟩
 by_cases e2:k=w.heap.size+2
 ·subst e2
  rw [h2,heap_setCell_same _ _ _ _ _ _ g2];rfl
 ·rw [Below.heap_setCell _ _ _ _ (by exact e2)]
  by_cases e1:k=w.heap.size+1
  ·subst e1;rw [h1,g1]
  ·by_cases e0:k=w.heap.size
   ·subst e0;rw [h0,g0]
   ·rw [h3 k (by omega),(desk_under h).block k (by omega)]
theorem desk_put {w w1:World} {t u:Tm} {s v:Value} (h:Desk w t u s v w1) {g:Nat} (hg:w.heap.size+3≤g) (o:Nat) (x:Tm) (sx:Value):Desk w t u s v (put5 w1 g o x sx) :=
 Below.trans h ⟨(put5_rest _ _ _ _ _).1,(put5_rest _ _ _ _ _).2.1,(put5_rest _ _ _ _ _).2.2,by rw [put5_size];exact Nat.le_refl _,fun k hk=>put5_other _ _ _ _ _ (by omega)⟩
theorem cells5_zeros:∀ n:Nat,(cells5 (List.replicate n (Tm.zero,Value.slice none 0 0)))=(madeCells #[.int .i64 0,.int .i64 0,.int .i64 0,.int .i64 0,.slice none 0 0] (n * 5)).toList:=by
 intro n
 apply List.ext_getElem?
 intro j
 by_cases hj:j<n * 5
 ·have h5:j % 5<5:=Nat.mod_lt _ (by omega)
  have hd:j / 5<n:=by omega
  have e:j=j / 5 * 5+j % 5:=by omega
  have h1:=cells5_get (List.replicate n (Tm.zero,Value.slice none 0 0)) (j / 5) (by simpa using hd) (j % 5) h5
  rw [←e] at h1
  rw [h1]
  simp only [List.getElem_replicate]
  have hz:(madeCells #[Value.int .i64 0,.int .i64 0,.int .i64 0,.int .i64 0,.slice none 0 0] (n * 5)).toList[j]? =some (#[Value.int .i64 0,.int .i64 0,.int .i64 0,.int .i64 0,.slice none 0 0][j % 5]!):=by simp [madeCells,hj]
  rw [hz]
  generalize j % 5=q at h5
  match q,h5 with
  | 0,_=>rfl
  | 1,_=>rfl
  | 2,_=>rfl
  | 3,_=>rfl
  | 4,_=>rfl
 ·rw [List.getElem?_eq_none (by rw [cells5_length];simp;omega),List.getElem?_eq_none (by simp [madeCells];omega)]
theorem zero_fine:Tm.zero.fine:=by simp [Tm.zero,Tm.fine,I64,Tm.k,Tm.i,Tm.j,Tm.n]
theorem full_made {B:Nat} {w:World} {g n:Nat} (h:w.ownsRow B 38 5 (.slice (some ⟨g,0,none⟩) n n) n (madeCells #[.int .i64 0,.int .i64 0,.int .i64 0,.int .i64 0,.slice none 0 0] (n * 5)).toList) :
 Full B w g (List.replicate n (Tm.zero,.slice none 0 0)):=by
 rw [←cells5_zeros] at h
 have hb:B≤g∧∃ cs,w.heap[g]? =some (.cells cs 38 (0,0)):=by
  obtain⟨-,⟨h1,-⟩ | ⟨g',cap,cur,h1,h2,h3,-⟩⟩:=h
  ·cases h1
  ·obtain rfl:g=g':=by simp only [Value.slice.injEq,Option.some.injEq,Addr.mk.injEq] at h1;exact h1.1.1
   exact⟨h2,cur,h3⟩
 refine⟨hb.1,hb.2,fun i hi=>?_,fun p hp=>?_,fun p hp=>?_⟩
 ·have cellq:∀ q,q<5→w.cell? ⟨g,i * 5+q,none⟩=[Value.int .i64 ((List.replicate n (Tm.zero,Value.slice none 0 0))[i]).1.k,.int .i64 ((List.replicate n (Tm.zero,Value.slice none 0 0))[i]).1.i,.int .i64 ((List.replicate n (Tm.zero,Value.slice none 0 0))[i]).1.j,.int .i64 ((List.replicate n (Tm.zero,Value.slice none 0 0))[i]).1.n,((List.replicate n (Tm.zero,Value.slice none 0 0))[i]).2][q]?:=fun q hq=>by
   rw [h.cellAt (i * 5+q) (by simp at hi;omega)];exact cells5_get _ i hi q hq
  exact⟨cellq 0 (by omega),cellq 1 (by omega),cellq 2 (by omega),cellq 3 (by omega),cellq 4 (by omega)⟩
 ·rw [(List.mem_replicate.1 hp).2];exact zero_fine
 ·rw [(List.mem_replicate.1 hp).2];exact liesP_nil _ _
theorem Full.below {B g b o:Nat} {w:World} {xs:List (Tm × Value)} (h:Full B w g xs) (hb:b<B) (v:Value):Full B (w.setCell ⟨b,o,none⟩ v) g xs:=by
 have hg:=h.above
 have hk:∀ b',B≤b'→(w.setCell ⟨b,o,none⟩ v).heap[b']? =w.heap[b']?:=fun b' hb'=>Below.heap_setCell _ _ _ _ (by show b'≠b;omega)
 exact⟨hg,by rw [hk g hg];exact h.open',fun i hi=>(h.node i hi).same (hk g hg),h.fine,fun p hp=>(h.kids p hp).keep (fun b' hb' _=>hk b' hb'.1.1) (fun b' hb' _=>⟨hb'.1.same (hk b' hb'.1.1),hb'.2⟩)⟩
theorem held_and {w w':World} {t:Tm} {s v:Value} {p:Addr} (h:Held w t s w') (hp:w.cell? p=some v):Held w t s w'∧w'.cell? p=some v∧w'.cell? ⟨w.heap.size,0,none⟩=some (.int .i64 t.k)∧w'.cell? ⟨w.heap.size,1,none⟩=some (.int .i64 t.i)∧w'.cell? ⟨w.heap.size,2,none⟩=some (.int .i64 t.j)∧w'.cell? ⟨w.heap.size,3,none⟩=some (.int .i64 t.n)∧w'.cell? ⟨w.heap.size,4,none⟩=some s :=
 ⟨h,cell_lat (held_below h) hp,held_cells h⟩
theorem held_alloc {w w1:World} {t:Tm} {s:Value} (h:Held w t s w1) (o:Obj):Held w t s (w1.alloc o):=Below.alloc h (by have:=Below.size h;simpa using this) o
theorem zero_blocks_new {wr wn:World} {A:Obj} (h:Below ((wr.alloc A).alloc zeroObj).drew.heap.size ((wr.alloc A).alloc zeroObj).drew wn):wn.heap[wr.heap.size+1]? =some zeroObj:=by
 have hN:((wr.alloc A).alloc zeroObj).heap[wr.heap.size+1]? =some zeroObj:=heap_alloc2_new wr A zeroObj
 have hb:=h.block (wr.heap.size+1) (by have:=(Array.getElem?_eq_some_iff.1 hN).1;exact this)
 exact hb.trans hN
theorem below_from {B:Nat} {w w':World} (h:Below w.heap.size w w') (hB:B≤w.heap.size):Below B w w':=h.mono hB
theorem held_five {w w1:World} {t:Tm} {s:Value} (h:Held w t s w1) (v0 v1 v2 v3 v4:Value):Held w t s (((((w1.setCell ⟨w.heap.size+1,0,none⟩ v0).setCell ⟨w.heap.size+1,1,none⟩ v1).setCell ⟨w.heap.size+1,2,none⟩ v2).setCell ⟨w.heap.size+1,3,none⟩ v3).setCell ⟨w.heap.size+1,4,none⟩ v4) :=
 held_set (held_set (held_set (held_set (held_set h (Nat.le_refl _) _) (Nat.le_refl _) _) (Nat.le_refl _) _) (Nat.le_refl _) _) (Nat.le_refl _) _
theorem liesP_five {N:Nat} {w:World} {l:List Tm} {s:Value} (h:LiesP w (Own (N+2) w) l s) (v0 v1 v2 v3 v4:Value) :
 LiesP (((((w.setCell ⟨N+1,0,none⟩ v0).setCell ⟨N+1,1,none⟩ v1).setCell ⟨N+1,2,none⟩ v2).setCell ⟨N+1,3,none⟩ v3).setCell ⟨N+1,4,none⟩ v4) (Own N (((((w.setCell ⟨N+1,0,none⟩ v0).setCell ⟨N+1,1,none⟩ v1).setCell ⟨N+1,2,none⟩ v2).setCell ⟨N+1,3,none⟩ v3).setCell ⟨N+1,4,none⟩ v4)) l s:=by
 have hb:∀ b,N+2≤b→(((((w.setCell ⟨N+1,0,none⟩ v0).setCell ⟨N+1,1,none⟩ v1).setCell ⟨N+1,2,none⟩ v2).setCell ⟨N+1,3,none⟩ v3).setCell ⟨N+1,4,none⟩ v4).heap[b]? =w.heap[b]?:=fun b hb=>by
  have hne:b≠N+1:=by omega
  repeat rw [Below.heap_setCell _ _ _ _ (by exact hne)]
 exact h.keep (fun b hp _=>hb b hp.1) (fun b hp _=>(hp.from (by omega)).same (hb b hp.1))
theorem take_set_next {α:Type} (l:List α) (q:Nat) (x:α) (h:q<l.length):(l.set q x).take (q+1)=l.take q++[x]:=by
 rw [List.take_succ_eq_append_getElem (by simpa using h),List.getElem_set_self,List.take_set_of_le (Nat.le_refl _)]
theorem five_lies {N n:Nat} {w:World} {l:List Tm} {m:Nat} (h:LiesP w (Own (N+3) w) l (.slice (some ⟨N+3,0,none⟩) m n)) (hm:m=n) (v0 v1 v2 v3 v4:Value) :
 LiesP (((((w.setCell ⟨N+1,0,none⟩ v0).setCell ⟨N+1,1,none⟩ v1).setCell ⟨N+1,2,none⟩ v2).setCell ⟨N+1,3,none⟩ v3).setCell ⟨N+1,4,none⟩ v4) (Own N (((((w.setCell ⟨N+1,0,none⟩ v0).setCell ⟨N+1,1,none⟩ v1).setCell ⟨N+1,2,none⟩ v2).setCell ⟨N+1,3,none⟩ v3).setCell ⟨N+1,4,none⟩ v4)) l (.slice (some ⟨N+3,0,none⟩) n n):=by
 subst hm
 exact liesP_five (h.from (by omega)) v0 v1 v2 v3 v4
theorem right_each (f:Int→Int→Option Int) (hf:∀ v b w,0≤v→v≤2147483647→f v b=some w→0≤w∧w≤2147483647) (t:Tm) (b:Int) (u:Tm) (hr:t.rightB=true) (h:t.each f b=some u):u.rightB=true:=by
 obtain⟨h1,h2,-⟩:=each_keeps f hf t b u hr h
 unfold Tm.rightB at hr ⊢;rw [h1,h2];exact hr
def GivesNone (w:World) (e:Ending) (w':World):Prop:=(∃ z:Tm,e=.returned (.tuple #[tv z (.slice none 0 0),.bool false]))∧Below w.heap.size w w'
def GivesSome (u:Tm) (w:World) (e:Ending) (w':World):Prop:=(∃ s',e=.returned (.tuple #[tv u s',.bool true])∧LiesP w' (Own w.heap.size w') u.kids s')∧Below w.heap.size w w'
theorem Gives.none {w w':World} {e:Ending} (h:Gives none w e w'):GivesNone w e w':=by
 obtain⟨hb,⟨u,s',h1,-⟩ | ⟨z,-,-,h2⟩⟩:=h
 ·cases h1
 ·exact⟨⟨z,h2⟩,hb⟩
theorem Gives.some {u:Tm} {w w':World} {e:Ending} (h:Gives (some u) w e w'):GivesSome u w e w':=by
 obtain⟨hb,⟨u',s',h1,h2,h3⟩ | ⟨z,h1,-⟩⟩:=h
 ·cases h1;exact⟨⟨s',h2,h3⟩,hb⟩
 ·cases h1
end Go.Proofs.Ytgnllglbopaheaa

namespace Go.Proofs.Ytgnllglbopaheaa
theorem liftB_good {t:Tm} {k c:Int} (hk:0≤k) (hc:0≤c) (hr:t.rightB=true):t.liftB k c=(t.each (liftF k c) 0).getD .zero:=by
 unfold Tm.liftB;rw [if_neg (by rw [hr];simp;omega)]
theorem size_pos (t:Tm):1≤t.size:=by rw [t.size_eq];omega
theorem liftB_size (t:Tm) (k c:Int):(t.liftB k c).size≤t.size:=by
 unfold Tm.liftB
 split
 ·have:=size_pos t;simpa [Tm.zero,Tm.size,sizes] using this
 ·rename_i h
  have hk:0≤k:=by omega
  have hr:t.rightB=true:=by cases hr:t.rightB with
   | true=>rfl
   | false=>exact absurd (Or.inr (Or.inr hr)) h
  cases hx:t.each (liftF k c) 0 with
  | none=>have:=size_pos t;simpa [Tm.zero,Tm.size,sizes] using this
  | some u=>exact Nat.le_of_eq (each_keeps _ (liftF_range k c hk) t 0 u hr hx).2.2
theorem free_of {t:Tm} (hr:t.rightB=true):t.freeB=t.freeN:=by unfold Tm.freeB;rw [if_pos hr]
theorem lift_comes {t:Tm} {k c:Int} (hk:0≤k) (hk2:k≤1048576) (hr:t.rightB=true) (hf:t.freeN≤1048576 * 3) (hd:t.deep≤100000):∃ u,t.each (liftF k c) 0=some u:=by
 have key:∀ (t:Tm) (b:Int),0≤b→t.rightB=true→t.freeN≤1048576 * 3+b→b+2 * (t.deep:Int)≤1000000→∃ u,t.each (liftF k c) b=some u:=by
  intro t
  induction t using Tm.ind with
  | h t ih =>
   intro b hb hr hf hd
   by_cases h2:t.k=2
   ·rw [Tm.each_var _ _ _ h2]
    rw [t.freeN_eq,if_pos h2] at hf
    unfold liftF
    split
    ·exact⟨_,rfl⟩
    ·rw [if_neg (by omega)];exact⟨_,rfl⟩
   ·rw [Tm.each_node _ _ _ h2]
    rw [t.freeN_eq,if_neg h2] at hf
    have hde:=t.deep_eq
    have all:∀ (l:List Tm) (p:Nat),(∀ q (h:q<l.length),∃ u,(l[q]).each (liftF k c) (b+bindsN t.k ((p+q:Nat):Int))=some u)→∃ m,optK (fun q x=>x.each (liftF k c) (b+bindsN t.k q)) p l=some m:=by
     intro l
     induction l with
     | nil=>intro p _;exact⟨[],rfl⟩
     | cons x r ihr =>
      intro p h
      obtain⟨u,hu⟩:=h 0 (by simp)
      obtain⟨m,hm⟩:=ihr (p+1) (fun q hq=>by have:=h (q+1) (by simpa using hq);simpa [Nat.add_assoc,Nat.add_comm 1 q] using this)
      simp only [List.getElem_cons_zero,Nat.add_zero] at hu
      exact⟨u::m,by simp only [optK,hu,hm,Option.bind_some,Option.map_some]⟩
    obtain⟨m,hm⟩:=all t.kids 0 (fun q hq=>by
     have hbd:=binds_range t.k q
     have hfq:=frees_get t.k t.kids 0 q hq
     have hdq:=deeps_get t.kids q hq
     rw [Nat.zero_add] at hfq ⊢
     exact ih _ (List.getElem_mem hq) _ (by omega) (t.right_kids hr _ (List.getElem_mem hq)) (by omega) (by omega))
    exact⟨_,by rw [hm];rfl⟩
 exact key t 0 (Int.le_refl _) hr (by omega) (by omega)
theorem liftB_keeps {t:Tm} {k:Int} (hk:0≤k) (hk2:k≤1048576) (hr:t.rightB=true) (hf:t.freeN≤1048576) (hd:t.deep≤100000) :
 (t.liftB k 0).rightB=true∧(t.liftB k 0).markedB=t.markedB∧(t.liftB k 0).size=t.size∧(t.liftB k 0).freeB=if 0<t.freeB then t.freeB+k else t.freeB:=by
 obtain⟨u,hu⟩:=lift_comes (c:=0) hk hk2 hr (by omega) hd
 have hru:=right_each _ (liftF_range k 0 hk) t 0 u hr hu
 obtain⟨h1,-,h3⟩:=each_keeps _ (liftF_range k 0 hk) t 0 u hr hu
 have h4:=lift_free k hk t 0 u (Int.le_refl _) hr hu
 rw [liftB_good hk (Int.le_refl _) hr,hu,Option.getD_some,free_of hr,free_of hru]
 exact⟨hru,h1,h3,h4⟩
end Go.Proofs.Ytgnllglbopaheaa

namespace Go.Proofs.Ytgnllglbopaheaa
open Go.RowKit
abbrev five (w:World) (g:Nat) (v0 v1 v2 v3 v4:Value):World:=((((w.setCell ⟨g,0,none⟩ v0).setCell ⟨g,1,none⟩ v1).setCell ⟨g,2,none⟩ v2).setCell ⟨g,3,none⟩ v3).setCell ⟨g,4,none⟩ v4
theorem five_size (w:World) (g:Nat) (v0 v1 v2 v3 v4:Value):(five w g v0 v1 v2 v3 v4).heap.size=w.heap.size:=by simp [five,World.setCell]
theorem five_other (w:World) (g:Nat) (v0 v1 v2 v3 v4:Value) {b:Nat} (h:b≠g):(five w g v0 v1 v2 v3 v4).heap[b]? =w.heap[b]?:=by
 unfold five;repeat rw [Below.heap_setCell _ _ _ _ (by exact h)]
theorem five_alloc {w:World} {g:Nat} {T:TypeId} {z0 z1 z2 z3 z4:Value} (h:w.heap[g]? =some (.cells #[z0,z1,z2,z3,z4] T (0,0))) (v0 v1 v2 v3 v4:Value) (X:Obj):((five w g v0 v1 v2 v3 v4).alloc X).heap[g]? =some (.cells #[v0,v1,v2,v3,v4] T (0,0)):=by
 rw [Below.heap_alloc _ _ _ (by rw [five_size];exact(Array.getElem?_eq_some_iff.1 h).1)]
 exact five_set h
theorem below_five {B:Nat} {w w1:World} (h:Below B w w1) {g:Nat} (hg:B≤g) (v0 v1 v2 v3 v4:Value):Below B w (five w1 g v0 v1 v2 v3 v4) :=
 ((((h.setCell hg _).setCell hg _).setCell hg _).setCell hg _).setCell hg _
theorem below_five_alloc {B:Nat} {w w1:World} (h:Below B w w1) (hB:B≤w1.heap.size) {g:Nat} (hg:B≤g) (v0 v1 v2 v3 v4:Value) (X:Obj):Below B w ((five w1 g v0 v1 v2 v3 v4).alloc X) :=
 (below_five h hg v0 v1 v2 v3 v4).alloc (by rw [five_size];exact hB) X
theorem liesP_fives {B N g:Nat} {w:World} {l:List Tm} {s:Value} (h:LiesP w (Own B w) l s) (hg:g<B) (hN:N≤B) (v0 v1 v2 v3 v4:Value):LiesP (five w g v0 v1 v2 v3 v4) (Own N (five w g v0 v1 v2 v3 v4)) l s :=
 h.keep (fun b hp _=>five_other w g v0 v1 v2 v3 v4 (by have:=hp.1;omega)) (fun b hp _=>(hp.from hN).same (five_other w g v0 v1 v2 v3 v4 (by have:=hp.1;omega)))
theorem liesP_fives_alloc {B N g:Nat} {w:World} {l:List Tm} {s:Value} (h:LiesP w (Own B w) l s) (hg:g<B) (hN:N≤B) (v0 v1 v2 v3 v4:Value) (X:Obj):LiesP ((five w g v0 v1 v2 v3 v4).alloc X) (Own N ((five w g v0 v1 v2 v3 v4).alloc X)) l s :=
 (liesP_fives h hg hN v0 v1 v2 v3 v4).later ((Below.refl _ _).alloc (Nat.le_refl _) _)
theorem liesP_set {B N g o:Nat} {w:World} {l:List Tm} {s:Value} (h:LiesP w (Own B w) l s) (hg:g<B) (hN:N≤B) (v:Value):LiesP (w.setCell ⟨g,o,none⟩ v) (Own N (w.setCell ⟨g,o,none⟩ v)) l s :=
 h.keep (fun b hp _=>Below.heap_setCell _ _ _ _ (by show b≠g;have:=hp.1;omega)) (fun b hp _=>(hp.from hN).same (Below.heap_setCell _ _ _ _ (by show b≠g;have:=hp.1;omega)))
theorem below_three (w:World) (a b c:Obj):Below w.heap.size w (((w.alloc a).alloc b).alloc c):=(((Below.refl _ _).alloc (Nat.le_refl _) _).alloc (by simp) _).alloc (by simp<;>omega) _
theorem push_once {w wr w2 w3:World} {t t':Tm} {s v vl:Value} {ps:List (Tm × Value)} {u:Tm} {s2:Value} {g cap:Nat} (hd:Desk w t t' s vl wr) (h:Made (w.heap.size+3) wr v ps) (hf:u.fine) (hb2:Below wr.heap.size wr w2) (hk:LiesP w2 (Own wr.heap.size w2) u.kids s2) (o:Obj)
 (hown:w3.ownsRow (w.heap.size+3) 38 5 (.slice (some ⟨g,0,none⟩) (ps.length+1) cap) (ps.length+1) (cells5 ps++cells5 [(u,s2)])) (hgrow:(w2.alloc o).grownBy w3 v.ownBlock) (hat:v.ownBlock=some g∨g=(w2.alloc o).heap.size) :
 Made (w.heap.size+3) w3 (.slice (some ⟨g,0,none⟩) (ps.length+1) cap) (ps++[(u,s2)])∧Desk w t t' s vl w3 :=
 ⟨made_push h hf (desk_size hd) hb2 hk o hown hgrow (by simpa using hat),desk_trans hd (below_push h (Below.refl _ _) (desk_size hd) hb2 o hgrow)⟩
theorem one5 (t:Tm) (s:Value) (hs:s.oneCell'=true:=by rfl):∀ v ∈ cells5 [(t,s)],v.oneCell'=true:=by
 intro v hv;simp [cells5] at hv;rcases hv with rfl | rfl | rfl | rfl | rfl
 ·rfl
 ·rfl
 ·rfl
 ·rfl
 ·exact hs
theorem above3 (N:Nat):N≤N+3:=by omega
end Go.Proofs.Ytgnllglbopaheaa

namespace Go.Proofs.Ytgnllglbopaheaa
open Go.RowKit
structure Desk2 (w:World) (M:Nat) (t u:Tm) (s v:Value) (w':World):Prop where
 under:Below w.heap.size w w'
 above:w.heap.size+3≤M
 box:w'.heap[w.heap.size]? =some (boxOf t s)
 res:w'.heap[w.heap.size+1]? =some zeroObj
 made:w'.heap[M]? =some (boxOf u v)
theorem Desk2.size {w w':World} {M:Nat} {t u:Tm} {s v:Value} (h:Desk2 w M t u s v w'):M<w'.heap.size:=(Array.getElem?_eq_some_iff.1 h.made).1
theorem Desk2.later {w w1 w2:World} {M:Nat} {t u:Tm} {s v:Value} (h:Desk2 w M t u s v w1) (hb:Below w1.heap.size w1 w2):Desk2 w M t u s v w2:=by
 have hs:=h.size
 have ha:=h.above
 exact⟨h.under.trans (hb.mono (by omega)),ha,by rw [hb.block _ (by omega)];exact h.box,by rw [hb.block _ (by omega)];exact h.res,by rw [hb.block _ (by omega)];exact h.made⟩
theorem Desk2.set {w w1:World} {M:Nat} {t u:Tm} {s v:Value} (h:Desk2 w M t u s v w1) (o:Nat) (x:Value):Desk2 w M t u s v (w1.setCell ⟨w.heap.size+2,o,none⟩ x):=by
 have ha:=h.above
 exact⟨h.under.setCell (by simp) _,ha,by rw [Below.heap_setCell _ _ _ _ (by show w.heap.size≠w.heap.size+2;omega)];exact h.box,by rw [Below.heap_setCell _ _ _ _ (by show w.heap.size+1≠w.heap.size+2;omega)];exact h.res,by rw [Below.heap_setCell _ _ _ _ (by show M≠w.heap.size+2;omega)];exact h.made⟩
theorem Desk2.drew {w w1:World} {M:Nat} {t u:Tm} {s v:Value} (h:Desk2 w M t u s v w1):Desk2 w M t u s v w1.drew:=⟨h.under.drew,h.above,h.box,h.res,h.made⟩
theorem desk2_and {w w':World} {M:Nat} {t u x:Tm} {s v sx:Value} {b o:Nat} (h:Desk2 w M t u s v w') (hx:Node w b o x sx):Desk2 w M t u s v w'∧w'.cell? ⟨w.heap.size,4,none⟩=some s∧w'.cell? ⟨M,4,none⟩=some v ∧
 w'.cell? ⟨b,o,none⟩=some (.int .i64 x.k)∧w'.cell? ⟨b,o+1,none⟩=some (.int .i64 x.i)∧w'.cell? ⟨b,o+2,none⟩=some (.int .i64 x.j)∧w'.cell? ⟨b,o+3,none⟩=some (.int .i64 x.n)∧w'.cell? ⟨b,o+4,none⟩=some sx:=by
 obtain⟨-,-,-,-,d4⟩:=five_cells h.box
 obtain⟨-,-,-,-,e4⟩:=five_cells h.made
 obtain⟨c0,c1,c2,c3,c4⟩:=hx.below h.under hx.lt
 exact⟨h,d4,e4,c0,c1,c2,c3,c4⟩
theorem desk2_start {w w1:World} {t:Tm} {K:Int} {s v:Value} (hb:Below (w.heap.size+2) ((w.alloc (boxOf t s)).alloc zeroObj) w1) (hs:w.heap.size+3≤w1.heap.size):Desk2 w w1.heap.size t (.mk K 0 0 0 []) s v (w1.alloc (.cells #[.int .i64 K,.int .i64 0,.int .i64 0,.int .i64 0,v] 38)):=by
 have h0:((w.alloc (boxOf t s)).alloc zeroObj).heap[w.heap.size]? =some (boxOf t s):=by rw [Below.heap_alloc _ _ _ (by simp),alloc_new]
 have h1:((w.alloc (boxOf t s)).alloc zeroObj).heap[w.heap.size+1]? =some zeroObj:=heap_alloc2_new _ _ _
 refine⟨?_,hs,?_,?_,alloc_new _ _⟩
 ·exact((((Below.refl _ _).alloc (Nat.le_refl _) _).alloc (by simp) _).trans (hb.mono (by omega))).alloc (by omega) _
 ·rw [Below.heap_alloc _ _ _ (by omega),hb.block _ (by omega)];exact h0
 ·rw [Below.heap_alloc _ _ _ (by omega),hb.block _ (by omega)];exact h1
def picked (t:Tm) (pk:List Nat):List Tm:=pk.map fun p=>((t.kids[p]?).getD .zero).bare
set_option maxRecDepth 20000 in
set_option maxHeartbeats 2000000 in
theorem plain_of (t:Tm) (ih:∀ x ∈ t.kids,∀ (w:World) (s:Value),Lies w x.kids s→x.rightB=true→Calls Try.prog 81 #[tv x s] w (Makes x.bare w)) (hr:∀ x ∈ t.kids,x.rightB=true)
 (K:Int) (pk:List Nat) (hpk:∀ p ∈ pk,p<t.kids.length) (hp4:pk.length≤4) (w:World) (s st:Value) (hl:Lies w t.kids s) (hti:LiesI w (pk.map fun(p:Nat)=>(p:Int)) st) :
 Calls Try.prog 84 #[.int .i64 K,tv t s,st] w (Makes (.mk K 0 0 0 (picked t pk)) w):=by
 obtain⟨a,cap,S,rfl,hc,hm,-,hn,hkk⟩:=hl.out
 obtain⟨ta,tcap,rfl,htc,htm,htn⟩:=hti.out
 rw [List.length_map] at htc
 replace htn:∀ i (h:i<pk.length),∃ b o,ta=some ⟨b,o,none⟩∧w.cell? ⟨b,o+i,none⟩=some (.int .i64 (pk[i]:Int)):=fun i h=>by
  have:=htn i (by rw [List.length_map];exact h)
  simpa using this
 simp only [List.length_map]
 obtain⟨du,hu1,hu2⟩:=under_term
 unfold maxLen at hm htm
 have IH:=Lib.hid ih
 have HR:=Lib.hid hr
 have HPK:=Lib.hid hpk
 have HN:=Lib.hid hn
 have HK:=Lib.hid hkk
 have HTN:=Lib.hid htn
 clear ih hr hpk hn hkk htn hl hti
 unfold tv
 obtain⟨i0,hi,hz0,hz1,hz2⟩:=info_parts info_term
 have HI:=Lib.hid (And.intro hi (And.intro hz0 (And.intro hz1 hz2)))
 clear hi hz0 hz1 hz2
 go_enter Try.func84,Try.ntmps84
 go_wp2_with (at_make;refine wpList_make_full _ rfl _ _ 36 rfl (w.heap.size+2) 38 i0 _ 5 (by kernel_rfl) HI.out.1 HI.out.2.1 HI.out.2.2.1 _ _ _ _ pk.length rfl rfl rfl rfl ?bytes ?max ?base ?next)
 case bytes=>rw [HI.out.2.2.2];omega
 case max=>unfold maxLen;omega
 case base=>simp
 case next =>
 intro w1 hown hgrow
 have hful:=full_made hown
 have hbel:Below (w.heap.size+2) _ w1:=(Below.refl _ _).grown hgrow (by simp) (by simp)
 have hs1:w.heap.size+3≤w1.heap.size:=by
  obtain⟨cs,hcs⟩:=hful.open'
  have:=(Array.getElem?_eq_some_iff.1 hcs).1
  omega
 have hd0:=desk2_start (K:=K) (v:=.slice (some ⟨w.heap.size+2,0,none⟩) pk.length pk.length) hbel hs1
 have hf0:=hful.later ((Below.refl _ _).alloc (Nat.le_refl _) (.cells #[.int .i64 K,.int .i64 0,.int .i64 0,.int .i64 0,.slice (some ⟨w.heap.size+2,0,none⟩) pk.length pk.length] 38))
 clear hbel hgrow hown hful
 obtain⟨M,hM⟩:∃ M,w1.heap.size=M:=⟨_,rfl⟩
 rw [hM] at hd0 hs1
 have HM:=Lib.hid hM
 go_wp2_with fail
 clear hM
 go_loopw [17] (fun i wr=>∃ (q:Nat) (xs:List (Tm × Value)),q≤pk.length∧i=.int .i64 q∧Hid (xs.length=pk.length)∧Hid ((xs.map (·.1)).take q=(picked t pk).take q)∧Full (w.heap.size+2) wr (w.heap.size+2) xs∧Desk2 w M t (.mk K 0 0 0 []) (.slice a t.kids.length cap) (.slice (some ⟨w.heap.size+2,0,none⟩) pk.length pk.length) wr) (fun i _=>pk.length-(intOf i).toNat)
 case atStart=>exact⟨0,_,Nat.zero_le _,rfl,List.length_replicate,rfl,hf0,hd0⟩
 case round =>
  clear hf0 hd0
  obtain⟨q,xs,hq0,rfl,hxl,hxs,hfu,hdk⟩:=hrel
  have HXL:=Lib.hid hxl.out
  have HXS:=Lib.hid hxs.out
  clear hxl hxs
  obtain⟨d0,d1,d2,d3,d4⟩:=five_cells hdk.box
  obtain⟨y0,y1,y2,y3,y4⟩:=five_cells hdk.made
  obtain⟨z0,z1,z2,z3,z4⟩:=five_cells hdk.res
  obtain⟨f0,f1,f2,f3,f4⟩:=five_free hdk.res
  have hsz:=hdk.size
  by_cases hlt:q<pk.length
  ·obtain⟨p,hp⟩:∃ p,pk[q]=p:=⟨_,rfl⟩
   have hplt:p<t.kids.length:=HPK.out p (by rw [←hp];exact List.getElem_mem hlt)
   obtain⟨b9,o9,rfl,hx9⟩:=HTN.out q hlt
   rw [hp] at hx9
   have hc9:=cell_lat hdk.under hx9
   obtain⟨b',o,rfl,hx⟩:=HN.out p hplt
   have hq:=HK.out p hplt
   obtain⟨a',cap',S',hS,-⟩:=hq.out
   rw [hS] at hx hq
   have hkid:(t.kids[p]?).getD .zero=t.kids[p]:=by rw [List.getElem?_eq_getElem hplt];rfl
   have HMem:=Lib.hid (List.getElem_mem hplt)
   have hrk:=HR.out _ HMem.out
   have hfx:=right_fine (plain_right (bare_plain _ hrk))
   have CALL:=Lib.hid (IH.out _ HMem.out wr.drew _ (hq.keep (hdk.under.trans (Below.refl _ _).drew)) hrk)
   have hpick:(picked t pk).take (q+1)=(picked t pk).take q++[(t.kids[p]).bare]:=by
    rw [List.take_succ_eq_append_getElem (by unfold picked;rw [List.length_map];exact hlt)]
    congr 2
    simp only [picked,List.getElem_map,hp,hkid]
   obtain⟨x,hxb⟩:∃ x,(t.kids[p]).bare=x:=⟨_,rfl⟩
   rw [hxb] at CALL hfx hpick
   have hxq:q<xs.length:=by rw [HXL.out];exact hlt
   have HFX:=Lib.hid hfx
   have HPICK:=Lib.hid hpick
   have HFU:=Lib.hid hfu
   have hnode:=hx
   obtain⟨c0,c1,c2,c3,c4⟩:=hx.below hdk.under hx.lt
   clear hS hq hx hfx hpick hxb hkid hrk hp hx9 hfu
   go_wp2_with fail
   go_region_held3 (fun w'=>Desk2 w M t (.mk K 0 0 0 []) (.slice (some ⟨b',o,none⟩) t.kids.length cap) (.slice (some ⟨w.heap.size+2,0,none⟩) pk.length pk.length) w'∧w'.cell? ⟨w.heap.size,4,none⟩=some (.slice (some ⟨b',o,none⟩) t.kids.length cap)∧w'.cell? ⟨M,4,none⟩=some (.slice (some ⟨w.heap.size+2,0,none⟩) pk.length pk.length)∧w'.cell? ⟨b',o+p * 5,none⟩=some (.int .i64 t.kids[p].k)∧w'.cell? ⟨b',o+p * 5+1,none⟩=some (.int .i64 t.kids[p].i)∧w'.cell? ⟨b',o+p * 5+2,none⟩=some (.int .i64 t.kids[p].j)∧w'.cell? ⟨b',o+p * 5+3,none⟩=some (.int .i64 t.kids[p].n)∧w'.cell? ⟨b',o+p * 5+4,none⟩=some (.slice a' t.kids[p].kids.length cap'))
    (((with_reducible refine desk2_and ?_ hnode);repeat (first | with_reducible assumption | with_reducible exact hdk | with_reducible refine Desk2.drew ?_ | with_reducible refine Desk2.set ?_ _ _)))
    (first | (go_at_call 81;((with_reducible refine Calls.mono CALL.out ?_);rintro e wn ⟨s2,rfl,hl2,hbn⟩;obtain⟨a2,cap2,rfl,-,-⟩:=hl2.out;have hd2:=Desk2.later (Desk2.drew hdk) hbn;have hfw:=(HFU.out.later (Below.refl _ _).drew).later hbn;obtain⟨x0,x1,x2,x3,x4⟩:=hfw.node q hxq;obtain⟨cs,hcs⟩:=hfw.open';have g0:=open_unfrozen hcs (q * 5);have g1:=open_unfrozen hcs (q * 5+1);have g2:=open_unfrozen hcs (q * 5+2);have g3:=open_unfrozen hcs (q * 5+3);have g4:=open_unfrozen hcs (q * 5+4);have HLF:=Lib.hid (HFU.out.fresh (w2:=wn) (by have:=hdk.above;omega) hl2);have HFW:=Lib.hid hfw;have HD2:=Lib.hid hd2;clear hcs hfw hl2 hbn)))
   go_wp2_with fail
   go_roundw
   case rel=>exact⟨q+1,xs.set q (x,.slice a2 x.kids.length cap2),hlt,by go_num,by simp [Hid,HXL.out],by rw [Hid,List.map_set,take_set_next _ _ _ (by simpa using hxq),HXS.out,HPICK.out],HFW.out.fill hxq HFX.out HLF.out,((((HD2.out.set _ _).set _ _).set _ _).set _ _).set _ _⟩
   case measure=>simp [intOf];omega
  ·have:q=pk.length:=by omega
   subst this
   have hres:xs.map (·.1)=picked t pk:=by
    have h1:=HXS.out
    rw [List.take_of_length_le (by rw [List.length_map,HXL.out];exact Nat.le_refl _),List.take_of_length_le (by unfold picked;rw [List.length_map];exact Nat.le_refl _)] at h1
    exact h1
   have hll:=hfu.lies (cap:=pk.length) (by rw [HXL.out];exact Nat.le_refl _) (by unfold maxLen;omega)
   rw [hres,HXL.out] at hll
   have HLL:=Lib.hid hll
   have HPL:Hid ((picked t pk).length=pk.length):=by simp [Hid,picked]
   have q1:=hdk.res
   clear hres hll hfu
   go_wp2
   (try simp only [Exit.inBlock,Exit.then])
   refine bodyPost_ret (results_cell_row rfl _ _ (w.heap.size+1) _ _ _ du rfl (five_set q1) hu1 (by cases du<;>first | rfl | exact hu2) size_term) rfl ?_
   refine⟨.slice (some ⟨w.heap.size+2,0,none⟩) pk.length pk.length,rfl,?_,below_five hdk.under (by omega) _ _ _ _ _⟩
   exact liesP_fives HLL.out (by omega) (by omega) _ _ _ _ _
end Go.Proofs.Ytgnllglbopaheaa

namespace Go.Proofs.Ytgnllglbopaheaa
open Go.RowKit
theorem picked_pickT (t:Tm):∀ pk:List Nat,(∀ p ∈ pk,p<t.kids.length)→pickT pk (t.kids.map Tm.bare)=picked t pk
 | [],_=>rfl
 | p::r,h=>by
  have hp:=h p (List.mem_cons_self ..)
  have ih:=picked_pickT t r (fun q hq=>h q (List.mem_cons_of_mem _ hq))
  unfold pickT at ih ⊢
  rw [List.filterMap_cons,List.getElem?_map,List.getElem?_eq_getElem hp]
  simp only [Option.map_some]
  rw [ih]
  simp [picked,List.getElem?_eq_getElem hp]
theorem bare_pick (t:Tm) (c:Int) (pk:List Nat) (hk:t.k=c) (hc:(decide (3≤c)&&decide (c≤12))=true) (hp:barePick c=pk) (h:∀ p ∈ pk,p<t.kids.length):t.bare=.mk (bareKind c) (if c=12 then t.i else 0) 0 (if c=12 then 5 else 0) (picked t pk):=by
 simp at hc
 rw [Tm.bare_eq,bareNode,hk,if_pos hc,hp,picked_pickT t pk h]
theorem liesI_new {W:World} {g:Nat} {T:TypeId} {l:List Int} {fr:Nat × Nat} (h:W.heap[g]? =some (.cells (l.map (Value.int .i64)).toArray T fr)) (hm:l.length≤maxLen):LiesI W l (.slice (some ⟨g,0,none⟩) l.length l.length) :=
 ⟨_,_,rfl,Nat.le_refl _,hm,fun i hi=>⟨g,0,rfl,by rw [Nat.zero_add,cell_of_row _ _ _ _ _ _ h];simp [hi]⟩⟩
theorem made_below {B b o:Nat} {w:World} {v:Value} {ps:List (Tm × Value)} (h:Made B w v ps) (hb:b<B) (x:Value):Made B (w.setCell ⟨b,o,none⟩ x) v ps:=by
 have hk:∀ b',B≤b'→(w.setCell ⟨b,o,none⟩ x).heap[b']? =w.heap[b']?:=fun b' hb'=>Below.heap_setCell _ _ _ _ (by show b'≠b;omega)
 obtain⟨h1,h2⟩:=h.own
 refine⟨⟨h1,?_⟩,h.fine,fun p hp=>(h.kids p hp).keep (fun b' hb' _=>hk b' hb'.1.1) (fun b' hb' _=>⟨hb'.1.same (hk b' hb'.1.1),hb'.2⟩)⟩
 rcases h2 with h2 | ⟨g,cap,cur,hv,hg,hh,r⟩
 ·exact Or.inl h2
 ·exact Or.inr ⟨g,cap,cur,hv,hg,by rw [hk g hg];exact hh,r⟩
set_option maxRecDepth 20000 in
set_option maxHeartbeats 1500000 in
theorem sbare_any (t:Tm):∀ (w:World) (s:Value),Lies w t.kids s→t.rightB=true→Calls Try.prog 81 #[tv t s] w (Makes t.bare w):=by
 induction t using Tm.ind with
 | h t ih =>
  intro w s hl hr
  obtain⟨a,cap,S,rfl,hc,hm,hf,hn,hkk⟩:=hl.out
  have hlen:=right_len hr
  obtain⟨du,hu1,hu2⟩:=under_term
  have HR0:=Lib.hid hr
  have HRK:=Lib.hid (t.right_kids hr)
  have IH:=Lib.hid ih
  have HL:=Lib.hid hl
  have HN:=Lib.hid hn
  have HK:=Lib.hid hkk
  have hkind:=Tm.node_kind (t.right_node hr)
  unfold maxLen at hm
  clear ih hl hn hkk hr hf
  unfold tv
  by_cases hmk:3≤t.k∧t.k≤12
  ·have hcs:t.k=3∨t.k=4∨t.k=5∨t.k=6∨t.k=7∨t.k=8∨t.k=9∨t.k=10∨t.k=11∨t.k=12:=by omega
   clear hmk hkind
   rcases hcs with hkc | hkc | hkc | hkc | hkc | hkc | hkc | hkc | hkc | hkc
   ·have hpk:∀ p ∈ ([0,1]:List Nat),p<t.kids.length:=by
     have hlen:=node_length (t.right_node HR0.out)
     rw [hkc] at hlen
     have h9:t.kids.length=2:=by simp [kidsN] at hlen;omega
     intro p hp
     simp at hp
     omega
    have hres:=bare_pick t 3 [0,1] hkc rfl rfl hpk
    have hb3:=below_three w (.cells #[.int .i64 t.k,.int .i64 t.i,.int .i64 t.j,.int .i64 t.n,.slice a t.kids.length cap] 38) (.cells #[.int .i64 0,.int .i64 0,.int .i64 0,.int .i64 0,.slice none 0 0] 38) (.cells #[.int .i64 0,.int .i64 1] 3)
    obtain⟨q0,q1,q2,-⟩:=heap_three w (.cells #[.int .i64 t.k,.int .i64 t.i,.int .i64 t.j,.int .i64 t.n,.slice a t.kids.length cap] 38) (.cells #[.int .i64 0,.int .i64 0,.int .i64 0,.int .i64 0,.slice none 0 0] 38) (.cells #[.int .i64 0,.int .i64 1] 3)
    have hti:=liesI_new (l:=[(0:Int),(1:Int)]) q2 (by decide)
    have CALL:=Lib.hid (plain_of t IH.out HRK.out 13 [0,1] hpk (by decide) _ _ _ (HL.out.keep hb3) hti)
    have HRES:=Lib.hid hres
    clear hti hpk hres q2 q0
    have e3:(t.k==3)=true:=by rw [hkc];decide
    clear hkc
    go_enter Try.func81,Try.ntmps81
    go_wp2_with fail
    refine CALL.out.mono ?_
    rintro e wn ⟨s2,rfl,hl2,hbn⟩
    obtain⟨a2,cap2,rfl,-,-⟩:=hl2.out
    have hbw:=hb3.trans (hbn.mono hb3.size)
    have q1n:=hbn.block (w.heap.size+1) (by simp)
    rw [q1] at q1n
    obtain⟨z0,z1,z2,z3,z4⟩:=five_cells q1n
    obtain⟨f0,f1,f2,f3,f4⟩:=five_free q1n
    have HL2:=Lib.hid hl2
    clear hbn hl2 q1
    go_wp2
    (try simp only [Exit.inBlock,Exit.then])
    refine bodyPost_ret (results_cell_row rfl _ _ (w.heap.size+1) _ _ _ du rfl (five_set q1n) hu1 (by cases du<;>first | rfl | exact hu2) size_term) rfl ?_
    rw [HRES.out]
    exact⟨_,rfl,liesP_fives HL2.out (by simp<;>omega) (by simp<;>omega) _ _ _ _ _,below_five hbw (by omega) _ _ _ _ _⟩
   ·have hpk:∀ p ∈ ([0,2]:List Nat),p<t.kids.length:=by
     have hlen:=node_length (t.right_node HR0.out)
     rw [hkc] at hlen
     have h9:t.kids.length=3:=by simp [kidsN] at hlen;omega
     intro p hp
     simp at hp
     omega
    have hres:=bare_pick t 4 [0,2] hkc rfl rfl hpk
    have hb3:=below_three w (.cells #[.int .i64 t.k,.int .i64 t.i,.int .i64 t.j,.int .i64 t.n,.slice a t.kids.length cap] 38) (.cells #[.int .i64 0,.int .i64 0,.int .i64 0,.int .i64 0,.slice none 0 0] 38) (.cells #[.int .i64 0,.int .i64 2] 3)
    obtain⟨q0,q1,q2,-⟩:=heap_three w (.cells #[.int .i64 t.k,.int .i64 t.i,.int .i64 t.j,.int .i64 t.n,.slice a t.kids.length cap] 38) (.cells #[.int .i64 0,.int .i64 0,.int .i64 0,.int .i64 0,.slice none 0 0] 38) (.cells #[.int .i64 0,.int .i64 2] 3)
    have hti:=liesI_new (l:=[(0:Int),(2:Int)]) q2 (by decide)
    have CALL:=Lib.hid (plain_of t IH.out HRK.out 14 [0,2] hpk (by decide) _ _ _ (HL.out.keep hb3) hti)
    have HRES:=Lib.hid hres
    clear hti hpk hres q2 q0
    have e3:(t.k==3)=false:=by rw [hkc];decide
    have e4:(t.k==4)=true:=by rw [hkc];decide
    clear hkc
    go_enter Try.func81,Try.ntmps81
    go_wp2_with fail
    refine CALL.out.mono ?_
    rintro e wn ⟨s2,rfl,hl2,hbn⟩
    obtain⟨a2,cap2,rfl,-,-⟩:=hl2.out
    have hbw:=hb3.trans (hbn.mono hb3.size)
    have q1n:=hbn.block (w.heap.size+1) (by simp)
    rw [q1] at q1n
    obtain⟨z0,z1,z2,z3,z4⟩:=five_cells q1n
    obtain⟨f0,f1,f2,f3,f4⟩:=five_free q1n
    have HL2:=Lib.hid hl2
    clear hbn hl2 q1
    go_wp2
    (try simp only [Exit.inBlock,Exit.then])
    refine bodyPost_ret (results_cell_row rfl _ _ (w.heap.size+1) _ _ _ du rfl (five_set q1n) hu1 (by cases du<;>first | rfl | exact hu2) size_term) rfl ?_
    rw [HRES.out]
    exact⟨_,rfl,liesP_fives HL2.out (by simp<;>omega) (by simp<;>omega) _ _ _ _ _,below_five hbw (by omega) _ _ _ _ _⟩
   ·have hpk:∀ p ∈ ([2,3]:List Nat),p<t.kids.length:=by
     have hlen:=node_length (t.right_node HR0.out)
     rw [hkc] at hlen
     have h9:t.kids.length=4:=by simp [kidsN] at hlen;omega
     intro p hp
     simp at hp
     omega
    have hres:=bare_pick t 5 [2,3] hkc rfl rfl hpk
    have hb3:=below_three w (.cells #[.int .i64 t.k,.int .i64 t.i,.int .i64 t.j,.int .i64 t.n,.slice a t.kids.length cap] 38) (.cells #[.int .i64 0,.int .i64 0,.int .i64 0,.int .i64 0,.slice none 0 0] 38) (.cells #[.int .i64 2,.int .i64 3] 3)
    obtain⟨q0,q1,q2,-⟩:=heap_three w (.cells #[.int .i64 t.k,.int .i64 t.i,.int .i64 t.j,.int .i64 t.n,.slice a t.kids.length cap] 38) (.cells #[.int .i64 0,.int .i64 0,.int .i64 0,.int .i64 0,.slice none 0 0] 38) (.cells #[.int .i64 2,.int .i64 3] 3)
    have hti:=liesI_new (l:=[(2:Int),(3:Int)]) q2 (by decide)
    have CALL:=Lib.hid (plain_of t IH.out HRK.out 15 [2,3] hpk (by decide) _ _ _ (HL.out.keep hb3) hti)
    have HRES:=Lib.hid hres
    clear hti hpk hres q2 q0
    have e3:(t.k==3)=false:=by rw [hkc];decide
    have e4:(t.k==4)=false:=by rw [hkc];decide
    have e5:(t.k==5)=true:=by rw [hkc];decide
    clear hkc
    go_enter Try.func81,Try.ntmps81
    go_wp2_with fail
    refine CALL.out.mono ?_
    rintro e wn ⟨s2,rfl,hl2,hbn⟩
    obtain⟨a2,cap2,rfl,-,-⟩:=hl2.out
    have hbw:=hb3.trans (hbn.mono hb3.size)
    have q1n:=hbn.block (w.heap.size+1) (by simp)
    rw [q1] at q1n
    obtain⟨z0,z1,z2,z3,z4⟩:=five_cells q1n
    obtain⟨f0,f1,f2,f3,f4⟩:=five_free q1n
    have HL2:=Lib.hid hl2
    clear hbn hl2 q1
    go_wp2
    (try simp only [Exit.inBlock,Exit.then])
    refine bodyPost_ret (results_cell_row rfl _ _ (w.heap.size+1) _ _ _ du rfl (five_set q1n) hu1 (by cases du<;>first | rfl | exact hu2) size_term) rfl ?_
    rw [HRES.out]
    exact⟨_,rfl,liesP_fives HL2.out (by simp<;>omega) (by simp<;>omega) _ _ _ _ _,below_five hbw (by omega) _ _ _ _ _⟩
   ·have hpk:∀ p ∈ ([0,1]:List Nat),p<t.kids.length:=by
     have hlen:=node_length (t.right_node HR0.out)
     rw [hkc] at hlen
     have h9:t.kids.length=2:=by simp [kidsN] at hlen;omega
     intro p hp
     simp at hp
     omega
    have hres:=bare_pick t 6 [0,1] hkc rfl rfl hpk
    have hb3:=below_three w (.cells #[.int .i64 t.k,.int .i64 t.i,.int .i64 t.j,.int .i64 t.n,.slice a t.kids.length cap] 38) (.cells #[.int .i64 0,.int .i64 0,.int .i64 0,.int .i64 0,.slice none 0 0] 38) (.cells #[.int .i64 0,.int .i64 1] 3)
    obtain⟨q0,q1,q2,-⟩:=heap_three w (.cells #[.int .i64 t.k,.int .i64 t.i,.int .i64 t.j,.int .i64 t.n,.slice a t.kids.length cap] 38) (.cells #[.int .i64 0,.int .i64 0,.int .i64 0,.int .i64 0,.slice none 0 0] 38) (.cells #[.int .i64 0,.int .i64 1] 3)
    have hti:=liesI_new (l:=[(0:Int),(1:Int)]) q2 (by decide)
    have CALL:=Lib.hid (plain_of t IH.out HRK.out 16 [0,1] hpk (by decide) _ _ _ (HL.out.keep hb3) hti)
    have HRES:=Lib.hid hres
    clear hti hpk hres q2 q0
    have e3:(t.k==3)=false:=by rw [hkc];decide
    have e4:(t.k==4)=false:=by rw [hkc];decide
    have e5:(t.k==5)=false:=by rw [hkc];decide
    have e6:(t.k==6)=true:=by rw [hkc];decide
    clear hkc
    go_enter Try.func81,Try.ntmps81
    go_wp2_with fail
    refine CALL.out.mono ?_
    rintro e wn ⟨s2,rfl,hl2,hbn⟩
    obtain⟨a2,cap2,rfl,-,-⟩:=hl2.out
    have hbw:=hb3.trans (hbn.mono hb3.size)
    have q1n:=hbn.block (w.heap.size+1) (by simp)
    rw [q1] at q1n
    obtain⟨z0,z1,z2,z3,z4⟩:=five_cells q1n
    obtain⟨f0,f1,f2,f3,f4⟩:=five_free q1n
    have HL2:=Lib.hid hl2
    clear hbn hl2 q1
    go_wp2
    (try simp only [Exit.inBlock,Exit.then])
    refine bodyPost_ret (results_cell_row rfl _ _ (w.heap.size+1) _ _ _ du rfl (five_set q1n) hu1 (by cases du<;>first | rfl | exact hu2) size_term) rfl ?_
    rw [HRES.out]
    exact⟨_,rfl,liesP_fives HL2.out (by simp<;>omega) (by simp<;>omega) _ _ _ _ _,below_five hbw (by omega) _ _ _ _ _⟩
   ·have hpk:∀ p ∈ ([0,1,2,3]:List Nat),p<t.kids.length:=by
     have hlen:=node_length (t.right_node HR0.out)
     rw [hkc] at hlen
     have h9:t.kids.length=4:=by simp [kidsN] at hlen;omega
     intro p hp
     simp at hp
     omega
    have hres:=bare_pick t 7 [0,1,2,3] hkc rfl rfl hpk
    have hb3:=below_three w (.cells #[.int .i64 t.k,.int .i64 t.i,.int .i64 t.j,.int .i64 t.n,.slice a t.kids.length cap] 38) (.cells #[.int .i64 0,.int .i64 0,.int .i64 0,.int .i64 0,.slice none 0 0] 38) (.cells #[.int .i64 0,.int .i64 1,.int .i64 2,.int .i64 3] 3)
    obtain⟨q0,q1,q2,-⟩:=heap_three w (.cells #[.int .i64 t.k,.int .i64 t.i,.int .i64 t.j,.int .i64 t.n,.slice a t.kids.length cap] 38) (.cells #[.int .i64 0,.int .i64 0,.int .i64 0,.int .i64 0,.slice none 0 0] 38) (.cells #[.int .i64 0,.int .i64 1,.int .i64 2,.int .i64 3] 3)
    have hti:=liesI_new (l:=[(0:Int),(1:Int),(2:Int),(3:Int)]) q2 (by decide)
    have CALL:=Lib.hid (plain_of t IH.out HRK.out 17 [0,1,2,3] hpk (by decide) _ _ _ (HL.out.keep hb3) hti)
    have HRES:=Lib.hid hres
    clear hti hpk hres q2 q0
    have e3:(t.k==3)=false:=by rw [hkc];decide
    have e4:(t.k==4)=false:=by rw [hkc];decide
    have e5:(t.k==5)=false:=by rw [hkc];decide
    have e6:(t.k==6)=false:=by rw [hkc];decide
    have e7:(t.k==7)=true:=by rw [hkc];decide
    clear hkc
    go_enter Try.func81,Try.ntmps81
    go_wp2_with fail
    refine CALL.out.mono ?_
    rintro e wn ⟨s2,rfl,hl2,hbn⟩
    obtain⟨a2,cap2,rfl,-,-⟩:=hl2.out
    have hbw:=hb3.trans (hbn.mono hb3.size)
    have q1n:=hbn.block (w.heap.size+1) (by simp)
    rw [q1] at q1n
    obtain⟨z0,z1,z2,z3,z4⟩:=five_cells q1n
    obtain⟨f0,f1,f2,f3,f4⟩:=five_free q1n
    have HL2:=Lib.hid hl2
    clear hbn hl2 q1
    go_wp2
    (try simp only [Exit.inBlock,Exit.then])
    refine bodyPost_ret (results_cell_row rfl _ _ (w.heap.size+1) _ _ _ du rfl (five_set q1n) hu1 (by cases du<;>first | rfl | exact hu2) size_term) rfl ?_
    rw [HRES.out]
    exact⟨_,rfl,liesP_fives HL2.out (by simp<;>omega) (by simp<;>omega) _ _ _ _ _,below_five hbw (by omega) _ _ _ _ _⟩
   ·have hpk:∀ p ∈ ([2]:List Nat),p<t.kids.length:=by
     have hlen:=node_length (t.right_node HR0.out)
     rw [hkc] at hlen
     have h9:t.kids.length=3:=by simp [kidsN] at hlen;omega
     intro p hp
     simp at hp
     omega
    have hres:=bare_pick t 8 [2] hkc rfl rfl hpk
    have hb3:=below_three w (.cells #[.int .i64 t.k,.int .i64 t.i,.int .i64 t.j,.int .i64 t.n,.slice a t.kids.length cap] 38) (.cells #[.int .i64 0,.int .i64 0,.int .i64 0,.int .i64 0,.slice none 0 0] 38) (.cells #[.int .i64 2] 3)
    obtain⟨q0,q1,q2,-⟩:=heap_three w (.cells #[.int .i64 t.k,.int .i64 t.i,.int .i64 t.j,.int .i64 t.n,.slice a t.kids.length cap] 38) (.cells #[.int .i64 0,.int .i64 0,.int .i64 0,.int .i64 0,.slice none 0 0] 38) (.cells #[.int .i64 2] 3)
    have hti:=liesI_new (l:=[(2:Int)]) q2 (by decide)
    have CALL:=Lib.hid (plain_of t IH.out HRK.out 18 [2] hpk (by decide) _ _ _ (HL.out.keep hb3) hti)
    have HRES:=Lib.hid hres
    clear hti hpk hres q2 q0
    have e3:(t.k==3)=false:=by rw [hkc];decide
    have e4:(t.k==4)=false:=by rw [hkc];decide
    have e5:(t.k==5)=false:=by rw [hkc];decide
    have e6:(t.k==6)=false:=by rw [hkc];decide
    have e7:(t.k==7)=false:=by rw [hkc];decide
    have e8:(t.k==8)=true:=by rw [hkc];decide
    clear hkc
    go_enter Try.func81,Try.ntmps81
    go_wp2_with fail
    refine CALL.out.mono ?_
    rintro e wn ⟨s2,rfl,hl2,hbn⟩
    obtain⟨a2,cap2,rfl,-,-⟩:=hl2.out
    have hbw:=hb3.trans (hbn.mono hb3.size)
    have q1n:=hbn.block (w.heap.size+1) (by simp)
    rw [q1] at q1n
    obtain⟨z0,z1,z2,z3,z4⟩:=five_cells q1n
    obtain⟨f0,f1,f2,f3,f4⟩:=five_free q1n
    have HL2:=Lib.hid hl2
    clear hbn hl2 q1
    go_wp2
    (try simp only [Exit.inBlock,Exit.then])
    refine bodyPost_ret (results_cell_row rfl _ _ (w.heap.size+1) _ _ _ du rfl (five_set q1n) hu1 (by cases du<;>first | rfl | exact hu2) size_term) rfl ?_
    rw [HRES.out]
    exact⟨_,rfl,liesP_fives HL2.out (by simp<;>omega) (by simp<;>omega) _ _ _ _ _,below_five hbw (by omega) _ _ _ _ _⟩
   ·have hpk:∀ p ∈ ([2]:List Nat),p<t.kids.length:=by
     have hlen:=node_length (t.right_node HR0.out)
     rw [hkc] at hlen
     have h9:t.kids.length=3:=by simp [kidsN] at hlen;omega
     intro p hp
     simp at hp
     omega
    have hres:=bare_pick t 9 [2] hkc rfl rfl hpk
    have hb3:=below_three w (.cells #[.int .i64 t.k,.int .i64 t.i,.int .i64 t.j,.int .i64 t.n,.slice a t.kids.length cap] 38) (.cells #[.int .i64 0,.int .i64 0,.int .i64 0,.int .i64 0,.slice none 0 0] 38) (.cells #[.int .i64 2] 3)
    obtain⟨q0,q1,q2,-⟩:=heap_three w (.cells #[.int .i64 t.k,.int .i64 t.i,.int .i64 t.j,.int .i64 t.n,.slice a t.kids.length cap] 38) (.cells #[.int .i64 0,.int .i64 0,.int .i64 0,.int .i64 0,.slice none 0 0] 38) (.cells #[.int .i64 2] 3)
    have hti:=liesI_new (l:=[(2:Int)]) q2 (by decide)
    have CALL:=Lib.hid (plain_of t IH.out HRK.out 19 [2] hpk (by decide) _ _ _ (HL.out.keep hb3) hti)
    have HRES:=Lib.hid hres
    clear hti hpk hres q2 q0
    have e3:(t.k==3)=false:=by rw [hkc];decide
    have e4:(t.k==4)=false:=by rw [hkc];decide
    have e5:(t.k==5)=false:=by rw [hkc];decide
    have e6:(t.k==6)=false:=by rw [hkc];decide
    have e7:(t.k==7)=false:=by rw [hkc];decide
    have e8:(t.k==8)=false:=by rw [hkc];decide
    have e9:(t.k==9)=true:=by rw [hkc];decide
    clear hkc
    go_enter Try.func81,Try.ntmps81
    go_wp2_with fail
    refine CALL.out.mono ?_
    rintro e wn ⟨s2,rfl,hl2,hbn⟩
    obtain⟨a2,cap2,rfl,-,-⟩:=hl2.out
    have hbw:=hb3.trans (hbn.mono hb3.size)
    have q1n:=hbn.block (w.heap.size+1) (by simp)
    rw [q1] at q1n
    obtain⟨z0,z1,z2,z3,z4⟩:=five_cells q1n
    obtain⟨f0,f1,f2,f3,f4⟩:=five_free q1n
    have HL2:=Lib.hid hl2
    clear hbn hl2 q1
    go_wp2
    (try simp only [Exit.inBlock,Exit.then])
    refine bodyPost_ret (results_cell_row rfl _ _ (w.heap.size+1) _ _ _ du rfl (five_set q1n) hu1 (by cases du<;>first | rfl | exact hu2) size_term) rfl ?_
    rw [HRES.out]
    exact⟨_,rfl,liesP_fives HL2.out (by simp<;>omega) (by simp<;>omega) _ _ _ _ _,below_five hbw (by omega) _ _ _ _ _⟩
   ·have hpk:∀ p ∈ ([0,1,2]:List Nat),p<t.kids.length:=by
     have hlen:=node_length (t.right_node HR0.out)
     rw [hkc] at hlen
     have h9:t.kids.length=3:=by simp [kidsN] at hlen;omega
     intro p hp
     simp at hp
     omega
    have hres:=bare_pick t 10 [0,1,2] hkc rfl rfl hpk
    have hb3:=below_three w (.cells #[.int .i64 t.k,.int .i64 t.i,.int .i64 t.j,.int .i64 t.n,.slice a t.kids.length cap] 38) (.cells #[.int .i64 0,.int .i64 0,.int .i64 0,.int .i64 0,.slice none 0 0] 38) (.cells #[.int .i64 0,.int .i64 1,.int .i64 2] 3)
    obtain⟨q0,q1,q2,-⟩:=heap_three w (.cells #[.int .i64 t.k,.int .i64 t.i,.int .i64 t.j,.int .i64 t.n,.slice a t.kids.length cap] 38) (.cells #[.int .i64 0,.int .i64 0,.int .i64 0,.int .i64 0,.slice none 0 0] 38) (.cells #[.int .i64 0,.int .i64 1,.int .i64 2] 3)
    have hti:=liesI_new (l:=[(0:Int),(1:Int),(2:Int)]) q2 (by decide)
    have CALL:=Lib.hid (plain_of t IH.out HRK.out 20 [0,1,2] hpk (by decide) _ _ _ (HL.out.keep hb3) hti)
    have HRES:=Lib.hid hres
    clear hti hpk hres q2 q0
    have e3:(t.k==3)=false:=by rw [hkc];decide
    have e4:(t.k==4)=false:=by rw [hkc];decide
    have e5:(t.k==5)=false:=by rw [hkc];decide
    have e6:(t.k==6)=false:=by rw [hkc];decide
    have e7:(t.k==7)=false:=by rw [hkc];decide
    have e8:(t.k==8)=false:=by rw [hkc];decide
    have e9:(t.k==9)=false:=by rw [hkc];decide
    have e10:(t.k==10)=true:=by rw [hkc];decide
    clear hkc
    go_enter Try.func81,Try.ntmps81
    go_wp2_with fail
    refine CALL.out.mono ?_
    rintro e wn ⟨s2,rfl,hl2,hbn⟩
    obtain⟨a2,cap2,rfl,-,-⟩:=hl2.out
    have hbw:=hb3.trans (hbn.mono hb3.size)
    have q1n:=hbn.block (w.heap.size+1) (by simp)
    rw [q1] at q1n
    obtain⟨z0,z1,z2,z3,z4⟩:=five_cells q1n
    obtain⟨f0,f1,f2,f3,f4⟩:=five_free q1n
    have HL2:=Lib.hid hl2
    clear hbn hl2 q1
    go_wp2
    (try simp only [Exit.inBlock,Exit.then])
    refine bodyPost_ret (results_cell_row rfl _ _ (w.heap.size+1) _ _ _ du rfl (five_set q1n) hu1 (by cases du<;>first | rfl | exact hu2) size_term) rfl ?_
    rw [HRES.out]
    exact⟨_,rfl,liesP_fives HL2.out (by simp<;>omega) (by simp<;>omega) _ _ _ _ _,below_five hbw (by omega) _ _ _ _ _⟩
   ·have hpk:∀ p ∈ ([0,1]:List Nat),p<t.kids.length:=by
     have hlen:=node_length (t.right_node HR0.out)
     rw [hkc] at hlen
     have h9:t.kids.length=2:=by simp [kidsN] at hlen;omega
     intro p hp
     simp at hp
     omega
    have hres:=bare_pick t 11 [0,1] hkc rfl rfl hpk
    have hb3:=below_three w (.cells #[.int .i64 t.k,.int .i64 t.i,.int .i64 t.j,.int .i64 t.n,.slice a t.kids.length cap] 38) (.cells #[.int .i64 0,.int .i64 0,.int .i64 0,.int .i64 0,.slice none 0 0] 38) (.cells #[.int .i64 0,.int .i64 1] 3)
    obtain⟨q0,q1,q2,-⟩:=heap_three w (.cells #[.int .i64 t.k,.int .i64 t.i,.int .i64 t.j,.int .i64 t.n,.slice a t.kids.length cap] 38) (.cells #[.int .i64 0,.int .i64 0,.int .i64 0,.int .i64 0,.slice none 0 0] 38) (.cells #[.int .i64 0,.int .i64 1] 3)
    have hti:=liesI_new (l:=[(0:Int),(1:Int)]) q2 (by decide)
    have CALL:=Lib.hid (plain_of t IH.out HRK.out 21 [0,1] hpk (by decide) _ _ _ (HL.out.keep hb3) hti)
    have HRES:=Lib.hid hres
    clear hti hpk hres q2 q0
    have e3:(t.k==3)=false:=by rw [hkc];decide
    have e4:(t.k==4)=false:=by rw [hkc];decide
    have e5:(t.k==5)=false:=by rw [hkc];decide
    have e6:(t.k==6)=false:=by rw [hkc];decide
    have e7:(t.k==7)=false:=by rw [hkc];decide
    have e8:(t.k==8)=false:=by rw [hkc];decide
    have e9:(t.k==9)=false:=by rw [hkc];decide
    have e10:(t.k==10)=false:=by rw [hkc];decide
    have e11:(t.k==11)=true:=by rw [hkc];decide
    clear hkc
    go_enter Try.func81,Try.ntmps81
    go_wp2_with fail
    refine CALL.out.mono ?_
    rintro e wn ⟨s2,rfl,hl2,hbn⟩
    obtain⟨a2,cap2,rfl,-,-⟩:=hl2.out
    have hbw:=hb3.trans (hbn.mono hb3.size)
    have q1n:=hbn.block (w.heap.size+1) (by simp)
    rw [q1] at q1n
    obtain⟨z0,z1,z2,z3,z4⟩:=five_cells q1n
    obtain⟨f0,f1,f2,f3,f4⟩:=five_free q1n
    have HL2:=Lib.hid hl2
    clear hbn hl2 q1
    go_wp2
    (try simp only [Exit.inBlock,Exit.then])
    refine bodyPost_ret (results_cell_row rfl _ _ (w.heap.size+1) _ _ _ du rfl (five_set q1n) hu1 (by cases du<;>first | rfl | exact hu2) size_term) rfl ?_
    rw [HRES.out]
    exact⟨_,rfl,liesP_fives HL2.out (by simp<;>omega) (by simp<;>omega) _ _ _ _ _,below_five hbw (by omega) _ _ _ _ _⟩
   ·have hpk:∀ p ∈ ([0,1,2,3]:List Nat),p<t.kids.length:=by
     have hlen:=node_length (t.right_node HR0.out)
     rw [hkc] at hlen
     have h9:t.kids.length=4:=by simp [kidsN] at hlen;omega
     intro p hp
     simp at hp
     omega
    have hres:=bare_pick t 12 [0,1,2,3] hkc rfl rfl hpk
    have hb3:=below_three w (.cells #[.int .i64 t.k,.int .i64 t.i,.int .i64 t.j,.int .i64 t.n,.slice a t.kids.length cap] 38) (.cells #[.int .i64 0,.int .i64 0,.int .i64 0,.int .i64 0,.slice none 0 0] 38) (.cells #[.int .i64 0,.int .i64 1,.int .i64 2,.int .i64 3] 3)
    obtain⟨q0,q1,q2,-⟩:=heap_three w (.cells #[.int .i64 t.k,.int .i64 t.i,.int .i64 t.j,.int .i64 t.n,.slice a t.kids.length cap] 38) (.cells #[.int .i64 0,.int .i64 0,.int .i64 0,.int .i64 0,.slice none 0 0] 38) (.cells #[.int .i64 0,.int .i64 1,.int .i64 2,.int .i64 3] 3)
    have hti:=liesI_new (l:=[(0:Int),(1:Int),(2:Int),(3:Int)]) q2 (by decide)
    have CALL:=Lib.hid (plain_of t IH.out HRK.out 23 [0,1,2,3] hpk (by decide) _ _ _ (HL.out.keep hb3) hti)
    have HRES:=Lib.hid hres
    clear hti hpk hres q2
    have e3:(t.k==3)=false:=by rw [hkc];decide
    have e4:(t.k==4)=false:=by rw [hkc];decide
    have e5:(t.k==5)=false:=by rw [hkc];decide
    have e6:(t.k==6)=false:=by rw [hkc];decide
    have e7:(t.k==7)=false:=by rw [hkc];decide
    have e8:(t.k==8)=false:=by rw [hkc];decide
    have e9:(t.k==9)=false:=by rw [hkc];decide
    have e10:(t.k==10)=false:=by rw [hkc];decide
    have e11:(t.k==11)=false:=by rw [hkc];decide
    have e12:(t.k==12)=true:=by rw [hkc];decide
    clear hkc
    go_enter Try.func81,Try.ntmps81
    go_wp2_with fail
    refine CALL.out.mono ?_
    rintro e wn ⟨s2,rfl,hl2,hbn⟩
    obtain⟨a2,cap2,rfl,-,-⟩:=hl2.out
    have hbw:=hb3.trans (hbn.mono hb3.size)
    have q1n:=hbn.block (w.heap.size+1) (by simp)
    rw [q1] at q1n
    obtain⟨z0,z1,z2,z3,z4⟩:=five_cells q1n
    obtain⟨f0,f1,f2,f3,f4⟩:=five_free q1n
    have HL2:=Lib.hid hl2
    have q0n:=hbn.block w.heap.size (by simp;omega)
    rw [q0] at q0n
    obtain⟨d0,d1,d2,d3,d4⟩:=five_cells q0n
    have hsn:w.heap.size+1<wn.heap.size:=by have:=(Array.getElem?_eq_some_iff.1 q1n).1;exact this
    have hsn0:w.heap.size<wn.heap.size:=by omega
    clear hbn hl2 q1
    go_wp2_with fail
    go_region
    all_goals
     go_wp2
     refine bodyPost_ret (results_cell_row rfl _ _ (w.heap.size+1) _ _ _ du rfl (five_alloc q1n _ _ _ _ _ _) hu1 (by cases du<;>first | rfl | exact hu2) size_term) rfl ?_
     rw [HRES.out]
     exact⟨_,rfl,(liesP_fives_alloc HL2.out (by simp<;>omega) (by simp<;>omega) _ _ _ _ _ _).later (Below.refl _ _).drew,(below_five_alloc hbw (by omega) (by omega) _ _ _ _ _ _).drew⟩
  ·have hres:t.bare=.mk t.k t.i t.j t.n (t.kids.map Tm.bare):=by rw [Tm.bare_eq,bareNode,if_neg hmk]
   have HRES:=Lib.hid hres
   have e3:(t.k==3)=false:=by simp;omega
   have e4:(t.k==4)=false:=by simp;omega
   have e5:(t.k==5)=false:=by simp;omega
   have e6:(t.k==6)=false:=by simp;omega
   have e7:(t.k==7)=false:=by simp;omega
   have e8:(t.k==8)=false:=by simp;omega
   have e9:(t.k==9)=false:=by simp;omega
   have e10:(t.k==10)=false:=by simp;omega
   have e11:(t.k==11)=false:=by simp;omega
   have e12:(t.k==12)=false:=by simp;omega
   have hd0:=desk_start w t t (.slice a t.kids.length cap) (.slice none 0 0)
   obtain⟨i0,hi,hz0,hz1,hz2⟩:=info_parts info_term
   have HI:=Lib.hid (And.intro hi (And.intro hz0 (And.intro hz1 hz2)))
   clear hi hz0 hz1 hz2 hres hmk hkind
   go_enter Try.func81,Try.ntmps81
   go_wp2_with fail
   go_loopw [76] (fun i wr=>∃ (q:Nat) (ps:List (Tm × Value)) (vv:Value),q≤t.kids.length∧i=.int .i64 q∧Hid (ps.map (·.1)=(t.kids.map Tm.bare).take q)∧Made (w.heap.size+3) wr vv ps∧Desk w t t (.slice a t.kids.length cap) vv wr) (fun i _=>t.kids.length-(intOf i).toNat)
   case atStart=>exact⟨0,[],_,Nat.zero_le _,rfl,by simp [Hid],made_nil _ _,hd0⟩
   case round =>
    clear hd0
    obtain⟨q,ps,vv,hq0,rfl,hps,hmade,hdk⟩:=hrel
    have HPS:=Lib.hid hps.out
    clear hps
    obtain⟨q0,q1,q2⟩:=desk_blocks hdk
    obtain⟨d0,d1,d2,d3,d4⟩:=five_cells q0
    obtain⟨y0,y1,y2,y3,y4⟩:=five_cells q2
    obtain⟨z0,z1,z2,z3,z4⟩:=five_cells q1
    obtain⟨f0,f1,f2,f3,f4⟩:=five_free q1
    have hsz:=desk_size hdk
    have hsw:w.heap.size+1+1<wr.heap.size:=by omega
    clear q0 q2
    by_cases hlt:q<t.kids.length
    ·obtain⟨b',o,rfl,hx⟩:=HN.out q hlt
     have hq:=HK.out q hlt
     obtain⟨a',cap',S',hS,-⟩:=hq.out
     rw [hS] at hx hq
     obtain⟨c0,c1,c2,c3,c4⟩:=hx.below (desk_under hdk) hx.lt
     have HM:=Lib.hid (List.getElem_mem hlt)
     have hrk:=HRK.out _ HM.out
     have hfx:=right_fine (plain_right (bare_plain _ hrk))
     obtain⟨x,hxb⟩:∃ x,(t.kids[q]).bare=x:=⟨_,rfl⟩
     have hb9:Below wr.heap.size wr (wr.alloc (.cells #[.int .i64 t.kids[q].k,.int .i64 t.kids[q].i,.int .i64 t.kids[q].j,.int .i64 t.kids[q].n,.slice a' t.kids[q].kids.length cap'] 38)).drew:=((Below.refl _ _).alloc (Nat.le_refl _) _).drew
     have CALL:=IH.out _ HM.out _ _ (hq.keep ((desk_under hdk).trans (hb9.mono (by omega)))) hrk
     rw [hxb] at CALL hfx
     have hpl:ps.length=q:=by have:=congrArg List.length HPS.out;simp at this;omega
     have hnext:(t.kids.map Tm.bare).take (q+1)=(t.kids.map Tm.bare).take q++[x]:=by
      rw [List.take_succ_eq_append_getElem (by simpa using hlt),List.getElem_map,hxb]
     have HPL:=Lib.hid hpl
     have HMD:=Lib.hid hmade
     have HFX:=Lib.hid hfx
     have HNX:=Lib.hid hnext
     have HB9:=Lib.hid hb9
     have HCALL:=Lib.hid CALL
     have hda:=desk_later hdk ((Below.refl _ _).alloc (Nat.le_refl _) (.cells #[.int .i64 t.kids[q].k,.int .i64 t.kids[q].i,.int .i64 t.kids[q].j,.int .i64 t.kids[q].n,.slice a' t.kids[q].kids.length cap'] 38))
     obtain⟨-,-,r2⟩:=desk_blocks hda
     obtain⟨-,-,-,-,r4⟩:=five_cells r2
     clear hS hq hx hfx hxb hrk hpl hnext hmade CALL hb9 hda r2
     go_wp2_with fail
     go_region_law (first | (refine step_append_lies _ rfl _ _ 36 rfl (w.heap.size+3) 38 i0 _ 5 56 (by kernel_rfl) HI.out.1 HI.out.2.1 HI.out.2.2.1 HI.out.2.2.2 rfl (by decide) _ ps.length (cells5 ps) rfl (made_later (made_later HMD.out HB2.out) ((Below.refl _ _).alloc (Nat.le_refl _) _)).own ⟨wn.heap.size,0,none⟩ 1 1 (cells5 [(x,.slice a2 x.kids.length cap2)]) rfl rfl (news_new _ _ _ _) (one5 _ _) (by decide) (by have:=HPL.out;unfold maxLen;omega) (by have:=HPL.out;omega) (by have:=desk_size hd2;simp;omega) _ rfl ?_;intro g cap3 w3 hown hgrow hat _;have hpb:=push_once hdk HMD.out HFX.out HB2.out HL2.out _ hown hgrow hat;have HPB:=Lib.hid hpb.1;have hd3:=hpb.2;have HD3:=Lib.hid hd3;obtain⟨-,-,r3⟩:=desk_blocks hd3;obtain⟨-,-,-,-,r4⟩:=five_cells r3;obtain⟨-,-,-,-,s4⟩:=five_free r3;clear r3 hpb hown hgrow hat hd3) | (go_simp;go_at_call 81;((with_reducible refine Calls.mono HCALL.out ?_);rintro e wn ⟨s2,rfl,hl2,hbn⟩;obtain⟨a2,cap2,rfl,-,-⟩:=hl2.out;have hbn2:=HB9.out.trans (hbn.mono HB9.out.size);have hd2:=desk_later hdk hbn2;obtain⟨-,-,r2⟩:=desk_blocks hd2;obtain⟨-,-,-,-,r4⟩:=five_cells r2;have HL2:=Lib.hid (hl2.from (B':=wr.heap.size) (by simp<;>omega));have HB2:=Lib.hid hbn2;have hsn:w.heap.size+1+1<wn.heap.size:=(by have:=desk_size hd2;omega);clear r2 hl2 hbn hbn2)))
     all_goals
      go_wp2_with fail
      go_roundw
      case rel=>exact⟨q+1,ps++[(x,.slice a2 x.kids.length cap2)],_,hlt,by go_num,by rw [Hid,List.map_append,HPS.out,HNX.out];rfl,made_below HPB.out (by omega) _,desk_set HD3.out⟩
      case measure=>simp [intOf];omega
    ·have:q=t.kids.length:=by omega
     subst this
     have hres:ps.map (·.1)=t.kids.map Tm.bare:=by
      have:=HPS.out
      rwa [List.take_of_length_le (by simp)] at this
     have hll:=made_lies hmade
     rw [hres] at hll
     obtain⟨a2,cap2,rfl,-,-⟩:=hll.out
     simp only [List.length_map] at hll hdk y4
     have HLL:=Lib.hid hll
     clear hres hll
     go_wp2
     (try simp only [Exit.inBlock,Exit.then])
     refine bodyPost_ret (results_cell_row rfl _ _ (w.heap.size+1) _ _ _ du rfl (five_set q1) hu1 (by cases du<;>first | rfl | exact hu2) size_term) rfl ?_
     rw [HRES.out]
     exact⟨_,rfl,liesP_fives HLL.out (by omega) (by omega) _ _ _ _ _,below_five (desk_under hdk) (by omega) _ _ _ _ _⟩
end Go.Proofs.Ytgnllglbopaheaa

namespace Go.Proofs.Ytgnllglbopaheaa
open Go.RowKit
theorem boxes_two {w w':World} {t:Tm} {s:Value} (h:Boxes w t s w'):w'.heap[w.heap.size]? =some (boxOf t s)∧w'.heap[w.heap.size+1]? =some zeroObj:=by
 refine⟨?_,boxes_block h⟩
 rw [Below.block h _ (by omega),Below.heap_alloc _ _ _ (by simp),alloc_new]
end Go.Proofs.Ytgnllglbopaheaa

namespace Go.Proofs.Ytgnllglbopaheaa
open Go.RowKit
def Row (w:World) (b:Nat):Nat→List (Tm × Value)→Prop
 | _,[]=>True
 | o,(t,s)::r=>Node w b o t s∧t.fine∧Lies w t.kids s∧Row w b (o+5) r
end Go.Proofs.Ytgnllglbopaheaa

namespace Go.Proofs.Ytgnllglbopaheaa
open Go.RowKit
mutual
def sameB:Tm→Tm→Bool
 | .mk k i j n l,.mk k' i' j' n' l'=>(k==k')&&((i==i')&&((j==j')&&((n==n')&&samesB l l')))
def samesB:List Tm→List Tm→Bool
 | [],[]=>true
 | x::r,y::s=>sameB x y&&samesB r s
 | [],_::_=>false
 | _::_,[]=>false
end
theorem sameB_eq (a b:Tm):sameB a b=((a.k==b.k)&&((a.i==b.i)&&((a.j==b.j)&&((a.n==b.n)&&samesB a.kids b.kids)))):=by
 cases a;cases b;simp only [sameB];rfl
theorem samesB_length:∀ {l m:List Tm},samesB l m=true→l.length=m.length
 | [],[],_=>rfl
 | x::r,y::s,h=>by simp only [samesB,Bool.and_eq_true] at h;simp [samesB_length h.2]
 | [],_::_,h=>by simp [samesB] at h
 | _::_,[],h=>by simp [samesB] at h
theorem sameB_true (a:Tm):∀ b,sameB a b=true→a=b:=by
 induction a using Tm.ind with
 | h a ih =>
  intro b h
  rw [sameB_eq] at h
  simp only [Bool.and_eq_true,beq_iff_eq] at h
  have key:∀ (l m:List Tm),(∀ x ∈ l,∀ b,sameB x b=true→x=b)→samesB l m=true→l=m:=by
   intro l
   induction l with
   | nil=>intro m _ h;cases m with
    | nil=>rfl
    | cons y s=>simp [samesB] at h
   | cons x r ihl=>intro m hx h;cases m with
    | nil=>simp [samesB] at h
    | cons y s =>
     simp only [samesB,Bool.and_eq_true] at h
     rw [hx x List.mem_cons_self y h.1,ihl s (fun z hz=>hx z (List.mem_cons_of_mem _ hz)) h.2]
  have hk:=key a.kids b.kids ih h.2.2.2.2
  rw [←a.eta,←b.eta,h.1,h.2.1,h.2.2.1,h.2.2.2.1,hk]
theorem sameB_self (a:Tm):sameB a a=true:=by
 induction a using Tm.ind with
 | h a ih =>
  rw [sameB_eq]
  have key:∀ (l:List Tm),(∀ x ∈ l,sameB x x=true)→samesB l l=true:=by
   intro l
   induction l with
   | nil=>intro _;simp [samesB]
   | cons x r ihl=>intro hx;simp only [samesB,hx x List.mem_cons_self,Bool.true_and];exact ihl (fun z hz=>hx z (List.mem_cons_of_mem _ hz))
  simp [key a.kids ih]
theorem sameB_iff (a b:Tm):sameB a b=true↔a=b:=⟨sameB_true a b,fun h=>h▸sameB_self a⟩
theorem sames_take:∀ (l m:List Tm) (k:Nat) (h:k<l.length) (h':k<m.length),samesB (l.take (k+1)) (m.take (k+1))=(samesB (l.take k) (m.take k)&&sameB l[k] m[k])
 | x::r,y::s,0,_,_=>by simp [samesB]
 | x::r,y::s,k+1,h,h'=>by
  simp only [List.take_succ_cons,samesB,List.getElem_cons_succ]
  rw [sames_take r s k (by simpa using h) (by simpa using h'),Bool.and_assoc]
theorem sames_of:∀ (l m:List Tm) (k:Nat) (h:k<l.length) (h':k<m.length),sameB l[k] m[k]=false→samesB l m=false
 | x::r,y::s,0,_,_,hs=>by simp only [List.getElem_cons_zero] at hs;simp [samesB,hs]
 | x::r,y::s,k+1,h,h',hs=>by
  simp only [List.getElem_cons_succ] at hs
  simp [samesB,sames_of r s k (by simpa using h) (by simpa using h') hs]
theorem sames_ne {l m:List Tm} (h:l.length≠m.length):samesB l m=false:=by
 cases hs:samesB l m with
 | false=>rfl
 | true=>exact absurd (samesB_length hs) h
def Held2 (w:World) (a:Tm) (s:Value) (b:Tm) (r:Value) (w':World):Prop:=Below (w.heap.size+2) ((w.alloc (boxOf a s)).alloc (boxOf b r)) w'
theorem held2_start (w:World) (a:Tm) (s:Value) (b:Tm) (r:Value):Held2 w a s b r ((w.alloc (.cells #[.int .i64 a.k,.int .i64 a.i,.int .i64 a.j,.int .i64 a.n,s] 38)).alloc (.cells #[.int .i64 b.k,.int .i64 b.i,.int .i64 b.j,.int .i64 b.n,r] 38)):=Below.refl _ _
theorem held2_second {w w':World} {a b:Tm} {s r:Value} (h:Held2 w a s b r w'):Held (w.alloc (boxOf a s)) b r w':=by
 unfold Held2 at h;unfold Held
 rw [show(w.alloc (boxOf a s)).heap.size+1=w.heap.size+2 by simp];exact h
theorem held2_first {w w':World} {a b:Tm} {s r:Value} (h:Held2 w a s b r w'):Held w a s w':=by
 unfold Held2 at h;unfold Held
 exact((Below.refl _ _).alloc (by simp) _).trans (h.mono (by omega))
theorem held2_cells {w w':World} {a b:Tm} {s r:Value} (h:Held2 w a s b r w'):w'.cell? ⟨w.heap.size,0,none⟩=some (.int .i64 a.k)∧w'.cell? ⟨w.heap.size,1,none⟩=some (.int .i64 a.i)∧w'.cell? ⟨w.heap.size,2,none⟩=some (.int .i64 a.j) ∧
 w'.cell? ⟨w.heap.size,3,none⟩=some (.int .i64 a.n)∧w'.cell? ⟨w.heap.size,4,none⟩=some s∧w'.cell? ⟨w.heap.size+1,0,none⟩=some (.int .i64 b.k)∧w'.cell? ⟨w.heap.size+1,1,none⟩=some (.int .i64 b.i) ∧
 w'.cell? ⟨w.heap.size+1,2,none⟩=some (.int .i64 b.j)∧w'.cell? ⟨w.heap.size+1,3,none⟩=some (.int .i64 b.n)∧w'.cell? ⟨w.heap.size+1,4,none⟩=some r:=by
 obtain⟨h0,h1,h2,h3,h4⟩:=held_cells (held2_first h)
 have h':=held_cells (held2_second h)
 rw [show(w.alloc (boxOf a s)).heap.size=w.heap.size+1 by simp] at h'
 exact⟨h0,h1,h2,h3,h4,h'⟩
theorem held2_call {w w1 w2:World} {a b:Tm} {s r:Value} (h:Held2 w a s b r w1) (hb:Below w1.heap.size w1 w2):Held2 w a s b r w2 :=
 below_call h hb (by have:=h.size;simpa using this)
theorem held2_drew {w w1:World} {a b:Tm} {s r:Value} (h:Held2 w a s b r w1):Held2 w a s b r w1.drew:=Below.drew h
theorem held2_alloc {w w1:World} {a b:Tm} {s r:Value} (h:Held2 w a s b r w1) (o:Obj):Held2 w a s b r (w1.alloc o):=Below.alloc h (by have:=h.size;simpa using this) o
theorem held2_below {w w1:World} {a b:Tm} {s r:Value} (h:Held2 w a s b r w1):Below w.heap.size w w1:=held_below (held2_first h)
theorem held2_lies {w w1:World} {a b:Tm} {s r s':Value} {l:List Tm} (h:Held2 w a s b r w1) (hl:Lies w l s'):Lies w1 l s':=hl.keep (held2_below h)
end Go.Proofs.Ytgnllglbopaheaa

namespace Go.Proofs.Ytgnllglbopaheaa
open Go.RowKit
set_option maxHeartbeats 1000000 in
theorem terms_of (l:List Tm) (ih:∀ x ∈ l,∀ (y:Tm) (w:World) (s r:Value),Lies w x.kids s→Lies w y.kids r→Calls Try.prog 9 #[tv x s,tv y r] w fun e w'=>e=.returned (.bool (sameB x y))∧Below w.heap.size w w')
 (m:List Tm) (w:World) (s r:Value) (hl:Lies w l s) (hm:Lies w m r):Calls Try.prog 17 #[s,r] w fun e w'=>e=.returned (.bool (samesB l m))∧Below w.heap.size w w':=by
 obtain⟨a,cap,S,rfl,hc,hmx,-,hn,hk⟩:=hl.out
 obtain⟨a2,cap2,S2,rfl,hc2,hmx2,-,hn2,hk2⟩:=hm.out
 unfold maxLen at hmx hmx2
 have IH:=Lib.hid ih
 have HN:=Lib.hid hn
 have HK:=Lib.hid hk
 have HN2:=Lib.hid hn2
 have HK2:=Lib.hid hk2
 clear ih hn hk hn2 hk2 hl hm
 by_cases hlen:l.length=m.length
 rotate_left
 ·have h1:((l.length:Int)==(m.length:Int))=false:=by simp;omega
  have h2:((l.length:Int) != (m.length:Int))=true:=by simp;omega
  have HS:=Lib.hid (sames_ne hlen)
  clear hlen
  go_enter Try.func17,Try.ntmps17
  go_wp2
  go_ret
  exact⟨ret_bool HS.out.symm,Below.refl _ _⟩
 have h1:((l.length:Int)==(m.length:Int))=true:=by simp;omega
 have h2:((l.length:Int) != (m.length:Int))=false:=by simp;omega
 have HL:=Lib.hid hlen
 clear hlen
 go_enter Try.func17,Try.ntmps17
 go_wp2
 go_loopw [5] (fun iv wr=>∃ k:Nat,k≤l.length∧iv=.int .i64 k∧Hid (samesB (l.take k) (m.take k)=true)∧Below w.heap.size w wr) (fun iv _=>l.length-(intOf iv).toNat)
 case atStart=>exact⟨0,Nat.zero_le _,rfl,by simp [Hid,samesB],Below.refl _ _⟩
 case round =>
  obtain⟨k,hk,rfl,hgood,hb⟩:=hrel
  by_cases hlt:k<l.length
  ·have hlt2:k<m.length:=by have:=HL.out;omega
   obtain⟨b,o,rfl,hx⟩:=HN.out k hlt
   obtain⟨b2,o2,rfl,hx2⟩:=HN2.out k hlt2
   obtain⟨c0,c1,c2,c3,c4⟩:=hx.below hb hx.lt
   obtain⟨e0,e1,e2,e3,e4⟩:=hx2.below hb hx2.lt
   have hq:=(HK.out k hlt).keep hb
   have hq2:=(HK2.out k hlt2).keep hb
   obtain⟨a',cap',S',hS,-⟩:=hq.out
   obtain⟨a2',cap2',S2',hS2,-⟩:=hq2.out
   rw [hS] at c4 hq
   rw [hS2] at e4 hq2
   have HQ:=Lib.hid hq
   have HQ2:=Lib.hid hq2
   have HM:=Lib.hid (List.getElem_mem hlt)
   have HT:=Lib.hid (sames_take l m k hlt hlt2)
   have HO:=Lib.hid (sames_of l m k hlt hlt2)
   clear hS hS2 hq hq2
   go_wp2
   go_region_with (go_at_call 9;refine(IH.out _ HM.out _ _ _ _ (HQ.out.keep (Below.refl _ _).drew) (HQ2.out.keep (Below.refl _ _).drew)).mono ?_;rintro e wn ⟨rfl,hb'⟩;have HB3:=below_call hb.drew hb' hb.size;clear hb')
   all_goals
    cases hs:sameB l[k] m[k]
    ·go_wp2
     go_ret
     exact⟨ret_bool (HO.out hs).symm,HB3⟩
    ·go_wp2
     go_roundw
     case rel=>exact⟨k+1,by omega,by go_num,by show _=true;rw [HT.out,hgood.out,hs];rfl,HB3⟩
     case measure=>simp [intOf];omega
  ·have:k=l.length:=by omega
   subst this
   go_wp2
   go_ret
   exact⟨ret_bool (by have hg:=hgood.out;rw [List.take_length,HL.out,List.take_length] at hg;exact hg.symm),hb⟩
set_option maxHeartbeats 1000000 in
theorem keepsame_any (t:Tm):∀ (u:Tm) (w:World) (s r:Value),Lies w t.kids s→Lies w u.kids r→Calls Try.prog 9 #[tv t s,tv u r] w fun e w'=>e=.returned (.bool (sameB t u))∧Below w.heap.size w w':=by
 induction t using Tm.ind with
 | h t ih =>
  intro u w s r hl hm
  obtain⟨a,cap,S,rfl,-⟩:=hl.out
  obtain⟨a2,cap2,S2,rfl,-⟩:=hm.out
  have HTM:=Lib.hid (terms_of t.kids ih)
  have HE:=Lib.hid (sameB_eq t u)
  have HL:=Lib.hid hl
  have HM:=Lib.hid hm
  have H0:=held2_start w t (.slice a t.kids.length cap) u (.slice a2 u.kids.length cap2)
  clear hl hm ih
  unfold tv
  cases ek:(t.k==u.k)
  ·go_enter Try.func9,Try.ntmps9
   go_wp2
   go_ret
   exact⟨ret_bool (by rw [HE.out];simp only [ek,Bool.false_and]),held2_below H0⟩
  cases ei:(t.i==u.i)
  ·go_enter Try.func9,Try.ntmps9
   go_wp2
   go_ret
   exact⟨ret_bool (by rw [HE.out];simp only [ek,ei,Bool.false_and,Bool.true_and]),held2_below H0⟩
  cases ej:(t.j==u.j)
  ·go_enter Try.func9,Try.ntmps9
   go_wp2
   go_ret
   exact⟨ret_bool (by rw [HE.out];simp only [ek,ei,ej,Bool.false_and,Bool.true_and]),held2_below H0⟩
  cases en:(t.n==u.n)
  ·go_enter Try.func9,Try.ntmps9
   go_wp2
   go_ret
   exact⟨ret_bool (by rw [HE.out];simp only [ek,ei,ej,en,Bool.false_and,Bool.true_and]),held2_below H0⟩
  go_enter Try.func9,Try.ntmps9
  go_wp2_with fail
  refine(HTM.out u.kids _ _ _ (held2_lies H0 HL.out) (held2_lies H0 HM.out)).mono ?_
  rintro e wn ⟨rfl,hb'⟩
  have H1:=held2_call H0 hb'
  clear hb'
  go_wp2
  go_ret
  exact⟨ret_bool (by rw [HE.out];simp only [ek,ei,ej,en,Bool.true_and]),held2_below H1⟩
end Go.Proofs.Ytgnllglbopaheaa

namespace Go.Proofs.Ytgnllglbopaheaa
open Go.RowKit
def Kept (w w':World):Prop:=Below w.heap.size w w'
theorem kept_start (w:World):Kept w w:=Below.refl _ _
theorem kept_drew {w w1:World} (h:Kept w w1):Kept w w1.drew:=Below.drew h
theorem kept_call {w w1 w2:World} (h:Kept w w1) (hb:Below w1.heap.size w1 w2):Kept w w2:=below_call h hb (Below.size h)
theorem kept_alloc {w w1:World} (h:Kept w w1) (o:Obj):Kept w (w1.alloc o):=Below.alloc h (Below.size h) o
theorem kept_lies {w w1:World} (h:Kept w w1) {l:List Tm} {s:Value} (hl:Lies w l s):Lies w1 l s:=hl.keep h
theorem kept_below {w w1:World} (h:Kept w w1):Below w.heap.size w w1:=h
theorem keep_block {B n:Nat} {w w':World} {o:Obj} (hb:Below B w w') (hn:n<B) (h:w.heap[n]? =some o):w'.heap[n]? =some o:=by rw [hb.block n hn];exact h
theorem block_lt {w:World} {n:Nat} {o:Obj} (h:w.heap[n]? =some o):n<w.heap.size:=(Array.getElem?_eq_some_iff.1 h).1
theorem kept_boxes1 {w w':World} {b0:Nat} {v00 v01 v02 v03 v04:Value} (h:Kept w w') (H:w.cell? ⟨b0,0,none⟩=some v00∧w.cell? ⟨b0,1,none⟩=some v01∧w.cell? ⟨b0,2,none⟩=some v02∧w.cell? ⟨b0,3,none⟩=some v03∧w.cell? ⟨b0,4,none⟩=some v04):Kept w w'∧w'.cell? ⟨b0,0,none⟩=some v00∧w'.cell? ⟨b0,1,none⟩=some v01∧w'.cell? ⟨b0,2,none⟩=some v02∧w'.cell? ⟨b0,3,none⟩=some v03∧w'.cell? ⟨b0,4,none⟩=some v04:=by
 obtain⟨c00,c01,c02,c03,c04⟩:=H
 exact⟨h,cell_lat h c00,cell_lat h c01,cell_lat h c02,cell_lat h c03,cell_lat h c04⟩
end Go.Proofs.Ytgnllglbopaheaa

namespace Go.Proofs.Ytgnllglbopaheaa
theorem marked_kind {t:Tm} (h:t.markedB=true):1≤t.k∧t.k≤12:=by rw [Tm.markedB_eq] at h;simp at h;omega
end Go.Proofs.Ytgnllglbopaheaa

namespace Go.Proofs.Ytgnllglbopaheaa
open Go.RowKit
structure Pair (w:World) (x:Tm) (s:Value) (w':World):Prop where
 under:Below w.heap.size w w'
 box:w'.heap[w.heap.size]? =some (boxOf x s)
 res:w'.heap[w.heap.size+1]? =some zeroObj
end Go.Proofs.Ytgnllglbopaheaa

namespace Go.Proofs.Ytgnllglbopaheaa
open Go.RowKit
structure Two (w:World) (x:Tm) (s:Value) (y:Tm) (r:Value) (w':World):Prop where
 under:Below w.heap.size w w'
 one:w'.heap[w.heap.size]? =some (boxOf x s)
 two:w'.heap[w.heap.size+1]? =some (boxOf y r)
end Go.Proofs.Ytgnllglbopaheaa

namespace Go.Proofs.Ytgnllglbopaheaa
open Go.RowKit
def Tm.stripB (t:Tm):Tm:=if t.rightB=true then t.bare else .zero
set_option maxHeartbeats 2000000 in
theorem strip_any (t:Tm) (w:World) (s:Value) (hl:Lies w t.kids s):Calls Try.prog 69 #[tv t s] w (Makes t.stripB w):=by
 obtain⟨a,cap,S,rfl,hc,hm,-,-,-⟩:=hl.out
 have HL:=Lib.hid hl
 obtain⟨du,hu1,hu2⟩:=under_term
 have H0:=boxes_start w t (.slice a t.kids.length cap)
 clear hl
 unfold tv
 cases hr:t.rightB with
 | false =>
  have hres:=Lib.hid (show t.stripB=Tm.zero by unfold Tm.stripB;rw [if_neg (by rw [hr];decide)])
  go_enter Try.func69,Try.ntmps69
  go_wp2_with fail
  refine(right_any t _ _ (boxes_lies H0 HL.out)).mono ?_
  rw [hr]
  rintro e w2 ⟨rfl,hb2⟩
  have H2:=boxes_call H0 hb2
  obtain⟨-,q1⟩:=boxes_two H2
  obtain⟨d0,d1,d2,d3,d4⟩:=held_cells (boxes_held H2)
  obtain⟨z0,z1,z2,z3,z4⟩:=five_cells q1
  obtain⟨f0,f1,f2,f3,f4⟩:=five_free q1
  clear hb2 H0
  go_wp2
  refine bodyPost_ret (results_cell_row rfl _ _ (w.heap.size+1) _ _ _ du rfl (five_set q1) hu1 (by cases du<;>first | rfl | exact hu2) size_term) rfl ?_
  rw [hres.out]
  exact⟨.slice none 0 0,rfl,liesP_nil _ _,below_five (boxes_under H2) (by omega) _ _ _ _ _⟩
 | true =>
  have hres:=Lib.hid (show t.stripB=t.bare by unfold Tm.stripB;rw [if_pos hr])
  go_enter Try.func69,Try.ntmps69
  go_wp2_with fail
  refine(right_any t _ _ (boxes_lies H0 HL.out)).mono ?_
  rw [hr]
  rintro e w2 ⟨rfl,hb2⟩
  have H2:=boxes_call H0 hb2
  obtain⟨-,q1⟩:=boxes_two H2
  obtain⟨d0,d1,d2,d3,d4⟩:=held_cells (boxes_held H2)
  obtain⟨z0,z1,z2,z3,z4⟩:=five_cells q1
  obtain⟨f0,f1,f2,f3,f4⟩:=five_free q1
  clear hb2 H0
  go_wp2_with fail
  refine(sbare_any t w2 _ (boxes_lies H2 HL.out) hr).mono ?_
  rintro e w3 ⟨s3,rfl,hl3,hb3⟩
  obtain⟨a3,cap3,rfl,-,-⟩:=hl3.out
  have hs2:w.heap.size+2≤w2.heap.size:=by have:=Below.size H2;simpa using this
  have H3:=boxes_call H2 hb3
  clear q1 z0 z1 z2 z3 z4 f0 f1 f2 f3 f4
  obtain⟨-,q1⟩:=boxes_two H3
  obtain⟨z0,z1,z2,z3,z4⟩:=five_cells q1
  obtain⟨f0,f1,f2,f3,f4⟩:=five_free q1
  have HL3:=Lib.hid hl3
  clear hb3 hl3 d0 d1 d2 d3 d4
  go_wp2
  refine bodyPost_ret (results_cell_row rfl _ _ (w.heap.size+1) _ _ _ du rfl (five_set q1) hu1 (by cases du<;>first | rfl | exact hu2) size_term) rfl ?_
  rw [hres.out]
  exact⟨_,rfl,liesP_fives HL3.out (by omega) (by omega) _ _ _ _ _,below_five (boxes_under H3) (by omega) _ _ _ _ _⟩
end Go.Proofs.Ytgnllglbopaheaa
namespace Go.Proofs.Ytgnllglbopaheaa
theorem stripB_good {t:Tm} (hr:t.rightB=true):t.stripB=t.bare:=by unfold Tm.stripB;rw [if_pos hr]
theorem deeps_bound {n:Nat}:∀ {l:List Tm},(∀ x ∈ l,x.deep≤n)→deeps l≤n
 | [],_=>by simp [deeps]
 | a::r,h=>by
  have h1:=h a (List.mem_cons_self ..)
  have h2:=deeps_bound (l:=r) (fun x hx=>h x (List.mem_cons_of_mem _ hx))
  simp only [deeps];omega
theorem deep_mem {l:List Tm} {x:Tm} (h:x ∈ l):x.deep≤deeps l:=by
 obtain⟨q,hq,rfl⟩:=List.getElem_of_mem h
 exact deeps_get l q hq
theorem bare_deep (t:Tm):t.bare.deep≤t.deep:=by
 induction t using Tm.ind with
 | h t ih =>
  have hall:∀ x ∈ t.kids.map Tm.bare,x.deep≤deeps t.kids:=fun x hx=>by
   obtain⟨y,hy,rfl⟩:=List.mem_map.1 hx
   exact Nat.le_trans (ih y hy) (deep_mem hy)
  rw [Tm.bare_eq,Tm.deep_eq,t.deep_eq]
  unfold bareNode
  split
  ·refine Nat.succ_le_succ (deeps_bound (fun x hx=>?_))
   have hx2:x ∈ pickT (barePick t.k) (t.kids.map Tm.bare):=hx
   obtain⟨i,-,hi⟩:=List.mem_filterMap.1 hx2
   exact hall x (List.mem_of_getElem? hi)
  ·exact Nat.succ_le_succ (deeps_bound hall)
end Go.Proofs.Ytgnllglbopaheaa
namespace Go.Proofs.Ytgnllglbopaheaa
open Go.RowKit
end Go.Proofs.Ytgnllglbopaheaa
namespace Go.Proofs.Ytgnllglbopaheaa
open Go.RowKit
end Go.Proofs.Ytgnllglbopaheaa
namespace Go.Proofs.Ytgnllglbopaheaa
open Go.RowKit
end Go.Proofs.Ytgnllglbopaheaa
namespace Go.Proofs.Ytgnllglbopaheaa
theorem counts_zero {l:List Tm}:(∀ x ∈ l,x.count=0)→counts l=0:=by
 induction l with
 | nil=>intro _;simp [counts]
 | cons a r ih =>
  intro h
  have h1:=h a (List.mem_cons_self ..)
  have h2:=ih (fun x hx=>h x (List.mem_cons_of_mem _ hx))
  simp only [counts];omega
theorem counts_mem {l:List Tm}:counts l=0→∀ x ∈ l,x.count=0:=by
 induction l with
 | nil=>intro _ x hx;cases hx
 | cons a r ih =>
  intro h x hx
  simp only [counts] at h
  rcases List.mem_cons.1 hx with rfl | hx
  ·omega
  ·exact ih (by omega) x hx
end Go.Proofs.Ytgnllglbopaheaa
namespace Go.Proofs.Ytgnllglbopaheaa
open Go.RowKit
end Go.Proofs.Ytgnllglbopaheaa

namespace Go.Proofs.Ytgnllglbopaheaa
abbrev varT (v:Int):Tm:=.mk 2 v 0 0 []
def gPut (u:Tm) (v b:Int) (pl:Bool):Option Tm:=if v<b then some (varT v) else if v=b then(if pl=true then u.bare else u).each (liftF b 0) 0 else some (varT (v-1))
def mayB (t u:Tm):Bool:=u.rightB&&(t.k==1||(t.k==2||(t.plainB||u.markedB)))
def fitsB (t u:Tm):Bool:=if t.k≤2∨12<t.k then u.rightB else u.markedB
def Tm.putB (t u:Tm):Tm:=if t.rightB=true∧mayB t u=true then(t.putG (gPut u) 0 (decide (12<t.k))).getD .zero else .zero
theorem right_of_kind {t:Tm} (h:t.rightB=true) (hk:12<t.k):t.plainB=true:=by
 rcases right_cases h with hp | ⟨-,-,h12⟩
 ·exact hp
 ·omega
theorem fits_may {t:Tm} (u:Tm) (h:t.rightB=true):fitsB t u=mayB t u:=by
 have hk:=Tm.node_kind (t.right_node h)
 unfold fitsB mayB
 by_cases h1:t.k≤2
 ·rw [if_pos (Or.inl h1)]
  have:t.k=1∨t.k=2:=by omega
  rcases this with e | e<;>simp [e]
 ·by_cases h2:12<t.k
  ·rw [if_pos (Or.inr h2),right_of_kind h h2];simp
  ·rw [if_neg (by omega)]
   have hp:t.plainB=false:=by
    cases hp:t.plainB with
    | false=>rfl
    | true=>have:=plain_kind hp;omega
   have e1:(t.k==1)=false:=by simp;omega
   have e2:(t.k==2)=false:=by simp;omega
   rw [hp,e1,e2]
   cases hm:u.markedB with
   | false=>simp
   | true=>rw [marked_right hm];rfl
theorem optK_isSome {g:Nat→Tm→Option Tm}:∀ (l:List Tm) (p:Nat),(∀ k (h:k<l.length),(g (p+k) l[k]).isSome=true)→(optK g p l).isSome=true
 | [],p,_=>rfl
 | t::r,p,h=>by
  have h0:=h 0 (by simp)
  simp only [List.getElem_cons_zero,Nat.add_zero] at h0
  have h1:=optK_isSome (g:=g) r (p+1) (fun k hk=>by have:=h (k+1) (by simpa using hk);simpa [Nat.add_assoc,Nat.add_comm 1 k] using this)
  obtain⟨x,hx⟩:=Option.isSome_iff_exists.1 h0
  obtain⟨y,hy⟩:=Option.isSome_iff_exists.1 h1
  simp [optK,hx,hy]
theorem putG_some (g:Int→Int→Bool→Option Tm) (t:Tm):∀ b pl,t.rightB=true→0≤b→(∀ (v c:Int) (p:Bool),0≤v→v≤2147483647→b≤c→c≤b+2 * (t.deep:Int)→v<t.freeN+c-b→(g v c p).isSome=true)→(t.putG g b pl).isSome=true:=by
 induction t using Tm.ind with
 | h t ih =>
  intro b pl hr hb hg
  have hde:=t.deep_eq
  by_cases hk:t.k=2
  ·rw [Tm.putG_var _ _ _ _ hk]
   have hv:=t.right_var hr hk
   have hf:t.freeN=t.i+1:=by rw [t.freeN_eq,if_pos hk]
   exact hg _ _ _ hv.1 hv.2 (Int.le_refl _) (by omega) (by omega)
  ·rw [Tm.putG_node _ _ _ _ hk,Option.isSome_map]
   have hf:t.freeN=frees t.k 0 t.kids:=by rw [t.freeN_eq,if_neg hk]
   refine optK_isSome _ _ (fun q hq=>?_)
   have hbd:=binds_range t.k q
   have hfq:=frees_get t.k t.kids 0 q hq
   have hdq:=deeps_get t.kids q hq
   rw [Nat.zero_add] at hfq ⊢
   exact ih _ (List.getElem_mem hq) _ _ (t.right_kids hr _ (List.getElem_mem hq)) (by omega) (fun v c pl h1 h2 h3 h4 h5=>hg v c pl h1 h2 (by omega) (by omega) (by omega))
theorem var_right {v:Int} (h0:0≤v) (h1:v≤2147483647):(varT v).markedB=true∧(varT v).plainB=true∧(varT v).rightB=true:=by
 have hnode:(varT v).nodeB=true:=by simp [Tm.nodeB,mk_k,mk_i,mk_j,mk_n,mk_kids,numbersN,kidsN,h0,h1]
 have a1:=var_sorts hnode rfl
 exact⟨a1.1,a1.2,marked_right a1.1⟩
theorem bareIf_right {u:Tm} (hu:u.rightB=true) (pl:Bool):(if pl=true then u.bare else u).rightB=true:=by
 cases pl with
 | true=>exact plain_right (bare_plain u hu)
 | false=>exact hu
theorem bareIf_free {u:Tm} (hu:u.rightB=true) (pl:Bool):(if pl=true then u.bare else u).freeN≤u.freeN:=by
 cases pl with
 | true=>exact bare_free u hu
 | false=>exact Int.le_refl _
theorem bareIf_deep (u:Tm) (pl:Bool):(if pl=true then u.bare else u).deep≤u.deep:=by
 cases pl with
 | true=>exact bare_deep u
 | false=>exact Nat.le_refl _
theorem lift_zero {t:Tm} (hr:t.rightB=true):t.each (liftF 0 0) 0=some t:=by
 refine each_stays _ t 0 hr (Int.le_refl _) (fun v b h1 h2 _ _=>?_)
 unfold liftF
 split
 ·rfl
 ·rw [if_neg (by omega)];simp
theorem gPut_some {u:Tm} (hu:u.rightB=true) (hf:u.freeN≤1048576) (hd:u.deep≤100000) (v c:Int) (p:Bool) (h0:0≤c) (h1:c≤1048576):(gPut u v c p).isSome=true:=by
 unfold gPut
 split
 ·rfl
 ·split
  ·obtain⟨x,hx⟩:=lift_comes (t:=if p=true then u.bare else u) (k:=c) (c:=0) h0 h1 (bareIf_right hu p) (by have:=bareIf_free hu p;omega) (Nat.le_trans (bareIf_deep u p) hd)
   rw [hx];rfl
  ·rfl
theorem put_comes {t u:Tm} (hr:t.rightB=true) (hu:u.rightB=true) (hf:u.freeN≤1048576) (hdt:t.deep≤100000) (hd:u.deep≤100000) (pl:Bool):∃ x,t.putG (gPut u) 0 pl=some x :=
 Option.isSome_iff_exists.1 (putG_some _ t 0 pl hr (Int.le_refl _) (fun v c p _ _ h3 h4 _=>gPut_some hu hf hd v c p h3 (by omega)))
theorem plains_all {l:List Tm}:(∀ x ∈ l,x.plainB=true)→plains l=true:=by
 induction l with
 | nil=>intro _;simp [plains]
 | cons a r ih =>
  intro h
  simp only [plains,Bool.and_eq_true]
  exact⟨h a (List.mem_cons_self ..),ih (fun x hx=>h x (List.mem_cons_of_mem _ hx))⟩
theorem markeds_get {tr:Bool}:∀ {l:List Tm} {p:Nat},markeds tr p l=true→∀ q (h:q<l.length),(if(tr&&p+q==2)=true then(l[q]).plainB else(l[q]).markedB)=true
 | [],p,_,q,h=>by simp at h
 | a::r,p,hm,q,h=>by
  simp only [markeds] at hm
  replace hm:=Bool.and_eq_true_iff.1 hm
  cases q with
  | zero=>simp only [List.getElem_cons_zero,Nat.add_zero];exact hm.1
  | succ q =>
   have:=markeds_get hm.2 q (by simpa using h)
   rw [show p+1+q=p+(q+1) by omega] at this
   simp only [List.getElem_cons_succ];exact this
theorem markeds_put {tr:Bool}:∀ {l:List Tm} {p:Nat},(∀ q (h:q<l.length),(if(tr&&p+q==2)=true then(l[q]).plainB else(l[q]).markedB)=true)→markeds tr p l=true
 | [],p,_=>by simp [markeds]
 | a::r,p,h=>by
  simp only [markeds]
  have h0:=h 0 (by simp)
  simp only [List.getElem_cons_zero,Nat.add_zero] at h0
  refine Bool.and_eq_true_iff.2 ⟨h0,markeds_put (fun q hq=>?_)⟩
  have:=h (q+1) (by simpa using hq)
  simp only [List.getElem_cons_succ] at this
  rw [show p+1+q=p+(q+1) by omega]
  exact this
theorem node_same {t:Tm} {m:List Tm} (h:m.length=t.kids.length):(Tm.mk t.k t.i t.j t.n m).nodeB=t.nodeB:=by
 show(((m.length:Int)==kidsN t.k t.n)&&numbersN t.k t.i t.j t.n)=_
 rw [h];rfl
theorem putG_plainT (g:Int→Int→Bool→Option Tm) (hg:∀ v c x,0≤v→v≤2147483647→0≤c→g v c true=some x→x.plainB=true) (t:Tm):∀ b x,0≤b→t.plainB=true→t.putG g b true=some x→x.plainB=true:=by
 induction t using Tm.ind with
 | h t ih =>
  intro b x hb hp hx
  have hr:=plain_right hp
  by_cases hk:t.k=2
  ·rw [Tm.putG_var _ _ _ _ hk] at hx
   have hv:=t.right_var hr hk
   exact hg _ _ _ hv.1 hv.2 hb hx
  ·rw [Tm.putG_node _ _ _ _ hk] at hx
   simp only [Option.map_eq_some_iff] at hx
   obtain⟨m,hm,rfl⟩:=hx
   have hlen:=optK_length hm
   have hall:∀ y ∈ m,y.plainB=true:=fun y hy=>by
    obtain⟨q,hq,rfl⟩:=List.getElem_of_mem hy
    have hq':q<t.kids.length:=by omega
    have:=optK_get hm q hq' hq
    have hbd:=binds_range t.k q
    rw [Nat.zero_add,Bool.true_or] at this
    exact ih _ (List.getElem_mem hq') _ _ (by omega) (plain_kids hp _ (List.getElem_mem hq')) this
   rw [Tm.plainB_eq] at hp ⊢
   rw [node_same hlen,mk_kids,plains_all hall,mk_k]
   simp only [Bool.and_eq_true] at hp ⊢
   exact⟨hp.1,hp.2.1,trivial⟩
theorem putG_markedT (g:Int→Int→Bool→Option Tm) (hg:∀ v c x,0≤v→v≤2147483647→0≤c→g v c true=some x→x.plainB=true) (hgm:∀ v c x,0≤v→v≤2147483647→0≤c→g v c false=some x→x.markedB=true) (t:Tm) :
 ∀ b x,0≤b→t.markedB=true→t.putG g b false=some x→x.markedB=true:=by
 induction t using Tm.ind with
 | h t ih =>
  intro b x hb hp hx
  have hr:=marked_right hp
  by_cases hk:t.k=2
  ·rw [Tm.putG_var _ _ _ _ hk] at hx
   have hv:=t.right_var hr hk
   exact hgm _ _ _ hv.1 hv.2 hb hx
  ·rw [Tm.putG_node _ _ _ _ hk] at hx
   simp only [Option.map_eq_some_iff] at hx
   obtain⟨m,hm,rfl⟩:=hx
   have hlen:=optK_length hm
   rw [Tm.markedB_eq] at hp ⊢
   simp only [Bool.and_eq_true] at hp
   have hmk:=markeds_get hp.2.2
   have hnew:markeds (t.k==12) 0 m=true:=markeds_put (fun q hq=>by
    have hq':q<t.kids.length:=by omega
    have h1:=optK_get hm q hq' hq
    have h2:=hmk q hq'
    have hbd:=binds_range t.k q
    rw [Nat.zero_add] at h1 h2 ⊢
    cases hf:(t.k==12&&q==2) with
    | true =>
     rw [hf] at h1 h2
     rw [if_pos rfl] at h2 ⊢
     exact putG_plainT g hg _ _ _ (by omega) h2 h1
    | false =>
     rw [hf] at h1 h2
     rw [if_neg (by decide)] at h2 ⊢
     exact ih _ (List.getElem_mem hq') _ _ (by omega) h2 h1)
   rw [node_same hlen,mk_kids,mk_k,hnew]
   simp only [Bool.and_eq_true]
   exact⟨hp.1,hp.2.1,trivial⟩
theorem gPut_plain {u:Tm} (hu:u.rightB=true):∀ v c x,0≤v→v≤2147483647→0≤c→gPut u v c true=some x→x.plainB=true:=by
 intro v c x h0 h1 hc hx
 unfold gPut at hx
 split at hx
 ·cases hx;exact(var_right h0 h1).2.1
 ·split at hx
  ·rw [if_pos rfl] at hx
   have hp:=bare_plain u hu
   rw [(each_keeps _ (liftF_range c 0 hc) _ 0 x (plain_right hp) hx).2.1];exact hp
  ·cases hx;exact(var_right (by omega) (by omega)).2.1
theorem gPut_marked {u:Tm} (hu:u.markedB=true):∀ v c x,0≤v→v≤2147483647→0≤c→gPut u v c false=some x→x.markedB=true:=by
 intro v c x h0 h1 hc hx
 unfold gPut at hx
 split at hx
 ·cases hx;exact(var_right h0 h1).1
 ·split at hx
  ·rw [if_neg (by decide)] at hx
   rw [(each_keeps _ (liftF_range c 0 hc) _ 0 x (marked_right hu) hx).1];exact hu
  ·cases hx;exact(var_right (by omega) (by omega)).1
theorem frees_bound (k:Int) (B:Int) (hB:0≤B):∀ (l:List Tm) (p:Nat),(∀ q (h:q<l.length),(l[q]).freeN-bindsN k ((p+q:Nat):Int)≤B)→frees k p l≤B
 | [],p,_=>by simp [frees];omega
 | a::r,p,h=>by
  have h0:=h 0 (by simp)
  simp only [List.getElem_cons_zero,Nat.add_zero] at h0
  have h1:=frees_bound k B hB r (p+1) (fun q hq=>by have:=h (q+1) (by simpa using hq);rw [show p+1+q=p+(q+1) by omega];simpa using this)
  simp only [frees];omega
theorem putG_free {u:Tm} (hu:u.rightB=true) (t:Tm):∀ b pl x,t.rightB=true→0≤b→t.putG (gPut u) b pl=some x→x.freeN≤max (t.freeN-1) (u.freeN+b):=by
 have hu0:=(u.free_range hu).1
 induction t using Tm.ind with
 | h t ih =>
  intro b pl x hr hb hx
  by_cases hk:t.k=2
  ·rw [Tm.putG_var _ _ _ _ hk] at hx
   have hf:t.freeN=t.i+1:=by rw [t.freeN_eq,if_pos hk]
   have hv:∀ v,(varT v).freeN=v+1:=fun v=>by rw [Tm.freeN_eq];rfl
   unfold gPut at hx
   split at hx
   ·cases hx;rw [hv];omega
   ·split at hx
    ·have h1:=bareIf_free hu pl
     have h3:=bareIf_right hu pl
     generalize (if pl=true then u.bare else u)=W at hx h1 h3
     have h2:=(W.free_range h3).1
     rw [lift_free b hb _ 0 x (Int.le_refl _) h3 hx]
     split<;>omega
    ·cases hx;rw [hv];omega
  ·rw [Tm.putG_node _ _ _ _ hk] at hx
   simp only [Option.map_eq_some_iff] at hx
   obtain⟨m,hm,rfl⟩:=hx
   have hlen:=optK_length hm
   have hf:t.freeN=frees t.k 0 t.kids:=by rw [t.freeN_eq,if_neg hk]
   rw [Tm.freeN_eq,if_neg (by exact hk)]
   refine frees_bound _ _ (by omega) _ _ (fun q hq=>?_)
   have hq':q<t.kids.length:=by have:q<m.length:=hq;omega
   have h1:=optK_get hm q hq' hq
   have hbd:=binds_range t.k q
   have hfq:=frees_get t.k t.kids 0 q hq'
   rw [Nat.zero_add] at h1 hfq ⊢
   have:=ih _ (List.getElem_mem hq') _ _ _ (t.right_kids hr _ (List.getElem_mem hq')) (by omega) h1
   simp only [mk_k,mk_kids]
   omega
end Go.Proofs.Ytgnllglbopaheaa

namespace Go.Proofs.Ytgnllglbopaheaa
theorem may_right {t u:Tm} (h:mayB t u=true):u.rightB=true:=by unfold mayB at h;simp only [Bool.and_eq_true] at h;exact h.1
theorem putB_good {t u x:Tm} (hr:t.rightB=true) (hm:mayB t u=true) (hx:t.putG (gPut u) 0 (decide (12<t.k))=some x):t.putB u=x:=by
 unfold Tm.putB;rw [if_pos ⟨hr,hm⟩,hx];rfl
theorem may_marked {t u:Tm} (h:u.markedB=true):mayB t u=true:=by unfold mayB;rw [marked_right h,h];simp
theorem may_need {t u:Tm} (h:mayB t u=true) (h3:3≤t.k) (h12:t.k≤12):u.markedB=true:=by
 unfold mayB at h
 have hp:t.plainB=false:=by
  cases hp:t.plainB with
  | false=>rfl
  | true=>have:=plain_kind hp;omega
 have e1:(t.k==1)=false:=by simp;omega
 have e2:(t.k==2)=false:=by simp;omega
 rw [hp,e1,e2] at h
 simpa using (Bool.and_eq_true _ _▸h).2
theorem put_sorts {u w y:Tm} (hu:u.rightB=true) (hm:mayB u w=true) (hy:u.putG (gPut w) 0 (decide (12<u.k))=some y):y.rightB=true∧(u.markedB=true→w.markedB=true→y.markedB=true)∧(12<u.k→y.plainB=true):=by
 have hw:=may_right hm
 have hk:=Tm.node_kind (u.right_node hu)
 by_cases h12:12<u.k
 ·have hp:=right_of_kind hu h12
  have e:decide (12<u.k)=true:=by simpa using h12
  rw [e] at hy
  have hyp:=putG_plainT _ (gPut_plain hw) u 0 y (Int.le_refl _) hp hy
  refine⟨plain_right hyp,fun h=>?_,fun _=>hyp⟩
  have:=marked_kind h;omega
 ·have e:decide (12<u.k)=false:=by simpa using h12
  rw [e] at hy
  have hmk:u.markedB=true:=by
   by_cases h2:u.k≤2
   ·have hs:=sorts_two (u.right_node hu) h2
    have h3:=hs.1
    unfold Tm.sortsN at h3
    cases hm:u.markedB<;>cases hp:u.plainB<;>simp [hm,hp] at h3 ⊢
   ·rcases right_cases hu with hp | ⟨hm,-⟩
    ·have:=plain_kind hp;omega
    ·exact hm
  cases hwm:w.markedB with
  | true =>
   have:=putG_markedT _ (gPut_plain hw) (gPut_marked hwm) u 0 y (Int.le_refl _) hmk hy
   exact⟨marked_right this,fun _ _=>this,fun h=>absurd h h12⟩
  | false =>
   have h2:u.k≤2:=by
    cases Int.decLt 2 u.k with
    | isTrue h=>have:=may_need hm (by omega) (by omega);rw [hwm] at this;cases this
    | isFalse h=>omega
   refine⟨?_,(fun _ h=>by cases h),fun h=>absurd h h12⟩
   by_cases hk2:u.k=2
   ·have hv:=u.right_var hu hk2
    rw [Tm.putG_var _ _ _ _ hk2] at hy
    unfold gPut at hy
    rw [if_neg (by omega)] at hy
    split at hy
    ·rw [if_neg (by decide),lift_zero hw] at hy;cases hy;exact hw
    ·cases hy;exact(var_right (by omega) (by omega)).2.2
   ·rw [Tm.putG_node _ _ _ _ hk2,(sorts_two (u.right_node hu) h2).2] at hy
    cases hy
    have e:Tm.mk u.k u.i u.j u.n []=u:=by rw [←(sorts_two (u.right_node hu) h2).2];exact u.eta
    show(Tm.mk u.k u.i u.j u.n []).rightB=true
    rw [e];exact hu
theorem putB_keeps {t u:Tm} (hr:t.rightB=true) (hm:mayB t u=true) (hfu:u.freeN≤1048576) (hdt:t.deep≤100000) (hdu:u.deep≤100000) :
 (t.putB u).rightB=true∧(t.markedB=true→u.markedB=true→(t.putB u).markedB=true)∧(t.putB u).freeB≤max (t.freeB-1) u.freeB:=by
 have hu:=may_right hm
 obtain⟨x,hx⟩:=put_comes hr hu hfu hdt hdu (decide (12<t.k))
 obtain⟨hxr,hxm,-⟩:=put_sorts hr hm hx
 rw [putB_good hr hm hx]
 refine⟨hxr,hxm,?_⟩
 rw [free_of hxr,free_of hr,free_of hu]
 have:=putG_free hu t 0 _ x hr (Int.le_refl _) hx
 omega
end Go.Proofs.Ytgnllglbopaheaa

namespace Go.Proofs.Ytgnllglbopaheaa
structure He where
 i:Int
 a:Tm
 b:Tm
 x:Tm
 y:Tm
 h:Tm
def He.zero:He:=⟨0,.zero,.zero,.zero,.zero,.zero⟩
def He.fine (h:He):Prop:=I64 h.i∧h.a.fine∧h.b.fine∧h.x.fine∧h.y.fine∧h.h.fine
structure Fm where
 i:Int
 j:Int
 a:Tm
 c:Tm
 b:Tm
 d:Tm
 e:Tm
 f:Tm
def Fm.fine (g:Fm):Prop:=I64 g.i∧I64 g.j∧g.a.fine∧g.c.fine∧g.b.fine∧g.d.fine∧g.e.fine∧g.f.fine
end Go.Proofs.Ytgnllglbopaheaa

namespace Go.Proofs.Ytgnllglbopaheaa
open Go.RowKit
def Sees (V:World) (g:Nat) (w':World):Prop:=∀ k,k<V.heap.size→k≠g→w'.heap[k]? =V.heap[k]?
theorem sees_kept {V W:World} (g:Nat) (h:Kept V W):Sees V g W:=fun k hk _=>Below.block h k hk
theorem sees_of {V W w':World} {g:Nat} (h:Kept V W) (hs:Sees W g w'):Sees V g w':=fun k hk hne=>(hs k (Nat.lt_of_lt_of_le hk (Below.size h)) hne).trans (Below.block h k hk)
theorem extract_list {C vs:Array Value} {o:Nat} (h:(C.toList.drop o).take vs.size=vs.toList):C.extract o (o+vs.size)=vs:=by
 apply Array.toList_inj.1
 rw [←h,Array.toList_extract]
 simp
theorem part_cell {V:World} {r g:Nat} {C:Array Value} {T:TypeId} {fr:Nat × Nat} (h:V.heap[g]? =some (.cells C T fr)) (hne:g≠r) (o:Nat) (v:Value) (hv:C[o]? =some v):∀ w',Sees V r w'→w'.cell? ⟨g,o,none⟩=some v:=fun w' hk=>by
 have hb:w'.heap[g]? =some (.cells C T fr):=(hk g (block_lt h) hne).trans h
 rw [cell_of_row w' g o C T fr hb];exact hv
theorem kept_refl (w:World):Kept w w:=Below.refl _ _
theorem kept_trans {w w1 w2:World} (h:Kept w w1) (h':Kept w1 w2):Kept w w2:=kept_call h h'
theorem kept_new (w:World) (o:Obj):Kept w (w.alloc o):=(Below.refl _ _).alloc (Nat.le_refl _) _
abbrev hv (h:He) (sa sb sx sy sh:Value):Value:=.agg #[.int .i64 h.i,.int .i64 h.a.k,.int .i64 h.a.i,.int .i64 h.a.j,.int .i64 h.a.n,sa,.int .i64 h.b.k,.int .i64 h.b.i,.int .i64 h.b.j,.int .i64 h.b.n,sb,.int .i64 h.x.k,.int .i64 h.x.i,.int .i64 h.x.j,.int .i64 h.x.n,sx,.int .i64 h.y.k,.int .i64 h.y.i,.int .i64 h.y.j,.int .i64 h.y.n,sy,.int .i64 h.h.k,.int .i64 h.h.i,.int .i64 h.h.j,.int .i64 h.h.n,sh]
abbrev fv (g:Fm) (sa sc sb sd se sf:Value):Value:=.agg #[.int .i64 g.i,.int .i64 g.j,.int .i64 g.a.k,.int .i64 g.a.i,.int .i64 g.a.j,.int .i64 g.a.n,sa,.int .i64 g.c.k,.int .i64 g.c.i,.int .i64 g.c.j,.int .i64 g.c.n,sc,.int .i64 g.b.k,.int .i64 g.b.i,.int .i64 g.b.j,.int .i64 g.b.n,sb,.int .i64 g.d.k,.int .i64 g.d.i,.int .i64 g.d.j,.int .i64 g.d.n,sd,.int .i64 g.e.k,.int .i64 g.e.i,.int .i64 g.e.j,.int .i64 g.e.n,se,.int .i64 g.f.k,.int .i64 g.f.i,.int .i64 g.f.j,.int .i64 g.f.n,sf]
def GivesO (u:Tm) (w:World) (e:Ending) (w':World):Prop:=∃ s':Value,e=.returned (tv u s')∧Lies w' u.kids s'∧Kept w w'
end Go.Proofs.Ytgnllglbopaheaa

namespace Go.Proofs.Ytgnllglbopaheaa
open Go.RowKit
inductive LiesQ (w:World) (P:Nat→Prop):List Tm→Value→Prop
 | mk (l:List Tm) (a:Option Addr) (cap:Nat) (S:Nat→Value) (hc:l.length≤cap) (hm:cap≤maxLen) (hf:∀ x ∈ l,x.fine)
  (hn:∀ i (h:i<l.length),∃ b o,a=some ⟨b,o,none⟩∧P b∧Node w b (o+i * 5) l[i] (S i)) (hk:∀ i (h:i<l.length),LiesQ w P (l[i]).kids (S i)):LiesQ w P l (.slice a l.length cap)
theorem LiesQ.lies {w:World} {P:Nat→Prop} {l:List Tm} {s:Value} (h:LiesQ w P l s):Lies w l s:=by
 induction h with
 | mk l a cap S hc hm hf hn hk ih=>exact .mk l a cap S hc hm hf (fun i hi=>by obtain⟨b,o,ha,_,hx⟩:=hn i hi;exact⟨b,o,ha,hx⟩) ih
theorem Lies.q {w:World} {l:List Tm} {s:Value} (h:Lies w l s):LiesQ w (fun b=>b<w.heap.size) l s:=by
 induction h with
 | mk l a cap S hc hm hf hn hk ih=>exact .mk l a cap S hc hm hf (fun i hi=>by obtain⟨b,o,ha,hx⟩:=hn i hi;exact⟨b,o,ha,hx.lt,hx⟩) ih
theorem LiesQ.keep {w w':World} {P Q:Nat→Prop} {l:List Tm} {s:Value} (h:LiesQ w P l s) (hb:∀ b,P b→b<w.heap.size→w'.heap[b]? =w.heap[b]?) (hq:∀ b,P b→b<w.heap.size→Q b):LiesQ w' Q l s:=by
 induction h with
 | mk l a cap S hc hm hf hn hk ih =>
  exact .mk l a cap S hc hm hf (fun i hi=>by obtain⟨b,o,ha,hp,hx⟩:=hn i hi;exact⟨b,o,ha,hq b hp hx.lt,hx.same (hb b hp hx.lt)⟩) ih
theorem LiesQ.later {w w':World} {P:Nat→Prop} {l:List Tm} {s:Value} (h:LiesQ w P l s) (hb:Below w.heap.size w w'):LiesQ w' P l s:=h.keep (fun b _ hlt=>hb.block b hlt) (fun _ hp _=>hp)
theorem LiesQ.wide {w:World} {P Q:Nat→Prop} {l:List Tm} {s:Value} (h:LiesQ w P l s) (hq:∀ b,P b→Q b):LiesQ w Q l s:=h.keep (fun _ _ _=>rfl) (fun b hp _=>hq b hp)
theorem LiesQ.out {w:World} {P:Nat→Prop} {l:List Tm} {s:Value} (h:LiesQ w P l s):∃ (a:Option Addr) (cap:Nat) (S:Nat→Value),s=.slice a l.length cap∧l.length≤cap∧cap≤maxLen∧(∀ x ∈ l,x.fine) ∧
 (∀ i (h:i<l.length),∃ b o,a=some ⟨b,o,none⟩∧P b∧Node w b (o+i * 5) l[i] (S i))∧(∀ i (h:i<l.length),LiesQ w P (l[i]).kids (S i)):=by
 cases h with
 | mk l a cap S hc hm hf hn hk=>exact⟨a,cap,S,rfl,hc,hm,hf,hn,hk⟩
theorem liesQ_nil (w:World) (P:Nat→Prop):LiesQ w P [] (.slice none 0 0):=.mk [] none 0 (fun _=>.nilIface) (Nat.le_refl _) (by decide) (fun _ h=>by cases h) (fun _ h=>by cases h) (fun _ h=>by cases h)
theorem LiesP.q {w:World} {P:Nat→Prop} {l:List Tm} {s:Value} (h:LiesP w P l s):LiesQ w P l s:=by
 induction h with
 | mk l a cap S hc hm hf hn hk ih=>exact .mk l a cap S hc hm hf (fun i hi=>by obtain⟨b,ha,hp,hx⟩:=hn i hi;exact⟨b,0,ha,hp,by rw [Nat.zero_add];exact hx⟩) ih
def Far (E N b:Nat):Prop:=b<E∨N≤b
structure MadeQ (E N B:Nat) (w:World) (v:Value) (ps:List (Tm × Value)):Prop where
 own:w.ownsRow B 38 5 v ps.length (cells5 ps)
 fine:∀ p ∈ ps,p.1.fine
 kids:∀ p ∈ ps,LiesQ w (fun b=>Far E N b∧v.ownBlock≠some b) p.1.kids p.2
end Go.Proofs.Ytgnllglbopaheaa

namespace Go.Proofs.Ytgnllglbopaheaa
open Go.RowKit
structure En where
 a:Tm
 i:Int
def En.fine (e:En):Prop:=e.a.fine∧I64 e.i
structure ENode (w:World) (b o:Nat) (e:En) (s:Value):Prop where
 c0:w.cell? ⟨b,o,none⟩=some (.int .i64 e.a.k)
 c1:w.cell? ⟨b,o+1,none⟩=some (.int .i64 e.a.i)
 c2:w.cell? ⟨b,o+2,none⟩=some (.int .i64 e.a.j)
 c3:w.cell? ⟨b,o+3,none⟩=some (.int .i64 e.a.n)
 c4:w.cell? ⟨b,o+4,none⟩=some s
 c5:w.cell? ⟨b,o+5,none⟩=some (.int .i64 e.i)
theorem ENode.lt {w:World} {b o:Nat} {e:En} {s:Value} (h:ENode w b o e s):b<w.heap.size:=World.block_lt_of_cell? _ _ h.c0
theorem ENode.below {w w':World} {b o B:Nat} {e:En} {s:Value} (h:ENode w b o e s) (hb:Below B w w') (hB:b<B):ENode w' b o e s :=
 ⟨(hb.cell (by exact hB)).trans h.c0,(hb.cell (by exact hB)).trans h.c1,(hb.cell (by exact hB)).trans h.c2,(hb.cell (by exact hB)).trans h.c3,(hb.cell (by exact hB)).trans h.c4,(hb.cell (by exact hB)).trans h.c5⟩
theorem ENode.same {w w':World} {b o:Nat} {e:En} {s:Value} (h:ENode w b o e s) (hb:w'.heap[b]? =w.heap[b]?):ENode w' b o e s :=
 ⟨(World.cell?_of_block (a:=⟨b,o,none⟩) hb).trans h.c0,(World.cell?_of_block (a:=⟨b,o+1,none⟩) hb).trans h.c1,(World.cell?_of_block (a:=⟨b,o+2,none⟩) hb).trans h.c2,
   (World.cell?_of_block (a:=⟨b,o+3,none⟩) hb).trans h.c3,(World.cell?_of_block (a:=⟨b,o+4,none⟩) hb).trans h.c4,(World.cell?_of_block (a:=⟨b,o+5,none⟩) hb).trans h.c5⟩
structure LiesE (w:World) (l:List En) (s:Value):Prop where
 out:∃ (a:Option Addr) (cap:Nat) (S:Nat→Value),s=.slice a l.length cap∧l.length≤cap∧cap≤maxLen∧(∀ x ∈ l,x.fine) ∧
  (∀ i (h:i<l.length),∃ b o,a=some ⟨b,o,none⟩∧ENode w b (o+i * 6) l[i] (S i))∧(∀ i (h:i<l.length),Lies w (l[i]).a.kids (S i))
theorem LiesE.keep {w w':World} {l:List En} {s:Value} (h:LiesE w l s) (hb:Below w.heap.size w w'):LiesE w' l s:=by
 obtain⟨a,cap,S,hs,hc,hm,hf,hn,hk⟩:=h.out
 exact⟨a,cap,S,hs,hc,hm,hf,fun i hi=>by obtain⟨b,o,ha,hx⟩:=hn i hi;exact⟨b,o,ha,hx.below hb hx.lt⟩,fun i hi=>(hk i hi).keep hb⟩
theorem liesE_nil (w:World):LiesE w [] (.slice none 0 0):=⟨none,0,fun _=>.nilIface,rfl,Nat.le_refl _,by decide,(fun _ h=>by cases h),(fun _ h=>by cases h),(fun _ h=>by cases h)⟩
def rightE:Nat→List En→Bool
 | _,[]=>true
 | k,e::r=>(decide (0≤e.i)&&decide (e.i≤1000)&&e.a.markedB&&decide (e.a.freeB≤(k:Int)))&&rightE (k+1) r
def rightC (c:List En):Bool:=rightE 0 c
def goodE (k:Nat) (e:En):Bool:=decide (0≤e.i)&&decide (e.i≤1000)&&e.a.markedB&&decide (e.a.freeB≤(k:Int))
theorem rightE_append (k:Nat):∀ (a b:List En),rightE k (a++b)=(rightE k a&&rightE (k+a.length) b)
 | [],b=>by simp [rightE]
 | e::r,b=>by
  have:=rightE_append (k+1) r b
  simp only [List.cons_append,rightE,this,List.length_cons,Bool.and_assoc,show k+1+r.length=k+(r.length+1) by omega]
theorem rightC_take {l:List En} {k:Nat} (h:k<l.length):rightC (l.take (k+1))=(rightC (l.take k)&&goodE k l[k]):=by
 have hl:(l.take k).length=k:=by simp;omega
 unfold rightC
 rw [List.take_succ_eq_append_getElem h,rightE_append,hl,Nat.zero_add]
 simp only [rightE,goodE,Bool.and_true]
theorem rightC_of {l:List En} {k:Nat} (h:k<l.length) (hg:goodE k l[k]=false):rightC l=false:=by
 have h1:rightC (l.take (k+1)++l.drop (k+1))=rightC l:=by rw [List.take_append_drop]
 have h2:rightC (l.take (k+1))=false:=by rw [rightC_take h,hg,Bool.and_false]
 rw [←h1]
 unfold rightC at h2 ⊢
 rw [rightE_append,h2,Bool.false_and]
theorem rightC_at {l:List En} (hr:rightC l=true) {k:Nat} (h:k<l.length):goodE k l[k]=true:=by
 cases hg:goodE k l[k] with
 | true=>rfl
 | false=>rw [rightC_of h hg] at hr;cases hr
theorem goodE_iff {k:Nat} {e:En}:goodE k e=true↔0≤e.i∧e.i≤1000∧e.a.markedB=true∧e.a.freeB≤(k:Int):=by
 unfold goodE;simp only [Bool.and_eq_true,decide_eq_true_eq,and_assoc]
end Go.Proofs.Ytgnllglbopaheaa

namespace Go.Proofs.Ytgnllglbopaheaa
open Go.RowKit
def OwnE (B:Nat) (w:World) (b:Nat):Prop:=B≤b∧∃ cs,w.heap[b]? =some (.cells cs 61 (0,0))
structure LiesEP (w:World) (B:Nat) (l:List En) (s:Value):Prop where
 out:∃ (a:Option Addr) (cap:Nat) (S:Nat→Value),s=.slice a l.length cap∧l.length≤cap∧cap≤maxLen∧(∀ x ∈ l,x.fine) ∧
  (∀ i (h:i<l.length),∃ b,a=some ⟨b,0,none⟩∧OwnE B w b∧ENode w b (i * 6) l[i] (S i))∧(∀ i (h:i<l.length),LiesP w (Own B w) (l[i]).a.kids (S i))
theorem LiesEP.lies {w:World} {B:Nat} {l:List En} {s:Value} (h:LiesEP w B l s):LiesE w l s:=by
 obtain⟨a,cap,S,hs,hc,hm,hf,hn,hk⟩:=h.out
 exact⟨a,cap,S,hs,hc,hm,hf,fun i hi=>by obtain⟨b,ha,_,hx⟩:=hn i hi;exact⟨b,0,ha,by rw [Nat.zero_add];exact hx⟩,fun i hi=>(hk i hi).lies⟩
theorem LiesEP.from {w:World} {B B':Nat} {l:List En} {s:Value} (h:LiesEP w B l s) (hB:B'≤B):LiesEP w B' l s:=by
 obtain⟨a,cap,S,hs,hc,hm,hf,hn,hk⟩:=h.out
 exact⟨a,cap,S,hs,hc,hm,hf,fun i hi=>by obtain⟨b,ha,hp,hx⟩:=hn i hi;exact⟨b,ha,⟨Nat.le_trans hB hp.1,hp.2⟩,hx⟩,fun i hi=>(hk i hi).from hB⟩
theorem liesEP_nil (w:World) (B:Nat):LiesEP w B [] (.slice none 0 0):=⟨none,0,fun _=>.nilIface,rfl,Nat.le_refl _,by decide,(fun _ h=>by cases h),(fun _ h=>by cases h),(fun _ h=>by cases h)⟩
def MakesE (l:List En) (w:World) (e:Ending) (w':World):Prop:=∃ s':Value,e=.returned s'∧LiesEP w' w.heap.size l s'∧Below w.heap.size w w'
def cells6:List (En × Value)→List Value
 | []=>[]
 | (t,s)::r=>.int .i64 t.a.k:: .int .i64 t.a.i:: .int .i64 t.a.j:: .int .i64 t.a.n::s:: .int .i64 t.i::cells6 r
theorem cells6_length:∀ ps:List (En × Value),(cells6 ps).length=ps.length * 6
 | []=>rfl
 | (t,s)::r=>by simp [cells6,cells6_length r];omega
theorem cells6_append:∀ ps qs:List (En × Value),cells6 (ps++qs)=cells6 ps++cells6 qs
 | [],qs=>rfl
 | (t,s)::r,qs=>by simp [cells6,cells6_append r qs]
theorem cells6_get:∀ (ps:List (En × Value)) (i:Nat) (h:i<ps.length) (q:Nat),q<6→(cells6 ps)[i * 6+q]? =[Value.int .i64 (ps[i]).1.a.k,.int .i64 (ps[i]).1.a.i,.int .i64 (ps[i]).1.a.j,.int .i64 (ps[i]).1.a.n,(ps[i]).2,.int .i64 (ps[i]).1.i][q]?
 | (t,s)::r,0,_,q,hq=>by
  rw [Nat.zero_mul,Nat.zero_add]
  match q,hq with
  | 0,_=>rfl
  | 1,_=>rfl
  | 2,_=>rfl
  | 3,_=>rfl
  | 4,_=>rfl
  | 5,_=>rfl
 | (t,s)::r,i+1,h,q,hq=>by
  have:=cells6_get r i (by simpa using h) q hq
  rw [show(i+1) * 6+q=(i * 6+q)+6 by omega]
  simpa [cells6] using this
structure MadeE (B:Nat) (w:World) (v:Value) (ps:List (En × Value)):Prop where
 own:w.ownsRow B 61 6 v ps.length (cells6 ps)
 fine:∀ p ∈ ps,p.1.fine
 kids:∀ p ∈ ps,LiesP w (fun b=>Own B w b∧v.ownBlock≠some b) p.1.a.kids p.2
theorem madeE_later {B:Nat} {w w':World} {v:Value} {ps:List (En × Value)} (h:MadeE B w v ps) (hb:Below w.heap.size w w'):MadeE B w' v ps:=by
 refine⟨?_,h.fine,fun p hp=>(h.kids p hp).keep (fun b _ hlt=>hb.block b hlt) (fun _ hq _=>⟨hq.1.later hb,hq.2⟩)⟩
 obtain⟨h1,h2⟩:=h.own
 refine⟨h1,?_⟩
 rcases h2 with h2 | ⟨g,cap,cur,hv,hg,hh,r⟩
 ·exact Or.inl h2
 ·refine Or.inr ⟨g,cap,cur,hv,hg,?_,r⟩
  rw [hb.block g ?_];exact hh
  exact(Array.getElem?_eq_some_iff.1 hh).1
theorem madeE_block {B:Nat} {w:World} {v:Value} {ps:List (En × Value)} (h:MadeE B w v ps) {b:Nat} (hb:w.heap.size≤b):v.ownBlock≠some b:=by
 rcases h.own.2 with ⟨rfl,-⟩ | ⟨g,cap,cur,rfl,-,hh,-⟩
 ·simp [Value.ownBlock]
 ·have:=(Array.getElem?_eq_some_iff.1 hh).1
  simp [Value.ownBlock];omega
theorem madeE_step {B:Nat} {w w1:World} {v:Value} {ps:List (En × Value)} {p:En × Value} {g cap:Nat} (h:MadeE B w v ps) (hf:p.1.fine) (hk:LiesP w (fun b=>Own B w b∧v.ownBlock≠some b) p.1.a.kids p.2)
 (hown:w1.ownsRow B 61 6 (.slice (some ⟨g,0,none⟩) (ps.length+1) cap) (ps.length+1) (cells6 ps++cells6 [p])) (hgrow:w.grownBy w1 v.ownBlock) (hg:v.ownBlock=some g∨g=w.heap.size) :
 MadeE B w1 (.slice (some ⟨g,0,none⟩) (ps.length+1) cap) (ps++[p]):=by
 have keep:∀ q:En × Value,LiesP w (fun b=>Own B w b∧v.ownBlock≠some b) q.1.a.kids q.2→LiesP w1 (fun b=>Own B w1 b∧(Value.slice (some ⟨g,0,none⟩) (ps.length+1) cap).ownBlock≠some b) q.1.a.kids q.2:=fun q hq =>
  hq.keep (fun b hb hlt=>hgrow.block b hlt (fun e=>hb.2 e.symm)) (fun b hb hlt=>⟨hb.1.same (hgrow.block b hlt (fun e=>hb.2 e.symm)),by
   show some g≠some b
   rcases hg with e | e
   ·rw [←e];exact hb.2
   ·intro e';have:=Option.some.inj e';omega⟩)
 refine⟨by rw [cells6_append];simpa using hown,fun q hq=>?_,fun q hq=>?_⟩
 ·rcases List.mem_append.1 hq with hq | hq
  ·exact h.fine q hq
  ·rw [List.mem_singleton.1 hq];exact hf
 ·rcases List.mem_append.1 hq with hq | hq
  ·exact keep q (h.kids q hq)
  ·rw [List.mem_singleton.1 hq];exact keep p hk
theorem madeE_lies {B:Nat} {w:World} {v:Value} {ps:List (En × Value)} (h:MadeE B w v ps):LiesEP w B (ps.map (·.1)) v:=by
 have fin:∀ x ∈ ps.map (·.1),x.fine:=fun x hx=>by obtain⟨p,hp,rfl⟩:=List.mem_map.1 hx;exact h.fine p hp
 have kid:∀ i (hi:i<ps.length),LiesP w (Own B w) (ps[i]).1.a.kids (ps[i]).2:=fun i hi=>(h.kids _ (List.getElem_mem hi)).keep (fun _ _ _=>rfl) (fun _ hb _=>hb.1)
 obtain⟨-,⟨rfl,hn⟩ | ⟨g,cap,cur,rfl,hg,hh,hnc,hcm,hsz,htk⟩⟩:=h.own
 ·obtain rfl:ps=[]:=List.eq_nil_of_length_eq_zero hn
  exact⟨none,0,fun _=>.nilIface,rfl,Nat.le_refl _,by decide,(fun _ h=>by cases h),(fun _ h=>by cases h),(fun _ h=>by cases h)⟩
 ·refine⟨some ⟨g,0,none⟩,cap,fun i=>(ps[i]?.map (·.2)).getD (.slice none 0 0),by simp,by simpa using hnc,hcm,fin,fun i hi=>?_,fun i hi=>?_⟩
  ·have hi':i<ps.length:=by simpa using hi
   refine⟨g,rfl,⟨hg,cur,hh⟩,?_⟩
   ·simp only [List.getElem_map,List.getElem?_eq_getElem hi',Option.map_some,Option.getD_some]
    have cellq:∀ q,q<6→w.cell? ⟨g,i * 6+q,none⟩=[Value.int .i64 (ps[i]).1.a.k,.int .i64 (ps[i]).1.a.i,.int .i64 (ps[i]).1.a.j,.int .i64 (ps[i]).1.a.n,(ps[i]).2,.int .i64 (ps[i]).1.i][q]?:=fun q hq=>by
     rw [h.own.cellAt (i * 6+q) (by omega)];exact cells6_get ps i hi' q hq
    exact⟨cellq 0 (by omega),cellq 1 (by omega),cellq 2 (by omega),cellq 3 (by omega),cellq 4 (by omega),cellq 5 (by omega)⟩
  ·have hi':i<ps.length:=by simpa using hi
   simp only [List.getElem_map,List.getElem?_eq_getElem hi',Option.map_some,Option.getD_some]
   exact kid i hi'
def put6 (w:World) (g o:Nat) (t:En) (s:Value):World:=(put5 w g o t.a s).setCell ⟨g,o+5,none⟩ (.int .i64 t.i)
theorem put6_other (w:World) (g o:Nat) (t:En) (s:Value) {b:Nat} (h:b≠g):(put6 w g o t s).heap[b]? =w.heap[b]?:=by
 unfold put6;rw [Below.heap_setCell _ _ _ _ (by exact h),put5_other _ _ _ _ _ h]
theorem put6_below {B:Nat} {w w1:World} (h:Below B w w1) {g:Nat} (hg:B≤g) (o:Nat) (t:En) (s:Value):Below B w (put6 w1 g o t s):=by
 unfold put6 put5
 exact(((((h.setCell hg _).setCell hg _).setCell hg _).setCell hg _).setCell hg _).setCell hg _
theorem ENode.node {w:World} {b o:Nat} {e:En} {s:Value} (h:ENode w b o e s):Node w b o e.a s:=⟨h.c0,h.c1,h.c2,h.c3,h.c4⟩
theorem put6_node {w:World} {g o:Nat} {t0:En} {s0:Value} (t:En) (s:Value) (h:ENode w g o t0 s0):ENode (put6 w g o t s) g o t s:=by
 have ne:∀ p q:Nat,p≠q→(⟨g,p,none⟩:Addr)≠⟨g,q,none⟩:=fun p q hpq e=>hpq (congrArg Addr.off e)
 have hn:=put5_node t.a s h.node
 unfold put6
 refine⟨?_,?_,?_,?_,?_,?_⟩
 ·rw [World.cell?_setCell_other _ _ _ _ (ne _ _ (by omega))];exact hn.c0
 ·rw [World.cell?_setCell_other _ _ _ _ (ne _ _ (by omega))];exact hn.c1
 ·rw [World.cell?_setCell_other _ _ _ _ (ne _ _ (by omega))];exact hn.c2
 ·rw [World.cell?_setCell_other _ _ _ _ (ne _ _ (by omega))];exact hn.c3
 ·rw [World.cell?_setCell_other _ _ _ _ (ne _ _ (by omega))];exact hn.c4
 ·refine World.cell?_setCell_same _ _ _ (u:=.int .i64 t0.i) ?_
  rw [put5_out _ _ _ _ _ (by omega)];exact h.c5
theorem put6_keep {w:World} {g o o' b:Nat} {t x:En} {s sx:Value} (h:ENode w b o' x sx) (hne:b≠g∨o'+6≤o∨o+6≤o'):ENode (put6 w g o t s) b o' x sx:=by
 by_cases hb:b=g
 ·subst hb
  have hne':o'+6≤o∨o+6≤o':=hne.resolve_left (fun h=>h rfl)
  have ne:∀ p q:Nat,p≠q→(⟨b,p,none⟩:Addr)≠⟨b,q,none⟩:=fun p q hpq e=>hpq (congrArg Addr.off e)
  have hn:=put5_keep (g:=b) (o:=o) (t:=t.a) (s:=s) h.node (Or.inr (by omega))
  unfold put6
  refine⟨?_,?_,?_,?_,?_,?_⟩
  ·rw [World.cell?_setCell_other _ _ _ _ (ne _ _ (by omega))];exact hn.c0
  ·rw [World.cell?_setCell_other _ _ _ _ (ne _ _ (by omega))];exact hn.c1
  ·rw [World.cell?_setCell_other _ _ _ _ (ne _ _ (by omega))];exact hn.c2
  ·rw [World.cell?_setCell_other _ _ _ _ (ne _ _ (by omega))];exact hn.c3
  ·rw [World.cell?_setCell_other _ _ _ _ (ne _ _ (by omega))];exact hn.c4
  ·rw [World.cell?_setCell_other _ _ _ _ (ne _ _ (by omega)),put5_out _ _ _ _ _ (by omega)];exact h.c5
 ·exact h.same (put6_other _ _ _ _ _ hb)
structure FullE (B:Nat) (w:World) (g:Nat) (xs:List (En × Value)):Prop where
 above:B≤g
 open':∃ cs,w.heap[g]? =some (.cells cs 61 (0,0))
 node:∀ i (h:i<xs.length),ENode w g (i * 6) (xs[i]).1 (xs[i]).2
 fine:∀ p ∈ xs,p.1.fine
 kids:∀ p ∈ xs,LiesP w (fun b=>Own B w b∧b≠g) p.1.a.kids p.2
theorem FullE.lt {B g:Nat} {w:World} {xs:List (En × Value)} (h:FullE B w g xs):g<w.heap.size:=by obtain⟨cs,h⟩:=h.open';exact(Array.getElem?_eq_some_iff.1 h).1
theorem FullE.later {B g:Nat} {w w':World} {xs:List (En × Value)} (h:FullE B w g xs) (hb:Below w.heap.size w w'):FullE B w' g xs :=
 ⟨h.above,by rw [hb.block g h.lt];exact h.open',fun i hi=>(h.node i hi).below hb h.lt,h.fine,fun p hp=>(h.kids p hp).keep (fun b _ hlt=>hb.block b hlt) (fun _ hq _=>⟨hq.1.later hb,hq.2⟩)⟩
theorem FullE.fill {B g k:Nat} {w:World} {xs:List (En × Value)} {t:En} {s:Value} (h:FullE B w g xs) (hk:k<xs.length) (hf:t.fine) (hl:LiesP w (fun b=>Own B w b∧b≠g) t.a.kids s) :
 FullE B (put6 w g (k * 6) t s) g (xs.set k (t,s)):=by
 have keepL:∀ l s',LiesP w (fun b=>Own B w b∧b≠g) l s'→LiesP (put6 w g (k * 6) t s) (fun b=>Own B (put6 w g (k * 6) t s) b∧b≠g) l s':=fun l s' h' =>
  h'.keep (fun b hb _=>put6_other _ _ _ _ _ hb.2) (fun b hb _=>⟨hb.1.same (put6_other _ _ _ _ _ hb.2),hb.2⟩)
 refine⟨h.above,?_,fun i hi=>?_,fun p hp=>?_,fun p hp=>?_⟩
 ·obtain⟨cs,hcs⟩:=h.open'
  exact⟨_,heap_setCell_same _ _ _ _ _ _ (put5_block _ _ _ hcs)⟩
 ·have hi':i<xs.length:=by simpa using hi
  by_cases e:k=i
  ·subst e
   simp only [List.getElem_set_self]
   exact put6_node t s (h.node k hk)
  ·rw [List.getElem_set_ne e]
   exact put6_keep (h.node i hi') (Or.inr (by omega))
 ·rcases List.mem_or_eq_of_mem_set hp with hp | rfl
  ·exact h.fine p hp
  ·exact hf
 ·rcases List.mem_or_eq_of_mem_set hp with hp | rfl
  ·exact keepL _ _ (h.kids p hp)
  ·exact keepL _ _ hl
theorem FullE.fresh {B g:Nat} {wr w2:World} {xs:List (En × Value)} {l:List Tm} {s2:Value} (h:FullE B wr g xs) (hB:B≤wr.heap.size) (hk:LiesP w2 (Own wr.heap.size w2) l s2):LiesP w2 (fun b=>Own B w2 b∧b≠g) l s2:=by
 have hg:=h.lt
 exact hk.keep (fun _ _ _=>rfl) (fun b hb _=>⟨hb.from hB,by have:=hb.1;omega⟩)
theorem newsE (w:World) (t:En) (s:Value) (T:TypeId):∀ j u,(cells6 [(t,s)])[j]? =some u→(w.alloc (.cells #[.int .i64 t.a.k,.int .i64 t.a.i,.int .i64 t.a.j,.int .i64 t.a.n,s,.int .i64 t.i] T)).cell? ((⟨w.heap.size,0,none⟩:Addr).add j)=some u :=
 World.news_of_block (alloc_new w _)
theorem madeE_above {B:Nat} {w:World} {v:Value} {ps:List (En × Value)} (h:MadeE B w v ps):∀ k,v.ownBlock=some k→B≤k:=fun k hk=>(h.own.lt k hk).1
theorem madeE_push {B:Nat} {wr w2 w3:World} {v:Value} {ps:List (En × Value)} {t:En} {s2:Value} {g cap:Nat} (h:MadeE B wr v ps) (hf:t.fine) (hB:B≤wr.heap.size) (hb2:Below wr.heap.size wr w2) (hk:LiesP w2 (Own wr.heap.size w2) t.a.kids s2) (o:Obj)
 (hown:w3.ownsRow B 61 6 (.slice (some ⟨g,0,none⟩) (ps.length+1) cap) (ps.length+1) (cells6 ps++cells6 [(t,s2)])) (hgrow:(w2.alloc o).grownBy w3 v.ownBlock) (hat:v.ownBlock=some g∨g=w2.heap.size+1) :
 MadeE B w3 (.slice (some ⟨g,0,none⟩) (ps.length+1) cap) (ps++[(t,s2)]) :=
 madeE_step (madeE_later (madeE_later h hb2) ((Below.refl _ _).alloc (Nat.le_refl _) _)) hf
  (hk.keep (fun b _ hlt=>Below.heap_alloc _ _ _ hlt) (fun b hb hlt=>⟨(hb.same (Below.heap_alloc _ _ _ hlt)).from hB,madeE_block h hb.1⟩)) hown hgrow (by simpa using hat)
theorem info_entry:(Try.prog.info? 61).map (fun i=>(i.zero,i.size,i.bytes))=some (some (.agg #[.int .i64 0,.int .i64 0,.int .i64 0,.int .i64 0,.slice none 0 0,.int .i64 0]),6,64):=by kernel_rfl
end Go.Proofs.Ytgnllglbopaheaa

namespace Go.Proofs.Ytgnllglbopaheaa
open Go.RowKit
set_option maxHeartbeats 2000000 in
theorem same_any (t:Tm):∀ (u:Tm) (w:World) (s r:Value),Lies w t.kids s→Lies w u.kids r→Calls Try.prog 46 #[tv t s,tv u r] w fun e w'=>e=.returned (.bool (sameB t u))∧Below w.heap.size w w':=by
 induction t using Tm.ind with
 | h t ih =>
  intro u w s r hl hm
  obtain⟨a,cap,S,rfl,hc,hmx,-,hn,hk⟩:=hl.out
  obtain⟨a2,cap2,S2,rfl,hc2,hmx2,-,hn2,hk2⟩:=hm.out
  unfold maxLen at hmx hmx2
  have IH:=Lib.hid ih
  have HN:=Lib.hid hn
  have HK:=Lib.hid hk
  have HN2:=Lib.hid hn2
  have HK2:=Lib.hid hk2
  have HE:=Lib.hid (sameB_eq t u)
  have H0:=held2_start w t (.slice a t.kids.length cap) u (.slice a2 u.kids.length cap2)
  clear hl hm ih hn hk hn2 hk2
  unfold tv
  cases ek:(t.k==u.k)
  ·have nek:(t.k != u.k)=true:=by simp only [bne,ek,Bool.not_false]
   go_enter Try.func46,Try.ntmps46
   go_wp2
   go_ret
   exact⟨ret_bool (by rw [HE.out];simp only [ek,Bool.false_and]),held2_below H0⟩
  have nek:(t.k != u.k)=false:=by simp only [bne,ek,Bool.not_true]
  cases ei:(t.i==u.i)
  ·have nei:(t.i != u.i)=true:=by simp only [bne,ei,Bool.not_false]
   go_enter Try.func46,Try.ntmps46
   go_wp2
   go_ret
   exact⟨ret_bool (by rw [HE.out];simp only [ek,ei,Bool.false_and,Bool.true_and]),held2_below H0⟩
  have nei:(t.i != u.i)=false:=by simp only [bne,ei,Bool.not_true]
  cases ej:(t.j==u.j)
  ·have nej:(t.j != u.j)=true:=by simp only [bne,ej,Bool.not_false]
   go_enter Try.func46,Try.ntmps46
   go_wp2
   go_ret
   exact⟨ret_bool (by rw [HE.out];simp only [ek,ei,ej,Bool.false_and,Bool.true_and]),held2_below H0⟩
  have nej:(t.j != u.j)=false:=by simp only [bne,ej,Bool.not_true]
  cases en:(t.n==u.n)
  ·have nen:(t.n != u.n)=true:=by simp only [bne,en,Bool.not_false]
   go_enter Try.func46,Try.ntmps46
   go_wp2
   go_ret
   exact⟨ret_bool (by rw [HE.out];simp only [ek,ei,ej,en,Bool.false_and,Bool.true_and]),held2_below H0⟩
  have nen:(t.n != u.n)=false:=by simp only [bne,en,Bool.not_true]
  have HE2:Hid (sameB t u=samesB t.kids u.kids):=by show _=_;rw [HE.out];simp only [ek,ei,ej,en,Bool.true_and]
  by_cases hlen:t.kids.length=u.kids.length
  rotate_left
  ·have h1:((t.kids.length:Int)==(u.kids.length:Int))=false:=by simp;omega
   have h2:((t.kids.length:Int) != (u.kids.length:Int))=true:=by simp;omega
   have HS:=Lib.hid (sames_ne hlen)
   clear hlen
   go_enter Try.func46,Try.ntmps46
   go_wp2
   go_ret
   exact⟨ret_bool (by rw [HE2.out];exact HS.out.symm),held2_below H0⟩
  have h1:((t.kids.length:Int)==(u.kids.length:Int))=true:=by simp;omega
  have h2:((t.kids.length:Int) != (u.kids.length:Int))=false:=by simp;omega
  have HL:=Lib.hid hlen
  clear hlen
  go_enter Try.func46,Try.ntmps46
  go_wp2
  go_loopw [45] (fun iv wr=>∃ k:Nat,k≤t.kids.length∧iv=.int .i64 k∧Hid (samesB (t.kids.take k) (u.kids.take k)=true)∧Held2 w t (.slice a t.kids.length cap) u (.slice a2 u.kids.length cap2) wr) (fun iv _=>t.kids.length-(intOf iv).toNat)
  case atStart=>exact⟨0,Nat.zero_le _,rfl,by simp [Hid,samesB],H0⟩
  case round =>
   obtain⟨k,hk,rfl,hgood,hh⟩:=hrel
   obtain⟨p0,p1,p2,p3,p4,q0,q1,q2,q3,q4⟩:=held2_cells hh
   have hb:=held2_below hh
   by_cases hlt:k<t.kids.length
   ·have hlt2:k<u.kids.length:=by have:=HL.out;omega
    obtain⟨b,o,rfl,hx⟩:=HN.out k hlt
    obtain⟨b2,o2,rfl,hx2⟩:=HN2.out k hlt2
    obtain⟨c0,c1,c2,c3,c4⟩:=hx.below hb hx.lt
    have hyy:=hx2.below hb hx2.lt
    have hq:=(HK.out k hlt).keep hb
    have hq2:=(HK2.out k hlt2).keep hb
    obtain⟨a',cap',S',hS,-⟩:=hq.out
    obtain⟨a2',cap2',S2',hS2,-⟩:=hq2.out
    rw [hS] at c4 hq
    rw [hS2] at hyy hq2
    have HQ:=Lib.hid hq
    have HQ2:=Lib.hid hq2
    have HM:=Lib.hid (List.getElem_mem hlt)
    have HT:=Lib.hid (sames_take t.kids u.kids k hlt hlt2)
    have HO:=Lib.hid (sames_of t.kids u.kids k hlt hlt2)
    clear hS hS2 hq hq2
    have hh2:=held2_alloc hh (.cells #[.int .i64 t.kids[k].k,.int .i64 t.kids[k].i,.int .i64 t.kids[k].j,.int .i64 t.kids[k].n,.slice a' t.kids[k].kids.length cap'] 38)
    obtain⟨f0,f1,f2,f3,f4,g0,g1,g2,g3,g4⟩:=held2_cells hh2
    obtain⟨e0,e1,e2,e3,e4⟩:=hyy.below ((Below.refl wr.heap.size wr).alloc (Nat.le_refl _) (.cells #[.int .i64 t.kids[k].k,.int .i64 t.kids[k].i,.int .i64 t.kids[k].j,.int .i64 t.kids[k].n,.slice a' t.kids[k].kids.length cap'] 38)) hyy.lt
    have HNEW:=Lib.hid ((Below.refl wr.heap.size wr).alloc (Nat.le_refl _) (.cells #[.int .i64 t.kids[k].k,.int .i64 t.kids[k].i,.int .i64 t.kids[k].j,.int .i64 t.kids[k].n,.slice a' t.kids[k].kids.length cap'] 38))
    go_wp2
    go_region_with (go_at_call 46;refine(IH.out _ HM.out _ _ _ _ (HQ.out.keep HNEW.out.drew) (HQ2.out.keep HNEW.out.drew)).mono ?_;rintro e wn ⟨rfl,hb'⟩;have HB3:=held2_call (held2_drew hh2) hb';clear hb';obtain⟨x0,x1,x2,x3,x4,z0,z1,z2,z3,z4⟩:=held2_cells HB3)
    all_goals
     clear hh hh2 HNEW e0 e1 e2 e3 e4 f0 f1 f2 f3 f4 g0 g1 g2 g3 g4 c0 c1 c2 c3 c4 p0 p1 p2 p3 p4 q0 q1 q2 q3 q4 hb
     cases hs:sameB t.kids[k] u.kids[k]
     ·go_wp2
      go_ret
      exact⟨ret_bool (by rw [HE2.out];exact(HO.out hs).symm),held2_below HB3⟩
     ·go_wp2
      go_roundw
      case rel=>exact⟨k+1,by omega,by go_num,by show _=true;rw [HT.out,hgood.out,hs];rfl,HB3⟩
      case measure=>simp [intOf];omega
   ·have:k=t.kids.length:=by omega
    subst this
    go_wp2
    go_ret
    exact⟨ret_bool (by have hg:=hgood.out;rw [List.take_length,HL.out,List.take_length] at hg;rw [HE2.out];exact hg.symm),hb⟩
end Go.Proofs.Ytgnllglbopaheaa

namespace Go.Proofs.Ytgnllglbopaheaa
open Go
theorem take_at {P:Program} {ops:Array Oper} {Q:Exit→Act→World→Prop} {md:Region.Mode} {S:World→Prop} (i d:Nat) (oi:Oper) {v:Value} {fuel:Nat} {listed:Array Bool} {a:Act} {w:World} (hy:YieldsIf P ops S oi v a)
 (h:wpAnyH P md ops Q S fuel (listed.setIfInBounds i true) (a.put (some d) v) w)
 (hi:ops[i]? =some oi:=by rfl) (hd:oi.dst=some d:=by rfl)
 (hs:Region.noSelect ops=true:=by kernel_rfl) (hf:Region.free md ops listed i=true:=by kernel_rfl) (hr:(Region.ready md ops listed).contains i=true:=by kernel_rfl)
 (hQ:∀ c a w,Q (.panic c) (a.put (some d) v) w→Q (.panic c) a w:=by exact fun _ _ _ h=>h) (hS:S w:=by assumption):wpAnyH P md ops Q S (fuel+1) listed a w:=by
 rw [←hd] at hQ h
 exact wpAnyH_take hi hs hf hr hQ hy hS h
end Go.Proofs.Ytgnllglbopaheaa

namespace Go.Proofs.Ytgnllglbopaheaa
open Go.RowKit
structure Jd where
 eq:Bool
 u:Tm
 v:Tm
 a:Tm
 i:Int
def Jd.fine (j:Jd):Prop:=j.u.fine∧j.v.fine∧j.a.fine∧I64 j.i
abbrev jv (j:Jd) (su sv sa:Value):Value:=.agg #[.bool j.eq,.int .i64 j.u.k,.int .i64 j.u.i,.int .i64 j.u.j,.int .i64 j.u.n,su,.int .i64 j.v.k,.int .i64 j.v.i,.int .i64 j.v.j,.int .i64 j.v.n,sv,.int .i64 j.a.k,.int .i64 j.a.i,.int .i64 j.a.j,.int .i64 j.a.n,sa,.int .i64 j.i]
def JLies (w:World) (j:Jd) (su sv sa:Value):Prop:=Lies w j.u.kids su∧Lies w j.v.kids sv∧Lies w j.a.kids sa
def JNode (w:World) (b o:Nat) (j:Jd) (su sv sa:Value):Prop:=w.cell? ⟨b,o,none⟩=some (.bool j.eq)∧w.cell? ⟨b,o+1,none⟩=some (.int .i64 j.u.k)∧w.cell? ⟨b,o+2,none⟩=some (.int .i64 j.u.i)∧w.cell? ⟨b,o+3,none⟩=some (.int .i64 j.u.j)∧w.cell? ⟨b,o+4,none⟩=some (.int .i64 j.u.n)∧w.cell? ⟨b,o+5,none⟩=some (su)∧w.cell? ⟨b,o+6,none⟩=some (.int .i64 j.v.k)∧w.cell? ⟨b,o+7,none⟩=some (.int .i64 j.v.i)∧w.cell? ⟨b,o+8,none⟩=some (.int .i64 j.v.j)∧w.cell? ⟨b,o+9,none⟩=some (.int .i64 j.v.n)∧w.cell? ⟨b,o+10,none⟩=some (sv)∧w.cell? ⟨b,o+11,none⟩=some (.int .i64 j.a.k)∧w.cell? ⟨b,o+12,none⟩=some (.int .i64 j.a.i)∧w.cell? ⟨b,o+13,none⟩=some (.int .i64 j.a.j)∧w.cell? ⟨b,o+14,none⟩=some (.int .i64 j.a.n)∧w.cell? ⟨b,o+15,none⟩=some (sa)∧w.cell? ⟨b,o+16,none⟩=some (.int .i64 j.i)
theorem JNode.lt {w:World} {b o:Nat} {j:Jd} {su sv sa:Value} (h:JNode w b o j su sv sa):b<w.heap.size:=World.block_lt_of_cell? _ _ h.1
theorem JNode.same {w w':World} {b o:Nat} {j:Jd} {su sv sa:Value} (h:JNode w b o j su sv sa) (hb:w'.heap[b]? =w.heap[b]?):JNode w' b o j su sv sa:=by
 have hc:∀ q,w'.cell? ⟨b,q,none⟩=w.cell? ⟨b,q,none⟩:=fun q=>World.cell?_of_block (a:=⟨b,q,none⟩) hb
 obtain⟨x0,x1,x2,x3,x4,x5,x6,x7,x8,x9,x10,x11,x12,x13,x14,x15,x16⟩:=h
 exact⟨(hc _).trans x0,(hc _).trans x1,(hc _).trans x2,(hc _).trans x3,(hc _).trans x4,(hc _).trans x5,(hc _).trans x6,(hc _).trans x7,(hc _).trans x8,(hc _).trans x9,(hc _).trans x10,(hc _).trans x11,(hc _).trans x12,(hc _).trans x13,(hc _).trans x14,(hc _).trans x15,(hc _).trans x16⟩
end Go.Proofs.Ytgnllglbopaheaa

namespace Go.Proofs.Ytgnllglbopaheaa
open Go.RowKit
theorem yields_row {P:Program} {ops:Array Oper} {S:World→Prop} {oi:Oper} {a:Act} (g:Nat) (ty t:TypeId) (x:Operand) (cs:Array Value) (fr:Nat × Nat) (d:TypeDesc) (hw:Region.wanted oi (yielded ops a.tmps)=true) (ho:oi.op=.load ty x)
 (hx:a.eval x=.pointer (some ⟨g,0,none⟩)) (hS:∀ w,S w→w.heap[g]? =some (.cells cs t fr))
 (hu:P.underlying ty=some d) (hd:(match d with | .struct _ | .array _ _=>true | _=>false)=true) (hi:(P.info? ty).map (·.size)=some cs.size):YieldsIf P ops S oi (.agg cs) a:=by
 refine .inl ⟨hw,fun w h=>?_⟩
 have hr:=run_loadVar_row (P:=P) w g t ty cs fr d (hS w h) hu hd hi
 unfold execOp
 simp only [ho,hx,Instr.loadAt,Instr.sureAddr,Sem.run_bind,Sem.run_pure,Result.andThen_ok,hr]
end Go.Proofs.Ytgnllglbopaheaa
