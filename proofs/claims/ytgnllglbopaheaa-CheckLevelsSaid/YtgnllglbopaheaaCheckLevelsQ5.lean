/-
  Facts and contracts that the proof of CheckLevels uses.
-/
import Derived.Test.YtgnllglbopaheaaRows
import Derived.WalkKit
import Derived.Lib.Hide
import Derived.KernelRfl
import Derived.Deep.RegionWith
import Derived.Deep.RegionHeld3
import Derived.Deep.AppendLies
import Derived.Laws.Rows
import Derived.Laws.IdiomCopy
import Derived.Deep.Slices
import Derived.Lib.QuietBelow
import Derived.StillTailTactics
import Derived.BigQuiet
import Derived.IntWalk
import Derived.OwnWalk
import Derived.Deep.RegionLaw
import Derived.Deep.QuietTactic
import Derived.Deep.LoopGhost
import Derived.Deep.DeepCutAuto
import Derived.Deep.MidRow
import Derived.OrdersHeld
import Derived.Laws.Tables
import Derived.Laws.CopyOwn
import Derived.Laws.CopyRow
import Derived.Maps.AppendAt
import Derived.Lib.Builder
import Derived.Shelf.Spec.SlicesInsertGrow
import Derived.Below
import Derived.Lib.MinMax
import Derived.Deep.RegionHeld
import Derived.Deep.Upon
import Derived.ArgAppend
import Derived.Laws.EntriesVeiled
import GoSem.Core.Float
import Derived.ProofKit
import Derived.LoopTactic
import Derived.Laws.Cover2
import Derived.Laws.FloatArith
import Derived.Laws.Externs
import Derived.RowKit
import Derived.Deep.Cut
import Derived.Deep.CutBlock
import Derived.OpenShut
import Derived.Carry
import Derived.ChangeSlices
import Derived.JoinedOf
import Derived.Test.YtgnllglbopaheaaCheckLevelsQ4
namespace Go.Proofs.Ytgnllglbopaheaa.Se
open Go Go.RowKit
theorem lift_fine15 (t:Tm) (k c:Int):(t.liftB k c).fine:=by
 unfold Tm.liftB
 split
 ·exact zero_fine
 ·rename_i h
  cases hu:t.each (liftF k c) 0 with
  | none=>exact zero_fine
  | some u=>exact right_fine (right_each _ (liftF_range k c (by omega)) t 0 u (by cases hr:t.rightB with | true=>rfl | false=>exact absurd (Or.inr (Or.inr hr)) h) hu)
def onT (a:List F15) (k:Tm→Option (List (Bool × List F15) × Bool × List Prop × List Bool)):=match tmOf a with
 | some t=>k t
 | none=>none
def oneT (t:Tm) (pre:List Prop) (orc:List Bool):Option (List (Bool × List F15) × Bool × List Prop × List Bool):=some ([(true,tmF t)],false,pre,orc)
def mk5 (k i j:F15) (l:List Tm) (pre:List Prop) (orc:List Bool):Option (List (Bool × List F15) × Bool × List Prop × List Bool):=some ([(true,[k,i,j,.int 0,.dat (.tms l)])],false,pre,orc)
def oneB (b:Bool) (orc:List Bool):Option (List (Bool × List F15) × Bool × List Prop × List Bool):=some ([(false,[.obool b])],false,[],orc)
def atU (l:List En) (k:Int):Tm:=if 0≤k∧k<l.length∧rightC l=true then(((l[l.length-1-k.toNat]?).map (fun(e:En)=>e.a)).getD Tm.zero).liftB (k+1) 0 else Tm.zero
def atI (l:List En) (k:Int):Int:=if 0≤k∧k<l.length∧rightC l=true then((l[l.length-1-k.toNat]?).map (fun(e:En)=>e.i)).getD 0 else 0
def atB (l:List En) (k:Int):Bool:=decide (0≤k∧k<l.length∧rightC l=true)
theorem at_is (l:List En) (k:Int):AtIs l k (atU l k) (atI l k) (atB l k):=by
 unfold AtIs atU atI atB
 by_cases h:0≤k∧k<l.length∧rightC l=true
 ·refine Or.inl ⟨by simp [h],k.toNat,by omega,by omega,h.2.2,?_,?_⟩
  ·rw [if_pos h,List.getElem?_eq_getElem (show l.length-1-k.toNat<l.length by omega)]
   simp only [Option.map_some,Option.getD_some]
   congr 1
   omega
  ·rw [if_pos h,List.getElem?_eq_getElem (show l.length-1-k.toNat<l.length by omega)]
   rfl
 ·exact Or.inr ⟨by simp [h],h,by rw [if_neg h],by rw [if_neg h]⟩
def base15:Spec D15:=fun f args orc =>
 bif Nat.beq f 59 then(match args with
  | [(true,a),(true,b)]=>onT a fun t=>onT b fun u=>oneT (t.putB u) [t.deep≤100000,u.deep≤100000] orc
  | _=>none)
 else bif Nat.beq f 67 then(match args with
  | [(true,a),(false,[k]),(false,[c])]=>match intOf k,intOf c with
   | some k,some c=>onT a fun t=>oneT (t.liftB k c) [t.deep≤100000] orc
   | _,_=>none
  | _=>none)
 else bif Nat.beq f 46 then(match args with
  | [(true,a),(true,b)]=>onT a fun t=>onT b fun u=>oneB (sameB t u) orc
  | _=>none)
 else bif Nat.beq f 21 then(match args with
  | [(true,a)]=>onT a fun t=>oneT t [t.size≤10000000] orc
  | _=>none)
 else bif Nat.beq f 37 then(match args with
  | [(true,a),(false,[n])]=>match jdOf a,intOf n with
   | some j,some n=>oneB (rightJ j n) orc
   | _,_=>none
  | _=>none)
 else bif Nat.beq f 54 then(match args with
  | [(true,[i,j,a1,a2,a3,a4,a5,b1,b2,b3,b4,b5,c1,c2,c3,c4,c5,d1,d2,d3,d4,d5,ok]),(false,[k]),(false,[m])]=>match intOf i,intOf j,intOf k,tmsOf m,boolOf ok with
   | some _,some _,some _,some m,some _=>onT [a1,a2,a3,a4,a5] fun a=>onT [b1,b2,b3,b4,b5] fun b=>onT [c1,c2,c3,c4,c5] fun _=>onT [d1,d2,d3,d4,d5] fun _=>mk5 k i j (a::b::m) [m.length≤10] orc
   | _,_,_,_,_=>none
  | _=>none)
 else bif Nat.beq f 83 then(match args with
  | [(true,[i,j,a1,a2,a3,a4,a5,b1,b2,b3,b4,b5,c1,c2,c3,c4,c5,d1,d2,d3,d4,d5,ok]),(false,[k]),(false,[m])]=>match intOf i,intOf j,intOf k,tmsOf m,boolOf ok with
   | some _,some _,some _,some m,some _=>onT [a1,a2,a3,a4,a5] fun _=>onT [b1,b2,b3,b4,b5] fun _=>onT [c1,c2,c3,c4,c5] fun c=>onT [d1,d2,d3,d4,d5] fun d=>mk5 k i j (c::d::m) [m.length≤10] orc
   | _,_,_,_,_=>none
  | _=>none)
 else bif Nat.beq f 35 then(match args with
  | [(false,[c])]=>match entsOf c with
   | some c=>oneB (purC c) orc
   | none=>none
  | _=>none)
 else bif Nat.beq f 51 then(match args with
  | [(false,[c]),(false,[k])]=>match entsOf c,intOf k with
   | some c,some k=>some ([(true,tmF (atU c k)),(false,[.oint (atI c k)]),(false,[.obool (atB c k)])],true,[c.length≤100000,∀ e ∈ c,e.a.deep≤100000],orc)
   | _,_=>none
  | _=>none)
 else none
theorem ret_T {w w':World} {A:Nat→Prop} {t:Tm} {e:Ending} (hf:t.fine) (h:GivesP A t w e w'):Gives A [(true,tmF t)] false w e w':=by
 obtain⟨s,rfl,hk,hb⟩:=h
 exact⟨_,rfl,⟨_,rfl,_,rfl,tmF_den hf hk⟩,hb⟩
theorem ret_5 {w w':World} {A:Nat→Prop} {k i j:F15} {a b:Tm} {m:List Tm} {k' i' j':Int} {e:Ending} (hk:intOf k=some k') (hi:intOf i=some i') (hj:intOf j=some j') (rk:I64 k') (ri:I64 i') (rj:I64 j') (h:GivesP A (fmk k' i' j' a b m) w e w'):Gives A [(true,[k,i,j,.int 0,.dat (.tms (a::b::m))])] false w e w':=by
 obtain⟨s,rfl,hs,hb⟩:=h
 have hd:∀ {x:F15} {n:Int},intOf x=some n→I64 n→FLDen w' (fun b=>A b∨w.heap.size≤b) x (.int .i64 n):=by
  intro x n hx hr
  cases x<;>simp only [intOf] at hx<;>first | (cases hx;done) | (obtain rfl:=Option.some.inj hx;exact⟨rfl,hr⟩)
 exact⟨_,rfl,⟨_,rfl,_,rfl,hd hk rk,hd hi ri,hd hj rj,⟨rfl,by unfold I64;decide⟩,hs,trivial⟩,hb⟩
theorem ret_B {w w':World} {A:Nat→Prop} {b:Bool} {e:Ending} (h:e=.returned (.bool b)∧Below w.heap.size w w'):Gives (D:=D15) A [(false,[.obool b])] false w e w':=by
 obtain⟨rfl,hb⟩:=h
 exact⟨_,rfl,⟨_,rfl,_,rfl,rfl⟩,hb⟩
theorem onT_some {a:List F15} {k:Tm→Option (List (Bool × List F15) × Bool × List Prop × List Bool)} {r:List (Bool × List F15) × Bool × List Prop × List Bool} (h:onT a k=some r):∃ t,tmOf a=some t∧k t=some r:=by
 unfold onT at h
 cases ht:tmOf a with
 | none=>rw [ht] at h;cases h
 | some t=>rw [ht] at h;exact⟨t,rfl,h⟩
theorem arg_T {w:World} {A:Nat→Prop} {a:List F15} {v:Value} {t:Tm} (h:ArgDen w A (true,a) v) (ht:tmOf a=some t):∃ s,v=tv t s∧t.fine∧LiesQ w A t.kids s:=by
 obtain⟨vs,rfl,hv⟩:=h
 obtain⟨s,rfl,hf,hk⟩:=tmOf_den ht hv
 exact⟨s,rfl,hf,hk⟩
theorem arg_I {w:World} {A:Nat→Prop} {a:F15} {v:Value} {n:Int} (h:ArgDen w A (false,[a]) v) (ht:intOf a=some n):v=.int .i64 n∧I64 n:=by
 obtain⟨x,hx,hv⟩:=h
 cases hx
 cases a<;>simp only [intOf] at ht<;>first | (cases ht;done) | (obtain rfl:=Option.some.inj ht;exact hv)
theorem arg_M {w:World} {A:Nat→Prop} {a:F15} {v:Value} {l:List Tm} (h:FLDen w A a v) (ht:tmsOf a=some l):LiesQ w A l v:=by
 cases a with
 | nil=>obtain rfl:=Option.some.inj ht;obtain rfl:v=.slice none 0 0:=h;exact liesQ_nil w A
 | dat d=>cases d<;>simp only [tmsOf] at ht<;>first | (cases ht;done) | (obtain rfl:=Option.some.inj ht;exact h)
 | _=>cases ht
theorem arg_E {w:World} {A:Nat→Prop} {a:F15} {v:Value} {l:List En} (h:ArgDen w A (false,[a]) v) (ht:entsOf a=some l):LiesE w l v:=by
 obtain⟨x,hx,hv⟩:=h
 cases hx
 cases a with
 | nil=>obtain rfl:=Option.some.inj ht;obtain rfl:v=.slice none 0 0:=hv;exact liesE_nil w
 | dat d=>cases d<;>simp only [entsOf] at ht<;>first | (cases ht;done) | (obtain rfl:=Option.some.inj ht;exact liesEQ_lies hv)
 | _=>cases ht
end Go.Proofs.Ytgnllglbopaheaa.Se

namespace Go.Proofs.Ytgnllglbopaheaa.Se
open Go Go.RowKit
theorem F2.two {α β:Type} {R:α→β→Prop} {a b:α} {l:List β} (h:F2 R [a,b] l):∃ x y,l=[x,y]∧R a x∧R b y:=by
 match l,h with
 | [x,y],h=>exact⟨x,y,rfl,h.1,h.2.1⟩
theorem F2.one {α β:Type} {R:α→β→Prop} {a:α} {l:List β} (h:F2 R [a] l):∃ x,l=[x]∧R a x:=by
 match l,h with
 | [x],h=>exact⟨x,rfl,h.1⟩
theorem F2.three {α β:Type} {R:α→β→Prop} {a b c:α} {l:List β} (h:F2 R [a,b,c] l):∃ x y z,l=[x,y,z]∧R a x∧R b y∧R c z:=by
 match l,h with
 | [x,y,z],h=>exact⟨x,y,z,rfl,h.1,h.2.1,h.2.2.1⟩
theorem fam_den {w:World} {A:Nat→Prop} {i j a1 a2 a3 a4 a5 b1 b2 b3 b4 b5 c1 c2 c3 c4 c5 d1 d2 d3 d4 d5 ok:F15} {v:Value} (h:ArgDen w A (true,[i,j,a1,a2,a3,a4,a5,b1,b2,b3,b4,b5,c1,c2,c3,c4,c5,d1,d2,d3,d4,d5,ok]) v) {i' j':Int} {o:Bool} {a b c d:Tm}
 (hi:intOf i=some i') (hj:intOf j=some j') (ho:boolOf ok=some o) (ha:tmOf [a1,a2,a3,a4,a5]=some a) (hb:tmOf [b1,b2,b3,b4,b5]=some b) (hc:tmOf [c1,c2,c3,c4,c5]=some c) (hd:tmOf [d1,d2,d3,d4,d5]=some d) :
 ∃ sa sb sc sd,v=.agg #[.int .i64 i',.int .i64 j',.int .i64 a.k,.int .i64 a.i,.int .i64 a.j,.int .i64 a.n,sa,.int .i64 b.k,.int .i64 b.i,.int .i64 b.j,.int .i64 b.n,sb,.int .i64 c.k,.int .i64 c.i,.int .i64 c.j,.int .i64 c.n,sc,.int .i64 d.k,.int .i64 d.i,.int .i64 d.j,.int .i64 d.n,sd,.bool o] ∧
  I64 i'∧I64 j'∧(a.fine∧LiesQ w A a.kids sa)∧(b.fine∧LiesQ w A b.kids sb)∧(c.fine∧LiesQ w A c.kids sc)∧(d.fine∧LiesQ w A d.kids sd):=by
 obtain⟨vs,rfl,hv⟩:=h
 match vs,hv with
 | [vi,vj,x1,x2,x3,x4,x5,y1,y2,y3,y4,y5,z1,z2,z3,z4,z5,u1,u2,u3,u4,u5,vo],hv =>
  obtain⟨h1,h2,e1,e2,e3,e4,e5,f1,f2,f3,f4,f5,g1,g2,g3,g4,g5,k1,k2,k3,k4,k5,ho',-⟩:=hv
  obtain⟨sa,ea,fa,la⟩:=tmOf_den (vs:=[x1,x2,x3,x4,x5]) ha ⟨e1,e2,e3,e4,e5,trivial⟩
  obtain⟨sb,eb,fb,lb⟩:=tmOf_den (vs:=[y1,y2,y3,y4,y5]) hb ⟨f1,f2,f3,f4,f5,trivial⟩
  obtain⟨sc,ec,fc,lc⟩:=tmOf_den (vs:=[z1,z2,z3,z4,z5]) hc ⟨g1,g2,g3,g4,g5,trivial⟩
  obtain⟨sd,ed,fd,ld⟩:=tmOf_den (vs:=[u1,u2,u3,u4,u5]) hd ⟨k1,k2,k3,k4,k5,trivial⟩
  cases ea
  cases eb
  cases ec
  cases ed
  obtain⟨rfl,r1⟩:=arg_I (a:=i) ⟨i,rfl,h1⟩ hi
  obtain⟨rfl,r2⟩:=arg_I (a:=j) ⟨j,rfl,h2⟩ hj
  have hvo:vo=.bool o:=by
   cases ok<;>simp only [boolOf] at ho<;>first | (cases ho;done) | (obtain rfl:=Option.some.inj ho;exact ho')
  subst hvo
  exact⟨_,_,_,_,rfl,r1,r2,⟨fa,la⟩,⟨fb,lb⟩,⟨fc,lc⟩,⟨fd,ld⟩⟩
theorem jd_den {w:World} {A:Nat→Prop} {l:List F15} {v:Value} {j:Jd} (h:ArgDen w A (true,l) v) (hj:jdOf l=some j):∃ su sv sa,v=jv j su sv sa∧j.fine∧LiesQ w A j.u.kids su∧LiesQ w A j.v.kids sv∧LiesQ w A j.a.kids sa:=by
 obtain⟨vs,rfl,hv⟩:=h
 unfold jdOf at hj
 split at hj
 ·rename_i e a1 a2 a3 a4 a5 b1 b2 b3 b4 b5 c1 c2 c3 c4 c5 i
  split at hj
  ·rename_i e' u v a i' he hu hv' ha hi
   obtain rfl:=Option.some.inj hj
   match vs,hv with
   | [ve,x1,x2,x3,x4,x5,y1,y2,y3,y4,y5,z1,z2,z3,z4,z5,vi],hv =>
    obtain⟨h0,e1,e2,e3,e4,e5,f1,f2,f3,f4,f5,g1,g2,g3,g4,g5,h1,-⟩:=hv
    obtain⟨sa,ea,fa,la⟩:=tmOf_den (vs:=[x1,x2,x3,x4,x5]) hu ⟨e1,e2,e3,e4,e5,trivial⟩
    obtain⟨sb,eb,fb,lb⟩:=tmOf_den (vs:=[y1,y2,y3,y4,y5]) hv' ⟨f1,f2,f3,f4,f5,trivial⟩
    obtain⟨sc,ec,fc,lc⟩:=tmOf_den (vs:=[z1,z2,z3,z4,z5]) ha ⟨g1,g2,g3,g4,g5,trivial⟩
    cases ea
    cases eb
    cases ec
    obtain⟨rfl,r1⟩:=arg_I (a:=i) ⟨i,rfl,h1⟩ hi
    have hvo:ve=.bool e':=by
     cases e<;>simp only [boolOf] at he<;>first | (cases he;done) | (obtain rfl:=Option.some.inj he;exact h0)
    subst hvo
    exact⟨_,_,_,rfl,⟨fa,fb,fc,r1⟩,la,lb,lc⟩
  ·cases hj
 ·cases hj
theorem base15_ok:SpecOk Try.prog base15:=by
 intro f args orc ret tup pre orc' h
 unfold base15 at h
 cases hb:Nat.beq f 59 with
 | true =>
  obtain rfl:=Nat.eq_of_beq_eq_true hb
  simp only [hb,cond_true] at h
  split at h
  ·rename_i a b
   obtain⟨t,ht,h⟩:=onT_some h
   obtain⟨u,hu,h⟩:=onT_some h
   cases h
   refine⟨⟨_,_,Try.func59,by kernel_rfl,rfl⟩,fun hp w A vs hv=>?_⟩
   obtain⟨x,y,rfl,h1,h2⟩:=hv.two
   obtain⟨s,rfl,f1,l1⟩:=arg_T h1 ht
   obtain⟨r,rfl,f2,l2⟩:=arg_T h2 hu
   exact(put_any t u w s r l1.lies l2.lies hp.1 hp.2.1).mono fun e w' he=>ret_T (rput_fine t u) he.givesP
  ·cases h
 | false =>
 simp only [hb,cond_false] at h
 clear hb
 cases hb:Nat.beq f 67 with
 | true =>
  obtain rfl:=Nat.eq_of_beq_eq_true hb
  simp only [hb,cond_true] at h
  split at h
  ·rename_i a k c
   split at h
   ·rename_i k' c' hk hc
    obtain⟨t,ht,h⟩:=onT_some h
    cases h
    refine⟨⟨_,_,Try.func67,by kernel_rfl,rfl⟩,fun hp w A vs hv=>?_⟩
    obtain⟨x,y,z,rfl,h1,h2,h3⟩:=hv.three
    obtain⟨s,rfl,f1,l1⟩:=arg_T h1 ht
    obtain⟨rfl,r2⟩:=arg_I h2 hk
    obtain⟨rfl,r3⟩:=arg_I h3 hc
    exact(lift_any t _ _ w s l1.lies r2 r3 hp.1).mono fun e w' he=>ret_T (lift_fine15 t _ _) he.givesP
   ·cases h
  ·cases h
 | false =>
 simp only [hb,cond_false] at h
 clear hb
 cases hb:Nat.beq f 46 with
 | true =>
  obtain rfl:=Nat.eq_of_beq_eq_true hb
  simp only [hb,cond_true] at h
  split at h
  ·rename_i a b
   obtain⟨t,ht,h⟩:=onT_some h
   obtain⟨u,hu,h⟩:=onT_some h
   cases h
   refine⟨⟨_,_,Try.func46,by kernel_rfl,rfl⟩,fun hp w A vs hv=>?_⟩
   obtain⟨x,y,rfl,h1,h2⟩:=hv.two
   obtain⟨s,rfl,f1,l1⟩:=arg_T h1 ht
   obtain⟨r,rfl,f2,l2⟩:=arg_T h2 hu
   exact(same_any t u w s r l1.lies l2.lies).mono fun e w' he=>ret_B he
  ·cases h
 | false =>
 simp only [hb,cond_false] at h
 clear hb
 cases hb:Nat.beq f 21 with
 | true =>
  obtain rfl:=Nat.eq_of_beq_eq_true hb
  simp only [hb,cond_true] at h
  split at h
  ·rename_i a
   obtain⟨t,ht,h⟩:=onT_some h
   cases h
   refine⟨⟨_,_,Try.func21,by kernel_rfl,rfl⟩,fun hp w A vs hv=>?_⟩
   obtain⟨x,rfl,h1⟩:=hv.one
   obtain⟨s,rfl,f1,l1⟩:=arg_T h1 ht
   exact(copy_big t w s l1.lies hp.1).mono fun e w' he=>ret_T f1 he.givesP
  ·cases h
 | false =>
 simp only [hb,cond_false] at h
 clear hb
 cases hb:Nat.beq f 37 with
 | true =>
  obtain rfl:=Nat.eq_of_beq_eq_true hb
  simp only [hb,cond_true] at h
  split at h
  ·rename_i a n
   split at h
   ·rename_i j n' hj hn
    cases h
    refine⟨⟨_,_,Try.func37,by kernel_rfl,rfl⟩,fun hp w A vs hv=>?_⟩
    obtain⟨x,y,rfl,h1,h2⟩:=hv.two
    obtain⟨su,sv,sa,rfl,⟨fu,fv,fa,ri⟩,lu,lv,la⟩:=jd_den h1 hj
    obtain⟨rfl,r2⟩:=arg_I h2 hn
    obtain⟨e,u,v,a,i⟩:=j
    cases e
    ·exact(rright0_any _ _ _ _ _ A w _ _ _ fu lu fv lv fa la ri r2).mono fun e w' he=>ret_B he
    ·exact(rright1_any _ _ _ _ _ A w _ _ _ fu lu fv lv fa la ri r2).mono fun e w' he=>ret_B he
   ·cases h
  ·cases h
 | false =>
 simp only [hb,cond_false] at h
 clear hb
 cases hb:Nat.beq f 54 with
 | true =>
  obtain rfl:=Nat.eq_of_beq_eq_true hb
  simp only [hb,cond_true] at h
  split at h
  ·split at h
   ·rename_i i j k m o hi hj hk hm ho
    obtain⟨a,ha,h⟩:=onT_some h
    obtain⟨b,hb',h⟩:=onT_some h
    obtain⟨c,hc,h⟩:=onT_some h
    obtain⟨d,hd,h⟩:=onT_some h
    cases h
    refine⟨⟨_,_,Try.func54,by kernel_rfl,rfl⟩,fun hp w A vs hv=>?_⟩
    obtain⟨x,y,z,rfl,h1,h2,h3⟩:=hv.three
    obtain⟨sa,sb,sc,sd,rfl,ri,rj,⟨fa,la⟩,⟨fb,lb⟩,⟨fc,lc⟩,⟨fd,ld⟩⟩:=fam_den h1 hi hj ho ha hb' hc hd
    obtain⟨rfl,rk⟩:=arg_I h2 hk
    obtain⟨_,hx,h3⟩:=h3
    cases hx
    exact(fmake_any _ _ _ _ _ _ _ _ _ A w _ _ _ _ _ ri rj fa la fb lb fc lc fd ld rk (arg_M h3 hm) hp.1).mono fun e w' he=>ret_5 hk hi hj rk ri rj he
   ·cases h
  ·cases h
 | false =>
 simp only [hb,cond_false] at h
 clear hb
 cases hb:Nat.beq f 83 with
 | true =>
  obtain rfl:=Nat.eq_of_beq_eq_true hb
  simp only [hb,cond_true] at h
  split at h
  ·split at h
   ·rename_i i j k m o hi hj hk hm ho
    obtain⟨a,ha,h⟩:=onT_some h
    obtain⟨b,hb',h⟩:=onT_some h
    obtain⟨c,hc,h⟩:=onT_some h
    obtain⟨d,hd,h⟩:=onT_some h
    cases h
    refine⟨⟨_,_,Try.func83,by kernel_rfl,rfl⟩,fun hp w A vs hv=>?_⟩
    obtain⟨x,y,z,rfl,h1,h2,h3⟩:=hv.three
    obtain⟨sa,sb,sc,sd,rfl,ri,rj,⟨fa,la⟩,⟨fb,lb⟩,⟨fc,lc⟩,⟨fd,ld⟩⟩:=fam_den h1 hi hj ho ha hb' hc hd
    obtain⟨rfl,rk⟩:=arg_I h2 hk
    obtain⟨_,hx,h3⟩:=h3
    cases hx
    exact(fother_any _ _ _ _ _ _ _ _ _ A w _ _ _ _ _ ri rj fa la fb lb fc lc fd ld rk (arg_M h3 hm) hp.1).mono fun e w' he=>ret_5 hk hi hj rk ri rj he
   ·cases h
  ·cases h
 | false =>
 simp only [hb,cond_false] at h
 clear hb
 cases hb:Nat.beq f 35 with
 | true =>
  obtain rfl:=Nat.eq_of_beq_eq_true hb
  simp only [hb,cond_true] at h
  split at h
  ·split at h
   ·rename_i c hc
    cases h
    refine⟨⟨_,_,Try.func35,by kernel_rfl,rfl⟩,fun hp w A vs hv=>?_⟩
    obtain⟨x,rfl,h1⟩:=hv.one
    exact(rulepure_any c w x (arg_E h1 hc)).mono fun e w' he=>ret_B he
   ·cases h
  ·cases h
 | false =>
 simp only [hb,cond_false] at h
 clear hb
 cases hb:Nat.beq f 51 with
 | true =>
  obtain rfl:=Nat.eq_of_beq_eq_true hb
  simp only [hb,cond_true] at h
  split at h
  ·split at h
   ·rename_i c k hc hk
    cases h
    refine⟨⟨_,_,Try.func51,by kernel_rfl,rfl⟩,fun hp w A vs hv=>?_⟩
    obtain⟨x,y,rfl,h1,h2⟩:=hv.two
    obtain⟨rfl,r2⟩:=arg_I h2 hk
    have hl:=arg_E h1 hc
    refine(ctxat_any c _ w x _ _ _ hl (at_is c _) hp.1 hp.2.1).mono fun e w' he=>?_
    obtain⟨s,rfl,hk',hb'⟩:=he
    have hf:(atU c k).fine:=by
     unfold atU
     split
     ·exact lift_fine15 _ _ _
     ·exact zero_fine
    have hi:I64 (atI c k):=by
     unfold atI
     split
     ·rename_i hh
      obtain⟨ad,cap,S,-,-,-,hfe,-⟩:=hl.out
      rw [List.getElem?_eq_getElem (show c.length-1-k.toNat<c.length by omega)]
      exact(hfe _ (List.getElem_mem _)).2
     ·unfold I64;decide
    have hq:=(Makes.givesP (P:=A) (u:=atU c k) (w:=w) ⟨s,rfl,hk',hb'⟩)
    obtain⟨s',e',hq1,hq2⟩:=hq
    obtain rfl:s=s':=by
     have:=Ending.returned.inj e'
     simpa [tv] using this
    exact⟨_,rfl,⟨_,rfl,⟨_,rfl,tmF_den hf hq1⟩,⟨_,rfl,rfl,hi⟩,⟨_,rfl,rfl⟩,trivial⟩,hb'⟩
   ·cases h
  ·cases h
 | false =>
 simp only [hb,cond_false] at h
 cases h
end Go.Proofs.Ytgnllglbopaheaa.Se

namespace Go.Proofs.Ytgnllglbopaheaa.Se
open Go Go.RowKit
theorem optK_sizes {F:Nat→Tm→Option Tm} {B:Nat}:∀ (l:List Tm) (p:Nat) {m:List Tm},optK F p l=some m→(∀ q x y,x ∈ l→F q x=some y→y.size≤B * x.size)→sizes m≤B * sizes l
 | [],_,m,h,_=>by cases h;simp [sizes]
 | x::r,p,m,h,hF=>by
  simp only [optK] at h
  cases hx:F p x with
  | none=>rw [hx] at h;cases h
  | some y =>
   rw [hx] at h
   simp only [Option.bind_some] at h
   cases hr:optK F (p+1) r with
   | none=>rw [hr] at h;cases h
   | some m' =>
    rw [hr] at h
    cases h
    have h1:=hF p x y (List.mem_cons_self ..) hx
    have h2:=optK_sizes r (p+1) hr (fun q z w hz=>hF q z w (List.mem_cons_of_mem _ hz))
    simp only [sizes,Nat.mul_add]
    omega
theorem each_le (f:Int→Int→Option Int) (t:Tm):∀ b x,t.each f b=some x→x.size≤t.size:=by
 induction t using Tm.ind with
 | h t ih =>
  intro b x h
  by_cases h2:t.k=2
  ·rw [Tm.each_var _ _ _ h2] at h
   cases hf:f t.i b with
   | none=>rw [hf] at h;cases h
   | some v =>
    rw [hf] at h
    cases h
    have:=size_pos t
    simpa [Tm.size,sizes] using this
  ·rw [Tm.each_node _ _ _ h2] at h
   cases ho:optK (fun q x=>x.each f (b+bindsN t.k q)) 0 t.kids with
   | none=>rw [ho] at h;cases h
   | some m =>
    rw [ho] at h
    cases h
    have:=optK_sizes (B:=1) t.kids 0 ho (fun q x y hx hy=>by
     have:=ih x hx _ y hy
     omega)
    rw [Tm.size_eq,Tm.size_eq t]
    simp only [Tm.kids] at *
    omega
theorem counts_mem {x:Tm}:∀ {l:List Tm},x ∈ l→x.count≤counts l
 | [],h=>by cases h
 | t::r,h=>by
  simp only [counts]
  rcases List.mem_cons.1 h with rfl | h
  ·omega
  ·have:=counts_mem h
   omega
theorem putG_size (u:Tm) (t:Tm):∀ b x,t.count=0→t.putG (gPut u) b false=some x→x.size≤u.size * t.size:=by
 induction t using Tm.ind with
 | h t ih =>
  intro b x hc h
  have hu:=size_pos u
  by_cases h2:t.k=2
  ·rw [Tm.putG_var _ _ _ _ h2] at h
   have ht:=size_pos t
   have hm:u.size≤u.size * t.size:=Nat.le_mul_of_pos_right _ ht
   unfold gPut at h
   split at h
   ·cases h
    simp only [Tm.size,sizes]
    omega
   ·split at h
    ·have:=each_le _ _ _ _ h
     simp only [Bool.false_eq_true,if_false] at this
     omega
    ·cases h
     simp only [Tm.size,sizes]
     omega
  ·rw [Tm.putG_node _ _ _ _ h2] at h
   cases ho:optK (fun q x=>x.putG (gPut u) (b+bindsN t.k q) (false||(t.k==12&&q==2))) 0 t.kids with
   | none=>rw [ho] at h;cases h
   | some m =>
    rw [ho] at h
    cases h
    have h12:(t.k==12)=false∧∀ x ∈ t.kids,x.count=0:=by
     have hce:t.count=(if t.k=12 then 1 else 0)+counts t.kids:=by cases t;rfl
     rw [hce] at hc
     refine⟨?_,fun x hx=>?_⟩
     ·cases hb:(t.k==12) with
      | false=>rfl
      | true=>rw [if_pos (by simpa using hb)] at hc;omega
     ·have:=counts_mem hx
      omega
    have:=optK_sizes (B:=u.size) t.kids 0 ho (fun q x y hx hy=>by
     rw [h12.1] at hy
     exact ih x hx _ y (h12.2 x hx) hy)
    rw [Tm.size_eq,Tm.size_eq t]
    simp only [Tm.kids,Nat.mul_add] at *
    omega
theorem pure_count {t:Tm} (h:t.pureB=true):t.count=0:=by
 unfold Tm.pureB at h
 rw [Bool.and_eq_true] at h
 simpa using h.2
theorem pure_kind {t:Tm} (h:t.pureB=true):t.k≤12∧(t.kids.length:Int)=kidsN t.k t.n:=by
 unfold Tm.pureB at h
 rw [Bool.and_eq_true] at h
 have:=h.1
 cases t with
 | mk k i j n l =>
  simp only [Tm.markedB,Bool.and_eq_true,decide_eq_true_eq,beq_iff_eq] at this
  exact⟨this.1.2,this.2.1⟩
theorem putB_size {t:Tm} (u:Tm) (h:t.pureB=true):(t.putB u).size≤u.size * t.size:=by
 have hu:=size_pos u
 have ht:=size_pos t
 have hm:u.size≤u.size * t.size:=Nat.le_mul_of_pos_right _ ht
 unfold Tm.putB
 split
 ·have hk:decide (12<t.k)=false:=by
   have:=(pure_kind h).1
   simp
   omega
  rw [hk]
  cases hx:t.putG (gPut u) 0 false with
  | none=>simp only [Option.getD_none,Tm.zero,Tm.size,sizes];omega
  | some x=>exact putG_size u t 0 x (pure_count h) hx
 ·simp only [Tm.zero,Tm.size,sizes];omega
theorem two_kids {t:Tm} (h:t.pureB=true) (hk:t.k=3∨t.k=6):∃ p q,t.kids=[p,q]:=by
 have:=(pure_kind h).2
 have h2:t.kids.length=2:=by
  unfold kidsN at this
  rcases hk with e | e<;>rw [e] at this<;>simp at this<;>omega
 match t.kids,h2 with
 | [p,q],_=>exact⟨p,q,rfl⟩
theorem three_kids {t:Tm} (h:t.pureB=true) (hk:t.k=10):∃ p q r,t.kids=[p,q,r]:=by
 have:=(pure_kind h).2
 have h2:t.kids.length=3:=by
  unfold kidsN at this
  rw [hk] at this
  simp at this
  omega
 match t.kids,h2 with
 | [p,q,r],_=>exact⟨p,q,r,rfl⟩
abbrev W64 (x:Int):Int:=IntKind.i64.wrap x
def osW (a:Tm) (i:Int):Bool:=a.k==1&&i==W64 (a.i+1)
def isT (j:Jd):Bool:=!j.eq&&osW j.a j.i
def areT (j:Jd):Bool:=j.eq&&osW j.a j.i
def hasW (j:Jd) (a:Tm) (i:Int):Bool:=!j.eq&&(j.i==i&&sameB j.a a)
def srt (i:Int):Tm:=.mk 1 i 0 0 []
def nd (k i j:Int) (l:List Tm):Tm:=.mk k i j 0 l
def kd (a:Tm) (q:Nat):Tm:=(a.kids[q]?).getD .zero
def spl (j:Jd) (k:Int):Bool:=!j.eq&&(j.a.k==k&&j.i==max j.a.i j.a.j)
def prf (j:Jd):Bool:=!j.eq&&(j.a.k==10&&j.a.i==j.i)
def cnv (p q:Jd):Bool:=areT q&&(q.a.i==p.i&&sameB p.a q.u)
def prd (p q r:Jd):Bool:=(isT q&&!p.eq)&&hasW r (q.u.putB p.u) q.a.i
def con0 (c:List En) (n r:Int):Option Jd :=
 if r=1 then(if(decide (n≥0)&&decide (n≤900))=true then some ⟨false,srt n,.zero,srt (W64 (n+1)),W64 (n+2)⟩ else none)
 else if r=2 then(if atB c n=true then some ⟨false,.mk 2 n 0 0 [],.zero,atU c n,atI c n⟩ else none)
 else none
def con1 (p:Jd) (r:Int):Option Jd :=
 if r=8 then(if spl p 6=true then some ⟨false,nd 8 p.a.i p.a.j [kd p.a 0,kd p.a 1,p.u],.zero,kd p.a 0,p.a.i⟩ else none)
 else if r=9 then(if spl p 6=true then some ⟨false,nd 9 p.a.i p.a.j [kd p.a 0,kd p.a 1,p.u],.zero,(kd p.a 1).putB (nd 8 p.a.i p.a.j [kd p.a 0,kd p.a 1,p.u]),p.a.j⟩ else none)
 else if r=11 then(if(!p.eq)=true then some ⟨false,nd 11 p.i 0 [p.a,p.u],.zero,nd 10 p.i 0 [p.a,p.u,p.u],p.i⟩ else none)
 else if r=13 then(if(!p.eq)=true then some ⟨true,p.u,p.u,p.a,p.i⟩ else none)
 else if r=14 then(if p.eq=true then some ⟨true,p.v,p.u,p.a,p.i⟩ else none)
 else if r=17 then(if prf p=true then some ⟨true,kd p.a 1,kd p.a 2,kd p.a 0,p.i⟩ else none)
 else if r=21 then(if spl p 3=true then some ⟨true,p.u,nd 4 p.a.i p.a.j [kd p.a 0,kd p.a 1,nd 5 p.a.i p.a.j [(kd p.a 0).liftB 1 0,(kd p.a 1).liftB 1 1,p.u.liftB 1 0,.mk 2 0 0 0 []]],p.a,p.i⟩ else none)
 else if r=22 then(if spl p 6=true then some ⟨true,p.u,nd 7 p.a.i p.a.j [kd p.a 0,kd p.a 1,nd 8 p.a.i p.a.j [kd p.a 0,kd p.a 1,p.u],nd 9 p.a.i p.a.j [kd p.a 0,kd p.a 1,p.u]],p.a,p.i⟩ else none)
 else none
def con2 (p q:Jd) (r:Int):Option Jd :=
 if r=3∨r=6 then(if(isT p&&isT q)=true then some ⟨false,nd r p.a.i q.a.i [p.u,q.u],.zero,srt (max p.a.i q.a.i),W64 (max p.a.i q.a.i+1)⟩ else none)
 else if r=4 then(if(isT p&&!q.eq)=true then some ⟨false,nd 4 p.a.i q.i [p.u,q.a,q.u],.zero,nd 3 p.a.i q.i [p.u,q.a],max p.a.i q.i⟩ else none)
 else if r=5 then(if(spl p 3&&hasW q (kd p.a 0) p.a.i)=true then some ⟨false,nd 5 p.a.i p.a.j [kd p.a 0,kd p.a 1,p.u,q.u],.zero,(kd p.a 1).putB q.u,p.a.j⟩ else none)
 else if r=10 then(if(!p.eq&&hasW q p.a p.i)=true then some ⟨false,nd 10 p.i 0 [p.a,p.u,q.u],.zero,srt p.i,W64 (p.i+1)⟩ else none)
 else if r=12 then(if(!p.eq&&cnv p q)=true then some ⟨false,p.u,.zero,q.v,p.i⟩ else none)
 else if r=15 then(if(p.eq&&(q.eq&&(p.i==q.i&&(sameB p.v q.u&&sameB p.a q.a))))=true then some ⟨true,p.u,q.v,p.a,p.i⟩ else none)
 else if r=16 then(if(p.eq&&cnv p q)=true then some ⟨true,p.u,p.v,q.v,p.i⟩ else none)
 else if r=18 then(if(!p.eq&&!q.eq)=true then some ⟨true,nd 5 p.i q.i [p.a,q.a,nd 4 p.i q.i [p.a,q.a,q.u],p.u],q.u.putB p.u,q.a.putB p.u,q.i⟩ else none)
 else if r=23 then(if(p.eq&&!q.eq)=true then some ⟨true,q.u.putB p.u,q.u.putB p.v,q.a.putB p.u,q.i⟩ else none)
 else if r=24 then(if(prf p&&hasW q p.a p.i)=true then some ⟨true,p.u,q.u,p.a,p.i⟩ else none)
 else if r=25∨r=26 then(if(areT p&&areT q)=true then some ⟨true,nd (if r=25 then 3 else 6) p.a.i q.a.i [p.u,q.u],nd (if r=25 then 3 else 6) p.a.i q.a.i [p.v,q.v],srt (max p.a.i q.a.i),W64 (max p.a.i q.a.i+1)⟩ else none)
 else none
def con3 (p q t:Jd) (r:Int):Option Jd :=
 if r=7 then(if prd p q t=true then some ⟨false,nd 7 p.i q.a.i [p.a,q.u,p.u,t.u],.zero,nd 6 p.i q.a.i [p.a,q.u],max p.i q.a.i⟩ else none)
 else if r=19 then(if prd p q t=true then some ⟨true,nd 8 p.i q.a.i [p.a,q.u,nd 7 p.i q.a.i [p.a,q.u,p.u,t.u]],p.u,p.a,p.i⟩ else none)
 else if r=20 then(if prd p q t=true then some ⟨true,nd 9 p.i q.a.i [p.a,q.u,nd 7 p.i q.a.i [p.a,q.u,p.u,t.u]],t.u,t.a,q.a.i⟩ else none)
 else if r=27 then(if((areT p&&areT q)&&(t.eq&&(t.i==q.a.i&&sameB t.a q.u)))=true then some ⟨true,nd 4 p.a.i q.a.i [p.u,q.u,t.u],nd 4 p.a.i q.a.i [p.v,q.v,t.v],nd 3 p.a.i q.a.i [p.u,q.u],max p.a.i q.a.i⟩ else none)
 else none
def con4 (p q s t:Jd) (r:Int):Option Jd :=
 if r=28 then(if(((areT p&&areT q)&&hasW s p.u p.a.i)&&hasW t (q.u.putB s.u) q.a.i)=true then some ⟨true,nd 7 p.a.i q.a.i [p.u,q.u,s.u,t.u],nd 7 p.a.i q.a.i [p.v,q.v,s.u,t.u],nd 6 p.a.i q.a.i [p.u,q.u],max p.a.i q.a.i⟩ else none)
 else none
def concB (c:List En) (n r:Int):List Jd→Option Jd
 | []=>con0 c n r
 | [p]=>con1 p r
 | [p,q]=>con2 p q r
 | [p,q,t]=>con3 p q t r
 | [p,q,s,t]=>con4 p q s t r
 | _=>none
def okJ (j:Jd):Bool:=!(decide (j.i>1000)||(j.u.k==0||(j.a.k==0||(j.eq&&j.v.k==0))))
def allR (len r:Int):Int→List Jd→Bool
 | _,[]=>true
 | k,j::l=>rightJ j (if Dv.innerB r k=true then W64 (len+1) else len)&&allR len r (k+1) l
def ofB (c:List En) (r n:Int) (on:List Jd):Option Jd :=
 if Dv.dkidsN r≠on.length then none else if(purC c&&allR c.length r 0 on)=true then(match concB c n r on with
  | some j=>if okJ j=true then some j else none
  | none=>none) else none
def zJ:Jd:=⟨false,.zero,.zero,.zero,0⟩
def GivesO (A:Nat→Prop) (o:Option Jd) (w:World) (e:Ending) (w':World):Prop:=Gives (D:=D15) A [(true,jdF (o.getD zJ)),(false,[.bool o.isSome])] true w e w'
end Go.Proofs.Ytgnllglbopaheaa.Se

namespace Go.Proofs.Ytgnllglbopaheaa.Se
open Go Go.RowKit
noncomputable def fOf:Func:=(Try.prog.funcs[27]?).getD default
noncomputable def S15:Spec D15:=inl base15 Try.prog 60 9
theorem mixed15:Try.prog.follows .mixedOrders=true:=by kernel_rfl
theorem S15_ok:SpecOk Try.prog S15:=inl_ok base15_ok mixed15 (by kernel_rfl) 60 9
theorem fOf_at:Try.prog.funcs[27]? =some fOf:=by kernel_rfl
theorem fOf_two:(!Nat.beq fOf.results.size 1)=true:=by kernel_rfl
abbrev aOf (c:List En) (r n:Int) (on:List Jd):List (Bool × List F15):=[(false,[.dat (.ents c)]),(false,[.int r]),(false,[.oint n]),(false,[.dat (.jds on)])]
def zF:List F15:=[.bool false,.int 0,.int 0,.int 0,.int 0,.nil,.int 0,.int 0,.int 0,.int 0,.nil,.int 0,.int 0,.int 0,.int 0,.nil,.int 0]
abbrev I:=true
abbrev O:=false
theorem al {p:Prop} {l:List Prop} (h:p) (hl:AllP l):AllP (p::l):=⟨h,hl⟩
theorem an:AllP []:=trivial
theorem leafS {c:List En} {r n:Int} {on:List Jd} (orc:List Bool) {j:Jd} {cs:List Prop} {w:World} {A:Nat→Prop} {vs:List Value} (hv:F2 (ArgDen w A) (aOf c r n on) vs)
 (hc:AllP cs) (h:call S15 Try.prog 60 fOf (aOf c r n on) orc=some ([(true,jdF j),(false,[.bool true])],cs,[]):=by kernel_rfl):Calls Try.prog 27 vs.toArray w (GivesO A (some j) w):=by
 have H:=call_ok S15_ok mixed15 fOf_at h hc hv
 rw [fOf_two] at H
 exact H
theorem leafF {c:List En} {r n:Int} {on:List Jd} (orc:List Bool) {cs:List Prop} {w:World} {A:Nat→Prop} {vs:List Value} (hv:F2 (ArgDen w A) (aOf c r n on) vs)
 (hc:AllP cs) (h:call S15 Try.prog 60 fOf (aOf c r n on) orc=some ([(true,zF),(false,[.bool false])],cs,[]):=by kernel_rfl):Calls Try.prog 27 vs.toArray w (GivesO A none w):=by
 have H:=call_ok S15_ok mixed15 fOf_at h hc hv
 rw [fOf_two] at H
 refine H.mono fun e w' he=>?_
 obtain⟨v,rfl,hr,hb⟩:=he
 refine⟨v,rfl,?_,hb⟩
 obtain⟨us,rfl,hu⟩:=hr
 obtain⟨x,y,rfl,h1,h2⟩:=hu.two
 refine⟨_,rfl,?_,h2,trivial⟩
 obtain⟨zs,rfl,hz⟩:=h1
 have hn:∀ {z:Value},FLDen (D:=D15) w' (fun b=>A b∨w.heap.size≤b) .nil z→FLDen (D:=D15) w' (fun b=>A b∨w.heap.size≤b) (.dat (.tms [])) z:=by
  rintro z (rfl:z=_)
  exact liesQ_nil _ _
 match zs,hz with
 | [_,_,_,_,_,_,_,_,_,_,_,_,_,_,_,_,_],⟨a0,a1,a2,a3,a4,a5,b1,b2,b3,b4,b5,c1,c2,c3,c4,c5,d,_⟩ =>
  exact⟨_,rfl,a0,a1,a2,a3,a4,hn a5,b1,b2,b3,b4,hn b5,c1,c2,c3,c4,hn c5,d,trivial⟩
theorem of_p {c:List En} {r n:Int} {on:List Jd} (h:purC c=false):ofB c r n on=none:=by
 unfold ofB
 split
 ·rfl
 ·rw [h];rfl
theorem of_a {c:List En} {r n:Int} {on:List Jd} (h:allR c.length r 0 on=false):ofB c r n on=none:=by
 unfold ofB
 split
 ·rfl
 ·rw [h,Bool.and_false];rfl
theorem of_r {c:List En} {r n:Int} {on:List Jd} (h0:Dv.dkidsN r=on.length) (h1:purC c=true) (h2:allR c.length r 0 on=true):ofB c r n on=(match concB c n r on with
 | some j=>if okJ j=true then some j else none
 | none=>none):=by
 unfold ofB
 rw [if_neg (by simp [h0]),h1,h2]
 rfl
theorem of_n {c:List En} {r n:Int} {on:List Jd} (h0:Dv.dkidsN r≠on.length):ofB c r n on=none:=if_pos h0
structure Sml (c:List En) (on:List Jd):Prop where
 len:c.length≤200
 ents:∀ e ∈ c,e.a.size≤1000
 js:∀ j ∈ on,j.u.size≤1000∧j.v.size≤1000∧j.a.size≤1000
theorem Sml.tl {c:List En} {j:Jd} {l:List Jd} (h:Sml c (j::l)):Sml c l:=⟨h.len,h.ents,fun k hk=>h.js k (List.mem_cons_of_mem _ hk)⟩
theorem Sml.z {c:List En} {e:Bool} {u v x:Tm} {i:Int} {l:List Jd} (h:Sml c (⟨e,re u,re v,re x,i⟩::l)):u.size≤1000∧v.size≤1000∧x.size≤1000:=by
 have:=h.js _ (List.mem_cons_self ..)
 simp only [re_eq] at this
 exact this
theorem zs:(Tm.mk 0 0 0 0 []).size≤10000000:=by simp [Tm.size,sizes]
theorem sz1 {t:Tm} (h:t.size≤1000):(re t).size≤10000000:=by
 rw [re_eq];omega
theorem bc {C:Prop} (b:Bool) (h0:b=false→C) (h1:b=true→C):C:=by
 cases b with
 | false=>exact h0 rfl
 | true=>exact h1 rfl
theorem bd {C:Prop} (b:Bool) (h1:b=true→C) (h0:b=false→C):C:=bc b h0 h1
theorem bneT {x y:Int} (h:(x==y)=true):(x != y)=false:=by unfold bne;rw [h];rfl
theorem bneF {x y:Int} (h:(x==y)=false):(x != y)=true:=by unfold bne;rw [h];rfl
theorem of_s {c:List En} {r n:Int} {on:List Jd} {t:Bool} {j:Jd} (h1:purC c=true) (h2:allR c.length r 0 on=true) (hC:concB c n r on=if t=true then some j else none) (hT:t=true) (hO:okJ j=true) (h0:Dv.dkidsN r=on.length:=by kernel_rfl):ofB c r n on=some j:=by
 rw [of_r h0 h1 h2,hC,hT]
 simp [hO]
theorem of_t {c:List En} {r n:Int} {on:List Jd} {t:Bool} {j:Jd} (h1:purC c=true) (h2:allR c.length r 0 on=true) (hC:concB c n r on=if t=true then some j else none) (hT:t=false) (h0:Dv.dkidsN r=on.length:=by kernel_rfl):ofB c r n on=none:=by
 rw [of_r h0 h1 h2,hC,hT]
 rfl
theorem of_o {c:List En} {r n:Int} {on:List Jd} {t:Bool} {j:Jd} (h1:purC c=true) (h2:allR c.length r 0 on=true) (hC:concB c n r on=if t=true then some j else none) (hO:okJ j=false) (h0:Dv.dkidsN r=on.length:=by kernel_rfl):ofB c r n on=none:=by
 rw [of_r h0 h1 h2,hC]
 cases t<;>simp [hO]
theorem lS {c:List En} {r n:Int} {on:List Jd} {t:Bool} {j:Jd} {w:World} {A:Nat→Prop} {vs:List Value} {cs:List Prop} (orc:List Bool) (h1:purC c=true) (h2:allR c.length r 0 on=true) (hC:concB c n r on=if t=true then some j else none) (hT:t=true) (hO:okJ j=true) (hv:F2 (ArgDen w A) (aOf c r n on) vs) (hc:AllP cs) (h0:Dv.dkidsN r=on.length:=by kernel_rfl) (h:call S15 Try.prog 60 fOf (aOf c r n on) orc=some ([(true,jdF j),(false,[.bool true])],cs,[]):=by kernel_rfl):Calls Try.prog 27 vs.toArray w (GivesO A (ofB c r n on) w):=by
 rw [of_s h1 h2 hC hT hO h0]
 exact leafS orc hv hc h
theorem lT {c:List En} {r n:Int} {on:List Jd} {t:Bool} {j:Jd} {w:World} {A:Nat→Prop} {vs:List Value} {cs:List Prop} (orc:List Bool) (h1:purC c=true) (h2:allR c.length r 0 on=true) (hC:concB c n r on=if t=true then some j else none) (hT:t=false) (hv:F2 (ArgDen w A) (aOf c r n on) vs) (hc:AllP cs) (h0:Dv.dkidsN r=on.length:=by kernel_rfl) (h:call S15 Try.prog 60 fOf (aOf c r n on) orc=some ([(true,zF),(false,[.bool false])],cs,[]):=by kernel_rfl):Calls Try.prog 27 vs.toArray w (GivesO A (ofB c r n on) w):=by
 rw [of_t h1 h2 hC hT h0]
 exact leafF orc hv hc h
theorem lO {c:List En} {r n:Int} {on:List Jd} {t:Bool} {j:Jd} {w:World} {A:Nat→Prop} {vs:List Value} {cs:List Prop} (orc:List Bool) (h1:purC c=true) (h2:allR c.length r 0 on=true) (hC:concB c n r on=if t=true then some j else none) (hO:okJ j=false) (hv:F2 (ArgDen w A) (aOf c r n on) vs) (hc:AllP cs) (h0:Dv.dkidsN r=on.length:=by kernel_rfl) (h:call S15 Try.prog 60 fOf (aOf c r n on) orc=some ([(true,zF),(false,[.bool false])],cs,[]):=by kernel_rfl):Calls Try.prog 27 vs.toArray w (GivesO A (ofB c r n on) w):=by
 rw [of_o h1 h2 hC hO h0]
 exact leafF orc hv hc h
theorem lA {c:List En} {r n:Int} {on:List Jd} {w:World} {A:Nat→Prop} {vs:List Value} {cs:List Prop} (orc:List Bool) (h1:allR c.length r 0 on=false) (hv:F2 (ArgDen w A) (aOf c r n on) vs) (hc:AllP cs) (h:call S15 Try.prog 60 fOf (aOf c r n on) orc=some ([(true,zF),(false,[.bool false])],cs,[]):=by kernel_rfl):Calls Try.prog 27 vs.toArray w (GivesO A (ofB c r n on) w):=by
 rw [of_a h1]
 exact leafF orc hv hc h
theorem lP {c:List En} {r n:Int} {on:List Jd} {w:World} {A:Nat→Prop} {vs:List Value} {cs:List Prop} (orc:List Bool) (h1:purC c=false) (hv:F2 (ArgDen w A) (aOf c r n on) vs) (hc:AllP cs) (h:call S15 Try.prog 60 fOf (aOf c r n on) orc=some ([(true,zF),(false,[.bool false])],cs,[]):=by kernel_rfl):Calls Try.prog 27 vs.toArray w (GivesO A (ofB c r n on) w):=by
 rw [of_p h1]
 exact leafF orc hv hc h
theorem right_u {j:Jd} {n:Int} (h:rightJ j n=true):j.u.pureB=true∧j.a.pureB=true:=by
 unfold rightJ jfitB at h
 simp only [Bool.and_eq_true] at h
 exact⟨h.2.1.1.1,h.2.1.2.1⟩
theorem putB_le {t u:Tm} (h:t.pureB=true) (h1:t.size≤1000) (h2:u.size≤10000):(t.putB u).size≤10000000 :=
 Nat.le_trans (putB_size u h) (Nat.le_trans (Nat.mul_le_mul h2 h1) (by decide))
theorem pure_kid {t x:Tm} (h:t.pureB=true) (hk:t.k≠12) (hx:x ∈ t.kids):x.pureB=true:=by
 have hc:=pure_count h
 unfold Tm.pureB at h ⊢
 rw [Bool.and_eq_true] at h ⊢
 refine⟨?_,?_⟩
 ·cases t with
  | mk k i j n l =>
   have:=h.1
   simp only [Tm.markedB,Bool.and_eq_true] at this
   have hm:=this.2.2.2
   have h12:(k==12)=false:=by
    have hk':k≠12:=hk
    simpa using hk'
   rw [h12] at hm
   have key:∀ (l:List Tm) (p:Nat),markeds false p l=true→x ∈ l→x.markedB=true:=by
    intro l
    induction l with
    | nil=>intro _ _ h;cases h
    | cons a r ih =>
     intro p hm hx
     simp only [markeds,Bool.false_and,Bool.false_eq_true,if_false,Bool.and_eq_true] at hm
     rcases List.mem_cons.1 hx with rfl | hx
     ·exact hm.1
     ·exact ih _ hm.2 hx
   exact key l 0 hm hx
 ·cases t with
  | mk k i j n l =>
   have:=counts_mem (x:=x) (l:=l) hx
   simp only [Tm.count] at hc
   have:x.count=0:=by omega
   simp [this]
theorem kid_size {t x:Tm} (hx:x ∈ t.kids):x.size≤t.size:=by
 rw [Tm.size_eq t]
 have key:∀ (l:List Tm),x ∈ l→x.size≤sizes l:=by
  intro l
  induction l with
  | nil=>intro h;cases h
  | cons a r ih =>
   intro h
   simp only [sizes]
   rcases List.mem_cons.1 h with rfl | h
   ·omega
   ·have:=ih h
    omega
 have:=key _ hx
 omega
theorem atU_le {c:List En} (n:Int) (h:∀ e ∈ c,e.a.size≤1000):(atU c n).size≤10000000:=by
 unfold atU
 split
 ·refine Nat.le_trans (liftB_size _ _ _) ?_
  cases hq:c[c.length-1-n.toNat]? with
  | none=>simp [Tm.zero,Tm.size,sizes]
  | some e =>
   have:=h e (List.mem_of_getElem? hq)
   simp only [Option.map_some,Option.getD_some]
   omega
 ·simp [Tm.zero,Tm.size,sizes]
end Go.Proofs.Ytgnllglbopaheaa.Se

namespace Go.Proofs.Ytgnllglbopaheaa
open Go Go.RowKit
theorem rrightE_any (eqb:Bool) (n:Int) (i:Int) (u:Tm) (v:Tm) (x:Tm) (P:Nat→Prop) (w:World) (su:Value) (sv:Value) (sx:Value) (hfu:u.fine) (hlu:LiesQ w P u.kids su) (hfv:v.fine) (hlv:LiesQ w P v.kids sv) (hfx:x.fine) (hlx:LiesQ w P x.kids sx) (hri:I64 i) (hrn:I64 n):Calls Try.prog 37 #[.agg #[.bool eqb,.int .i64 u.k,.int .i64 u.i,.int .i64 u.j,.int .i64 u.n,su,.int .i64 v.k,.int .i64 v.i,.int .i64 v.j,.int .i64 v.n,sv,.int .i64 x.k,.int .i64 x.i,.int .i64 x.j,.int .i64 x.n,sx,.int .i64 i],.int .i64 n] w fun e w'=>e=.returned (.bool (rightJ ⟨eqb,u,v,x,i⟩ n))∧Kept w w':=by
 cases eqb with
 | false=>exact rright0_any n i u v x P w su sv sx hfu hlu hfv hlv hfx hlx hri hrn
 | true=>exact rright1_any n i u v x P w su sv sx hfu hlu hfv hlv hfx hlx hri hrn
end Go.Proofs.Ytgnllglbopaheaa
namespace Go.Proofs.Ytgnllglbopaheaa.Se
open Go Go.RowKit
noncomputable def fEn:Func:=(Try.prog.funcs[38]?).getD default
theorem fEn_at:Try.prog.funcs[38]? =some fEn:=by kernel_rfl
theorem fEn_two:(!Nat.beq fEn.results.size 1)=true:=by kernel_rfl
abbrev aEn (r:Int) (e:Bool) (u v x:Tm) (i:Int):List (Bool × List F15):=[(false,[.int r]),(true,jdF ⟨e,re u,re v,re x,i⟩)]
theorem enL {r i j:Int} {e:Bool} {u v x y:Tm} (orc:List Bool) {b:Bool} {cs:List Prop} {w:World} {A:Nat→Prop} {vs:List Value} (hv:F2 (ArgDen w A) (aEn r e u v x i) vs) (he:entB r ⟨e,u,v,x,i⟩=(⟨y,j⟩,b)) (hc:AllP cs)
 (h:call S15 Try.prog 60 fEn (aEn r e u v x i) orc=some ([(true,tmF (re y)++[.oint j]),(false,[.bool b])],cs,[]):=by kernel_rfl):Calls Try.prog 38 vs.toArray w (GivesEB A (entB r ⟨e,u,v,x,i⟩).1 (entB r ⟨e,u,v,x,i⟩).2 w):=by
 rw [he]
 have H:=call_ok S15_ok mixed15 fEn_at h hc hv
 rw [fEn_two] at H
 refine H.mono fun e w' he=>?_
 obtain⟨v',rfl,hr,hb⟩:=he
 obtain⟨us,rfl,hu⟩:=hr
 obtain⟨y,z,rfl,h1,h2⟩:=hu.two
 obtain⟨zs,rfl,hz⟩:=h1
 obtain⟨l,hl,h2⟩:=h2
 cases hl
 obtain rfl:z=_:=h2
 match zs,hz with
 | [_,_,_,_,s,_],⟨⟨rfl,_⟩,⟨rfl,_⟩,⟨rfl,_⟩,⟨rfl,_⟩,hs,⟨rfl,_⟩,_⟩=>exact⟨s,rfl,hs,hb⟩
theorem enOs {x:Tm} {i:Int} (hx:0≤x.i∧x.i≤2147483647) {p q:Bool} (h1:((re x).k==1)=p) (h2:p=true→(i==W64 ((re x).i+1))=q):osB x i=(p&&q):=by
 have hw:W64 (x.i+1)=x.i+1:=IntWalk.i64_in _ (by omega)
 unfold osB
 rw [show(x.k==1)=p from h1]
 cases p with
 | false=>rfl
 | true=>rw [←hw,show(i==W64 (x.i+1))=q from h2 rfl]
set_option maxRecDepth 20000 in
theorem en3_any (e:Bool) (u v x:Tm) (i:Int) (hx:0≤x.i∧x.i≤2147483647) {w:World} {A:Nat→Prop} {vs:List Value} (hv:F2 (ArgDen w A) (aEn 3 e u v x i) vs):Calls Try.prog 38 vs.toArray w (GivesEB A (entB 3 ⟨e,u,v,x,i⟩).1 (entB 3 ⟨e,u,v,x,i⟩).2 w):=by
 cases e with
 | false =>
  cases h1:((re x).k==1) with
  | false=>exact enL [false] hv (b:=false) (y:=u) (j:=x.i) (by show((⟨u,x.i⟩:En),(true&&osB x i))=_;rw [enOs hx h1 (q:=false) (fun h=>by cases h)];rfl) (al h1 an)
  | true =>
   cases h2:(i==W64 ((re x).i+1)) with
   | false=>exact enL [true,false] hv (b:=false) (y:=u) (j:=x.i) (by show((⟨u,x.i⟩:En),(true&&osB x i))=_;rw [enOs hx h1 (fun _=>h2)];rfl) (al h1 (al h2 an))
   | true=>exact enL [true,true] hv (b:=true) (y:=u) (j:=x.i) (by show((⟨u,x.i⟩:En),(true&&osB x i))=_;rw [enOs hx h1 (fun _=>h2)];rfl) (al h1 (al h2 an))
 | true=>exact enL [] hv (b:=false) (y:=u) (j:=x.i) rfl an
set_option maxRecDepth 20000 in
theorem en6_any (e:Bool) (u v x:Tm) (i:Int) (hx:0≤x.i∧x.i≤2147483647) {w:World} {A:Nat→Prop} {vs:List Value} (hv:F2 (ArgDen w A) (aEn 6 e u v x i) vs):Calls Try.prog 38 vs.toArray w (GivesEB A (entB 6 ⟨e,u,v,x,i⟩).1 (entB 6 ⟨e,u,v,x,i⟩).2 w):=by
 cases e with
 | false =>
  cases h1:((re x).k==1) with
  | false=>exact enL [false] hv (b:=false) (y:=u) (j:=x.i) (by show((⟨u,x.i⟩:En),(true&&osB x i))=_;rw [enOs hx h1 (q:=false) (fun h=>by cases h)];rfl) (al h1 an)
  | true =>
   cases h2:(i==W64 ((re x).i+1)) with
   | false=>exact enL [true,false] hv (b:=false) (y:=u) (j:=x.i) (by show((⟨u,x.i⟩:En),(true&&osB x i))=_;rw [enOs hx h1 (fun _=>h2)];rfl) (al h1 (al h2 an))
   | true=>exact enL [true,true] hv (b:=true) (y:=u) (j:=x.i) (by show((⟨u,x.i⟩:En),(true&&osB x i))=_;rw [enOs hx h1 (fun _=>h2)];rfl) (al h1 (al h2 an))
 | true=>exact enL [] hv (b:=false) (y:=u) (j:=x.i) rfl an
set_option maxRecDepth 20000 in
theorem en4_any (e:Bool) (u v x:Tm) (i:Int) (hx:0≤x.i∧x.i≤2147483647) {w:World} {A:Nat→Prop} {vs:List Value} (hv:F2 (ArgDen w A) (aEn 4 e u v x i) vs):Calls Try.prog 38 vs.toArray w (GivesEB A (entB 4 ⟨e,u,v,x,i⟩).1 (entB 4 ⟨e,u,v,x,i⟩).2 w):=by
 cases e with
 | false =>
  cases h1:((re x).k==1) with
  | false=>exact enL [false] hv (b:=false) (y:=u) (j:=x.i) (by show((⟨u,x.i⟩:En),(true&&osB x i))=_;rw [enOs hx h1 (q:=false) (fun h=>by cases h)];rfl) (al h1 an)
  | true =>
   cases h2:(i==W64 ((re x).i+1)) with
   | false=>exact enL [true,false] hv (b:=false) (y:=u) (j:=x.i) (by show((⟨u,x.i⟩:En),(true&&osB x i))=_;rw [enOs hx h1 (fun _=>h2)];rfl) (al h1 (al h2 an))
   | true=>exact enL [true,true] hv (b:=true) (y:=u) (j:=x.i) (by show((⟨u,x.i⟩:En),(true&&osB x i))=_;rw [enOs hx h1 (fun _=>h2)];rfl) (al h1 (al h2 an))
 | true=>exact enL [] hv (b:=false) (y:=u) (j:=x.i) rfl an
set_option maxRecDepth 20000 in
theorem en25_any (e:Bool) (u v x:Tm) (i:Int) (hx:0≤x.i∧x.i≤2147483647) {w:World} {A:Nat→Prop} {vs:List Value} (hv:F2 (ArgDen w A) (aEn 25 e u v x i) vs):Calls Try.prog 38 vs.toArray w (GivesEB A (entB 25 ⟨e,u,v,x,i⟩).1 (entB 25 ⟨e,u,v,x,i⟩).2 w):=by
 cases e with
 | false=>exact enL [] hv (b:=false) (y:=u) (j:=x.i) rfl an
 | true =>
  cases h1:((re x).k==1) with
  | false=>exact enL [false] hv (b:=false) (y:=u) (j:=x.i) (by show((⟨u,x.i⟩:En),(true&&osB x i))=_;rw [enOs hx h1 (q:=false) (fun h=>by cases h)];rfl) (al h1 an)
  | true =>
   cases h2:(i==W64 ((re x).i+1)) with
   | false=>exact enL [true,false] hv (b:=false) (y:=u) (j:=x.i) (by show((⟨u,x.i⟩:En),(true&&osB x i))=_;rw [enOs hx h1 (fun _=>h2)];rfl) (al h1 (al h2 an))
   | true=>exact enL [true,true] hv (b:=true) (y:=u) (j:=x.i) (by show((⟨u,x.i⟩:En),(true&&osB x i))=_;rw [enOs hx h1 (fun _=>h2)];rfl) (al h1 (al h2 an))
set_option maxRecDepth 20000 in
theorem en26_any (e:Bool) (u v x:Tm) (i:Int) (hx:0≤x.i∧x.i≤2147483647) {w:World} {A:Nat→Prop} {vs:List Value} (hv:F2 (ArgDen w A) (aEn 26 e u v x i) vs):Calls Try.prog 38 vs.toArray w (GivesEB A (entB 26 ⟨e,u,v,x,i⟩).1 (entB 26 ⟨e,u,v,x,i⟩).2 w):=by
 cases e with
 | false=>exact enL [] hv (b:=false) (y:=u) (j:=x.i) rfl an
 | true =>
  cases h1:((re x).k==1) with
  | false=>exact enL [false] hv (b:=false) (y:=u) (j:=x.i) (by show((⟨u,x.i⟩:En),(true&&osB x i))=_;rw [enOs hx h1 (q:=false) (fun h=>by cases h)];rfl) (al h1 an)
  | true =>
   cases h2:(i==W64 ((re x).i+1)) with
   | false=>exact enL [true,false] hv (b:=false) (y:=u) (j:=x.i) (by show((⟨u,x.i⟩:En),(true&&osB x i))=_;rw [enOs hx h1 (fun _=>h2)];rfl) (al h1 (al h2 an))
   | true=>exact enL [true,true] hv (b:=true) (y:=u) (j:=x.i) (by show((⟨u,x.i⟩:En),(true&&osB x i))=_;rw [enOs hx h1 (fun _=>h2)];rfl) (al h1 (al h2 an))
set_option maxRecDepth 20000 in
theorem en27_any (e:Bool) (u v x:Tm) (i:Int) (hx:0≤x.i∧x.i≤2147483647) {w:World} {A:Nat→Prop} {vs:List Value} (hv:F2 (ArgDen w A) (aEn 27 e u v x i) vs):Calls Try.prog 38 vs.toArray w (GivesEB A (entB 27 ⟨e,u,v,x,i⟩).1 (entB 27 ⟨e,u,v,x,i⟩).2 w):=by
 cases e with
 | false=>exact enL [] hv (b:=false) (y:=u) (j:=x.i) rfl an
 | true =>
  cases h1:((re x).k==1) with
  | false=>exact enL [false] hv (b:=false) (y:=u) (j:=x.i) (by show((⟨u,x.i⟩:En),(true&&osB x i))=_;rw [enOs hx h1 (q:=false) (fun h=>by cases h)];rfl) (al h1 an)
  | true =>
   cases h2:(i==W64 ((re x).i+1)) with
   | false=>exact enL [true,false] hv (b:=false) (y:=u) (j:=x.i) (by show((⟨u,x.i⟩:En),(true&&osB x i))=_;rw [enOs hx h1 (fun _=>h2)];rfl) (al h1 (al h2 an))
   | true=>exact enL [true,true] hv (b:=true) (y:=u) (j:=x.i) (by show((⟨u,x.i⟩:En),(true&&osB x i))=_;rw [enOs hx h1 (fun _=>h2)];rfl) (al h1 (al h2 an))
set_option maxRecDepth 20000 in
theorem en28_any (e:Bool) (u v x:Tm) (i:Int) (hx:0≤x.i∧x.i≤2147483647) {w:World} {A:Nat→Prop} {vs:List Value} (hv:F2 (ArgDen w A) (aEn 28 e u v x i) vs):Calls Try.prog 38 vs.toArray w (GivesEB A (entB 28 ⟨e,u,v,x,i⟩).1 (entB 28 ⟨e,u,v,x,i⟩).2 w):=by
 cases e with
 | false=>exact enL [] hv (b:=false) (y:=u) (j:=x.i) rfl an
 | true =>
  cases h1:((re x).k==1) with
  | false=>exact enL [false] hv (b:=false) (y:=u) (j:=x.i) (by show((⟨u,x.i⟩:En),(true&&osB x i))=_;rw [enOs hx h1 (q:=false) (fun h=>by cases h)];rfl) (al h1 an)
  | true =>
   cases h2:(i==W64 ((re x).i+1)) with
   | false=>exact enL [true,false] hv (b:=false) (y:=u) (j:=x.i) (by show((⟨u,x.i⟩:En),(true&&osB x i))=_;rw [enOs hx h1 (fun _=>h2)];rfl) (al h1 (al h2 an))
   | true=>exact enL [true,true] hv (b:=true) (y:=u) (j:=x.i) (by show((⟨u,x.i⟩:En),(true&&osB x i))=_;rw [enOs hx h1 (fun _=>h2)];rfl) (al h1 (al h2 an))
set_option maxRecDepth 20000 in
theorem en7_any (e:Bool) (u v x:Tm) (i:Int) (_:0≤x.i∧x.i≤2147483647) {w:World} {A:Nat→Prop} {vs:List Value} (hv:F2 (ArgDen w A) (aEn 7 e u v x i) vs):Calls Try.prog 38 vs.toArray w (GivesEB A (entB 7 ⟨e,u,v,x,i⟩).1 (entB 7 ⟨e,u,v,x,i⟩).2 w):=by
 cases e with
 | false=>exact enL [] hv (b:=true) (y:=x) (j:=i) rfl an
 | true=>exact enL [] hv (b:=false) (y:=x) (j:=i) rfl an
set_option maxRecDepth 20000 in
theorem en18_any (e:Bool) (u v x:Tm) (i:Int) (_:0≤x.i∧x.i≤2147483647) {w:World} {A:Nat→Prop} {vs:List Value} (hv:F2 (ArgDen w A) (aEn 18 e u v x i) vs):Calls Try.prog 38 vs.toArray w (GivesEB A (entB 18 ⟨e,u,v,x,i⟩).1 (entB 18 ⟨e,u,v,x,i⟩).2 w):=by
 cases e with
 | false=>exact enL [] hv (b:=true) (y:=x) (j:=i) rfl an
 | true=>exact enL [] hv (b:=false) (y:=x) (j:=i) rfl an
set_option maxRecDepth 20000 in
theorem en19_any (e:Bool) (u v x:Tm) (i:Int) (_:0≤x.i∧x.i≤2147483647) {w:World} {A:Nat→Prop} {vs:List Value} (hv:F2 (ArgDen w A) (aEn 19 e u v x i) vs):Calls Try.prog 38 vs.toArray w (GivesEB A (entB 19 ⟨e,u,v,x,i⟩).1 (entB 19 ⟨e,u,v,x,i⟩).2 w):=by
 cases e with
 | false=>exact enL [] hv (b:=true) (y:=x) (j:=i) rfl an
 | true=>exact enL [] hv (b:=false) (y:=x) (j:=i) rfl an
set_option maxRecDepth 20000 in
theorem en20_any (e:Bool) (u v x:Tm) (i:Int) (_:0≤x.i∧x.i≤2147483647) {w:World} {A:Nat→Prop} {vs:List Value} (hv:F2 (ArgDen w A) (aEn 20 e u v x i) vs):Calls Try.prog 38 vs.toArray w (GivesEB A (entB 20 ⟨e,u,v,x,i⟩).1 (entB 20 ⟨e,u,v,x,i⟩).2 w):=by
 cases e with
 | false=>exact enL [] hv (b:=true) (y:=x) (j:=i) rfl an
 | true=>exact enL [] hv (b:=false) (y:=x) (j:=i) rfl an
set_option maxRecDepth 20000 in
theorem en23_any (e:Bool) (u v x:Tm) (i:Int) (_:0≤x.i∧x.i≤2147483647) {w:World} {A:Nat→Prop} {vs:List Value} (hv:F2 (ArgDen w A) (aEn 23 e u v x i) vs):Calls Try.prog 38 vs.toArray w (GivesEB A (entB 23 ⟨e,u,v,x,i⟩).1 (entB 23 ⟨e,u,v,x,i⟩).2 w):=by
 cases e with
 | false=>exact enL [] hv (b:=false) (y:=x) (j:=i) rfl an
 | true=>exact enL [] hv (b:=true) (y:=x) (j:=i) rfl an
end Go.Proofs.Ytgnllglbopaheaa.Se
namespace Go.Proofs.Ytgnllglbopaheaa
open Go Go.RowKit
theorem entryE_any {r kid:Int} (hin:Dv.innerB r kid=true) (eqb:Bool) (i:Int) (u v x:Tm) (P:Nat→Prop) (w:World) (_:I64 r) (su sv sx:Value) (hfu:u.fine) (hlu:LiesQ w P u.kids su) (hfv:v.fine) (hlv:LiesQ w P v.kids sv) (hfx:x.fine) (hlx:LiesQ w P x.kids sx) (hri:I64 i) (hx0:0≤x.i) (hx1:x.i≤2147483647):Calls Try.prog 38 #[.int .i64 r,jv (⟨eqb,u,v,x,i⟩:Jd) su sv sx] w (GivesEB P (entB r (⟨eqb,u,v,x,i⟩:Jd)).1 (entB r (⟨eqb,u,v,x,i⟩:Jd)).2 w):=by
 have hv:∀ {q:Int},I64 q→Se.F2 (Se.ArgDen w P) (Se.aEn q eqb u v x i) [.int .i64 q,jv (⟨eqb,u,v,x,i⟩:Jd) su sv sx]:=fun hq=>⟨⟨_,rfl,rfl,hq⟩,⟨_,rfl,Se.jdF_den (j:=⟨eqb,Se.re u,Se.re v,Se.re x,i⟩) ⟨hfu,hfv,hfx,hri⟩ hlu hlv hlx⟩,trivial⟩
 have h:r=3∨r=6∨r=4∨r=25∨r=26∨r=27∨r=28∨r=7∨r=18∨r=19∨r=20∨r=23:=by
  unfold Dv.innerB at hin
  split at hin
  ·omega
  ·split at hin
   ·omega
   ·cases hin
 rcases h with rfl | rfl | rfl | rfl | rfl | rfl | rfl | rfl | rfl | rfl | rfl | rfl
 ·exact Se.en3_any eqb u v x i ⟨hx0,hx1⟩ (hv (by unfold I64;decide))
 ·exact Se.en6_any eqb u v x i ⟨hx0,hx1⟩ (hv (by unfold I64;decide))
 ·exact Se.en4_any eqb u v x i ⟨hx0,hx1⟩ (hv (by unfold I64;decide))
 ·exact Se.en25_any eqb u v x i ⟨hx0,hx1⟩ (hv (by unfold I64;decide))
 ·exact Se.en26_any eqb u v x i ⟨hx0,hx1⟩ (hv (by unfold I64;decide))
 ·exact Se.en27_any eqb u v x i ⟨hx0,hx1⟩ (hv (by unfold I64;decide))
 ·exact Se.en28_any eqb u v x i ⟨hx0,hx1⟩ (hv (by unfold I64;decide))
 ·exact Se.en7_any eqb u v x i ⟨hx0,hx1⟩ (hv (by unfold I64;decide))
 ·exact Se.en18_any eqb u v x i ⟨hx0,hx1⟩ (hv (by unfold I64;decide))
 ·exact Se.en19_any eqb u v x i ⟨hx0,hx1⟩ (hv (by unfold I64;decide))
 ·exact Se.en20_any eqb u v x i ⟨hx0,hx1⟩ (hv (by unfold I64;decide))
 ·exact Se.en23_any eqb u v x i ⟨hx0,hx1⟩ (hv (by unfold I64;decide))
end Go.Proofs.Ytgnllglbopaheaa

namespace Go.Proofs.Ytgnllglbopaheaa
open Go.RowKit
def GivesPrP (x:List En × Bool) (w:World) (e:Ending) (w':World):Prop:=∃ s':Value,e=.returned (.tuple #[s',.bool x.2])∧LiesEP w' w.heap.size x.1 s'∧Kept w w'
theorem rowP {l:List En} {w w':World} {e:Ending} (h:GivesRow l w e w'):∃ s':Value,e=.returned s'∧LiesEP w' w.heap.size l s'∧Kept w w':=by
 obtain⟨s',ps,h1,h2,h3,h4⟩:=h
 exact⟨s',h1,by rw [←h3];exact madeE_lies h2,h4⟩
theorem makesP {l:List En} {w w':World} {e:Ending} (h:MakesE l w e w'):∃ s':Value,e=.returned s'∧LiesEP w' w.heap.size l s'∧Kept w w':=h
set_option maxRecDepth 20000 in
set_option maxHeartbeats 4000000 in
theorem premisePN_any (r:Int) (kid:Int) (c:List En) (w:World) (sc:Value) (ja:Option Addr) (jc:Nat) (hlc:LiesE w c sc) (hrr:I64 r) (hrkid:I64 kid) (hlen:c.length≤100000) (hsz:∀ e ∈ c,e.a.size≤1000000):Calls Try.prog 26 #[sc,.int .i64 r,.int .i64 kid,.slice ja 0 jc] w (GivesPrP (premB c r kid []) w):=by
 have HEc:=Lib.hid hlc
 obtain⟨ac,cc,Sc,rfl,-⟩:=hlc.out
 clear hlc
 have Rr:=Lib.hid hrr
 clear hrr
 have Rkid:=Lib.hid hrkid
 clear hrkid
 have HLEN:=Lib.hid hlen
 have HSZ:=Lib.hid hsz
 have HRN:=Lib.hid (show I64 (c.length:Int) by unfold I64;omega)
 clear hsz
 obtain⟨de,de1,de2⟩:=under_of 61 (by kernel_rfl)
 obtain⟨du,hu1,hu2⟩:=under_term
 go_enter Try.func26,Try.ntmps26
 go_upto_region 1 with fail
 refine at_code (fun V0 hV0=>?_)
 have k1:Kept w V0:=by rw [←hV0];exact kept_refl _
 have Z0:Hid (V0.heap.size=w.heap.size+0):=by show _=_;rw [←hV0];rfl
 clear hV0
 have Kk3:=Lib.hid k1
 clear k1
 have kvV0:SeesN V0 V0.heap.size V0:=seesN_kept _ (kept_refl _)
 by_cases c4:kid<0
 ·have ec4:decide (kid<0)=true:=decide_eq_true c4
  have Ec4:=Lib.hid ec4
  have Hc4:=Lib.hid c4
  clear c4
  go_wp2
  go_ret2
  rw [premB_kid0 Ec4.out]
  exact⟨_,rfl,liesEP_nil _ _,Kk3.out⟩
 ·have ec4:decide (kid<0)=false:=decide_eq_false c4
  have Ec4:=Lib.hid ec4
  have Hc4:=Lib.hid c4
  clear c4
  go_wp2_with fail
  clear kvV0
  refine(kidsK r _).mono ?_
  rintro e w5 ⟨rfl,k6⟩
  have Kk7:=Lib.hid k6
  clear k6
  have kvV0:SeesN V0 V0.heap.size w5:=seesN_kept _ Kk7.out
  by_cases c8:(Dv.dkidsN r)≤kid
  ·have ec8:decide ((Dv.dkidsN r)≤kid)=true:=decide_eq_true c8
   have Ec8:=Lib.hid ec8
   have Hc8:=Lib.hid c8
   clear c8
   go_wp2
   go_ret2
   rw [premB_kid1 Ec8.out]
   exact⟨_,rfl,liesEP_nil _ _,(kept_trans Kk3.out Kk7.out)⟩
  ·have ec8:decide ((Dv.dkidsN r)≤kid)=false:=decide_eq_false c8
   have Ec8:=Lib.hid ec8
   have Hc8:=Lib.hid c8
   clear c8
   go_wp2_with fail
   clear kvV0
   refine(rulepure_any c _ _ (HEc.out.keep (kept_trans Kk3.out Kk7.out))).mono ?_
   obtain⟨rb12,hb11⟩:∃ qb,(purC c)=qb:=⟨_,rfl⟩
   rw [hb11]
   have Hhb11:=Lib.hid hb11
   clear hb11
   rintro e w9 ⟨rfl,k10⟩
   have Kk13:=Lib.hid k10
   clear k10
   cases rb12 with
   | false =>
    have kvV0:SeesN V0 V0.heap.size w9:=seesN_kept _ (kept_trans Kk7.out Kk13.out)
    go_wp2
    go_ret2
    rw [premB_pure Hhb11.out]
    exact⟨_,rfl,liesEP_nil _ _,(kept_trans Kk3.out (kept_trans Kk7.out Kk13.out))⟩
   | true =>
    have kvV0:SeesN V0 V0.heap.size w9:=seesN_kept _ (kept_trans Kk7.out Kk13.out)
    go_wp2_with fail
    clear kvV0
    refine(innerK r kid _).mono ?_
    obtain⟨rb17,hb16⟩:∃ qb,(Dv.innerB r kid)=qb:=⟨_,rfl⟩
    rw [hb16]
    have Hhb16:=Lib.hid hb16
    clear hb16
    rintro e w14 ⟨rfl,k15⟩
    have Kk18:=Lib.hid k15
    clear k15
    cases rb17 with
    | false =>
     have kvV0:SeesN V0 V0.heap.size w14:=seesN_kept _ (kept_trans Kk7.out (kept_trans Kk13.out Kk18.out))
     go_wp2_with fail
     clear kvV0
     refine((entries_any c _ _ (HEc.out.keep (kept_trans Kk3.out (kept_trans Kk7.out (kept_trans Kk13.out Kk18.out)))) HLEN.out HSZ.out).mono (fun _ _ h=>rowP h)).mono ?_
     rintro e w19 ⟨s21,rfl,hl22,k20⟩
     obtain⟨a23,c24,S25,rfl,-⟩:=hl22.out
     have Hhl22:=Lib.hid hl22
     clear hl22
     have Kk26:=Lib.hid k20
     clear k20
     have kvV0:SeesN V0 V0.heap.size w19:=seesN_kept _ (kept_trans Kk7.out (kept_trans Kk13.out (kept_trans Kk18.out Kk26.out)))
     go_wp2
     go_ret2
     rw [premB_outer (premB_in Ec4.out Ec8.out Hhb11.out) Hhb16.out]
     exact⟨_,rfl,(Hhl22.out.from (Below.size (kept_trans Kk3.out (kept_trans Kk7.out (kept_trans Kk13.out Kk18.out))))),(kept_trans Kk3.out (kept_trans Kk7.out (kept_trans Kk13.out (kept_trans Kk18.out Kk26.out))))⟩
    | true =>
     have kvV0:SeesN V0 V0.heap.size w14:=seesN_kept _ (kept_trans Kk7.out (kept_trans Kk13.out Kk18.out))
     go_wp2
     go_ret2
     rw [premB_nil Hhb16.out]
     exact⟨_,rfl,liesEP_nil _ _,(kept_trans Kk3.out (kept_trans Kk7.out (kept_trans Kk13.out Kk18.out)))⟩
set_option maxRecDepth 20000 in
set_option maxHeartbeats 4000000 in
theorem premiseP0_any (eqb:Bool) (r:Int) (kid:Int) (i:Int) (c:List En) (u:Tm) (v:Tm) (x:Tm) (P:Nat→Prop) (w:World) (sc:Value) (b0 o0 N0 cap0:Nat) (C0:Array Value) (T0:TypeId) (fr0:Nat × Nat) (su:Value) (sv:Value) (sx:Value) (hlc:LiesE w c sc) (hrr:I64 r) (hrkid:I64 kid) (hfu:u.fine) (hlu:LiesQ w P u.kids su) (hfv:v.fine) (hlv:LiesQ w P v.kids sv) (hfx:x.fine) (hlx:LiesQ w P x.kids sx) (hri:I64 i) (hb0:w.heap[b0]? =some (.cells C0 T0 fr0)) (hs0:(C0.toList.drop o0).take 17=[.bool eqb,.int .i64 u.k,.int .i64 u.i,.int .i64 u.j,.int .i64 u.n,su,.int .i64 v.k,.int .i64 v.i,.int .i64 v.j,.int .i64 v.n,sv,.int .i64 x.k,.int .i64 x.i,.int .i64 x.j,.int .i64 x.n,sx,.int .i64 i]) (hN0:0<N0) (hlen:c.length≤100000) (hsz:∀ e ∈ c,e.a.size≤1000000) (rest:List Jd) (hzu:u.size≤1000000) (hza:x.size≤1000000):Calls Try.prog 26 #[sc,.int .i64 r,.int .i64 kid,.slice (some ⟨b0,o0,none⟩) N0 cap0] w (GivesPrP (premB c r kid ((⟨eqb,u,v,x,i⟩:Jd)::rest)) w):=by
 have HEc:=Lib.hid hlc
 obtain⟨ac,cc,Sc,rfl,-⟩:=hlc.out
 clear hlc
 have Rr:=Lib.hid hrr
 clear hrr
 have Rkid:=Lib.hid hrkid
 clear hrkid
 have Gu:=Lib.hid hfu
 clear hfu
 obtain⟨au,cu,Su,rfl,-⟩:=hlu.out
 have Gv:=Lib.hid hfv
 clear hfv
 obtain⟨av,cv,Sv,rfl,-⟩:=hlv.out
 have Gx:=Lib.hid hfx
 clear hfx
 obtain⟨ax,cx,Sx,rfl,-⟩:=hlx.out
 have Ri:=Lib.hid hri
 clear hri
 have HB0:=Lib.hid hb0
 have HS0:=Lib.hid hs0
 have en0:((N0:Int)==0)=false:=by simp;omega
 have en1:(N0==0)=false:=by simp;omega
 have en2:decide ((N0:Int)<1)=false:=decide_eq_false (by omega)
 have en3:decide (N0<1)=false:=decide_eq_false (by omega)
 clear hb0 hs0
 have HLEN:=Lib.hid hlen
 have HSZ:=Lib.hid hsz
 have HRN:=Lib.hid (show I64 (c.length:Int) by unfold I64;omega)
 clear hsz
 have HZU:=Lib.hid hzu
 have HZA:=Lib.hid hza
 clear hzu hza
 obtain⟨de,de1,de2⟩:=under_of 61 (by kernel_rfl)
 obtain⟨dj,dj1,dj2⟩:=under_of 40 (by kernel_rfl)
 obtain⟨du,hu1,hu2⟩:=under_term
 go_enter Try.func26,Try.ntmps26
 go_upto_region 1 with fail
 refine at_code (fun V0 hV0=>?_)
 have k1:Kept w V0:=by rw [←hV0];exact kept_refl _
 have Z0:Hid (V0.heap.size=w.heap.size+0):=by show _=_;rw [←hV0];rfl
 clear hV0
 have Kk3:=Lib.hid k1
 clear k1
 have HLu:Hid (LiesQ V0 (Par w V0.heap.size [] P) u.kids _):=(par_in _ _ hlu).later Kk3.out
 clear hlu
 have HLv:Hid (LiesQ V0 (Par w V0.heap.size [] P) v.kids _):=(par_in _ _ hlv).later Kk3.out
 clear hlv
 have HLx:Hid (LiesQ V0 (Par w V0.heap.size [] P) x.kids _):=(par_in _ _ hlx).later Kk3.out
 clear hlx
 have kvV0:SeesN V0 V0.heap.size V0:=seesN_kept _ (kept_refl _)
 by_cases c4:kid<0
 ·have ec4:decide (kid<0)=true:=decide_eq_true c4
  have Ec4:=Lib.hid ec4
  have Hc4:=Lib.hid c4
  clear c4
  go_wp2
  go_ret2
  rw [premB_kid0 Ec4.out]
  exact⟨_,rfl,liesEP_nil _ _,Kk3.out⟩
 ·have ec4:decide (kid<0)=false:=decide_eq_false c4
  have Ec4:=Lib.hid ec4
  have Hc4:=Lib.hid c4
  clear c4
  go_wp2_with fail
  clear kvV0
  refine(kidsK r _).mono ?_
  rintro e w5 ⟨rfl,k6⟩
  have Kk7:=Lib.hid k6
  clear k6
  have kvV0:SeesN V0 V0.heap.size w5:=seesN_kept _ Kk7.out
  by_cases c8:(Dv.dkidsN r)≤kid
  ·have ec8:decide ((Dv.dkidsN r)≤kid)=true:=decide_eq_true c8
   have Ec8:=Lib.hid ec8
   have Hc8:=Lib.hid c8
   clear c8
   go_wp2
   go_ret2
   rw [premB_kid1 Ec8.out]
   exact⟨_,rfl,liesEP_nil _ _,(kept_trans Kk3.out Kk7.out)⟩
  ·have ec8:decide ((Dv.dkidsN r)≤kid)=false:=decide_eq_false c8
   have Ec8:=Lib.hid ec8
   have Hc8:=Lib.hid c8
   clear c8
   go_wp2_with fail
   clear kvV0
   refine(rulepure_any c _ _ (HEc.out.keep (kept_trans Kk3.out Kk7.out))).mono ?_
   obtain⟨rb12,hb11⟩:∃ qb,(purC c)=qb:=⟨_,rfl⟩
   rw [hb11]
   have Hhb11:=Lib.hid hb11
   clear hb11
   rintro e w9 ⟨rfl,k10⟩
   have Kk13:=Lib.hid k10
   clear k10
   cases rb12 with
   | false =>
    have kvV0:SeesN V0 V0.heap.size w9:=seesN_kept _ (kept_trans Kk7.out Kk13.out)
    go_wp2
    go_ret2
    rw [premB_pure Hhb11.out]
    exact⟨_,rfl,liesEP_nil _ _,(kept_trans Kk3.out (kept_trans Kk7.out Kk13.out))⟩
   | true =>
    have kvV0:SeesN V0 V0.heap.size w9:=seesN_kept _ (kept_trans Kk7.out Kk13.out)
    go_wp2_with fail
    clear kvV0
    refine(innerK r kid _).mono ?_
    obtain⟨rb17,hb16⟩:∃ qb,(Dv.innerB r kid)=qb:=⟨_,rfl⟩
    rw [hb16]
    have Hhb16:=Lib.hid hb16
    clear hb16
    rintro e w14 ⟨rfl,k15⟩
    have Kk18:=Lib.hid k15
    clear k15
    cases rb17 with
    | false =>
     have kvV0:SeesN V0 V0.heap.size w14:=seesN_kept _ (kept_trans Kk7.out (kept_trans Kk13.out Kk18.out))
     go_wp2_with fail
     clear kvV0
     refine((entries_any c _ _ (HEc.out.keep (kept_trans Kk3.out (kept_trans Kk7.out (kept_trans Kk13.out Kk18.out)))) HLEN.out HSZ.out).mono (fun _ _ h=>rowP h)).mono ?_
     rintro e w19 ⟨s21,rfl,hl22,k20⟩
     obtain⟨a23,c24,S25,rfl,-⟩:=hl22.out
     have Hhl22:=Lib.hid hl22
     clear hl22
     have Kk26:=Lib.hid k20
     clear k20
     have kvV0:SeesN V0 V0.heap.size w19:=seesN_kept _ (kept_trans Kk7.out (kept_trans Kk13.out (kept_trans Kk18.out Kk26.out)))
     go_wp2
     go_ret2
     rw [premB_outer (premB_in Ec4.out Ec8.out Hhb11.out) Hhb16.out]
     exact⟨_,rfl,(Hhl22.out.from (Below.size (kept_trans Kk3.out (kept_trans Kk7.out (kept_trans Kk13.out Kk18.out))))),(kept_trans Kk3.out (kept_trans Kk7.out (kept_trans Kk13.out (kept_trans Kk18.out Kk26.out))))⟩
    | true =>
     have kvV0:SeesN V0 V0.heap.size w14:=seesN_kept _ (kept_trans Kk7.out (kept_trans Kk13.out Kk18.out))
     go_wp2_with (refine stop_load 40 (.tmp 36) rfl ?_)
     intro _
     refine wpList_load_part (b0) (o0) 40 (.tmp 36) #[.bool eqb,.int .i64 u.k,.int .i64 u.i,.int .i64 u.j,.int .i64 u.n,(.slice au u.kids.length cu),.int .i64 v.k,.int .i64 v.i,.int .i64 v.j,.int .i64 v.n,(.slice av v.kids.length cv),.int .i64 x.k,.int .i64 x.i,.int .i64 x.j,.int .i64 x.n,(.slice ax x.kids.length cx),.int .i64 i] dj (blk_at HB0.out (kept_trans Kk3.out (kept_trans Kk7.out (kept_trans Kk13.out Kk18.out)))) (by rfl) rfl (by rfl) (row_subW HS0.out 0 17 (by decide)) dj1 (by cases dj<;>first | rfl | exact dj2) (by kernel_rfl) ?_
     go_wp2_with fail
     clear kvV0
     refine(rrightE_any eqb (c.length:Int) i u v x (Par w V0.heap.size [] P) w14 ((.slice au u.kids.length cu)) ((.slice av v.kids.length cv)) ((.slice ax x.kids.length cx)) Gu.out (HLu.out.later (kept_trans Kk7.out (kept_trans Kk13.out Kk18.out))) Gv.out (HLv.out.later (kept_trans Kk7.out (kept_trans Kk13.out Kk18.out))) Gx.out (HLx.out.later (kept_trans Kk7.out (kept_trans Kk13.out Kk18.out))) Ri.out HRN.out).mono ?_
     obtain⟨rb30,hb29⟩:∃ qb,(rightJ (⟨eqb,u,v,x,i⟩:Jd) (c.length:Int))=qb:=⟨_,rfl⟩
     rw [hb29]
     have Hhb29:=Lib.hid hb29
     clear hb29
     rintro e w27 ⟨rfl,k28⟩
     have Kk31:=Lib.hid k28
     clear k28
     cases rb30 with
     | false =>
      have kvV0:SeesN V0 V0.heap.size w27:=seesN_kept _ (kept_trans Kk7.out (kept_trans Kk13.out (kept_trans Kk18.out Kk31.out)))
      go_wp2
      go_ret2
      rw [premB_right Hhb16.out Hhb29.out]
      exact⟨_,rfl,liesEP_nil _ _,(kept_trans Kk3.out (kept_trans Kk7.out (kept_trans Kk13.out (kept_trans Kk18.out Kk31.out))))⟩
     | true =>
      have HX0:=Lib.hid (pure_range (rightJ_pure Hhb29.out)).1
      have HX1:=Lib.hid (pure_range (rightJ_pure Hhb29.out)).2
      have kvV0:SeesN V0 V0.heap.size w27:=seesN_kept _ (kept_trans Kk7.out (kept_trans Kk13.out (kept_trans Kk18.out Kk31.out)))
      go_wp2_with (refine stop_load 40 (.tmp 46) rfl ?_)
      intro _
      refine wpList_load_part (b0) (o0) 40 (.tmp 46) #[.bool eqb,.int .i64 u.k,.int .i64 u.i,.int .i64 u.j,.int .i64 u.n,(.slice au u.kids.length cu),.int .i64 v.k,.int .i64 v.i,.int .i64 v.j,.int .i64 v.n,(.slice av v.kids.length cv),.int .i64 x.k,.int .i64 x.i,.int .i64 x.j,.int .i64 x.n,(.slice ax x.kids.length cx),.int .i64 i] dj (blk_at HB0.out (kept_trans Kk3.out (kept_trans Kk7.out (kept_trans Kk13.out (kept_trans Kk18.out Kk31.out))))) (by rfl) rfl (by rfl) (row_subW HS0.out 0 17 (by decide)) dj1 (by cases dj<;>first | rfl | exact dj2) (by kernel_rfl) ?_
      go_wp2_with fail
      clear kvV0
      refine(entryE_any Hhb16.out eqb i u v x (Par w V0.heap.size [] P) w27 Rr.out ((.slice au u.kids.length cu)) ((.slice av v.kids.length cv)) ((.slice ax x.kids.length cx)) Gu.out (HLu.out.later (kept_trans Kk7.out (kept_trans Kk13.out (kept_trans Kk18.out Kk31.out)))) Gv.out (HLv.out.later (kept_trans Kk7.out (kept_trans Kk13.out (kept_trans Kk18.out Kk31.out)))) Gx.out (HLx.out.later (kept_trans Kk7.out (kept_trans Kk13.out (kept_trans Kk18.out Kk31.out)))) Ri.out HX0.out HX1.out).mono ?_
      obtain⟨rb35,hb34⟩:∃ qb,((entB r (⟨eqb,u,v,x,i⟩:Jd)).2)=qb:=⟨_,rfl⟩
      rw [hb34]
      have Hhb34:=Lib.hid hb34
      clear hb34
      obtain⟨U41,hU41⟩:∃ qu,(entB r (⟨eqb,u,v,x,i⟩:Jd)).1=qu:=⟨_,rfl⟩
      rw [hU41]
      have HU41:=Lib.hid hU41
      clear hU41
      rintro e w32 ⟨s36,rfl,hl37,k33⟩
      obtain⟨a38,c39,S40,rfl,-⟩:=hl37.out
      have Kk42:=Lib.hid k33
      clear k33
      have Hhl37:Hid (LiesQ w32 (Par w V0.heap.size [] P) U41.a.kids _):=par_give hl37 (Below.size (kept_trans Kk7.out (kept_trans Kk13.out (kept_trans Kk18.out Kk31.out)))) (xlt_nil _)
      clear hl37
      cases rb35 with
      | false =>
       have kvV0:SeesN V0 V0.heap.size w32:=seesN_kept _ (kept_trans Kk7.out (kept_trans Kk13.out (kept_trans Kk18.out (kept_trans Kk31.out Kk42.out))))
       go_wp2_with (refine stop_store 61 (.tmp 10) (.tmp 49) rfl ?_)
       intro _
       refine wpList_store_part_n (by rfl) 61 (.tmp 10) (.tmp 49) rfl (w32.heap.size) 0 #[.int .i64 U41.a.k,.int .i64 U41.a.i,.int .i64 U41.a.j,.int .i64 U41.a.n,(.slice a38 U41.a.kids.length c39),.int .i64 U41.i] (by rfl) (by rfl) 61 (by kernel_rfl) (row_ok rfl) ?_
       intro W43 hW43
       clear kvV0
       obtain⟨k46,x45,z47⟩:=alloc1 hW43
       have Kk48:=Lib.hid k46
       clear k46
       have Hx45:=Lib.hid x45
       have Hz47:=Lib.hid z47
       clear x45 z47 hW43
       have HG49:Hid (V0.heap.size≤w32.heap.size):=(Below.size (kept_trans Kk7.out (kept_trans Kk13.out (kept_trans Kk18.out (kept_trans Kk31.out Kk42.out)))))
       have XL50:Hid (XLt (w32.heap.size::[]) W43):=(xlt_more (xlt_nil _) Kk48.out (by have:=Hz47.out;omega))
       refine⟨_,#[.int .i64 U41.a.k,.int .i64 U41.a.i,.int .i64 U41.a.j,.int .i64 U41.a.n,(.slice a38 U41.a.kids.length c39),.int .i64 U41.i],Hx45.out,rfl,Nat.le_of_ble_eq_true rfl,?_⟩
       intro W44 hW44
       have KB51:=Lib.hid (kept_set (kept_trans Kk3.out (kept_trans Kk7.out (kept_trans Kk13.out (kept_trans Kk18.out (kept_trans Kk31.out (kept_trans Kk42.out Kk48.out)))))) hW44 (by have:=HG49.out;have:=Z0.out;omega))
       have KB52:=Lib.hid (kept_set (kept_trans Kk7.out (kept_trans Kk13.out (kept_trans Kk18.out (kept_trans Kk31.out (kept_trans Kk42.out Kk48.out))))) hW44 HG49.out)
       have HL53:Hid (LiesQ W44 (Par w V0.heap.size (w32.heap.size::[]) P) u.kids _):=par_set (par_grow HLu.out (kept_trans Kk7.out (kept_trans Kk13.out (kept_trans Kk18.out (kept_trans Kk31.out (kept_trans Kk42.out Kk48.out))))) (List.forall_mem_cons.2 ⟨(Or.inr (Nat.le_trans (Below.size (kept_trans Kk7.out (kept_trans Kk13.out (kept_trans Kk18.out (kept_trans Kk31.out Kk42.out))))) (Nat.le_refl w32.heap.size))),(fun _ h=>nomatch h)⟩)) hW44 (List.mem_cons_self ..) (by have:=HG49.out;have:=Z0.out;omega)
       have HL54:Hid (LiesQ W44 (Par w V0.heap.size (w32.heap.size::[]) P) v.kids _):=par_set (par_grow HLv.out (kept_trans Kk7.out (kept_trans Kk13.out (kept_trans Kk18.out (kept_trans Kk31.out (kept_trans Kk42.out Kk48.out))))) (List.forall_mem_cons.2 ⟨(Or.inr (Nat.le_trans (Below.size (kept_trans Kk7.out (kept_trans Kk13.out (kept_trans Kk18.out (kept_trans Kk31.out Kk42.out))))) (Nat.le_refl w32.heap.size))),(fun _ h=>nomatch h)⟩)) hW44 (List.mem_cons_self ..) (by have:=HG49.out;have:=Z0.out;omega)
       have HL55:Hid (LiesQ W44 (Par w V0.heap.size (w32.heap.size::[]) P) x.kids _):=par_set (par_grow HLx.out (kept_trans Kk7.out (kept_trans Kk13.out (kept_trans Kk18.out (kept_trans Kk31.out (kept_trans Kk42.out Kk48.out))))) (List.forall_mem_cons.2 ⟨(Or.inr (Nat.le_trans (Below.size (kept_trans Kk7.out (kept_trans Kk13.out (kept_trans Kk18.out (kept_trans Kk31.out Kk42.out))))) (Nat.le_refl w32.heap.size))),(fun _ h=>nomatch h)⟩)) hW44 (List.mem_cons_self ..) (by have:=HG49.out;have:=Z0.out;omega)
       have HL56:Hid (LiesQ W44 (Par w V0.heap.size (w32.heap.size::[]) P) U41.a.kids _):=par_set (par_grow Hhl37.out Kk48.out (List.forall_mem_cons.2 ⟨(Or.inr (Nat.le_refl w32.heap.size)),(fun _ h=>nomatch h)⟩)) hW44 (List.mem_cons_self ..) (by have:=HG49.out;have:=Z0.out;omega)
       have XL57:=Lib.hid (xlt_set XL50.out hW44)
       have HX58:=Lib.hid (blk_same Hx45.out hW44)
       clear hW44
       have ld59:=partN_cell (r:=V0.heap.size) HX58.out trivial 5 (.int .i64 U41.i) rfl
       have kvV0:SeesN V0 V0.heap.size W44:=seesN_kept _ KB52.out
       have kvW44:SeesN W44 V0.heap.size W44:=seesN_kept _ (kept_refl _)
       go_wp2
       go_ret2
       rw [premB_ent Hhb16.out Hhb34.out]
       exact⟨_,rfl,liesEP_nil _ _,KB51.out⟩
      | true =>
       have kvV0:SeesN V0 V0.heap.size w32:=seesN_kept _ (kept_trans Kk7.out (kept_trans Kk13.out (kept_trans Kk18.out (kept_trans Kk31.out Kk42.out))))
       go_wp2_with (refine stop_store 61 (.tmp 10) (.tmp 49) rfl ?_)
       intro _
       refine wpList_store_part_n (by rfl) 61 (.tmp 10) (.tmp 49) rfl (w32.heap.size) 0 #[.int .i64 U41.a.k,.int .i64 U41.a.i,.int .i64 U41.a.j,.int .i64 U41.a.n,(.slice a38 U41.a.kids.length c39),.int .i64 U41.i] (by rfl) (by rfl) 61 (by kernel_rfl) (row_ok rfl) ?_
       intro W60 hW60
       clear kvV0
       obtain⟨k63,x62,z64⟩:=alloc1 hW60
       have Kk65:=Lib.hid k63
       clear k63
       have Hx62:=Lib.hid x62
       have Hz64:=Lib.hid z64
       clear x62 z64 hW60
       have HG66:Hid (V0.heap.size≤w32.heap.size):=(Below.size (kept_trans Kk7.out (kept_trans Kk13.out (kept_trans Kk18.out (kept_trans Kk31.out Kk42.out)))))
       have XL67:Hid (XLt (w32.heap.size::[]) W60):=(xlt_more (xlt_nil _) Kk65.out (by have:=Hz64.out;omega))
       refine⟨_,#[.int .i64 U41.a.k,.int .i64 U41.a.i,.int .i64 U41.a.j,.int .i64 U41.a.n,(.slice a38 U41.a.kids.length c39),.int .i64 U41.i],Hx62.out,rfl,Nat.le_of_ble_eq_true rfl,?_⟩
       intro W61 hW61
       have KB68:=Lib.hid (kept_set (kept_trans Kk3.out (kept_trans Kk7.out (kept_trans Kk13.out (kept_trans Kk18.out (kept_trans Kk31.out (kept_trans Kk42.out Kk65.out)))))) hW61 (by have:=HG66.out;have:=Z0.out;omega))
       have KB69:=Lib.hid (kept_set (kept_trans Kk7.out (kept_trans Kk13.out (kept_trans Kk18.out (kept_trans Kk31.out (kept_trans Kk42.out Kk65.out))))) hW61 HG66.out)
       have HL70:Hid (LiesQ W61 (Par w V0.heap.size (w32.heap.size::[]) P) u.kids _):=par_set (par_grow HLu.out (kept_trans Kk7.out (kept_trans Kk13.out (kept_trans Kk18.out (kept_trans Kk31.out (kept_trans Kk42.out Kk65.out))))) (List.forall_mem_cons.2 ⟨(Or.inr (Nat.le_trans (Below.size (kept_trans Kk7.out (kept_trans Kk13.out (kept_trans Kk18.out (kept_trans Kk31.out Kk42.out))))) (Nat.le_refl w32.heap.size))),(fun _ h=>nomatch h)⟩)) hW61 (List.mem_cons_self ..) (by have:=HG66.out;have:=Z0.out;omega)
       have HL71:Hid (LiesQ W61 (Par w V0.heap.size (w32.heap.size::[]) P) v.kids _):=par_set (par_grow HLv.out (kept_trans Kk7.out (kept_trans Kk13.out (kept_trans Kk18.out (kept_trans Kk31.out (kept_trans Kk42.out Kk65.out))))) (List.forall_mem_cons.2 ⟨(Or.inr (Nat.le_trans (Below.size (kept_trans Kk7.out (kept_trans Kk13.out (kept_trans Kk18.out (kept_trans Kk31.out Kk42.out))))) (Nat.le_refl w32.heap.size))),(fun _ h=>nomatch h)⟩)) hW61 (List.mem_cons_self ..) (by have:=HG66.out;have:=Z0.out;omega)
       have HL72:Hid (LiesQ W61 (Par w V0.heap.size (w32.heap.size::[]) P) x.kids _):=par_set (par_grow HLx.out (kept_trans Kk7.out (kept_trans Kk13.out (kept_trans Kk18.out (kept_trans Kk31.out (kept_trans Kk42.out Kk65.out))))) (List.forall_mem_cons.2 ⟨(Or.inr (Nat.le_trans (Below.size (kept_trans Kk7.out (kept_trans Kk13.out (kept_trans Kk18.out (kept_trans Kk31.out Kk42.out))))) (Nat.le_refl w32.heap.size))),(fun _ h=>nomatch h)⟩)) hW61 (List.mem_cons_self ..) (by have:=HG66.out;have:=Z0.out;omega)
       have HL73:Hid (LiesQ W61 (Par w V0.heap.size (w32.heap.size::[]) P) U41.a.kids _):=par_set (par_grow Hhl37.out Kk65.out (List.forall_mem_cons.2 ⟨(Or.inr (Nat.le_refl w32.heap.size)),(fun _ h=>nomatch h)⟩)) hW61 (List.mem_cons_self ..) (by have:=HG66.out;have:=Z0.out;omega)
       have XL74:=Lib.hid (xlt_set XL67.out hW61)
       have HX75:=Lib.hid (blk_same Hx62.out hW61)
       clear hW61
       have ld76:=partN_cell (r:=V0.heap.size) HX75.out trivial 5 (.int .i64 U41.i) rfl
       have kvV0:SeesN V0 V0.heap.size W61:=seesN_kept _ KB69.out
       have kvW61:SeesN W61 V0.heap.size W61:=seesN_kept _ (kept_refl _)
       go_wp2_with (refine stop_load 38 (.tmp 54) rfl ?_)
       intro _
       refine wpList_load_part (w32.heap.size) (0) 38 (.tmp 54) #[.int .i64 U41.a.k,.int .i64 U41.a.i,.int .i64 U41.a.j,.int .i64 U41.a.n,(.slice a38 U41.a.kids.length c39)] du HX75.out (by rfl) rfl (by rfl) (by rfl) hu1 (by cases du<;>first | rfl | exact hu2) size_term ?_
       go_wp2_with fail
       clear kvV0
       clear kvW61
       refine((ctxadd_any c U41.a U41.i _ _ ((.slice a38 U41.a.kids.length c39)) (HEc.out.keep KB68.out) HL73.out.lies ⟨(show En.fine U41 from by rw [←HU41.out];exact(entB_fine (r:=r) (j:=(⟨eqb,u,v,x,i⟩:Jd)) ⟨Gu.out,Gv.out,Gx.out,Ri.out⟩)).1,(show En.fine U41 from by rw [←HU41.out];exact(entB_fine (r:=r) (j:=(⟨eqb,u,v,x,i⟩:Jd)) ⟨Gu.out,Gv.out,Gx.out,Ri.out⟩)).2⟩ HLEN.out HSZ.out (by rw [←HU41.out];exact entB_size HZU.out HZA.out)).mono (fun _ _ h=>makesP h)).mono ?_
       rintro e w77 ⟨s79,rfl,hl80,k78⟩
       obtain⟨a81,c82,S83,rfl,-⟩:=hl80.out
       have Hhl80:=Lib.hid hl80
       clear hl80
       have Kk84:=Lib.hid k78
       clear k78
       have kvV0:SeesN V0 V0.heap.size w77:=seesN_kept _ (kept_trans KB69.out Kk84.out)
       have kvW61:SeesN W61 V0.heap.size w77:=seesN_kept _ Kk84.out
       go_wp2
       go_ret2
       rw [premB_all (premB_in Ec4.out Ec8.out Hhb11.out) Hhb16.out Hhb29.out Hhb34.out]
       exact⟨_,rfl,(by rw [HU41.out];have h:=(Hhl80.out.from (Below.size KB68.out));rw [List.length_append] at h;exact h),(kept_trans KB68.out Kk84.out)⟩
theorem premiseP_any (c:List En) (on:List Jd) (r kid:Int) (w:World) (sc sj:Value) (hl:LiesE w c sc) (hj:LiesJ w on sj) (hrr:I64 r) (hrk:I64 kid) (hlen:c.length≤100000) (hsz:∀ e ∈ c,e.a.size≤1000000) (hzj:∀ j ∈ on,j.u.size≤1000000∧j.a.size≤1000000) :
 Calls Try.prog 26 #[sc,.int .i64 r,.int .i64 kid,sj] w (GivesPrP (premB c r kid on) w):=by
 obtain⟨a,cap,S,rfl,hc,hm,hf,hn,hk⟩:=hj.out
 match on,hf,hn,hk,hzj with
 | [],_,_,_,_=>exact premisePN_any r kid c w sc a cap hl hrr hrk hlen hsz
 | ⟨eq,u,v,x,i⟩::rest,hf,hn,hk,hzj =>
  obtain⟨b,o,rfl,hx⟩:=hn 0 (Nat.zero_lt_succ _)
  obtain⟨C,T,fr,hC,hS⟩:=jnode_blk hx
  have hf0:=hf _ (List.mem_cons_self ..)
  have hk0:=hk 0 (Nat.zero_lt_succ _)
  have hz0:=hzj _ (List.mem_cons_self ..)
  rw [Nat.zero_mul,Nat.add_zero] at hS
  exact premiseP0_any eq r kid i c u v x (fun b=>b<w.heap.size) w sc b o _ cap C T fr _ _ _ hl hrr hrk hf0.1 hk0.1.q hf0.2.1 hk0.2.1.q hf0.2.2.1 hk0.2.2.q hf0.2.2.2 hC hS (Nat.zero_lt_succ _) hlen hsz rest hz0.1 hz0.2
end Go.Proofs.Ytgnllglbopaheaa

namespace Go.Proofs.Ytgnllglbopaheaa.Ck
open Go Go.RowKit
theorem liesQ_fr {N0 K:Nat} {w w':World} {P:Nat→Prop} (h:Fr N0 K w w') (hK:Sees K w) {l:List Tm} {s:Value} (hl:LiesQ w P l s):LiesQ w' P l s:=by
 induction hl with
 | mk l a cap S hc hm hf hn hk ih =>
  refine .mk l a cap S hc hm hf (fun i hi=>?_) ih
  obtain⟨b,o,ha,hp,hx⟩:=hn i hi
  obtain⟨a2,n2,c2,e2⟩:=lies_slice (hk i hi).lies
  exact⟨b,o,ha,hp,hx.same (h.node hK hx.c3 (by rw [←e2];exact hx.c4))⟩
theorem liesEQ_fr {N0 K:Nat} {w w':World} {P:Nat→Prop} (h:Fr N0 K w w') (hK:Sees K w) {l:List En} {s:Value} (hl:Se.LiesEQ w P l s):Se.LiesEQ w' P l s:=by
 obtain⟨a,cap,S,hs,hc,hm,hf,hn⟩:=hl.out
 refine⟨a,cap,S,hs,hc,hm,hf,fun i hi=>?_⟩
 obtain⟨⟨b,o,ha,hp,hx⟩,hk⟩:=hn i hi
 obtain⟨a2,n2,c2,e2⟩:=lies_slice hk.lies
 exact⟨⟨b,o,ha,hp,hx.same (h.node hK hx.c3 (by rw [←e2];exact hx.c4))⟩,liesQ_fr h hK hk⟩
theorem liesEP_q {w:World} {B:Nat} {l:List En} {s:Value} (h:LiesEP w B l s):Se.LiesEQ w (fun b=>B≤b) l s:=by
 obtain⟨a,cap,S,hs,hc,hm,hf,hn,hk⟩:=h.out
 refine⟨a,cap,S,hs,hc,hm,hf,fun i hi=>?_⟩
 obtain⟨b,ha,hp,hx⟩:=hn i hi
 exact⟨⟨b,0,ha,hp.1,by rw [Nat.zero_add];exact hx⟩,(hk i hi).q.wide fun b h=>h.1⟩
abbrev PJ:=Jd × (Value × Value × Value)
structure MadeK (N:Nat) (w:World) (v:Value) (ps:List PJ):Prop where
 own:w.ownsRow N 40 17 v ps.length (cells17 ps)
 fine:∀ p ∈ ps,p.1.fine
 kids:∀ p ∈ ps,LiesQ w (fun b=>N≤b∧v.ownBlock≠some b) p.1.u.kids p.2.1∧LiesQ w (fun b=>N≤b∧v.ownBlock≠some b) p.1.v.kids p.2.2.1∧LiesQ w (fun b=>N≤b∧v.ownBlock≠some b) p.1.a.kids p.2.2.2
theorem madeK_nil (N:Nat) (w:World):MadeK N w (.slice none 0 0) []:=⟨⟨rfl,Or.inl ⟨rfl,rfl⟩⟩,(fun _ h=>by cases h),(fun _ h=>by cases h)⟩
theorem madeK_fr {N N0 K:Nat} {w w':World} {v:Value} {ps:List PJ} (h:MadeK N w v ps) (hf:Fr N0 K w w') (hK:Sees K w) (hN:K<N):MadeK N w' v ps:=by
 refine⟨?_,h.fine,fun p hp=>⟨liesQ_fr hf hK (h.kids p hp).1,liesQ_fr hf hK (h.kids p hp).2.1,liesQ_fr hf hK (h.kids p hp).2.2⟩⟩
 obtain⟨h1,h2⟩:=h.own
 refine⟨h1,?_⟩
 rcases h2 with h2 | ⟨g,cap,cur,hv,hg,hh,r⟩
 ·exact Or.inl h2
 ·exact Or.inr ⟨g,cap,cur,hv,hg,(hf.block g (Array.getElem?_eq_some_iff.1 hh).1 (Or.inr ⟨by omega,not_row hh (by decide)⟩)).trans hh,r⟩
theorem madeK_later {N:Nat} {w w':World} {v:Value} {ps:List PJ} (h:MadeK N w v ps) (hb:Kept w w'):MadeK N w' v ps:=by
 refine⟨?_,h.fine,fun p hp=>⟨(h.kids p hp).1.later hb,(h.kids p hp).2.1.later hb,(h.kids p hp).2.2.later hb⟩⟩
 obtain⟨h1,h2⟩:=h.own
 refine⟨h1,?_⟩
 rcases h2 with h2 | ⟨g,cap,cur,hv,hg,hh,r⟩
 ·exact Or.inl h2
 ·exact Or.inr ⟨g,cap,cur,hv,hg,(hb.block g (Array.getElem?_eq_some_iff.1 hh).1).trans hh,r⟩
theorem madeK_block {N:Nat} {w:World} {v:Value} {ps:List PJ} (h:MadeK N w v ps) {g:Nat} (hg:v.ownBlock=some g):N≤g∧g<w.heap.size:=by
 rcases h.own.2 with ⟨rfl,-⟩ | ⟨g',cap,cur,rfl,hg',hh,-⟩
 ·simp [Value.ownBlock] at hg
 ·have:=(Array.getElem?_eq_some_iff.1 hh).1
  simp [Value.ownBlock] at hg
  omega
theorem madeK_step {N:Nat} {w w1:World} {v:Value} {ps:List PJ} {p:PJ} {g cap:Nat} (h:MadeK N w v ps) (hf:p.1.fine)
 (hk:LiesQ w (fun b=>N≤b∧v.ownBlock≠some b) p.1.u.kids p.2.1∧LiesQ w (fun b=>N≤b∧v.ownBlock≠some b) p.1.v.kids p.2.2.1∧LiesQ w (fun b=>N≤b∧v.ownBlock≠some b) p.1.a.kids p.2.2.2)
 (hown:w1.ownsRow N 40 17 (.slice (some ⟨g,0,none⟩) (ps.length+1) cap) (ps.length+1) (cells17 ps++cells17 [p])) (hgrow:w.grownBy w1 v.ownBlock) (hg:v.ownBlock=some g∨g=w.heap.size) :
 MadeK N w1 (.slice (some ⟨g,0,none⟩) (ps.length+1) cap) (ps++[p]):=by
 have kp:∀ l s,LiesQ w (fun b=>N≤b∧v.ownBlock≠some b) l s→LiesQ w1 (fun b=>N≤b∧(Value.slice (some ⟨g,0,none⟩) (ps.length+1) cap).ownBlock≠some b) l s:=fun l s hq =>
  hq.keep (fun b hb hlt=>hgrow.block b hlt (fun e=>hb.2 e.symm)) (fun b hb hlt=>⟨hb.1,by
   show some g≠some b
   rcases hg with e | e
   ·rw [←e];exact hb.2
   ·intro e';have:=Option.some.inj e';omega⟩)
 refine⟨by rw [cells17_append];simpa using hown,fun q hq=>?_,fun q hq=>?_⟩
 ·rcases List.mem_append.1 hq with hq | hq
  ·exact h.fine q hq
  ·rw [List.mem_singleton.1 hq];exact hf
 ·rcases List.mem_append.1 hq with hq | hq
  ·exact⟨kp _ _ (h.kids q hq).1,kp _ _ (h.kids q hq).2.1,kp _ _ (h.kids q hq).2.2⟩
  ·rw [List.mem_singleton.1 hq];exact⟨kp _ _ hk.1,kp _ _ hk.2.1,kp _ _ hk.2.2⟩
theorem madeK_lies {N:Nat} {w:World} {v:Value} {ps:List PJ} (h:MadeK N w v ps):Se.LiesJQ w (fun b=>N≤b) (ps.map (·.1)) v:=by
 have fin:∀ x ∈ ps.map (·.1),x.fine:=fun x hx=>by obtain⟨p,hp,rfl⟩:=List.mem_map.1 hx;exact h.fine p hp
 obtain⟨-,⟨rfl,hn⟩ | ⟨g,cap,cur,rfl,hg,hh,hnc,hcm,hsz,htk⟩⟩:=h.own
 ·obtain rfl:ps=[]:=List.eq_nil_of_length_eq_zero hn
  exact⟨none,0,fun _=>(.nilIface,.nilIface,.nilIface),rfl,Nat.le_refl _,by decide,(fun _ h=>by cases h),(fun _ h=>by cases h)⟩
 ·refine⟨some ⟨g,0,none⟩,cap,fun i=>(ps[i]?.map (·.2)).getD (.nilIface,.nilIface,.nilIface),by simp,by simpa using hnc,hcm,fin,fun i hi=>⟨?_,?_⟩⟩
  ·have hi':i<ps.length:=by simpa using hi
   refine⟨g,0,rfl,hg,?_⟩
   simp only [List.getElem_map,List.getElem?_eq_getElem hi',Option.map_some,Option.getD_some,Nat.zero_add]
   have cellq:∀ q,q<17→w.cell? ⟨g,i * 17+q,none⟩=(jcells ps[i])[q]?:=fun q hq=>by
    rw [h.own.cellAt (i * 17+q) (by omega)];exact cells17_get ps i hi' q hq
   exact⟨cellq 0 (by omega),cellq 1 (by omega),cellq 2 (by omega),cellq 3 (by omega),cellq 4 (by omega),cellq 5 (by omega),cellq 6 (by omega),cellq 7 (by omega),cellq 8 (by omega),cellq 9 (by omega),cellq 10 (by omega),cellq 11 (by omega),cellq 12 (by omega),cellq 13 (by omega),cellq 14 (by omega),cellq 15 (by omega),cellq 16 (by omega)⟩
  ·have hi':i<ps.length:=by simpa using hi
   simp only [List.getElem_map,List.getElem?_eq_getElem hi',Option.map_some,Option.getD_some]
   have:=h.kids _ (List.getElem_mem hi')
   exact⟨this.1.wide fun _ h=>h.1,this.2.1.wide fun _ h=>h.1,this.2.2.wide fun _ h=>h.1⟩
end Go.Proofs.Ytgnllglbopaheaa.Ck

namespace Go.Proofs.Ytgnllglbopaheaa.Se
open Go Go.RowKit
def baseSz:Spec D15:=fun f args orc =>
 bif Nat.beq f 40 then(match args with
  | [(true,a)]=>onT a fun t=>some ([(false,[.oint (t.size:Int)])],false,[t.size≤1000000000000],orc)
  | _=>none)
 else none
theorem baseSz_ok:SpecOk Try.prog baseSz:=by
 intro f args orc ret tup pre orc' h
 unfold baseSz at h
 cases hb:Nat.beq f 40 with
 | true =>
  obtain rfl:=Nat.eq_of_beq_eq_true hb
  simp only [hb,cond_true] at h
  split at h
  ·rename_i a
   obtain⟨t,ht,h⟩:=onT_some h
   cases h
   refine⟨⟨_,_,Try.func40,by kernel_rfl,rfl⟩,fun hp w A vs hv=>?_⟩
   obtain⟨x,rfl,h1⟩:=hv.one
   obtain⟨s,rfl,f1,l1⟩:=arg_T h1 ht
   refine(size_any t w s l1.lies hp.1).mono fun e w' he=>?_
   obtain⟨rfl,hb⟩:=he
   have hz:=hp.1
   exact⟨_,rfl,⟨_,rfl,_,rfl,rfl,by unfold I64;omega⟩,hb⟩
  ·cases h
 | false =>
  simp only [hb,cond_false] at h
  cases h
noncomputable def fSize:Func:=(Try.prog.funcs[29]?).getD default
theorem fSize_at:Try.prog.funcs[29]? =some fSize:=by kernel_rfl
theorem fSize_one:(!Nat.beq fSize.results.size 1)=false:=by kernel_rfl
def sizeJ (j:Jd):Int:=(j.u.size:Int)+(j.a.size:Int)+(if j.eq=true then(j.v.size:Int) else 0)
theorem cksize_any (j:Jd) (w:World) (A:Nat→Prop) (su sv sa:Value) (hf:j.fine) (hu:LiesQ w A j.u.kids su) (hv:LiesQ w A j.v.kids sv) (ha:LiesQ w A j.a.kids sa) (zu:j.u.size≤10000000) (zv:j.v.size≤10000000) (za:j.a.size≤10000000) :
 Calls Try.prog 29 #[jv j su sv sa] w fun e w'=>e=.returned (.int .i64 (sizeJ j))∧Below w.heap.size w w':=by
 have hz:∀ {t:Tm},t.size≤10000000→(re t).size≤1000000000000:=fun h=>by rw [re_eq];omega
 have hA:F2 (ArgDen w A) [(true,jdF j)] [jv j su sv sa]:=⟨⟨_,rfl,jdF_den hf hu hv ha⟩,trivial⟩
 obtain⟨e,u,v,a,i⟩:=j
 cases e with
 | true =>
  have H:=call_ok baseSz_ok mixed15 fSize_at (n:=60) (orc:=[]) (orc2:=[]) (args:=[(true,jdF ⟨true,u,v,a,i⟩)]) (ret:=[(false,[.oint (W64 (W64 (((re u).size:Int)+((re a).size:Int))+((re v).size:Int)))])]) (by kernel_rfl) (al (hz zu) (al (hz za) (al (hz zv) an))) hA
  rw [fSize_one] at H
  refine H.mono fun e w' he=>?_
  obtain⟨x,rfl,hr,hb⟩:=he
  obtain⟨us,hus,hr⟩:=hr
  cases hus
  obtain⟨y,hy,hr⟩:=hr
  cases hy
  obtain⟨rfl,-⟩:=hr
  refine⟨?_,hb⟩
  simp only [re_eq,sizeJ,if_true] at *
  rw [show W64 ((u.size:Int)+(a.size:Int))=(u.size:Int)+(a.size:Int) from IntWalk.i64_in _ (by omega),show W64 ((u.size:Int)+(a.size:Int)+(v.size:Int))=(u.size:Int)+(a.size:Int)+(v.size:Int) from IntWalk.i64_in _ (by omega)]
 | false =>
  have H:=call_ok baseSz_ok mixed15 fSize_at (n:=60) (orc:=[]) (orc2:=[]) (args:=[(true,jdF ⟨false,u,v,a,i⟩)]) (ret:=[(false,[.oint (W64 (((re u).size:Int)+((re a).size:Int)))])]) (by kernel_rfl) (al (hz zu) (al (hz za) an)) hA
  rw [fSize_one] at H
  refine H.mono fun e w' he=>?_
  obtain⟨x,rfl,hr,hb⟩:=he
  obtain⟨us,hus,hr⟩:=hr
  cases hus
  obtain⟨y,hy,hr⟩:=hr
  cases hy
  obtain⟨rfl,-⟩:=hr
  refine⟨?_,hb⟩
  simp only [re_eq,sizeJ,Bool.false_eq_true,if_false,Int.add_zero] at *
  rw [show W64 ((u.size:Int)+(a.size:Int))=(u.size:Int)+(a.size:Int) from IntWalk.i64_in _ (by omega)]
end Go.Proofs.Ytgnllglbopaheaa.Se

namespace Go.Proofs.Ytgnllglbopaheaa
open Go.RowKit
set_option maxRecDepth 20000 in
set_option maxHeartbeats 4000000 in
theorem ckpure_any (l:List En) (w:World) (s:Value) (hl:LiesE w l s):Calls Try.prog 15 #[s] w fun e w'=>e=.returned (.bool (purC l))∧Below w.heap.size w w':=by
 obtain⟨a,cap,S,rfl,hc,hmx,-,hn,hk⟩:=hl.out
 unfold maxLen at hmx
 have HL:=Lib.hid hl
 have HN:=Lib.hid hn
 have HK:=Lib.hid hk
 clear hn hk hl
 go_enter Try.func15,Try.ntmps15
 go_wp2
 go_loopw [7] (fun iv wr=>∃ k:Nat,k≤l.length∧iv=.int .i64 k∧Hid ((l.take k).all (fun e=>e.a.pureB)=true)∧Below w.heap.size w wr) (fun iv _=>l.length-(intOf iv).toNat)
 case atStart=>exact⟨0,Nat.zero_le _,rfl,rfl,Below.refl _ _⟩
 case round =>
  obtain⟨k,hk,rfl,hgood,hb⟩:=hrel
  by_cases hlt:k<l.length
  ·obtain⟨b,o,rfl,hx⟩:=HN.out k hlt
   have hx:=hx.below hb hx.lt
   have hq:=(HK.out k hlt).keep hb
   obtain⟨a',cap',S',hS,-⟩:=hq.out
   rw [hS] at hx hq
   have HQ:=Lib.hid hq
   have HT:=Lib.hid (fun(h:l[k].a.pureB=true)=>show(l.take (k+1)).all (fun e=>e.a.pureB)=true by rw [List.take_succ_eq_append_getElem hlt,List.all_append,hgood.out];simp [h])
   have HO:=Lib.hid (fun(h:l[k].a.pureB=false)=>show purC l=false by
    unfold purC
    cases e:l.all (fun e=>e.a.pureB) with
    | false=>rfl
    | true=>have:=List.all_eq_true.1 e _ (List.getElem_mem hlt);rw [h] at this;cases this)
   obtain⟨x0,x1,x2,x3,x4,x5⟩:=hx
   clear hS hq
   have hX:=bnode_new wr l[k] (.slice a' l[k].a.kids.length cap')
   have hbV:Below wr.heap.size wr (wr.alloc (.cells #[.int .i64 l[k].a.k,.int .i64 l[k].a.i,.int .i64 l[k].a.j,.int .i64 l[k].a.n,(.slice a' l[k].a.kids.length cap'),.int .i64 l[k].i] 61)):=(Below.refl _ _).alloc (Nat.le_refl _) _
   have hqV:=HQ.out.keep hbV
   have hbw:=below_call hb hbV hb.size
   clear HQ hb hbV
   go_upto_region 4 with fail
   clear x0 x1 x2 x3 x4 x5
   obtain⟨g,hg⟩:∃ g,wr.heap.size=g:=⟨_,rfl⟩
   rw [hg] at hX ⊢
   generalize wr.alloc (.cells #[.int .i64 l[k].a.k,.int .i64 l[k].a.i,.int .i64 l[k].a.j,.int .i64 l[k].a.n,(.slice a' l[k].a.kids.length cap'),.int .i64 l[k].i] 61)=V at hX hqV hbw ⊢
   have HX:=Lib.hid hX
   have HQ:=Lib.hid hqV
   have HBV:=Lib.hid hbw
   clear hqV hbw hg
   obtain⟨x0,x1,x2,x3,x4,x5⟩:=hX
   go_wp2_with fail
   refine(pure_any l[k].a _ _ HQ.out).mono ?_
   obtain⟨mb,hmb⟩:∃ b,l[k].a.pureB=b:=⟨_,rfl⟩
   rw [hmb]
   have HMB:=Lib.hid hmb
   clear hmb
   rintro e w1 ⟨rfl,hb1⟩
   have HB1:=Lib.hid (below_call HBV.out hb1 HBV.out.size)
   clear hb1 x0 x1 x2 x3 x4 x5
   cases mb with
   | false =>
    go_wp2
    go_ret
    exact⟨ret_bool (HO.out HMB.out).symm,HB1.out⟩
   | true =>
    go_wp2
    go_roundw
    case rel=>exact⟨k+1,hlt,by go_num,HT.out HMB.out,HB1.out⟩
    case measure=>simp [intOf];omega
  ·obtain rfl:k=l.length:=by omega
   have HS:=Lib.hid (show l.all (fun e=>e.a.pureB)=true by have:=hgood.out;rw [List.take_length] at this;exact this)
   go_wp2_with fail
   refine(ctxright_any l _ _ (HL.out.keep hb)).mono ?_
   rintro e w1 ⟨rfl,hb1⟩
   have hb01:=below_call hb hb1 hb.size
   clear hb1
   go_wp2
   go_ret
   exact⟨ret_bool (by unfold purC;rw [HS.out,Bool.true_and]),hb01⟩
end Go.Proofs.Ytgnllglbopaheaa

namespace Go.Proofs.Ytgnllglbopaheaa.Se
open Go Go.RowKit
structure Nw (j:Jd):Prop where
 u:j.u.size≤10000000
 v:j.v.size≤10000000
 a:j.a.size≤10000000
theorem kd_size (x:Tm) (q:Nat):(kd x q).size≤max x.size 1:=by
 unfold kd
 cases h:x.kids[q]? with
 | none=>simp only [Option.getD_none,Tm.zero,Tm.size,sizes];omega
 | some y =>
  have:=kid_size (List.mem_of_getElem? h)
  simp only [Option.getD_some]
  omega
theorem pure_not12 {x:Tm} (h:x.pureB=true):x.k≠12:=by
 intro e
 have hc:=pure_count h
 have:x.count=(if x.k=12 then 1 else 0)+counts x.kids:=by cases x;rfl
 rw [if_pos e] at this
 omega
theorem kd_put {x u:Tm} (q:Nat) (h:x.pureB=true) (hs:x.size≤1000) (hu:u.size≤10000):((kd x q).putB u).size≤10000000:=by
 unfold kd
 cases hq:x.kids[q]? with
 | none =>
  show(Tm.zero.putB u).size≤10000000
  have hz:Tm.zero.putB u=Tm.zero:=by
   unfold Tm.putB
   rw [if_neg (by
    intro h
    have h0:Tm.zero.rightB=false:=by decide
    simp [h0] at h)]
  rw [hz]
  simp [Tm.zero,Tm.size,sizes]
 | some y =>
  have hm:=List.mem_of_getElem? hq
  have:=kid_size hm
  exact putB_le (pure_kid h (pure_not12 h) hm) (by simp only [Option.getD_some];omega) hu
def SP (o:Option Jd):Prop:=∀ j,o=some j→Nw j
theorem sp_if {p:Prop} [Decidable p] {a b:Option Jd} (ha:SP a) (hb:SP b):SP (if p then a else b):=by split<;>assumption
theorem sp_none:SP none:=fun _ h=>by cases h
theorem sp_some {e:Bool} {u v a:Tm} {i:Int} (h1:u.size≤10000000) (h2:v.size≤10000000) (h3:a.size≤10000000):SP (some ⟨e,u,v,a,i⟩):=fun _ h=>by cases h;exact⟨h1,h2,h3⟩
structure Pp (p:Jd):Prop where
 u:p.u.pureB=true
 a:p.a.pureB=true
 su:p.u.size≤1000
 sv:p.v.size≤1000
 sa:p.a.size≤1000
set_option linter.unusedSimpArgs false
theorem sp1 {p:Jd} (hp:Pp p) (r:Int):SP (con1 p r):=by
 obtain⟨pu,pa,su,sv,sa⟩:=hp
 have k0:=kd_size p.a 0
 have k1:=kd_size p.a 1
 have k2:=kd_size p.a 2
 have l0:=liftB_size (kd p.a 0) 1 0
 have l1:=liftB_size (kd p.a 1) 1 1
 have l2:=liftB_size p.u 1 0
 unfold con1
 repeat' apply sp_if
 all_goals first
  | exact sp_none
  | (apply sp_some<;>first | omega | (simp only [nd,srt,Tm.zero,Tm.size,sizes];omega) | exact kd_put 1 pa (by omega) (by simp only [nd,srt,Tm.zero,Tm.size,sizes];omega))
theorem sp2 {p q:Jd} (hp:Pp p) (hq:Pp q) (r:Int):SP (con2 p q r):=by
 obtain⟨pu,pa,su,sv,sa⟩:=hp
 obtain⟨qu,qa,tu,tv,ta⟩:=hq
 have k0:=kd_size p.a 0
 have k1:=kd_size p.a 1
 unfold con2
 repeat' apply sp_if
 all_goals first
  | exact sp_none
  | (apply sp_some<;>first | omega | (simp only [nd,srt,Tm.zero,Tm.size,sizes];omega) | exact putB_le qu (by omega) (by omega) | exact putB_le qa (by omega) (by omega) | exact kd_put 1 pa (by omega) (by omega))
theorem sp3 {p q t:Jd} (hp:Pp p) (hq:Pp q) (ht:Pp t) (r:Int):SP (con3 p q t r):=by
 obtain⟨-,-,su,sv,sa⟩:=hp
 obtain⟨-,-,tu,tv,ta⟩:=hq
 obtain⟨-,-,wu,wv,wa⟩:=ht
 unfold con3
 repeat' apply sp_if
 all_goals first
  | exact sp_none
  | (apply sp_some<;>first | omega | (simp only [nd,srt,Tm.zero,Tm.size,sizes];omega))
theorem sp4 {p q s t:Jd} (hp:Pp p) (hq:Pp q) (hs:Pp s) (ht:Pp t) (r:Int):SP (con4 p q s t r):=by
 obtain⟨-,-,su,sv,sa⟩:=hp
 obtain⟨-,-,tu,tv,ta⟩:=hq
 obtain⟨-,-,ru,rv,ra⟩:=hs
 obtain⟨-,-,wu,wv,wa⟩:=ht
 unfold con4
 repeat' apply sp_if
 all_goals first
  | exact sp_none
  | (apply sp_some<;>first | omega | (simp only [nd,srt,Tm.zero,Tm.size,sizes];omega))
theorem sp0 {c:List En} (h:∀ e ∈ c,e.a.size≤1000) (n r:Int):SP (con0 c n r):=by
 unfold con0
 repeat' apply sp_if
 all_goals first
  | exact sp_none
  | (apply sp_some<;>first | exact atU_le n h | (simp only [nd,srt,Tm.zero,Tm.size,sizes];omega))
theorem allR_pp {len r:Int}:∀ {l:List Jd} {k:Int},allR len r k l=true→(∀ j ∈ l,j.u.size≤1000∧j.v.size≤1000∧j.a.size≤1000)→∀ j ∈ l,Pp j
 | p::l,k,h,hs,j,hj=>by
  simp only [allR,Bool.and_eq_true] at h
  rcases List.mem_cons.1 hj with rfl | hj
  ·have:=hs _ (List.mem_cons_self ..)
   exact⟨(right_u h.1).1,(right_u h.1).2,this.1,this.2.1,this.2.2⟩
  ·exact allR_pp h.2 (fun j hj=>hs j (List.mem_cons_of_mem _ hj)) j hj
theorem ofB_smallw {c:List En} {r n:Int} {on:List Jd} {j:Jd} (hs:Sml c on) (h:ofB c r n on=some j):Nw j:=by
 unfold ofB at h
 split at h
 ·cases h
 ·split at h
  ·rename_i h2
   rw [Bool.and_eq_true] at h2
   have hp:=allR_pp h2.2 hs.js
   have key:SP (concB c n r on):=by
    match on,hp with
    | [],_=>exact sp0 hs.ents n r
    | [p],hp=>exact sp1 (hp _ (by simp)) r
    | [p,q],hp=>exact sp2 (hp _ (by simp)) (hp _ (by simp)) r
    | [p,q,t],hp=>exact sp3 (hp _ (by simp)) (hp _ (by simp)) (hp _ (by simp)) r
    | [p,q,s,t],hp=>exact sp4 (hp _ (by simp)) (hp _ (by simp)) (hp _ (by simp)) (hp _ (by simp)) r
    | _::_::_::_::_::_,_=>exact sp_none
   split at h
   ·rename_i j' hj
    split at h
    ·obtain rfl:=Option.some.inj h
     exact key _ hj
    ·cases h
   ·cases h
  ·cases h
end Go.Proofs.Ytgnllglbopaheaa.Se

namespace Go.Proofs.Ytgnllglbopaheaa.Se
open Go Go.RowKit
set_option linter.unusedSimpArgs false
set_option maxRecDepth 20000 in
set_option maxHeartbeats 4000000 in
theorem of1_any (c:List En) (n:Int) (_:Sml c []) {w:World} {A:Nat→Prop} {vs:List Value} (hv:F2 (ArgDen w A) (aOf c 1 n []) vs):Calls Try.prog 27 vs.toArray w (GivesO A (ofB c 1 n []) w):=by
 have hA:allR c.length 1 0 []=true:=by kernel_rfl
 have hC:concB c n 1 []=if(decide (n≥0)&&decide (n≤900))=true then some ⟨false,srt n,.zero,srt (W64 (n+1)),W64 (n+2)⟩ else none:=by kernel_rfl
 apply bc (purC c)<;>intro k0
 ·exact lP [O] k0 hv (al k0 an)
 have s0:(Tm.mk 1 n 0 0 []).size≤10000000:=by simp only [re_eq,Tm.size,sizes];omega
 have s1:(Tm.mk 0 0 0 0 []).size≤10000000:=zs
 have s2:(Tm.mk 1 (IntKind.i64.wrap (n+1)) 0 0 []).size≤10000000:=by simp only [re_eq,Tm.size,sizes];omega
 apply bc (decide (n≥0))<;>intro k1
 ·exact lT [I,O] k0 hA hC (by rw [k1]<;>kernel_rfl) hv (al k0 (al k1 an))
 apply bc (decide (n≤900))<;>intro k2
 ·exact lT [I,I,O] k0 hA hC (by rw [k1,k2]<;>kernel_rfl) hv (al k0 (al k1 (al k2 an)))
 apply bc (decide (IntKind.i64.wrap (n+2)>1000))<;>intro k3
 ·exact lS [I,I,I,O] k0 hA hC (by rw [k1,k2]<;>kernel_rfl) (by show(!(decide (W64 (n+2)>1000)||((srt n).k==0||((srt (W64 (n+1))).k==0||(false&&(.zero:Tm).k==0)))))=true;rw [k3]<;>kernel_rfl) hv (al k0 (al k1 (al k2 (al k3 (al s0 (al s1 (al s2 an)))))))
 exact lO [I,I,I,I] k0 hA hC (by show(!(decide (W64 (n+2)>1000)||((srt n).k==0||((srt (W64 (n+1))).k==0||(false&&(.zero:Tm).k==0)))))=false;rw [k3]<;>kernel_rfl) hv (al k0 (al k1 (al k2 (al k3 an))))
set_option maxRecDepth 20000 in
set_option maxHeartbeats 4000000 in
theorem of2_any (c:List En) (n:Int) (hs:Sml c []) {w:World} {A:Nat→Prop} {vs:List Value} (hv:F2 (ArgDen w A) (aOf c 2 n []) vs):Calls Try.prog 27 vs.toArray w (GivesO A (ofB c 2 n []) w):=by
 have hA:allR c.length 2 0 []=true:=by kernel_rfl
 have hC:concB c n 2 []=if atB c n=true then some ⟨false,.mk 2 n 0 0 [],.zero,atU c n,atI c n⟩ else none:=by kernel_rfl
 apply bc (purC c)<;>intro k0
 ·exact lP [O] k0 hv (al k0 an)
 have s0:c.length≤100000:=Nat.le_trans hs.len (by decide)
 have s1:∀ (e:En),e ∈ c→e.a.deep≤100000:=fun e he=>Nat.le_trans (deep_le_size _) (Nat.le_trans (hs.ents e he) (by decide))
 have s2:(Tm.mk 2 n 0 0 []).size≤10000000:=by simp only [re_eq,Tm.size,sizes];omega
 have s3:(Tm.mk 0 0 0 0 []).size≤10000000:=zs
 have s4:(re (atU c n)).size≤10000000:=by rw [re_eq];exact atU_le n hs.ents
 apply bc (atB c n)<;>intro k1
 ·exact lT [I,O] k0 hA hC (by rw [k1]<;>kernel_rfl) hv (al k0 (al s0 (al s1 (al k1 an))))
 apply bc (decide (atI c n>1000))<;>intro k2
 ·apply bc (((atU c n).k==0))<;>intro k3
  ·exact lS [I,I,O,O] k0 hA hC (by rw [k1]<;>kernel_rfl) (by show(!(decide (atI c n>1000)||((.mk 2 n 0 0 []:Tm).k==0||((atU c n).k==0||(false&&(.zero:Tm).k==0)))))=true;rw [k2,k3]<;>kernel_rfl) hv (al k0 (al s0 (al s1 (al k1 (al k2 (al k3 (al s2 (al s3 (al s4 an)))))))))
  exact lO [I,I,O,I] k0 hA hC (by show(!(decide (atI c n>1000)||((.mk 2 n 0 0 []:Tm).k==0||((atU c n).k==0||(false&&(.zero:Tm).k==0)))))=false;rw [k2,k3]<;>kernel_rfl) hv (al k0 (al s0 (al s1 (al k1 (al k2 (al k3 an))))))
 exact lO [I,I,I] k0 hA hC (by show(!(decide (atI c n>1000)||((.mk 2 n 0 0 []:Tm).k==0||((atU c n).k==0||(false&&(.zero:Tm).k==0)))))=false;rw [k2]<;>kernel_rfl) hv (al k0 (al s0 (al s1 (al k1 (al k2 an)))))
set_option maxRecDepth 20000 in
set_option maxHeartbeats 4000000 in
theorem of3_any (c:List En) (n:Int) (e:Bool) (u v x:Tm) (i:Int) (e2:Bool) (u2 v2 x2:Tm) (i2:Int) (hs:Sml c [⟨e,re u,re v,re x,i⟩,⟨e2,re u2,re v2,re x2,i2⟩]) {w:World} {A:Nat→Prop} {vs:List Value} (hv:F2 (ArgDen w A) (aOf c 3 n [⟨e,re u,re v,re x,i⟩,⟨e2,re u2,re v2,re x2,i2⟩]) vs):Calls Try.prog 27 vs.toArray w (GivesO A (ofB c 3 n [⟨e,re u,re v,re x,i⟩,⟨e2,re u2,re v2,re x2,i2⟩]) w):=by
 have hA:allR c.length 3 0 [⟨e,re u,re v,re x,i⟩,⟨e2,re u2,re v2,re x2,i2⟩]=(rightJ ⟨e,re u,re v,re x,i⟩ ↑c.length&&(rightJ ⟨e2,re u2,re v2,re x2,i2⟩ (IntKind.i64.wrap (↑c.length+1))&&true)):=by kernel_rfl
 have hC:concB c n 3 [⟨e,re u,re v,re x,i⟩,⟨e2,re u2,re v2,re x2,i2⟩]=if(((!e)&&(((re x).k==1)&&(i==W64 ((re x).i+1))))&&((!e2)&&(((re x2).k==1)&&(i2==W64 ((re x2).i+1)))))=true then some ⟨false,nd 3 ((re x).i) ((re x2).i) [re u,re u2],.zero,srt (max (re x).i (re x2).i),W64 ((max (re x).i (re x2).i)+1)⟩ else none:=by kernel_rfl
 obtain⟨zu,zv,zx⟩:=hs.z
 obtain⟨zu2,zv2,zx2⟩:=hs.tl.z
 cases e with
 | true =>
  cases e2 with
  | true =>
   apply bc (purC c)<;>intro k0
   ·exact lP [O] k0 hv (al k0 an)
   apply bc (rightJ ⟨true,re u,re v,re x,i⟩ ↑c.length)<;>intro k1
   ·exact lA [I,O] (by rw [hA,k1]<;>kernel_rfl) hv (al k0 (al k1 an))
   apply bc (rightJ ⟨true,re u2,re v2,re x2,i2⟩ (IntKind.i64.wrap (↑c.length+1)))<;>intro k2
   ·exact lA [I,I,O] (by rw [hA,k1,k2]<;>kernel_rfl) hv (al k0 (al k1 (al k2 an)))
   have hR:=hA.trans (show _=true by rw [k1,k2]<;>kernel_rfl)
   have s1:([]:List Tm).length≤10:=Nat.le_of_ble_eq_true rfl
   have s2:(Tm.mk 3 (re x).i (re x2).i 0 [re u,re u2]).size≤10000000:=by simp only [re_eq,Tm.size,sizes];omega
   have s3:(Tm.mk 0 0 0 0 []).size≤10000000:=zs
   have s4:(Tm.mk 1 (max (re x).i (re x2).i) 0 0 []).size≤10000000:=by simp only [re_eq,Tm.size,sizes];omega
   exact lT [I,I,I] k0 hR hC (by kernel_rfl) hv (al k0 (al k1 (al k2 (al s1 an))))
  | false =>
   apply bc (purC c)<;>intro k3
   ·exact lP [O] k3 hv (al k3 an)
   apply bc (rightJ ⟨true,re u,re v,re x,i⟩ ↑c.length)<;>intro k4
   ·exact lA [I,O] (by rw [hA,k4]<;>kernel_rfl) hv (al k3 (al k4 an))
   apply bc (rightJ ⟨false,re u2,re v2,re x2,i2⟩ (IntKind.i64.wrap (↑c.length+1)))<;>intro k5
   ·exact lA [I,I,O] (by rw [hA,k4,k5]<;>kernel_rfl) hv (al k3 (al k4 (al k5 an)))
   have hR:=hA.trans (show _=true by rw [k4,k5]<;>kernel_rfl)
   have s1:([]:List Tm).length≤10:=Nat.le_of_ble_eq_true rfl
   have s2:(Tm.mk 3 (re x).i (re x2).i 0 [re u,re u2]).size≤10000000:=by simp only [re_eq,Tm.size,sizes];omega
   have s3:(Tm.mk 0 0 0 0 []).size≤10000000:=zs
   have s4:(Tm.mk 1 (max (re x).i (re x2).i) 0 0 []).size≤10000000:=by simp only [re_eq,Tm.size,sizes];omega
   apply bc (((re x2).k==1))<;>intro k6
   ·exact lT [I,I,I,O] k3 hR hC (by rw [k6]<;>kernel_rfl) hv (al k3 (al k4 (al k5 (al k6 (al s1 an)))))
   apply bc ((i2==IntKind.i64.wrap ((re x2).i+1)))<;>intro k7
   ·exact lT [I,I,I,I,O] k3 hR hC (by rw [k6,k7]<;>kernel_rfl) hv (al k3 (al k4 (al k5 (al k6 (al k7 (al s1 an))))))
   exact lT [I,I,I,I,I] k3 hR hC (by rw [k6,k7]<;>kernel_rfl) hv (al k3 (al k4 (al k5 (al k6 (al k7 (al s1 an))))))
 | false =>
  cases e2 with
  | true =>
   apply bc (purC c)<;>intro k8
   ·exact lP [O] k8 hv (al k8 an)
   apply bc (rightJ ⟨false,re u,re v,re x,i⟩ ↑c.length)<;>intro k9
   ·exact lA [I,O] (by rw [hA,k9]<;>kernel_rfl) hv (al k8 (al k9 an))
   apply bc (rightJ ⟨true,re u2,re v2,re x2,i2⟩ (IntKind.i64.wrap (↑c.length+1)))<;>intro k10
   ·exact lA [I,I,O] (by rw [hA,k9,k10]<;>kernel_rfl) hv (al k8 (al k9 (al k10 an)))
   have hR:=hA.trans (show _=true by rw [k9,k10]<;>kernel_rfl)
   have s1:([]:List Tm).length≤10:=Nat.le_of_ble_eq_true rfl
   have s2:(Tm.mk 3 (re x).i (re x2).i 0 [re u,re u2]).size≤10000000:=by simp only [re_eq,Tm.size,sizes];omega
   have s3:(Tm.mk 0 0 0 0 []).size≤10000000:=zs
   have s4:(Tm.mk 1 (max (re x).i (re x2).i) 0 0 []).size≤10000000:=by simp only [re_eq,Tm.size,sizes];omega
   apply bc (((re x).k==1))<;>intro k11
   ·exact lT [I,I,I,O] k8 hR hC (by rw [k11]<;>kernel_rfl) hv (al k8 (al k9 (al k10 (al k11 (al s1 an)))))
   apply bc ((i==IntKind.i64.wrap ((re x).i+1)))<;>intro k12
   ·exact lT [I,I,I,I,O] k8 hR hC (by rw [k11,k12]<;>kernel_rfl) hv (al k8 (al k9 (al k10 (al k11 (al k12 (al s1 an))))))
   exact lT [I,I,I,I,I] k8 hR hC (by rw [k11,k12]<;>kernel_rfl) hv (al k8 (al k9 (al k10 (al k11 (al k12 (al s1 an))))))
  | false =>
   apply bc (purC c)<;>intro k13
   ·exact lP [O] k13 hv (al k13 an)
   apply bc (rightJ ⟨false,re u,re v,re x,i⟩ ↑c.length)<;>intro k14
   ·exact lA [I,O] (by rw [hA,k14]<;>kernel_rfl) hv (al k13 (al k14 an))
   apply bc (rightJ ⟨false,re u2,re v2,re x2,i2⟩ (IntKind.i64.wrap (↑c.length+1)))<;>intro k15
   ·exact lA [I,I,O] (by rw [hA,k14,k15]<;>kernel_rfl) hv (al k13 (al k14 (al k15 an)))
   have hR:=hA.trans (show _=true by rw [k14,k15]<;>kernel_rfl)
   have s1:([]:List Tm).length≤10:=Nat.le_of_ble_eq_true rfl
   have s2:(Tm.mk 3 (re x).i (re x2).i 0 [re u,re u2]).size≤10000000:=by simp only [re_eq,Tm.size,sizes];omega
   have s3:(Tm.mk 0 0 0 0 []).size≤10000000:=zs
   have s4:(Tm.mk 1 (max (re x).i (re x2).i) 0 0 []).size≤10000000:=by simp only [re_eq,Tm.size,sizes];omega
   apply bc (((re x).k==1))<;>intro k16
   ·apply bc (((re x2).k==1))<;>intro k17
    ·exact lT [I,I,I,O,O] k13 hR hC (by rw [k16,k17]<;>kernel_rfl) hv (al k13 (al k14 (al k15 (al k16 (al k17 (al s1 an))))))
    apply bc ((i2==IntKind.i64.wrap ((re x2).i+1)))<;>intro k18
    ·exact lT [I,I,I,O,I,O] k13 hR hC (by rw [k16,k17,k18]<;>kernel_rfl) hv (al k13 (al k14 (al k15 (al k16 (al k17 (al k18 (al s1 an)))))))
    exact lT [I,I,I,O,I,I] k13 hR hC (by rw [k16,k17,k18]<;>kernel_rfl) hv (al k13 (al k14 (al k15 (al k16 (al k17 (al k18 (al s1 an)))))))
   apply bc ((i==IntKind.i64.wrap ((re x).i+1)))<;>intro k19
   ·apply bc (((re x2).k==1))<;>intro k20
    ·exact lT [I,I,I,I,O,O] k13 hR hC (by rw [k16,k19,k20]<;>kernel_rfl) hv (al k13 (al k14 (al k15 (al k16 (al k19 (al k20 (al s1 an)))))))
    apply bc ((i2==IntKind.i64.wrap ((re x2).i+1)))<;>intro k21
    ·exact lT [I,I,I,I,O,I,O] k13 hR hC (by rw [k16,k19,k20,k21]<;>kernel_rfl) hv (al k13 (al k14 (al k15 (al k16 (al k19 (al k20 (al k21 (al s1 an))))))))
    exact lT [I,I,I,I,O,I,I] k13 hR hC (by rw [k16,k19,k20,k21]<;>kernel_rfl) hv (al k13 (al k14 (al k15 (al k16 (al k19 (al k20 (al k21 (al s1 an))))))))
   apply bc (((re x2).k==1))<;>intro k22
   ·exact lT [I,I,I,I,I,O] k13 hR hC (by rw [k16,k19,k22]<;>kernel_rfl) hv (al k13 (al k14 (al k15 (al k16 (al k19 (al k22 (al s1 an)))))))
   apply bc ((i2==IntKind.i64.wrap ((re x2).i+1)))<;>intro k23
   ·exact lT [I,I,I,I,I,I,O] k13 hR hC (by rw [k16,k19,k22,k23]<;>kernel_rfl) hv (al k13 (al k14 (al k15 (al k16 (al k19 (al k22 (al k23 (al s1 an))))))))
   apply bc (decide (IntKind.i64.wrap (max (re x).i (re x2).i+1)>1000))<;>intro k24
   ·exact lS [I,I,I,I,I,I,I,O] k13 hR hC (by rw [k16,k19,k22,k23]<;>kernel_rfl) (by show(!(decide (W64 ((max (re x).i (re x2).i)+1)>1000)||((nd 3 ((re x).i) ((re x2).i) [re u,re u2]).k==0||((srt (max (re x).i (re x2).i)).k==0||(false&&(.zero:Tm).k==0)))))=true;rw [k24]<;>kernel_rfl) hv (al k13 (al k14 (al k15 (al k16 (al k19 (al k22 (al k23 (al s1 (al k24 (al s2 (al s3 (al s4 an))))))))))))
   exact lO [I,I,I,I,I,I,I,I] k13 hR hC (by show(!(decide (W64 ((max (re x).i (re x2).i)+1)>1000)||((nd 3 ((re x).i) ((re x2).i) [re u,re u2]).k==0||((srt (max (re x).i (re x2).i)).k==0||(false&&(.zero:Tm).k==0)))))=false;rw [k24]<;>kernel_rfl) hv (al k13 (al k14 (al k15 (al k16 (al k19 (al k22 (al k23 (al s1 (al k24 an)))))))))
set_option maxRecDepth 20000 in
set_option maxHeartbeats 4000000 in
theorem of4_any (c:List En) (n:Int) (e:Bool) (u v x:Tm) (i:Int) (e2:Bool) (u2 v2 x2:Tm) (i2:Int) (hs:Sml c [⟨e,re u,re v,re x,i⟩,⟨e2,re u2,re v2,re x2,i2⟩]) {w:World} {A:Nat→Prop} {vs:List Value} (hv:F2 (ArgDen w A) (aOf c 4 n [⟨e,re u,re v,re x,i⟩,⟨e2,re u2,re v2,re x2,i2⟩]) vs):Calls Try.prog 27 vs.toArray w (GivesO A (ofB c 4 n [⟨e,re u,re v,re x,i⟩,⟨e2,re u2,re v2,re x2,i2⟩]) w):=by
 have hA:allR c.length 4 0 [⟨e,re u,re v,re x,i⟩,⟨e2,re u2,re v2,re x2,i2⟩]=(rightJ ⟨e,re u,re v,re x,i⟩ ↑c.length&&(rightJ ⟨e2,re u2,re v2,re x2,i2⟩ (IntKind.i64.wrap (↑c.length+1))&&true)):=by kernel_rfl
 have hC:concB c n 4 [⟨e,re u,re v,re x,i⟩,⟨e2,re u2,re v2,re x2,i2⟩]=if(((!e)&&(((re x).k==1)&&(i==W64 ((re x).i+1))))&&(!e2))=true then some ⟨false,nd 4 ((re x).i) i2 [re u,re x2,re u2],.zero,nd 3 ((re x).i) i2 [re u,re x2],max (re x).i i2⟩ else none:=by kernel_rfl
 obtain⟨zu,zv,zx⟩:=hs.z
 obtain⟨zu2,zv2,zx2⟩:=hs.tl.z
 cases e with
 | true =>
  apply bc (purC c)<;>intro k0
  ·exact lP [O] k0 hv (al k0 an)
  apply bc (rightJ ⟨true,re u,re v,re x,i⟩ ↑c.length)<;>intro k1
  ·exact lA [I,O] (by rw [hA,k1]<;>kernel_rfl) hv (al k0 (al k1 an))
  apply bc (rightJ ⟨e2,re u2,re v2,re x2,i2⟩ (IntKind.i64.wrap (↑c.length+1)))<;>intro k2
  ·exact lA [I,I,O] (by rw [hA,k1,k2]<;>kernel_rfl) hv (al k0 (al k1 (al k2 an)))
  have hR:=hA.trans (show _=true by rw [k1,k2]<;>kernel_rfl)
  have s1:[re u2].length≤10:=Nat.le_of_ble_eq_true rfl
  have s2:([]:List Tm).length≤10:=Nat.le_of_ble_eq_true rfl
  have s3:(Tm.mk 4 (re x).i i2 0 [re u,re x2,re u2]).size≤10000000:=by simp only [re_eq,Tm.size,sizes];omega
  have s4:(Tm.mk 0 0 0 0 []).size≤10000000:=zs
  have s5:(Tm.mk 3 (re x).i i2 0 [re u,re x2]).size≤10000000:=by simp only [re_eq,Tm.size,sizes];omega
  exact lT [I,I,I] k0 hR hC (by kernel_rfl) hv (al k0 (al k1 (al k2 (al s1 (al s2 an)))))
 | false =>
  cases e2 with
  | true =>
   apply bc (purC c)<;>intro k3
   ·exact lP [O] k3 hv (al k3 an)
   apply bc (rightJ ⟨false,re u,re v,re x,i⟩ ↑c.length)<;>intro k4
   ·exact lA [I,O] (by rw [hA,k4]<;>kernel_rfl) hv (al k3 (al k4 an))
   apply bc (rightJ ⟨true,re u2,re v2,re x2,i2⟩ (IntKind.i64.wrap (↑c.length+1)))<;>intro k5
   ·exact lA [I,I,O] (by rw [hA,k4,k5]<;>kernel_rfl) hv (al k3 (al k4 (al k5 an)))
   have hR:=hA.trans (show _=true by rw [k4,k5]<;>kernel_rfl)
   have s1:[re u2].length≤10:=Nat.le_of_ble_eq_true rfl
   have s2:([]:List Tm).length≤10:=Nat.le_of_ble_eq_true rfl
   have s3:(Tm.mk 4 (re x).i i2 0 [re u,re x2,re u2]).size≤10000000:=by simp only [re_eq,Tm.size,sizes];omega
   have s4:(Tm.mk 0 0 0 0 []).size≤10000000:=zs
   have s5:(Tm.mk 3 (re x).i i2 0 [re u,re x2]).size≤10000000:=by simp only [re_eq,Tm.size,sizes];omega
   apply bc (((re x).k==1))<;>intro k6
   ·exact lT [I,I,I,O] k3 hR hC (by rw [k6]<;>kernel_rfl) hv (al k3 (al k4 (al k5 (al k6 (al s1 (al s2 an))))))
   apply bc ((i==IntKind.i64.wrap ((re x).i+1)))<;>intro k7
   ·exact lT [I,I,I,I,O] k3 hR hC (by rw [k6,k7]<;>kernel_rfl) hv (al k3 (al k4 (al k5 (al k6 (al k7 (al s1 (al s2 an)))))))
   exact lT [I,I,I,I,I] k3 hR hC (by rw [k6,k7]<;>kernel_rfl) hv (al k3 (al k4 (al k5 (al k6 (al k7 (al s1 (al s2 an)))))))
  | false =>
   apply bc (purC c)<;>intro k8
   ·exact lP [O] k8 hv (al k8 an)
   apply bc (rightJ ⟨false,re u,re v,re x,i⟩ ↑c.length)<;>intro k9
   ·exact lA [I,O] (by rw [hA,k9]<;>kernel_rfl) hv (al k8 (al k9 an))
   apply bc (rightJ ⟨false,re u2,re v2,re x2,i2⟩ (IntKind.i64.wrap (↑c.length+1)))<;>intro k10
   ·exact lA [I,I,O] (by rw [hA,k9,k10]<;>kernel_rfl) hv (al k8 (al k9 (al k10 an)))
   have hR:=hA.trans (show _=true by rw [k9,k10]<;>kernel_rfl)
   have s1:[re u2].length≤10:=Nat.le_of_ble_eq_true rfl
   have s2:([]:List Tm).length≤10:=Nat.le_of_ble_eq_true rfl
   have s3:(Tm.mk 4 (re x).i i2 0 [re u,re x2,re u2]).size≤10000000:=by simp only [re_eq,Tm.size,sizes];omega
   have s4:(Tm.mk 0 0 0 0 []).size≤10000000:=zs
   have s5:(Tm.mk 3 (re x).i i2 0 [re u,re x2]).size≤10000000:=by simp only [re_eq,Tm.size,sizes];omega
   apply bc (((re x).k==1))<;>intro k11
   ·exact lT [I,I,I,O] k8 hR hC (by rw [k11]<;>kernel_rfl) hv (al k8 (al k9 (al k10 (al k11 (al s1 (al s2 an))))))
   apply bc ((i==IntKind.i64.wrap ((re x).i+1)))<;>intro k12
   ·exact lT [I,I,I,I,O] k8 hR hC (by rw [k11,k12]<;>kernel_rfl) hv (al k8 (al k9 (al k10 (al k11 (al k12 (al s1 (al s2 an)))))))
   apply bc (decide (max (re x).i i2>1000))<;>intro k13
   ·exact lS [I,I,I,I,I,O] k8 hR hC (by rw [k11,k12]<;>kernel_rfl) (by show(!(decide (max (re x).i i2>1000)||((nd 4 ((re x).i) i2 [re u,re x2,re u2]).k==0||((nd 3 ((re x).i) i2 [re u,re x2]).k==0||(false&&(.zero:Tm).k==0)))))=true;rw [k13]<;>kernel_rfl) hv (al k8 (al k9 (al k10 (al k11 (al k12 (al s1 (al s2 (al k13 (al s3 (al s4 (al s5 an)))))))))))
   exact lO [I,I,I,I,I,I] k8 hR hC (by show(!(decide (max (re x).i i2>1000)||((nd 4 ((re x).i) i2 [re u,re x2,re u2]).k==0||((nd 3 ((re x).i) i2 [re u,re x2]).k==0||(false&&(.zero:Tm).k==0)))))=false;rw [k13]<;>kernel_rfl) hv (al k8 (al k9 (al k10 (al k11 (al k12 (al s1 (al s2 (al k13 an))))))))
set_option maxRecDepth 20000 in
set_option maxHeartbeats 4000000 in
theorem of5kft_any (c:List En) (n:Int) (u v:Tm) (i:Int) (u2 v2 x2:Tm) (i2:Int) (xk xi xj xn:Int) (p q:Tm) (k100:purC c=true) (k101:rightJ {eq:=false,u:=re u,v:=re v,a:=Tm.mk xk xi xj xn [re p,re q],i:=i} ↑c.length=true) (k102:rightJ {eq:=true,u:=re u2,v:=re v2,a:=re x2,i:=i2} ↑c.length=true) (k103:(xk==3)=true) (k104:(i==max xi xj)=true) (hs:Sml c [⟨false,re u,re v,.mk xk xi xj xn [re p,re q],i⟩,⟨true,re u2,re v2,re x2,i2⟩]) {w:World} {A:Nat→Prop} {vs:List Value} (hv:F2 (ArgDen w A) (aOf c 5 n [⟨false,re u,re v,.mk xk xi xj xn [re p,re q],i⟩,⟨true,re u2,re v2,re x2,i2⟩]) vs):Calls Try.prog 27 vs.toArray w (GivesO A (ofB c 5 n [⟨false,re u,re v,.mk xk xi xj xn [re p,re q],i⟩,⟨true,re u2,re v2,re x2,i2⟩]) w):=by
 have hA:allR c.length 5 0 [⟨false,re u,re v,.mk xk xi xj xn [re p,re q],i⟩,⟨true,re u2,re v2,re x2,i2⟩]=(rightJ ⟨false,re u,re v,.mk xk xi xj xn [re p,re q],i⟩ ↑c.length&&(rightJ ⟨true,re u2,re v2,re x2,i2⟩ ↑c.length&&true)):=by kernel_rfl
 have hC:concB c n 5 [⟨false,re u,re v,.mk xk xi xj xn [re p,re q],i⟩,⟨true,re u2,re v2,re x2,i2⟩]=if(((!false)&&((xk==3)&&(i==max xi xj)))&&((!true)&&((i2==xi)&&sameB (re x2) (re p))))=true then some ⟨false,nd 5 xi xj [re p,re q,re u,re u2],.zero,(re q).putB (re u2),xj⟩ else none:=by kernel_rfl
 have zu:(re u).size≤1000:=(hs.js _ (List.mem_cons_self ..)).1
 have zx:(.mk xk xi xj xn [re p,re q]:Tm).size≤1000:=(hs.js _ (List.mem_cons_self ..)).2.2
 rw [re_eq] at zu
 simp only [Tm.size,sizes,re_eq] at zx
 obtain⟨zu2,zv2,zx2⟩:=hs.tl.z
 have hq:(re q).pureB=true:=pure_kid (right_u k101).2 (by intro(h:xk=12);rw [h] at k103;cases k103) (List.mem_cons_of_mem _ (List.mem_cons_self ..))
 have hR:=hA.trans (show _=true by rw [k101,k102]<;>kernel_rfl)
 have s1:[re u,re u2].length≤10:=Nat.le_of_ble_eq_true rfl
 have s2:(re q).deep≤100000:=by refine Nat.le_trans (deep_le_size _) ?_;simp only [re_eq,Tm.size,sizes];omega
 have s3:(re u2).deep≤100000:=by refine Nat.le_trans (deep_le_size _) ?_;simp only [re_eq,Tm.size,sizes];omega
 have s4:(Tm.mk 5 xi xj 0 [re p,re q,re u,re u2]).size≤10000000:=by simp only [re_eq,Tm.size,sizes];omega
 have s5:(Tm.mk 0 0 0 0 []).size≤10000000:=zs
 have s6:(re ((re q).putB (re u2))).size≤10000000:=by rw [re_eq];exact putB_le hq (by simp only [re_eq,Tm.size,sizes];omega) (by simp only [re_eq,Tm.size,sizes];omega)
 exact lT [I,I,I,O,O] k100 hR hC (by rw [k103,k104]<;>kernel_rfl) hv (al k100 (al k101 (al k102 (al (bneT k103) (al (bneT k104) an)))))
set_option maxRecDepth 20000 in
set_option maxHeartbeats 4000000 in
theorem of5kff_any (c:List En) (n:Int) (u v:Tm) (i:Int) (u2 v2 x2:Tm) (i2:Int) (xk xi xj xn:Int) (p q:Tm) (k100:purC c=true) (k101:rightJ {eq:=false,u:=re u,v:=re v,a:=Tm.mk xk xi xj xn [re p,re q],i:=i} ↑c.length=true) (k102:rightJ {eq:=false,u:=re u2,v:=re v2,a:=re x2,i:=i2} ↑c.length=true) (k103:(xk==3)=true) (k104:(i==max xi xj)=true) (hs:Sml c [⟨false,re u,re v,.mk xk xi xj xn [re p,re q],i⟩,⟨false,re u2,re v2,re x2,i2⟩]) {w:World} {A:Nat→Prop} {vs:List Value} (hv:F2 (ArgDen w A) (aOf c 5 n [⟨false,re u,re v,.mk xk xi xj xn [re p,re q],i⟩,⟨false,re u2,re v2,re x2,i2⟩]) vs):Calls Try.prog 27 vs.toArray w (GivesO A (ofB c 5 n [⟨false,re u,re v,.mk xk xi xj xn [re p,re q],i⟩,⟨false,re u2,re v2,re x2,i2⟩]) w):=by
 have hA:allR c.length 5 0 [⟨false,re u,re v,.mk xk xi xj xn [re p,re q],i⟩,⟨false,re u2,re v2,re x2,i2⟩]=(rightJ ⟨false,re u,re v,.mk xk xi xj xn [re p,re q],i⟩ ↑c.length&&(rightJ ⟨false,re u2,re v2,re x2,i2⟩ ↑c.length&&true)):=by kernel_rfl
 have hC:concB c n 5 [⟨false,re u,re v,.mk xk xi xj xn [re p,re q],i⟩,⟨false,re u2,re v2,re x2,i2⟩]=if(((!false)&&((xk==3)&&(i==max xi xj)))&&((!false)&&((i2==xi)&&sameB (re x2) (re p))))=true then some ⟨false,nd 5 xi xj [re p,re q,re u,re u2],.zero,(re q).putB (re u2),xj⟩ else none:=by kernel_rfl
 have zu:(re u).size≤1000:=(hs.js _ (List.mem_cons_self ..)).1
 have zx:(.mk xk xi xj xn [re p,re q]:Tm).size≤1000:=(hs.js _ (List.mem_cons_self ..)).2.2
 rw [re_eq] at zu
 simp only [Tm.size,sizes,re_eq] at zx
 obtain⟨zu2,zv2,zx2⟩:=hs.tl.z
 have hq:(re q).pureB=true:=pure_kid (right_u k101).2 (by intro(h:xk=12);rw [h] at k103;cases k103) (List.mem_cons_of_mem _ (List.mem_cons_self ..))
 have hR:=hA.trans (show _=true by rw [k101,k102]<;>kernel_rfl)
 have s1:[re u,re u2].length≤10:=Nat.le_of_ble_eq_true rfl
 have s2:(re q).deep≤100000:=by refine Nat.le_trans (deep_le_size _) ?_;simp only [re_eq,Tm.size,sizes];omega
 have s3:(re u2).deep≤100000:=by refine Nat.le_trans (deep_le_size _) ?_;simp only [re_eq,Tm.size,sizes];omega
 have s4:(Tm.mk 5 xi xj 0 [re p,re q,re u,re u2]).size≤10000000:=by simp only [re_eq,Tm.size,sizes];omega
 have s5:(Tm.mk 0 0 0 0 []).size≤10000000:=zs
 have s6:(re ((re q).putB (re u2))).size≤10000000:=by rw [re_eq];exact putB_le hq (by simp only [re_eq,Tm.size,sizes];omega) (by simp only [re_eq,Tm.size,sizes];omega)
 apply bc ((i2==xi))<;>intro k8
 ·exact lT [I,I,I,O,O,O] k100 hR hC (by rw [k103,k104,k8]<;>kernel_rfl) hv (al k100 (al k101 (al k102 (al (bneT k103) (al (bneT k104) (al k8 an))))))
 apply bc (sameB (re x2) (re p))<;>intro k9
 ·exact lT [I,I,I,O,O,I,O] k100 hR hC (by rw [k103,k104,k8,k9]<;>kernel_rfl) hv (al k100 (al k101 (al k102 (al (bneT k103) (al (bneT k104) (al k8 (al k9 an)))))))
 apply bc (decide (xj>1000))<;>intro k10
 ·apply bc ((((re q).putB (re u2)).k==0))<;>intro k11
  ·exact lS [I,I,I,O,O,I,I,O,O] k100 hR hC (by rw [k103,k104,k8,k9]<;>kernel_rfl) (by show(!(decide (xj>1000)||((nd 5 xi xj [re p,re q,re u,re u2]).k==0||(((re q).putB (re u2)).k==0||(false&&(.zero:Tm).k==0)))))=true;rw [k10,k11]<;>kernel_rfl) hv (al k100 (al k101 (al k102 (al (bneT k103) (al (bneT k104) (al k8 (al k9 (al s1 (al s2 (al s3 (al k10 (al k11 (al s4 (al s5 (al s6 an)))))))))))))))
  exact lO [I,I,I,O,O,I,I,O,I] k100 hR hC (by show(!(decide (xj>1000)||((nd 5 xi xj [re p,re q,re u,re u2]).k==0||(((re q).putB (re u2)).k==0||(false&&(.zero:Tm).k==0)))))=false;rw [k10,k11]<;>kernel_rfl) hv (al k100 (al k101 (al k102 (al (bneT k103) (al (bneT k104) (al k8 (al k9 (al s1 (al s2 (al s3 (al k10 (al k11 an))))))))))))
 exact lO [I,I,I,O,O,I,I,I] k100 hR hC (by show(!(decide (xj>1000)||((nd 5 xi xj [re p,re q,re u,re u2]).k==0||(((re q).putB (re u2)).k==0||(false&&(.zero:Tm).k==0)))))=false;rw [k10]<;>kernel_rfl) hv (al k100 (al k101 (al k102 (al (bneT k103) (al (bneT k104) (al k8 (al k9 (al s1 (al s2 (al s3 (al k10 an)))))))))))
set_option maxRecDepth 20000 in
set_option maxHeartbeats 4000000 in
theorem of5_any (c:List En) (n:Int) (e:Bool) (u v x:Tm) (i:Int) (e2:Bool) (u2 v2 x2:Tm) (i2:Int) (hs:Sml c [⟨e,re u,re v,re x,i⟩,⟨e2,re u2,re v2,re x2,i2⟩]) {w:World} {A:Nat→Prop} {vs:List Value} (hv:F2 (ArgDen w A) (aOf c 5 n [⟨e,re u,re v,re x,i⟩,⟨e2,re u2,re v2,re x2,i2⟩]) vs):Calls Try.prog 27 vs.toArray w (GivesO A (ofB c 5 n [⟨e,re u,re v,re x,i⟩,⟨e2,re u2,re v2,re x2,i2⟩]) w):=by
 have hA:allR c.length 5 0 [⟨e,re u,re v,re x,i⟩,⟨e2,re u2,re v2,re x2,i2⟩]=(rightJ ⟨e,re u,re v,re x,i⟩ ↑c.length&&(rightJ ⟨e2,re u2,re v2,re x2,i2⟩ ↑c.length&&true)):=by kernel_rfl
 have hC:concB c n 5 [⟨e,re u,re v,re x,i⟩,⟨e2,re u2,re v2,re x2,i2⟩]=if(((!e)&&(((re x).k==3)&&(i==max (re x).i (re x).j)))&&((!e2)&&((i2==(re x).i)&&sameB (re x2) (kd (re x) 0))))=true then some ⟨false,nd 5 ((re x).i) ((re x).j) [kd (re x) 0,kd (re x) 1,re u,re u2],.zero,(kd (re x) 1).putB (re u2),(re x).j⟩ else none:=by kernel_rfl
 obtain⟨zu,zv,zx⟩:=hs.z
 obtain⟨zu2,zv2,zx2⟩:=hs.tl.z
 cases e with
 | true =>
  apply bc (purC c)<;>intro k0
  ·exact lP [O] k0 hv (al k0 an)
  apply bc (rightJ ⟨true,re u,re v,re x,i⟩ ↑c.length)<;>intro k1
  ·exact lA [I,O] (by rw [hA,k1]<;>kernel_rfl) hv (al k0 (al k1 an))
  apply bc (rightJ ⟨e2,re u2,re v2,re x2,i2⟩ ↑c.length)<;>intro k2
  ·exact lA [I,I,O] (by rw [hA,k1,k2]<;>kernel_rfl) hv (al k0 (al k1 (al k2 an)))
  have hR:=hA.trans (show _=true by rw [k1,k2]<;>kernel_rfl)
  exact lT [I,I,I] k0 hR hC (by kernel_rfl) hv (al k0 (al k1 (al k2 an)))
 | false =>
  apply bc (purC c)<;>intro k3
  ·exact lP [O] k3 hv (al k3 an)
  apply bc (rightJ ⟨false,re u,re v,re x,i⟩ ↑c.length)<;>intro k4
  ·exact lA [I,O] (by rw [hA,k4]<;>kernel_rfl) hv (al k3 (al k4 an))
  apply bc (rightJ ⟨e2,re u2,re v2,re x2,i2⟩ ↑c.length)<;>intro k5
  ·exact lA [I,I,O] (by rw [hA,k4,k5]<;>kernel_rfl) hv (al k3 (al k4 (al k5 an)))
  have hR:=hA.trans (show _=true by rw [k4,k5]<;>kernel_rfl)
  apply bd (((re x).k==3))<;>intro k6
  ·apply bd ((i==max (re x).i (re x).j))<;>intro k7
   ·cases e2 with
    | true =>
     obtain⟨p,q,hk⟩:=two_kids (t:=re x) (right_u k4).2 (Or.inl (by simpa using k6))
     have hx:re x=.mk x.k x.i x.j x.n [re p,re q]:=by
      have hk2:x.kids=[p,q]:=hk
      simp only [re_eq]
      rw [←hk2]
      exact x.eta.symm
     have H:=of5kft_any c n u v i u2 v2 x2 i2 x.k x.i x.j x.n p q (by first | exact k3 | (rw [←hx];exact k3)) (by first | exact k4 | (rw [←hx];exact k4)) (by first | exact k5 | (rw [←hx];exact k5)) (by first | exact k6 | (rw [←hx];exact k6)) (by first | exact k7 | (rw [←hx];exact k7)) (A:=A) (w:=w) (vs:=vs)
     rw [←hx] at H
     exact H hs hv
    | false =>
     obtain⟨p,q,hk⟩:=two_kids (t:=re x) (right_u k4).2 (Or.inl (by simpa using k6))
     have hx:re x=.mk x.k x.i x.j x.n [re p,re q]:=by
      have hk2:x.kids=[p,q]:=hk
      simp only [re_eq]
      rw [←hk2]
      exact x.eta.symm
     have H:=of5kff_any c n u v i u2 v2 x2 i2 x.k x.i x.j x.n p q (by first | exact k3 | (rw [←hx];exact k3)) (by first | exact k4 | (rw [←hx];exact k4)) (by first | exact k5 | (rw [←hx];exact k5)) (by first | exact k6 | (rw [←hx];exact k6)) (by first | exact k7 | (rw [←hx];exact k7)) (A:=A) (w:=w) (vs:=vs)
     rw [←hx] at H
     exact H hs hv
   exact lT [I,I,I,O,I] k3 hR hC (by rw [k6,k7]<;>kernel_rfl) hv (al k3 (al k4 (al k5 (al (bneT k6) (al (bneF k7) an)))))
  exact lT [I,I,I,I] k3 hR hC (by rw [k6]<;>kernel_rfl) hv (al k3 (al k4 (al k5 (al (bneF k6) an))))
set_option maxRecDepth 20000 in
set_option maxHeartbeats 4000000 in
theorem of6_any (c:List En) (n:Int) (e:Bool) (u v x:Tm) (i:Int) (e2:Bool) (u2 v2 x2:Tm) (i2:Int) (hs:Sml c [⟨e,re u,re v,re x,i⟩,⟨e2,re u2,re v2,re x2,i2⟩]) {w:World} {A:Nat→Prop} {vs:List Value} (hv:F2 (ArgDen w A) (aOf c 6 n [⟨e,re u,re v,re x,i⟩,⟨e2,re u2,re v2,re x2,i2⟩]) vs):Calls Try.prog 27 vs.toArray w (GivesO A (ofB c 6 n [⟨e,re u,re v,re x,i⟩,⟨e2,re u2,re v2,re x2,i2⟩]) w):=by
 have hA:allR c.length 6 0 [⟨e,re u,re v,re x,i⟩,⟨e2,re u2,re v2,re x2,i2⟩]=(rightJ ⟨e,re u,re v,re x,i⟩ ↑c.length&&(rightJ ⟨e2,re u2,re v2,re x2,i2⟩ (IntKind.i64.wrap (↑c.length+1))&&true)):=by kernel_rfl
 have hC:concB c n 6 [⟨e,re u,re v,re x,i⟩,⟨e2,re u2,re v2,re x2,i2⟩]=if(((!e)&&(((re x).k==1)&&(i==W64 ((re x).i+1))))&&((!e2)&&(((re x2).k==1)&&(i2==W64 ((re x2).i+1)))))=true then some ⟨false,nd 6 ((re x).i) ((re x2).i) [re u,re u2],.zero,srt (max (re x).i (re x2).i),W64 ((max (re x).i (re x2).i)+1)⟩ else none:=by kernel_rfl
 obtain⟨zu,zv,zx⟩:=hs.z
 obtain⟨zu2,zv2,zx2⟩:=hs.tl.z
 cases e with
 | true =>
  cases e2 with
  | true =>
   apply bc (purC c)<;>intro k0
   ·exact lP [O] k0 hv (al k0 an)
   apply bc (rightJ ⟨true,re u,re v,re x,i⟩ ↑c.length)<;>intro k1
   ·exact lA [I,O] (by rw [hA,k1]<;>kernel_rfl) hv (al k0 (al k1 an))
   apply bc (rightJ ⟨true,re u2,re v2,re x2,i2⟩ (IntKind.i64.wrap (↑c.length+1)))<;>intro k2
   ·exact lA [I,I,O] (by rw [hA,k1,k2]<;>kernel_rfl) hv (al k0 (al k1 (al k2 an)))
   have hR:=hA.trans (show _=true by rw [k1,k2]<;>kernel_rfl)
   have s1:([]:List Tm).length≤10:=Nat.le_of_ble_eq_true rfl
   have s2:(Tm.mk 6 (re x).i (re x2).i 0 [re u,re u2]).size≤10000000:=by simp only [re_eq,Tm.size,sizes];omega
   have s3:(Tm.mk 0 0 0 0 []).size≤10000000:=zs
   have s4:(Tm.mk 1 (max (re x).i (re x2).i) 0 0 []).size≤10000000:=by simp only [re_eq,Tm.size,sizes];omega
   exact lT [I,I,I] k0 hR hC (by kernel_rfl) hv (al k0 (al k1 (al k2 (al s1 an))))
  | false =>
   apply bc (purC c)<;>intro k3
   ·exact lP [O] k3 hv (al k3 an)
   apply bc (rightJ ⟨true,re u,re v,re x,i⟩ ↑c.length)<;>intro k4
   ·exact lA [I,O] (by rw [hA,k4]<;>kernel_rfl) hv (al k3 (al k4 an))
   apply bc (rightJ ⟨false,re u2,re v2,re x2,i2⟩ (IntKind.i64.wrap (↑c.length+1)))<;>intro k5
   ·exact lA [I,I,O] (by rw [hA,k4,k5]<;>kernel_rfl) hv (al k3 (al k4 (al k5 an)))
   have hR:=hA.trans (show _=true by rw [k4,k5]<;>kernel_rfl)
   have s1:([]:List Tm).length≤10:=Nat.le_of_ble_eq_true rfl
   have s2:(Tm.mk 6 (re x).i (re x2).i 0 [re u,re u2]).size≤10000000:=by simp only [re_eq,Tm.size,sizes];omega
   have s3:(Tm.mk 0 0 0 0 []).size≤10000000:=zs
   have s4:(Tm.mk 1 (max (re x).i (re x2).i) 0 0 []).size≤10000000:=by simp only [re_eq,Tm.size,sizes];omega
   apply bc (((re x2).k==1))<;>intro k6
   ·exact lT [I,I,I,O] k3 hR hC (by rw [k6]<;>kernel_rfl) hv (al k3 (al k4 (al k5 (al k6 (al s1 an)))))
   apply bc ((i2==IntKind.i64.wrap ((re x2).i+1)))<;>intro k7
   ·exact lT [I,I,I,I,O] k3 hR hC (by rw [k6,k7]<;>kernel_rfl) hv (al k3 (al k4 (al k5 (al k6 (al k7 (al s1 an))))))
   exact lT [I,I,I,I,I] k3 hR hC (by rw [k6,k7]<;>kernel_rfl) hv (al k3 (al k4 (al k5 (al k6 (al k7 (al s1 an))))))
 | false =>
  cases e2 with
  | true =>
   apply bc (purC c)<;>intro k8
   ·exact lP [O] k8 hv (al k8 an)
   apply bc (rightJ ⟨false,re u,re v,re x,i⟩ ↑c.length)<;>intro k9
   ·exact lA [I,O] (by rw [hA,k9]<;>kernel_rfl) hv (al k8 (al k9 an))
   apply bc (rightJ ⟨true,re u2,re v2,re x2,i2⟩ (IntKind.i64.wrap (↑c.length+1)))<;>intro k10
   ·exact lA [I,I,O] (by rw [hA,k9,k10]<;>kernel_rfl) hv (al k8 (al k9 (al k10 an)))
   have hR:=hA.trans (show _=true by rw [k9,k10]<;>kernel_rfl)
   have s1:([]:List Tm).length≤10:=Nat.le_of_ble_eq_true rfl
   have s2:(Tm.mk 6 (re x).i (re x2).i 0 [re u,re u2]).size≤10000000:=by simp only [re_eq,Tm.size,sizes];omega
   have s3:(Tm.mk 0 0 0 0 []).size≤10000000:=zs
   have s4:(Tm.mk 1 (max (re x).i (re x2).i) 0 0 []).size≤10000000:=by simp only [re_eq,Tm.size,sizes];omega
   apply bc (((re x).k==1))<;>intro k11
   ·exact lT [I,I,I,O] k8 hR hC (by rw [k11]<;>kernel_rfl) hv (al k8 (al k9 (al k10 (al k11 (al s1 an)))))
   apply bc ((i==IntKind.i64.wrap ((re x).i+1)))<;>intro k12
   ·exact lT [I,I,I,I,O] k8 hR hC (by rw [k11,k12]<;>kernel_rfl) hv (al k8 (al k9 (al k10 (al k11 (al k12 (al s1 an))))))
   exact lT [I,I,I,I,I] k8 hR hC (by rw [k11,k12]<;>kernel_rfl) hv (al k8 (al k9 (al k10 (al k11 (al k12 (al s1 an))))))
  | false =>
   apply bc (purC c)<;>intro k13
   ·exact lP [O] k13 hv (al k13 an)
   apply bc (rightJ ⟨false,re u,re v,re x,i⟩ ↑c.length)<;>intro k14
   ·exact lA [I,O] (by rw [hA,k14]<;>kernel_rfl) hv (al k13 (al k14 an))
   apply bc (rightJ ⟨false,re u2,re v2,re x2,i2⟩ (IntKind.i64.wrap (↑c.length+1)))<;>intro k15
   ·exact lA [I,I,O] (by rw [hA,k14,k15]<;>kernel_rfl) hv (al k13 (al k14 (al k15 an)))
   have hR:=hA.trans (show _=true by rw [k14,k15]<;>kernel_rfl)
   have s1:([]:List Tm).length≤10:=Nat.le_of_ble_eq_true rfl
   have s2:(Tm.mk 6 (re x).i (re x2).i 0 [re u,re u2]).size≤10000000:=by simp only [re_eq,Tm.size,sizes];omega
   have s3:(Tm.mk 0 0 0 0 []).size≤10000000:=zs
   have s4:(Tm.mk 1 (max (re x).i (re x2).i) 0 0 []).size≤10000000:=by simp only [re_eq,Tm.size,sizes];omega
   apply bc (((re x).k==1))<;>intro k16
   ·apply bc (((re x2).k==1))<;>intro k17
    ·exact lT [I,I,I,O,O] k13 hR hC (by rw [k16,k17]<;>kernel_rfl) hv (al k13 (al k14 (al k15 (al k16 (al k17 (al s1 an))))))
    apply bc ((i2==IntKind.i64.wrap ((re x2).i+1)))<;>intro k18
    ·exact lT [I,I,I,O,I,O] k13 hR hC (by rw [k16,k17,k18]<;>kernel_rfl) hv (al k13 (al k14 (al k15 (al k16 (al k17 (al k18 (al s1 an)))))))
    exact lT [I,I,I,O,I,I] k13 hR hC (by rw [k16,k17,k18]<;>kernel_rfl) hv (al k13 (al k14 (al k15 (al k16 (al k17 (al k18 (al s1 an)))))))
   apply bc ((i==IntKind.i64.wrap ((re x).i+1)))<;>intro k19
   ·apply bc (((re x2).k==1))<;>intro k20
    ·exact lT [I,I,I,I,O,O] k13 hR hC (by rw [k16,k19,k20]<;>kernel_rfl) hv (al k13 (al k14 (al k15 (al k16 (al k19 (al k20 (al s1 an)))))))
    apply bc ((i2==IntKind.i64.wrap ((re x2).i+1)))<;>intro k21
    ·exact lT [I,I,I,I,O,I,O] k13 hR hC (by rw [k16,k19,k20,k21]<;>kernel_rfl) hv (al k13 (al k14 (al k15 (al k16 (al k19 (al k20 (al k21 (al s1 an))))))))
    exact lT [I,I,I,I,O,I,I] k13 hR hC (by rw [k16,k19,k20,k21]<;>kernel_rfl) hv (al k13 (al k14 (al k15 (al k16 (al k19 (al k20 (al k21 (al s1 an))))))))
   apply bc (((re x2).k==1))<;>intro k22
   ·exact lT [I,I,I,I,I,O] k13 hR hC (by rw [k16,k19,k22]<;>kernel_rfl) hv (al k13 (al k14 (al k15 (al k16 (al k19 (al k22 (al s1 an)))))))
   apply bc ((i2==IntKind.i64.wrap ((re x2).i+1)))<;>intro k23
   ·exact lT [I,I,I,I,I,I,O] k13 hR hC (by rw [k16,k19,k22,k23]<;>kernel_rfl) hv (al k13 (al k14 (al k15 (al k16 (al k19 (al k22 (al k23 (al s1 an))))))))
   apply bc (decide (IntKind.i64.wrap (max (re x).i (re x2).i+1)>1000))<;>intro k24
   ·exact lS [I,I,I,I,I,I,I,O] k13 hR hC (by rw [k16,k19,k22,k23]<;>kernel_rfl) (by show(!(decide (W64 ((max (re x).i (re x2).i)+1)>1000)||((nd 6 ((re x).i) ((re x2).i) [re u,re u2]).k==0||((srt (max (re x).i (re x2).i)).k==0||(false&&(.zero:Tm).k==0)))))=true;rw [k24]<;>kernel_rfl) hv (al k13 (al k14 (al k15 (al k16 (al k19 (al k22 (al k23 (al s1 (al k24 (al s2 (al s3 (al s4 an))))))))))))
   exact lO [I,I,I,I,I,I,I,I] k13 hR hC (by show(!(decide (W64 ((max (re x).i (re x2).i)+1)>1000)||((nd 6 ((re x).i) ((re x2).i) [re u,re u2]).k==0||((srt (max (re x).i (re x2).i)).k==0||(false&&(.zero:Tm).k==0)))))=false;rw [k24]<;>kernel_rfl) hv (al k13 (al k14 (al k15 (al k16 (al k19 (al k22 (al k23 (al s1 (al k24 an)))))))))
end Go.Proofs.Ytgnllglbopaheaa.Se

namespace Go.Proofs.Ytgnllglbopaheaa.Se
open Go Go.RowKit
set_option linter.unusedSimpArgs false
set_option maxRecDepth 20000 in
set_option maxHeartbeats 4000000 in
theorem of7_any (c:List En) (n:Int) (e:Bool) (u v x:Tm) (i:Int) (e2:Bool) (u2 v2 x2:Tm) (i2:Int) (e3:Bool) (u3 v3 x3:Tm) (i3:Int) (hs:Sml c [⟨e,re u,re v,re x,i⟩,⟨e2,re u2,re v2,re x2,i2⟩,⟨e3,re u3,re v3,re x3,i3⟩]) {w:World} {A:Nat→Prop} {vs:List Value} (hv:F2 (ArgDen w A) (aOf c 7 n [⟨e,re u,re v,re x,i⟩,⟨e2,re u2,re v2,re x2,i2⟩,⟨e3,re u3,re v3,re x3,i3⟩]) vs):Calls Try.prog 27 vs.toArray w (GivesO A (ofB c 7 n [⟨e,re u,re v,re x,i⟩,⟨e2,re u2,re v2,re x2,i2⟩,⟨e3,re u3,re v3,re x3,i3⟩]) w):=by
 have hA:allR c.length 7 0 [⟨e,re u,re v,re x,i⟩,⟨e2,re u2,re v2,re x2,i2⟩,⟨e3,re u3,re v3,re x3,i3⟩]=(rightJ ⟨e,re u,re v,re x,i⟩ ↑c.length&&(rightJ ⟨e2,re u2,re v2,re x2,i2⟩ (IntKind.i64.wrap (↑c.length+1))&&(rightJ ⟨e3,re u3,re v3,re x3,i3⟩ ↑c.length&&true))):=by kernel_rfl
 have hC:concB c n 7 [⟨e,re u,re v,re x,i⟩,⟨e2,re u2,re v2,re x2,i2⟩,⟨e3,re u3,re v3,re x3,i3⟩]=if((((!e2)&&(((re x2).k==1)&&(i2==W64 ((re x2).i+1))))&&(!e))&&((!e3)&&((i3==(re x2).i)&&sameB (re x3) ((re u2).putB (re u)))))=true then some ⟨false,nd 7 i ((re x2).i) [re x,re u2,re u,re u3],.zero,nd 6 i ((re x2).i) [re x,re u2],max i (re x2).i⟩ else none:=by kernel_rfl
 obtain⟨zu,zv,zx⟩:=hs.z
 obtain⟨zu2,zv2,zx2⟩:=hs.tl.z
 obtain⟨zu3,zv3,zx3⟩:=hs.tl.tl.z
 cases e with
 | true =>
  cases e2 with
  | true =>
   apply bc (purC c)<;>intro k0
   ·exact lP [O] k0 hv (al k0 an)
   apply bc (rightJ ⟨true,re u,re v,re x,i⟩ ↑c.length)<;>intro k1
   ·exact lA [I,O] (by rw [hA,k1]<;>kernel_rfl) hv (al k0 (al k1 an))
   apply bc (rightJ ⟨true,re u2,re v2,re x2,i2⟩ (IntKind.i64.wrap (↑c.length+1)))<;>intro k2
   ·exact lA [I,I,O] (by rw [hA,k1,k2]<;>kernel_rfl) hv (al k0 (al k1 (al k2 an)))
   apply bc (rightJ ⟨e3,re u3,re v3,re x3,i3⟩ ↑c.length)<;>intro k3
   ·exact lA [I,I,I,O] (by rw [hA,k1,k2,k3]<;>kernel_rfl) hv (al k0 (al k1 (al k2 (al k3 an))))
   have hR:=hA.trans (show _=true by rw [k1,k2,k3]<;>kernel_rfl)
   have s1:[re u,re u3].length≤10:=Nat.le_of_ble_eq_true rfl
   have s2:([]:List Tm).length≤10:=Nat.le_of_ble_eq_true rfl
   have s3:(re u2).deep≤100000:=by refine Nat.le_trans (deep_le_size _) ?_;simp only [re_eq,Tm.size,sizes];omega
   have s4:(re u).deep≤100000:=by refine Nat.le_trans (deep_le_size _) ?_;simp only [re_eq,Tm.size,sizes];omega
   have s5:(Tm.mk 7 i (re x2).i 0 [re x,re u2,re u,re u3]).size≤10000000:=by simp only [re_eq,Tm.size,sizes];omega
   have s6:(Tm.mk 0 0 0 0 []).size≤10000000:=zs
   have s7:(Tm.mk 6 i (re x2).i 0 [re x,re u2]).size≤10000000:=by simp only [re_eq,Tm.size,sizes];omega
   exact lT [I,I,I,I] k0 hR hC (by kernel_rfl) hv (al k0 (al k1 (al k2 (al k3 (al s1 (al s2 an))))))
  | false =>
   apply bc (purC c)<;>intro k4
   ·exact lP [O] k4 hv (al k4 an)
   apply bc (rightJ ⟨true,re u,re v,re x,i⟩ ↑c.length)<;>intro k5
   ·exact lA [I,O] (by rw [hA,k5]<;>kernel_rfl) hv (al k4 (al k5 an))
   apply bc (rightJ ⟨false,re u2,re v2,re x2,i2⟩ (IntKind.i64.wrap (↑c.length+1)))<;>intro k6
   ·exact lA [I,I,O] (by rw [hA,k5,k6]<;>kernel_rfl) hv (al k4 (al k5 (al k6 an)))
   apply bc (rightJ ⟨e3,re u3,re v3,re x3,i3⟩ ↑c.length)<;>intro k7
   ·exact lA [I,I,I,O] (by rw [hA,k5,k6,k7]<;>kernel_rfl) hv (al k4 (al k5 (al k6 (al k7 an))))
   have hR:=hA.trans (show _=true by rw [k5,k6,k7]<;>kernel_rfl)
   have s1:[re u,re u3].length≤10:=Nat.le_of_ble_eq_true rfl
   have s2:([]:List Tm).length≤10:=Nat.le_of_ble_eq_true rfl
   have s3:(re u2).deep≤100000:=by refine Nat.le_trans (deep_le_size _) ?_;simp only [re_eq,Tm.size,sizes];omega
   have s4:(re u).deep≤100000:=by refine Nat.le_trans (deep_le_size _) ?_;simp only [re_eq,Tm.size,sizes];omega
   have s5:(Tm.mk 7 i (re x2).i 0 [re x,re u2,re u,re u3]).size≤10000000:=by simp only [re_eq,Tm.size,sizes];omega
   have s6:(Tm.mk 0 0 0 0 []).size≤10000000:=zs
   have s7:(Tm.mk 6 i (re x2).i 0 [re x,re u2]).size≤10000000:=by simp only [re_eq,Tm.size,sizes];omega
   apply bc (((re x2).k==1))<;>intro k8
   ·exact lT [I,I,I,I,O] k4 hR hC (by rw [k8]<;>kernel_rfl) hv (al k4 (al k5 (al k6 (al k7 (al k8 (al s1 (al s2 an)))))))
   apply bc ((i2==IntKind.i64.wrap ((re x2).i+1)))<;>intro k9
   ·exact lT [I,I,I,I,I,O] k4 hR hC (by rw [k8,k9]<;>kernel_rfl) hv (al k4 (al k5 (al k6 (al k7 (al k8 (al k9 (al s1 (al s2 an))))))))
   exact lT [I,I,I,I,I,I] k4 hR hC (by rw [k8,k9]<;>kernel_rfl) hv (al k4 (al k5 (al k6 (al k7 (al k8 (al k9 (al s1 (al s2 an))))))))
 | false =>
  cases e2 with
  | true =>
   apply bc (purC c)<;>intro k10
   ·exact lP [O] k10 hv (al k10 an)
   apply bc (rightJ ⟨false,re u,re v,re x,i⟩ ↑c.length)<;>intro k11
   ·exact lA [I,O] (by rw [hA,k11]<;>kernel_rfl) hv (al k10 (al k11 an))
   apply bc (rightJ ⟨true,re u2,re v2,re x2,i2⟩ (IntKind.i64.wrap (↑c.length+1)))<;>intro k12
   ·exact lA [I,I,O] (by rw [hA,k11,k12]<;>kernel_rfl) hv (al k10 (al k11 (al k12 an)))
   apply bc (rightJ ⟨e3,re u3,re v3,re x3,i3⟩ ↑c.length)<;>intro k13
   ·exact lA [I,I,I,O] (by rw [hA,k11,k12,k13]<;>kernel_rfl) hv (al k10 (al k11 (al k12 (al k13 an))))
   have hR:=hA.trans (show _=true by rw [k11,k12,k13]<;>kernel_rfl)
   have s1:[re u,re u3].length≤10:=Nat.le_of_ble_eq_true rfl
   have s2:([]:List Tm).length≤10:=Nat.le_of_ble_eq_true rfl
   have s3:(re u2).deep≤100000:=by refine Nat.le_trans (deep_le_size _) ?_;simp only [re_eq,Tm.size,sizes];omega
   have s4:(re u).deep≤100000:=by refine Nat.le_trans (deep_le_size _) ?_;simp only [re_eq,Tm.size,sizes];omega
   have s5:(Tm.mk 7 i (re x2).i 0 [re x,re u2,re u,re u3]).size≤10000000:=by simp only [re_eq,Tm.size,sizes];omega
   have s6:(Tm.mk 0 0 0 0 []).size≤10000000:=zs
   have s7:(Tm.mk 6 i (re x2).i 0 [re x,re u2]).size≤10000000:=by simp only [re_eq,Tm.size,sizes];omega
   exact lT [I,I,I,I] k10 hR hC (by kernel_rfl) hv (al k10 (al k11 (al k12 (al k13 (al s1 (al s2 an))))))
  | false =>
   cases e3 with
   | true =>
    apply bc (purC c)<;>intro k14
    ·exact lP [O] k14 hv (al k14 an)
    apply bc (rightJ ⟨false,re u,re v,re x,i⟩ ↑c.length)<;>intro k15
    ·exact lA [I,O] (by rw [hA,k15]<;>kernel_rfl) hv (al k14 (al k15 an))
    apply bc (rightJ ⟨false,re u2,re v2,re x2,i2⟩ (IntKind.i64.wrap (↑c.length+1)))<;>intro k16
    ·exact lA [I,I,O] (by rw [hA,k15,k16]<;>kernel_rfl) hv (al k14 (al k15 (al k16 an)))
    apply bc (rightJ ⟨true,re u3,re v3,re x3,i3⟩ ↑c.length)<;>intro k17
    ·exact lA [I,I,I,O] (by rw [hA,k15,k16,k17]<;>kernel_rfl) hv (al k14 (al k15 (al k16 (al k17 an))))
    have hR:=hA.trans (show _=true by rw [k15,k16,k17]<;>kernel_rfl)
    have s1:[re u,re u3].length≤10:=Nat.le_of_ble_eq_true rfl
    have s2:([]:List Tm).length≤10:=Nat.le_of_ble_eq_true rfl
    have s3:(re u2).deep≤100000:=by refine Nat.le_trans (deep_le_size _) ?_;simp only [re_eq,Tm.size,sizes];omega
    have s4:(re u).deep≤100000:=by refine Nat.le_trans (deep_le_size _) ?_;simp only [re_eq,Tm.size,sizes];omega
    have s5:(Tm.mk 7 i (re x2).i 0 [re x,re u2,re u,re u3]).size≤10000000:=by simp only [re_eq,Tm.size,sizes];omega
    have s6:(Tm.mk 0 0 0 0 []).size≤10000000:=zs
    have s7:(Tm.mk 6 i (re x2).i 0 [re x,re u2]).size≤10000000:=by simp only [re_eq,Tm.size,sizes];omega
    apply bc (((re x2).k==1))<;>intro k18
    ·exact lT [I,I,I,I,O] k14 hR hC (by rw [k18]<;>kernel_rfl) hv (al k14 (al k15 (al k16 (al k17 (al k18 (al s1 (al s2 an)))))))
    apply bc ((i2==IntKind.i64.wrap ((re x2).i+1)))<;>intro k19
    ·exact lT [I,I,I,I,I,O] k14 hR hC (by rw [k18,k19]<;>kernel_rfl) hv (al k14 (al k15 (al k16 (al k17 (al k18 (al k19 (al s1 (al s2 an))))))))
    exact lT [I,I,I,I,I,I] k14 hR hC (by rw [k18,k19]<;>kernel_rfl) hv (al k14 (al k15 (al k16 (al k17 (al k18 (al k19 (al s3 (al s4 (al s1 (al s2 an))))))))))
   | false =>
    apply bc (purC c)<;>intro k20
    ·exact lP [O] k20 hv (al k20 an)
    apply bc (rightJ ⟨false,re u,re v,re x,i⟩ ↑c.length)<;>intro k21
    ·exact lA [I,O] (by rw [hA,k21]<;>kernel_rfl) hv (al k20 (al k21 an))
    apply bc (rightJ ⟨false,re u2,re v2,re x2,i2⟩ (IntKind.i64.wrap (↑c.length+1)))<;>intro k22
    ·exact lA [I,I,O] (by rw [hA,k21,k22]<;>kernel_rfl) hv (al k20 (al k21 (al k22 an)))
    apply bc (rightJ ⟨false,re u3,re v3,re x3,i3⟩ ↑c.length)<;>intro k23
    ·exact lA [I,I,I,O] (by rw [hA,k21,k22,k23]<;>kernel_rfl) hv (al k20 (al k21 (al k22 (al k23 an))))
    have hR:=hA.trans (show _=true by rw [k21,k22,k23]<;>kernel_rfl)
    have s1:[re u,re u3].length≤10:=Nat.le_of_ble_eq_true rfl
    have s2:([]:List Tm).length≤10:=Nat.le_of_ble_eq_true rfl
    have s3:(re u2).deep≤100000:=by refine Nat.le_trans (deep_le_size _) ?_;simp only [re_eq,Tm.size,sizes];omega
    have s4:(re u).deep≤100000:=by refine Nat.le_trans (deep_le_size _) ?_;simp only [re_eq,Tm.size,sizes];omega
    have s5:(Tm.mk 7 i (re x2).i 0 [re x,re u2,re u,re u3]).size≤10000000:=by simp only [re_eq,Tm.size,sizes];omega
    have s6:(Tm.mk 0 0 0 0 []).size≤10000000:=zs
    have s7:(Tm.mk 6 i (re x2).i 0 [re x,re u2]).size≤10000000:=by simp only [re_eq,Tm.size,sizes];omega
    apply bc (((re x2).k==1))<;>intro k24
    ·exact lT [I,I,I,I,O] k20 hR hC (by rw [k24]<;>kernel_rfl) hv (al k20 (al k21 (al k22 (al k23 (al k24 (al s1 (al s2 an)))))))
    apply bc ((i2==IntKind.i64.wrap ((re x2).i+1)))<;>intro k25
    ·exact lT [I,I,I,I,I,O] k20 hR hC (by rw [k24,k25]<;>kernel_rfl) hv (al k20 (al k21 (al k22 (al k23 (al k24 (al k25 (al s1 (al s2 an))))))))
    apply bc ((i3==(re x2).i))<;>intro k26
    ·exact lT [I,I,I,I,I,I,O] k20 hR hC (by rw [k24,k25,k26]<;>kernel_rfl) hv (al k20 (al k21 (al k22 (al k23 (al k24 (al k25 (al s3 (al s4 (al k26 (al s1 (al s2 an)))))))))))
    apply bc (sameB (re x3) (re ((re u2).putB (re u))))<;>intro k27
    ·exact lT [I,I,I,I,I,I,I,O] k20 hR hC (by rw [←re_eq ((re u2).putB (re u)),k24,k25,k26,k27]<;>kernel_rfl) hv (al k20 (al k21 (al k22 (al k23 (al k24 (al k25 (al s3 (al s4 (al k26 (al k27 (al s1 (al s2 an))))))))))))
    apply bc (decide (max i (re x2).i>1000))<;>intro k28
    ·exact lS [I,I,I,I,I,I,I,I,O] k20 hR hC (by rw [←re_eq ((re u2).putB (re u)),k24,k25,k26,k27]<;>kernel_rfl) (by show(!(decide (max i (re x2).i>1000)||((nd 7 i ((re x2).i) [re x,re u2,re u,re u3]).k==0||((nd 6 i ((re x2).i) [re x,re u2]).k==0||(false&&(.zero:Tm).k==0)))))=true;rw [k28]<;>kernel_rfl) hv (al k20 (al k21 (al k22 (al k23 (al k24 (al k25 (al s3 (al s4 (al k26 (al k27 (al s1 (al s2 (al k28 (al s5 (al s6 (al s7 an))))))))))))))))
    exact lO [I,I,I,I,I,I,I,I,I] k20 hR hC (by show(!(decide (max i (re x2).i>1000)||((nd 7 i ((re x2).i) [re x,re u2,re u,re u3]).k==0||((nd 6 i ((re x2).i) [re x,re u2]).k==0||(false&&(.zero:Tm).k==0)))))=false;rw [k28]<;>kernel_rfl) hv (al k20 (al k21 (al k22 (al k23 (al k24 (al k25 (al s3 (al s4 (al k26 (al k27 (al s1 (al s2 (al k28 an)))))))))))))
set_option maxRecDepth 20000 in
set_option maxHeartbeats 4000000 in
theorem of8kf_any (c:List En) (n:Int) (u v:Tm) (i:Int) (xk xi xj xn:Int) (p q:Tm) (k100:purC c=true) (k101:rightJ {eq:=false,u:=re u,v:=re v,a:=Tm.mk xk xi xj xn [re p,re q],i:=i} ↑c.length=true) (k102:(xk==6)=true) (k103:(i==max xi xj)=true) (hs:Sml c [⟨false,re u,re v,.mk xk xi xj xn [re p,re q],i⟩]) {w:World} {A:Nat→Prop} {vs:List Value} (hv:F2 (ArgDen w A) (aOf c 8 n [⟨false,re u,re v,.mk xk xi xj xn [re p,re q],i⟩]) vs):Calls Try.prog 27 vs.toArray w (GivesO A (ofB c 8 n [⟨false,re u,re v,.mk xk xi xj xn [re p,re q],i⟩]) w):=by
 have hA:allR c.length 8 0 [⟨false,re u,re v,.mk xk xi xj xn [re p,re q],i⟩]=(rightJ ⟨false,re u,re v,.mk xk xi xj xn [re p,re q],i⟩ ↑c.length&&true):=by kernel_rfl
 have hC:concB c n 8 [⟨false,re u,re v,.mk xk xi xj xn [re p,re q],i⟩]=if((!false)&&((xk==6)&&(i==max xi xj)))=true then some ⟨false,nd 8 xi xj [re p,re q,re u],.zero,re p,xi⟩ else none:=by kernel_rfl
 have zu:(re u).size≤1000:=(hs.js _ (List.mem_cons_self ..)).1
 have zx:(.mk xk xi xj xn [re p,re q]:Tm).size≤1000:=(hs.js _ (List.mem_cons_self ..)).2.2
 rw [re_eq] at zu
 simp only [Tm.size,sizes,re_eq] at zx
 have hR:=hA.trans (show _=true by rw [k101]<;>kernel_rfl)
 have s1:[re u].length≤10:=Nat.le_of_ble_eq_true rfl
 have s2:(Tm.mk 8 xi xj 0 [re p,re q,re u]).size≤10000000:=by simp only [re_eq,Tm.size,sizes];omega
 have s3:(Tm.mk 0 0 0 0 []).size≤10000000:=zs
 have s4:(re p).size≤10000000:=by simp only [re_eq,Tm.size,sizes];omega
 apply bc (decide (xi>1000))<;>intro k6
 ·apply bc (((re p).k==0))<;>intro k7
  ·exact lS [I,I,O,O,O,O] k100 hR hC (by rw [k102,k103]<;>kernel_rfl) (by show(!(decide (xi>1000)||((nd 8 xi xj [re p,re q,re u]).k==0||((re p).k==0||(false&&(.zero:Tm).k==0)))))=true;rw [k6,k7]<;>kernel_rfl) hv (al k100 (al k101 (al (bneT k102) (al (bneT k103) (al s1 (al k6 (al k7 (al s2 (al s3 (al s4 an))))))))))
  exact lO [I,I,O,O,O,I] k100 hR hC (by show(!(decide (xi>1000)||((nd 8 xi xj [re p,re q,re u]).k==0||((re p).k==0||(false&&(.zero:Tm).k==0)))))=false;rw [k6,k7]<;>kernel_rfl) hv (al k100 (al k101 (al (bneT k102) (al (bneT k103) (al s1 (al k6 (al k7 an)))))))
 exact lO [I,I,O,O,I] k100 hR hC (by show(!(decide (xi>1000)||((nd 8 xi xj [re p,re q,re u]).k==0||((re p).k==0||(false&&(.zero:Tm).k==0)))))=false;rw [k6]<;>kernel_rfl) hv (al k100 (al k101 (al (bneT k102) (al (bneT k103) (al s1 (al k6 an))))))
set_option maxRecDepth 20000 in
set_option maxHeartbeats 4000000 in
theorem of8_any (c:List En) (n:Int) (e:Bool) (u v x:Tm) (i:Int) (hs:Sml c [⟨e,re u,re v,re x,i⟩]) {w:World} {A:Nat→Prop} {vs:List Value} (hv:F2 (ArgDen w A) (aOf c 8 n [⟨e,re u,re v,re x,i⟩]) vs):Calls Try.prog 27 vs.toArray w (GivesO A (ofB c 8 n [⟨e,re u,re v,re x,i⟩]) w):=by
 have hA:allR c.length 8 0 [⟨e,re u,re v,re x,i⟩]=(rightJ ⟨e,re u,re v,re x,i⟩ ↑c.length&&true):=by kernel_rfl
 have hC:concB c n 8 [⟨e,re u,re v,re x,i⟩]=if((!e)&&(((re x).k==6)&&(i==max (re x).i (re x).j)))=true then some ⟨false,nd 8 ((re x).i) ((re x).j) [kd (re x) 0,kd (re x) 1,re u],.zero,kd (re x) 0,(re x).i⟩ else none:=by kernel_rfl
 obtain⟨zu,zv,zx⟩:=hs.z
 cases e with
 | true =>
  apply bc (purC c)<;>intro k0
  ·exact lP [O] k0 hv (al k0 an)
  apply bc (rightJ ⟨true,re u,re v,re x,i⟩ ↑c.length)<;>intro k1
  ·exact lA [I,O] (by rw [hA,k1]<;>kernel_rfl) hv (al k0 (al k1 an))
  have hR:=hA.trans (show _=true by rw [k1]<;>kernel_rfl)
  have s1:[re u].length≤10:=Nat.le_of_ble_eq_true rfl
  exact lT [I,I] k0 hR hC (by kernel_rfl) hv (al k0 (al k1 (al s1 an)))
 | false =>
  apply bc (purC c)<;>intro k2
  ·exact lP [O] k2 hv (al k2 an)
  apply bc (rightJ ⟨false,re u,re v,re x,i⟩ ↑c.length)<;>intro k3
  ·exact lA [I,O] (by rw [hA,k3]<;>kernel_rfl) hv (al k2 (al k3 an))
  have hR:=hA.trans (show _=true by rw [k3]<;>kernel_rfl)
  have s1:[re u].length≤10:=Nat.le_of_ble_eq_true rfl
  apply bd (((re x).k==6))<;>intro k4
  ·apply bd ((i==max (re x).i (re x).j))<;>intro k5
   ·obtain⟨p,q,hk⟩:=two_kids (t:=re x) (right_u k3).2 (Or.inr (by simpa using k4))
    have hx:re x=.mk x.k x.i x.j x.n [re p,re q]:=by
     have hk2:x.kids=[p,q]:=hk
     simp only [re_eq]
     rw [←hk2]
     exact x.eta.symm
    have H:=of8kf_any c n u v i x.k x.i x.j x.n p q (by first | exact k2 | (rw [←hx];exact k2)) (by first | exact k3 | (rw [←hx];exact k3)) (by first | exact k4 | (rw [←hx];exact k4)) (by first | exact k5 | (rw [←hx];exact k5)) (A:=A) (w:=w) (vs:=vs)
    rw [←hx] at H
    exact H hs hv
   exact lT [I,I,O,I] k2 hR hC (by rw [k4,k5]<;>kernel_rfl) hv (al k2 (al k3 (al (bneT k4) (al (bneF k5) (al s1 an)))))
  exact lT [I,I,I] k2 hR hC (by rw [k4]<;>kernel_rfl) hv (al k2 (al k3 (al (bneF k4) (al s1 an))))
set_option maxRecDepth 20000 in
set_option maxHeartbeats 4000000 in
theorem of9kf_any (c:List En) (n:Int) (u v:Tm) (i:Int) (xk xi xj xn:Int) (p q:Tm) (k100:purC c=true) (k101:rightJ {eq:=false,u:=re u,v:=re v,a:=Tm.mk xk xi xj xn [re p,re q],i:=i} ↑c.length=true) (k102:(xk==6)=true) (k103:(i==max xi xj)=true) (hs:Sml c [⟨false,re u,re v,.mk xk xi xj xn [re p,re q],i⟩]) {w:World} {A:Nat→Prop} {vs:List Value} (hv:F2 (ArgDen w A) (aOf c 9 n [⟨false,re u,re v,.mk xk xi xj xn [re p,re q],i⟩]) vs):Calls Try.prog 27 vs.toArray w (GivesO A (ofB c 9 n [⟨false,re u,re v,.mk xk xi xj xn [re p,re q],i⟩]) w):=by
 have hA:allR c.length 9 0 [⟨false,re u,re v,.mk xk xi xj xn [re p,re q],i⟩]=(rightJ ⟨false,re u,re v,.mk xk xi xj xn [re p,re q],i⟩ ↑c.length&&true):=by kernel_rfl
 have hC:concB c n 9 [⟨false,re u,re v,.mk xk xi xj xn [re p,re q],i⟩]=if((!false)&&((xk==6)&&(i==max xi xj)))=true then some ⟨false,nd 9 xi xj [re p,re q,re u],.zero,(re q).putB (.mk 8 xi xj 0 [re p,re q,re u]),xj⟩ else none:=by kernel_rfl
 have zu:(re u).size≤1000:=(hs.js _ (List.mem_cons_self ..)).1
 have zx:(.mk xk xi xj xn [re p,re q]:Tm).size≤1000:=(hs.js _ (List.mem_cons_self ..)).2.2
 rw [re_eq] at zu
 simp only [Tm.size,sizes,re_eq] at zx
 have hq:(re q).pureB=true:=pure_kid (right_u k101).2 (by intro(h:xk=12);rw [h] at k102;cases k102) (List.mem_cons_of_mem _ (List.mem_cons_self ..))
 have hR:=hA.trans (show _=true by rw [k101]<;>kernel_rfl)
 have s1:[re u].length≤10:=Nat.le_of_ble_eq_true rfl
 have s2:(re q).deep≤100000:=by refine Nat.le_trans (deep_le_size _) ?_;simp only [re_eq,Tm.size,sizes];omega
 have s3:(Tm.mk 8 xi xj 0 [re p,re q,re u]).deep≤100000:=by refine Nat.le_trans (deep_le_size _) ?_;simp only [re_eq,Tm.size,sizes];omega
 have s4:(Tm.mk 9 xi xj 0 [re p,re q,re u]).size≤10000000:=by simp only [re_eq,Tm.size,sizes];omega
 have s5:(Tm.mk 0 0 0 0 []).size≤10000000:=zs
 have s6:(re ((re q).putB (Tm.mk 8 xi xj 0 [re p,re q,re u]))).size≤10000000:=by rw [re_eq];exact putB_le hq (by simp only [re_eq,Tm.size,sizes];omega) (by simp only [re_eq,Tm.size,sizes];omega)
 apply bc (decide (xj>1000))<;>intro k6
 ·apply bc ((((re q).putB (Tm.mk 8 xi xj 0 [re p,re q,re u])).k==0))<;>intro k7
  ·exact lS [I,I,O,O,O,O] k100 hR hC (by rw [k102,k103]<;>kernel_rfl) (by show(!(decide (xj>1000)||((nd 9 xi xj [re p,re q,re u]).k==0||(((re q).putB (.mk 8 xi xj 0 [re p,re q,re u])).k==0||(false&&(.zero:Tm).k==0)))))=true;rw [k6,k7]<;>kernel_rfl) hv (al k100 (al k101 (al (bneT k102) (al (bneT k103) (al s1 (al s1 (al s2 (al s3 (al k6 (al k7 (al s4 (al s5 (al s6 an)))))))))))))
  exact lO [I,I,O,O,O,I] k100 hR hC (by show(!(decide (xj>1000)||((nd 9 xi xj [re p,re q,re u]).k==0||(((re q).putB (.mk 8 xi xj 0 [re p,re q,re u])).k==0||(false&&(.zero:Tm).k==0)))))=false;rw [k6,k7]<;>kernel_rfl) hv (al k100 (al k101 (al (bneT k102) (al (bneT k103) (al s1 (al s1 (al s2 (al s3 (al k6 (al k7 an))))))))))
 exact lO [I,I,O,O,I] k100 hR hC (by show(!(decide (xj>1000)||((nd 9 xi xj [re p,re q,re u]).k==0||(((re q).putB (.mk 8 xi xj 0 [re p,re q,re u])).k==0||(false&&(.zero:Tm).k==0)))))=false;rw [k6]<;>kernel_rfl) hv (al k100 (al k101 (al (bneT k102) (al (bneT k103) (al s1 (al s1 (al s2 (al s3 (al k6 an)))))))))
set_option maxRecDepth 20000 in
set_option maxHeartbeats 4000000 in
theorem of9_any (c:List En) (n:Int) (e:Bool) (u v x:Tm) (i:Int) (hs:Sml c [⟨e,re u,re v,re x,i⟩]) {w:World} {A:Nat→Prop} {vs:List Value} (hv:F2 (ArgDen w A) (aOf c 9 n [⟨e,re u,re v,re x,i⟩]) vs):Calls Try.prog 27 vs.toArray w (GivesO A (ofB c 9 n [⟨e,re u,re v,re x,i⟩]) w):=by
 have hA:allR c.length 9 0 [⟨e,re u,re v,re x,i⟩]=(rightJ ⟨e,re u,re v,re x,i⟩ ↑c.length&&true):=by kernel_rfl
 have hC:concB c n 9 [⟨e,re u,re v,re x,i⟩]=if((!e)&&(((re x).k==6)&&(i==max (re x).i (re x).j)))=true then some ⟨false,nd 9 ((re x).i) ((re x).j) [kd (re x) 0,kd (re x) 1,re u],.zero,(kd (re x) 1).putB (.mk 8 ((re x).i) ((re x).j) 0 [kd (re x) 0,kd (re x) 1,re u]),(re x).j⟩ else none:=by kernel_rfl
 obtain⟨zu,zv,zx⟩:=hs.z
 cases e with
 | true =>
  apply bc (purC c)<;>intro k0
  ·exact lP [O] k0 hv (al k0 an)
  apply bc (rightJ ⟨true,re u,re v,re x,i⟩ ↑c.length)<;>intro k1
  ·exact lA [I,O] (by rw [hA,k1]<;>kernel_rfl) hv (al k0 (al k1 an))
  have hR:=hA.trans (show _=true by rw [k1]<;>kernel_rfl)
  have s1:[re u].length≤10:=Nat.le_of_ble_eq_true rfl
  have s2:(Tm.mk 0 0 0 0 []).deep≤100000:=by refine Nat.le_trans (deep_le_size _) ?_;simp only [re_eq,Tm.size,sizes];omega
  have s3:(Tm.mk 8 0 0 0 [Tm.mk 0 0 0 0 [],Tm.mk 0 0 0 0 [],re u]).deep≤100000:=by refine Nat.le_trans (deep_le_size _) ?_;simp only [re_eq,Tm.size,sizes];omega
  exact lT [I,I] k0 hR hC (by kernel_rfl) hv (al k0 (al k1 (al s1 (al s1 (al s2 (al s3 an))))))
 | false =>
  apply bc (purC c)<;>intro k2
  ·exact lP [O] k2 hv (al k2 an)
  apply bc (rightJ ⟨false,re u,re v,re x,i⟩ ↑c.length)<;>intro k3
  ·exact lA [I,O] (by rw [hA,k3]<;>kernel_rfl) hv (al k2 (al k3 an))
  have hR:=hA.trans (show _=true by rw [k3]<;>kernel_rfl)
  have s1:[re u].length≤10:=Nat.le_of_ble_eq_true rfl
  have s2:(Tm.mk 0 0 0 0 []).deep≤100000:=by refine Nat.le_trans (deep_le_size _) ?_;simp only [re_eq,Tm.size,sizes];omega
  have s3:(Tm.mk 8 0 0 0 [Tm.mk 0 0 0 0 [],Tm.mk 0 0 0 0 [],re u]).deep≤100000:=by refine Nat.le_trans (deep_le_size _) ?_;simp only [re_eq,Tm.size,sizes];omega
  apply bd (((re x).k==6))<;>intro k4
  ·apply bd ((i==max (re x).i (re x).j))<;>intro k5
   ·obtain⟨p,q,hk⟩:=two_kids (t:=re x) (right_u k3).2 (Or.inr (by simpa using k4))
    have hx:re x=.mk x.k x.i x.j x.n [re p,re q]:=by
     have hk2:x.kids=[p,q]:=hk
     simp only [re_eq]
     rw [←hk2]
     exact x.eta.symm
    have H:=of9kf_any c n u v i x.k x.i x.j x.n p q (by first | exact k2 | (rw [←hx];exact k2)) (by first | exact k3 | (rw [←hx];exact k3)) (by first | exact k4 | (rw [←hx];exact k4)) (by first | exact k5 | (rw [←hx];exact k5)) (A:=A) (w:=w) (vs:=vs)
    rw [←hx] at H
    exact H hs hv
   exact lT [I,I,O,I] k2 hR hC (by rw [k4,k5]<;>kernel_rfl) hv (al k2 (al k3 (al (bneT k4) (al (bneF k5) (al s1 (al s1 (al s2 (al s3 an))))))))
  exact lT [I,I,I] k2 hR hC (by rw [k4]<;>kernel_rfl) hv (al k2 (al k3 (al (bneF k4) (al s1 (al s1 (al s2 (al s3 an)))))))
set_option maxRecDepth 20000 in
set_option maxHeartbeats 4000000 in
theorem of10_any (c:List En) (n:Int) (e:Bool) (u v x:Tm) (i:Int) (e2:Bool) (u2 v2 x2:Tm) (i2:Int) (hs:Sml c [⟨e,re u,re v,re x,i⟩,⟨e2,re u2,re v2,re x2,i2⟩]) {w:World} {A:Nat→Prop} {vs:List Value} (hv:F2 (ArgDen w A) (aOf c 10 n [⟨e,re u,re v,re x,i⟩,⟨e2,re u2,re v2,re x2,i2⟩]) vs):Calls Try.prog 27 vs.toArray w (GivesO A (ofB c 10 n [⟨e,re u,re v,re x,i⟩,⟨e2,re u2,re v2,re x2,i2⟩]) w):=by
 have hA:allR c.length 10 0 [⟨e,re u,re v,re x,i⟩,⟨e2,re u2,re v2,re x2,i2⟩]=(rightJ ⟨e,re u,re v,re x,i⟩ ↑c.length&&(rightJ ⟨e2,re u2,re v2,re x2,i2⟩ ↑c.length&&true)):=by kernel_rfl
 have hC:concB c n 10 [⟨e,re u,re v,re x,i⟩,⟨e2,re u2,re v2,re x2,i2⟩]=if((!e)&&((!e2)&&((i2==i)&&sameB (re x2) (re x))))=true then some ⟨false,nd 10 i 0 [re x,re u,re u2],.zero,srt i,W64 (i+1)⟩ else none:=by kernel_rfl
 obtain⟨zu,zv,zx⟩:=hs.z
 obtain⟨zu2,zv2,zx2⟩:=hs.tl.z
 cases e with
 | true =>
  apply bc (purC c)<;>intro k0
  ·exact lP [O] k0 hv (al k0 an)
  apply bc (rightJ ⟨true,re u,re v,re x,i⟩ ↑c.length)<;>intro k1
  ·exact lA [I,O] (by rw [hA,k1]<;>kernel_rfl) hv (al k0 (al k1 an))
  apply bc (rightJ ⟨e2,re u2,re v2,re x2,i2⟩ ↑c.length)<;>intro k2
  ·exact lA [I,I,O] (by rw [hA,k1,k2]<;>kernel_rfl) hv (al k0 (al k1 (al k2 an)))
  have hR:=hA.trans (show _=true by rw [k1,k2]<;>kernel_rfl)
  have s1:(Tm.mk 10 i 0 0 [re x,re u,re u2]).size≤10000000:=by simp only [re_eq,Tm.size,sizes];omega
  have s2:(Tm.mk 0 0 0 0 []).size≤10000000:=zs
  have s3:(Tm.mk 1 i 0 0 []).size≤10000000:=by simp only [re_eq,Tm.size,sizes];omega
  exact lT [I,I,I] k0 hR hC (by kernel_rfl) hv (al k0 (al k1 (al k2 an)))
 | false =>
  cases e2 with
  | true =>
   apply bc (purC c)<;>intro k3
   ·exact lP [O] k3 hv (al k3 an)
   apply bc (rightJ ⟨false,re u,re v,re x,i⟩ ↑c.length)<;>intro k4
   ·exact lA [I,O] (by rw [hA,k4]<;>kernel_rfl) hv (al k3 (al k4 an))
   apply bc (rightJ ⟨true,re u2,re v2,re x2,i2⟩ ↑c.length)<;>intro k5
   ·exact lA [I,I,O] (by rw [hA,k4,k5]<;>kernel_rfl) hv (al k3 (al k4 (al k5 an)))
   have hR:=hA.trans (show _=true by rw [k4,k5]<;>kernel_rfl)
   have s1:(Tm.mk 10 i 0 0 [re x,re u,re u2]).size≤10000000:=by simp only [re_eq,Tm.size,sizes];omega
   have s2:(Tm.mk 0 0 0 0 []).size≤10000000:=zs
   have s3:(Tm.mk 1 i 0 0 []).size≤10000000:=by simp only [re_eq,Tm.size,sizes];omega
   exact lT [I,I,I] k3 hR hC (by kernel_rfl) hv (al k3 (al k4 (al k5 an)))
  | false =>
   apply bc (purC c)<;>intro k6
   ·exact lP [O] k6 hv (al k6 an)
   apply bc (rightJ ⟨false,re u,re v,re x,i⟩ ↑c.length)<;>intro k7
   ·exact lA [I,O] (by rw [hA,k7]<;>kernel_rfl) hv (al k6 (al k7 an))
   apply bc (rightJ ⟨false,re u2,re v2,re x2,i2⟩ ↑c.length)<;>intro k8
   ·exact lA [I,I,O] (by rw [hA,k7,k8]<;>kernel_rfl) hv (al k6 (al k7 (al k8 an)))
   have hR:=hA.trans (show _=true by rw [k7,k8]<;>kernel_rfl)
   have s1:(Tm.mk 10 i 0 0 [re x,re u,re u2]).size≤10000000:=by simp only [re_eq,Tm.size,sizes];omega
   have s2:(Tm.mk 0 0 0 0 []).size≤10000000:=zs
   have s3:(Tm.mk 1 i 0 0 []).size≤10000000:=by simp only [re_eq,Tm.size,sizes];omega
   apply bc ((i2==i))<;>intro k9
   ·exact lT [I,I,I,O] k6 hR hC (by rw [k9]<;>kernel_rfl) hv (al k6 (al k7 (al k8 (al k9 an))))
   apply bc (sameB (re x2) (re x))<;>intro k10
   ·exact lT [I,I,I,I,O] k6 hR hC (by rw [k9,k10]<;>kernel_rfl) hv (al k6 (al k7 (al k8 (al k9 (al k10 an)))))
   apply bc (decide (IntKind.i64.wrap (i+1)>1000))<;>intro k11
   ·exact lS [I,I,I,I,I,O] k6 hR hC (by rw [k9,k10]<;>kernel_rfl) (by show(!(decide (W64 (i+1)>1000)||((nd 10 i 0 [re x,re u,re u2]).k==0||((srt i).k==0||(false&&(.zero:Tm).k==0)))))=true;rw [k11]<;>kernel_rfl) hv (al k6 (al k7 (al k8 (al k9 (al k10 (al k11 (al s1 (al s2 (al s3 an)))))))))
   exact lO [I,I,I,I,I,I] k6 hR hC (by show(!(decide (W64 (i+1)>1000)||((nd 10 i 0 [re x,re u,re u2]).k==0||((srt i).k==0||(false&&(.zero:Tm).k==0)))))=false;rw [k11]<;>kernel_rfl) hv (al k6 (al k7 (al k8 (al k9 (al k10 (al k11 an))))))
set_option maxRecDepth 20000 in
set_option maxHeartbeats 4000000 in
theorem of11_any (c:List En) (n:Int) (e:Bool) (u v x:Tm) (i:Int) (hs:Sml c [⟨e,re u,re v,re x,i⟩]) {w:World} {A:Nat→Prop} {vs:List Value} (hv:F2 (ArgDen w A) (aOf c 11 n [⟨e,re u,re v,re x,i⟩]) vs):Calls Try.prog 27 vs.toArray w (GivesO A (ofB c 11 n [⟨e,re u,re v,re x,i⟩]) w):=by
 have hA:allR c.length 11 0 [⟨e,re u,re v,re x,i⟩]=(rightJ ⟨e,re u,re v,re x,i⟩ ↑c.length&&true):=by kernel_rfl
 have hC:concB c n 11 [⟨e,re u,re v,re x,i⟩]=if(!e)=true then some ⟨false,nd 11 i 0 [re x,re u],.zero,nd 10 i 0 [re x,re u,re u],i⟩ else none:=by kernel_rfl
 obtain⟨zu,zv,zx⟩:=hs.z
 cases e with
 | true =>
  apply bc (purC c)<;>intro k0
  ·exact lP [O] k0 hv (al k0 an)
  apply bc (rightJ ⟨true,re u,re v,re x,i⟩ ↑c.length)<;>intro k1
  ·exact lA [I,O] (by rw [hA,k1]<;>kernel_rfl) hv (al k0 (al k1 an))
  have hR:=hA.trans (show _=true by rw [k1]<;>kernel_rfl)
  have s1:(Tm.mk 11 i 0 0 [re x,re u]).size≤10000000:=by simp only [re_eq,Tm.size,sizes];omega
  have s2:(Tm.mk 0 0 0 0 []).size≤10000000:=zs
  have s3:(Tm.mk 10 i 0 0 [re x,re u,re u]).size≤10000000:=by simp only [re_eq,Tm.size,sizes];omega
  exact lT [I,I] k0 hR hC (by kernel_rfl) hv (al k0 (al k1 an))
 | false =>
  apply bc (purC c)<;>intro k2
  ·exact lP [O] k2 hv (al k2 an)
  apply bc (rightJ ⟨false,re u,re v,re x,i⟩ ↑c.length)<;>intro k3
  ·exact lA [I,O] (by rw [hA,k3]<;>kernel_rfl) hv (al k2 (al k3 an))
  have hR:=hA.trans (show _=true by rw [k3]<;>kernel_rfl)
  have s1:(Tm.mk 11 i 0 0 [re x,re u]).size≤10000000:=by simp only [re_eq,Tm.size,sizes];omega
  have s2:(Tm.mk 0 0 0 0 []).size≤10000000:=zs
  have s3:(Tm.mk 10 i 0 0 [re x,re u,re u]).size≤10000000:=by simp only [re_eq,Tm.size,sizes];omega
  apply bc (decide (i>1000))<;>intro k4
  ·exact lS [I,I,O] k2 hR hC (by kernel_rfl) (by show(!(decide (i>1000)||((nd 11 i 0 [re x,re u]).k==0||((nd 10 i 0 [re x,re u,re u]).k==0||(false&&(.zero:Tm).k==0)))))=true;rw [k4]<;>kernel_rfl) hv (al k2 (al k3 (al k4 (al s1 (al s2 (al s3 an))))))
  exact lO [I,I,I] k2 hR hC (by show(!(decide (i>1000)||((nd 11 i 0 [re x,re u]).k==0||((nd 10 i 0 [re x,re u,re u]).k==0||(false&&(.zero:Tm).k==0)))))=false;rw [k4]<;>kernel_rfl) hv (al k2 (al k3 (al k4 an)))
set_option maxRecDepth 20000 in
set_option maxHeartbeats 4000000 in
theorem of12_any (c:List En) (n:Int) (e:Bool) (u v x:Tm) (i:Int) (e2:Bool) (u2 v2 x2:Tm) (i2:Int) (hs:Sml c [⟨e,re u,re v,re x,i⟩,⟨e2,re u2,re v2,re x2,i2⟩]) {w:World} {A:Nat→Prop} {vs:List Value} (hv:F2 (ArgDen w A) (aOf c 12 n [⟨e,re u,re v,re x,i⟩,⟨e2,re u2,re v2,re x2,i2⟩]) vs):Calls Try.prog 27 vs.toArray w (GivesO A (ofB c 12 n [⟨e,re u,re v,re x,i⟩,⟨e2,re u2,re v2,re x2,i2⟩]) w):=by
 have hA:allR c.length 12 0 [⟨e,re u,re v,re x,i⟩,⟨e2,re u2,re v2,re x2,i2⟩]=(rightJ ⟨e,re u,re v,re x,i⟩ ↑c.length&&(rightJ ⟨e2,re u2,re v2,re x2,i2⟩ ↑c.length&&true)):=by kernel_rfl
 have hC:concB c n 12 [⟨e,re u,re v,re x,i⟩,⟨e2,re u2,re v2,re x2,i2⟩]=if((!e)&&((e2&&(((re x2).k==1)&&(i2==W64 ((re x2).i+1))))&&(((re x2).i==i)&&sameB (re x) (re u2))))=true then some ⟨false,re u,.zero,re v2,i⟩ else none:=by kernel_rfl
 obtain⟨zu,zv,zx⟩:=hs.z
 obtain⟨zu2,zv2,zx2⟩:=hs.tl.z
 cases e with
 | true =>
  apply bc (purC c)<;>intro k0
  ·exact lP [O] k0 hv (al k0 an)
  apply bc (rightJ ⟨true,re u,re v,re x,i⟩ ↑c.length)<;>intro k1
  ·exact lA [I,O] (by rw [hA,k1]<;>kernel_rfl) hv (al k0 (al k1 an))
  apply bc (rightJ ⟨e2,re u2,re v2,re x2,i2⟩ ↑c.length)<;>intro k2
  ·exact lA [I,I,O] (by rw [hA,k1,k2]<;>kernel_rfl) hv (al k0 (al k1 (al k2 an)))
  have hR:=hA.trans (show _=true by rw [k1,k2]<;>kernel_rfl)
  have s1:(re u).size≤10000000:=sz1 zu
  have s2:(Tm.mk 0 0 0 0 []).size≤10000000:=zs
  have s3:(re v2).size≤10000000:=sz1 zv2
  exact lT [I,I,I] k0 hR hC (by kernel_rfl) hv (al k0 (al k1 (al k2 an)))
 | false =>
  cases e2 with
  | true =>
   apply bc (purC c)<;>intro k3
   ·exact lP [O] k3 hv (al k3 an)
   apply bc (rightJ ⟨false,re u,re v,re x,i⟩ ↑c.length)<;>intro k4
   ·exact lA [I,O] (by rw [hA,k4]<;>kernel_rfl) hv (al k3 (al k4 an))
   apply bc (rightJ ⟨true,re u2,re v2,re x2,i2⟩ ↑c.length)<;>intro k5
   ·exact lA [I,I,O] (by rw [hA,k4,k5]<;>kernel_rfl) hv (al k3 (al k4 (al k5 an)))
   have hR:=hA.trans (show _=true by rw [k4,k5]<;>kernel_rfl)
   have s1:(re u).size≤10000000:=sz1 zu
   have s2:(Tm.mk 0 0 0 0 []).size≤10000000:=zs
   have s3:(re v2).size≤10000000:=sz1 zv2
   apply bc (((re x2).k==1))<;>intro k6
   ·exact lT [I,I,I,O] k3 hR hC (by rw [k6]<;>kernel_rfl) hv (al k3 (al k4 (al k5 (al k6 an))))
   apply bc ((i2==IntKind.i64.wrap ((re x2).i+1)))<;>intro k7
   ·exact lT [I,I,I,I,O] k3 hR hC (by rw [k6,k7]<;>kernel_rfl) hv (al k3 (al k4 (al k5 (al k6 (al k7 an)))))
   apply bc (((re x2).i==i))<;>intro k8
   ·exact lT [I,I,I,I,I,O] k3 hR hC (by rw [k6,k7,k8]<;>kernel_rfl) hv (al k3 (al k4 (al k5 (al k6 (al k7 (al k8 an))))))
   apply bc (sameB (re x) (re u2))<;>intro k9
   ·exact lT [I,I,I,I,I,I,O] k3 hR hC (by rw [k6,k7,k8,k9]<;>kernel_rfl) hv (al k3 (al k4 (al k5 (al k6 (al k7 (al k8 (al k9 an)))))))
   apply bc (decide (i>1000))<;>intro k10
   ·apply bc (((re u).k==0))<;>intro k11
    ·apply bc (((re v2).k==0))<;>intro k12
     ·exact lS [I,I,I,I,I,I,I,O,O,O] k3 hR hC (by rw [k6,k7,k8,k9]<;>kernel_rfl) (by show(!(decide (i>1000)||((re u).k==0||((re v2).k==0||(false&&(.zero:Tm).k==0)))))=true;rw [k10,k11,k12]<;>kernel_rfl) hv (al k3 (al k4 (al k5 (al k6 (al k7 (al k8 (al k9 (al k10 (al k11 (al k12 (al s1 (al s2 (al s3 an)))))))))))))
     exact lO [I,I,I,I,I,I,I,O,O,I] k3 hR hC (by show(!(decide (i>1000)||((re u).k==0||((re v2).k==0||(false&&(.zero:Tm).k==0)))))=false;rw [k10,k11,k12]<;>kernel_rfl) hv (al k3 (al k4 (al k5 (al k6 (al k7 (al k8 (al k9 (al k10 (al k11 (al k12 an))))))))))
    exact lO [I,I,I,I,I,I,I,O,I] k3 hR hC (by show(!(decide (i>1000)||((re u).k==0||((re v2).k==0||(false&&(.zero:Tm).k==0)))))=false;rw [k10,k11]<;>kernel_rfl) hv (al k3 (al k4 (al k5 (al k6 (al k7 (al k8 (al k9 (al k10 (al k11 an)))))))))
   exact lO [I,I,I,I,I,I,I,I] k3 hR hC (by show(!(decide (i>1000)||((re u).k==0||((re v2).k==0||(false&&(.zero:Tm).k==0)))))=false;rw [k10]<;>kernel_rfl) hv (al k3 (al k4 (al k5 (al k6 (al k7 (al k8 (al k9 (al k10 an))))))))
  | false =>
   apply bc (purC c)<;>intro k13
   ·exact lP [O] k13 hv (al k13 an)
   apply bc (rightJ ⟨false,re u,re v,re x,i⟩ ↑c.length)<;>intro k14
   ·exact lA [I,O] (by rw [hA,k14]<;>kernel_rfl) hv (al k13 (al k14 an))
   apply bc (rightJ ⟨false,re u2,re v2,re x2,i2⟩ ↑c.length)<;>intro k15
   ·exact lA [I,I,O] (by rw [hA,k14,k15]<;>kernel_rfl) hv (al k13 (al k14 (al k15 an)))
   have hR:=hA.trans (show _=true by rw [k14,k15]<;>kernel_rfl)
   have s1:(re u).size≤10000000:=sz1 zu
   have s2:(Tm.mk 0 0 0 0 []).size≤10000000:=zs
   have s3:(re v2).size≤10000000:=sz1 zv2
   exact lT [I,I,I] k13 hR hC (by kernel_rfl) hv (al k13 (al k14 (al k15 an)))
set_option maxRecDepth 20000 in
set_option maxHeartbeats 4000000 in
theorem of13_any (c:List En) (n:Int) (e:Bool) (u v x:Tm) (i:Int) (hs:Sml c [⟨e,re u,re v,re x,i⟩]) {w:World} {A:Nat→Prop} {vs:List Value} (hv:F2 (ArgDen w A) (aOf c 13 n [⟨e,re u,re v,re x,i⟩]) vs):Calls Try.prog 27 vs.toArray w (GivesO A (ofB c 13 n [⟨e,re u,re v,re x,i⟩]) w):=by
 have hA:allR c.length 13 0 [⟨e,re u,re v,re x,i⟩]=(rightJ ⟨e,re u,re v,re x,i⟩ ↑c.length&&true):=by kernel_rfl
 have hC:concB c n 13 [⟨e,re u,re v,re x,i⟩]=if(!e)=true then some ⟨true,re u,re u,re x,i⟩ else none:=by kernel_rfl
 obtain⟨zu,zv,zx⟩:=hs.z
 cases e with
 | true =>
  apply bc (purC c)<;>intro k0
  ·exact lP [O] k0 hv (al k0 an)
  apply bc (rightJ ⟨true,re u,re v,re x,i⟩ ↑c.length)<;>intro k1
  ·exact lA [I,O] (by rw [hA,k1]<;>kernel_rfl) hv (al k0 (al k1 an))
  have hR:=hA.trans (show _=true by rw [k1]<;>kernel_rfl)
  have s1:(re u).size≤10000000:=sz1 zu
  have s2:(re x).size≤10000000:=sz1 zx
  exact lT [I,I] k0 hR hC (by kernel_rfl) hv (al k0 (al k1 an))
 | false =>
  apply bc (purC c)<;>intro k2
  ·exact lP [O] k2 hv (al k2 an)
  apply bc (rightJ ⟨false,re u,re v,re x,i⟩ ↑c.length)<;>intro k3
  ·exact lA [I,O] (by rw [hA,k3]<;>kernel_rfl) hv (al k2 (al k3 an))
  have hR:=hA.trans (show _=true by rw [k3]<;>kernel_rfl)
  have s1:(re u).size≤10000000:=sz1 zu
  have s2:(re x).size≤10000000:=sz1 zx
  apply bc (decide (i>1000))<;>intro k4
  ·apply bc (((re u).k==0))<;>intro k5
   ·apply bc (((re x).k==0))<;>intro k6
    ·exact lS [I,I,O,O,O,O] k2 hR hC (by kernel_rfl) (by show(!(decide (i>1000)||((re u).k==0||((re x).k==0||(true&&(re u).k==0)))))=true;rw [k4,k5,k6]<;>kernel_rfl) hv (al k2 (al k3 (al k4 (al k5 (al k6 (al k5 (al s1 (al s1 (al s2 an)))))))))
    exact lO [I,I,O,O,I] k2 hR hC (by show(!(decide (i>1000)||((re u).k==0||((re x).k==0||(true&&(re u).k==0)))))=false;rw [k4,k5,k6]<;>kernel_rfl) hv (al k2 (al k3 (al k4 (al k5 (al k6 an)))))
   exact lO [I,I,O,I] k2 hR hC (by show(!(decide (i>1000)||((re u).k==0||((re x).k==0||(true&&(re u).k==0)))))=false;rw [k4,k5]<;>kernel_rfl) hv (al k2 (al k3 (al k4 (al k5 an))))
  exact lO [I,I,I] k2 hR hC (by show(!(decide (i>1000)||((re u).k==0||((re x).k==0||(true&&(re u).k==0)))))=false;rw [k4]<;>kernel_rfl) hv (al k2 (al k3 (al k4 an)))
end Go.Proofs.Ytgnllglbopaheaa.Se

namespace Go.Proofs.Ytgnllglbopaheaa.Se
open Go Go.RowKit
set_option linter.unusedSimpArgs false
set_option maxRecDepth 20000 in
set_option maxHeartbeats 4000000 in
theorem of14_any (c:List En) (n:Int) (e:Bool) (u v x:Tm) (i:Int) (hs:Sml c [⟨e,re u,re v,re x,i⟩]) {w:World} {A:Nat→Prop} {vs:List Value} (hv:F2 (ArgDen w A) (aOf c 14 n [⟨e,re u,re v,re x,i⟩]) vs):Calls Try.prog 27 vs.toArray w (GivesO A (ofB c 14 n [⟨e,re u,re v,re x,i⟩]) w):=by
 have hA:allR c.length 14 0 [⟨e,re u,re v,re x,i⟩]=(rightJ ⟨e,re u,re v,re x,i⟩ ↑c.length&&true):=by kernel_rfl
 have hC:concB c n 14 [⟨e,re u,re v,re x,i⟩]=if e=true then some ⟨true,re v,re u,re x,i⟩ else none:=by kernel_rfl
 obtain⟨zu,zv,zx⟩:=hs.z
 cases e with
 | true =>
  apply bc (purC c)<;>intro k0
  ·exact lP [O] k0 hv (al k0 an)
  apply bc (rightJ ⟨true,re u,re v,re x,i⟩ ↑c.length)<;>intro k1
  ·exact lA [I,O] (by rw [hA,k1]<;>kernel_rfl) hv (al k0 (al k1 an))
  have hR:=hA.trans (show _=true by rw [k1]<;>kernel_rfl)
  have s1:(re v).size≤10000000:=sz1 zv
  have s2:(re u).size≤10000000:=sz1 zu
  have s3:(re x).size≤10000000:=sz1 zx
  apply bc (decide (i>1000))<;>intro k2
  ·apply bc (((re v).k==0))<;>intro k3
   ·apply bc (((re x).k==0))<;>intro k4
    ·apply bc (((re u).k==0))<;>intro k5
     ·exact lS [I,I,O,O,O,O] k0 hR hC (by kernel_rfl) (by show(!(decide (i>1000)||((re v).k==0||((re x).k==0||(true&&(re u).k==0)))))=true;rw [k2,k3,k4,k5]<;>kernel_rfl) hv (al k0 (al k1 (al k2 (al k3 (al k4 (al k5 (al s1 (al s2 (al s3 an)))))))))
     exact lO [I,I,O,O,O,I] k0 hR hC (by show(!(decide (i>1000)||((re v).k==0||((re x).k==0||(true&&(re u).k==0)))))=false;rw [k2,k3,k4,k5]<;>kernel_rfl) hv (al k0 (al k1 (al k2 (al k3 (al k4 (al k5 an))))))
    exact lO [I,I,O,O,I] k0 hR hC (by show(!(decide (i>1000)||((re v).k==0||((re x).k==0||(true&&(re u).k==0)))))=false;rw [k2,k3,k4]<;>kernel_rfl) hv (al k0 (al k1 (al k2 (al k3 (al k4 an)))))
   exact lO [I,I,O,I] k0 hR hC (by show(!(decide (i>1000)||((re v).k==0||((re x).k==0||(true&&(re u).k==0)))))=false;rw [k2,k3]<;>kernel_rfl) hv (al k0 (al k1 (al k2 (al k3 an))))
  exact lO [I,I,I] k0 hR hC (by show(!(decide (i>1000)||((re v).k==0||((re x).k==0||(true&&(re u).k==0)))))=false;rw [k2]<;>kernel_rfl) hv (al k0 (al k1 (al k2 an)))
 | false =>
  apply bc (purC c)<;>intro k6
  ·exact lP [O] k6 hv (al k6 an)
  apply bc (rightJ ⟨false,re u,re v,re x,i⟩ ↑c.length)<;>intro k7
  ·exact lA [I,O] (by rw [hA,k7]<;>kernel_rfl) hv (al k6 (al k7 an))
  have hR:=hA.trans (show _=true by rw [k7]<;>kernel_rfl)
  have s1:(re v).size≤10000000:=sz1 zv
  have s2:(re u).size≤10000000:=sz1 zu
  have s3:(re x).size≤10000000:=sz1 zx
  exact lT [I,I] k6 hR hC (by kernel_rfl) hv (al k6 (al k7 an))
set_option maxRecDepth 20000 in
set_option maxHeartbeats 4000000 in
theorem of15_any (c:List En) (n:Int) (e:Bool) (u v x:Tm) (i:Int) (e2:Bool) (u2 v2 x2:Tm) (i2:Int) (hs:Sml c [⟨e,re u,re v,re x,i⟩,⟨e2,re u2,re v2,re x2,i2⟩]) {w:World} {A:Nat→Prop} {vs:List Value} (hv:F2 (ArgDen w A) (aOf c 15 n [⟨e,re u,re v,re x,i⟩,⟨e2,re u2,re v2,re x2,i2⟩]) vs):Calls Try.prog 27 vs.toArray w (GivesO A (ofB c 15 n [⟨e,re u,re v,re x,i⟩,⟨e2,re u2,re v2,re x2,i2⟩]) w):=by
 have hA:allR c.length 15 0 [⟨e,re u,re v,re x,i⟩,⟨e2,re u2,re v2,re x2,i2⟩]=(rightJ ⟨e,re u,re v,re x,i⟩ ↑c.length&&(rightJ ⟨e2,re u2,re v2,re x2,i2⟩ ↑c.length&&true)):=by kernel_rfl
 have hC:concB c n 15 [⟨e,re u,re v,re x,i⟩,⟨e2,re u2,re v2,re x2,i2⟩]=if(e&&(e2&&((i==i2)&&(sameB (re v) (re u2)&&sameB (re x) (re x2)))))=true then some ⟨true,re u,re v2,re x,i⟩ else none:=by kernel_rfl
 obtain⟨zu,zv,zx⟩:=hs.z
 obtain⟨zu2,zv2,zx2⟩:=hs.tl.z
 cases e with
 | true =>
  cases e2 with
  | true =>
   apply bc (purC c)<;>intro k0
   ·exact lP [O] k0 hv (al k0 an)
   apply bc (rightJ ⟨true,re u,re v,re x,i⟩ ↑c.length)<;>intro k1
   ·exact lA [I,O] (by rw [hA,k1]<;>kernel_rfl) hv (al k0 (al k1 an))
   apply bc (rightJ ⟨true,re u2,re v2,re x2,i2⟩ ↑c.length)<;>intro k2
   ·exact lA [I,I,O] (by rw [hA,k1,k2]<;>kernel_rfl) hv (al k0 (al k1 (al k2 an)))
   have hR:=hA.trans (show _=true by rw [k1,k2]<;>kernel_rfl)
   have s1:(re u).size≤10000000:=sz1 zu
   have s2:(re v2).size≤10000000:=sz1 zv2
   have s3:(re x).size≤10000000:=sz1 zx
   apply bc ((i==i2))<;>intro k3
   ·exact lT [I,I,I,O] k0 hR hC (by rw [k3]<;>kernel_rfl) hv (al k0 (al k1 (al k2 (al k3 an))))
   apply bc (sameB (re v) (re u2))<;>intro k4
   ·exact lT [I,I,I,I,O] k0 hR hC (by rw [k3,k4]<;>kernel_rfl) hv (al k0 (al k1 (al k2 (al k3 (al k4 an)))))
   apply bc (sameB (re x) (re x2))<;>intro k5
   ·exact lT [I,I,I,I,I,O] k0 hR hC (by rw [k3,k4,k5]<;>kernel_rfl) hv (al k0 (al k1 (al k2 (al k3 (al k4 (al k5 an))))))
   apply bc (decide (i>1000))<;>intro k6
   ·apply bc (((re u).k==0))<;>intro k7
    ·apply bc (((re x).k==0))<;>intro k8
     ·apply bc (((re v2).k==0))<;>intro k9
      ·exact lS [I,I,I,I,I,I,O,O,O,O] k0 hR hC (by rw [k3,k4,k5]<;>kernel_rfl) (by show(!(decide (i>1000)||((re u).k==0||((re x).k==0||(true&&(re v2).k==0)))))=true;rw [k6,k7,k8,k9]<;>kernel_rfl) hv (al k0 (al k1 (al k2 (al k3 (al k4 (al k5 (al k6 (al k7 (al k8 (al k9 (al s1 (al s2 (al s3 an)))))))))))))
      exact lO [I,I,I,I,I,I,O,O,O,I] k0 hR hC (by show(!(decide (i>1000)||((re u).k==0||((re x).k==0||(true&&(re v2).k==0)))))=false;rw [k6,k7,k8,k9]<;>kernel_rfl) hv (al k0 (al k1 (al k2 (al k3 (al k4 (al k5 (al k6 (al k7 (al k8 (al k9 an))))))))))
     exact lO [I,I,I,I,I,I,O,O,I] k0 hR hC (by show(!(decide (i>1000)||((re u).k==0||((re x).k==0||(true&&(re v2).k==0)))))=false;rw [k6,k7,k8]<;>kernel_rfl) hv (al k0 (al k1 (al k2 (al k3 (al k4 (al k5 (al k6 (al k7 (al k8 an)))))))))
    exact lO [I,I,I,I,I,I,O,I] k0 hR hC (by show(!(decide (i>1000)||((re u).k==0||((re x).k==0||(true&&(re v2).k==0)))))=false;rw [k6,k7]<;>kernel_rfl) hv (al k0 (al k1 (al k2 (al k3 (al k4 (al k5 (al k6 (al k7 an))))))))
   exact lO [I,I,I,I,I,I,I] k0 hR hC (by show(!(decide (i>1000)||((re u).k==0||((re x).k==0||(true&&(re v2).k==0)))))=false;rw [k6]<;>kernel_rfl) hv (al k0 (al k1 (al k2 (al k3 (al k4 (al k5 (al k6 an)))))))
  | false =>
   apply bc (purC c)<;>intro k10
   ·exact lP [O] k10 hv (al k10 an)
   apply bc (rightJ ⟨true,re u,re v,re x,i⟩ ↑c.length)<;>intro k11
   ·exact lA [I,O] (by rw [hA,k11]<;>kernel_rfl) hv (al k10 (al k11 an))
   apply bc (rightJ ⟨false,re u2,re v2,re x2,i2⟩ ↑c.length)<;>intro k12
   ·exact lA [I,I,O] (by rw [hA,k11,k12]<;>kernel_rfl) hv (al k10 (al k11 (al k12 an)))
   have hR:=hA.trans (show _=true by rw [k11,k12]<;>kernel_rfl)
   have s1:(re u).size≤10000000:=sz1 zu
   have s2:(re v2).size≤10000000:=sz1 zv2
   have s3:(re x).size≤10000000:=sz1 zx
   exact lT [I,I,I] k10 hR hC (by kernel_rfl) hv (al k10 (al k11 (al k12 an)))
 | false =>
  apply bc (purC c)<;>intro k13
  ·exact lP [O] k13 hv (al k13 an)
  apply bc (rightJ ⟨false,re u,re v,re x,i⟩ ↑c.length)<;>intro k14
  ·exact lA [I,O] (by rw [hA,k14]<;>kernel_rfl) hv (al k13 (al k14 an))
  apply bc (rightJ ⟨e2,re u2,re v2,re x2,i2⟩ ↑c.length)<;>intro k15
  ·exact lA [I,I,O] (by rw [hA,k14,k15]<;>kernel_rfl) hv (al k13 (al k14 (al k15 an)))
  have hR:=hA.trans (show _=true by rw [k14,k15]<;>kernel_rfl)
  have s1:(re u).size≤10000000:=sz1 zu
  have s2:(re v2).size≤10000000:=sz1 zv2
  have s3:(re x).size≤10000000:=sz1 zx
  exact lT [I,I,I] k13 hR hC (by kernel_rfl) hv (al k13 (al k14 (al k15 an)))
set_option maxRecDepth 20000 in
set_option maxHeartbeats 4000000 in
theorem of16_any (c:List En) (n:Int) (e:Bool) (u v x:Tm) (i:Int) (e2:Bool) (u2 v2 x2:Tm) (i2:Int) (hs:Sml c [⟨e,re u,re v,re x,i⟩,⟨e2,re u2,re v2,re x2,i2⟩]) {w:World} {A:Nat→Prop} {vs:List Value} (hv:F2 (ArgDen w A) (aOf c 16 n [⟨e,re u,re v,re x,i⟩,⟨e2,re u2,re v2,re x2,i2⟩]) vs):Calls Try.prog 27 vs.toArray w (GivesO A (ofB c 16 n [⟨e,re u,re v,re x,i⟩,⟨e2,re u2,re v2,re x2,i2⟩]) w):=by
 have hA:allR c.length 16 0 [⟨e,re u,re v,re x,i⟩,⟨e2,re u2,re v2,re x2,i2⟩]=(rightJ ⟨e,re u,re v,re x,i⟩ ↑c.length&&(rightJ ⟨e2,re u2,re v2,re x2,i2⟩ ↑c.length&&true)):=by kernel_rfl
 have hC:concB c n 16 [⟨e,re u,re v,re x,i⟩,⟨e2,re u2,re v2,re x2,i2⟩]=if(e&&((e2&&(((re x2).k==1)&&(i2==W64 ((re x2).i+1))))&&(((re x2).i==i)&&sameB (re x) (re u2))))=true then some ⟨true,re u,re v,re v2,i⟩ else none:=by kernel_rfl
 obtain⟨zu,zv,zx⟩:=hs.z
 obtain⟨zu2,zv2,zx2⟩:=hs.tl.z
 cases e with
 | true =>
  cases e2 with
  | true =>
   apply bc (purC c)<;>intro k0
   ·exact lP [O] k0 hv (al k0 an)
   apply bc (rightJ ⟨true,re u,re v,re x,i⟩ ↑c.length)<;>intro k1
   ·exact lA [I,O] (by rw [hA,k1]<;>kernel_rfl) hv (al k0 (al k1 an))
   apply bc (rightJ ⟨true,re u2,re v2,re x2,i2⟩ ↑c.length)<;>intro k2
   ·exact lA [I,I,O] (by rw [hA,k1,k2]<;>kernel_rfl) hv (al k0 (al k1 (al k2 an)))
   have hR:=hA.trans (show _=true by rw [k1,k2]<;>kernel_rfl)
   have s1:(re u).size≤10000000:=sz1 zu
   have s2:(re v).size≤10000000:=sz1 zv
   have s3:(re v2).size≤10000000:=sz1 zv2
   apply bc (((re x2).k==1))<;>intro k3
   ·exact lT [I,I,I,O] k0 hR hC (by rw [k3]<;>kernel_rfl) hv (al k0 (al k1 (al k2 (al k3 an))))
   apply bc ((i2==IntKind.i64.wrap ((re x2).i+1)))<;>intro k4
   ·exact lT [I,I,I,I,O] k0 hR hC (by rw [k3,k4]<;>kernel_rfl) hv (al k0 (al k1 (al k2 (al k3 (al k4 an)))))
   apply bc (((re x2).i==i))<;>intro k5
   ·exact lT [I,I,I,I,I,O] k0 hR hC (by rw [k3,k4,k5]<;>kernel_rfl) hv (al k0 (al k1 (al k2 (al k3 (al k4 (al k5 an))))))
   apply bc (sameB (re x) (re u2))<;>intro k6
   ·exact lT [I,I,I,I,I,I,O] k0 hR hC (by rw [k3,k4,k5,k6]<;>kernel_rfl) hv (al k0 (al k1 (al k2 (al k3 (al k4 (al k5 (al k6 an)))))))
   apply bc (decide (i>1000))<;>intro k7
   ·apply bc (((re u).k==0))<;>intro k8
    ·apply bc (((re v2).k==0))<;>intro k9
     ·apply bc (((re v).k==0))<;>intro k10
      ·exact lS [I,I,I,I,I,I,I,O,O,O,O] k0 hR hC (by rw [k3,k4,k5,k6]<;>kernel_rfl) (by show(!(decide (i>1000)||((re u).k==0||((re v2).k==0||(true&&(re v).k==0)))))=true;rw [k7,k8,k9,k10]<;>kernel_rfl) hv (al k0 (al k1 (al k2 (al k3 (al k4 (al k5 (al k6 (al k7 (al k8 (al k9 (al k10 (al s1 (al s2 (al s3 an))))))))))))))
      exact lO [I,I,I,I,I,I,I,O,O,O,I] k0 hR hC (by show(!(decide (i>1000)||((re u).k==0||((re v2).k==0||(true&&(re v).k==0)))))=false;rw [k7,k8,k9,k10]<;>kernel_rfl) hv (al k0 (al k1 (al k2 (al k3 (al k4 (al k5 (al k6 (al k7 (al k8 (al k9 (al k10 an)))))))))))
     exact lO [I,I,I,I,I,I,I,O,O,I] k0 hR hC (by show(!(decide (i>1000)||((re u).k==0||((re v2).k==0||(true&&(re v).k==0)))))=false;rw [k7,k8,k9]<;>kernel_rfl) hv (al k0 (al k1 (al k2 (al k3 (al k4 (al k5 (al k6 (al k7 (al k8 (al k9 an))))))))))
    exact lO [I,I,I,I,I,I,I,O,I] k0 hR hC (by show(!(decide (i>1000)||((re u).k==0||((re v2).k==0||(true&&(re v).k==0)))))=false;rw [k7,k8]<;>kernel_rfl) hv (al k0 (al k1 (al k2 (al k3 (al k4 (al k5 (al k6 (al k7 (al k8 an)))))))))
   exact lO [I,I,I,I,I,I,I,I] k0 hR hC (by show(!(decide (i>1000)||((re u).k==0||((re v2).k==0||(true&&(re v).k==0)))))=false;rw [k7]<;>kernel_rfl) hv (al k0 (al k1 (al k2 (al k3 (al k4 (al k5 (al k6 (al k7 an))))))))
  | false =>
   apply bc (purC c)<;>intro k11
   ·exact lP [O] k11 hv (al k11 an)
   apply bc (rightJ ⟨true,re u,re v,re x,i⟩ ↑c.length)<;>intro k12
   ·exact lA [I,O] (by rw [hA,k12]<;>kernel_rfl) hv (al k11 (al k12 an))
   apply bc (rightJ ⟨false,re u2,re v2,re x2,i2⟩ ↑c.length)<;>intro k13
   ·exact lA [I,I,O] (by rw [hA,k12,k13]<;>kernel_rfl) hv (al k11 (al k12 (al k13 an)))
   have hR:=hA.trans (show _=true by rw [k12,k13]<;>kernel_rfl)
   have s1:(re u).size≤10000000:=sz1 zu
   have s2:(re v).size≤10000000:=sz1 zv
   have s3:(re v2).size≤10000000:=sz1 zv2
   exact lT [I,I,I] k11 hR hC (by kernel_rfl) hv (al k11 (al k12 (al k13 an)))
 | false =>
  apply bc (purC c)<;>intro k14
  ·exact lP [O] k14 hv (al k14 an)
  apply bc (rightJ ⟨false,re u,re v,re x,i⟩ ↑c.length)<;>intro k15
  ·exact lA [I,O] (by rw [hA,k15]<;>kernel_rfl) hv (al k14 (al k15 an))
  apply bc (rightJ ⟨e2,re u2,re v2,re x2,i2⟩ ↑c.length)<;>intro k16
  ·exact lA [I,I,O] (by rw [hA,k15,k16]<;>kernel_rfl) hv (al k14 (al k15 (al k16 an)))
  have hR:=hA.trans (show _=true by rw [k15,k16]<;>kernel_rfl)
  have s1:(re u).size≤10000000:=sz1 zu
  have s2:(re v).size≤10000000:=sz1 zv
  have s3:(re v2).size≤10000000:=sz1 zv2
  exact lT [I,I,I] k14 hR hC (by kernel_rfl) hv (al k14 (al k15 (al k16 an)))
set_option maxRecDepth 20000 in
set_option maxHeartbeats 4000000 in
theorem of17kf_any (c:List En) (n:Int) (u v:Tm) (i:Int) (xk xi xj xn:Int) (p q s:Tm) (k100:purC c=true) (k101:rightJ {eq:=false,u:=re u,v:=re v,a:=Tm.mk xk xi xj xn [re p,re q,re s],i:=i} ↑c.length=true) (k102:(xk==10)=true) (k103:(xi==i)=true) (hs:Sml c [⟨false,re u,re v,.mk xk xi xj xn [re p,re q,re s],i⟩]) {w:World} {A:Nat→Prop} {vs:List Value} (hv:F2 (ArgDen w A) (aOf c 17 n [⟨false,re u,re v,.mk xk xi xj xn [re p,re q,re s],i⟩]) vs):Calls Try.prog 27 vs.toArray w (GivesO A (ofB c 17 n [⟨false,re u,re v,.mk xk xi xj xn [re p,re q,re s],i⟩]) w):=by
 have hA:allR c.length 17 0 [⟨false,re u,re v,.mk xk xi xj xn [re p,re q,re s],i⟩]=(rightJ ⟨false,re u,re v,.mk xk xi xj xn [re p,re q,re s],i⟩ ↑c.length&&true):=by kernel_rfl
 have hC:concB c n 17 [⟨false,re u,re v,.mk xk xi xj xn [re p,re q,re s],i⟩]=if((!false)&&((xk==10)&&(xi==i)))=true then some ⟨true,re q,re s,re p,i⟩ else none:=by kernel_rfl
 have zu:(re u).size≤1000:=(hs.js _ (List.mem_cons_self ..)).1
 have zx:(.mk xk xi xj xn [re p,re q,re s]:Tm).size≤1000:=(hs.js _ (List.mem_cons_self ..)).2.2
 rw [re_eq] at zu
 simp only [Tm.size,sizes,re_eq] at zx
 have hR:=hA.trans (show _=true by rw [k101]<;>kernel_rfl)
 have s1:(re q).size≤10000000:=by simp only [re_eq,Tm.size,sizes];omega
 have s2:(re s).size≤10000000:=by simp only [re_eq,Tm.size,sizes];omega
 have s3:(re p).size≤10000000:=by simp only [re_eq,Tm.size,sizes];omega
 apply bc (decide (i>1000))<;>intro k6
 ·apply bc (((re q).k==0))<;>intro k7
  ·apply bc (((re p).k==0))<;>intro k8
   ·apply bc (((re s).k==0))<;>intro k9
    ·exact lS [I,I,I,I,O,O,O,O] k100 hR hC (by rw [k102,k103]<;>kernel_rfl) (by show(!(decide (i>1000)||((re q).k==0||((re p).k==0||(true&&(re s).k==0)))))=true;rw [k6,k7,k8,k9]<;>kernel_rfl) hv (al k100 (al k101 (al k102 (al k103 (al k6 (al k7 (al k8 (al k9 (al s1 (al s2 (al s3 an)))))))))))
    exact lO [I,I,I,I,O,O,O,I] k100 hR hC (by show(!(decide (i>1000)||((re q).k==0||((re p).k==0||(true&&(re s).k==0)))))=false;rw [k6,k7,k8,k9]<;>kernel_rfl) hv (al k100 (al k101 (al k102 (al k103 (al k6 (al k7 (al k8 (al k9 an))))))))
   exact lO [I,I,I,I,O,O,I] k100 hR hC (by show(!(decide (i>1000)||((re q).k==0||((re p).k==0||(true&&(re s).k==0)))))=false;rw [k6,k7,k8]<;>kernel_rfl) hv (al k100 (al k101 (al k102 (al k103 (al k6 (al k7 (al k8 an)))))))
  exact lO [I,I,I,I,O,I] k100 hR hC (by show(!(decide (i>1000)||((re q).k==0||((re p).k==0||(true&&(re s).k==0)))))=false;rw [k6,k7]<;>kernel_rfl) hv (al k100 (al k101 (al k102 (al k103 (al k6 (al k7 an))))))
 exact lO [I,I,I,I,I] k100 hR hC (by show(!(decide (i>1000)||((re q).k==0||((re p).k==0||(true&&(re s).k==0)))))=false;rw [k6]<;>kernel_rfl) hv (al k100 (al k101 (al k102 (al k103 (al k6 an)))))
set_option maxRecDepth 20000 in
set_option maxHeartbeats 4000000 in
theorem of17_any (c:List En) (n:Int) (e:Bool) (u v x:Tm) (i:Int) (hs:Sml c [⟨e,re u,re v,re x,i⟩]) {w:World} {A:Nat→Prop} {vs:List Value} (hv:F2 (ArgDen w A) (aOf c 17 n [⟨e,re u,re v,re x,i⟩]) vs):Calls Try.prog 27 vs.toArray w (GivesO A (ofB c 17 n [⟨e,re u,re v,re x,i⟩]) w):=by
 have hA:allR c.length 17 0 [⟨e,re u,re v,re x,i⟩]=(rightJ ⟨e,re u,re v,re x,i⟩ ↑c.length&&true):=by kernel_rfl
 have hC:concB c n 17 [⟨e,re u,re v,re x,i⟩]=if((!e)&&(((re x).k==10)&&((re x).i==i)))=true then some ⟨true,kd (re x) 1,kd (re x) 2,kd (re x) 0,i⟩ else none:=by kernel_rfl
 obtain⟨zu,zv,zx⟩:=hs.z
 cases e with
 | true =>
  apply bc (purC c)<;>intro k0
  ·exact lP [O] k0 hv (al k0 an)
  apply bc (rightJ ⟨true,re u,re v,re x,i⟩ ↑c.length)<;>intro k1
  ·exact lA [I,O] (by rw [hA,k1]<;>kernel_rfl) hv (al k0 (al k1 an))
  have hR:=hA.trans (show _=true by rw [k1]<;>kernel_rfl)
  exact lT [I,I] k0 hR hC (by kernel_rfl) hv (al k0 (al k1 an))
 | false =>
  apply bc (purC c)<;>intro k2
  ·exact lP [O] k2 hv (al k2 an)
  apply bc (rightJ ⟨false,re u,re v,re x,i⟩ ↑c.length)<;>intro k3
  ·exact lA [I,O] (by rw [hA,k3]<;>kernel_rfl) hv (al k2 (al k3 an))
  have hR:=hA.trans (show _=true by rw [k3]<;>kernel_rfl)
  apply bd (((re x).k==10))<;>intro k4
  ·apply bd (((re x).i==i))<;>intro k5
   ·obtain⟨p,q,s,hk⟩:=three_kids (t:=re x) (right_u k3).2 (by simpa using k4)
    have hx:re x=.mk x.k x.i x.j x.n [re p,re q,re s]:=by
     have hk2:x.kids=[p,q,s]:=hk
     simp only [re_eq]
     rw [←hk2]
     exact x.eta.symm
    have H:=of17kf_any c n u v i x.k x.i x.j x.n p q s (by first | exact k2 | (rw [←hx];exact k2)) (by first | exact k3 | (rw [←hx];exact k3)) (by first | exact k4 | (rw [←hx];exact k4)) (by first | exact k5 | (rw [←hx];exact k5)) (A:=A) (w:=w) (vs:=vs)
    rw [←hx] at H
    exact H hs hv
   exact lT [I,I,I,O] k2 hR hC (by rw [k4,k5]<;>kernel_rfl) hv (al k2 (al k3 (al k4 (al k5 an))))
  exact lT [I,I,O] k2 hR hC (by rw [k4]<;>kernel_rfl) hv (al k2 (al k3 (al k4 an)))
set_option maxRecDepth 20000 in
set_option maxHeartbeats 4000000 in
theorem of18_any (c:List En) (n:Int) (e:Bool) (u v x:Tm) (i:Int) (e2:Bool) (u2 v2 x2:Tm) (i2:Int) (hs:Sml c [⟨e,re u,re v,re x,i⟩,⟨e2,re u2,re v2,re x2,i2⟩]) {w:World} {A:Nat→Prop} {vs:List Value} (hv:F2 (ArgDen w A) (aOf c 18 n [⟨e,re u,re v,re x,i⟩,⟨e2,re u2,re v2,re x2,i2⟩]) vs):Calls Try.prog 27 vs.toArray w (GivesO A (ofB c 18 n [⟨e,re u,re v,re x,i⟩,⟨e2,re u2,re v2,re x2,i2⟩]) w):=by
 have hA:allR c.length 18 0 [⟨e,re u,re v,re x,i⟩,⟨e2,re u2,re v2,re x2,i2⟩]=(rightJ ⟨e,re u,re v,re x,i⟩ ↑c.length&&(rightJ ⟨e2,re u2,re v2,re x2,i2⟩ (IntKind.i64.wrap (↑c.length+1))&&true)):=by kernel_rfl
 have hC:concB c n 18 [⟨e,re u,re v,re x,i⟩,⟨e2,re u2,re v2,re x2,i2⟩]=if((!e)&&(!e2))=true then some ⟨true,nd 5 i i2 [re x,re x2,nd 4 i i2 [re x,re x2,re u2],re u],(re u2).putB (re u),(re x2).putB (re u),i2⟩ else none:=by kernel_rfl
 obtain⟨zu,zv,zx⟩:=hs.z
 obtain⟨zu2,zv2,zx2⟩:=hs.tl.z
 cases e with
 | true =>
  apply bc (purC c)<;>intro k0
  ·exact lP [O] k0 hv (al k0 an)
  apply bc (rightJ ⟨true,re u,re v,re x,i⟩ ↑c.length)<;>intro k1
  ·exact lA [I,O] (by rw [hA,k1]<;>kernel_rfl) hv (al k0 (al k1 an))
  apply bc (rightJ ⟨e2,re u2,re v2,re x2,i2⟩ (IntKind.i64.wrap (↑c.length+1)))<;>intro k2
  ·exact lA [I,I,O] (by rw [hA,k1,k2]<;>kernel_rfl) hv (al k0 (al k1 (al k2 an)))
  have hR:=hA.trans (show _=true by rw [k1,k2]<;>kernel_rfl)
  have s1:[re u2].length≤10:=Nat.le_of_ble_eq_true rfl
  have s2:[Tm.mk 4 i i2 0 [re x,re x2,re u2],re u].length≤10:=Nat.le_of_ble_eq_true rfl
  have s3:(re u2).deep≤100000:=by refine Nat.le_trans (deep_le_size _) ?_;simp only [re_eq,Tm.size,sizes];omega
  have s4:(re u).deep≤100000:=by refine Nat.le_trans (deep_le_size _) ?_;simp only [re_eq,Tm.size,sizes];omega
  have s5:(re x2).deep≤100000:=by refine Nat.le_trans (deep_le_size _) ?_;simp only [re_eq,Tm.size,sizes];omega
  have s6:(Tm.mk 5 i i2 0 [re x,re x2,Tm.mk 4 i i2 0 [re x,re x2,re u2],re u]).size≤10000000:=by simp only [re_eq,Tm.size,sizes];omega
  have s7:(re ((re u2).putB (re u))).size≤10000000:=by rw [re_eq];exact putB_le (right_u k2).1 (by simp only [re_eq,Tm.size,sizes];omega) (by simp only [re_eq,Tm.size,sizes];omega)
  have s8:(re ((re x2).putB (re u))).size≤10000000:=by rw [re_eq];exact putB_le (right_u k2).2 (by simp only [re_eq,Tm.size,sizes];omega) (by simp only [re_eq,Tm.size,sizes];omega)
  exact lT [I,I,I] k0 hR hC (by kernel_rfl) hv (al k0 (al k1 (al k2 (al s1 (al s2 (al s3 (al s4 (al s5 (al s4 an)))))))))
 | false =>
  cases e2 with
  | true =>
   apply bc (purC c)<;>intro k3
   ·exact lP [O] k3 hv (al k3 an)
   apply bc (rightJ ⟨false,re u,re v,re x,i⟩ ↑c.length)<;>intro k4
   ·exact lA [I,O] (by rw [hA,k4]<;>kernel_rfl) hv (al k3 (al k4 an))
   apply bc (rightJ ⟨true,re u2,re v2,re x2,i2⟩ (IntKind.i64.wrap (↑c.length+1)))<;>intro k5
   ·exact lA [I,I,O] (by rw [hA,k4,k5]<;>kernel_rfl) hv (al k3 (al k4 (al k5 an)))
   have hR:=hA.trans (show _=true by rw [k4,k5]<;>kernel_rfl)
   have s1:[re u2].length≤10:=Nat.le_of_ble_eq_true rfl
   have s2:[Tm.mk 4 i i2 0 [re x,re x2,re u2],re u].length≤10:=Nat.le_of_ble_eq_true rfl
   have s3:(re u2).deep≤100000:=by refine Nat.le_trans (deep_le_size _) ?_;simp only [re_eq,Tm.size,sizes];omega
   have s4:(re u).deep≤100000:=by refine Nat.le_trans (deep_le_size _) ?_;simp only [re_eq,Tm.size,sizes];omega
   have s5:(re x2).deep≤100000:=by refine Nat.le_trans (deep_le_size _) ?_;simp only [re_eq,Tm.size,sizes];omega
   have s6:(Tm.mk 5 i i2 0 [re x,re x2,Tm.mk 4 i i2 0 [re x,re x2,re u2],re u]).size≤10000000:=by simp only [re_eq,Tm.size,sizes];omega
   have s7:(re ((re u2).putB (re u))).size≤10000000:=by rw [re_eq];exact putB_le (right_u k5).1 (by simp only [re_eq,Tm.size,sizes];omega) (by simp only [re_eq,Tm.size,sizes];omega)
   have s8:(re ((re x2).putB (re u))).size≤10000000:=by rw [re_eq];exact putB_le (right_u k5).2 (by simp only [re_eq,Tm.size,sizes];omega) (by simp only [re_eq,Tm.size,sizes];omega)
   exact lT [I,I,I] k3 hR hC (by kernel_rfl) hv (al k3 (al k4 (al k5 (al s1 (al s2 (al s3 (al s4 (al s5 (al s4 an)))))))))
  | false =>
   apply bc (purC c)<;>intro k6
   ·exact lP [O] k6 hv (al k6 an)
   apply bc (rightJ ⟨false,re u,re v,re x,i⟩ ↑c.length)<;>intro k7
   ·exact lA [I,O] (by rw [hA,k7]<;>kernel_rfl) hv (al k6 (al k7 an))
   apply bc (rightJ ⟨false,re u2,re v2,re x2,i2⟩ (IntKind.i64.wrap (↑c.length+1)))<;>intro k8
   ·exact lA [I,I,O] (by rw [hA,k7,k8]<;>kernel_rfl) hv (al k6 (al k7 (al k8 an)))
   have hR:=hA.trans (show _=true by rw [k7,k8]<;>kernel_rfl)
   have s1:[re u2].length≤10:=Nat.le_of_ble_eq_true rfl
   have s2:[Tm.mk 4 i i2 0 [re x,re x2,re u2],re u].length≤10:=Nat.le_of_ble_eq_true rfl
   have s3:(re u2).deep≤100000:=by refine Nat.le_trans (deep_le_size _) ?_;simp only [re_eq,Tm.size,sizes];omega
   have s4:(re u).deep≤100000:=by refine Nat.le_trans (deep_le_size _) ?_;simp only [re_eq,Tm.size,sizes];omega
   have s5:(re x2).deep≤100000:=by refine Nat.le_trans (deep_le_size _) ?_;simp only [re_eq,Tm.size,sizes];omega
   have s6:(Tm.mk 5 i i2 0 [re x,re x2,Tm.mk 4 i i2 0 [re x,re x2,re u2],re u]).size≤10000000:=by simp only [re_eq,Tm.size,sizes];omega
   have s7:(re ((re u2).putB (re u))).size≤10000000:=by rw [re_eq];exact putB_le (right_u k8).1 (by simp only [re_eq,Tm.size,sizes];omega) (by simp only [re_eq,Tm.size,sizes];omega)
   have s8:(re ((re x2).putB (re u))).size≤10000000:=by rw [re_eq];exact putB_le (right_u k8).2 (by simp only [re_eq,Tm.size,sizes];omega) (by simp only [re_eq,Tm.size,sizes];omega)
   apply bc (decide (i2>1000))<;>intro k9
   ·apply bc ((((re x2).putB (re u)).k==0))<;>intro k10
    ·apply bc ((((re u2).putB (re u)).k==0))<;>intro k11
     ·exact lS [I,I,I,O,O,O] k6 hR hC (by kernel_rfl) (by show(!(decide (i2>1000)||((nd 5 i i2 [re x,re x2,nd 4 i i2 [re x,re x2,re u2],re u]).k==0||(((re x2).putB (re u)).k==0||(true&&((re u2).putB (re u)).k==0)))))=true;rw [k9,k10,k11]<;>kernel_rfl) hv (al k6 (al k7 (al k8 (al s1 (al s2 (al s3 (al s4 (al s5 (al s4 (al k9 (al k10 (al k11 (al s6 (al s7 (al s8 an)))))))))))))))
     exact lO [I,I,I,O,O,I] k6 hR hC (by show(!(decide (i2>1000)||((nd 5 i i2 [re x,re x2,nd 4 i i2 [re x,re x2,re u2],re u]).k==0||(((re x2).putB (re u)).k==0||(true&&((re u2).putB (re u)).k==0)))))=false;rw [k9,k10,k11]<;>kernel_rfl) hv (al k6 (al k7 (al k8 (al s1 (al s2 (al s3 (al s4 (al s5 (al s4 (al k9 (al k10 (al k11 an))))))))))))
    exact lO [I,I,I,O,I] k6 hR hC (by show(!(decide (i2>1000)||((nd 5 i i2 [re x,re x2,nd 4 i i2 [re x,re x2,re u2],re u]).k==0||(((re x2).putB (re u)).k==0||(true&&((re u2).putB (re u)).k==0)))))=false;rw [k9,k10]<;>kernel_rfl) hv (al k6 (al k7 (al k8 (al s1 (al s2 (al s3 (al s4 (al s5 (al s4 (al k9 (al k10 an)))))))))))
   exact lO [I,I,I,I] k6 hR hC (by show(!(decide (i2>1000)||((nd 5 i i2 [re x,re x2,nd 4 i i2 [re x,re x2,re u2],re u]).k==0||(((re x2).putB (re u)).k==0||(true&&((re u2).putB (re u)).k==0)))))=false;rw [k9]<;>kernel_rfl) hv (al k6 (al k7 (al k8 (al s1 (al s2 (al s3 (al s4 (al s5 (al s4 (al k9 an))))))))))
set_option maxRecDepth 20000 in
set_option maxHeartbeats 4000000 in
theorem of19_any (c:List En) (n:Int) (e:Bool) (u v x:Tm) (i:Int) (e2:Bool) (u2 v2 x2:Tm) (i2:Int) (e3:Bool) (u3 v3 x3:Tm) (i3:Int) (hs:Sml c [⟨e,re u,re v,re x,i⟩,⟨e2,re u2,re v2,re x2,i2⟩,⟨e3,re u3,re v3,re x3,i3⟩]) {w:World} {A:Nat→Prop} {vs:List Value} (hv:F2 (ArgDen w A) (aOf c 19 n [⟨e,re u,re v,re x,i⟩,⟨e2,re u2,re v2,re x2,i2⟩,⟨e3,re u3,re v3,re x3,i3⟩]) vs):Calls Try.prog 27 vs.toArray w (GivesO A (ofB c 19 n [⟨e,re u,re v,re x,i⟩,⟨e2,re u2,re v2,re x2,i2⟩,⟨e3,re u3,re v3,re x3,i3⟩]) w):=by
 have hA:allR c.length 19 0 [⟨e,re u,re v,re x,i⟩,⟨e2,re u2,re v2,re x2,i2⟩,⟨e3,re u3,re v3,re x3,i3⟩]=(rightJ ⟨e,re u,re v,re x,i⟩ ↑c.length&&(rightJ ⟨e2,re u2,re v2,re x2,i2⟩ (IntKind.i64.wrap (↑c.length+1))&&(rightJ ⟨e3,re u3,re v3,re x3,i3⟩ ↑c.length&&true))):=by kernel_rfl
 have hC:concB c n 19 [⟨e,re u,re v,re x,i⟩,⟨e2,re u2,re v2,re x2,i2⟩,⟨e3,re u3,re v3,re x3,i3⟩]=if((((!e2)&&(((re x2).k==1)&&(i2==W64 ((re x2).i+1))))&&(!e))&&((!e3)&&((i3==(re x2).i)&&sameB (re x3) ((re u2).putB (re u)))))=true then some ⟨true,nd 8 i ((re x2).i) [re x,re u2,nd 7 i ((re x2).i) [re x,re u2,re u,re u3]],re u,re x,i⟩ else none:=by kernel_rfl
 obtain⟨zu,zv,zx⟩:=hs.z
 obtain⟨zu2,zv2,zx2⟩:=hs.tl.z
 obtain⟨zu3,zv3,zx3⟩:=hs.tl.tl.z
 cases e with
 | true =>
  cases e2 with
  | true =>
   apply bc (purC c)<;>intro k0
   ·exact lP [O] k0 hv (al k0 an)
   apply bc (rightJ ⟨true,re u,re v,re x,i⟩ ↑c.length)<;>intro k1
   ·exact lA [I,O] (by rw [hA,k1]<;>kernel_rfl) hv (al k0 (al k1 an))
   apply bc (rightJ ⟨true,re u2,re v2,re x2,i2⟩ (IntKind.i64.wrap (↑c.length+1)))<;>intro k2
   ·exact lA [I,I,O] (by rw [hA,k1,k2]<;>kernel_rfl) hv (al k0 (al k1 (al k2 an)))
   apply bc (rightJ ⟨e3,re u3,re v3,re x3,i3⟩ ↑c.length)<;>intro k3
   ·exact lA [I,I,I,O] (by rw [hA,k1,k2,k3]<;>kernel_rfl) hv (al k0 (al k1 (al k2 (al k3 an))))
   have hR:=hA.trans (show _=true by rw [k1,k2,k3]<;>kernel_rfl)
   have s1:[re u,re u3].length≤10:=Nat.le_of_ble_eq_true rfl
   have s2:[Tm.mk 7 i (re x2).i 0 [re x,re u2,re u,re u3]].length≤10:=Nat.le_of_ble_eq_true rfl
   have s3:(re u2).deep≤100000:=by refine Nat.le_trans (deep_le_size _) ?_;simp only [re_eq,Tm.size,sizes];omega
   have s4:(re u).deep≤100000:=by refine Nat.le_trans (deep_le_size _) ?_;simp only [re_eq,Tm.size,sizes];omega
   have s5:(Tm.mk 8 i (re x2).i 0 [re x,re u2,Tm.mk 7 i (re x2).i 0 [re x,re u2,re u,re u3]]).size≤10000000:=by simp only [re_eq,Tm.size,sizes];omega
   have s6:(re u).size≤10000000:=sz1 zu
   have s7:(re x).size≤10000000:=sz1 zx
   exact lT [I,I,I,I] k0 hR hC (by kernel_rfl) hv (al k0 (al k1 (al k2 (al k3 (al s1 (al s2 an))))))
  | false =>
   apply bc (purC c)<;>intro k4
   ·exact lP [O] k4 hv (al k4 an)
   apply bc (rightJ ⟨true,re u,re v,re x,i⟩ ↑c.length)<;>intro k5
   ·exact lA [I,O] (by rw [hA,k5]<;>kernel_rfl) hv (al k4 (al k5 an))
   apply bc (rightJ ⟨false,re u2,re v2,re x2,i2⟩ (IntKind.i64.wrap (↑c.length+1)))<;>intro k6
   ·exact lA [I,I,O] (by rw [hA,k5,k6]<;>kernel_rfl) hv (al k4 (al k5 (al k6 an)))
   apply bc (rightJ ⟨e3,re u3,re v3,re x3,i3⟩ ↑c.length)<;>intro k7
   ·exact lA [I,I,I,O] (by rw [hA,k5,k6,k7]<;>kernel_rfl) hv (al k4 (al k5 (al k6 (al k7 an))))
   have hR:=hA.trans (show _=true by rw [k5,k6,k7]<;>kernel_rfl)
   have s1:[re u,re u3].length≤10:=Nat.le_of_ble_eq_true rfl
   have s2:[Tm.mk 7 i (re x2).i 0 [re x,re u2,re u,re u3]].length≤10:=Nat.le_of_ble_eq_true rfl
   have s3:(re u2).deep≤100000:=by refine Nat.le_trans (deep_le_size _) ?_;simp only [re_eq,Tm.size,sizes];omega
   have s4:(re u).deep≤100000:=by refine Nat.le_trans (deep_le_size _) ?_;simp only [re_eq,Tm.size,sizes];omega
   have s5:(Tm.mk 8 i (re x2).i 0 [re x,re u2,Tm.mk 7 i (re x2).i 0 [re x,re u2,re u,re u3]]).size≤10000000:=by simp only [re_eq,Tm.size,sizes];omega
   have s6:(re u).size≤10000000:=sz1 zu
   have s7:(re x).size≤10000000:=sz1 zx
   apply bc (((re x2).k==1))<;>intro k8
   ·exact lT [I,I,I,I,O] k4 hR hC (by rw [k8]<;>kernel_rfl) hv (al k4 (al k5 (al k6 (al k7 (al k8 (al s1 (al s2 an)))))))
   apply bc ((i2==IntKind.i64.wrap ((re x2).i+1)))<;>intro k9
   ·exact lT [I,I,I,I,I,O] k4 hR hC (by rw [k8,k9]<;>kernel_rfl) hv (al k4 (al k5 (al k6 (al k7 (al k8 (al k9 (al s1 (al s2 an))))))))
   exact lT [I,I,I,I,I,I] k4 hR hC (by rw [k8,k9]<;>kernel_rfl) hv (al k4 (al k5 (al k6 (al k7 (al k8 (al k9 (al s1 (al s2 an))))))))
 | false =>
  cases e2 with
  | true =>
   apply bc (purC c)<;>intro k10
   ·exact lP [O] k10 hv (al k10 an)
   apply bc (rightJ ⟨false,re u,re v,re x,i⟩ ↑c.length)<;>intro k11
   ·exact lA [I,O] (by rw [hA,k11]<;>kernel_rfl) hv (al k10 (al k11 an))
   apply bc (rightJ ⟨true,re u2,re v2,re x2,i2⟩ (IntKind.i64.wrap (↑c.length+1)))<;>intro k12
   ·exact lA [I,I,O] (by rw [hA,k11,k12]<;>kernel_rfl) hv (al k10 (al k11 (al k12 an)))
   apply bc (rightJ ⟨e3,re u3,re v3,re x3,i3⟩ ↑c.length)<;>intro k13
   ·exact lA [I,I,I,O] (by rw [hA,k11,k12,k13]<;>kernel_rfl) hv (al k10 (al k11 (al k12 (al k13 an))))
   have hR:=hA.trans (show _=true by rw [k11,k12,k13]<;>kernel_rfl)
   have s1:[re u,re u3].length≤10:=Nat.le_of_ble_eq_true rfl
   have s2:[Tm.mk 7 i (re x2).i 0 [re x,re u2,re u,re u3]].length≤10:=Nat.le_of_ble_eq_true rfl
   have s3:(re u2).deep≤100000:=by refine Nat.le_trans (deep_le_size _) ?_;simp only [re_eq,Tm.size,sizes];omega
   have s4:(re u).deep≤100000:=by refine Nat.le_trans (deep_le_size _) ?_;simp only [re_eq,Tm.size,sizes];omega
   have s5:(Tm.mk 8 i (re x2).i 0 [re x,re u2,Tm.mk 7 i (re x2).i 0 [re x,re u2,re u,re u3]]).size≤10000000:=by simp only [re_eq,Tm.size,sizes];omega
   have s6:(re u).size≤10000000:=sz1 zu
   have s7:(re x).size≤10000000:=sz1 zx
   exact lT [I,I,I,I] k10 hR hC (by kernel_rfl) hv (al k10 (al k11 (al k12 (al k13 (al s1 (al s2 an))))))
  | false =>
   cases e3 with
   | true =>
    apply bc (purC c)<;>intro k14
    ·exact lP [O] k14 hv (al k14 an)
    apply bc (rightJ ⟨false,re u,re v,re x,i⟩ ↑c.length)<;>intro k15
    ·exact lA [I,O] (by rw [hA,k15]<;>kernel_rfl) hv (al k14 (al k15 an))
    apply bc (rightJ ⟨false,re u2,re v2,re x2,i2⟩ (IntKind.i64.wrap (↑c.length+1)))<;>intro k16
    ·exact lA [I,I,O] (by rw [hA,k15,k16]<;>kernel_rfl) hv (al k14 (al k15 (al k16 an)))
    apply bc (rightJ ⟨true,re u3,re v3,re x3,i3⟩ ↑c.length)<;>intro k17
    ·exact lA [I,I,I,O] (by rw [hA,k15,k16,k17]<;>kernel_rfl) hv (al k14 (al k15 (al k16 (al k17 an))))
    have hR:=hA.trans (show _=true by rw [k15,k16,k17]<;>kernel_rfl)
    have s1:[re u,re u3].length≤10:=Nat.le_of_ble_eq_true rfl
    have s2:[Tm.mk 7 i (re x2).i 0 [re x,re u2,re u,re u3]].length≤10:=Nat.le_of_ble_eq_true rfl
    have s3:(re u2).deep≤100000:=by refine Nat.le_trans (deep_le_size _) ?_;simp only [re_eq,Tm.size,sizes];omega
    have s4:(re u).deep≤100000:=by refine Nat.le_trans (deep_le_size _) ?_;simp only [re_eq,Tm.size,sizes];omega
    have s5:(Tm.mk 8 i (re x2).i 0 [re x,re u2,Tm.mk 7 i (re x2).i 0 [re x,re u2,re u,re u3]]).size≤10000000:=by simp only [re_eq,Tm.size,sizes];omega
    have s6:(re u).size≤10000000:=sz1 zu
    have s7:(re x).size≤10000000:=sz1 zx
    apply bc (((re x2).k==1))<;>intro k18
    ·exact lT [I,I,I,I,O] k14 hR hC (by rw [k18]<;>kernel_rfl) hv (al k14 (al k15 (al k16 (al k17 (al k18 (al s1 (al s2 an)))))))
    apply bc ((i2==IntKind.i64.wrap ((re x2).i+1)))<;>intro k19
    ·exact lT [I,I,I,I,I,O] k14 hR hC (by rw [k18,k19]<;>kernel_rfl) hv (al k14 (al k15 (al k16 (al k17 (al k18 (al k19 (al s1 (al s2 an))))))))
    exact lT [I,I,I,I,I,I] k14 hR hC (by rw [k18,k19]<;>kernel_rfl) hv (al k14 (al k15 (al k16 (al k17 (al k18 (al k19 (al s3 (al s4 (al s1 (al s2 an))))))))))
   | false =>
    apply bc (purC c)<;>intro k20
    ·exact lP [O] k20 hv (al k20 an)
    apply bc (rightJ ⟨false,re u,re v,re x,i⟩ ↑c.length)<;>intro k21
    ·exact lA [I,O] (by rw [hA,k21]<;>kernel_rfl) hv (al k20 (al k21 an))
    apply bc (rightJ ⟨false,re u2,re v2,re x2,i2⟩ (IntKind.i64.wrap (↑c.length+1)))<;>intro k22
    ·exact lA [I,I,O] (by rw [hA,k21,k22]<;>kernel_rfl) hv (al k20 (al k21 (al k22 an)))
    apply bc (rightJ ⟨false,re u3,re v3,re x3,i3⟩ ↑c.length)<;>intro k23
    ·exact lA [I,I,I,O] (by rw [hA,k21,k22,k23]<;>kernel_rfl) hv (al k20 (al k21 (al k22 (al k23 an))))
    have hR:=hA.trans (show _=true by rw [k21,k22,k23]<;>kernel_rfl)
    have s1:[re u,re u3].length≤10:=Nat.le_of_ble_eq_true rfl
    have s2:[Tm.mk 7 i (re x2).i 0 [re x,re u2,re u,re u3]].length≤10:=Nat.le_of_ble_eq_true rfl
    have s3:(re u2).deep≤100000:=by refine Nat.le_trans (deep_le_size _) ?_;simp only [re_eq,Tm.size,sizes];omega
    have s4:(re u).deep≤100000:=by refine Nat.le_trans (deep_le_size _) ?_;simp only [re_eq,Tm.size,sizes];omega
    have s5:(Tm.mk 8 i (re x2).i 0 [re x,re u2,Tm.mk 7 i (re x2).i 0 [re x,re u2,re u,re u3]]).size≤10000000:=by simp only [re_eq,Tm.size,sizes];omega
    have s6:(re u).size≤10000000:=sz1 zu
    have s7:(re x).size≤10000000:=sz1 zx
    apply bc (((re x2).k==1))<;>intro k24
    ·exact lT [I,I,I,I,O] k20 hR hC (by rw [k24]<;>kernel_rfl) hv (al k20 (al k21 (al k22 (al k23 (al k24 (al s1 (al s2 an)))))))
    apply bc ((i2==IntKind.i64.wrap ((re x2).i+1)))<;>intro k25
    ·exact lT [I,I,I,I,I,O] k20 hR hC (by rw [k24,k25]<;>kernel_rfl) hv (al k20 (al k21 (al k22 (al k23 (al k24 (al k25 (al s1 (al s2 an))))))))
    apply bc ((i3==(re x2).i))<;>intro k26
    ·exact lT [I,I,I,I,I,I,O] k20 hR hC (by rw [k24,k25,k26]<;>kernel_rfl) hv (al k20 (al k21 (al k22 (al k23 (al k24 (al k25 (al s3 (al s4 (al k26 (al s1 (al s2 an)))))))))))
    apply bc (sameB (re x3) (re ((re u2).putB (re u))))<;>intro k27
    ·exact lT [I,I,I,I,I,I,I,O] k20 hR hC (by rw [←re_eq ((re u2).putB (re u)),k24,k25,k26,k27]<;>kernel_rfl) hv (al k20 (al k21 (al k22 (al k23 (al k24 (al k25 (al s3 (al s4 (al k26 (al k27 (al s1 (al s2 an))))))))))))
    apply bc (decide (i>1000))<;>intro k28
    ·apply bc (((re x).k==0))<;>intro k29
     ·apply bc (((re u).k==0))<;>intro k30
      ·exact lS [I,I,I,I,I,I,I,I,O,O,O] k20 hR hC (by rw [←re_eq ((re u2).putB (re u)),k24,k25,k26,k27]<;>kernel_rfl) (by show(!(decide (i>1000)||((nd 8 i ((re x2).i) [re x,re u2,nd 7 i ((re x2).i) [re x,re u2,re u,re u3]]).k==0||((re x).k==0||(true&&(re u).k==0)))))=true;rw [k28,k29,k30]<;>kernel_rfl) hv (al k20 (al k21 (al k22 (al k23 (al k24 (al k25 (al s3 (al s4 (al k26 (al k27 (al s1 (al s2 (al k28 (al k29 (al k30 (al s5 (al s6 (al s7 an))))))))))))))))))
      exact lO [I,I,I,I,I,I,I,I,O,O,I] k20 hR hC (by show(!(decide (i>1000)||((nd 8 i ((re x2).i) [re x,re u2,nd 7 i ((re x2).i) [re x,re u2,re u,re u3]]).k==0||((re x).k==0||(true&&(re u).k==0)))))=false;rw [k28,k29,k30]<;>kernel_rfl) hv (al k20 (al k21 (al k22 (al k23 (al k24 (al k25 (al s3 (al s4 (al k26 (al k27 (al s1 (al s2 (al k28 (al k29 (al k30 an)))))))))))))))
     exact lO [I,I,I,I,I,I,I,I,O,I] k20 hR hC (by show(!(decide (i>1000)||((nd 8 i ((re x2).i) [re x,re u2,nd 7 i ((re x2).i) [re x,re u2,re u,re u3]]).k==0||((re x).k==0||(true&&(re u).k==0)))))=false;rw [k28,k29]<;>kernel_rfl) hv (al k20 (al k21 (al k22 (al k23 (al k24 (al k25 (al s3 (al s4 (al k26 (al k27 (al s1 (al s2 (al k28 (al k29 an))))))))))))))
    exact lO [I,I,I,I,I,I,I,I,I] k20 hR hC (by show(!(decide (i>1000)||((nd 8 i ((re x2).i) [re x,re u2,nd 7 i ((re x2).i) [re x,re u2,re u,re u3]]).k==0||((re x).k==0||(true&&(re u).k==0)))))=false;rw [k28]<;>kernel_rfl) hv (al k20 (al k21 (al k22 (al k23 (al k24 (al k25 (al s3 (al s4 (al k26 (al k27 (al s1 (al s2 (al k28 an)))))))))))))
end Go.Proofs.Ytgnllglbopaheaa.Se
