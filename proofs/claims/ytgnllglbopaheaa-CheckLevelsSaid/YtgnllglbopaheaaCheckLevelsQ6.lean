/-
  Facts and contracts that the proof of CheckLevels uses.
-/
import Derived.Test.YtgnllglbopaheaaRows
import Derived.WalkKit
import Derived.Lib.Hide
import Derived.KernelRfl
import Derived.Deep.RegionWith
import Derived.Deep.RegionHeld3
import Derived.Deep.AppendLies
import Derived.Laws.Rows
import Derived.Laws.IdiomCopy
import Derived.Deep.Slices
import Derived.Lib.QuietBelow
import Derived.StillTailTactics
import Derived.BigQuiet
import Derived.IntWalk
import Derived.OwnWalk
import Derived.Deep.RegionLaw
import Derived.Deep.QuietTactic
import Derived.Deep.LoopGhost
import Derived.Deep.DeepCutAuto
import Derived.Deep.MidRow
import Derived.OrdersHeld
import Derived.Laws.Tables
import Derived.Laws.CopyOwn
import Derived.Laws.CopyRow
import Derived.Maps.AppendAt
import Derived.Lib.Builder
import Derived.Shelf.Spec.SlicesInsertGrow
import Derived.Below
import Derived.Lib.MinMax
import Derived.Deep.RegionHeld
import Derived.Deep.Upon
import Derived.ArgAppend
import Derived.Laws.EntriesVeiled
import GoSem.Core.Float
import Derived.ProofKit
import Derived.LoopTactic
import Derived.Laws.Cover2
import Derived.Laws.FloatArith
import Derived.Laws.Externs
import Derived.RowKit
import Derived.Deep.Cut
import Derived.Deep.CutBlock
import Derived.OpenShut
import Derived.Carry
import Derived.ChangeSlices
import Derived.JoinedOf
import Derived.Test.YtgnllglbopaheaaCheckLevelsQ5
namespace Go.Proofs.Ytgnllglbopaheaa.Se
open Go Go.RowKit
set_option linter.unusedSimpArgs false
set_option maxRecDepth 20000 in
set_option maxHeartbeats 4000000 in
theorem of20_any (c:List En) (n:Int) (e:Bool) (u v x:Tm) (i:Int) (e2:Bool) (u2 v2 x2:Tm) (i2:Int) (e3:Bool) (u3 v3 x3:Tm) (i3:Int) (hs:Sml c [⟨e,re u,re v,re x,i⟩,⟨e2,re u2,re v2,re x2,i2⟩,⟨e3,re u3,re v3,re x3,i3⟩]) {w:World} {A:Nat→Prop} {vs:List Value} (hv:F2 (ArgDen w A) (aOf c 20 n [⟨e,re u,re v,re x,i⟩,⟨e2,re u2,re v2,re x2,i2⟩,⟨e3,re u3,re v3,re x3,i3⟩]) vs):Calls Try.prog 27 vs.toArray w (GivesO A (ofB c 20 n [⟨e,re u,re v,re x,i⟩,⟨e2,re u2,re v2,re x2,i2⟩,⟨e3,re u3,re v3,re x3,i3⟩]) w):=by
 have hA:allR c.length 20 0 [⟨e,re u,re v,re x,i⟩,⟨e2,re u2,re v2,re x2,i2⟩,⟨e3,re u3,re v3,re x3,i3⟩]=(rightJ ⟨e,re u,re v,re x,i⟩ ↑c.length&&(rightJ ⟨e2,re u2,re v2,re x2,i2⟩ (IntKind.i64.wrap (↑c.length+1))&&(rightJ ⟨e3,re u3,re v3,re x3,i3⟩ ↑c.length&&true))):=by kernel_rfl
 have hC:concB c n 20 [⟨e,re u,re v,re x,i⟩,⟨e2,re u2,re v2,re x2,i2⟩,⟨e3,re u3,re v3,re x3,i3⟩]=if((((!e2)&&(((re x2).k==1)&&(i2==W64 ((re x2).i+1))))&&(!e))&&((!e3)&&((i3==(re x2).i)&&sameB (re x3) ((re u2).putB (re u)))))=true then some ⟨true,nd 9 i ((re x2).i) [re x,re u2,nd 7 i ((re x2).i) [re x,re u2,re u,re u3]],re u3,re x3,(re x2).i⟩ else none:=by kernel_rfl
 obtain⟨zu,zv,zx⟩:=hs.z
 obtain⟨zu2,zv2,zx2⟩:=hs.tl.z
 obtain⟨zu3,zv3,zx3⟩:=hs.tl.tl.z
 cases e with
 | true =>
  cases e2 with
  | true =>
   apply bc (purC c)<;>intro k0
   ·exact lP [O] k0 hv (al k0 an)
   apply bc (rightJ ⟨true,re u,re v,re x,i⟩ ↑c.length)<;>intro k1
   ·exact lA [I,O] (by rw [hA,k1]<;>kernel_rfl) hv (al k0 (al k1 an))
   apply bc (rightJ ⟨true,re u2,re v2,re x2,i2⟩ (IntKind.i64.wrap (↑c.length+1)))<;>intro k2
   ·exact lA [I,I,O] (by rw [hA,k1,k2]<;>kernel_rfl) hv (al k0 (al k1 (al k2 an)))
   apply bc (rightJ ⟨e3,re u3,re v3,re x3,i3⟩ ↑c.length)<;>intro k3
   ·exact lA [I,I,I,O] (by rw [hA,k1,k2,k3]<;>kernel_rfl) hv (al k0 (al k1 (al k2 (al k3 an))))
   have hR:=hA.trans (show _=true by rw [k1,k2,k3]<;>kernel_rfl)
   have s1:[re u,re u3].length≤10:=Nat.le_of_ble_eq_true rfl
   have s2:[Tm.mk 7 i (re x2).i 0 [re x,re u2,re u,re u3]].length≤10:=Nat.le_of_ble_eq_true rfl
   have s3:(re u2).deep≤100000:=by refine Nat.le_trans (deep_le_size _) ?_;simp only [re_eq,Tm.size,sizes];omega
   have s4:(re u).deep≤100000:=by refine Nat.le_trans (deep_le_size _) ?_;simp only [re_eq,Tm.size,sizes];omega
   have s5:(Tm.mk 9 i (re x2).i 0 [re x,re u2,Tm.mk 7 i (re x2).i 0 [re x,re u2,re u,re u3]]).size≤10000000:=by simp only [re_eq,Tm.size,sizes];omega
   have s6:(re u3).size≤10000000:=sz1 zu3
   have s7:(re x3).size≤10000000:=sz1 zx3
   exact lT [I,I,I,I] k0 hR hC (by kernel_rfl) hv (al k0 (al k1 (al k2 (al k3 (al s1 (al s2 an))))))
  | false =>
   apply bc (purC c)<;>intro k4
   ·exact lP [O] k4 hv (al k4 an)
   apply bc (rightJ ⟨true,re u,re v,re x,i⟩ ↑c.length)<;>intro k5
   ·exact lA [I,O] (by rw [hA,k5]<;>kernel_rfl) hv (al k4 (al k5 an))
   apply bc (rightJ ⟨false,re u2,re v2,re x2,i2⟩ (IntKind.i64.wrap (↑c.length+1)))<;>intro k6
   ·exact lA [I,I,O] (by rw [hA,k5,k6]<;>kernel_rfl) hv (al k4 (al k5 (al k6 an)))
   apply bc (rightJ ⟨e3,re u3,re v3,re x3,i3⟩ ↑c.length)<;>intro k7
   ·exact lA [I,I,I,O] (by rw [hA,k5,k6,k7]<;>kernel_rfl) hv (al k4 (al k5 (al k6 (al k7 an))))
   have hR:=hA.trans (show _=true by rw [k5,k6,k7]<;>kernel_rfl)
   have s1:[re u,re u3].length≤10:=Nat.le_of_ble_eq_true rfl
   have s2:[Tm.mk 7 i (re x2).i 0 [re x,re u2,re u,re u3]].length≤10:=Nat.le_of_ble_eq_true rfl
   have s3:(re u2).deep≤100000:=by refine Nat.le_trans (deep_le_size _) ?_;simp only [re_eq,Tm.size,sizes];omega
   have s4:(re u).deep≤100000:=by refine Nat.le_trans (deep_le_size _) ?_;simp only [re_eq,Tm.size,sizes];omega
   have s5:(Tm.mk 9 i (re x2).i 0 [re x,re u2,Tm.mk 7 i (re x2).i 0 [re x,re u2,re u,re u3]]).size≤10000000:=by simp only [re_eq,Tm.size,sizes];omega
   have s6:(re u3).size≤10000000:=sz1 zu3
   have s7:(re x3).size≤10000000:=sz1 zx3
   apply bc (((re x2).k==1))<;>intro k8
   ·exact lT [I,I,I,I,O] k4 hR hC (by rw [k8]<;>kernel_rfl) hv (al k4 (al k5 (al k6 (al k7 (al k8 (al s1 (al s2 an)))))))
   apply bc ((i2==IntKind.i64.wrap ((re x2).i+1)))<;>intro k9
   ·exact lT [I,I,I,I,I,O] k4 hR hC (by rw [k8,k9]<;>kernel_rfl) hv (al k4 (al k5 (al k6 (al k7 (al k8 (al k9 (al s1 (al s2 an))))))))
   exact lT [I,I,I,I,I,I] k4 hR hC (by rw [k8,k9]<;>kernel_rfl) hv (al k4 (al k5 (al k6 (al k7 (al k8 (al k9 (al s1 (al s2 an))))))))
 | false =>
  cases e2 with
  | true =>
   apply bc (purC c)<;>intro k10
   ·exact lP [O] k10 hv (al k10 an)
   apply bc (rightJ ⟨false,re u,re v,re x,i⟩ ↑c.length)<;>intro k11
   ·exact lA [I,O] (by rw [hA,k11]<;>kernel_rfl) hv (al k10 (al k11 an))
   apply bc (rightJ ⟨true,re u2,re v2,re x2,i2⟩ (IntKind.i64.wrap (↑c.length+1)))<;>intro k12
   ·exact lA [I,I,O] (by rw [hA,k11,k12]<;>kernel_rfl) hv (al k10 (al k11 (al k12 an)))
   apply bc (rightJ ⟨e3,re u3,re v3,re x3,i3⟩ ↑c.length)<;>intro k13
   ·exact lA [I,I,I,O] (by rw [hA,k11,k12,k13]<;>kernel_rfl) hv (al k10 (al k11 (al k12 (al k13 an))))
   have hR:=hA.trans (show _=true by rw [k11,k12,k13]<;>kernel_rfl)
   have s1:[re u,re u3].length≤10:=Nat.le_of_ble_eq_true rfl
   have s2:[Tm.mk 7 i (re x2).i 0 [re x,re u2,re u,re u3]].length≤10:=Nat.le_of_ble_eq_true rfl
   have s3:(re u2).deep≤100000:=by refine Nat.le_trans (deep_le_size _) ?_;simp only [re_eq,Tm.size,sizes];omega
   have s4:(re u).deep≤100000:=by refine Nat.le_trans (deep_le_size _) ?_;simp only [re_eq,Tm.size,sizes];omega
   have s5:(Tm.mk 9 i (re x2).i 0 [re x,re u2,Tm.mk 7 i (re x2).i 0 [re x,re u2,re u,re u3]]).size≤10000000:=by simp only [re_eq,Tm.size,sizes];omega
   have s6:(re u3).size≤10000000:=sz1 zu3
   have s7:(re x3).size≤10000000:=sz1 zx3
   exact lT [I,I,I,I] k10 hR hC (by kernel_rfl) hv (al k10 (al k11 (al k12 (al k13 (al s1 (al s2 an))))))
  | false =>
   cases e3 with
   | true =>
    apply bc (purC c)<;>intro k14
    ·exact lP [O] k14 hv (al k14 an)
    apply bc (rightJ ⟨false,re u,re v,re x,i⟩ ↑c.length)<;>intro k15
    ·exact lA [I,O] (by rw [hA,k15]<;>kernel_rfl) hv (al k14 (al k15 an))
    apply bc (rightJ ⟨false,re u2,re v2,re x2,i2⟩ (IntKind.i64.wrap (↑c.length+1)))<;>intro k16
    ·exact lA [I,I,O] (by rw [hA,k15,k16]<;>kernel_rfl) hv (al k14 (al k15 (al k16 an)))
    apply bc (rightJ ⟨true,re u3,re v3,re x3,i3⟩ ↑c.length)<;>intro k17
    ·exact lA [I,I,I,O] (by rw [hA,k15,k16,k17]<;>kernel_rfl) hv (al k14 (al k15 (al k16 (al k17 an))))
    have hR:=hA.trans (show _=true by rw [k15,k16,k17]<;>kernel_rfl)
    have s1:[re u,re u3].length≤10:=Nat.le_of_ble_eq_true rfl
    have s2:[Tm.mk 7 i (re x2).i 0 [re x,re u2,re u,re u3]].length≤10:=Nat.le_of_ble_eq_true rfl
    have s3:(re u2).deep≤100000:=by refine Nat.le_trans (deep_le_size _) ?_;simp only [re_eq,Tm.size,sizes];omega
    have s4:(re u).deep≤100000:=by refine Nat.le_trans (deep_le_size _) ?_;simp only [re_eq,Tm.size,sizes];omega
    have s5:(Tm.mk 9 i (re x2).i 0 [re x,re u2,Tm.mk 7 i (re x2).i 0 [re x,re u2,re u,re u3]]).size≤10000000:=by simp only [re_eq,Tm.size,sizes];omega
    have s6:(re u3).size≤10000000:=sz1 zu3
    have s7:(re x3).size≤10000000:=sz1 zx3
    apply bc (((re x2).k==1))<;>intro k18
    ·exact lT [I,I,I,I,O] k14 hR hC (by rw [k18]<;>kernel_rfl) hv (al k14 (al k15 (al k16 (al k17 (al k18 (al s1 (al s2 an)))))))
    apply bc ((i2==IntKind.i64.wrap ((re x2).i+1)))<;>intro k19
    ·exact lT [I,I,I,I,I,O] k14 hR hC (by rw [k18,k19]<;>kernel_rfl) hv (al k14 (al k15 (al k16 (al k17 (al k18 (al k19 (al s1 (al s2 an))))))))
    exact lT [I,I,I,I,I,I] k14 hR hC (by rw [k18,k19]<;>kernel_rfl) hv (al k14 (al k15 (al k16 (al k17 (al k18 (al k19 (al s3 (al s4 (al s1 (al s2 an))))))))))
   | false =>
    apply bc (purC c)<;>intro k20
    ·exact lP [O] k20 hv (al k20 an)
    apply bc (rightJ ⟨false,re u,re v,re x,i⟩ ↑c.length)<;>intro k21
    ·exact lA [I,O] (by rw [hA,k21]<;>kernel_rfl) hv (al k20 (al k21 an))
    apply bc (rightJ ⟨false,re u2,re v2,re x2,i2⟩ (IntKind.i64.wrap (↑c.length+1)))<;>intro k22
    ·exact lA [I,I,O] (by rw [hA,k21,k22]<;>kernel_rfl) hv (al k20 (al k21 (al k22 an)))
    apply bc (rightJ ⟨false,re u3,re v3,re x3,i3⟩ ↑c.length)<;>intro k23
    ·exact lA [I,I,I,O] (by rw [hA,k21,k22,k23]<;>kernel_rfl) hv (al k20 (al k21 (al k22 (al k23 an))))
    have hR:=hA.trans (show _=true by rw [k21,k22,k23]<;>kernel_rfl)
    have s1:[re u,re u3].length≤10:=Nat.le_of_ble_eq_true rfl
    have s2:[Tm.mk 7 i (re x2).i 0 [re x,re u2,re u,re u3]].length≤10:=Nat.le_of_ble_eq_true rfl
    have s3:(re u2).deep≤100000:=by refine Nat.le_trans (deep_le_size _) ?_;simp only [re_eq,Tm.size,sizes];omega
    have s4:(re u).deep≤100000:=by refine Nat.le_trans (deep_le_size _) ?_;simp only [re_eq,Tm.size,sizes];omega
    have s5:(Tm.mk 9 i (re x2).i 0 [re x,re u2,Tm.mk 7 i (re x2).i 0 [re x,re u2,re u,re u3]]).size≤10000000:=by simp only [re_eq,Tm.size,sizes];omega
    have s6:(re u3).size≤10000000:=sz1 zu3
    have s7:(re x3).size≤10000000:=sz1 zx3
    apply bc (((re x2).k==1))<;>intro k24
    ·exact lT [I,I,I,I,O] k20 hR hC (by rw [k24]<;>kernel_rfl) hv (al k20 (al k21 (al k22 (al k23 (al k24 (al s1 (al s2 an)))))))
    apply bc ((i2==IntKind.i64.wrap ((re x2).i+1)))<;>intro k25
    ·exact lT [I,I,I,I,I,O] k20 hR hC (by rw [k24,k25]<;>kernel_rfl) hv (al k20 (al k21 (al k22 (al k23 (al k24 (al k25 (al s1 (al s2 an))))))))
    apply bc ((i3==(re x2).i))<;>intro k26
    ·exact lT [I,I,I,I,I,I,O] k20 hR hC (by rw [k24,k25,k26]<;>kernel_rfl) hv (al k20 (al k21 (al k22 (al k23 (al k24 (al k25 (al s3 (al s4 (al k26 (al s1 (al s2 an)))))))))))
    apply bc (sameB (re x3) (re ((re u2).putB (re u))))<;>intro k27
    ·exact lT [I,I,I,I,I,I,I,O] k20 hR hC (by rw [←re_eq ((re u2).putB (re u)),k24,k25,k26,k27]<;>kernel_rfl) hv (al k20 (al k21 (al k22 (al k23 (al k24 (al k25 (al s3 (al s4 (al k26 (al k27 (al s1 (al s2 an))))))))))))
    apply bc (decide ((re x2).i>1000))<;>intro k28
    ·apply bc (((re x3).k==0))<;>intro k29
     ·apply bc (((re u3).k==0))<;>intro k30
      ·exact lS [I,I,I,I,I,I,I,I,O,O,O] k20 hR hC (by rw [←re_eq ((re u2).putB (re u)),k24,k25,k26,k27]<;>kernel_rfl) (by show(!(decide ((re x2).i>1000)||((nd 9 i ((re x2).i) [re x,re u2,nd 7 i ((re x2).i) [re x,re u2,re u,re u3]]).k==0||((re x3).k==0||(true&&(re u3).k==0)))))=true;rw [k28,k29,k30]<;>kernel_rfl) hv (al k20 (al k21 (al k22 (al k23 (al k24 (al k25 (al s3 (al s4 (al k26 (al k27 (al s1 (al s2 (al k28 (al k29 (al k30 (al s5 (al s6 (al s7 an))))))))))))))))))
      exact lO [I,I,I,I,I,I,I,I,O,O,I] k20 hR hC (by show(!(decide ((re x2).i>1000)||((nd 9 i ((re x2).i) [re x,re u2,nd 7 i ((re x2).i) [re x,re u2,re u,re u3]]).k==0||((re x3).k==0||(true&&(re u3).k==0)))))=false;rw [k28,k29,k30]<;>kernel_rfl) hv (al k20 (al k21 (al k22 (al k23 (al k24 (al k25 (al s3 (al s4 (al k26 (al k27 (al s1 (al s2 (al k28 (al k29 (al k30 an)))))))))))))))
     exact lO [I,I,I,I,I,I,I,I,O,I] k20 hR hC (by show(!(decide ((re x2).i>1000)||((nd 9 i ((re x2).i) [re x,re u2,nd 7 i ((re x2).i) [re x,re u2,re u,re u3]]).k==0||((re x3).k==0||(true&&(re u3).k==0)))))=false;rw [k28,k29]<;>kernel_rfl) hv (al k20 (al k21 (al k22 (al k23 (al k24 (al k25 (al s3 (al s4 (al k26 (al k27 (al s1 (al s2 (al k28 (al k29 an))))))))))))))
    exact lO [I,I,I,I,I,I,I,I,I] k20 hR hC (by show(!(decide ((re x2).i>1000)||((nd 9 i ((re x2).i) [re x,re u2,nd 7 i ((re x2).i) [re x,re u2,re u,re u3]]).k==0||((re x3).k==0||(true&&(re u3).k==0)))))=false;rw [k28]<;>kernel_rfl) hv (al k20 (al k21 (al k22 (al k23 (al k24 (al k25 (al s3 (al s4 (al k26 (al k27 (al s1 (al s2 (al k28 an)))))))))))))
set_option maxRecDepth 20000 in
set_option maxHeartbeats 4000000 in
theorem of21kf_any (c:List En) (n:Int) (u v:Tm) (i:Int) (xk xi xj xn:Int) (p q:Tm) (k100:purC c=true) (k101:rightJ {eq:=false,u:=re u,v:=re v,a:=Tm.mk xk xi xj xn [re p,re q],i:=i} ↑c.length=true) (k102:(xk==3)=true) (k103:(i==max xi xj)=true) (hs:Sml c [⟨false,re u,re v,.mk xk xi xj xn [re p,re q],i⟩]) {w:World} {A:Nat→Prop} {vs:List Value} (hv:F2 (ArgDen w A) (aOf c 21 n [⟨false,re u,re v,.mk xk xi xj xn [re p,re q],i⟩]) vs):Calls Try.prog 27 vs.toArray w (GivesO A (ofB c 21 n [⟨false,re u,re v,.mk xk xi xj xn [re p,re q],i⟩]) w):=by
 have hA:allR c.length 21 0 [⟨false,re u,re v,.mk xk xi xj xn [re p,re q],i⟩]=(rightJ ⟨false,re u,re v,.mk xk xi xj xn [re p,re q],i⟩ ↑c.length&&true):=by kernel_rfl
 have hC:concB c n 21 [⟨false,re u,re v,.mk xk xi xj xn [re p,re q],i⟩]=if((!false)&&((xk==3)&&(i==max xi xj)))=true then some ⟨true,re u,nd 4 xi xj [re p,re q,nd 5 xi xj [(re p).liftB 1 0,(re q).liftB 1 1,(re u).liftB 1 0,.mk 2 0 0 0 []]],.mk xk xi xj xn [re p,re q],i⟩ else none:=by kernel_rfl
 have zu:(re u).size≤1000:=(hs.js _ (List.mem_cons_self ..)).1
 have zx:(.mk xk xi xj xn [re p,re q]:Tm).size≤1000:=(hs.js _ (List.mem_cons_self ..)).2.2
 rw [re_eq] at zu
 simp only [Tm.size,sizes,re_eq] at zx
 have l1:=liftB_size p 1 0
 have l2:=liftB_size q 1 1
 have l3:=liftB_size u 1 0
 have hR:=hA.trans (show _=true by rw [k101]<;>kernel_rfl)
 have s1:(re p).deep≤100000:=by refine Nat.le_trans (deep_le_size _) ?_;simp only [re_eq,Tm.size,sizes];omega
 have s2:(re q).deep≤100000:=by refine Nat.le_trans (deep_le_size _) ?_;simp only [re_eq,Tm.size,sizes];omega
 have s3:(re u).deep≤100000:=by refine Nat.le_trans (deep_le_size _) ?_;simp only [re_eq,Tm.size,sizes];omega
 have s4:[re ((re u).liftB 1 0),Tm.mk 2 0 0 0 []].length≤10:=Nat.le_of_ble_eq_true rfl
 have s5:[Tm.mk 5 xi xj 0 [re ((re p).liftB 1 0),re ((re q).liftB 1 1),re ((re u).liftB 1 0),Tm.mk 2 0 0 0 []]].length≤10:=Nat.le_of_ble_eq_true rfl
 have s6:(re u).size≤10000000:=sz1 zu
 have s7:(Tm.mk 4 xi xj 0 [re p,re q,Tm.mk 5 xi xj 0 [re ((re p).liftB 1 0),re ((re q).liftB 1 1),re ((re u).liftB 1 0),Tm.mk 2 0 0 0 []]]).size≤10000000:=by simp only [re_eq,Tm.size,sizes];omega
 have s8:(Tm.mk xk xi xj xn [re p,re q]).size≤10000000:=by simp only [re_eq,Tm.size,sizes];omega
 apply bc (decide (i>1000))<;>intro k6
 ·apply bc (((re u).k==0))<;>intro k7
  ·apply bc ((xk==0))<;>intro k8
   ·rw [of_s k100 hR hC (by rw [k102,k103]<;>kernel_rfl) (by show(!(decide (i>1000)||((re u).k==0||(xk==0||(true&&(nd 4 xi xj [re p,re q,nd 5 xi xj [(re p).liftB 1 0,(re q).liftB 1 1,(re u).liftB 1 0,.mk 2 0 0 0 []]]).k==0)))))=true;rw [k6,k7,k8]<;>kernel_rfl)];rw [show(⟨true,re u,nd 4 xi xj [re p,re q,nd 5 xi xj [(re p).liftB 1 0,(re q).liftB 1 1,(re u).liftB 1 0,.mk 2 0 0 0 []]],.mk xk xi xj xn [re p,re q],i⟩:Jd)=⟨true,re u,nd 4 xi xj [re p,re q,nd 5 xi xj [re ((re p).liftB 1 0),re ((re q).liftB 1 1),re ((re u).liftB 1 0),.mk 2 0 0 0 []]],.mk xk xi xj xn [re p,re q],i⟩ from by simp only [re_eq]];exact leafS [I,I,O,O,O,O,O] hv (al k100 (al k101 (al (bneT k102) (al (bneT k103) (al s1 (al s2 (al s3 (al s4 (al s5 (al k6 (al k7 (al k8 (al s6 (al s7 (al s8 an)))))))))))))))
   exact lO [I,I,O,O,O,O,I] k100 hR hC (by show(!(decide (i>1000)||((re u).k==0||(xk==0||(true&&(nd 4 xi xj [re p,re q,nd 5 xi xj [(re p).liftB 1 0,(re q).liftB 1 1,(re u).liftB 1 0,.mk 2 0 0 0 []]]).k==0)))))=false;rw [k6,k7,k8]<;>kernel_rfl) hv (al k100 (al k101 (al (bneT k102) (al (bneT k103) (al s1 (al s2 (al s3 (al s4 (al s5 (al k6 (al k7 (al k8 an))))))))))))
  exact lO [I,I,O,O,O,I] k100 hR hC (by show(!(decide (i>1000)||((re u).k==0||(xk==0||(true&&(nd 4 xi xj [re p,re q,nd 5 xi xj [(re p).liftB 1 0,(re q).liftB 1 1,(re u).liftB 1 0,.mk 2 0 0 0 []]]).k==0)))))=false;rw [k6,k7]<;>kernel_rfl) hv (al k100 (al k101 (al (bneT k102) (al (bneT k103) (al s1 (al s2 (al s3 (al s4 (al s5 (al k6 (al k7 an)))))))))))
 exact lO [I,I,O,O,I] k100 hR hC (by show(!(decide (i>1000)||((re u).k==0||(xk==0||(true&&(nd 4 xi xj [re p,re q,nd 5 xi xj [(re p).liftB 1 0,(re q).liftB 1 1,(re u).liftB 1 0,.mk 2 0 0 0 []]]).k==0)))))=false;rw [k6]<;>kernel_rfl) hv (al k100 (al k101 (al (bneT k102) (al (bneT k103) (al s1 (al s2 (al s3 (al s4 (al s5 (al k6 an))))))))))
set_option maxRecDepth 20000 in
set_option maxHeartbeats 4000000 in
theorem of21_any (c:List En) (n:Int) (e:Bool) (u v x:Tm) (i:Int) (hs:Sml c [⟨e,re u,re v,re x,i⟩]) {w:World} {A:Nat→Prop} {vs:List Value} (hv:F2 (ArgDen w A) (aOf c 21 n [⟨e,re u,re v,re x,i⟩]) vs):Calls Try.prog 27 vs.toArray w (GivesO A (ofB c 21 n [⟨e,re u,re v,re x,i⟩]) w):=by
 have hA:allR c.length 21 0 [⟨e,re u,re v,re x,i⟩]=(rightJ ⟨e,re u,re v,re x,i⟩ ↑c.length&&true):=by kernel_rfl
 have hC:concB c n 21 [⟨e,re u,re v,re x,i⟩]=if((!e)&&(((re x).k==3)&&(i==max (re x).i (re x).j)))=true then some ⟨true,re u,nd 4 ((re x).i) ((re x).j) [kd (re x) 0,kd (re x) 1,nd 5 ((re x).i) ((re x).j) [(kd (re x) 0).liftB 1 0,(kd (re x) 1).liftB 1 1,(re u).liftB 1 0,.mk 2 0 0 0 []]],re x,i⟩ else none:=by kernel_rfl
 obtain⟨zu,zv,zx⟩:=hs.z
 cases e with
 | true =>
  apply bc (purC c)<;>intro k0
  ·exact lP [O] k0 hv (al k0 an)
  apply bc (rightJ ⟨true,re u,re v,re x,i⟩ ↑c.length)<;>intro k1
  ·exact lA [I,O] (by rw [hA,k1]<;>kernel_rfl) hv (al k0 (al k1 an))
  have hR:=hA.trans (show _=true by rw [k1]<;>kernel_rfl)
  exact lT [I,I] k0 hR hC (by kernel_rfl) hv (al k0 (al k1 an))
 | false =>
  apply bc (purC c)<;>intro k2
  ·exact lP [O] k2 hv (al k2 an)
  apply bc (rightJ ⟨false,re u,re v,re x,i⟩ ↑c.length)<;>intro k3
  ·exact lA [I,O] (by rw [hA,k3]<;>kernel_rfl) hv (al k2 (al k3 an))
  have hR:=hA.trans (show _=true by rw [k3]<;>kernel_rfl)
  apply bd (((re x).k==3))<;>intro k4
  ·apply bd ((i==max (re x).i (re x).j))<;>intro k5
   ·obtain⟨p,q,hk⟩:=two_kids (t:=re x) (right_u k3).2 (Or.inl (by simpa using k4))
    have hx:re x=.mk x.k x.i x.j x.n [re p,re q]:=by
     have hk2:x.kids=[p,q]:=hk
     simp only [re_eq]
     rw [←hk2]
     exact x.eta.symm
    have H:=of21kf_any c n u v i x.k x.i x.j x.n p q (by first | exact k2 | (rw [←hx];exact k2)) (by first | exact k3 | (rw [←hx];exact k3)) (by first | exact k4 | (rw [←hx];exact k4)) (by first | exact k5 | (rw [←hx];exact k5)) (A:=A) (w:=w) (vs:=vs)
    rw [←hx] at H
    exact H hs hv
   exact lT [I,I,O,I] k2 hR hC (by rw [k4,k5]<;>kernel_rfl) hv (al k2 (al k3 (al (bneT k4) (al (bneF k5) an))))
  exact lT [I,I,I] k2 hR hC (by rw [k4]<;>kernel_rfl) hv (al k2 (al k3 (al (bneF k4) an)))
set_option maxRecDepth 20000 in
set_option maxHeartbeats 4000000 in
theorem of22kf_any (c:List En) (n:Int) (u v:Tm) (i:Int) (xk xi xj xn:Int) (p q:Tm) (k100:purC c=true) (k101:rightJ {eq:=false,u:=re u,v:=re v,a:=Tm.mk xk xi xj xn [re p,re q],i:=i} ↑c.length=true) (k102:(xk==6)=true) (k103:(i==max xi xj)=true) (hs:Sml c [⟨false,re u,re v,.mk xk xi xj xn [re p,re q],i⟩]) {w:World} {A:Nat→Prop} {vs:List Value} (hv:F2 (ArgDen w A) (aOf c 22 n [⟨false,re u,re v,.mk xk xi xj xn [re p,re q],i⟩]) vs):Calls Try.prog 27 vs.toArray w (GivesO A (ofB c 22 n [⟨false,re u,re v,.mk xk xi xj xn [re p,re q],i⟩]) w):=by
 have hA:allR c.length 22 0 [⟨false,re u,re v,.mk xk xi xj xn [re p,re q],i⟩]=(rightJ ⟨false,re u,re v,.mk xk xi xj xn [re p,re q],i⟩ ↑c.length&&true):=by kernel_rfl
 have hC:concB c n 22 [⟨false,re u,re v,.mk xk xi xj xn [re p,re q],i⟩]=if((!false)&&((xk==6)&&(i==max xi xj)))=true then some ⟨true,re u,nd 7 xi xj [re p,re q,nd 8 xi xj [re p,re q,re u],nd 9 xi xj [re p,re q,re u]],.mk xk xi xj xn [re p,re q],i⟩ else none:=by kernel_rfl
 have zu:(re u).size≤1000:=(hs.js _ (List.mem_cons_self ..)).1
 have zx:(.mk xk xi xj xn [re p,re q]:Tm).size≤1000:=(hs.js _ (List.mem_cons_self ..)).2.2
 rw [re_eq] at zu
 simp only [Tm.size,sizes,re_eq] at zx
 have hR:=hA.trans (show _=true by rw [k101]<;>kernel_rfl)
 have s1:[re u].length≤10:=Nat.le_of_ble_eq_true rfl
 have s2:[Tm.mk 8 xi xj 0 [re p,re q,re u],Tm.mk 9 xi xj 0 [re p,re q,re u]].length≤10:=Nat.le_of_ble_eq_true rfl
 have s3:(re u).size≤10000000:=sz1 zu
 have s4:(Tm.mk 7 xi xj 0 [re p,re q,Tm.mk 8 xi xj 0 [re p,re q,re u],Tm.mk 9 xi xj 0 [re p,re q,re u]]).size≤10000000:=by simp only [re_eq,Tm.size,sizes];omega
 have s5:(Tm.mk xk xi xj xn [re p,re q]).size≤10000000:=by simp only [re_eq,Tm.size,sizes];omega
 apply bc (decide (i>1000))<;>intro k6
 ·apply bc (((re u).k==0))<;>intro k7
  ·apply bc ((xk==0))<;>intro k8
   ·exact lS [I,I,O,O,O,O,O] k100 hR hC (by rw [k102,k103]<;>kernel_rfl) (by show(!(decide (i>1000)||((re u).k==0||(xk==0||(true&&(nd 7 xi xj [re p,re q,nd 8 xi xj [re p,re q,re u],nd 9 xi xj [re p,re q,re u]]).k==0)))))=true;rw [k6,k7,k8]<;>kernel_rfl) hv (al k100 (al k101 (al (bneT k102) (al (bneT k103) (al s1 (al s1 (al s2 (al k6 (al k7 (al k8 (al s3 (al s4 (al s5 an)))))))))))))
   exact lO [I,I,O,O,O,O,I] k100 hR hC (by show(!(decide (i>1000)||((re u).k==0||(xk==0||(true&&(nd 7 xi xj [re p,re q,nd 8 xi xj [re p,re q,re u],nd 9 xi xj [re p,re q,re u]]).k==0)))))=false;rw [k6,k7,k8]<;>kernel_rfl) hv (al k100 (al k101 (al (bneT k102) (al (bneT k103) (al s1 (al s1 (al s2 (al k6 (al k7 (al k8 an))))))))))
  exact lO [I,I,O,O,O,I] k100 hR hC (by show(!(decide (i>1000)||((re u).k==0||(xk==0||(true&&(nd 7 xi xj [re p,re q,nd 8 xi xj [re p,re q,re u],nd 9 xi xj [re p,re q,re u]]).k==0)))))=false;rw [k6,k7]<;>kernel_rfl) hv (al k100 (al k101 (al (bneT k102) (al (bneT k103) (al s1 (al s1 (al s2 (al k6 (al k7 an)))))))))
 exact lO [I,I,O,O,I] k100 hR hC (by show(!(decide (i>1000)||((re u).k==0||(xk==0||(true&&(nd 7 xi xj [re p,re q,nd 8 xi xj [re p,re q,re u],nd 9 xi xj [re p,re q,re u]]).k==0)))))=false;rw [k6]<;>kernel_rfl) hv (al k100 (al k101 (al (bneT k102) (al (bneT k103) (al s1 (al s1 (al s2 (al k6 an))))))))
set_option maxRecDepth 20000 in
set_option maxHeartbeats 4000000 in
theorem of22_any (c:List En) (n:Int) (e:Bool) (u v x:Tm) (i:Int) (hs:Sml c [⟨e,re u,re v,re x,i⟩]) {w:World} {A:Nat→Prop} {vs:List Value} (hv:F2 (ArgDen w A) (aOf c 22 n [⟨e,re u,re v,re x,i⟩]) vs):Calls Try.prog 27 vs.toArray w (GivesO A (ofB c 22 n [⟨e,re u,re v,re x,i⟩]) w):=by
 have hA:allR c.length 22 0 [⟨e,re u,re v,re x,i⟩]=(rightJ ⟨e,re u,re v,re x,i⟩ ↑c.length&&true):=by kernel_rfl
 have hC:concB c n 22 [⟨e,re u,re v,re x,i⟩]=if((!e)&&(((re x).k==6)&&(i==max (re x).i (re x).j)))=true then some ⟨true,re u,nd 7 ((re x).i) ((re x).j) [kd (re x) 0,kd (re x) 1,nd 8 ((re x).i) ((re x).j) [kd (re x) 0,kd (re x) 1,re u],nd 9 ((re x).i) ((re x).j) [kd (re x) 0,kd (re x) 1,re u]],re x,i⟩ else none:=by kernel_rfl
 obtain⟨zu,zv,zx⟩:=hs.z
 cases e with
 | true =>
  apply bc (purC c)<;>intro k0
  ·exact lP [O] k0 hv (al k0 an)
  apply bc (rightJ ⟨true,re u,re v,re x,i⟩ ↑c.length)<;>intro k1
  ·exact lA [I,O] (by rw [hA,k1]<;>kernel_rfl) hv (al k0 (al k1 an))
  have hR:=hA.trans (show _=true by rw [k1]<;>kernel_rfl)
  have s1:[re u].length≤10:=Nat.le_of_ble_eq_true rfl
  have s2:[Tm.mk 8 0 0 0 [Tm.mk 0 0 0 0 [],Tm.mk 0 0 0 0 [],re u],Tm.mk 9 0 0 0 [Tm.mk 0 0 0 0 [],Tm.mk 0 0 0 0 [],re u]].length≤10:=Nat.le_of_ble_eq_true rfl
  exact lT [I,I] k0 hR hC (by kernel_rfl) hv (al k0 (al k1 (al s1 (al s1 (al s2 an)))))
 | false =>
  apply bc (purC c)<;>intro k2
  ·exact lP [O] k2 hv (al k2 an)
  apply bc (rightJ ⟨false,re u,re v,re x,i⟩ ↑c.length)<;>intro k3
  ·exact lA [I,O] (by rw [hA,k3]<;>kernel_rfl) hv (al k2 (al k3 an))
  have hR:=hA.trans (show _=true by rw [k3]<;>kernel_rfl)
  have s1:[re u].length≤10:=Nat.le_of_ble_eq_true rfl
  have s2:[Tm.mk 8 0 0 0 [Tm.mk 0 0 0 0 [],Tm.mk 0 0 0 0 [],re u],Tm.mk 9 0 0 0 [Tm.mk 0 0 0 0 [],Tm.mk 0 0 0 0 [],re u]].length≤10:=Nat.le_of_ble_eq_true rfl
  apply bd (((re x).k==6))<;>intro k4
  ·apply bd ((i==max (re x).i (re x).j))<;>intro k5
   ·obtain⟨p,q,hk⟩:=two_kids (t:=re x) (right_u k3).2 (Or.inr (by simpa using k4))
    have hx:re x=.mk x.k x.i x.j x.n [re p,re q]:=by
     have hk2:x.kids=[p,q]:=hk
     simp only [re_eq]
     rw [←hk2]
     exact x.eta.symm
    have H:=of22kf_any c n u v i x.k x.i x.j x.n p q (by first | exact k2 | (rw [←hx];exact k2)) (by first | exact k3 | (rw [←hx];exact k3)) (by first | exact k4 | (rw [←hx];exact k4)) (by first | exact k5 | (rw [←hx];exact k5)) (A:=A) (w:=w) (vs:=vs)
    rw [←hx] at H
    exact H hs hv
   exact lT [I,I,O,I] k2 hR hC (by rw [k4,k5]<;>kernel_rfl) hv (al k2 (al k3 (al (bneT k4) (al (bneF k5) (al s1 (al s1 (al s2 an)))))))
  exact lT [I,I,I] k2 hR hC (by rw [k4]<;>kernel_rfl) hv (al k2 (al k3 (al (bneF k4) (al s1 (al s1 (al s2 an))))))
set_option maxRecDepth 20000 in
set_option maxHeartbeats 4000000 in
theorem of23_any (c:List En) (n:Int) (e:Bool) (u v x:Tm) (i:Int) (e2:Bool) (u2 v2 x2:Tm) (i2:Int) (hs:Sml c [⟨e,re u,re v,re x,i⟩,⟨e2,re u2,re v2,re x2,i2⟩]) {w:World} {A:Nat→Prop} {vs:List Value} (hv:F2 (ArgDen w A) (aOf c 23 n [⟨e,re u,re v,re x,i⟩,⟨e2,re u2,re v2,re x2,i2⟩]) vs):Calls Try.prog 27 vs.toArray w (GivesO A (ofB c 23 n [⟨e,re u,re v,re x,i⟩,⟨e2,re u2,re v2,re x2,i2⟩]) w):=by
 have hA:allR c.length 23 0 [⟨e,re u,re v,re x,i⟩,⟨e2,re u2,re v2,re x2,i2⟩]=(rightJ ⟨e,re u,re v,re x,i⟩ ↑c.length&&(rightJ ⟨e2,re u2,re v2,re x2,i2⟩ (IntKind.i64.wrap (↑c.length+1))&&true)):=by kernel_rfl
 have hC:concB c n 23 [⟨e,re u,re v,re x,i⟩,⟨e2,re u2,re v2,re x2,i2⟩]=if(e&&(!e2))=true then some ⟨true,(re u2).putB (re u),(re u2).putB (re v),(re x2).putB (re u),i2⟩ else none:=by kernel_rfl
 obtain⟨zu,zv,zx⟩:=hs.z
 obtain⟨zu2,zv2,zx2⟩:=hs.tl.z
 cases e with
 | true =>
  cases e2 with
  | true =>
   apply bc (purC c)<;>intro k0
   ·exact lP [O] k0 hv (al k0 an)
   apply bc (rightJ ⟨true,re u,re v,re x,i⟩ ↑c.length)<;>intro k1
   ·exact lA [I,O] (by rw [hA,k1]<;>kernel_rfl) hv (al k0 (al k1 an))
   apply bc (rightJ ⟨true,re u2,re v2,re x2,i2⟩ (IntKind.i64.wrap (↑c.length+1)))<;>intro k2
   ·exact lA [I,I,O] (by rw [hA,k1,k2]<;>kernel_rfl) hv (al k0 (al k1 (al k2 an)))
   have hR:=hA.trans (show _=true by rw [k1,k2]<;>kernel_rfl)
   have s1:(re u2).deep≤100000:=by refine Nat.le_trans (deep_le_size _) ?_;simp only [re_eq,Tm.size,sizes];omega
   have s2:(re u).deep≤100000:=by refine Nat.le_trans (deep_le_size _) ?_;simp only [re_eq,Tm.size,sizes];omega
   have s3:(re v).deep≤100000:=by refine Nat.le_trans (deep_le_size _) ?_;simp only [re_eq,Tm.size,sizes];omega
   have s4:(re x2).deep≤100000:=by refine Nat.le_trans (deep_le_size _) ?_;simp only [re_eq,Tm.size,sizes];omega
   have s5:(re ((re u2).putB (re u))).size≤10000000:=by rw [re_eq];exact putB_le (right_u k2).1 (by simp only [re_eq,Tm.size,sizes];omega) (by simp only [re_eq,Tm.size,sizes];omega)
   have s6:(re ((re u2).putB (re v))).size≤10000000:=by rw [re_eq];exact putB_le (right_u k2).1 (by simp only [re_eq,Tm.size,sizes];omega) (by simp only [re_eq,Tm.size,sizes];omega)
   have s7:(re ((re x2).putB (re u))).size≤10000000:=by rw [re_eq];exact putB_le (right_u k2).2 (by simp only [re_eq,Tm.size,sizes];omega) (by simp only [re_eq,Tm.size,sizes];omega)
   exact lT [I,I,I] k0 hR hC (by kernel_rfl) hv (al k0 (al k1 (al k2 (al s1 (al s2 (al s1 (al s3 (al s4 (al s2 an)))))))))
  | false =>
   apply bc (purC c)<;>intro k3
   ·exact lP [O] k3 hv (al k3 an)
   apply bc (rightJ ⟨true,re u,re v,re x,i⟩ ↑c.length)<;>intro k4
   ·exact lA [I,O] (by rw [hA,k4]<;>kernel_rfl) hv (al k3 (al k4 an))
   apply bc (rightJ ⟨false,re u2,re v2,re x2,i2⟩ (IntKind.i64.wrap (↑c.length+1)))<;>intro k5
   ·exact lA [I,I,O] (by rw [hA,k4,k5]<;>kernel_rfl) hv (al k3 (al k4 (al k5 an)))
   have hR:=hA.trans (show _=true by rw [k4,k5]<;>kernel_rfl)
   have s1:(re u2).deep≤100000:=by refine Nat.le_trans (deep_le_size _) ?_;simp only [re_eq,Tm.size,sizes];omega
   have s2:(re u).deep≤100000:=by refine Nat.le_trans (deep_le_size _) ?_;simp only [re_eq,Tm.size,sizes];omega
   have s3:(re v).deep≤100000:=by refine Nat.le_trans (deep_le_size _) ?_;simp only [re_eq,Tm.size,sizes];omega
   have s4:(re x2).deep≤100000:=by refine Nat.le_trans (deep_le_size _) ?_;simp only [re_eq,Tm.size,sizes];omega
   have s5:(re ((re u2).putB (re u))).size≤10000000:=by rw [re_eq];exact putB_le (right_u k5).1 (by simp only [re_eq,Tm.size,sizes];omega) (by simp only [re_eq,Tm.size,sizes];omega)
   have s6:(re ((re u2).putB (re v))).size≤10000000:=by rw [re_eq];exact putB_le (right_u k5).1 (by simp only [re_eq,Tm.size,sizes];omega) (by simp only [re_eq,Tm.size,sizes];omega)
   have s7:(re ((re x2).putB (re u))).size≤10000000:=by rw [re_eq];exact putB_le (right_u k5).2 (by simp only [re_eq,Tm.size,sizes];omega) (by simp only [re_eq,Tm.size,sizes];omega)
   apply bc (decide (i2>1000))<;>intro k6
   ·apply bc ((((re u2).putB (re u)).k==0))<;>intro k7
    ·apply bc ((((re x2).putB (re u)).k==0))<;>intro k8
     ·apply bc ((((re u2).putB (re v)).k==0))<;>intro k9
      ·exact lS [I,I,I,O,O,O,O] k3 hR hC (by kernel_rfl) (by show(!(decide (i2>1000)||(((re u2).putB (re u)).k==0||(((re x2).putB (re u)).k==0||(true&&((re u2).putB (re v)).k==0)))))=true;rw [k6,k7,k8,k9]<;>kernel_rfl) hv (al k3 (al k4 (al k5 (al s1 (al s2 (al s1 (al s3 (al s4 (al s2 (al k6 (al k7 (al k8 (al k9 (al s5 (al s6 (al s7 an))))))))))))))))
      exact lO [I,I,I,O,O,O,I] k3 hR hC (by show(!(decide (i2>1000)||(((re u2).putB (re u)).k==0||(((re x2).putB (re u)).k==0||(true&&((re u2).putB (re v)).k==0)))))=false;rw [k6,k7,k8,k9]<;>kernel_rfl) hv (al k3 (al k4 (al k5 (al s1 (al s2 (al s1 (al s3 (al s4 (al s2 (al k6 (al k7 (al k8 (al k9 an)))))))))))))
     exact lO [I,I,I,O,O,I] k3 hR hC (by show(!(decide (i2>1000)||(((re u2).putB (re u)).k==0||(((re x2).putB (re u)).k==0||(true&&((re u2).putB (re v)).k==0)))))=false;rw [k6,k7,k8]<;>kernel_rfl) hv (al k3 (al k4 (al k5 (al s1 (al s2 (al s1 (al s3 (al s4 (al s2 (al k6 (al k7 (al k8 an))))))))))))
    exact lO [I,I,I,O,I] k3 hR hC (by show(!(decide (i2>1000)||(((re u2).putB (re u)).k==0||(((re x2).putB (re u)).k==0||(true&&((re u2).putB (re v)).k==0)))))=false;rw [k6,k7]<;>kernel_rfl) hv (al k3 (al k4 (al k5 (al s1 (al s2 (al s1 (al s3 (al s4 (al s2 (al k6 (al k7 an)))))))))))
   exact lO [I,I,I,I] k3 hR hC (by show(!(decide (i2>1000)||(((re u2).putB (re u)).k==0||(((re x2).putB (re u)).k==0||(true&&((re u2).putB (re v)).k==0)))))=false;rw [k6]<;>kernel_rfl) hv (al k3 (al k4 (al k5 (al s1 (al s2 (al s1 (al s3 (al s4 (al s2 (al k6 an))))))))))
 | false =>
  apply bc (purC c)<;>intro k10
  ·exact lP [O] k10 hv (al k10 an)
  apply bc (rightJ ⟨false,re u,re v,re x,i⟩ ↑c.length)<;>intro k11
  ·exact lA [I,O] (by rw [hA,k11]<;>kernel_rfl) hv (al k10 (al k11 an))
  apply bc (rightJ ⟨e2,re u2,re v2,re x2,i2⟩ (IntKind.i64.wrap (↑c.length+1)))<;>intro k12
  ·exact lA [I,I,O] (by rw [hA,k11,k12]<;>kernel_rfl) hv (al k10 (al k11 (al k12 an)))
  have hR:=hA.trans (show _=true by rw [k11,k12]<;>kernel_rfl)
  have s1:(re u2).deep≤100000:=by refine Nat.le_trans (deep_le_size _) ?_;simp only [re_eq,Tm.size,sizes];omega
  have s2:(re u).deep≤100000:=by refine Nat.le_trans (deep_le_size _) ?_;simp only [re_eq,Tm.size,sizes];omega
  have s3:(re v).deep≤100000:=by refine Nat.le_trans (deep_le_size _) ?_;simp only [re_eq,Tm.size,sizes];omega
  have s4:(re x2).deep≤100000:=by refine Nat.le_trans (deep_le_size _) ?_;simp only [re_eq,Tm.size,sizes];omega
  have s5:(re ((re u2).putB (re u))).size≤10000000:=by rw [re_eq];exact putB_le (right_u k12).1 (by simp only [re_eq,Tm.size,sizes];omega) (by simp only [re_eq,Tm.size,sizes];omega)
  have s6:(re ((re u2).putB (re v))).size≤10000000:=by rw [re_eq];exact putB_le (right_u k12).1 (by simp only [re_eq,Tm.size,sizes];omega) (by simp only [re_eq,Tm.size,sizes];omega)
  have s7:(re ((re x2).putB (re u))).size≤10000000:=by rw [re_eq];exact putB_le (right_u k12).2 (by simp only [re_eq,Tm.size,sizes];omega) (by simp only [re_eq,Tm.size,sizes];omega)
  exact lT [I,I,I] k10 hR hC (by kernel_rfl) hv (al k10 (al k11 (al k12 (al s1 (al s2 (al s1 (al s3 (al s4 (al s2 an)))))))))
set_option maxRecDepth 20000 in
set_option maxHeartbeats 4000000 in
theorem of24_any (c:List En) (n:Int) (e:Bool) (u v x:Tm) (i:Int) (e2:Bool) (u2 v2 x2:Tm) (i2:Int) (hs:Sml c [⟨e,re u,re v,re x,i⟩,⟨e2,re u2,re v2,re x2,i2⟩]) {w:World} {A:Nat→Prop} {vs:List Value} (hv:F2 (ArgDen w A) (aOf c 24 n [⟨e,re u,re v,re x,i⟩,⟨e2,re u2,re v2,re x2,i2⟩]) vs):Calls Try.prog 27 vs.toArray w (GivesO A (ofB c 24 n [⟨e,re u,re v,re x,i⟩,⟨e2,re u2,re v2,re x2,i2⟩]) w):=by
 have hA:allR c.length 24 0 [⟨e,re u,re v,re x,i⟩,⟨e2,re u2,re v2,re x2,i2⟩]=(rightJ ⟨e,re u,re v,re x,i⟩ ↑c.length&&(rightJ ⟨e2,re u2,re v2,re x2,i2⟩ ↑c.length&&true)):=by kernel_rfl
 have hC:concB c n 24 [⟨e,re u,re v,re x,i⟩,⟨e2,re u2,re v2,re x2,i2⟩]=if(((!e)&&(((re x).k==10)&&((re x).i==i)))&&((!e2)&&((i2==i)&&sameB (re x2) (re x))))=true then some ⟨true,re u,re u2,re x,i⟩ else none:=by kernel_rfl
 obtain⟨zu,zv,zx⟩:=hs.z
 obtain⟨zu2,zv2,zx2⟩:=hs.tl.z
 cases e with
 | true =>
  apply bc (purC c)<;>intro k0
  ·exact lP [O] k0 hv (al k0 an)
  apply bc (rightJ ⟨true,re u,re v,re x,i⟩ ↑c.length)<;>intro k1
  ·exact lA [I,O] (by rw [hA,k1]<;>kernel_rfl) hv (al k0 (al k1 an))
  apply bc (rightJ ⟨e2,re u2,re v2,re x2,i2⟩ ↑c.length)<;>intro k2
  ·exact lA [I,I,O] (by rw [hA,k1,k2]<;>kernel_rfl) hv (al k0 (al k1 (al k2 an)))
  have hR:=hA.trans (show _=true by rw [k1,k2]<;>kernel_rfl)
  have s1:(re u).size≤10000000:=sz1 zu
  have s2:(re u2).size≤10000000:=sz1 zu2
  have s3:(re x).size≤10000000:=sz1 zx
  exact lT [I,I,I] k0 hR hC (by kernel_rfl) hv (al k0 (al k1 (al k2 an)))
 | false =>
  cases e2 with
  | true =>
   apply bc (purC c)<;>intro k3
   ·exact lP [O] k3 hv (al k3 an)
   apply bc (rightJ ⟨false,re u,re v,re x,i⟩ ↑c.length)<;>intro k4
   ·exact lA [I,O] (by rw [hA,k4]<;>kernel_rfl) hv (al k3 (al k4 an))
   apply bc (rightJ ⟨true,re u2,re v2,re x2,i2⟩ ↑c.length)<;>intro k5
   ·exact lA [I,I,O] (by rw [hA,k4,k5]<;>kernel_rfl) hv (al k3 (al k4 (al k5 an)))
   have hR:=hA.trans (show _=true by rw [k4,k5]<;>kernel_rfl)
   have s1:(re u).size≤10000000:=sz1 zu
   have s2:(re u2).size≤10000000:=sz1 zu2
   have s3:(re x).size≤10000000:=sz1 zx
   apply bc (((re x).k==10))<;>intro k6
   ·exact lT [I,I,I,O] k3 hR hC (by rw [k6]<;>kernel_rfl) hv (al k3 (al k4 (al k5 (al k6 an))))
   apply bc (((re x).i==i))<;>intro k7
   ·exact lT [I,I,I,I,O] k3 hR hC (by rw [k6,k7]<;>kernel_rfl) hv (al k3 (al k4 (al k5 (al k6 (al k7 an)))))
   exact lT [I,I,I,I,I] k3 hR hC (by rw [k6,k7]<;>kernel_rfl) hv (al k3 (al k4 (al k5 (al k6 (al k7 an)))))
  | false =>
   apply bc (purC c)<;>intro k8
   ·exact lP [O] k8 hv (al k8 an)
   apply bc (rightJ ⟨false,re u,re v,re x,i⟩ ↑c.length)<;>intro k9
   ·exact lA [I,O] (by rw [hA,k9]<;>kernel_rfl) hv (al k8 (al k9 an))
   apply bc (rightJ ⟨false,re u2,re v2,re x2,i2⟩ ↑c.length)<;>intro k10
   ·exact lA [I,I,O] (by rw [hA,k9,k10]<;>kernel_rfl) hv (al k8 (al k9 (al k10 an)))
   have hR:=hA.trans (show _=true by rw [k9,k10]<;>kernel_rfl)
   have s1:(re u).size≤10000000:=sz1 zu
   have s2:(re u2).size≤10000000:=sz1 zu2
   have s3:(re x).size≤10000000:=sz1 zx
   apply bc (((re x).k==10))<;>intro k11
   ·exact lT [I,I,I,O] k8 hR hC (by rw [k11]<;>kernel_rfl) hv (al k8 (al k9 (al k10 (al k11 an))))
   apply bc (((re x).i==i))<;>intro k12
   ·exact lT [I,I,I,I,O] k8 hR hC (by rw [k11,k12]<;>kernel_rfl) hv (al k8 (al k9 (al k10 (al k11 (al k12 an)))))
   apply bc ((i2==i))<;>intro k13
   ·exact lT [I,I,I,I,I,O] k8 hR hC (by rw [k11,k12,k13]<;>kernel_rfl) hv (al k8 (al k9 (al k10 (al k11 (al k12 (al k13 an))))))
   apply bc (sameB (re x2) (re x))<;>intro k14
   ·exact lT [I,I,I,I,I,I,O] k8 hR hC (by rw [k11,k12,k13,k14]<;>kernel_rfl) hv (al k8 (al k9 (al k10 (al k11 (al k12 (al k13 (al k14 an)))))))
   apply bc (decide (i>1000))<;>intro k15
   ·apply bc (((re u).k==0))<;>intro k16
    ·apply bc (((re x).k==0))<;>intro k17
     ·apply bc (((re u2).k==0))<;>intro k18
      ·exact lS [I,I,I,I,I,I,I,O,O,O,O] k8 hR hC (by rw [k11,k12,k13,k14]<;>kernel_rfl) (by show(!(decide (i>1000)||((re u).k==0||((re x).k==0||(true&&(re u2).k==0)))))=true;rw [k15,k16,k17,k18]<;>kernel_rfl) hv (al k8 (al k9 (al k10 (al k11 (al k12 (al k13 (al k14 (al k15 (al k16 (al k17 (al k18 (al s1 (al s2 (al s3 an))))))))))))))
      exact lO [I,I,I,I,I,I,I,O,O,O,I] k8 hR hC (by show(!(decide (i>1000)||((re u).k==0||((re x).k==0||(true&&(re u2).k==0)))))=false;rw [k15,k16,k17,k18]<;>kernel_rfl) hv (al k8 (al k9 (al k10 (al k11 (al k12 (al k13 (al k14 (al k15 (al k16 (al k17 (al k18 an)))))))))))
     exact lO [I,I,I,I,I,I,I,O,O,I] k8 hR hC (by show(!(decide (i>1000)||((re u).k==0||((re x).k==0||(true&&(re u2).k==0)))))=false;rw [k15,k16,k17]<;>kernel_rfl) hv (al k8 (al k9 (al k10 (al k11 (al k12 (al k13 (al k14 (al k15 (al k16 (al k17 an))))))))))
    exact lO [I,I,I,I,I,I,I,O,I] k8 hR hC (by show(!(decide (i>1000)||((re u).k==0||((re x).k==0||(true&&(re u2).k==0)))))=false;rw [k15,k16]<;>kernel_rfl) hv (al k8 (al k9 (al k10 (al k11 (al k12 (al k13 (al k14 (al k15 (al k16 an)))))))))
   exact lO [I,I,I,I,I,I,I,I] k8 hR hC (by show(!(decide (i>1000)||((re u).k==0||((re x).k==0||(true&&(re u2).k==0)))))=false;rw [k15]<;>kernel_rfl) hv (al k8 (al k9 (al k10 (al k11 (al k12 (al k13 (al k14 (al k15 an))))))))
end Go.Proofs.Ytgnllglbopaheaa.Se

namespace Go.Proofs.Ytgnllglbopaheaa.Se
open Go Go.RowKit
set_option linter.unusedSimpArgs false
set_option maxRecDepth 20000 in
set_option maxHeartbeats 4000000 in
theorem of25_any (c:List En) (n:Int) (e:Bool) (u v x:Tm) (i:Int) (e2:Bool) (u2 v2 x2:Tm) (i2:Int) (hs:Sml c [⟨e,re u,re v,re x,i⟩,⟨e2,re u2,re v2,re x2,i2⟩]) {w:World} {A:Nat→Prop} {vs:List Value} (hv:F2 (ArgDen w A) (aOf c 25 n [⟨e,re u,re v,re x,i⟩,⟨e2,re u2,re v2,re x2,i2⟩]) vs):Calls Try.prog 27 vs.toArray w (GivesO A (ofB c 25 n [⟨e,re u,re v,re x,i⟩,⟨e2,re u2,re v2,re x2,i2⟩]) w):=by
 have hA:allR c.length 25 0 [⟨e,re u,re v,re x,i⟩,⟨e2,re u2,re v2,re x2,i2⟩]=(rightJ ⟨e,re u,re v,re x,i⟩ ↑c.length&&(rightJ ⟨e2,re u2,re v2,re x2,i2⟩ (IntKind.i64.wrap (↑c.length+1))&&true)):=by kernel_rfl
 have hC:concB c n 25 [⟨e,re u,re v,re x,i⟩,⟨e2,re u2,re v2,re x2,i2⟩]=if((e&&(((re x).k==1)&&(i==W64 ((re x).i+1))))&&(e2&&(((re x2).k==1)&&(i2==W64 ((re x2).i+1)))))=true then some ⟨true,nd 3 ((re x).i) ((re x2).i) [re u,re u2],nd 3 ((re x).i) ((re x2).i) [re v,re v2],srt (max (re x).i (re x2).i),W64 ((max (re x).i (re x2).i)+1)⟩ else none:=by kernel_rfl
 obtain⟨zu,zv,zx⟩:=hs.z
 obtain⟨zu2,zv2,zx2⟩:=hs.tl.z
 cases e with
 | true =>
  cases e2 with
  | true =>
   apply bc (purC c)<;>intro k0
   ·exact lP [O] k0 hv (al k0 an)
   apply bc (rightJ ⟨true,re u,re v,re x,i⟩ ↑c.length)<;>intro k1
   ·exact lA [I,O] (by rw [hA,k1]<;>kernel_rfl) hv (al k0 (al k1 an))
   apply bc (rightJ ⟨true,re u2,re v2,re x2,i2⟩ (IntKind.i64.wrap (↑c.length+1)))<;>intro k2
   ·exact lA [I,I,O] (by rw [hA,k1,k2]<;>kernel_rfl) hv (al k0 (al k1 (al k2 an)))
   have hR:=hA.trans (show _=true by rw [k1,k2]<;>kernel_rfl)
   have s1:([]:List Tm).length≤10:=Nat.le_of_ble_eq_true rfl
   have s2:(Tm.mk 3 (re x).i (re x2).i 0 [re u,re u2]).size≤10000000:=by simp only [re_eq,Tm.size,sizes];omega
   have s3:(Tm.mk 3 (re x).i (re x2).i 0 [re v,re v2]).size≤10000000:=by simp only [re_eq,Tm.size,sizes];omega
   have s4:(Tm.mk 1 (max (re x).i (re x2).i) 0 0 []).size≤10000000:=by simp only [re_eq,Tm.size,sizes];omega
   apply bc (((re x).k==1))<;>intro k3
   ·apply bc (((re x2).k==1))<;>intro k4
    ·exact lT [I,I,I,O,O] k0 hR hC (by rw [k3,k4]<;>kernel_rfl) hv (al k0 (al k1 (al k2 (al k3 (al k4 (al s1 (al s1 an)))))))
    apply bc ((i2==IntKind.i64.wrap ((re x2).i+1)))<;>intro k5
    ·exact lT [I,I,I,O,I,O] k0 hR hC (by rw [k3,k4,k5]<;>kernel_rfl) hv (al k0 (al k1 (al k2 (al k3 (al k4 (al k5 (al s1 (al s1 an))))))))
    exact lT [I,I,I,O,I,I] k0 hR hC (by rw [k3,k4,k5]<;>kernel_rfl) hv (al k0 (al k1 (al k2 (al k3 (al k4 (al k5 (al s1 (al s1 an))))))))
   apply bc ((i==IntKind.i64.wrap ((re x).i+1)))<;>intro k6
   ·apply bc (((re x2).k==1))<;>intro k7
    ·exact lT [I,I,I,I,O,O] k0 hR hC (by rw [k3,k6,k7]<;>kernel_rfl) hv (al k0 (al k1 (al k2 (al k3 (al k6 (al k7 (al s1 (al s1 an))))))))
    apply bc ((i2==IntKind.i64.wrap ((re x2).i+1)))<;>intro k8
    ·exact lT [I,I,I,I,O,I,O] k0 hR hC (by rw [k3,k6,k7,k8]<;>kernel_rfl) hv (al k0 (al k1 (al k2 (al k3 (al k6 (al k7 (al k8 (al s1 (al s1 an)))))))))
    exact lT [I,I,I,I,O,I,I] k0 hR hC (by rw [k3,k6,k7,k8]<;>kernel_rfl) hv (al k0 (al k1 (al k2 (al k3 (al k6 (al k7 (al k8 (al s1 (al s1 an)))))))))
   apply bc (((re x2).k==1))<;>intro k9
   ·exact lT [I,I,I,I,I,O] k0 hR hC (by rw [k3,k6,k9]<;>kernel_rfl) hv (al k0 (al k1 (al k2 (al k3 (al k6 (al k9 (al s1 (al s1 an))))))))
   apply bc ((i2==IntKind.i64.wrap ((re x2).i+1)))<;>intro k10
   ·exact lT [I,I,I,I,I,I,O] k0 hR hC (by rw [k3,k6,k9,k10]<;>kernel_rfl) hv (al k0 (al k1 (al k2 (al k3 (al k6 (al k9 (al k10 (al s1 (al s1 an)))))))))
   apply bc (decide (IntKind.i64.wrap (max (re x).i (re x2).i+1)>1000))<;>intro k11
   ·exact lS [I,I,I,I,I,I,I,O] k0 hR hC (by rw [k3,k6,k9,k10]<;>kernel_rfl) (by show(!(decide (W64 ((max (re x).i (re x2).i)+1)>1000)||((nd 3 ((re x).i) ((re x2).i) [re u,re u2]).k==0||((srt (max (re x).i (re x2).i)).k==0||(true&&(nd 3 ((re x).i) ((re x2).i) [re v,re v2]).k==0)))))=true;rw [k11]<;>kernel_rfl) hv (al k0 (al k1 (al k2 (al k3 (al k6 (al k9 (al k10 (al s1 (al s1 (al k11 (al s2 (al s3 (al s4 an)))))))))))))
   exact lO [I,I,I,I,I,I,I,I] k0 hR hC (by show(!(decide (W64 ((max (re x).i (re x2).i)+1)>1000)||((nd 3 ((re x).i) ((re x2).i) [re u,re u2]).k==0||((srt (max (re x).i (re x2).i)).k==0||(true&&(nd 3 ((re x).i) ((re x2).i) [re v,re v2]).k==0)))))=false;rw [k11]<;>kernel_rfl) hv (al k0 (al k1 (al k2 (al k3 (al k6 (al k9 (al k10 (al s1 (al s1 (al k11 an))))))))))
  | false =>
   apply bc (purC c)<;>intro k12
   ·exact lP [O] k12 hv (al k12 an)
   apply bc (rightJ ⟨true,re u,re v,re x,i⟩ ↑c.length)<;>intro k13
   ·exact lA [I,O] (by rw [hA,k13]<;>kernel_rfl) hv (al k12 (al k13 an))
   apply bc (rightJ ⟨false,re u2,re v2,re x2,i2⟩ (IntKind.i64.wrap (↑c.length+1)))<;>intro k14
   ·exact lA [I,I,O] (by rw [hA,k13,k14]<;>kernel_rfl) hv (al k12 (al k13 (al k14 an)))
   have hR:=hA.trans (show _=true by rw [k13,k14]<;>kernel_rfl)
   have s1:([]:List Tm).length≤10:=Nat.le_of_ble_eq_true rfl
   have s2:(Tm.mk 3 (re x).i (re x2).i 0 [re u,re u2]).size≤10000000:=by simp only [re_eq,Tm.size,sizes];omega
   have s3:(Tm.mk 3 (re x).i (re x2).i 0 [re v,re v2]).size≤10000000:=by simp only [re_eq,Tm.size,sizes];omega
   have s4:(Tm.mk 1 (max (re x).i (re x2).i) 0 0 []).size≤10000000:=by simp only [re_eq,Tm.size,sizes];omega
   apply bc (((re x).k==1))<;>intro k15
   ·exact lT [I,I,I,O] k12 hR hC (by rw [k15]<;>kernel_rfl) hv (al k12 (al k13 (al k14 (al k15 (al s1 (al s1 an))))))
   apply bc ((i==IntKind.i64.wrap ((re x).i+1)))<;>intro k16
   ·exact lT [I,I,I,I,O] k12 hR hC (by rw [k15,k16]<;>kernel_rfl) hv (al k12 (al k13 (al k14 (al k15 (al k16 (al s1 (al s1 an)))))))
   exact lT [I,I,I,I,I] k12 hR hC (by rw [k15,k16]<;>kernel_rfl) hv (al k12 (al k13 (al k14 (al k15 (al k16 (al s1 (al s1 an)))))))
 | false =>
  cases e2 with
  | true =>
   apply bc (purC c)<;>intro k17
   ·exact lP [O] k17 hv (al k17 an)
   apply bc (rightJ ⟨false,re u,re v,re x,i⟩ ↑c.length)<;>intro k18
   ·exact lA [I,O] (by rw [hA,k18]<;>kernel_rfl) hv (al k17 (al k18 an))
   apply bc (rightJ ⟨true,re u2,re v2,re x2,i2⟩ (IntKind.i64.wrap (↑c.length+1)))<;>intro k19
   ·exact lA [I,I,O] (by rw [hA,k18,k19]<;>kernel_rfl) hv (al k17 (al k18 (al k19 an)))
   have hR:=hA.trans (show _=true by rw [k18,k19]<;>kernel_rfl)
   have s1:([]:List Tm).length≤10:=Nat.le_of_ble_eq_true rfl
   have s2:(Tm.mk 3 (re x).i (re x2).i 0 [re u,re u2]).size≤10000000:=by simp only [re_eq,Tm.size,sizes];omega
   have s3:(Tm.mk 3 (re x).i (re x2).i 0 [re v,re v2]).size≤10000000:=by simp only [re_eq,Tm.size,sizes];omega
   have s4:(Tm.mk 1 (max (re x).i (re x2).i) 0 0 []).size≤10000000:=by simp only [re_eq,Tm.size,sizes];omega
   apply bc (((re x2).k==1))<;>intro k20
   ·exact lT [I,I,I,O] k17 hR hC (by rw [k20]<;>kernel_rfl) hv (al k17 (al k18 (al k19 (al k20 (al s1 (al s1 an))))))
   apply bc ((i2==IntKind.i64.wrap ((re x2).i+1)))<;>intro k21
   ·exact lT [I,I,I,I,O] k17 hR hC (by rw [k20,k21]<;>kernel_rfl) hv (al k17 (al k18 (al k19 (al k20 (al k21 (al s1 (al s1 an)))))))
   exact lT [I,I,I,I,I] k17 hR hC (by rw [k20,k21]<;>kernel_rfl) hv (al k17 (al k18 (al k19 (al k20 (al k21 (al s1 (al s1 an)))))))
  | false =>
   apply bc (purC c)<;>intro k22
   ·exact lP [O] k22 hv (al k22 an)
   apply bc (rightJ ⟨false,re u,re v,re x,i⟩ ↑c.length)<;>intro k23
   ·exact lA [I,O] (by rw [hA,k23]<;>kernel_rfl) hv (al k22 (al k23 an))
   apply bc (rightJ ⟨false,re u2,re v2,re x2,i2⟩ (IntKind.i64.wrap (↑c.length+1)))<;>intro k24
   ·exact lA [I,I,O] (by rw [hA,k23,k24]<;>kernel_rfl) hv (al k22 (al k23 (al k24 an)))
   have hR:=hA.trans (show _=true by rw [k23,k24]<;>kernel_rfl)
   have s1:([]:List Tm).length≤10:=Nat.le_of_ble_eq_true rfl
   have s2:(Tm.mk 3 (re x).i (re x2).i 0 [re u,re u2]).size≤10000000:=by simp only [re_eq,Tm.size,sizes];omega
   have s3:(Tm.mk 3 (re x).i (re x2).i 0 [re v,re v2]).size≤10000000:=by simp only [re_eq,Tm.size,sizes];omega
   have s4:(Tm.mk 1 (max (re x).i (re x2).i) 0 0 []).size≤10000000:=by simp only [re_eq,Tm.size,sizes];omega
   exact lT [I,I,I] k22 hR hC (by kernel_rfl) hv (al k22 (al k23 (al k24 (al s1 (al s1 an)))))
set_option maxRecDepth 20000 in
set_option maxHeartbeats 4000000 in
theorem of26_any (c:List En) (n:Int) (e:Bool) (u v x:Tm) (i:Int) (e2:Bool) (u2 v2 x2:Tm) (i2:Int) (hs:Sml c [⟨e,re u,re v,re x,i⟩,⟨e2,re u2,re v2,re x2,i2⟩]) {w:World} {A:Nat→Prop} {vs:List Value} (hv:F2 (ArgDen w A) (aOf c 26 n [⟨e,re u,re v,re x,i⟩,⟨e2,re u2,re v2,re x2,i2⟩]) vs):Calls Try.prog 27 vs.toArray w (GivesO A (ofB c 26 n [⟨e,re u,re v,re x,i⟩,⟨e2,re u2,re v2,re x2,i2⟩]) w):=by
 have hA:allR c.length 26 0 [⟨e,re u,re v,re x,i⟩,⟨e2,re u2,re v2,re x2,i2⟩]=(rightJ ⟨e,re u,re v,re x,i⟩ ↑c.length&&(rightJ ⟨e2,re u2,re v2,re x2,i2⟩ (IntKind.i64.wrap (↑c.length+1))&&true)):=by kernel_rfl
 have hC:concB c n 26 [⟨e,re u,re v,re x,i⟩,⟨e2,re u2,re v2,re x2,i2⟩]=if((e&&(((re x).k==1)&&(i==W64 ((re x).i+1))))&&(e2&&(((re x2).k==1)&&(i2==W64 ((re x2).i+1)))))=true then some ⟨true,nd 6 ((re x).i) ((re x2).i) [re u,re u2],nd 6 ((re x).i) ((re x2).i) [re v,re v2],srt (max (re x).i (re x2).i),W64 ((max (re x).i (re x2).i)+1)⟩ else none:=by kernel_rfl
 obtain⟨zu,zv,zx⟩:=hs.z
 obtain⟨zu2,zv2,zx2⟩:=hs.tl.z
 cases e with
 | true =>
  cases e2 with
  | true =>
   apply bc (purC c)<;>intro k0
   ·exact lP [O] k0 hv (al k0 an)
   apply bc (rightJ ⟨true,re u,re v,re x,i⟩ ↑c.length)<;>intro k1
   ·exact lA [I,O] (by rw [hA,k1]<;>kernel_rfl) hv (al k0 (al k1 an))
   apply bc (rightJ ⟨true,re u2,re v2,re x2,i2⟩ (IntKind.i64.wrap (↑c.length+1)))<;>intro k2
   ·exact lA [I,I,O] (by rw [hA,k1,k2]<;>kernel_rfl) hv (al k0 (al k1 (al k2 an)))
   have hR:=hA.trans (show _=true by rw [k1,k2]<;>kernel_rfl)
   have s1:([]:List Tm).length≤10:=Nat.le_of_ble_eq_true rfl
   have s2:(Tm.mk 6 (re x).i (re x2).i 0 [re u,re u2]).size≤10000000:=by simp only [re_eq,Tm.size,sizes];omega
   have s3:(Tm.mk 6 (re x).i (re x2).i 0 [re v,re v2]).size≤10000000:=by simp only [re_eq,Tm.size,sizes];omega
   have s4:(Tm.mk 1 (max (re x).i (re x2).i) 0 0 []).size≤10000000:=by simp only [re_eq,Tm.size,sizes];omega
   apply bc (((re x).k==1))<;>intro k3
   ·apply bc (((re x2).k==1))<;>intro k4
    ·exact lT [I,I,I,O,O] k0 hR hC (by rw [k3,k4]<;>kernel_rfl) hv (al k0 (al k1 (al k2 (al k3 (al k4 (al s1 (al s1 an)))))))
    apply bc ((i2==IntKind.i64.wrap ((re x2).i+1)))<;>intro k5
    ·exact lT [I,I,I,O,I,O] k0 hR hC (by rw [k3,k4,k5]<;>kernel_rfl) hv (al k0 (al k1 (al k2 (al k3 (al k4 (al k5 (al s1 (al s1 an))))))))
    exact lT [I,I,I,O,I,I] k0 hR hC (by rw [k3,k4,k5]<;>kernel_rfl) hv (al k0 (al k1 (al k2 (al k3 (al k4 (al k5 (al s1 (al s1 an))))))))
   apply bc ((i==IntKind.i64.wrap ((re x).i+1)))<;>intro k6
   ·apply bc (((re x2).k==1))<;>intro k7
    ·exact lT [I,I,I,I,O,O] k0 hR hC (by rw [k3,k6,k7]<;>kernel_rfl) hv (al k0 (al k1 (al k2 (al k3 (al k6 (al k7 (al s1 (al s1 an))))))))
    apply bc ((i2==IntKind.i64.wrap ((re x2).i+1)))<;>intro k8
    ·exact lT [I,I,I,I,O,I,O] k0 hR hC (by rw [k3,k6,k7,k8]<;>kernel_rfl) hv (al k0 (al k1 (al k2 (al k3 (al k6 (al k7 (al k8 (al s1 (al s1 an)))))))))
    exact lT [I,I,I,I,O,I,I] k0 hR hC (by rw [k3,k6,k7,k8]<;>kernel_rfl) hv (al k0 (al k1 (al k2 (al k3 (al k6 (al k7 (al k8 (al s1 (al s1 an)))))))))
   apply bc (((re x2).k==1))<;>intro k9
   ·exact lT [I,I,I,I,I,O] k0 hR hC (by rw [k3,k6,k9]<;>kernel_rfl) hv (al k0 (al k1 (al k2 (al k3 (al k6 (al k9 (al s1 (al s1 an))))))))
   apply bc ((i2==IntKind.i64.wrap ((re x2).i+1)))<;>intro k10
   ·exact lT [I,I,I,I,I,I,O] k0 hR hC (by rw [k3,k6,k9,k10]<;>kernel_rfl) hv (al k0 (al k1 (al k2 (al k3 (al k6 (al k9 (al k10 (al s1 (al s1 an)))))))))
   apply bc (decide (IntKind.i64.wrap (max (re x).i (re x2).i+1)>1000))<;>intro k11
   ·exact lS [I,I,I,I,I,I,I,O] k0 hR hC (by rw [k3,k6,k9,k10]<;>kernel_rfl) (by show(!(decide (W64 ((max (re x).i (re x2).i)+1)>1000)||((nd 6 ((re x).i) ((re x2).i) [re u,re u2]).k==0||((srt (max (re x).i (re x2).i)).k==0||(true&&(nd 6 ((re x).i) ((re x2).i) [re v,re v2]).k==0)))))=true;rw [k11]<;>kernel_rfl) hv (al k0 (al k1 (al k2 (al k3 (al k6 (al k9 (al k10 (al s1 (al s1 (al k11 (al s2 (al s3 (al s4 an)))))))))))))
   exact lO [I,I,I,I,I,I,I,I] k0 hR hC (by show(!(decide (W64 ((max (re x).i (re x2).i)+1)>1000)||((nd 6 ((re x).i) ((re x2).i) [re u,re u2]).k==0||((srt (max (re x).i (re x2).i)).k==0||(true&&(nd 6 ((re x).i) ((re x2).i) [re v,re v2]).k==0)))))=false;rw [k11]<;>kernel_rfl) hv (al k0 (al k1 (al k2 (al k3 (al k6 (al k9 (al k10 (al s1 (al s1 (al k11 an))))))))))
  | false =>
   apply bc (purC c)<;>intro k12
   ·exact lP [O] k12 hv (al k12 an)
   apply bc (rightJ ⟨true,re u,re v,re x,i⟩ ↑c.length)<;>intro k13
   ·exact lA [I,O] (by rw [hA,k13]<;>kernel_rfl) hv (al k12 (al k13 an))
   apply bc (rightJ ⟨false,re u2,re v2,re x2,i2⟩ (IntKind.i64.wrap (↑c.length+1)))<;>intro k14
   ·exact lA [I,I,O] (by rw [hA,k13,k14]<;>kernel_rfl) hv (al k12 (al k13 (al k14 an)))
   have hR:=hA.trans (show _=true by rw [k13,k14]<;>kernel_rfl)
   have s1:([]:List Tm).length≤10:=Nat.le_of_ble_eq_true rfl
   have s2:(Tm.mk 6 (re x).i (re x2).i 0 [re u,re u2]).size≤10000000:=by simp only [re_eq,Tm.size,sizes];omega
   have s3:(Tm.mk 6 (re x).i (re x2).i 0 [re v,re v2]).size≤10000000:=by simp only [re_eq,Tm.size,sizes];omega
   have s4:(Tm.mk 1 (max (re x).i (re x2).i) 0 0 []).size≤10000000:=by simp only [re_eq,Tm.size,sizes];omega
   apply bc (((re x).k==1))<;>intro k15
   ·exact lT [I,I,I,O] k12 hR hC (by rw [k15]<;>kernel_rfl) hv (al k12 (al k13 (al k14 (al k15 (al s1 (al s1 an))))))
   apply bc ((i==IntKind.i64.wrap ((re x).i+1)))<;>intro k16
   ·exact lT [I,I,I,I,O] k12 hR hC (by rw [k15,k16]<;>kernel_rfl) hv (al k12 (al k13 (al k14 (al k15 (al k16 (al s1 (al s1 an)))))))
   exact lT [I,I,I,I,I] k12 hR hC (by rw [k15,k16]<;>kernel_rfl) hv (al k12 (al k13 (al k14 (al k15 (al k16 (al s1 (al s1 an)))))))
 | false =>
  cases e2 with
  | true =>
   apply bc (purC c)<;>intro k17
   ·exact lP [O] k17 hv (al k17 an)
   apply bc (rightJ ⟨false,re u,re v,re x,i⟩ ↑c.length)<;>intro k18
   ·exact lA [I,O] (by rw [hA,k18]<;>kernel_rfl) hv (al k17 (al k18 an))
   apply bc (rightJ ⟨true,re u2,re v2,re x2,i2⟩ (IntKind.i64.wrap (↑c.length+1)))<;>intro k19
   ·exact lA [I,I,O] (by rw [hA,k18,k19]<;>kernel_rfl) hv (al k17 (al k18 (al k19 an)))
   have hR:=hA.trans (show _=true by rw [k18,k19]<;>kernel_rfl)
   have s1:([]:List Tm).length≤10:=Nat.le_of_ble_eq_true rfl
   have s2:(Tm.mk 6 (re x).i (re x2).i 0 [re u,re u2]).size≤10000000:=by simp only [re_eq,Tm.size,sizes];omega
   have s3:(Tm.mk 6 (re x).i (re x2).i 0 [re v,re v2]).size≤10000000:=by simp only [re_eq,Tm.size,sizes];omega
   have s4:(Tm.mk 1 (max (re x).i (re x2).i) 0 0 []).size≤10000000:=by simp only [re_eq,Tm.size,sizes];omega
   apply bc (((re x2).k==1))<;>intro k20
   ·exact lT [I,I,I,O] k17 hR hC (by rw [k20]<;>kernel_rfl) hv (al k17 (al k18 (al k19 (al k20 (al s1 (al s1 an))))))
   apply bc ((i2==IntKind.i64.wrap ((re x2).i+1)))<;>intro k21
   ·exact lT [I,I,I,I,O] k17 hR hC (by rw [k20,k21]<;>kernel_rfl) hv (al k17 (al k18 (al k19 (al k20 (al k21 (al s1 (al s1 an)))))))
   exact lT [I,I,I,I,I] k17 hR hC (by rw [k20,k21]<;>kernel_rfl) hv (al k17 (al k18 (al k19 (al k20 (al k21 (al s1 (al s1 an)))))))
  | false =>
   apply bc (purC c)<;>intro k22
   ·exact lP [O] k22 hv (al k22 an)
   apply bc (rightJ ⟨false,re u,re v,re x,i⟩ ↑c.length)<;>intro k23
   ·exact lA [I,O] (by rw [hA,k23]<;>kernel_rfl) hv (al k22 (al k23 an))
   apply bc (rightJ ⟨false,re u2,re v2,re x2,i2⟩ (IntKind.i64.wrap (↑c.length+1)))<;>intro k24
   ·exact lA [I,I,O] (by rw [hA,k23,k24]<;>kernel_rfl) hv (al k22 (al k23 (al k24 an)))
   have hR:=hA.trans (show _=true by rw [k23,k24]<;>kernel_rfl)
   have s1:([]:List Tm).length≤10:=Nat.le_of_ble_eq_true rfl
   have s2:(Tm.mk 6 (re x).i (re x2).i 0 [re u,re u2]).size≤10000000:=by simp only [re_eq,Tm.size,sizes];omega
   have s3:(Tm.mk 6 (re x).i (re x2).i 0 [re v,re v2]).size≤10000000:=by simp only [re_eq,Tm.size,sizes];omega
   have s4:(Tm.mk 1 (max (re x).i (re x2).i) 0 0 []).size≤10000000:=by simp only [re_eq,Tm.size,sizes];omega
   exact lT [I,I,I] k22 hR hC (by kernel_rfl) hv (al k22 (al k23 (al k24 (al s1 (al s1 an)))))
set_option maxRecDepth 20000 in
set_option maxHeartbeats 4000000 in
theorem of27_any (c:List En) (n:Int) (e:Bool) (u v x:Tm) (i:Int) (e2:Bool) (u2 v2 x2:Tm) (i2:Int) (e3:Bool) (u3 v3 x3:Tm) (i3:Int) (hs:Sml c [⟨e,re u,re v,re x,i⟩,⟨e2,re u2,re v2,re x2,i2⟩,⟨e3,re u3,re v3,re x3,i3⟩]) {w:World} {A:Nat→Prop} {vs:List Value} (hv:F2 (ArgDen w A) (aOf c 27 n [⟨e,re u,re v,re x,i⟩,⟨e2,re u2,re v2,re x2,i2⟩,⟨e3,re u3,re v3,re x3,i3⟩]) vs):Calls Try.prog 27 vs.toArray w (GivesO A (ofB c 27 n [⟨e,re u,re v,re x,i⟩,⟨e2,re u2,re v2,re x2,i2⟩,⟨e3,re u3,re v3,re x3,i3⟩]) w):=by
 have hA:allR c.length 27 0 [⟨e,re u,re v,re x,i⟩,⟨e2,re u2,re v2,re x2,i2⟩,⟨e3,re u3,re v3,re x3,i3⟩]=(rightJ ⟨e,re u,re v,re x,i⟩ ↑c.length&&(rightJ ⟨e2,re u2,re v2,re x2,i2⟩ (IntKind.i64.wrap (↑c.length+1))&&(rightJ ⟨e3,re u3,re v3,re x3,i3⟩ (IntKind.i64.wrap (↑c.length+1))&&true))):=by kernel_rfl
 have hC:concB c n 27 [⟨e,re u,re v,re x,i⟩,⟨e2,re u2,re v2,re x2,i2⟩,⟨e3,re u3,re v3,re x3,i3⟩]=if(((e&&(((re x).k==1)&&(i==W64 ((re x).i+1))))&&(e2&&(((re x2).k==1)&&(i2==W64 ((re x2).i+1)))))&&(e3&&((i3==(re x2).i)&&sameB (re x3) (re u2))))=true then some ⟨true,nd 4 ((re x).i) ((re x2).i) [re u,re u2,re u3],nd 4 ((re x).i) ((re x2).i) [re v,re v2,re v3],nd 3 ((re x).i) ((re x2).i) [re u,re u2],(max (re x).i (re x2).i)⟩ else none:=by kernel_rfl
 obtain⟨zu,zv,zx⟩:=hs.z
 obtain⟨zu2,zv2,zx2⟩:=hs.tl.z
 obtain⟨zu3,zv3,zx3⟩:=hs.tl.tl.z
 cases e with
 | true =>
  cases e2 with
  | true =>
   cases e3 with
   | true =>
    apply bc (purC c)<;>intro k0
    ·exact lP [O] k0 hv (al k0 an)
    apply bc (rightJ ⟨true,re u,re v,re x,i⟩ ↑c.length)<;>intro k1
    ·exact lA [I,O] (by rw [hA,k1]<;>kernel_rfl) hv (al k0 (al k1 an))
    apply bc (rightJ ⟨true,re u2,re v2,re x2,i2⟩ (IntKind.i64.wrap (↑c.length+1)))<;>intro k2
    ·exact lA [I,I,O] (by rw [hA,k1,k2]<;>kernel_rfl) hv (al k0 (al k1 (al k2 an)))
    apply bc (rightJ ⟨true,re u3,re v3,re x3,i3⟩ (IntKind.i64.wrap (↑c.length+1)))<;>intro k3
    ·exact lA [I,I,I,O] (by rw [hA,k1,k2,k3]<;>kernel_rfl) hv (al k0 (al k1 (al k2 (al k3 an))))
    have hR:=hA.trans (show _=true by rw [k1,k2,k3]<;>kernel_rfl)
    have s1:[re u3].length≤10:=Nat.le_of_ble_eq_true rfl
    have s2:[re v3].length≤10:=Nat.le_of_ble_eq_true rfl
    have s3:([]:List Tm).length≤10:=Nat.le_of_ble_eq_true rfl
    have s4:(Tm.mk 4 (re x).i (re x2).i 0 [re u,re u2,re u3]).size≤10000000:=by simp only [re_eq,Tm.size,sizes];omega
    have s5:(Tm.mk 4 (re x).i (re x2).i 0 [re v,re v2,re v3]).size≤10000000:=by simp only [re_eq,Tm.size,sizes];omega
    have s6:(Tm.mk 3 (re x).i (re x2).i 0 [re u,re u2]).size≤10000000:=by simp only [re_eq,Tm.size,sizes];omega
    apply bc (((re x).k==1))<;>intro k4
    ·apply bc (((re x2).k==1))<;>intro k5
     ·exact lT [I,I,I,I,O,O] k0 hR hC (by rw [k4,k5]<;>kernel_rfl) hv (al k0 (al k1 (al k2 (al k3 (al k4 (al k5 (al s1 (al s2 (al s3 an)))))))))
     apply bc ((i2==IntKind.i64.wrap ((re x2).i+1)))<;>intro k6
     ·exact lT [I,I,I,I,O,I,O] k0 hR hC (by rw [k4,k5,k6]<;>kernel_rfl) hv (al k0 (al k1 (al k2 (al k3 (al k4 (al k5 (al k6 (al s1 (al s2 (al s3 an))))))))))
     exact lT [I,I,I,I,O,I,I] k0 hR hC (by rw [k4,k5,k6]<;>kernel_rfl) hv (al k0 (al k1 (al k2 (al k3 (al k4 (al k5 (al k6 (al s1 (al s2 (al s3 an))))))))))
    apply bc ((i==IntKind.i64.wrap ((re x).i+1)))<;>intro k7
    ·apply bc (((re x2).k==1))<;>intro k8
     ·exact lT [I,I,I,I,I,O,O] k0 hR hC (by rw [k4,k7,k8]<;>kernel_rfl) hv (al k0 (al k1 (al k2 (al k3 (al k4 (al k7 (al k8 (al s1 (al s2 (al s3 an))))))))))
     apply bc ((i2==IntKind.i64.wrap ((re x2).i+1)))<;>intro k9
     ·exact lT [I,I,I,I,I,O,I,O] k0 hR hC (by rw [k4,k7,k8,k9]<;>kernel_rfl) hv (al k0 (al k1 (al k2 (al k3 (al k4 (al k7 (al k8 (al k9 (al s1 (al s2 (al s3 an)))))))))))
     exact lT [I,I,I,I,I,O,I,I] k0 hR hC (by rw [k4,k7,k8,k9]<;>kernel_rfl) hv (al k0 (al k1 (al k2 (al k3 (al k4 (al k7 (al k8 (al k9 (al s1 (al s2 (al s3 an)))))))))))
    apply bc (((re x2).k==1))<;>intro k10
    ·exact lT [I,I,I,I,I,I,O] k0 hR hC (by rw [k4,k7,k10]<;>kernel_rfl) hv (al k0 (al k1 (al k2 (al k3 (al k4 (al k7 (al k10 (al s1 (al s2 (al s3 an))))))))))
    apply bc ((i2==IntKind.i64.wrap ((re x2).i+1)))<;>intro k11
    ·exact lT [I,I,I,I,I,I,I,O] k0 hR hC (by rw [k4,k7,k10,k11]<;>kernel_rfl) hv (al k0 (al k1 (al k2 (al k3 (al k4 (al k7 (al k10 (al k11 (al s1 (al s2 (al s3 an)))))))))))
    apply bc ((i3==(re x2).i))<;>intro k12
    ·exact lT [I,I,I,I,I,I,I,I,O] k0 hR hC (by rw [k4,k7,k10,k11,k12]<;>kernel_rfl) hv (al k0 (al k1 (al k2 (al k3 (al k4 (al k7 (al k10 (al k11 (al k12 (al s1 (al s2 (al s3 an))))))))))))
    apply bc (sameB (re x3) (re u2))<;>intro k13
    ·exact lT [I,I,I,I,I,I,I,I,I,O] k0 hR hC (by rw [k4,k7,k10,k11,k12,k13]<;>kernel_rfl) hv (al k0 (al k1 (al k2 (al k3 (al k4 (al k7 (al k10 (al k11 (al k12 (al k13 (al s1 (al s2 (al s3 an)))))))))))))
    apply bc (decide (max (re x).i (re x2).i>1000))<;>intro k14
    ·exact lS [I,I,I,I,I,I,I,I,I,I,O] k0 hR hC (by rw [k4,k7,k10,k11,k12,k13]<;>kernel_rfl) (by show(!(decide ((max (re x).i (re x2).i)>1000)||((nd 4 ((re x).i) ((re x2).i) [re u,re u2,re u3]).k==0||((nd 3 ((re x).i) ((re x2).i) [re u,re u2]).k==0||(true&&(nd 4 ((re x).i) ((re x2).i) [re v,re v2,re v3]).k==0)))))=true;rw [k14]<;>kernel_rfl) hv (al k0 (al k1 (al k2 (al k3 (al k4 (al k7 (al k10 (al k11 (al k12 (al k13 (al s1 (al s2 (al s3 (al k14 (al s4 (al s5 (al s6 an)))))))))))))))))
    exact lO [I,I,I,I,I,I,I,I,I,I,I] k0 hR hC (by show(!(decide ((max (re x).i (re x2).i)>1000)||((nd 4 ((re x).i) ((re x2).i) [re u,re u2,re u3]).k==0||((nd 3 ((re x).i) ((re x2).i) [re u,re u2]).k==0||(true&&(nd 4 ((re x).i) ((re x2).i) [re v,re v2,re v3]).k==0)))))=false;rw [k14]<;>kernel_rfl) hv (al k0 (al k1 (al k2 (al k3 (al k4 (al k7 (al k10 (al k11 (al k12 (al k13 (al s1 (al s2 (al s3 (al k14 an))))))))))))))
   | false =>
    apply bc (purC c)<;>intro k15
    ·exact lP [O] k15 hv (al k15 an)
    apply bc (rightJ ⟨true,re u,re v,re x,i⟩ ↑c.length)<;>intro k16
    ·exact lA [I,O] (by rw [hA,k16]<;>kernel_rfl) hv (al k15 (al k16 an))
    apply bc (rightJ ⟨true,re u2,re v2,re x2,i2⟩ (IntKind.i64.wrap (↑c.length+1)))<;>intro k17
    ·exact lA [I,I,O] (by rw [hA,k16,k17]<;>kernel_rfl) hv (al k15 (al k16 (al k17 an)))
    apply bc (rightJ ⟨false,re u3,re v3,re x3,i3⟩ (IntKind.i64.wrap (↑c.length+1)))<;>intro k18
    ·exact lA [I,I,I,O] (by rw [hA,k16,k17,k18]<;>kernel_rfl) hv (al k15 (al k16 (al k17 (al k18 an))))
    have hR:=hA.trans (show _=true by rw [k16,k17,k18]<;>kernel_rfl)
    have s1:[re u3].length≤10:=Nat.le_of_ble_eq_true rfl
    have s2:[re v3].length≤10:=Nat.le_of_ble_eq_true rfl
    have s3:([]:List Tm).length≤10:=Nat.le_of_ble_eq_true rfl
    have s4:(Tm.mk 4 (re x).i (re x2).i 0 [re u,re u2,re u3]).size≤10000000:=by simp only [re_eq,Tm.size,sizes];omega
    have s5:(Tm.mk 4 (re x).i (re x2).i 0 [re v,re v2,re v3]).size≤10000000:=by simp only [re_eq,Tm.size,sizes];omega
    have s6:(Tm.mk 3 (re x).i (re x2).i 0 [re u,re u2]).size≤10000000:=by simp only [re_eq,Tm.size,sizes];omega
    apply bc (((re x).k==1))<;>intro k19
    ·apply bc (((re x2).k==1))<;>intro k20
     ·exact lT [I,I,I,I,O,O] k15 hR hC (by rw [k19,k20]<;>kernel_rfl) hv (al k15 (al k16 (al k17 (al k18 (al k19 (al k20 (al s1 (al s2 (al s3 an)))))))))
     apply bc ((i2==IntKind.i64.wrap ((re x2).i+1)))<;>intro k21
     ·exact lT [I,I,I,I,O,I,O] k15 hR hC (by rw [k19,k20,k21]<;>kernel_rfl) hv (al k15 (al k16 (al k17 (al k18 (al k19 (al k20 (al k21 (al s1 (al s2 (al s3 an))))))))))
     exact lT [I,I,I,I,O,I,I] k15 hR hC (by rw [k19,k20,k21]<;>kernel_rfl) hv (al k15 (al k16 (al k17 (al k18 (al k19 (al k20 (al k21 (al s1 (al s2 (al s3 an))))))))))
    apply bc ((i==IntKind.i64.wrap ((re x).i+1)))<;>intro k22
    ·apply bc (((re x2).k==1))<;>intro k23
     ·exact lT [I,I,I,I,I,O,O] k15 hR hC (by rw [k19,k22,k23]<;>kernel_rfl) hv (al k15 (al k16 (al k17 (al k18 (al k19 (al k22 (al k23 (al s1 (al s2 (al s3 an))))))))))
     apply bc ((i2==IntKind.i64.wrap ((re x2).i+1)))<;>intro k24
     ·exact lT [I,I,I,I,I,O,I,O] k15 hR hC (by rw [k19,k22,k23,k24]<;>kernel_rfl) hv (al k15 (al k16 (al k17 (al k18 (al k19 (al k22 (al k23 (al k24 (al s1 (al s2 (al s3 an)))))))))))
     exact lT [I,I,I,I,I,O,I,I] k15 hR hC (by rw [k19,k22,k23,k24]<;>kernel_rfl) hv (al k15 (al k16 (al k17 (al k18 (al k19 (al k22 (al k23 (al k24 (al s1 (al s2 (al s3 an)))))))))))
    apply bc (((re x2).k==1))<;>intro k25
    ·exact lT [I,I,I,I,I,I,O] k15 hR hC (by rw [k19,k22,k25]<;>kernel_rfl) hv (al k15 (al k16 (al k17 (al k18 (al k19 (al k22 (al k25 (al s1 (al s2 (al s3 an))))))))))
    apply bc ((i2==IntKind.i64.wrap ((re x2).i+1)))<;>intro k26
    ·exact lT [I,I,I,I,I,I,I,O] k15 hR hC (by rw [k19,k22,k25,k26]<;>kernel_rfl) hv (al k15 (al k16 (al k17 (al k18 (al k19 (al k22 (al k25 (al k26 (al s1 (al s2 (al s3 an)))))))))))
    exact lT [I,I,I,I,I,I,I,I] k15 hR hC (by rw [k19,k22,k25,k26]<;>kernel_rfl) hv (al k15 (al k16 (al k17 (al k18 (al k19 (al k22 (al k25 (al k26 (al s1 (al s2 (al s3 an)))))))))))
  | false =>
   apply bc (purC c)<;>intro k27
   ·exact lP [O] k27 hv (al k27 an)
   apply bc (rightJ ⟨true,re u,re v,re x,i⟩ ↑c.length)<;>intro k28
   ·exact lA [I,O] (by rw [hA,k28]<;>kernel_rfl) hv (al k27 (al k28 an))
   apply bc (rightJ ⟨false,re u2,re v2,re x2,i2⟩ (IntKind.i64.wrap (↑c.length+1)))<;>intro k29
   ·exact lA [I,I,O] (by rw [hA,k28,k29]<;>kernel_rfl) hv (al k27 (al k28 (al k29 an)))
   apply bc (rightJ ⟨e3,re u3,re v3,re x3,i3⟩ (IntKind.i64.wrap (↑c.length+1)))<;>intro k30
   ·exact lA [I,I,I,O] (by rw [hA,k28,k29,k30]<;>kernel_rfl) hv (al k27 (al k28 (al k29 (al k30 an))))
   have hR:=hA.trans (show _=true by rw [k28,k29,k30]<;>kernel_rfl)
   have s1:[re u3].length≤10:=Nat.le_of_ble_eq_true rfl
   have s2:[re v3].length≤10:=Nat.le_of_ble_eq_true rfl
   have s3:([]:List Tm).length≤10:=Nat.le_of_ble_eq_true rfl
   have s4:(Tm.mk 4 (re x).i (re x2).i 0 [re u,re u2,re u3]).size≤10000000:=by simp only [re_eq,Tm.size,sizes];omega
   have s5:(Tm.mk 4 (re x).i (re x2).i 0 [re v,re v2,re v3]).size≤10000000:=by simp only [re_eq,Tm.size,sizes];omega
   have s6:(Tm.mk 3 (re x).i (re x2).i 0 [re u,re u2]).size≤10000000:=by simp only [re_eq,Tm.size,sizes];omega
   apply bc (((re x).k==1))<;>intro k31
   ·exact lT [I,I,I,I,O] k27 hR hC (by rw [k31]<;>kernel_rfl) hv (al k27 (al k28 (al k29 (al k30 (al k31 (al s1 (al s2 (al s3 an))))))))
   apply bc ((i==IntKind.i64.wrap ((re x).i+1)))<;>intro k32
   ·exact lT [I,I,I,I,I,O] k27 hR hC (by rw [k31,k32]<;>kernel_rfl) hv (al k27 (al k28 (al k29 (al k30 (al k31 (al k32 (al s1 (al s2 (al s3 an)))))))))
   exact lT [I,I,I,I,I,I] k27 hR hC (by rw [k31,k32]<;>kernel_rfl) hv (al k27 (al k28 (al k29 (al k30 (al k31 (al k32 (al s1 (al s2 (al s3 an)))))))))
 | false =>
  cases e2 with
  | true =>
   apply bc (purC c)<;>intro k33
   ·exact lP [O] k33 hv (al k33 an)
   apply bc (rightJ ⟨false,re u,re v,re x,i⟩ ↑c.length)<;>intro k34
   ·exact lA [I,O] (by rw [hA,k34]<;>kernel_rfl) hv (al k33 (al k34 an))
   apply bc (rightJ ⟨true,re u2,re v2,re x2,i2⟩ (IntKind.i64.wrap (↑c.length+1)))<;>intro k35
   ·exact lA [I,I,O] (by rw [hA,k34,k35]<;>kernel_rfl) hv (al k33 (al k34 (al k35 an)))
   apply bc (rightJ ⟨e3,re u3,re v3,re x3,i3⟩ (IntKind.i64.wrap (↑c.length+1)))<;>intro k36
   ·exact lA [I,I,I,O] (by rw [hA,k34,k35,k36]<;>kernel_rfl) hv (al k33 (al k34 (al k35 (al k36 an))))
   have hR:=hA.trans (show _=true by rw [k34,k35,k36]<;>kernel_rfl)
   have s1:[re u3].length≤10:=Nat.le_of_ble_eq_true rfl
   have s2:[re v3].length≤10:=Nat.le_of_ble_eq_true rfl
   have s3:([]:List Tm).length≤10:=Nat.le_of_ble_eq_true rfl
   have s4:(Tm.mk 4 (re x).i (re x2).i 0 [re u,re u2,re u3]).size≤10000000:=by simp only [re_eq,Tm.size,sizes];omega
   have s5:(Tm.mk 4 (re x).i (re x2).i 0 [re v,re v2,re v3]).size≤10000000:=by simp only [re_eq,Tm.size,sizes];omega
   have s6:(Tm.mk 3 (re x).i (re x2).i 0 [re u,re u2]).size≤10000000:=by simp only [re_eq,Tm.size,sizes];omega
   apply bc (((re x2).k==1))<;>intro k37
   ·exact lT [I,I,I,I,O] k33 hR hC (by rw [k37]<;>kernel_rfl) hv (al k33 (al k34 (al k35 (al k36 (al k37 (al s1 (al s2 (al s3 an))))))))
   apply bc ((i2==IntKind.i64.wrap ((re x2).i+1)))<;>intro k38
   ·exact lT [I,I,I,I,I,O] k33 hR hC (by rw [k37,k38]<;>kernel_rfl) hv (al k33 (al k34 (al k35 (al k36 (al k37 (al k38 (al s1 (al s2 (al s3 an)))))))))
   exact lT [I,I,I,I,I,I] k33 hR hC (by rw [k37,k38]<;>kernel_rfl) hv (al k33 (al k34 (al k35 (al k36 (al k37 (al k38 (al s1 (al s2 (al s3 an)))))))))
  | false =>
   apply bc (purC c)<;>intro k39
   ·exact lP [O] k39 hv (al k39 an)
   apply bc (rightJ ⟨false,re u,re v,re x,i⟩ ↑c.length)<;>intro k40
   ·exact lA [I,O] (by rw [hA,k40]<;>kernel_rfl) hv (al k39 (al k40 an))
   apply bc (rightJ ⟨false,re u2,re v2,re x2,i2⟩ (IntKind.i64.wrap (↑c.length+1)))<;>intro k41
   ·exact lA [I,I,O] (by rw [hA,k40,k41]<;>kernel_rfl) hv (al k39 (al k40 (al k41 an)))
   apply bc (rightJ ⟨e3,re u3,re v3,re x3,i3⟩ (IntKind.i64.wrap (↑c.length+1)))<;>intro k42
   ·exact lA [I,I,I,O] (by rw [hA,k40,k41,k42]<;>kernel_rfl) hv (al k39 (al k40 (al k41 (al k42 an))))
   have hR:=hA.trans (show _=true by rw [k40,k41,k42]<;>kernel_rfl)
   have s1:[re u3].length≤10:=Nat.le_of_ble_eq_true rfl
   have s2:[re v3].length≤10:=Nat.le_of_ble_eq_true rfl
   have s3:([]:List Tm).length≤10:=Nat.le_of_ble_eq_true rfl
   have s4:(Tm.mk 4 (re x).i (re x2).i 0 [re u,re u2,re u3]).size≤10000000:=by simp only [re_eq,Tm.size,sizes];omega
   have s5:(Tm.mk 4 (re x).i (re x2).i 0 [re v,re v2,re v3]).size≤10000000:=by simp only [re_eq,Tm.size,sizes];omega
   have s6:(Tm.mk 3 (re x).i (re x2).i 0 [re u,re u2]).size≤10000000:=by simp only [re_eq,Tm.size,sizes];omega
   exact lT [I,I,I,I] k39 hR hC (by kernel_rfl) hv (al k39 (al k40 (al k41 (al k42 (al s1 (al s2 (al s3 an)))))))
end Go.Proofs.Ytgnllglbopaheaa.Se

namespace Go.Proofs.Ytgnllglbopaheaa.Se
open Go Go.RowKit
set_option linter.unusedSimpArgs false
set_option maxRecDepth 20000 in
set_option maxHeartbeats 4000000 in
theorem of28L1_any (c:List En) (n:Int) (u v x:Tm) (i:Int) (u2 v2 x2:Tm) (i2:Int) (u3 v3 x3:Tm) (i3:Int) (u4 v4 x4:Tm) (i4:Int) (hs:Sml c [⟨true,re u,re v,re x,i⟩,⟨true,re u2,re v2,re x2,i2⟩,⟨false,re u3,re v3,re x3,i3⟩,⟨true,re u4,re v4,re x4,i4⟩]) {w:World} {A:Nat→Prop} {vs:List Value} (hv:F2 (ArgDen w A) (aOf c 28 n [⟨true,re u,re v,re x,i⟩,⟨true,re u2,re v2,re x2,i2⟩,⟨false,re u3,re v3,re x3,i3⟩,⟨true,re u4,re v4,re x4,i4⟩]) vs):Calls Try.prog 27 vs.toArray w (GivesO A (ofB c 28 n [⟨true,re u,re v,re x,i⟩,⟨true,re u2,re v2,re x2,i2⟩,⟨false,re u3,re v3,re x3,i3⟩,⟨true,re u4,re v4,re x4,i4⟩]) w):=by
 have hA:allR c.length 28 0 [⟨true,re u,re v,re x,i⟩,⟨true,re u2,re v2,re x2,i2⟩,⟨false,re u3,re v3,re x3,i3⟩,⟨true,re u4,re v4,re x4,i4⟩]=(rightJ ⟨true,re u,re v,re x,i⟩ ↑c.length&&(rightJ ⟨true,re u2,re v2,re x2,i2⟩ (IntKind.i64.wrap (↑c.length+1))&&(rightJ ⟨false,re u3,re v3,re x3,i3⟩ ↑c.length&&(rightJ ⟨true,re u4,re v4,re x4,i4⟩ ↑c.length&&true)))):=by kernel_rfl
 have hC:concB c n 28 [⟨true,re u,re v,re x,i⟩,⟨true,re u2,re v2,re x2,i2⟩,⟨false,re u3,re v3,re x3,i3⟩,⟨true,re u4,re v4,re x4,i4⟩]=if((((true&&(((re x).k==1)&&(i==W64 ((re x).i+1))))&&(true&&(((re x2).k==1)&&(i2==W64 ((re x2).i+1)))))&&((!false)&&((i3==(re x).i)&&sameB (re x3) (re u))))&&((!true)&&((i4==(re x2).i)&&sameB (re x4) ((re u2).putB (re u3)))))=true then some ⟨true,nd 7 ((re x).i) ((re x2).i) [re u,re u2,re u3,re u4],nd 7 ((re x).i) ((re x2).i) [re v,re v2,re u3,re u4],nd 6 ((re x).i) ((re x2).i) [re u,re u2],(max (re x).i (re x2).i)⟩ else none:=by kernel_rfl
 obtain⟨zu,zv,zx⟩:=hs.z
 obtain⟨zu2,zv2,zx2⟩:=hs.tl.z
 obtain⟨zu3,zv3,zx3⟩:=hs.tl.tl.z
 obtain⟨zu4,zv4,zx4⟩:=hs.tl.tl.tl.z
 apply bc (purC c)<;>intro k13
 ·exact lP [O] k13 hv (al k13 an)
 apply bc (rightJ ⟨true,re u,re v,re x,i⟩ ↑c.length)<;>intro k14
 ·exact lA [I,O] (by rw [hA,k14]<;>kernel_rfl) hv (al k13 (al k14 an))
 apply bc (rightJ ⟨true,re u2,re v2,re x2,i2⟩ (IntKind.i64.wrap (↑c.length+1)))<;>intro k15
 ·exact lA [I,I,O] (by rw [hA,k14,k15]<;>kernel_rfl) hv (al k13 (al k14 (al k15 an)))
 apply bc (rightJ ⟨false,re u3,re v3,re x3,i3⟩ ↑c.length)<;>intro k16
 ·exact lA [I,I,I,O] (by rw [hA,k14,k15,k16]<;>kernel_rfl) hv (al k13 (al k14 (al k15 (al k16 an))))
 apply bc (rightJ ⟨true,re u4,re v4,re x4,i4⟩ ↑c.length)<;>intro k17
 ·exact lA [I,I,I,I,O] (by rw [hA,k14,k15,k16,k17]<;>kernel_rfl) hv (al k13 (al k14 (al k15 (al k16 (al k17 an)))))
 have hR:=hA.trans (show _=true by rw [k14,k15,k16,k17]<;>kernel_rfl)
 have s1:[re u3,re u4].length≤10:=Nat.le_of_ble_eq_true rfl
 have s2:([]:List Tm).length≤10:=Nat.le_of_ble_eq_true rfl
 have s3:(re u2).deep≤100000:=by refine Nat.le_trans (deep_le_size _) ?_;simp only [re_eq,Tm.size,sizes];omega
 have s4:(re u3).deep≤100000:=by refine Nat.le_trans (deep_le_size _) ?_;simp only [re_eq,Tm.size,sizes];omega
 have s5:(Tm.mk 7 (re x).i (re x2).i 0 [re u,re u2,re u3,re u4]).size≤10000000:=by simp only [re_eq,Tm.size,sizes];omega
 have s6:(Tm.mk 7 (re x).i (re x2).i 0 [re v,re v2,re u3,re u4]).size≤10000000:=by simp only [re_eq,Tm.size,sizes];omega
 have s7:(Tm.mk 6 (re x).i (re x2).i 0 [re u,re u2]).size≤10000000:=by simp only [re_eq,Tm.size,sizes];omega
 apply bc (((re x).k==1))<;>intro k18
 ·apply bc (((re x2).k==1))<;>intro k19
  ·exact lT [I,I,I,I,I,O,O] k13 hR hC (by rw [k18,k19]<;>kernel_rfl) hv (al k13 (al k14 (al k15 (al k16 (al k17 (al k18 (al k19 (al s1 (al s1 (al s2 an))))))))))
  apply bc ((i2==IntKind.i64.wrap ((re x2).i+1)))<;>intro k20
  ·exact lT [I,I,I,I,I,O,I,O] k13 hR hC (by rw [k18,k19,k20]<;>kernel_rfl) hv (al k13 (al k14 (al k15 (al k16 (al k17 (al k18 (al k19 (al k20 (al s1 (al s1 (al s2 an)))))))))))
  exact lT [I,I,I,I,I,O,I,I] k13 hR hC (by rw [k18,k19,k20]<;>kernel_rfl) hv (al k13 (al k14 (al k15 (al k16 (al k17 (al k18 (al k19 (al k20 (al s1 (al s1 (al s2 an)))))))))))
 apply bc ((i==IntKind.i64.wrap ((re x).i+1)))<;>intro k21
 ·apply bc (((re x2).k==1))<;>intro k22
  ·exact lT [I,I,I,I,I,I,O,O] k13 hR hC (by rw [k18,k21,k22]<;>kernel_rfl) hv (al k13 (al k14 (al k15 (al k16 (al k17 (al k18 (al k21 (al k22 (al s1 (al s1 (al s2 an)))))))))))
  apply bc ((i2==IntKind.i64.wrap ((re x2).i+1)))<;>intro k23
  ·exact lT [I,I,I,I,I,I,O,I,O] k13 hR hC (by rw [k18,k21,k22,k23]<;>kernel_rfl) hv (al k13 (al k14 (al k15 (al k16 (al k17 (al k18 (al k21 (al k22 (al k23 (al s1 (al s1 (al s2 an))))))))))))
  exact lT [I,I,I,I,I,I,O,I,I] k13 hR hC (by rw [k18,k21,k22,k23]<;>kernel_rfl) hv (al k13 (al k14 (al k15 (al k16 (al k17 (al k18 (al k21 (al k22 (al k23 (al s1 (al s1 (al s2 an))))))))))))
 apply bc (((re x2).k==1))<;>intro k24
 ·exact lT [I,I,I,I,I,I,I,O] k13 hR hC (by rw [k18,k21,k24]<;>kernel_rfl) hv (al k13 (al k14 (al k15 (al k16 (al k17 (al k18 (al k21 (al k24 (al s1 (al s1 (al s2 an)))))))))))
 apply bc ((i2==IntKind.i64.wrap ((re x2).i+1)))<;>intro k25
 ·exact lT [I,I,I,I,I,I,I,I,O] k13 hR hC (by rw [k18,k21,k24,k25]<;>kernel_rfl) hv (al k13 (al k14 (al k15 (al k16 (al k17 (al k18 (al k21 (al k24 (al k25 (al s1 (al s1 (al s2 an))))))))))))
 apply bc ((i3==(re x).i))<;>intro k26
 ·exact lT [I,I,I,I,I,I,I,I,I,O] k13 hR hC (by rw [k18,k21,k24,k25,k26]<;>kernel_rfl) hv (al k13 (al k14 (al k15 (al k16 (al k17 (al k18 (al k21 (al k24 (al k25 (al k26 (al s1 (al s1 (al s2 an)))))))))))))
 apply bc (sameB (re x3) (re u))<;>intro k27
 ·exact lT [I,I,I,I,I,I,I,I,I,I,O] k13 hR hC (by rw [k18,k21,k24,k25,k26,k27]<;>kernel_rfl) hv (al k13 (al k14 (al k15 (al k16 (al k17 (al k18 (al k21 (al k24 (al k25 (al k26 (al k27 (al s1 (al s1 (al s2 an))))))))))))))
 exact lT [I,I,I,I,I,I,I,I,I,I,I] k13 hR hC (by rw [k18,k21,k24,k25,k26,k27]<;>kernel_rfl) hv (al k13 (al k14 (al k15 (al k16 (al k17 (al k18 (al k21 (al k24 (al k25 (al k26 (al k27 (al s3 (al s4 (al s1 (al s1 (al s2 an))))))))))))))))
set_option maxRecDepth 20000 in
set_option maxHeartbeats 4000000 in
theorem of28L2_any (c:List En) (n:Int) (u v x:Tm) (i:Int) (u2 v2 x2:Tm) (i2:Int) (u3 v3 x3:Tm) (i3:Int) (u4 v4 x4:Tm) (i4:Int) (hs:Sml c [⟨true,re u,re v,re x,i⟩,⟨true,re u2,re v2,re x2,i2⟩,⟨false,re u3,re v3,re x3,i3⟩,⟨false,re u4,re v4,re x4,i4⟩]) {w:World} {A:Nat→Prop} {vs:List Value} (hv:F2 (ArgDen w A) (aOf c 28 n [⟨true,re u,re v,re x,i⟩,⟨true,re u2,re v2,re x2,i2⟩,⟨false,re u3,re v3,re x3,i3⟩,⟨false,re u4,re v4,re x4,i4⟩]) vs):Calls Try.prog 27 vs.toArray w (GivesO A (ofB c 28 n [⟨true,re u,re v,re x,i⟩,⟨true,re u2,re v2,re x2,i2⟩,⟨false,re u3,re v3,re x3,i3⟩,⟨false,re u4,re v4,re x4,i4⟩]) w):=by
 have hA:allR c.length 28 0 [⟨true,re u,re v,re x,i⟩,⟨true,re u2,re v2,re x2,i2⟩,⟨false,re u3,re v3,re x3,i3⟩,⟨false,re u4,re v4,re x4,i4⟩]=(rightJ ⟨true,re u,re v,re x,i⟩ ↑c.length&&(rightJ ⟨true,re u2,re v2,re x2,i2⟩ (IntKind.i64.wrap (↑c.length+1))&&(rightJ ⟨false,re u3,re v3,re x3,i3⟩ ↑c.length&&(rightJ ⟨false,re u4,re v4,re x4,i4⟩ ↑c.length&&true)))):=by kernel_rfl
 have hC:concB c n 28 [⟨true,re u,re v,re x,i⟩,⟨true,re u2,re v2,re x2,i2⟩,⟨false,re u3,re v3,re x3,i3⟩,⟨false,re u4,re v4,re x4,i4⟩]=if((((true&&(((re x).k==1)&&(i==W64 ((re x).i+1))))&&(true&&(((re x2).k==1)&&(i2==W64 ((re x2).i+1)))))&&((!false)&&((i3==(re x).i)&&sameB (re x3) (re u))))&&((!false)&&((i4==(re x2).i)&&sameB (re x4) ((re u2).putB (re u3)))))=true then some ⟨true,nd 7 ((re x).i) ((re x2).i) [re u,re u2,re u3,re u4],nd 7 ((re x).i) ((re x2).i) [re v,re v2,re u3,re u4],nd 6 ((re x).i) ((re x2).i) [re u,re u2],(max (re x).i (re x2).i)⟩ else none:=by kernel_rfl
 obtain⟨zu,zv,zx⟩:=hs.z
 obtain⟨zu2,zv2,zx2⟩:=hs.tl.z
 obtain⟨zu3,zv3,zx3⟩:=hs.tl.tl.z
 obtain⟨zu4,zv4,zx4⟩:=hs.tl.tl.tl.z
 apply bc (purC c)<;>intro k28
 ·exact lP [O] k28 hv (al k28 an)
 apply bc (rightJ ⟨true,re u,re v,re x,i⟩ ↑c.length)<;>intro k29
 ·exact lA [I,O] (by rw [hA,k29]<;>kernel_rfl) hv (al k28 (al k29 an))
 apply bc (rightJ ⟨true,re u2,re v2,re x2,i2⟩ (IntKind.i64.wrap (↑c.length+1)))<;>intro k30
 ·exact lA [I,I,O] (by rw [hA,k29,k30]<;>kernel_rfl) hv (al k28 (al k29 (al k30 an)))
 apply bc (rightJ ⟨false,re u3,re v3,re x3,i3⟩ ↑c.length)<;>intro k31
 ·exact lA [I,I,I,O] (by rw [hA,k29,k30,k31]<;>kernel_rfl) hv (al k28 (al k29 (al k30 (al k31 an))))
 apply bc (rightJ ⟨false,re u4,re v4,re x4,i4⟩ ↑c.length)<;>intro k32
 ·exact lA [I,I,I,I,O] (by rw [hA,k29,k30,k31,k32]<;>kernel_rfl) hv (al k28 (al k29 (al k30 (al k31 (al k32 an)))))
 have hR:=hA.trans (show _=true by rw [k29,k30,k31,k32]<;>kernel_rfl)
 have s1:[re u3,re u4].length≤10:=Nat.le_of_ble_eq_true rfl
 have s2:([]:List Tm).length≤10:=Nat.le_of_ble_eq_true rfl
 have s3:(re u2).deep≤100000:=by refine Nat.le_trans (deep_le_size _) ?_;simp only [re_eq,Tm.size,sizes];omega
 have s4:(re u3).deep≤100000:=by refine Nat.le_trans (deep_le_size _) ?_;simp only [re_eq,Tm.size,sizes];omega
 have s5:(Tm.mk 7 (re x).i (re x2).i 0 [re u,re u2,re u3,re u4]).size≤10000000:=by simp only [re_eq,Tm.size,sizes];omega
 have s6:(Tm.mk 7 (re x).i (re x2).i 0 [re v,re v2,re u3,re u4]).size≤10000000:=by simp only [re_eq,Tm.size,sizes];omega
 have s7:(Tm.mk 6 (re x).i (re x2).i 0 [re u,re u2]).size≤10000000:=by simp only [re_eq,Tm.size,sizes];omega
 apply bc (((re x).k==1))<;>intro k33
 ·apply bc (((re x2).k==1))<;>intro k34
  ·exact lT [I,I,I,I,I,O,O] k28 hR hC (by rw [k33,k34]<;>kernel_rfl) hv (al k28 (al k29 (al k30 (al k31 (al k32 (al k33 (al k34 (al s1 (al s1 (al s2 an))))))))))
  apply bc ((i2==IntKind.i64.wrap ((re x2).i+1)))<;>intro k35
  ·exact lT [I,I,I,I,I,O,I,O] k28 hR hC (by rw [k33,k34,k35]<;>kernel_rfl) hv (al k28 (al k29 (al k30 (al k31 (al k32 (al k33 (al k34 (al k35 (al s1 (al s1 (al s2 an)))))))))))
  exact lT [I,I,I,I,I,O,I,I] k28 hR hC (by rw [k33,k34,k35]<;>kernel_rfl) hv (al k28 (al k29 (al k30 (al k31 (al k32 (al k33 (al k34 (al k35 (al s1 (al s1 (al s2 an)))))))))))
 apply bc ((i==IntKind.i64.wrap ((re x).i+1)))<;>intro k36
 ·apply bc (((re x2).k==1))<;>intro k37
  ·exact lT [I,I,I,I,I,I,O,O] k28 hR hC (by rw [k33,k36,k37]<;>kernel_rfl) hv (al k28 (al k29 (al k30 (al k31 (al k32 (al k33 (al k36 (al k37 (al s1 (al s1 (al s2 an)))))))))))
  apply bc ((i2==IntKind.i64.wrap ((re x2).i+1)))<;>intro k38
  ·exact lT [I,I,I,I,I,I,O,I,O] k28 hR hC (by rw [k33,k36,k37,k38]<;>kernel_rfl) hv (al k28 (al k29 (al k30 (al k31 (al k32 (al k33 (al k36 (al k37 (al k38 (al s1 (al s1 (al s2 an))))))))))))
  exact lT [I,I,I,I,I,I,O,I,I] k28 hR hC (by rw [k33,k36,k37,k38]<;>kernel_rfl) hv (al k28 (al k29 (al k30 (al k31 (al k32 (al k33 (al k36 (al k37 (al k38 (al s1 (al s1 (al s2 an))))))))))))
 apply bc (((re x2).k==1))<;>intro k39
 ·exact lT [I,I,I,I,I,I,I,O] k28 hR hC (by rw [k33,k36,k39]<;>kernel_rfl) hv (al k28 (al k29 (al k30 (al k31 (al k32 (al k33 (al k36 (al k39 (al s1 (al s1 (al s2 an)))))))))))
 apply bc ((i2==IntKind.i64.wrap ((re x2).i+1)))<;>intro k40
 ·exact lT [I,I,I,I,I,I,I,I,O] k28 hR hC (by rw [k33,k36,k39,k40]<;>kernel_rfl) hv (al k28 (al k29 (al k30 (al k31 (al k32 (al k33 (al k36 (al k39 (al k40 (al s1 (al s1 (al s2 an))))))))))))
 apply bc ((i3==(re x).i))<;>intro k41
 ·exact lT [I,I,I,I,I,I,I,I,I,O] k28 hR hC (by rw [k33,k36,k39,k40,k41]<;>kernel_rfl) hv (al k28 (al k29 (al k30 (al k31 (al k32 (al k33 (al k36 (al k39 (al k40 (al k41 (al s1 (al s1 (al s2 an)))))))))))))
 apply bc (sameB (re x3) (re u))<;>intro k42
 ·exact lT [I,I,I,I,I,I,I,I,I,I,O] k28 hR hC (by rw [k33,k36,k39,k40,k41,k42]<;>kernel_rfl) hv (al k28 (al k29 (al k30 (al k31 (al k32 (al k33 (al k36 (al k39 (al k40 (al k41 (al k42 (al s1 (al s1 (al s2 an))))))))))))))
 apply bc ((i4==(re x2).i))<;>intro k43
 ·exact lT [I,I,I,I,I,I,I,I,I,I,I,O] k28 hR hC (by rw [k33,k36,k39,k40,k41,k42,k43]<;>kernel_rfl) hv (al k28 (al k29 (al k30 (al k31 (al k32 (al k33 (al k36 (al k39 (al k40 (al k41 (al k42 (al s3 (al s4 (al k43 (al s1 (al s1 (al s2 an)))))))))))))))))
 apply bc (sameB (re x4) (re ((re u2).putB (re u3))))<;>intro k44
 ·exact lT [I,I,I,I,I,I,I,I,I,I,I,I,O] k28 hR hC (by rw [←re_eq ((re u2).putB (re u3)),k33,k36,k39,k40,k41,k42,k43,k44]<;>kernel_rfl) hv (al k28 (al k29 (al k30 (al k31 (al k32 (al k33 (al k36 (al k39 (al k40 (al k41 (al k42 (al s3 (al s4 (al k43 (al k44 (al s1 (al s1 (al s2 an))))))))))))))))))
 apply bc (decide (max (re x).i (re x2).i>1000))<;>intro k45
 ·exact lS [I,I,I,I,I,I,I,I,I,I,I,I,I,O] k28 hR hC (by rw [←re_eq ((re u2).putB (re u3)),k33,k36,k39,k40,k41,k42,k43,k44]<;>kernel_rfl) (by show(!(decide ((max (re x).i (re x2).i)>1000)||((nd 7 ((re x).i) ((re x2).i) [re u,re u2,re u3,re u4]).k==0||((nd 6 ((re x).i) ((re x2).i) [re u,re u2]).k==0||(true&&(nd 7 ((re x).i) ((re x2).i) [re v,re v2,re u3,re u4]).k==0)))))=true;rw [k45]<;>kernel_rfl) hv (al k28 (al k29 (al k30 (al k31 (al k32 (al k33 (al k36 (al k39 (al k40 (al k41 (al k42 (al s3 (al s4 (al k43 (al k44 (al s1 (al s1 (al s2 (al k45 (al s5 (al s6 (al s7 an))))))))))))))))))))))
 exact lO [I,I,I,I,I,I,I,I,I,I,I,I,I,I] k28 hR hC (by show(!(decide ((max (re x).i (re x2).i)>1000)||((nd 7 ((re x).i) ((re x2).i) [re u,re u2,re u3,re u4]).k==0||((nd 6 ((re x).i) ((re x2).i) [re u,re u2]).k==0||(true&&(nd 7 ((re x).i) ((re x2).i) [re v,re v2,re u3,re u4]).k==0)))))=false;rw [k45]<;>kernel_rfl) hv (al k28 (al k29 (al k30 (al k31 (al k32 (al k33 (al k36 (al k39 (al k40 (al k41 (al k42 (al s3 (al s4 (al k43 (al k44 (al s1 (al s1 (al s2 (al k45 an)))))))))))))))))))
set_option maxRecDepth 20000 in
set_option maxHeartbeats 4000000 in
theorem of28_any (c:List En) (n:Int) (e:Bool) (u v x:Tm) (i:Int) (e2:Bool) (u2 v2 x2:Tm) (i2:Int) (e3:Bool) (u3 v3 x3:Tm) (i3:Int) (e4:Bool) (u4 v4 x4:Tm) (i4:Int) (hs:Sml c [⟨e,re u,re v,re x,i⟩,⟨e2,re u2,re v2,re x2,i2⟩,⟨e3,re u3,re v3,re x3,i3⟩,⟨e4,re u4,re v4,re x4,i4⟩]) {w:World} {A:Nat→Prop} {vs:List Value} (hv:F2 (ArgDen w A) (aOf c 28 n [⟨e,re u,re v,re x,i⟩,⟨e2,re u2,re v2,re x2,i2⟩,⟨e3,re u3,re v3,re x3,i3⟩,⟨e4,re u4,re v4,re x4,i4⟩]) vs):Calls Try.prog 27 vs.toArray w (GivesO A (ofB c 28 n [⟨e,re u,re v,re x,i⟩,⟨e2,re u2,re v2,re x2,i2⟩,⟨e3,re u3,re v3,re x3,i3⟩,⟨e4,re u4,re v4,re x4,i4⟩]) w):=by
 have hA:allR c.length 28 0 [⟨e,re u,re v,re x,i⟩,⟨e2,re u2,re v2,re x2,i2⟩,⟨e3,re u3,re v3,re x3,i3⟩,⟨e4,re u4,re v4,re x4,i4⟩]=(rightJ ⟨e,re u,re v,re x,i⟩ ↑c.length&&(rightJ ⟨e2,re u2,re v2,re x2,i2⟩ (IntKind.i64.wrap (↑c.length+1))&&(rightJ ⟨e3,re u3,re v3,re x3,i3⟩ ↑c.length&&(rightJ ⟨e4,re u4,re v4,re x4,i4⟩ ↑c.length&&true)))):=by kernel_rfl
 have hC:concB c n 28 [⟨e,re u,re v,re x,i⟩,⟨e2,re u2,re v2,re x2,i2⟩,⟨e3,re u3,re v3,re x3,i3⟩,⟨e4,re u4,re v4,re x4,i4⟩]=if((((e&&(((re x).k==1)&&(i==W64 ((re x).i+1))))&&(e2&&(((re x2).k==1)&&(i2==W64 ((re x2).i+1)))))&&((!e3)&&((i3==(re x).i)&&sameB (re x3) (re u))))&&((!e4)&&((i4==(re x2).i)&&sameB (re x4) ((re u2).putB (re u3)))))=true then some ⟨true,nd 7 ((re x).i) ((re x2).i) [re u,re u2,re u3,re u4],nd 7 ((re x).i) ((re x2).i) [re v,re v2,re u3,re u4],nd 6 ((re x).i) ((re x2).i) [re u,re u2],(max (re x).i (re x2).i)⟩ else none:=by kernel_rfl
 obtain⟨zu,zv,zx⟩:=hs.z
 obtain⟨zu2,zv2,zx2⟩:=hs.tl.z
 obtain⟨zu3,zv3,zx3⟩:=hs.tl.tl.z
 obtain⟨zu4,zv4,zx4⟩:=hs.tl.tl.tl.z
 cases e with
 | true =>
  cases e2 with
  | true =>
   cases e3 with
   | true =>
    apply bc (purC c)<;>intro k0
    ·exact lP [O] k0 hv (al k0 an)
    apply bc (rightJ ⟨true,re u,re v,re x,i⟩ ↑c.length)<;>intro k1
    ·exact lA [I,O] (by rw [hA,k1]<;>kernel_rfl) hv (al k0 (al k1 an))
    apply bc (rightJ ⟨true,re u2,re v2,re x2,i2⟩ (IntKind.i64.wrap (↑c.length+1)))<;>intro k2
    ·exact lA [I,I,O] (by rw [hA,k1,k2]<;>kernel_rfl) hv (al k0 (al k1 (al k2 an)))
    apply bc (rightJ ⟨true,re u3,re v3,re x3,i3⟩ ↑c.length)<;>intro k3
    ·exact lA [I,I,I,O] (by rw [hA,k1,k2,k3]<;>kernel_rfl) hv (al k0 (al k1 (al k2 (al k3 an))))
    apply bc (rightJ ⟨e4,re u4,re v4,re x4,i4⟩ ↑c.length)<;>intro k4
    ·exact lA [I,I,I,I,O] (by rw [hA,k1,k2,k3,k4]<;>kernel_rfl) hv (al k0 (al k1 (al k2 (al k3 (al k4 an)))))
    have hR:=hA.trans (show _=true by rw [k1,k2,k3,k4]<;>kernel_rfl)
    have s1:[re u3,re u4].length≤10:=Nat.le_of_ble_eq_true rfl
    have s2:([]:List Tm).length≤10:=Nat.le_of_ble_eq_true rfl
    have s3:(re u2).deep≤100000:=by refine Nat.le_trans (deep_le_size _) ?_;simp only [re_eq,Tm.size,sizes];omega
    have s4:(re u3).deep≤100000:=by refine Nat.le_trans (deep_le_size _) ?_;simp only [re_eq,Tm.size,sizes];omega
    have s5:(Tm.mk 7 (re x).i (re x2).i 0 [re u,re u2,re u3,re u4]).size≤10000000:=by simp only [re_eq,Tm.size,sizes];omega
    have s6:(Tm.mk 7 (re x).i (re x2).i 0 [re v,re v2,re u3,re u4]).size≤10000000:=by simp only [re_eq,Tm.size,sizes];omega
    have s7:(Tm.mk 6 (re x).i (re x2).i 0 [re u,re u2]).size≤10000000:=by simp only [re_eq,Tm.size,sizes];omega
    apply bc (((re x).k==1))<;>intro k5
    ·apply bc (((re x2).k==1))<;>intro k6
     ·exact lT [I,I,I,I,I,O,O] k0 hR hC (by rw [k5,k6]<;>kernel_rfl) hv (al k0 (al k1 (al k2 (al k3 (al k4 (al k5 (al k6 (al s1 (al s1 (al s2 an))))))))))
     apply bc ((i2==IntKind.i64.wrap ((re x2).i+1)))<;>intro k7
     ·exact lT [I,I,I,I,I,O,I,O] k0 hR hC (by rw [k5,k6,k7]<;>kernel_rfl) hv (al k0 (al k1 (al k2 (al k3 (al k4 (al k5 (al k6 (al k7 (al s1 (al s1 (al s2 an)))))))))))
     exact lT [I,I,I,I,I,O,I,I] k0 hR hC (by rw [k5,k6,k7]<;>kernel_rfl) hv (al k0 (al k1 (al k2 (al k3 (al k4 (al k5 (al k6 (al k7 (al s1 (al s1 (al s2 an)))))))))))
    apply bc ((i==IntKind.i64.wrap ((re x).i+1)))<;>intro k8
    ·apply bc (((re x2).k==1))<;>intro k9
     ·exact lT [I,I,I,I,I,I,O,O] k0 hR hC (by rw [k5,k8,k9]<;>kernel_rfl) hv (al k0 (al k1 (al k2 (al k3 (al k4 (al k5 (al k8 (al k9 (al s1 (al s1 (al s2 an)))))))))))
     apply bc ((i2==IntKind.i64.wrap ((re x2).i+1)))<;>intro k10
     ·exact lT [I,I,I,I,I,I,O,I,O] k0 hR hC (by rw [k5,k8,k9,k10]<;>kernel_rfl) hv (al k0 (al k1 (al k2 (al k3 (al k4 (al k5 (al k8 (al k9 (al k10 (al s1 (al s1 (al s2 an))))))))))))
     exact lT [I,I,I,I,I,I,O,I,I] k0 hR hC (by rw [k5,k8,k9,k10]<;>kernel_rfl) hv (al k0 (al k1 (al k2 (al k3 (al k4 (al k5 (al k8 (al k9 (al k10 (al s1 (al s1 (al s2 an))))))))))))
    apply bc (((re x2).k==1))<;>intro k11
    ·exact lT [I,I,I,I,I,I,I,O] k0 hR hC (by rw [k5,k8,k11]<;>kernel_rfl) hv (al k0 (al k1 (al k2 (al k3 (al k4 (al k5 (al k8 (al k11 (al s1 (al s1 (al s2 an)))))))))))
    apply bc ((i2==IntKind.i64.wrap ((re x2).i+1)))<;>intro k12
    ·exact lT [I,I,I,I,I,I,I,I,O] k0 hR hC (by rw [k5,k8,k11,k12]<;>kernel_rfl) hv (al k0 (al k1 (al k2 (al k3 (al k4 (al k5 (al k8 (al k11 (al k12 (al s1 (al s1 (al s2 an))))))))))))
    exact lT [I,I,I,I,I,I,I,I,I] k0 hR hC (by rw [k5,k8,k11,k12]<;>kernel_rfl) hv (al k0 (al k1 (al k2 (al k3 (al k4 (al k5 (al k8 (al k11 (al k12 (al s1 (al s1 (al s2 an))))))))))))
   | false =>
    cases e4 with
    | true=>exact of28L1_any c n u v x i u2 v2 x2 i2 u3 v3 x3 i3 u4 v4 x4 i4  hs hv
    | false=>exact of28L2_any c n u v x i u2 v2 x2 i2 u3 v3 x3 i3 u4 v4 x4 i4  hs hv
  | false =>
   apply bc (purC c)<;>intro k46
   ·exact lP [O] k46 hv (al k46 an)
   apply bc (rightJ ⟨true,re u,re v,re x,i⟩ ↑c.length)<;>intro k47
   ·exact lA [I,O] (by rw [hA,k47]<;>kernel_rfl) hv (al k46 (al k47 an))
   apply bc (rightJ ⟨false,re u2,re v2,re x2,i2⟩ (IntKind.i64.wrap (↑c.length+1)))<;>intro k48
   ·exact lA [I,I,O] (by rw [hA,k47,k48]<;>kernel_rfl) hv (al k46 (al k47 (al k48 an)))
   apply bc (rightJ ⟨e3,re u3,re v3,re x3,i3⟩ ↑c.length)<;>intro k49
   ·exact lA [I,I,I,O] (by rw [hA,k47,k48,k49]<;>kernel_rfl) hv (al k46 (al k47 (al k48 (al k49 an))))
   apply bc (rightJ ⟨e4,re u4,re v4,re x4,i4⟩ ↑c.length)<;>intro k50
   ·exact lA [I,I,I,I,O] (by rw [hA,k47,k48,k49,k50]<;>kernel_rfl) hv (al k46 (al k47 (al k48 (al k49 (al k50 an)))))
   have hR:=hA.trans (show _=true by rw [k47,k48,k49,k50]<;>kernel_rfl)
   have s1:[re u3,re u4].length≤10:=Nat.le_of_ble_eq_true rfl
   have s2:([]:List Tm).length≤10:=Nat.le_of_ble_eq_true rfl
   have s3:(re u2).deep≤100000:=by refine Nat.le_trans (deep_le_size _) ?_;simp only [re_eq,Tm.size,sizes];omega
   have s4:(re u3).deep≤100000:=by refine Nat.le_trans (deep_le_size _) ?_;simp only [re_eq,Tm.size,sizes];omega
   have s5:(Tm.mk 7 (re x).i (re x2).i 0 [re u,re u2,re u3,re u4]).size≤10000000:=by simp only [re_eq,Tm.size,sizes];omega
   have s6:(Tm.mk 7 (re x).i (re x2).i 0 [re v,re v2,re u3,re u4]).size≤10000000:=by simp only [re_eq,Tm.size,sizes];omega
   have s7:(Tm.mk 6 (re x).i (re x2).i 0 [re u,re u2]).size≤10000000:=by simp only [re_eq,Tm.size,sizes];omega
   apply bc (((re x).k==1))<;>intro k51
   ·exact lT [I,I,I,I,I,O] k46 hR hC (by rw [k51]<;>kernel_rfl) hv (al k46 (al k47 (al k48 (al k49 (al k50 (al k51 (al s1 (al s1 (al s2 an)))))))))
   apply bc ((i==IntKind.i64.wrap ((re x).i+1)))<;>intro k52
   ·exact lT [I,I,I,I,I,I,O] k46 hR hC (by rw [k51,k52]<;>kernel_rfl) hv (al k46 (al k47 (al k48 (al k49 (al k50 (al k51 (al k52 (al s1 (al s1 (al s2 an))))))))))
   exact lT [I,I,I,I,I,I,I] k46 hR hC (by rw [k51,k52]<;>kernel_rfl) hv (al k46 (al k47 (al k48 (al k49 (al k50 (al k51 (al k52 (al s1 (al s1 (al s2 an))))))))))
 | false =>
  cases e2 with
  | true =>
   apply bc (purC c)<;>intro k53
   ·exact lP [O] k53 hv (al k53 an)
   apply bc (rightJ ⟨false,re u,re v,re x,i⟩ ↑c.length)<;>intro k54
   ·exact lA [I,O] (by rw [hA,k54]<;>kernel_rfl) hv (al k53 (al k54 an))
   apply bc (rightJ ⟨true,re u2,re v2,re x2,i2⟩ (IntKind.i64.wrap (↑c.length+1)))<;>intro k55
   ·exact lA [I,I,O] (by rw [hA,k54,k55]<;>kernel_rfl) hv (al k53 (al k54 (al k55 an)))
   apply bc (rightJ ⟨e3,re u3,re v3,re x3,i3⟩ ↑c.length)<;>intro k56
   ·exact lA [I,I,I,O] (by rw [hA,k54,k55,k56]<;>kernel_rfl) hv (al k53 (al k54 (al k55 (al k56 an))))
   apply bc (rightJ ⟨e4,re u4,re v4,re x4,i4⟩ ↑c.length)<;>intro k57
   ·exact lA [I,I,I,I,O] (by rw [hA,k54,k55,k56,k57]<;>kernel_rfl) hv (al k53 (al k54 (al k55 (al k56 (al k57 an)))))
   have hR:=hA.trans (show _=true by rw [k54,k55,k56,k57]<;>kernel_rfl)
   have s1:[re u3,re u4].length≤10:=Nat.le_of_ble_eq_true rfl
   have s2:([]:List Tm).length≤10:=Nat.le_of_ble_eq_true rfl
   have s3:(re u2).deep≤100000:=by refine Nat.le_trans (deep_le_size _) ?_;simp only [re_eq,Tm.size,sizes];omega
   have s4:(re u3).deep≤100000:=by refine Nat.le_trans (deep_le_size _) ?_;simp only [re_eq,Tm.size,sizes];omega
   have s5:(Tm.mk 7 (re x).i (re x2).i 0 [re u,re u2,re u3,re u4]).size≤10000000:=by simp only [re_eq,Tm.size,sizes];omega
   have s6:(Tm.mk 7 (re x).i (re x2).i 0 [re v,re v2,re u3,re u4]).size≤10000000:=by simp only [re_eq,Tm.size,sizes];omega
   have s7:(Tm.mk 6 (re x).i (re x2).i 0 [re u,re u2]).size≤10000000:=by simp only [re_eq,Tm.size,sizes];omega
   apply bc (((re x2).k==1))<;>intro k58
   ·exact lT [I,I,I,I,I,O] k53 hR hC (by rw [k58]<;>kernel_rfl) hv (al k53 (al k54 (al k55 (al k56 (al k57 (al k58 (al s1 (al s1 (al s2 an)))))))))
   apply bc ((i2==IntKind.i64.wrap ((re x2).i+1)))<;>intro k59
   ·exact lT [I,I,I,I,I,I,O] k53 hR hC (by rw [k58,k59]<;>kernel_rfl) hv (al k53 (al k54 (al k55 (al k56 (al k57 (al k58 (al k59 (al s1 (al s1 (al s2 an))))))))))
   exact lT [I,I,I,I,I,I,I] k53 hR hC (by rw [k58,k59]<;>kernel_rfl) hv (al k53 (al k54 (al k55 (al k56 (al k57 (al k58 (al k59 (al s1 (al s1 (al s2 an))))))))))
  | false =>
   apply bc (purC c)<;>intro k60
   ·exact lP [O] k60 hv (al k60 an)
   apply bc (rightJ ⟨false,re u,re v,re x,i⟩ ↑c.length)<;>intro k61
   ·exact lA [I,O] (by rw [hA,k61]<;>kernel_rfl) hv (al k60 (al k61 an))
   apply bc (rightJ ⟨false,re u2,re v2,re x2,i2⟩ (IntKind.i64.wrap (↑c.length+1)))<;>intro k62
   ·exact lA [I,I,O] (by rw [hA,k61,k62]<;>kernel_rfl) hv (al k60 (al k61 (al k62 an)))
   apply bc (rightJ ⟨e3,re u3,re v3,re x3,i3⟩ ↑c.length)<;>intro k63
   ·exact lA [I,I,I,O] (by rw [hA,k61,k62,k63]<;>kernel_rfl) hv (al k60 (al k61 (al k62 (al k63 an))))
   apply bc (rightJ ⟨e4,re u4,re v4,re x4,i4⟩ ↑c.length)<;>intro k64
   ·exact lA [I,I,I,I,O] (by rw [hA,k61,k62,k63,k64]<;>kernel_rfl) hv (al k60 (al k61 (al k62 (al k63 (al k64 an)))))
   have hR:=hA.trans (show _=true by rw [k61,k62,k63,k64]<;>kernel_rfl)
   have s1:[re u3,re u4].length≤10:=Nat.le_of_ble_eq_true rfl
   have s2:([]:List Tm).length≤10:=Nat.le_of_ble_eq_true rfl
   have s3:(re u2).deep≤100000:=by refine Nat.le_trans (deep_le_size _) ?_;simp only [re_eq,Tm.size,sizes];omega
   have s4:(re u3).deep≤100000:=by refine Nat.le_trans (deep_le_size _) ?_;simp only [re_eq,Tm.size,sizes];omega
   have s5:(Tm.mk 7 (re x).i (re x2).i 0 [re u,re u2,re u3,re u4]).size≤10000000:=by simp only [re_eq,Tm.size,sizes];omega
   have s6:(Tm.mk 7 (re x).i (re x2).i 0 [re v,re v2,re u3,re u4]).size≤10000000:=by simp only [re_eq,Tm.size,sizes];omega
   have s7:(Tm.mk 6 (re x).i (re x2).i 0 [re u,re u2]).size≤10000000:=by simp only [re_eq,Tm.size,sizes];omega
   exact lT [I,I,I,I,I] k60 hR hC (by kernel_rfl) hv (al k60 (al k61 (al k62 (al k63 (al k64 (al s1 (al s1 (al s2 an))))))))
end Go.Proofs.Ytgnllglbopaheaa.Se

namespace Go.Proofs.Ytgnllglbopaheaa.Se
open Go Go.RowKit
set_option maxRecDepth 20000 in
set_option maxHeartbeats 4000000 in
theorem ofne_any (c:List En) (on:List Jd) (r n:Int) (P:Nat→Prop) (w:World) (sc:Value) (son:Value) (hlc:LiesE w c sc) (hlon:LiesJ w on son) (hne:Dv.dkidsN r≠on.length):Calls Try.prog 27 #[sc,.int .i64 r,.int .i64 n,son] w (GivesJT P ⟨false,.zero,.zero,.zero,0⟩ false w):=by
 have HEc:=Lib.hid hlc
 obtain⟨ac,cc,Sc,rfl,-⟩:=hlc.out
 clear hlc
 have HEon:=Lib.hid hlon
 obtain⟨aon,con,Son,rfl,-⟩:=hlon.out
 clear hlon
 have en0:(Dv.dkidsN r != (on.length:Int))=true:=bne_iff_ne.2 hne
 clear hne
 obtain⟨dj,dj1,dj2⟩:=under_of 40 (by kernel_rfl)
 obtain⟨du,hu1,hu2⟩:=under_term
 go_enter Try.func27,Try.ntmps27
 go_upto_region 1 with fail
 refine at_code (fun V0 hV0=>?_)
 obtain⟨k2,x1,z3⟩:=alloc1 hV0
 have Kk4:=Lib.hid k2
 clear k2
 have Hx1:=Lib.hid x1
 have Z0:=Lib.hid z3
 clear z3 x1 hV0
 have kvV0:Sees V0 (w.heap.size) V0:=sees_kept _ (kept_refl _)
 go_wp2_with fail
 clear kvV0
 have hq7:=kidsK r V0
 refine hq7.mono ?_
 clear hq7
 rintro e w5 ⟨rfl,k6⟩
 have Kk8:=Lib.hid k6
 clear k6
 have kvV0:Sees V0 (w.heap.size) w5:=sees_kept _ Kk8.out
 go_upto_region 2 with fail
 go_wp2_with (refine stop_store 40 (.tmp 8) (.tmp 25) rfl ?_)
 intro _
 refine wpList_store_part_n (by rfl) 40 (.tmp 8) (.tmp 25) rfl (w.heap.size) 0 #[.bool false,.int .i64 0,.int .i64 0,.int .i64 0,.int .i64 0,.slice none 0 0,.int .i64 0,.int .i64 0,.int .i64 0,.int .i64 0,.slice none 0 0,.int .i64 0,.int .i64 0,.int .i64 0,.int .i64 0,.slice none 0 0,.int .i64 0] (by rfl) (by rfl) 40 (by kernel_rfl) (row_ok rfl) ?_
 intro W9 hW9
 clear kvV0
 subst hW9
 refine⟨_,#[.bool false,.int .i64 0,.int .i64 0,.int .i64 0,.int .i64 0,.slice none 0 0,.int .i64 0,.int .i64 0,.int .i64 0,.int .i64 0,.slice none 0 0,.int .i64 0,.int .i64 0,.int .i64 0,.int .i64 0,.slice none 0 0,.int .i64 0],(blk_at Hx1.out Kk8.out),rfl,Nat.le_of_ble_eq_true rfl,?_⟩
 intro W10 hW10
 go_wp2_with fail
 (try simp only [Exit.inBlock,Exit.then])
 refine bodyPost_ret (results_cell_tmp rfl _ _ (w.heap.size) 40 _ _ dj rfl (blk_same (blk_at Hx1.out Kk8.out) hW10) dj1 (by cases dj<;>first | rfl | exact dj2) (by kernel_rfl)) rfl ?_
 have jz14:=Z0.out
 have jq11:=par_end (par_row' (liesQ_nil w5 (Par w V0.heap.size [] P)) hW10 (by omega) (by omega)) (by omega)
 have jq12:=par_end (par_row' (liesQ_nil w5 (Par w V0.heap.size [] P)) hW10 (by omega) (by omega)) (by omega)
 have jq13:=par_end (par_row' (liesQ_nil w5 (Par w V0.heap.size [] P)) hW10 (by omega) (by omega)) (by omega)
 exact⟨_,_,_,rfl,⟨jq11,jq12,jq13⟩,kept_set (kept_trans Kk4.out Kk8.out) hW10 (by omega)⟩
theorem F2.four {α β:Type} {R:α→β→Prop} {a b c d:α} {l:List β} (h:F2 R [a,b,c,d] l):∃ x y z u,l=[x,y,z,u]∧R a x∧R b y∧R c z∧R d u:=by
 match l,h with
 | [x,y,z,u],h=>exact⟨x,y,z,u,rfl,h.1,h.2.1,h.2.2.1,h.2.2.2.1⟩
set_option maxRecDepth 20000 in
theorem of_ne {c:List En} {on:List Jd} {r n:Int} (hne:Dv.dkidsN r≠on.length) {w:World} {A:Nat→Prop} {vs:List Value} (hv:F2 (ArgDen w A) (aOf c r n on) vs):Calls Try.prog 27 vs.toArray w (GivesO A (ofB c r n on) w):=by
 obtain⟨sc,vr,vn,son,rfl,h1,h2,h3,h4⟩:=F2.four hv
 obtain⟨rfl,-⟩:=arg_I h2 (n:=r) rfl
 obtain⟨rfl,-⟩:=arg_I h3 (n:=n) rfl
 have hc:LiesE w c sc:=arg_E h1 rfl
 obtain⟨x,hx,hj⟩:=h4
 cases hx
 rw [of_n hne]
 refine(ofne_any c on r n A w sc son hc (liesJQ_lies hj) hne).mono ?_
 rintro e w' ⟨su,sv,sa,rfl,⟨hu,hv',ha⟩,hb⟩
 exact⟨_,rfl,⟨_,rfl,⟨_,rfl,jdF_den (j:=zJ) ⟨zero_fine,zero_fine,zero_fine,by unfold I64;decide⟩ hu hv' ha⟩,⟨_,rfl,rfl⟩,trivial⟩,hb⟩
theorem len_0 {α:Type} {l:List α} (h:(0:Int)=l.length):l=[]:=List.eq_nil_of_length_eq_zero (by omega)
theorem len_1 {α:Type} {l:List α} (h:(1:Int)=l.length):∃ a,l=[a]:=List.length_eq_one_iff.1 (by omega)
theorem len_2 {α:Type} {l:List α} (h:(2:Int)=l.length):∃ a b,l=[a,b]:=by
 match l,h with
 | [a,b],_=>exact⟨a,b,rfl⟩
 | [],h | [_],h=>simp at h
 | _::_::_::_,h=>simp at h;omega
theorem len_3 {α:Type} {l:List α} (h:(3:Int)=l.length):∃ a b c,l=[a,b,c]:=by
 match l,h with
 | [a,b,c],_=>exact⟨a,b,c,rfl⟩
 | [],h | [_],h | [_,_],h=>simp at h
 | _::_::_::_::_,h=>simp at h;omega
theorem len_4 {α:Type} {l:List α} (h:(4:Int)=l.length):∃ a b c d,l=[a,b,c,d]:=by
 match l,h with
 | [a,b,c,d],_=>exact⟨a,b,c,d,rfl⟩
 | [],h | [_],h | [_,_],h | [_,_,_],h=>simp at h
 | _::_::_::_::_::_,h=>simp at h;omega
theorem jd_re (j:Jd):j=⟨j.eq,re j.u,re j.v,re j.a,j.i⟩:=by simp only [re_eq]
set_option maxRecDepth 20000 in
theorem of_all (c:List En) (r n:Int) (on:List Jd) (hs:Sml c on) {w:World} {A:Nat→Prop} {vs:List Value} (hv:F2 (ArgDen w A) (aOf c r n on) vs):Calls Try.prog 27 vs.toArray w (GivesO A (ofB c r n on) w):=by
 by_cases hne:Dv.dkidsN r=on.length
 ·by_cases hr:1≤r∧r≤28
  ·obtain⟨q,hq⟩:∃ q:Nat,r=(q:Int):=⟨r.toNat,by omega⟩
   subst hq
   have hq1:1≤q:=by omega
   have hq2:q≤28:=by omega
   match q,hq1,hq2 with
   | 1,_,_ =>
    obtain rfl:=len_0 hne
    exact of1_any c n hs hv
   | 2,_,_ =>
    obtain rfl:=len_0 hne
    exact of2_any c n hs hv
   | 3,_,_ =>
    obtain⟨a,b,rfl⟩:=len_2 hne
    rw [jd_re a] at hs hv ⊢
    rw [jd_re b] at hs hv ⊢
    exact of3_any c n a.eq a.u a.v a.a a.i b.eq b.u b.v b.a b.i hs hv
   | 4,_,_ =>
    obtain⟨a,b,rfl⟩:=len_2 hne
    rw [jd_re a] at hs hv ⊢
    rw [jd_re b] at hs hv ⊢
    exact of4_any c n a.eq a.u a.v a.a a.i b.eq b.u b.v b.a b.i hs hv
   | 5,_,_ =>
    obtain⟨a,b,rfl⟩:=len_2 hne
    rw [jd_re a] at hs hv ⊢
    rw [jd_re b] at hs hv ⊢
    exact of5_any c n a.eq a.u a.v a.a a.i b.eq b.u b.v b.a b.i hs hv
   | 6,_,_ =>
    obtain⟨a,b,rfl⟩:=len_2 hne
    rw [jd_re a] at hs hv ⊢
    rw [jd_re b] at hs hv ⊢
    exact of6_any c n a.eq a.u a.v a.a a.i b.eq b.u b.v b.a b.i hs hv
   | 7,_,_ =>
    obtain⟨a,b,d,rfl⟩:=len_3 hne
    rw [jd_re a] at hs hv ⊢
    rw [jd_re b] at hs hv ⊢
    rw [jd_re d] at hs hv ⊢
    exact of7_any c n a.eq a.u a.v a.a a.i b.eq b.u b.v b.a b.i d.eq d.u d.v d.a d.i hs hv
   | 8,_,_ =>
    obtain⟨a,rfl⟩:=len_1 hne
    rw [jd_re a] at hs hv ⊢
    exact of8_any c n a.eq a.u a.v a.a a.i hs hv
   | 9,_,_ =>
    obtain⟨a,rfl⟩:=len_1 hne
    rw [jd_re a] at hs hv ⊢
    exact of9_any c n a.eq a.u a.v a.a a.i hs hv
   | 10,_,_ =>
    obtain⟨a,b,rfl⟩:=len_2 hne
    rw [jd_re a] at hs hv ⊢
    rw [jd_re b] at hs hv ⊢
    exact of10_any c n a.eq a.u a.v a.a a.i b.eq b.u b.v b.a b.i hs hv
   | 11,_,_ =>
    obtain⟨a,rfl⟩:=len_1 hne
    rw [jd_re a] at hs hv ⊢
    exact of11_any c n a.eq a.u a.v a.a a.i hs hv
   | 12,_,_ =>
    obtain⟨a,b,rfl⟩:=len_2 hne
    rw [jd_re a] at hs hv ⊢
    rw [jd_re b] at hs hv ⊢
    exact of12_any c n a.eq a.u a.v a.a a.i b.eq b.u b.v b.a b.i hs hv
   | 13,_,_ =>
    obtain⟨a,rfl⟩:=len_1 hne
    rw [jd_re a] at hs hv ⊢
    exact of13_any c n a.eq a.u a.v a.a a.i hs hv
   | 14,_,_ =>
    obtain⟨a,rfl⟩:=len_1 hne
    rw [jd_re a] at hs hv ⊢
    exact of14_any c n a.eq a.u a.v a.a a.i hs hv
   | 15,_,_ =>
    obtain⟨a,b,rfl⟩:=len_2 hne
    rw [jd_re a] at hs hv ⊢
    rw [jd_re b] at hs hv ⊢
    exact of15_any c n a.eq a.u a.v a.a a.i b.eq b.u b.v b.a b.i hs hv
   | 16,_,_ =>
    obtain⟨a,b,rfl⟩:=len_2 hne
    rw [jd_re a] at hs hv ⊢
    rw [jd_re b] at hs hv ⊢
    exact of16_any c n a.eq a.u a.v a.a a.i b.eq b.u b.v b.a b.i hs hv
   | 17,_,_ =>
    obtain⟨a,rfl⟩:=len_1 hne
    rw [jd_re a] at hs hv ⊢
    exact of17_any c n a.eq a.u a.v a.a a.i hs hv
   | 18,_,_ =>
    obtain⟨a,b,rfl⟩:=len_2 hne
    rw [jd_re a] at hs hv ⊢
    rw [jd_re b] at hs hv ⊢
    exact of18_any c n a.eq a.u a.v a.a a.i b.eq b.u b.v b.a b.i hs hv
   | 19,_,_ =>
    obtain⟨a,b,d,rfl⟩:=len_3 hne
    rw [jd_re a] at hs hv ⊢
    rw [jd_re b] at hs hv ⊢
    rw [jd_re d] at hs hv ⊢
    exact of19_any c n a.eq a.u a.v a.a a.i b.eq b.u b.v b.a b.i d.eq d.u d.v d.a d.i hs hv
   | 20,_,_ =>
    obtain⟨a,b,d,rfl⟩:=len_3 hne
    rw [jd_re a] at hs hv ⊢
    rw [jd_re b] at hs hv ⊢
    rw [jd_re d] at hs hv ⊢
    exact of20_any c n a.eq a.u a.v a.a a.i b.eq b.u b.v b.a b.i d.eq d.u d.v d.a d.i hs hv
   | 21,_,_ =>
    obtain⟨a,rfl⟩:=len_1 hne
    rw [jd_re a] at hs hv ⊢
    exact of21_any c n a.eq a.u a.v a.a a.i hs hv
   | 22,_,_ =>
    obtain⟨a,rfl⟩:=len_1 hne
    rw [jd_re a] at hs hv ⊢
    exact of22_any c n a.eq a.u a.v a.a a.i hs hv
   | 23,_,_ =>
    obtain⟨a,b,rfl⟩:=len_2 hne
    rw [jd_re a] at hs hv ⊢
    rw [jd_re b] at hs hv ⊢
    exact of23_any c n a.eq a.u a.v a.a a.i b.eq b.u b.v b.a b.i hs hv
   | 24,_,_ =>
    obtain⟨a,b,rfl⟩:=len_2 hne
    rw [jd_re a] at hs hv ⊢
    rw [jd_re b] at hs hv ⊢
    exact of24_any c n a.eq a.u a.v a.a a.i b.eq b.u b.v b.a b.i hs hv
   | 25,_,_ =>
    obtain⟨a,b,rfl⟩:=len_2 hne
    rw [jd_re a] at hs hv ⊢
    rw [jd_re b] at hs hv ⊢
    exact of25_any c n a.eq a.u a.v a.a a.i b.eq b.u b.v b.a b.i hs hv
   | 26,_,_ =>
    obtain⟨a,b,rfl⟩:=len_2 hne
    rw [jd_re a] at hs hv ⊢
    rw [jd_re b] at hs hv ⊢
    exact of26_any c n a.eq a.u a.v a.a a.i b.eq b.u b.v b.a b.i hs hv
   | 27,_,_ =>
    obtain⟨a,b,d,rfl⟩:=len_3 hne
    rw [jd_re a] at hs hv ⊢
    rw [jd_re b] at hs hv ⊢
    rw [jd_re d] at hs hv ⊢
    exact of27_any c n a.eq a.u a.v a.a a.i b.eq b.u b.v b.a b.i d.eq d.u d.v d.a d.i hs hv
   | 28,_,_ =>
    obtain⟨a,b,d,f,rfl⟩:=len_4 hne
    rw [jd_re a] at hs hv ⊢
    rw [jd_re b] at hs hv ⊢
    rw [jd_re d] at hs hv ⊢
    rw [jd_re f] at hs hv ⊢
    exact of28_any c n a.eq a.u a.v a.a a.i b.eq b.u b.v b.a b.i d.eq d.u d.v d.a d.i f.eq f.u f.v f.a f.i hs hv
  ·exact absurd hne (by rw [Dv.out_kids hr];omega)
 ·exact of_ne hne hv
end Go.Proofs.Ytgnllglbopaheaa.Se

namespace Go.Proofs.Ytgnllglbopaheaa.Fl
open Ieee
theorem cmp_le {a b:Int}:(compare a b==.lt||compare a b==.eq)=decide (a≤b):=by
 by_cases h:a<b
 ·have:compare a b=.lt:=Int.compare_eq_lt.2 h
  rw [this];simp;omega
 ·by_cases h2:a=b
  ·subst h2
   have:compare a a=.eq:=Int.compare_eq_eq.2 rfl
   rw [this];simp
  ·have:compare a b=.gt:=Int.compare_eq_gt.2 (by omega)
   rw [this];simp;omega
def leD (x y:Datum):Bool:=x.order y==some .lt||x.order y==some .eq
def sg (s:Bool) (m:Nat):Int:=if s then -(m:Int) else m
theorem signed_eq (s:Bool) (m u:Nat):signed s m u=sg s m * 2 ^ u:=by
 unfold signed sg
 rw [Nat.shiftLeft_eq]
 cases s<;>simp [Int.neg_mul]
theorem pow_split {base base' i:Int} (h:base'≤base) (h2:base≤i):(2:Int) ^ (i-base').toNat=2 ^ (i-base).toNat * 2 ^ (base-base').toNat:=by
 rw [←Int.pow_add];congr 1;omega
theorem order_num (s t:Bool) (m n:Nat) (i j base:Int) (hi:base≤i) (hj:base≤j):leD (.number s m i) (.number t n j)=decide (sg s m * 2 ^ (i-base).toNat≤sg t n * 2 ^ (j-base).toNat):=by
 have h0:leD (.number s m i) (.number t n j)=decide (sg s m * 2 ^ (i-min i j).toNat≤sg t n * 2 ^ (j-min i j).toNat):=by
  unfold leD
  simp only [Datum.order]
  rw [signed_eq,signed_eq,←cmp_le]
  rfl
 rw [h0,pow_split (show base≤min i j by omega) (show min i j≤i by omega),pow_split (show base≤min i j by omega) (show min i j≤j by omega),←Int.mul_assoc,←Int.mul_assoc]
 have hp:(0:Int)<2 ^ (min i j-base).toNat:=Int.pow_pos (by decide)
 rw [decide_eq_decide]
 exact⟨fun h=>Int.mul_le_mul_of_nonneg_right h (Int.le_of_lt hp),fun h=>Int.le_of_mul_le_mul_right h hp⟩
theorem leD_trans {a b c:Datum} (h1:leD a b=true) (h2:leD b c=true):leD a c=true:=by
 cases a with
 | nan s t=>simp [leD,Datum.order] at h1
 | infinity s =>
  cases b with
  | nan s t=>simp [leD,Datum.order] at h1
  | infinity t =>
   cases c with
   | nan s t=>simp [leD,Datum.order] at h2
   | infinity u=>cases s<;>cases t<;>cases u<;>revert h1 h2<;>decide
   | number u n j=>cases s<;>cases t<;>simp [leD,Datum.order] at h1 h2 ⊢<;>revert h1<;>decide
  | number t n j =>
   cases c with
   | nan s t=>simp [leD,Datum.order] at h2
   | infinity u=>cases s<;>cases u<;>simp [leD,Datum.order] at h1 h2 ⊢<;>decide
   | number u n j=>cases s<;>simp [leD,Datum.order] at h1 h2 ⊢
 | number s m i =>
  cases b with
  | nan s t=>simp [leD,Datum.order] at h1
  | infinity t =>
   cases c with
   | nan s t=>simp [leD,Datum.order] at h2
   | infinity u=>cases t<;>cases u<;>simp [leD,Datum.order] at h1 h2 ⊢<;>revert h2<;>decide
   | number u n j=>cases t<;>simp [leD,Datum.order] at h1 h2 ⊢
  | number t n j =>
   cases c with
   | nan s t=>simp [leD,Datum.order] at h2
   | infinity u=>cases u<;>simp [leD,Datum.order] at h1 h2 ⊢
   | number u k l =>
    have hb:∃ base,base≤i∧base≤j∧base≤l:=⟨min i (min j l),by omega,by omega,by omega⟩
    obtain⟨base,b1,b2,b3⟩:=hb
    rw [order_num s t m n i j base b1 b2,decide_eq_true_eq] at h1
    rw [order_num t u n k j l base b2 b3,decide_eq_true_eq] at h2
    rw [order_num s u m k i l base b1 b3,decide_eq_true_eq]
    exact Int.le_trans h1 h2
theorem dbl_sw:double.signWeight=2 ^ 63:=by decide
theorem dbl_bin:double.binade=2 ^ 52:=by decide
theorem dbl_inf:double.infRung=2047 * 2 ^ 52:=by decide
theorem dbl_least:double.leastPlace=-1074:=by decide
theorem dbl_fb:double.fractionBits=52:=rfl
def rv (r:Nat):Nat:=if r<2 ^ 52 then r else(2 ^ 52+r % 2 ^ 52) * 2 ^ (r / 2 ^ 52-1)
theorem rv_succ (r:Nat):rv r≤rv (r+1):=by
 unfold rv
 by_cases h:r+1<2 ^ 52
 ·rw [if_pos (by omega),if_pos h];omega
 ·rw [if_neg h]
  by_cases h2:r<2 ^ 52
  ·have e:r+1=2 ^ 52:=by omega
   rw [if_pos h2,e];simp;omega
  ·rw [if_neg h2]
   by_cases h3:r % 2 ^ 52+1=2 ^ 52
   ·have e1:(r+1) % 2 ^ 52=0:=by omega
    have e2:(r+1) / 2 ^ 52=r / 2 ^ 52+1:=by omega
    have e3:1≤r / 2 ^ 52:=by omega
    obtain⟨q,hq⟩:∃ q,r / 2 ^ 52=q+1:=⟨r / 2 ^ 52-1,by omega⟩
    have hm:r % 2 ^ 52<2 ^ 52:=Nat.mod_lt _ (by omega)
    rw [e1,e2,hq,Nat.add_sub_cancel,Nat.add_sub_cancel]
    generalize r % 2 ^ 52=m at hm
    have hp:2 ^ (q+1)=2 ^ q * 2:=Nat.pow_succ ..
    rw [hp]
    refine Nat.le_trans (Nat.mul_le_mul_right (2 ^ q) (show 2 ^ 52+m≤2 ^ 53 by omega)) ?_
    generalize 2 ^ q=x
    omega
   ·have e1:(r+1) % 2 ^ 52=r % 2 ^ 52+1:=by omega
    have e2:(r+1) / 2 ^ 52=r / 2 ^ 52:=by omega
    rw [e1,e2]
    exact Nat.mul_le_mul_right _ (by omega)
theorem rv_mono {r r':Nat} (h:r≤r'):rv r≤rv r':=by
 induction r' with
 | zero=>have:r=0:=by omega
         subst this;exact Nat.le_refl _
 | succ n ih =>
  by_cases h2:r=n+1
  ·subst h2;exact Nat.le_refl _
  ·exact Nat.le_trans (ih (by omega)) (rv_succ n)
theorem read_word (s:Bool) (r:Nat) (h:r≤2047 * 2 ^ 52):double.read (double.word s r) =
 if r<2 ^ 52 then .number s r (-1074) else if r<2047 * 2 ^ 52 then .number s (2 ^ 52+r % 2 ^ 52) (-1074+(r / 2 ^ 52-1:Nat)) else .infinity s:=by
 unfold Format.read Format.word
 rw [dbl_sw,dbl_bin,dbl_inf,dbl_least]
 have e1:((if s=true then 2 ^ 63+r else r) / 2 ^ 63 % 2==1)=s:=by
  cases s<;>simp<;>omega
 have e2:(if s=true then 2 ^ 63+r else r) % 2 ^ 63=r:=by
  cases s<;>simp<;>omega
 simp only [e1,e2]
 split
 ·rfl
 ·split
  ·rfl
  ·rw [if_pos (by omega)]
theorem le_word_num {s t:Bool} {r r':Nat} (h:r<2047 * 2 ^ 52) (h':r'<2047 * 2 ^ 52) (hs:sg s (rv r)≤sg t (rv r')):leD (double.read (double.word s r)) (double.read (double.word t r'))=true:=by
 have key:∀ (s:Bool) (r:Nat),r<2047 * 2 ^ 52→∃ m i,double.read (double.word s r)=.number s m i∧-1074≤i∧sg s m * 2 ^ (i-(-1074)).toNat=sg s (rv r):=by
  intro s r hr
  rw [read_word s r (by omega)]
  by_cases h1:r<2 ^ 52
  ·refine⟨r,-1074,by rw [if_pos h1],by omega,?_⟩
   unfold rv;rw [if_pos h1];simp
  ·refine⟨_,_,by rw [if_neg h1,if_pos hr],by omega,?_⟩
   unfold rv;rw [if_neg h1]
   have e:(-1074+((r / 2 ^ 52-1:Nat):Int) - -1074).toNat=r / 2 ^ 52-1:=by omega
   rw [e]
   cases s<;>simp [sg,Int.neg_mul]
 obtain⟨m,i,e1,b1,v1⟩:=key s r h
 obtain⟨n,j,e2,b2,v2⟩:=key t r' h'
 rw [e1,e2,order_num s t m n i j (-1074) b1 b2,v1,v2]
 simpa using hs
def rung (m:Nat):Nat:=if m=0 then 0 else(m.log2+1022) * 2 ^ 52+(if m.log2≤52 then m * 2 ^ (52-m.log2) else Toward.even.cut false m (m.log2-52))
theorem cut_neg (s:Bool) (n d:Nat):Toward.even.cut s n d=Toward.even.cut false n d:=rfl
theorem cut_zero (n:Nat):Toward.even.cut false n 0=n:=by
 unfold Toward.cut
 simp [Nat.mod_one]
theorem nearest_int (s:Bool) (m:Nat) (h:rung m≤2047 * 2 ^ 52):double.nearest s m 0=double.word s (rung m):=by
 unfold Format.nearest rung at *
 by_cases h0:m=0
 ·rw [if_pos h0,if_pos h0]
 ·rw [if_neg h0] at h
  rw [if_neg h0,if_neg h0,dbl_least,dbl_fb,dbl_bin,dbl_inf]
  have e1:max (0+(m.log2:Int)-((52:Nat):Int)) (-1074)=(m.log2:Int)-52:=by omega
  have e2:((m.log2:Int)-52 - -1074).toNat=m.log2+1022:=by omega
  simp only [e1,e2,cut_neg s]
  have e3:Toward.even.cut false (m <<< (0-((m.log2:Int)-52)).toNat) ((m.log2:Int)-52-0).toNat=(if m.log2≤52 then m * 2 ^ (52-m.log2) else Toward.even.cut false m (m.log2-52)):=by
   by_cases hl:m.log2≤52
   ·rw [if_pos hl,show((m.log2:Int)-52-0).toNat=0 by omega,cut_zero,Nat.shiftLeft_eq,show(0-((m.log2:Int)-52)).toNat=52-m.log2 by omega]
   ·rw [if_neg hl,show(0-((m.log2:Int)-52)).toNat=0 by omega,show((m.log2:Int)-52-0).toNat=m.log2-52 by omega];rfl
  rw [e3,Nat.min_eq_left h]
theorem cut_gap {m d:Nat} (h:d≤m.log2+2):Toward.even.cut false m d=m / 2 ^ d+(decide (2 ^ d<2 * (m % 2 ^ d))||(2 ^ d==2 * (m % 2 ^ d)&&(m / 2 ^ d) % 2==1)).toNat:=by
 unfold Toward.cut
 simp only [Nat.min_eq_left h,Nat.shiftLeft_eq,Nat.one_mul]
theorem cut_mono {a b d:Nat} (ha:d≤a.log2+2) (hb:d≤b.log2+2) (h:a≤b):Toward.even.cut false a d≤Toward.even.cut false b d:=by
 rw [cut_gap ha,cut_gap hb]
 obtain⟨g,hg⟩:∃ g,2 ^ d=g:=⟨_,rfl⟩
 have hgp:0<g:=by rw [←hg];exact Nat.two_pow_pos d
 rw [hg]
 have hq:=Nat.div_le_div_right (c:=g) h
 by_cases he:a / g=b / g
 ·have hr:a % g≤b % g:=by
   have h1:=Nat.div_add_mod a g
   have h2:=Nat.div_add_mod b g
   rw [he] at h1;omega
  rw [he]
  refine Nat.add_le_add_left ?_ _
  by_cases c1:g<2 * (b % g)
  ·simp [c1];exact Bool.toNat_le _
  ·by_cases c2:g=2 * (b % g)
   ·by_cases c3:g<2 * (a % g)
    ·omega
    ·by_cases c4:g=2 * (a % g)
     ·have:a % g=b % g:=by omega
      rw [this];exact Nat.le_refl _
     ·have c5:(g==2 * (a % g))=false:=by simpa using c4
      simp [c3,c5]
   ·have c3:¬ g<2 * (a % g):=by omega
    have c4:¬ g=2 * (a % g):=by omega
    have c5:(g==2 * (a % g))=false:=by simpa using c4
    simp [c3,c5]
 ·have h1:a / g+1≤b / g:=by omega
  have h2:=Bool.toNat_le (decide (g<2 * (a % g))||(g==2 * (a % g)&&(a / g) % 2==1))
  omega
theorem kept_range {m:Nat} (h0:m≠0):2 ^ 52≤(if m.log2≤52 then m * 2 ^ (52-m.log2) else Toward.even.cut false m (m.log2-52))∧(if m.log2≤52 then m * 2 ^ (52-m.log2) else Toward.even.cut false m (m.log2-52))≤2 ^ 53:=by
 have hl:=Nat.log2_self_le h0
 have hu:=@Nat.lt_log2_self m
 by_cases h:m.log2≤52
 ·rw [if_pos h]
  have hp:2 ^ m.log2 * 2 ^ (52-m.log2)=2 ^ 52:=by rw [←Nat.pow_add];congr 1;omega
  have hp2:2 ^ (m.log2+1) * 2 ^ (52-m.log2)=2 ^ 53:=by rw [←Nat.pow_add];congr 1;omega
  exact⟨by rw [←hp];exact Nat.mul_le_mul_right _ hl,by rw [←hp2];exact Nat.mul_le_mul_right _ (Nat.le_of_lt hu)⟩
 ·rw [if_neg h,cut_gap (by omega)]
  have hg:0<2 ^ (m.log2-52):=Nat.two_pow_pos _
  have hp:2 ^ m.log2=2 ^ 52 * 2 ^ (m.log2-52):=by rw [←Nat.pow_add];congr 1;omega
  have hp2:2 ^ (m.log2+1)=2 ^ 53 * 2 ^ (m.log2-52):=by rw [←Nat.pow_add];congr 1;omega
  have q1:2 ^ 52≤m / 2 ^ (m.log2-52):=(Nat.le_div_iff_mul_le hg).2 (by rw [←hp];exact hl)
  have q2:m / 2 ^ (m.log2-52)<2 ^ 53:=(Nat.div_lt_iff_lt_mul hg).2 (by rw [←hp2];exact hu)
  have h2:=Bool.toNat_le (decide (2 ^ (m.log2-52)<2 * (m % 2 ^ (m.log2-52)))||(2 ^ (m.log2-52)==2 * (m % 2 ^ (m.log2-52))&&(m / 2 ^ (m.log2-52)) % 2==1))
  exact⟨by omega,by omega⟩
theorem log2_mono {a b:Nat} (ha:a≠0) (h:a≤b):a.log2≤b.log2 :=
 (Nat.le_log2 (by omega)).2 (Nat.le_trans (Nat.log2_self_le ha) h)
theorem rung_mono {a b:Nat} (h:a≤b):rung a≤rung b:=by
 unfold rung
 by_cases ha:a=0
 ·rw [if_pos ha];exact Nat.zero_le _
 have hb:b≠0:=by omega
 rw [if_neg ha,if_neg hb]
 have hl:=log2_mono ha h
 have ka:=kept_range ha
 have kb:=kept_range hb
 by_cases he:a.log2=b.log2
 ·rw [←he]
  refine Nat.add_le_add_left ?_ _
  by_cases hs:a.log2≤52
  ·rw [if_pos hs,if_pos hs];exact Nat.mul_le_mul_right _ h
  ·rw [if_neg hs,if_neg hs];exact cut_mono (by omega) (by omega) h
 ·omega
theorem rung_small {m:Nat} (h:m≤2 ^ 64):rung m<2047 * 2 ^ 52:=by
 unfold rung
 by_cases h0:m=0
 ·rw [if_pos h0];omega
 ·rw [if_neg h0]
  have k:=kept_range h0
  have:m.log2≤64:=by
   have:=log2_mono h0 h
   rw [show(2 ^ 64:Nat).log2=64 by decide +kernel] at this
   exact this
  omega
def fi (n:Int):Datum:=double.read (double.nearest (decide (n<0)) n.natAbs 0)
theorem fi_mono {m n:Int} (hm:m.natAbs≤2 ^ 64) (hn:n.natAbs≤2 ^ 64) (h:m≤n):leD (fi m) (fi n)=true:=by
 have r1:=rung_small hm
 have r2:=rung_small hn
 unfold fi
 rw [nearest_int _ _ (Nat.le_of_lt r1),nearest_int _ _ (Nat.le_of_lt r2)]
 refine le_word_num r1 r2 ?_
 by_cases c1:m<0
 ·by_cases c2:n<0
  ·have:=rv_mono (rung_mono (show n.natAbs≤m.natAbs by omega))
   simp [sg,c1,c2];omega
  ·simp [sg,c1,c2]<;>omega
 ·have c2:¬ n<0:=by omega
  have:=rv_mono (rung_mono (show m.natAbs≤n.natAbs by omega))
  simp [sg,c1,c2];omega
end Go.Proofs.Ytgnllglbopaheaa.Fl

namespace Go.Proofs.Ytgnllglbopaheaa
open Go.RowKit
def withinB (n:Int) (m:Nat):Bool:=FloatKind.f64.format.order (floatOfInt .f64 n) m==some .lt||FloatKind.f64.format.order (floatOfInt .f64 n) m==some .eq
theorem withinB_eq (n:Int) (m:Nat):withinB n m=Fl.leD (Fl.fi n) (Ieee.double.read m):=rfl
theorem within_any (n:Int) (m:Nat) (w:World):Calls Try.prog 28 #[.int .i64 n,.float .f64 m] w fun e w'=>e=.returned (.bool (withinB n m))∧w'=w:=by
 go_enter Try.func28,Try.ntmps28
 go_wp2
 go_ret
 exact⟨rfl,rfl⟩
theorem wf_I64 {x:Int} (h:(Lit.int .i64 x).wf=true):I64 x:=by
 simp [Lit.wf] at h
 have hm:IntKind.i64.min=-9223372036854775808:=by decide
 rw [hm] at h
 exact h
end Go.Proofs.Ytgnllglbopaheaa

namespace Go.Proofs.Ytgnllglbopaheaa.Dv
open Go.RowKit
theorem box_cells {w wr:World} {v0 v1 v2:Value} {T:TypeId} (h:Below (w.heap.size+1) (w.alloc (.cells #[v0,v1,v2] T)) wr) :
 wr.cell? ⟨w.heap.size,0,none⟩=some v0∧wr.cell? ⟨w.heap.size,1,none⟩=some v1∧wr.cell? ⟨w.heap.size,2,none⟩=some v2:=by
 have key:∀ o,wr.cell? ⟨w.heap.size,o,none⟩=(#[v0,v1,v2]:Array Value)[o]?:=fun o=>by
  rw [h.cell (p:=⟨w.heap.size,o,none⟩) (by exact Nat.lt_succ_self _),World.cell?_alloc_at _ _ _ _ rfl]
 exact⟨by rw [key];rfl,by rw [key];rfl,by rw [key];rfl⟩
end Go.Proofs.Ytgnllglbopaheaa.Dv

namespace Go.Proofs.Ytgnllglbopaheaa.Dv
open Go.RowKit
def boxOf (t:Tm) (s:Value):Obj:=.cells #[.int .i64 t.k,.int .i64 t.i,s] 24
def Held (w:World) (t:Tm) (s:Value) (w':World):Prop:=Below (w.heap.size+1) (w.alloc (boxOf t s)) w'
theorem held_start (w:World) (t:Tm) (s:Value):Held w t s (w.alloc (.cells #[.int .i64 t.k,.int .i64 t.i,s] 24)):=Below.refl _ _
theorem held_cells {w w':World} {t:Tm} {s:Value} (h:Held w t s w'):w'.cell? ⟨w.heap.size,0,none⟩=some (.int .i64 t.k)∧w'.cell? ⟨w.heap.size,1,none⟩=some (.int .i64 t.i)∧w'.cell? ⟨w.heap.size,2,none⟩=some s:=box_cells h
theorem held_call {w w1 w2:World} {t:Tm} {s:Value} (h:Held w t s w1) (hb:Below w1.heap.size w1 w2):Held w t s w2 :=
 below_call h hb (by have:=h.size;simpa using this)
theorem held_drew {w w1:World} {t:Tm} {s:Value} (h:Held w t s w1):Held w t s w1.drew:=Below.drew h
theorem held_lies {w w1:World} {t:Tm} {s s':Value} {l:List Tm} (h:Held w t s w1) (hl:Lies w l s'):Lies w1 l s':=hl.keep (below_of_box h)
theorem held_below {w w1:World} {t:Tm} {s:Value} (h:Held w t s w1):Below w.heap.size w w1:=below_of_box h
end Go.Proofs.Ytgnllglbopaheaa.Dv

namespace Go.Proofs.Ytgnllglbopaheaa.Dv
open Go.RowKit
inductive LiesP (w:World) (P:Nat→Prop):List Tm→Value→Prop
 | mk (l:List Tm) (a:Option Addr) (cap:Nat) (S:Nat→Value) (hc:l.length≤cap) (hm:cap≤maxLen) (hf:∀ x ∈ l,x.fine)
  (hn:∀ i (h:i<l.length),∃ b,a=some ⟨b,0,none⟩∧P b∧Node w b (i * 3) l[i] (S i)) (hk:∀ i (h:i<l.length),LiesP w P (l[i]).kids (S i)):LiesP w P l (.slice a l.length cap)
theorem LiesP.lies {w:World} {P:Nat→Prop} {l:List Tm} {s:Value} (h:LiesP w P l s):Lies w l s:=by
 induction h with
 | mk l a cap S hc hm hf hn hk ih=>exact .mk l a cap S hc hm hf (fun i hi=>by obtain⟨b,ha,_,hx⟩:=hn i hi;exact⟨b,0,ha,by rw [Nat.zero_add];exact hx⟩) ih
theorem Node.same {w w':World} {b o:Nat} {t:Tm} {s:Value} (h:Node w b o t s) (hb:w'.heap[b]? =w.heap[b]?):Node w' b o t s :=
 ⟨(World.cell?_of_block (a:=⟨b,o,none⟩) hb).trans h.c0,(World.cell?_of_block (a:=⟨b,o+1,none⟩) hb).trans h.c1,(World.cell?_of_block (a:=⟨b,o+2,none⟩) hb).trans h.c2⟩
theorem LiesP.keep {w w':World} {P Q:Nat→Prop} {l:List Tm} {s:Value} (h:LiesP w P l s) (hb:∀ b,P b→b<w.heap.size→w'.heap[b]? =w.heap[b]?) (hq:∀ b,P b→b<w.heap.size→Q b):LiesP w' Q l s:=by
 induction h with
 | mk l a cap S hc hm hf hn hk ih =>
  exact .mk l a cap S hc hm hf (fun i hi=>by obtain⟨b,ha,hp,hx⟩:=hn i hi;exact⟨b,ha,hq b hp hx.lt,hx.same (hb b hp hx.lt)⟩) ih
def Own (B:Nat) (w:World) (b:Nat):Prop:=B≤b∧∃ cs,w.heap[b]? =some (.cells cs 24 (0,0))
theorem Own.lt {B:Nat} {w:World} {b:Nat} (h:Own B w b):b<w.heap.size:=by obtain⟨-,cs,h⟩:=h;exact(Array.getElem?_eq_some_iff.1 h).1
theorem Own.same {B:Nat} {w w':World} {b:Nat} (h:Own B w b) (hb:w'.heap[b]? =w.heap[b]?):Own B w' b:=⟨h.1,by rw [hb];exact h.2⟩
theorem Own.later {B:Nat} {w w':World} {b:Nat} (h:Own B w b) (hb:Below w.heap.size w w'):Own B w' b:=h.same (hb.block b h.lt)
theorem Own.from {B B':Nat} {w:World} {b:Nat} (h:Own B w b) (hB:B'≤B):Own B' w b:=⟨Nat.le_trans hB h.1,h.2⟩
theorem LiesP.later {w w':World} {B:Nat} {l:List Tm} {s:Value} (h:LiesP w (Own B w) l s) (hb:Below w.heap.size w w'):LiesP w' (Own B w') l s:=h.keep (fun b _ hlt=>hb.block b hlt) (fun _ hp _=>hp.later hb)
theorem LiesP.from {w:World} {B B':Nat} {l:List Tm} {s:Value} (h:LiesP w (Own B w) l s) (hB:B'≤B):LiesP w (Own B' w) l s:=h.keep (fun _ _ _=>rfl) (fun _ hp _=>hp.from hB)
def cells5:List (Tm × Value)→List Value
 | []=>[]
 | (t,s)::r=>.int .i64 t.k:: .int .i64 t.i::s::cells5 r
theorem cells5_length:∀ ps:List (Tm × Value),(cells5 ps).length=ps.length * 3
 | []=>rfl
 | (t,s)::r=>by simp [cells5,cells5_length r];omega
theorem cells5_append:∀ ps qs:List (Tm × Value),cells5 (ps++qs)=cells5 ps++cells5 qs
 | [],qs=>rfl
 | (t,s)::r,qs=>by simp [cells5,cells5_append r qs]
theorem cells5_get:∀ (ps:List (Tm × Value)) (i:Nat) (h:i<ps.length) (q:Nat),q<3→(cells5 ps)[i * 3+q]? =[Value.int .i64 (ps[i]).1.k,.int .i64 (ps[i]).1.i,(ps[i]).2][q]?
 | (t,s)::r,0,_,q,hq=>by
  rw [Nat.zero_mul,Nat.zero_add]
  match q,hq with
  | 0,_=>rfl
  | 1,_=>rfl
  | 2,_=>rfl
 | (t,s)::r,i+1,h,q,hq=>by
  have:=cells5_get r i (by simpa using h) q hq
  rw [show(i+1) * 3+q=(i * 3+q)+3 by omega]
  simpa [cells5] using this
structure Made (B:Nat) (w:World) (v:Value) (ps:List (Tm × Value)):Prop where
 own:w.ownsRow B 24 3 v ps.length (cells5 ps)
 fine:∀ p ∈ ps,p.1.fine
 kids:∀ p ∈ ps,LiesP w (fun b=>Own B w b∧v.ownBlock≠some b) p.1.kids p.2
theorem made_nil (B:Nat) (w:World):Made B w (.slice none 0 0) []:=⟨⟨rfl,Or.inl ⟨rfl,rfl⟩⟩,(fun _ h=>by cases h),(fun _ h=>by cases h)⟩
theorem made_later {B:Nat} {w w':World} {v:Value} {ps:List (Tm × Value)} (h:Made B w v ps) (hb:Below w.heap.size w w'):Made B w' v ps:=by
 refine⟨?_,h.fine,fun p hp=>(h.kids p hp).keep (fun b _ hlt=>hb.block b hlt) (fun _ hq _=>⟨hq.1.later hb,hq.2⟩)⟩
 obtain⟨h1,h2⟩:=h.own
 refine⟨h1,?_⟩
 rcases h2 with h2 | ⟨g,cap,cur,hv,hg,hh,r⟩
 ·exact Or.inl h2
 ·refine Or.inr ⟨g,cap,cur,hv,hg,?_,r⟩
  rw [hb.block g ?_];exact hh
  exact(Array.getElem?_eq_some_iff.1 hh).1
theorem made_block {B:Nat} {w:World} {v:Value} {ps:List (Tm × Value)} (h:Made B w v ps) {b:Nat} (hb:w.heap.size≤b):v.ownBlock≠some b:=by
 rcases h.own.2 with ⟨rfl,-⟩ | ⟨g,cap,cur,rfl,-,hh,-⟩
 ·simp [Value.ownBlock]
 ·have:=(Array.getElem?_eq_some_iff.1 hh).1
  simp [Value.ownBlock];omega
theorem made_step {B:Nat} {w w1:World} {v:Value} {ps:List (Tm × Value)} {p:Tm × Value} {g cap:Nat} (h:Made B w v ps) (hf:p.1.fine) (hk:LiesP w (fun b=>Own B w b∧v.ownBlock≠some b) p.1.kids p.2)
 (hown:w1.ownsRow B 24 3 (.slice (some ⟨g,0,none⟩) (ps.length+1) cap) (ps.length+1) (cells5 ps++cells5 [p])) (hgrow:w.grownBy w1 v.ownBlock) (hg:v.ownBlock=some g∨g=w.heap.size) :
 Made B w1 (.slice (some ⟨g,0,none⟩) (ps.length+1) cap) (ps++[p]):=by
 have keep:∀ q:Tm × Value,LiesP w (fun b=>Own B w b∧v.ownBlock≠some b) q.1.kids q.2→LiesP w1 (fun b=>Own B w1 b∧(Value.slice (some ⟨g,0,none⟩) (ps.length+1) cap).ownBlock≠some b) q.1.kids q.2:=fun q hq =>
  hq.keep (fun b hb hlt=>hgrow.block b hlt (fun e=>hb.2 e.symm)) (fun b hb hlt=>⟨hb.1.same (hgrow.block b hlt (fun e=>hb.2 e.symm)),by
   show some g≠some b
   rcases hg with e | e
   ·rw [←e];exact hb.2
   ·intro e';have:=Option.some.inj e';omega⟩)
 refine⟨by rw [cells5_append];simpa using hown,fun q hq=>?_,fun q hq=>?_⟩
 ·rcases List.mem_append.1 hq with hq | hq
  ·exact h.fine q hq
  ·rw [List.mem_singleton.1 hq];exact hf
 ·rcases List.mem_append.1 hq with hq | hq
  ·exact keep q (h.kids q hq)
  ·rw [List.mem_singleton.1 hq];exact keep p hk
theorem made_lies {B:Nat} {w:World} {v:Value} {ps:List (Tm × Value)} (h:Made B w v ps):LiesP w (Own B w) (ps.map (·.1)) v:=by
 have fin:∀ x ∈ ps.map (·.1),x.fine:=fun x hx=>by obtain⟨p,hp,rfl⟩:=List.mem_map.1 hx;exact h.fine p hp
 have kid:∀ i (hi:i<ps.length),LiesP w (Own B w) (ps[i]).1.kids (ps[i]).2:=fun i hi=>(h.kids _ (List.getElem_mem hi)).keep (fun _ _ _=>rfl) (fun _ hb _=>hb.1)
 obtain⟨-,⟨rfl,hn⟩ | ⟨g,cap,cur,rfl,hg,hh,hnc,hcm,hsz,htk⟩⟩:=h.own
 ·obtain rfl:ps=[]:=List.eq_nil_of_length_eq_zero hn
  exact .mk [] none 0 (fun _=>.nilIface) (Nat.le_refl _) (by decide) (fun _ h=>by cases h) (fun _ h=>by cases h) (fun _ h=>by cases h)
 ·have:=LiesP.mk (w:=w) (P:=Own B w) (ps.map (·.1)) (some ⟨g,0,none⟩) cap (fun i=>(ps[i]?.map (·.2)).getD (.slice none 0 0)) (by simpa using hnc) hcm fin
   (fun i hi=>by
     have hi':i<ps.length:=by simpa using hi
     refine⟨g,rfl,⟨hg,cur,hh⟩,?_⟩
     simp only [List.getElem_map,List.getElem?_eq_getElem hi',Option.map_some,Option.getD_some]
     have cellq:∀ q,q<3→w.cell? ⟨g,i * 3+q,none⟩=[Value.int .i64 (ps[i]).1.k,.int .i64 (ps[i]).1.i,(ps[i]).2][q]?:=fun q hq=>by
      rw [h.own.cellAt (i * 3+q) (by omega)];exact cells5_get ps i hi' q hq
     exact⟨cellq 0 (by omega),cellq 1 (by omega),cellq 2 (by omega)⟩)
   (fun i hi=>by
     have hi':i<ps.length:=by simpa using hi
     simp only [List.getElem_map,List.getElem?_eq_getElem hi',Option.map_some,Option.getD_some]
     exact kid i hi')
  simpa using this
theorem news_new (w:World) (t:Tm) (s:Value) (T:TypeId):∀ j u,(cells5 [(t,s)])[j]? =some u→(w.alloc (.cells #[.int .i64 t.k,.int .i64 t.i,s] T)).cell? ((⟨w.heap.size,0,none⟩:Addr).add j)=some u :=
 World.news_of_block (alloc_new w _)
theorem five_set {w:World} {g:Nat} {T:TypeId} {z0 z1 z2 v0 v1 v2:Value} (h:w.heap[g]? =some (.cells #[z0,z1,z2] T (0,0))) :
 (((w.setCell ⟨g,0,none⟩ v0).setCell ⟨g,1,none⟩ v1).setCell ⟨g,2,none⟩ v2).heap[g]? =some (.cells #[v0,v1,v2] T (0,0)) :=
 heap_setCell_same _ _ _ _ _ _ (heap_setCell_same _ _ _ _ _ _ (heap_setCell_same _ _ _ _ _ _ h))
theorem made_above {B:Nat} {w:World} {v:Value} {ps:List (Tm × Value)} (h:Made B w v ps):∀ k,v.ownBlock=some k→B≤k:=by
 intro k hk
 rcases h.own.2 with ⟨rfl,-⟩ | ⟨g,cap,cur,rfl,hg,-⟩
 ·simp [Value.ownBlock] at hk
 ·simp [Value.ownBlock] at hk;omega
theorem made_push {B:Nat} {wr w2 w3:World} {v:Value} {ps:List (Tm × Value)} {t:Tm} {s2:Value} {g cap:Nat} (h:Made B wr v ps) (hf:t.fine) (hB:B≤wr.heap.size) (hb2:Below wr.heap.size wr w2) (hk:LiesP w2 (Own wr.heap.size w2) t.kids s2) (o:Obj)
 (hown:w3.ownsRow B 24 3 (.slice (some ⟨g,0,none⟩) (ps.length+1) cap) (ps.length+1) (cells5 ps++cells5 [(t,s2)])) (hgrow:(w2.alloc o).grownBy w3 v.ownBlock) (hat:v.ownBlock=some g∨g=w2.heap.size+1) :
 Made B w3 (.slice (some ⟨g,0,none⟩) (ps.length+1) cap) (ps++[(t,s2)]) :=
 made_step (made_later (made_later h hb2) ((Below.refl _ _).alloc (Nat.le_refl _) _)) hf
  (hk.keep (fun b _ hlt=>Below.heap_alloc _ _ _ hlt) (fun b hb hlt=>⟨(hb.same (Below.heap_alloc _ _ _ hlt)).from hB,made_block h hb.1⟩)) hown hgrow (by simpa using hat)
theorem below_push {B:Nat} {w wr w2 w3:World} {v:Value} {ps:List (Tm × Value)} (h:Made B wr v ps) (hb:Below B w wr) (hB:B≤wr.heap.size) (hb2:Below wr.heap.size wr w2) (o:Obj) (hgrow:(w2.alloc o).grownBy w3 v.ownBlock):Below B w w3 :=
 ((below_call hb hb2 hB).alloc (Nat.le_trans hB hb2.size) o).grown hgrow (by have:=hb2.size;simp;omega) (made_above h)
theorem info_term:(Try.prog.info? 24).map (fun i=>(i.zero,i.size,i.bytes))=some (some (.agg #[.int .i64 0,.int .i64 0,.slice none 0 0]),3,40):=by kernel_rfl
end Go.Proofs.Ytgnllglbopaheaa.Dv

namespace Go.Proofs.Ytgnllglbopaheaa.Dv
open Go.RowKit
mutual
def Tm.size:Tm→Nat
 | .mk _ _ l=>sizes l+1
def sizes:List Tm→Nat
 | []=>0
 | t::r=>t.size+sizes r
end
theorem sizes_take (l:List Tm) (k:Nat) (h:k<l.length):sizes (l.take (k+1))=sizes (l.take k)+(l[k]).size:=by
 induction l generalizing k with
 | nil=>simp at h
 | cons a r ih =>
  cases k with
  | zero=>simp [sizes]
  | succ k=>simp only [List.take_succ_cons,sizes,List.getElem_cons_succ];rw [ih k (by simpa using h)];omega
theorem sizes_le (l:List Tm) (k:Nat):sizes (l.take k)≤sizes l:=by
 induction l generalizing k with
 | nil=>simp
 | cons a r ih =>
  cases k with
  | zero=>simp [sizes]
  | succ k=>simp only [List.take_succ_cons,sizes];have:=ih k;omega
theorem Tm.size_eq (t:Tm):t.size=sizes t.kids+1:=by cases t;rfl
end Go.Proofs.Ytgnllglbopaheaa.Dv

namespace Go.Proofs.Ytgnllglbopaheaa.Dv
open Go.RowKit
def put5 (w:World) (g o:Nat) (t:Tm) (s:Value):World:=((w.setCell ⟨g,o,none⟩ (.int .i64 t.k)).setCell ⟨g,o+1,none⟩ (.int .i64 t.i)).setCell ⟨g,o+2,none⟩ s
theorem put5_other (w:World) (g o:Nat) (t:Tm) (s:Value) {b:Nat} (h:b≠g):(put5 w g o t s).heap[b]? =w.heap[b]?:=by
 unfold put5;repeat rw [Below.heap_setCell _ _ _ _ (by exact h)]
theorem put5_rest (w:World) (g o:Nat) (t:Tm) (s:Value):(put5 w g o t s).os=w.os∧(put5 w g o t s).tape=w.tape∧(put5 w g o t s).output=w.output:=by simp [put5,World.setCell]
theorem put5_size (w:World) (g o:Nat) (t:Tm) (s:Value):(put5 w g o t s).heap.size=w.heap.size:=by simp [put5,World.setCell]
theorem put5_block {w:World} {g:Nat} {cs:Array Value} {T:TypeId} (o:Nat) (t:Tm) (s:Value) (h:w.heap[g]? =some (.cells cs T (0,0))) :
 (put5 w g o t s).heap[g]? =some (.cells (((cs.setIfInBounds o (.int .i64 t.k)).setIfInBounds (o+1) (.int .i64 t.i)).setIfInBounds (o+2) s) T (0,0)) :=
 heap_setCell_same _ _ _ _ _ _ (heap_setCell_same _ _ _ _ _ _ (heap_setCell_same _ _ _ _ _ _ h))
theorem put5_out (w:World) (g o:Nat) (t:Tm) (s:Value) {q:Nat} (h:q<o∨o+3≤q):(put5 w g o t s).cell? ⟨g,q,none⟩=w.cell? ⟨g,q,none⟩:=by
 unfold put5
 repeat rw [World.cell?_setCell_other _ _ _ _ (by intro e;have:=congrArg Addr.off e;simp only at this;omega)]
theorem put5_node {w:World} {g o:Nat} {t0:Tm} {s0:Value} (t:Tm) (s:Value) (h:Node w g o t0 s0):Node (put5 w g o t s) g o t s:=by
 have ne:∀ p q:Nat,p≠q→(⟨g,p,none⟩:Addr)≠⟨g,q,none⟩:=fun p q hpq e=>hpq (congrArg Addr.off e)
 unfold put5
 refine⟨?_,?_,?_⟩
 ·rw [World.cell?_setCell_other _ _ _ _ (ne _ _ (by omega)),World.cell?_setCell_other _ _ _ _ (ne _ _ (by omega))]
  exact World.cell?_setCell_same _ _ _ h.c0
 ·rw [World.cell?_setCell_other _ _ _ _ (ne _ _ (by omega))]
  refine World.cell?_setCell_same _ _ _ (u:=.int .i64 t0.i) ?_
  rw [World.cell?_setCell_other _ _ _ _ (ne _ _ (by omega))];exact h.c1
 ·refine World.cell?_setCell_same _ _ _ (u:=s0) ?_
  rw [World.cell?_setCell_other _ _ _ _ (ne _ _ (by omega)),World.cell?_setCell_other _ _ _ _ (ne _ _ (by omega))];exact h.c2
theorem put5_keep {w:World} {g o o' b:Nat} {t x:Tm} {s sx:Value} (h:Node w b o' x sx) (hne:b≠g∨o'+3≤o∨o+3≤o'):Node (put5 w g o t s) b o' x sx:=by
 by_cases hb:b=g
 ·subst hb
  have hne':o'+3≤o∨o+3≤o':=hne.resolve_left (fun h=>h rfl)
  exact⟨(put5_out _ _ _ _ _ (by omega)).trans h.c0,(put5_out _ _ _ _ _ (by omega)).trans h.c1,(put5_out _ _ _ _ _ (by omega)).trans h.c2⟩
 ·exact h.same (put5_other _ _ _ _ _ hb)
structure Full (B:Nat) (w:World) (g:Nat) (xs:List (Tm × Value)):Prop where
 above:B≤g
 open':∃ cs,w.heap[g]? =some (.cells cs 24 (0,0))
 node:∀ i (h:i<xs.length),Node w g (i * 3) (xs[i]).1 (xs[i]).2
 fine:∀ p ∈ xs,p.1.fine
 kids:∀ p ∈ xs,LiesP w (fun b=>Own B w b∧b≠g) p.1.kids p.2
theorem Full.later {B g:Nat} {w w':World} {xs:List (Tm × Value)} (h:Full B w g xs) (hb:Below w.heap.size w w'):Full B w' g xs:=by
 have hg:g<w.heap.size:=by obtain⟨cs,h⟩:=h.open';exact(Array.getElem?_eq_some_iff.1 h).1
 exact⟨h.above,by rw [hb.block g hg];exact h.open',fun i hi=>(h.node i hi).below hb hg,h.fine,fun p hp=>(h.kids p hp).keep (fun b _ hlt=>hb.block b hlt) (fun _ hq _=>⟨hq.1.later hb,hq.2⟩)⟩
theorem Full.fill {B g k:Nat} {w:World} {xs:List (Tm × Value)} {t:Tm} {s:Value} (h:Full B w g xs) (hk:k<xs.length) (hf:t.fine) (hl:LiesP w (fun b=>Own B w b∧b≠g) t.kids s) :
 Full B (put5 w g (k * 3) t s) g (xs.set k (t,s)):=by
 have keepL:∀ l s',LiesP w (fun b=>Own B w b∧b≠g) l s'→LiesP (put5 w g (k * 3) t s) (fun b=>Own B (put5 w g (k * 3) t s) b∧b≠g) l s':=fun l s' h' =>
  h'.keep (fun b hb _=>put5_other _ _ _ _ _ hb.2) (fun b hb _=>⟨hb.1.same (put5_other _ _ _ _ _ hb.2),hb.2⟩)
 refine⟨h.above,?_,fun i hi=>?_,fun p hp=>?_,fun p hp=>?_⟩
 ·obtain⟨cs,hcs⟩:=h.open';exact⟨_,put5_block _ _ _ hcs⟩
 ·have hi':i<xs.length:=by simpa using hi
  by_cases e:k=i
  ·subst e
   simp only [List.getElem_set_self]
   exact put5_node t s (h.node k hk)
  ·rw [List.getElem_set_ne e]
   exact put5_keep (h.node i hi') (Or.inr (by omega))
 ·rcases List.mem_or_eq_of_mem_set hp with hp | rfl
  ·exact h.fine p hp
  ·exact hf
 ·rcases List.mem_or_eq_of_mem_set hp with hp | rfl
  ·exact keepL _ _ (h.kids p hp)
  ·exact keepL _ _ hl
theorem Full.fresh {B g:Nat} {wr w2:World} {xs:List (Tm × Value)} {l:List Tm} {s2:Value} (h:Full B wr g xs) (hB:B≤wr.heap.size) (hk:LiesP w2 (Own wr.heap.size w2) l s2):LiesP w2 (fun b=>Own B w2 b∧b≠g) l s2:=by
 have hg:g<wr.heap.size:=by obtain⟨cs,h⟩:=h.open';exact(Array.getElem?_eq_some_iff.1 h).1
 exact hk.keep (fun _ _ _=>rfl) (fun b hb _=>⟨hb.from hB,by have:=hb.1;omega⟩)
theorem Full.lies {B g cap:Nat} {w:World} {xs:List (Tm × Value)} (h:Full B w g xs) (hc:xs.length≤cap) (hm:cap≤maxLen):LiesP w (Own B w) (xs.map (·.1)) (.slice (some ⟨g,0,none⟩) xs.length cap):=by
 have:=LiesP.mk (w:=w) (P:=Own B w) (xs.map (·.1)) (some ⟨g,0,none⟩) cap (fun i=>(xs[i]?.map (·.2)).getD (.slice none 0 0)) (by simpa using hc) hm
  (fun x hx=>by obtain⟨p,hp,rfl⟩:=List.mem_map.1 hx;exact h.fine p hp)
  (fun i hi=>by
    have hi':i<xs.length:=by simpa using hi
    refine⟨g,rfl,⟨h.above,h.open'⟩,?_⟩
    simp only [List.getElem_map,List.getElem?_eq_getElem hi',Option.map_some,Option.getD_some]
    exact h.node i hi')
  (fun i hi=>by
    have hi':i<xs.length:=by simpa using hi
    simp only [List.getElem_map,List.getElem?_eq_getElem hi',Option.map_some,Option.getD_some]
    exact(h.kids _ (List.getElem_mem hi')).keep (fun _ _ _=>rfl) (fun _ hb _=>hb.1))
 simpa using this
theorem liesP_nil (w:World) (P:Nat→Prop):LiesP w P [] (.slice none 0 0):=.mk [] none 0 (fun _=>.nilIface) (Nat.le_refl _) (by decide) (fun _ h=>by cases h) (fun _ h=>by cases h) (fun _ h=>by cases h)
end Go.Proofs.Ytgnllglbopaheaa.Dv

namespace Go.Proofs.Ytgnllglbopaheaa.Dv
open Go.RowKit
def Tm.zero:Tm:=.mk 0 0 []
theorem take_set_next {α:Type} (l:List α) (q:Nat) (x:α) (h:q<l.length):(l.set q x).take (q+1)=l.take q++[x]:=by
 rw [List.take_succ_eq_append_getElem (by simpa using h),List.getElem_set_self,List.take_set_of_le (Nat.le_refl _)]
abbrev zeroObj:Obj:=.cells #[.int .i64 0,.int .i64 0,.slice none 0 0] 24
def Desk (w:World) (t u:Tm) (s v:Value) (w':World):Prop:=Below (w.heap.size+3) (((w.alloc (boxOf t s)).alloc zeroObj).alloc (boxOf u v)) w'
theorem desk_blocks {w w':World} {t u:Tm} {s v:Value} (h:Desk w t u s v w'):w'.heap[w.heap.size]? =some (boxOf t s)∧w'.heap[w.heap.size+1]? =some zeroObj∧w'.heap[w.heap.size+2]? =some (boxOf u v):=by
 obtain⟨h0,h1,h2,-⟩:=heap_three w (boxOf t s) zeroObj (boxOf u v)
 exact⟨by rw [Below.block h _ (by omega)];exact h0,by rw [Below.block h _ (by omega)];exact h1,by rw [Below.block h _ (by omega)];exact h2⟩
theorem five_cells {w:World} {g:Nat} {v0 v1 v2:Value} {T:TypeId} (h:w.heap[g]? =some (.cells #[v0,v1,v2] T (0,0))) :
 w.cell? ⟨g,0,none⟩=some v0∧w.cell? ⟨g,1,none⟩=some v1∧w.cell? ⟨g,2,none⟩=some v2:=by
 refine⟨?_,?_,?_⟩<;>(rw [cell_of_row w g _ _ _ _ h];rfl)
theorem five_free {w:World} {g:Nat} {cs:Array Value} {T:TypeId} (h:w.heap[g]? =some (.cells cs T (0,0))) :
 w.frozen? ⟨g,0,none⟩=false∧w.frozen? ⟨g,1,none⟩=false∧w.frozen? ⟨g,2,none⟩=false :=
 ⟨open_unfrozen h _,open_unfrozen h _,open_unfrozen h _⟩
theorem desk_start (w:World) (t u:Tm) (s v:Value):Desk w t u s v (((w.alloc (.cells #[.int .i64 t.k,.int .i64 t.i,s] 24)).alloc (.cells #[.int .i64 0,.int .i64 0,.slice none 0 0] 24)).alloc (.cells #[.int .i64 u.k,.int .i64 u.i,v] 24)):=Below.refl _ _
theorem desk_under {w w':World} {t u:Tm} {s v:Value} (h:Desk w t u s v w'):Below w.heap.size w w' :=
 ((((Below.refl _ _).alloc (Nat.le_refl _) _).alloc (by simp) _).alloc (by simp;omega) _).trans (h.mono (by omega))
theorem desk_size {w w':World} {t u:Tm} {s v:Value} (h:Desk w t u s v w'):w.heap.size+3≤w'.heap.size:=by have:=Below.size h;simpa using this
theorem desk_later {w w1 w2:World} {t u:Tm} {s v:Value} (h:Desk w t u s v w1) (hb:Below w1.heap.size w1 w2):Desk w t u s v w2:=below_call h hb (by have:=desk_size h;omega)
theorem desk_trans {w w1 w2:World} {t u:Tm} {s v:Value} (h:Desk w t u s v w1) (hb:Below (w.heap.size+3) w1 w2):Desk w t u s v w2:=Below.trans h hb
theorem desk_set {w w1:World} {t u:Tm} {s v v':Value} (h:Desk w t u s v w1):Desk w t u s v' (w1.setCell ⟨w.heap.size+2,2,none⟩ v'):=by
 obtain⟨h0,h1,h2,h3⟩:=heap_three w (boxOf t s) zeroObj (boxOf u v')
 obtain⟨g0,g1,g2⟩:=desk_blocks h
 refine⟨(Below.os h).trans rfl,(Below.tape h).trans rfl,(Below.output h).trans rfl,by have:=desk_size h;simp [World.setCell];omega,fun k hk=>?_⟩
 by_cases e2:k=w.heap.size+2
 ·subst e2
  rw [h2,heap_setCell_same _ _ _ _ _ _ g2];rfl
 ·rw [Below.heap_setCell _ _ _ _ (by exact e2)]
  by_cases e1:k=w.heap.size+1
  ·subst e1;rw [h1,g1]
  ·by_cases e0:k=w.heap.size
   ·subst e0;rw [h0,g0]
   ·rw [h3 k (by omega),(desk_under h).block k (by omega)]
theorem desk_put {w w1:World} {t u:Tm} {s v:Value} (h:Desk w t u s v w1) {g:Nat} (hg:w.heap.size+3≤g) (o:Nat) (x:Tm) (sx:Value):Desk w t u s v (put5 w1 g o x sx) :=
 Below.trans h ⟨(put5_rest _ _ _ _ _).1,(put5_rest _ _ _ _ _).2.1,(put5_rest _ _ _ _ _).2.2,by rw [put5_size];exact Nat.le_refl _,fun k hk=>put5_other _ _ _ _ _ (by omega)⟩
theorem cells5_zeros:∀ n:Nat,(cells5 (List.replicate n (Tm.zero,Value.slice none 0 0)))=(madeCells #[.int .i64 0,.int .i64 0,.slice none 0 0] (n * 3)).toList:=by
 intro n
 apply List.ext_getElem?
 intro j
 by_cases hj:j<n * 3
 ·have h5:j % 3<3:=Nat.mod_lt _ (by omega)
  have hd:j / 3<n:=by omega
  have e:j=j / 3 * 3+j % 3:=by omega
  have h1:=cells5_get (List.replicate n (Tm.zero,Value.slice none 0 0)) (j / 3) (by simpa using hd) (j % 3) h5
  rw [←e] at h1
  rw [h1]
  simp only [List.getElem_replicate]
  have hz:(madeCells #[Value.int .i64 0,.int .i64 0,.slice none 0 0] (n * 3)).toList[j]? =some (#[Value.int .i64 0,.int .i64 0,.slice none 0 0][j % 3]!):=by simp [madeCells,hj]
  rw [hz]
  generalize j % 3=q at h5
  match q,h5 with
  | 0,_=>rfl
  | 1,_=>rfl
  | 2,_=>rfl
 ·rw [List.getElem?_eq_none (by rw [cells5_length];simp;omega),List.getElem?_eq_none (by simp [madeCells];omega)]
theorem zero_fine:Tm.zero.fine:=by simp [Tm.zero,Tm.fine,I64,Tm.k,Tm.i]
theorem full_made {B:Nat} {w:World} {g n:Nat} (h:w.ownsRow B 24 3 (.slice (some ⟨g,0,none⟩) n n) n (madeCells #[.int .i64 0,.int .i64 0,.slice none 0 0] (n * 3)).toList) :
 Full B w g (List.replicate n (Tm.zero,.slice none 0 0)):=by
 rw [←cells5_zeros] at h
 have hb:B≤g∧∃ cs,w.heap[g]? =some (.cells cs 24 (0,0)):=by
  obtain⟨-,⟨h1,-⟩ | ⟨g',cap,cur,h1,h2,h3,-⟩⟩:=h
  ·cases h1
  ·obtain rfl:g=g':=by simp only [Value.slice.injEq,Option.some.injEq,Addr.mk.injEq] at h1;exact h1.1.1
   exact⟨h2,cur,h3⟩
 refine⟨hb.1,hb.2,fun i hi=>?_,fun p hp=>?_,fun p hp=>?_⟩
 ·have cellq:∀ q,q<3→w.cell? ⟨g,i * 3+q,none⟩=[Value.int .i64 ((List.replicate n (Tm.zero,Value.slice none 0 0))[i]).1.k,.int .i64 ((List.replicate n (Tm.zero,Value.slice none 0 0))[i]).1.i,((List.replicate n (Tm.zero,Value.slice none 0 0))[i]).2][q]?:=fun q hq=>by
   rw [h.cellAt (i * 3+q) (by simp at hi;omega)];exact cells5_get _ i hi q hq
  exact⟨cellq 0 (by omega),cellq 1 (by omega),cellq 2 (by omega)⟩
 ·rw [(List.mem_replicate.1 hp).2];exact zero_fine
 ·rw [(List.mem_replicate.1 hp).2];exact liesP_nil _ _
theorem Full.below {B g b o:Nat} {w:World} {xs:List (Tm × Value)} (h:Full B w g xs) (hb:b<B) (v:Value):Full B (w.setCell ⟨b,o,none⟩ v) g xs:=by
 have hg:=h.above
 have hk:∀ b',B≤b'→(w.setCell ⟨b,o,none⟩ v).heap[b']? =w.heap[b']?:=fun b' hb'=>Below.heap_setCell _ _ _ _ (by show b'≠b;omega)
 exact⟨hg,by rw [hk g hg];exact h.open',fun i hi=>(h.node i hi).same (hk g hg),h.fine,fun p hp=>(h.kids p hp).keep (fun b' hb' _=>hk b' hb'.1.1) (fun b' hb' _=>⟨hb'.1.same (hk b' hb'.1.1),hb'.2⟩)⟩
theorem held_and {w w':World} {t:Tm} {s v:Value} {p:Addr} (h:Held w t s w') (hp:w.cell? p=some v):Held w t s w'∧w'.cell? p=some v∧w'.cell? ⟨w.heap.size,0,none⟩=some (.int .i64 t.k)∧w'.cell? ⟨w.heap.size,1,none⟩=some (.int .i64 t.i)∧w'.cell? ⟨w.heap.size,2,none⟩=some s :=
 ⟨h,cell_lat (held_below h) hp,held_cells h⟩
theorem held_alloc {w w1:World} {t:Tm} {s:Value} (h:Held w t s w1) (o:Obj):Held w t s (w1.alloc o):=Below.alloc h (by have:=Below.size h;simpa using this) o
abbrev five (w:World) (g:Nat) (v0 v1 v2:Value):World:=((w.setCell ⟨g,0,none⟩ v0).setCell ⟨g,1,none⟩ v1).setCell ⟨g,2,none⟩ v2
theorem five_size (w:World) (g:Nat) (v0 v1 v2:Value):(five w g v0 v1 v2).heap.size=w.heap.size:=by simp [five,World.setCell]
theorem five_other (w:World) (g:Nat) (v0 v1 v2:Value) {b:Nat} (h:b≠g):(five w g v0 v1 v2).heap[b]? =w.heap[b]?:=by
 unfold five;repeat rw [Below.heap_setCell _ _ _ _ (by exact h)]
theorem below_five {B:Nat} {w w1:World} (h:Below B w w1) {g:Nat} (hg:B≤g) (v0 v1 v2:Value):Below B w (five w1 g v0 v1 v2) :=
 ((h.setCell hg _).setCell hg _).setCell hg _
theorem liesP_fives {B N g:Nat} {w:World} {l:List Tm} {s:Value} (h:LiesP w (Own B w) l s) (hg:g<B) (hN:N≤B) (v0 v1 v2:Value):LiesP (five w g v0 v1 v2) (Own N (five w g v0 v1 v2)) l s :=
 h.keep (fun b hp _=>five_other w g v0 v1 v2 (by have:=hp.1;omega)) (fun b hp _=>(hp.from hN).same (five_other w g v0 v1 v2 (by have:=hp.1;omega)))
theorem held_set {w w1:World} {t:Tm} {s:Value} (h:Held w t s w1) {p:Addr} (hp:w.heap.size+1≤p.block) (u:Value):Held w t s (w1.setCell p u):=Below.setCell h hp u
end Go.Proofs.Ytgnllglbopaheaa.Dv

namespace Go.Proofs.Ytgnllglbopaheaa.Dv
open Go.RowKit
def mostN (r:Int):Int:=if r=1∨r=2 then 1000000 else 0
def nodeOk (k i:Int) (n:Nat):Bool:=decide (0≤dkidsN k)&&((n:Int)==dkidsN k)&&decide (0≤i)&&decide (i≤mostN k)
mutual
def Tm.rightB:Tm→Bool
 | .mk k i l=>nodeOk k i l.length&&rights l
def rights:List Tm→Bool
 | []=>true
 | x::r=>x.rightB&&rights r
end
theorem Tm.rightB_eq (t:Tm):t.rightB=(nodeOk t.k t.i t.kids.length&&rights t.kids):=by cases t;simp only [Tm.rightB];rfl
theorem rights_take:∀ (l:List Tm) (k:Nat) (h:k<l.length),rights (l.take (k+1))=(rights (l.take k)&&(l[k]).rightB)
 | x::r,0,_=>by simp [rights]
 | x::r,k+1,h=>by
  simp only [List.take_succ_cons,rights,List.getElem_cons_succ]
  rw [rights_take r k (by simpa using h),Bool.and_assoc]
theorem rights_of:∀ (l:List Tm) (k:Nat) (h:k<l.length),(l[k]).rightB=false→rights l=false
 | x::r,0,_,hs=>by simp only [List.getElem_cons_zero] at hs;simp [rights,hs]
 | x::r,k+1,h,hs=>by
  simp only [List.getElem_cons_succ] at hs
  simp [rights,rights_of r k (by simpa using h) hs]
theorem right_bad {t:Tm} (h:nodeOk t.k t.i t.kids.length=false):t.rightB=false:=by rw [t.rightB_eq,h];rfl
theorem bad1 {k i:Int} {n:Nat} (h:dkidsN k<0):nodeOk k i n=false:=by unfold nodeOk;rw [decide_eq_false (by omega)];simp
theorem bad2 {k i:Int} {n:Nat} (h:¬ (n:Int)=dkidsN k):nodeOk k i n=false:=by unfold nodeOk;rw [beq_eq_false_iff_ne.2 h];simp
theorem bad3 {k i:Int} {n:Nat} (h:i<0):nodeOk k i n=false:=by unfold nodeOk;rw [decide_eq_false (by omega:¬ 0≤i)];simp
theorem bad4 {k i:Int} {n:Nat} (h:mostN k<i):nodeOk k i n=false:=by unfold nodeOk;rw [decide_eq_false (by omega:¬ i≤mostN k)];simp
theorem good_node {k i:Int} {n:Nat} (h1:0≤dkidsN k) (h2:(n:Int)=dkidsN k) (h3:0≤i) (h4:i≤mostN k):nodeOk k i n=true:=by unfold nodeOk;simp [h1,h2,h3,h4]
theorem dmost_any (r:Int) (w:World):Calls Try.prog 23 #[.int .i64 r] w fun e w'=>e=.returned (.int .i64 (mostN r))∧w'=w:=by
 go_enter Try.func23,Try.ntmps23
 go_wp2
 all_goals go_ret
 all_goals exact⟨ret_int (by unfold mostN;split<;>first | rfl | (simp_all;done) | (simp only [beq_iff_eq,beq_eq_false_iff_ne,ne_eq] at *;omega)),rfl⟩
theorem held_drewN {w w1:World} {t:Tm} {s:Value} (h:Held w t s w1) (n:Nat):Held w t s (w1.drewN n):=Below.trans h ⟨rfl,rfl,rfl,Nat.le_refl _,fun _ _=>rfl⟩
set_option maxHeartbeats 2000000 in
theorem dright_any (t:Tm):∀ (w:World) (s:Value),Lies w t.kids s→Calls Try.prog 14 #[tv t s] w fun e w'=>e=.returned (.bool t.rightB)∧Below w.heap.size w w':=by
 induction t using Tm.ind with
 | h t ih =>
  intro w s hl
  obtain⟨a,cap,S,rfl,hc,hm,hf,hn,hk⟩:=hl.out
  unfold tv
  unfold maxLen at hm
  have H0:=held_start w t (.slice a t.kids.length cap)
  have IH:=Lib.hid ih
  have HN:=Lib.hid hn
  have HK:=Lib.hid hk
  clear ih hn hk hf hl
  obtain⟨n,hnn⟩:∃ n,dkidsN t.k=n:=⟨_,rfl⟩
  have HNN:=Lib.hid hnn
  have CK:=Lib.hid (fun w'=>dkids_any t.k w')
  rw [hnn] at CK
  obtain⟨m,hmm⟩:∃ m,mostN t.k=m:=⟨_,rfl⟩
  have HMM:=Lib.hid hmm
  have CM:=Lib.hid (fun w'=>dmost_any t.k w')
  rw [hmm] at CM
  clear hnn hmm
  by_cases h1:n<0
  ·have HB:=Lib.hid (right_bad (t:=t) (bad1 (by rw [HNN.out];exact h1)))
   have e1:decide (n<0)=true:=by simpa using h1
   go_enter Try.func14,Try.ntmps14
   go_wp2_with fail
   refine(CK.out _).mono ?_
   rintro e w1 ⟨rfl,rfl⟩
   go_wp2_with fail
   go_quiet ((go_at_call 23;exact Calls.quiet_of_same (CM.out _)))
   go_wp2_with fail
   go_ret
   exact⟨ret_bool HB.out.symm,held_below (held_drewN H0 _)⟩
  have e1:decide (n<0)=false:=by simpa using h1
  by_cases h2:(t.kids.length:Int)=n
  rotate_left
  ·have HB:=Lib.hid (right_bad (t:=t) (bad2 (by rw [HNN.out];exact h2)))
   have e2:((t.kids.length:Int)==n)=false:=by simpa using h2
   have e2':((t.kids.length:Int) != n)=true:=by simpa using h2
   clear h2
   go_enter Try.func14,Try.ntmps14
   go_wp2_with fail
   refine(CK.out _).mono ?_
   rintro e w1 ⟨rfl,rfl⟩
   go_wp2_with fail
   go_quiet ((go_at_call 23;exact Calls.quiet_of_same (CM.out _)))
   go_wp2_with fail
   all_goals go_ret
   all_goals exact⟨ret_bool HB.out.symm,held_below (held_drewN H0 _)⟩
  have e2:((t.kids.length:Int)==n)=true:=by simpa using h2
  have e2':((t.kids.length:Int) != n)=false:=by simpa using h2
  have H2:=Lib.hid h2
  clear h2
  by_cases h3:t.i<0
  ·have HB:=Lib.hid (right_bad (t:=t) (bad3 (n:=t.kids.length) h3))
   have e3:decide (t.i<0)=true:=by simpa using h3
   go_enter Try.func14,Try.ntmps14
   go_wp2_with fail
   refine(CK.out _).mono ?_
   rintro e w1 ⟨rfl,rfl⟩
   go_wp2_with fail
   go_quiet ((go_at_call 23;exact Calls.quiet_of_same (CM.out _)))
   go_wp2_with fail
   all_goals go_ret
   all_goals exact⟨ret_bool HB.out.symm,held_below (held_drewN H0 _)⟩
  have e3:decide (t.i<0)=false:=by simpa using h3
  by_cases h4:m<t.i
  ·have HB:=Lib.hid (right_bad (t:=t) (bad4 (n:=t.kids.length) (by rw [HMM.out];exact h4)))
   have e4:decide (m<t.i)=true:=by simpa using h4
   go_enter Try.func14,Try.ntmps14
   go_wp2_with fail
   refine(CK.out _).mono ?_
   rintro e w1 ⟨rfl,rfl⟩
   go_wp2_with fail
   go_quiet ((go_at_call 23;exact Calls.quiet_of_same (CM.out _)))
   go_wp2_with fail
   all_goals go_ret
   all_goals exact⟨ret_bool HB.out.symm,held_below (held_drewN H0 _)⟩
  have e4:decide (m<t.i)=false:=by simpa using h4
  have HG:=Lib.hid (show t.rightB=rights t.kids by rw [t.rightB_eq,good_node (by rw [HNN.out];omega) (by rw [HNN.out];exact H2.out) (by omega) (by rw [HMM.out];omega)];rfl)
  go_enter Try.func14,Try.ntmps14
  go_wp2_with fail
  refine(CK.out _).mono ?_
  rintro e w1 ⟨rfl,rfl⟩
  go_wp2_with fail
  go_quiet ((go_at_call 23;exact Calls.quiet_of_same (CM.out _)))
  go_wp2_with fail
  go_loopw [34] (fun iv wr=>∃ q:Nat,q≤t.kids.length∧iv=.int .i64 q∧Hid (rights (t.kids.take q)=true)∧Held w t (.slice a t.kids.length cap) wr) (fun iv _=>t.kids.length-(intOf iv).toNat)
  case atStart=>exact⟨0,Nat.zero_le _,rfl,by simp [Hid,rights],held_drewN H0 _⟩
  case round =>
   clear H0
   obtain⟨q,hq0,rfl,hgood,hh⟩:=hrel
   have hb:=held_below hh
   by_cases hlt:q<t.kids.length
   ·obtain⟨b,o,rfl,hx⟩:=HN.out q hlt
    obtain⟨c0,c1,c2⟩:=hx.below hb hx.lt
    have hq:=(HK.out q hlt).keep hb
    obtain⟨a',cap',S',hS,-⟩:=hq.out
    rw [hS] at c2 hq
    have HQ:=Lib.hid hq
    have HM:=Lib.hid (List.getElem_mem hlt)
    have hh2:=held_alloc hh (.cells #[.int .i64 t.kids[q].k,.int .i64 t.kids[q].i,.slice a' t.kids[q].kids.length cap'] 24)
    have HNEW:=Lib.hid ((Below.refl wr.heap.size wr).alloc (Nat.le_refl _) (.cells #[.int .i64 t.kids[q].k,.int .i64 t.kids[q].i,.slice a' t.kids[q].kids.length cap'] 24))
    clear hS hq
    go_wp2_with fail
    refine(IH.out _ HM.out _ _ (HQ.out.keep HNEW.out)).mono ?_
    rintro e wn ⟨rfl,hbn⟩
    have hh3:=held_call hh2 hbn
    clear hbn hh2 hb
    cases hr:(t.kids[q]).rightB
    ·have HR:=Lib.hid (rights_of t.kids q hlt hr)
     go_wp2
     go_ret
     exact⟨ret_bool (by rw [HG.out];exact HR.out.symm),held_below hh3⟩
    ·go_wp2
     go_roundw
     case rel=>exact⟨q+1,by omega,by go_num,by show _=true;rw [rights_take _ _ hlt,hgood.out,hr];rfl,hh3⟩
     case measure=>simp [intOf];omega
   ·have:q=t.kids.length:=by omega
    subst this
    go_wp2
    go_ret
    exact⟨ret_bool (by have:=hgood.out;rw [List.take_length] at this;rw [HG.out];exact this.symm),hb⟩
end Go.Proofs.Ytgnllglbopaheaa.Dv

namespace Go.Proofs.Ytgnllglbopaheaa.Se
open Go Go.RowKit
theorem jdOf_F (j:Jd):jdOf (jdF j)=some j:=by
 obtain⟨e,u,v,a,i⟩:=j
 cases u;cases v;cases a
 rfl
end Go.Proofs.Ytgnllglbopaheaa.Se
namespace Go.Proofs.Ytgnllglbopaheaa
open Go.RowKit
end Go.Proofs.Ytgnllglbopaheaa

namespace Go.Proofs.Ytgnllglbopaheaa.Ck
open Go Go.RowKit
open Se (ofB Sml sizeJ zJ)
abbrev CR:=Except (Int × List Int) Jd
def endB (m:Nat) (c:List En) (r i:Int) (on:List Jd):CR :=
 match ofB c r i on with
 | none=>.error (3,[])
 | some j=>if withinB (sizeJ j) m=true then .ok j else .error (4,[])
mutual
def judgeB (m:Nat) (c:List En):Dv.Tm→CR
 | .mk r i l=>match kidsB m c r 0 [] l with
  | .error e=>.error e
  | .ok on=>endB m c r i on
def kidsB (m:Nat) (c:List En) (r:Int) (k:Nat) (on:List Jd):List Dv.Tm→Except (Int × List Int) (List Jd)
 | []=>.ok on
 | d::l=>if(premB c r k on).2=true then(match judgeB m (premB c r k on).1 d with
  | .error e=>.error (e.1,(k:Int)::e.2)
  | .ok j=>kidsB m c r (k+1) (on++[j]) l) else .error (3,[])
end
theorem judgeB_eq (m:Nat) (c:List En) (t:Dv.Tm):judgeB m c t=(match kidsB m c t.k 0 [] t.kids with
 | .error e=>.error e
 | .ok on=>endB m c t.k t.i on):=by
 cases t with
 | mk r i l=>rw [judgeB];rfl
theorem kidsB_no {m:Nat} {c:List En} {r:Int} {k:Nat} {on:List Jd} {d:Dv.Tm} {l:List Dv.Tm} (h:(premB c r k on).2=false):kidsB m c r k on (d::l)=.error (3,[]):=by
 rw [kidsB,if_neg (by rw [h];simp)]
theorem kidsB_err {m:Nat} {c:List En} {r:Int} {k:Nat} {on:List Jd} {d:Dv.Tm} {l:List Dv.Tm} (h:(premB c r k on).2=true) {e:Int × List Int} (hj:judgeB m (premB c r k on).1 d=.error e):kidsB m c r k on (d::l)=.error (e.1,(k:Int)::e.2):=by
 rw [kidsB,if_pos h,hj]
theorem kidsB_ok {m:Nat} {c:List En} {r:Int} {k:Nat} {on:List Jd} {d:Dv.Tm} {l:List Dv.Tm} (h:(premB c r k on).2=true) {j:Jd} (hj:judgeB m (premB c r k on).1 d=.ok j):kidsB m c r k on (d::l)=kidsB m c r (k+1) (on++[j]) l:=by
 rw [kidsB,if_pos h,hj]
def ZP (o:Option Jd):Prop:=∀ j,o=some j→j.eq=false→j.v=.zero
theorem zp_if {p:Prop} [Decidable p] {a b:Option Jd} (ha:ZP a) (hb:ZP b):ZP (if p then a else b):=by split<;>assumption
theorem zp_none:ZP none:=fun _ h=>by cases h
theorem concB_z (c:List En) (n r:Int) (on:List Jd):ZP (Se.concB c n r on):=by
 unfold Se.concB
 split
 ·unfold Se.con0;repeat' apply zp_if
  all_goals first | exact zp_none | exact fun j h he=>by cases h;first | rfl | cases he
 ·unfold Se.con1;repeat' apply zp_if
  all_goals first | exact zp_none | exact fun j h he=>by cases h;first | rfl | cases he
 ·unfold Se.con2;repeat' apply zp_if
  all_goals first | exact zp_none | exact fun j h he=>by cases h;first | rfl | cases he
 ·unfold Se.con3;repeat' apply zp_if
  all_goals first | exact zp_none | exact fun j h he=>by cases h;first | rfl | cases he
 ·unfold Se.con4;repeat' apply zp_if
  all_goals first | exact zp_none | exact fun j h he=>by cases h;first | rfl | cases he
 ·exact zp_none
theorem ofB_z {c:List En} {n r:Int} {on:List Jd} {j:Jd} (h:ofB c r n on=some j) (he:j.eq=false):j.v=.zero:=by
 unfold Se.ofB at h
 split at h
 ·cases h
 ·split at h
  ·split at h
   ·rename_i j' hj
    split at h
    ·obtain rfl:=Option.some.inj h
     exact concB_z c n r on _ hj he
    ·cases h
   ·cases h
  ·cases h
def Mild (m:Nat):Prop:=∀ n:Int,0≤n→n≤1000000000→withinB n m=true→n≤1000
def Smj (j:Jd):Prop:=j.u.size≤1000∧j.v.size≤1000∧j.a.size≤1000
theorem endB_ok {m:Nat} {c:List En} {r i:Int} {on:List Jd} {j:Jd} (hm:Mild m) (hs:Sml c on) (h:endB m c r i on=.ok j):ofB c r i on=some j∧withinB (sizeJ j) m=true∧Smj j:=by
 unfold endB at h
 split at h
 ·cases h
 ·rename_i j' hj
  split at h
  ·rename_i hw
   obtain rfl:=Except.ok.inj h
   refine⟨hj,hw,?_⟩
   have hz:=Se.ofB_smallw hs hj
   have hr:0≤sizeJ j'∧sizeJ j'≤1000000000:=by
    have h1:=hz.u
    have h2:=hz.v
    have h3:=hz.a
    unfold sizeJ
    split<;>omega
   have h1:=hm _ hr.1 hr.2 hw
   unfold sizeJ at h1
   cases he:j'.eq with
   | true =>
    rw [he,if_pos rfl] at h1
    exact⟨by omega,by omega,by omega⟩
   | false =>
    rw [he] at h1
    have hz:=ofB_z hj he
    simp only [Bool.false_eq_true,if_false] at h1
    exact⟨by omega,by rw [hz];simp [Tm.zero,Tm.size,sizes],by omega⟩
  ·cases h
structure Smc (c:List En):Prop where
 ents:∀ e ∈ c,e.a.size≤1000
theorem smc_prem {c:List En} {r kid:Int} {on:List Jd} (h:Smc c) (hj:∀ j ∈ on,Smj j):Smc (premB c r kid on).1∧(premB c r kid on).1.length≤c.length+1:=by
 have hnil:Smc ([]:List En):=⟨fun _ h=>by cases h⟩
 unfold premB
 split
 ·split
  ·split
   ·exact⟨hnil,by simp⟩
   ·rename_i j rest
    split
    ·split
     ·refine⟨⟨fun e he=>?_⟩,by simp⟩
      rcases List.mem_append.1 he with he | he
      ·exact h.ents e he
      ·rw [List.mem_singleton.1 he]
       have:=hj j (List.mem_cons_self ..)
       exact entB_size this.1 this.2.2
     ·exact⟨hnil,by simp⟩
    ·exact⟨hnil,by simp⟩
  ·exact⟨h,by simp⟩
 ·exact⟨hnil,by simp⟩
abbrev zAgg:Array Value:=#[.bool false,.int .i64 0,.int .i64 0,.int .i64 0,.int .i64 0,.slice none 0 0,.int .i64 0,.int .i64 0,.int .i64 0,.int .i64 0,.slice none 0 0,.int .i64 0,.int .i64 0,.int .i64 0,.int .i64 0,.slice none 0 0,.int .i64 0]
def GivesCk (N0 K m:Nat) (P:Nat→Prop) (p:List Int) (x:CR) (w:World) (e:Ending) (w':World):Prop:=Fr N0 K w w'∧match x with
 | .ok j=>∃ su sv sa pv,e=.returned (.tuple #[jv j su sv sa,.int .i64 0])∧St N0 K m pv p w'∧j.fine∧LiesQ w' (fun b=>P b∨w.heap.size≤b) j.u.kids su∧LiesQ w' (fun b=>P b∨w.heap.size≤b) j.v.kids sv∧LiesQ w' (fun b=>P b∨w.heap.size≤b) j.a.kids sa
 | .error (er,q)=>∃ pv,e=.returned (.tuple #[.agg zAgg,.int .i64 er])∧St N0 K m pv (p++q) w'
structure StC (N0 K m:Nat) (w:World) (t:Dv.Tm) (s:Value) (pv:Value) (p:List Int) (w':World):Prop where
 box:w'.heap[w.heap.size]? =some (Obj.cells #[.int .i64 t.k,.int .i64 t.i,s] 24 (0,0))
 res:w'.heap[w.heap.size+1]? =some (Obj.cells zAgg 40 (0,0))
 st:St N0 K m pv p w'
 fr:Fr N0 K w w'
 lt:K<w.heap.size
theorem StC.size {N0 K m:Nat} {w w':World} {t:Dv.Tm} {s pv:Value} {p:List Int} (h:StC N0 K m w t s pv p w'):w.heap.size+2≤w'.heap.size:=by
 have:=(Array.getElem?_eq_some_iff.1 h.res).1
 omega
theorem StC.step {N0 K m:Nat} {w w' wn:World} {t:Dv.Tm} {s pv pv':Value} {p p':List Int} (h:StC N0 K m w t s pv p w') (hf:Fr N0 K w' wn) (hs:St N0 K m pv' p' wn):StC N0 K m w t s pv' p' wn :=
 ⟨(hf.block _ (Array.getElem?_eq_some_iff.1 h.box).1 (Or.inr ⟨by have:=h.lt;omega,not_row h.box (by decide)⟩)).trans h.box,(hf.block _ (Array.getElem?_eq_some_iff.1 h.res).1 (Or.inr ⟨by have:=h.lt;omega,not_row h.res (by decide)⟩)).trans h.res,hs,h.fr.trans hf,h.lt⟩
theorem StC.later {N0 K m:Nat} {w w' wn:World} {t:Dv.Tm} {s pv:Value} {p:List Int} (h:StC N0 K m w t s pv p w') (hb:Kept w' wn):StC N0 K m w t s pv p wn:=h.step (Fr.of hb) (h.st.later hb)
theorem StC.new {N0 K m:Nat} {w:World} {t:Dv.Tm} {s pv:Value} {p:List Int} (h:St N0 K m pv p w):StC N0 K m w t s pv p ((w.alloc (.cells #[.int .i64 t.k,.int .i64 t.i,s] 24)).alloc (.cells zAgg 40)):=by
 have hb:Kept w ((w.alloc (.cells #[.int .i64 t.k,.int .i64 t.i,s] 24)).alloc (.cells zAgg 40)):=((Below.refl w.heap.size w).alloc (Nat.le_refl _) _).alloc (by simp) _
 have h1:(w.alloc (.cells #[.int .i64 t.k,.int .i64 t.i,s] 24)).heap.size=w.heap.size+1:=by simp
 refine⟨?_,?_,h.later hb,Fr.of hb,h.lt⟩
 ·exact(((Below.refl _ (w.alloc (.cells #[.int .i64 t.k,.int .i64 t.i,s] 24))).alloc (Nat.le_refl _) _).block _ (by rw [h1];omega)).trans (alloc_new w _)
 ·have:=alloc_new (w.alloc (.cells #[.int .i64 t.k,.int .i64 t.i,s] 24)) (.cells zAgg 40)
  rw [h1] at this
  exact this
theorem StC.cells {N0 K m:Nat} {w w':World} {t:Dv.Tm} {s pv:Value} {p:List Int} (h:StC N0 K m w t s pv p w'):w'.cell? ⟨w.heap.size,0,none⟩=some (.int .i64 t.k)∧w'.cell? ⟨w.heap.size,1,none⟩=some (.int .i64 t.i)∧w'.cell? ⟨w.heap.size,2,none⟩=some s:=by
 refine⟨?_,?_,?_⟩<;>rw [Lib.cell_of_heap h.box]<;>rfl
theorem St.cells {N0 K m:Nat} {pv:Value} {p:List Int} {w:World} (h:St N0 K m pv p w):w.cell? ⟨K,0,none⟩=some (.float .f64 m)∧w.cell? ⟨K,1,none⟩=some pv:=by
 refine⟨?_,?_⟩<;>rw [Lib.cell_of_heap h.box]<;>rfl
theorem St.free {N0 K m:Nat} {pv:Value} {p:List Int} {w:World} (h:St N0 K m pv p w) (o:Nat):w.frozen? ⟨K,o,none⟩=false:=by
 simp [World.frozen?,h.box]
theorem dsize_mem:∀ (l:List Dv.Tm) (x:Dv.Tm),x ∈ l→x.size≤Dv.sizes l
 | [],_,h=>by cases h
 | t::r,x,h=>by
  simp only [Dv.sizes]
  rcases List.mem_cons.1 h with rfl | h
  ·omega
  ·have:=dsize_mem r x h
   omega
theorem dsize_kid {t x:Dv.Tm} (h:x ∈ t.kids):x.size+1≤t.size:=by
 have:=dsize_mem _ _ h
 rw [Dv.Tm.size_eq t]
 omega
theorem dsize_pos:∀ t:Dv.Tm,1≤t.size
 | .mk _ _ _=>by simp [Dv.Tm.size]
theorem kids_le (t:Dv.Tm):t.kids.length+1≤t.size:=by
 rw [Dv.Tm.size_eq t]
 have:∀ l:List Dv.Tm,l.length≤Dv.sizes l:=by
  intro l
  induction l with
  | nil=>simp
  | cons a r ih =>
   simp only [List.length_cons,Dv.sizes]
   have:=dsize_pos a
   omega
 have:=this t.kids
 omega
theorem judge_no {m:Nat} {c:List En} {t:Dv.Tm} {j:Nat} {on:List Jd} (hk:kidsB m c t.k 0 [] t.kids=kidsB m c t.k j on (t.kids.drop j)) (hlt:j<t.kids.length) (h:(premB c t.k j on).2=false):judgeB m c t=.error (3,[]):=by
 rw [judgeB_eq,hk,List.drop_eq_getElem_cons hlt,kidsB_no h]
theorem judge_err {m:Nat} {c:List En} {t:Dv.Tm} {j:Nat} {on:List Jd} (hk:kidsB m c t.k 0 [] t.kids=kidsB m c t.k j on (t.kids.drop j)) (hlt:j<t.kids.length) (h:(premB c t.k j on).2=true) {e:Int × List Int} (he:judgeB m (premB c t.k j on).1 t.kids[j]=.error e):judgeB m c t=.error (e.1,(j:Int)::e.2):=by
 rw [judgeB_eq,hk,List.drop_eq_getElem_cons hlt,kidsB_err h he]
theorem judge_step {m:Nat} {c:List En} {t:Dv.Tm} {j:Nat} {on:List Jd} (hk:kidsB m c t.k 0 [] t.kids=kidsB m c t.k j on (t.kids.drop j)) (hlt:j<t.kids.length) (h:(premB c t.k j on).2=true) {x:Jd} (he:judgeB m (premB c t.k j on).1 t.kids[j]=.ok x):kidsB m c t.k 0 [] t.kids=kidsB m c t.k (j+1) (on++[x]) (t.kids.drop (j+1)):=by
 rw [hk,List.drop_eq_getElem_cons hlt,kidsB_ok h he]
theorem judge_end {m:Nat} {c:List En} {t:Dv.Tm} {j:Nat} {on:List Jd} (hk:kidsB m c t.k 0 [] t.kids=kidsB m c t.k j on (t.kids.drop j)) (hlt:t.kids.length≤j):judgeB m c t=endB m c t.k t.i on:=by
 rw [judgeB_eq,hk,List.drop_eq_nil_of_le hlt,kidsB]
theorem endB_err {m:Nat} {c:List En} {r i:Int} {on:List Jd} {e:Int × List Int} (h:endB m c r i on=.error e):e.1=3∨e.1=4:=by
 unfold endB at h
 split at h
 ·cases h;exact Or.inl rfl
 ·split at h
  ·cases h
  ·cases h;exact Or.inr rfl
theorem judgeB_err (m:Nat) (t:Dv.Tm):∀ (c:List En) {e:Int × List Int},judgeB m c t=.error e→e.1=3∨e.1=4:=by
 induction t using Dv.Tm.ind with
 | h t ih =>
  intro c e h
  have key:∀ (l:List Dv.Tm) (k:Nat) (on:List Jd),(∀ x ∈ l,x ∈ t.kids)→∀ {e:Int × List Int},kidsB m c t.k k on l=.error e→e.1=3∨e.1=4:=by
   intro l
   induction l with
   | nil=>intro k on _ e h;rw [kidsB] at h;cases h
   | cons d l ihl =>
    intro k on hl e h
    cases hp:(premB c t.k k on).2 with
    | false=>rw [kidsB_no hp] at h;cases h;exact Or.inl rfl
    | true =>
     cases hd:judgeB m (premB c t.k k on).1 d with
     | error e2 =>
      rw [kidsB_err hp hd] at h
      cases h
      show e2.1=3∨e2.1=4
      exact ih d (hl d (List.mem_cons_self ..)) _ hd
     | ok x =>
      rw [kidsB_ok hp hd] at h
      exact ihl _ _ (fun x hx=>hl x (List.mem_cons_of_mem _ hx)) h
  rw [judgeB_eq] at h
  split at h
  ·rename_i e2 he
   cases h
   exact key _ _ _ (fun _ hx=>hx) he
  ·exact endB_err h
theorem judgeB_small {m:Nat} (hm:Mild m) (t:Dv.Tm):∀ (c:List En) {x:Jd},c.length+t.size≤101→Smc c→judgeB m c t=.ok x→Smj x:=by
 induction t using Dv.Tm.ind with
 | h t ih =>
  intro c x hcs hsc h
  have key:∀ (l:List Dv.Tm) (k:Nat) (on on':List Jd),(∀ x ∈ l,x ∈ t.kids)→(∀ j ∈ on,Smj j)→kidsB m c t.k k on l=.ok on'→∀ j ∈ on',Smj j:=by
   intro l
   induction l with
   | nil=>intro k on on' _ ho h;rw [kidsB] at h;cases h;exact ho
   | cons d l ihl =>
    intro k on on' hl ho h
    cases hp:(premB c t.k k on).2 with
    | false=>rw [kidsB_no hp] at h;cases h
    | true =>
     have hsp:=smc_prem (r:=t.k) (kid:=(k:Int)) (on:=on) hsc ho
     cases hd:judgeB m (premB c t.k k on).1 d with
     | error e2=>rw [kidsB_err hp hd] at h;cases h
     | ok y =>
      rw [kidsB_ok hp hd] at h
      refine ihl _ _ _ (fun x hx=>hl x (List.mem_cons_of_mem _ hx)) (fun j hj=>?_) h
      rcases List.mem_append.1 hj with hj | hj
      ·exact ho j hj
      ·rw [List.mem_singleton.1 hj]
       have:=dsize_kid (hl d (List.mem_cons_self ..))
       exact ih d (hl d (List.mem_cons_self ..)) _ (by have:=hsp.2;omega) hsp.1 hd
  rw [judgeB_eq] at h
  split at h
  ·cases h
  ·rename_i on he
   exact(endB_ok hm ⟨by have:=Dv.Tm.size_eq t;omega,hsc.ents,key _ _ _ _ (fun _ hx=>hx) (fun _ h=>by cases h) he⟩ h).2.2
theorem StC.set {N0 K m:Nat} {w w' W:World} {t:Dv.Tm} {s pv:Value} {p:List Int} (h:StC N0 K m w t s pv p w') {new:Array Value} (hW:w'.setRow (w.heap.size+1) new=W):W.heap[w.heap.size+1]? =some (Obj.cells new 40 (0,0))∧St N0 K m pv p W∧Fr N0 K w W:=by
 subst hW
 have ho:∀ b,b≠w.heap.size+1→(w'.setRow (w.heap.size+1) new).heap[b]? =w'.heap[b]?:=fun b hb=>setRow_other w' _ b _ hb
 have hlt:=h.lt
 refine⟨setRow_heap w' _ _ _ _ _ h.res,⟨(ho K (by omega)).trans h.st.box,h.st.lo,h.st.row.same fun b _ hr=>ho b fun e=>?_⟩,⟨h.fr.os,h.fr.tape,h.fr.output,by rw [size_setRow];exact h.fr.size,fun b hb hc=>(ho b (by omega)).trans (h.fr.block b hb hc)⟩⟩
 subst e
 exact not_row h.res (by decide) hr
theorem liesQ_set {w' W:World} {g:Nat} {new:Array Value} (hW:w'.setRow g new=W) {P Q:Nat→Prop} {l:List Tm} {s:Value} (h:LiesQ w' P l s) (hg:∀ b,P b→b≠g) (hq:∀ b,P b→Q b):LiesQ W Q l s:=by
 subst hW
 exact h.keep (fun b hp _=>setRow_other w' g b _ (hg b hp)) (fun b hp _=>hq b hp)
theorem madeK_row {N:Nat} {w:World} {v:Value} {ps:List PJ} (h:MadeK N w v ps) {g:Nat} (hg:v.ownBlock=some g):N≤g∧∃ cs fz,w.heap[g]? =some (Obj.cells cs 40 fz):=by
 rcases h.own.2 with ⟨rfl,-⟩ | ⟨g',cap,cur,rfl,hg',hh,-⟩
 ·simp [Value.ownBlock] at hg
 ·simp only [Value.ownBlock,Option.some.injEq] at hg
  subst hg
  exact⟨hg',_,_,hh⟩
theorem StC.grow {N0 K m:Nat} {w w' wn:World} {t:Dv.Tm} {s pv:Value} {p:List Int} (h:StC N0 K m w t s pv p w') {row:Option Nat} (hg:w'.grownBy wn row) (hr:∀ b,row=some b→w.heap.size+2≤b∧∃ cs fz,w'.heap[b]? =some (Obj.cells cs 40 fz)):StC N0 K m w t s pv p wn:=by
 have ho:∀ b,b<w'.heap.size→(b<w.heap.size+2∨Row w' b)→wn.heap[b]? =w'.heap[b]?:=fun b hb hc=>hg.block b hb fun e=>by
  obtain⟨h1,cs,fz,h2⟩:=hr b e.symm
  rcases hc with hc | hc
  ·omega
  ·exact not_row h2 (by decide) hc
 have hs:=h.size
 have hl:=h.lt
 have hz:=h.fr.size
 refine⟨(ho _ (by omega) (Or.inl (by omega))).trans h.box,(ho _ (by omega) (Or.inl (by omega))).trans h.res,⟨(ho K (by omega) (Or.inl (by omega))).trans h.st.box,h.st.lo,h.st.row.same fun b hb hw=>ho b hb (Or.inr hw)⟩,⟨hg.os.trans h.fr.os,hg.tape.trans h.fr.tape,hg.output.trans h.fr.output,Nat.le_trans hz hg.size,fun b hb hc=>(ho b (by omega) (Or.inl (by omega))).trans (h.fr.block b hb hc)⟩,hl⟩
theorem ofC_any {c:List En} {on:List Jd} {r n:Int} {w:World} {A:Nat→Prop} {sc sj:Value} (hc:Se.LiesEQ w A c sc) (hj:Se.LiesJQ w A on sj) (hr:I64 r) (hn:I64 n) (hs:Sml c on) :
 Calls Try.prog 27 #[sc,.int .i64 r,.int .i64 n,sj] w fun e w'=>∃ su sv sa,e=.returned (.tuple #[jv ((ofB c r n on).getD zJ) su sv sa,.bool (ofB c r n on).isSome])∧((ofB c r n on).getD zJ).fine∧LiesQ w' (fun b=>A b∨w.heap.size≤b) ((ofB c r n on).getD zJ).u.kids su∧LiesQ w' (fun b=>A b∨w.heap.size≤b) ((ofB c r n on).getD zJ).v.kids sv∧LiesQ w' (fun b=>A b∨w.heap.size≤b) ((ofB c r n on).getD zJ).a.kids sa∧Kept w w':=by
 refine(Se.of_all c r n on hs (A:=A) (vs:=[sc,.int .i64 r,.int .i64 n,sj]) ⟨⟨_,rfl,hc⟩,⟨_,rfl,rfl,hr⟩,⟨_,rfl,rfl,hn⟩,⟨_,rfl,hj⟩,trivial⟩).mono ?_
 rintro e w' ⟨v,rfl,⟨us,rfl,hu⟩,hb⟩
 obtain⟨x,y,rfl,h3,h4⟩:=Se.F2.two hu
 obtain⟨su,sv,sa,rfl,hf,l1,l2,l3⟩:=Se.jd_den h3 (Se.jdOf_F _)
 obtain⟨l,hl,h4⟩:=h4
 cases hl
 obtain rfl:y=_:=h4
 exact⟨su,sv,sa,rfl,hf,l1,l2,l3,hb⟩
theorem setRow_kept {w w' W:World} {g:Nat} {new:Array Value} (hW:w'.setRow g new=W) (h:Kept w w') (hg:w.heap.size≤g):Kept w W:=by
 subst hW
 exact⟨h.os,h.tape,h.output,by rw [size_setRow];exact h.size,fun b hb=>(setRow_other w' g b _ (by omega)).trans (h.block b hb)⟩
theorem setRow_new {w' W:World} {g:Nat} {old new:Array Value} (hW:w'.setRow g new=W) (h:w'.heap[g]? =some (Obj.cells old 40 (0,0))):W.heap[g]? =some (Obj.cells new 40 (0,0)):=by
 subst hW
 exact setRow_heap w' g _ _ _ _ h
theorem fresh_judg {w W:World} {old new:Array Value} (hW:(w.alloc (.cells old 40)).setRow w.heap.size new=W):Kept w W∧W.heap[w.heap.size]? =some (Obj.cells new 40 (0,0))∧W.heap.size=w.heap.size+1 :=
 ⟨setRow_kept hW (((Below.refl w.heap.size w).alloc (Nat.le_refl _) _):Kept w _) (Nat.le_refl _),setRow_new hW (alloc_new _ _),by subst hW;simp⟩
end Go.Proofs.Ytgnllglbopaheaa.Ck

namespace Go.Proofs.Ytgnllglbopaheaa.Ck
open Go Go.RowKit
open Se (ofB Sml sizeJ zJ)
def ckq_0:Oper:={dst:=some 90,op:=Go.Op.load 40 (Go.Operand.tmp 15),type:=40,pos := "check.go:107",after:=#[],guard:=none}
def ckq_1:Oper:={dst:=some 91,op:=Go.Op.call {callee:=Go.Callee.value (Go.Operand.func 29),args:=#[Go.Operand.tmp 90],argTypes:=#[40] },type:=3,pos := "check.go:107",after:=#[{on:=0,ground:=Go.Ground.data}],guard:=none}
def ckq_2:Oper:={dst:=some 92,op:=Go.Op.move (Go.Operand.tmp 0),type:=64,pos := "check.go:107",after:=#[],guard:=none}
def ckq_3:Oper:={dst:=some 93,op:=Go.Op.nilCheck (Go.Operand.tmp 92),type:=0,pos := "check.go:107",after:=#[{on:=2,ground:=Go.Ground.data}],guard:=none}
def ckq_4:Oper:={dst:=some 94,op:=Go.Op.fieldAddr 52 (Go.Operand.tmp 93) 0,type:=0,pos := "check.go:107",after:=#[{on:=3,ground:=Go.Ground.data}],guard:=none}
def ckq_5:Oper:={dst:=some 95,op:=Go.Op.load 34 (Go.Operand.tmp 94),type:=34,pos := "check.go:107",after:=#[{on:=4,ground:=Go.Ground.data}],guard:=none}
def ckq_6:Oper:={dst:=some 96,op:=Go.Op.call {callee:=Go.Callee.value (Go.Operand.func 28),args:=#[Go.Operand.tmp 91,Go.Operand.tmp 95],argTypes:=#[3,34] },type:=4,pos := "check.go:107",after:=#[{on:=1,ground:=Go.Ground.data},{on:=5,ground:=Go.Ground.data},{on:=1,ground:=Go.Ground.chain}],guard:=none}
def ckq_7:Oper:={dst:=some 97,op:=Go.Op.unOp Go.UnOp.not 4 (Go.Operand.tmp 96),type:=4,pos := "check.go:107",after:=#[{on:=6,ground:=Go.Ground.data}],guard:=none}
set_option maxRecDepth 20000 in
set_option maxHeartbeats 8000000 in
theorem ckjudge_any (N0 K m:Nat) (hm:Mild m) (t:Dv.Tm):∀ (c:List En) (w:World) (sc s pv:Value) (p:List Int) (P:Nat→Prop),Se.LiesEQ w P c sc→Dv.Lies w t.kids s→t.fine→St N0 K m pv p w→c.length+t.size≤101→Smc c→p.length+t.size≤1000 →
 Calls Try.prog 16 #[.pointer (some ⟨K,0,none⟩),sc,Dv.tv t s] w (GivesCk N0 K m P p (judgeB m c t) w):=by
 induction t using Dv.Tm.ind with
 | h t ih =>
 intro c w sc s pv p P hlc hl hft hst hcs hsc hps
 obtain⟨a,cap,S,rfl,hc,hmx,hf,hn,hk⟩:=hl.out
 unfold Dv.tv
 unfold maxLen at hmx
 obtain⟨dj,dj1,dj2⟩:=under_of 40 (by kernel_rfl)
 have IH:=Lib.hid ih
 have HL:=Lib.hid hl
 have HC:=Lib.hid hlc
 have HF:=Lib.hid hf
 have HFT:=Lib.hid hft
 have HSC:=Lib.hid hsc
 have HPS:=Lib.hid hps
 have HCS:=Lib.hid hcs
 have HSE:=Lib.hid hst.sees
 have H0:=Lib.hid (StC.new (t:=t) (s:=.slice a t.kids.length cap) hst)
 have hKw:=hst.lt
 have hlo:=Lib.hid hst.lo
 clear ih hn hk hf hl hlc hst hft hsc hps hcs
 go_enter Try.func16,Try.ntmps16
 go_wp2_with fail
 go_loopw [8,20] (fun onv i wr=>∃ (j:Nat) (ps:List PJ) (pv':Value),j≤t.kids.length∧i=.int .i64 j∧Hid (ps.length=j)∧Hid (kidsB m c t.k 0 [] t.kids=kidsB m c t.k j (ps.map (·.1)) (t.kids.drop j))∧Hid (∀ q ∈ ps,Smj q.1)∧Hid (MadeK (w.heap.size+2) wr onv ps)∧Hid (StC N0 K m w t (.slice a t.kids.length cap) pv' p wr)) (fun _ i _=>t.kids.length-(intOf i).toNat)
 case atStart=>exact⟨0,[],pv,Nat.zero_le _,rfl,rfl,by simp [Hid],Lib.hid (fun _ h=>by cases h),Lib.hid (madeK_nil _ _),H0⟩
 case round =>
  clear H0
  obtain⟨j,ps,pv',hj,rfl,hpl,hkb,hsm,hmk,hsd⟩:=hrel
  obtain⟨y0,y1,y2⟩:=hsd.out.cells
  by_cases hlt:j<t.kids.length
  ·have hlt':(j:Int)<(t.kids.length:Int):=by omega
   obtain⟨a1,cap1,S1,he1,-,-,-,hn1,hk1⟩:=(dlies_fr hsd.out.fr HSE.out HL.out).out
   obtain⟨b,o,ha,hx⟩:=hn1 j hlt
   have hq:=hk1 j hlt
   obtain⟨a',cap',S',hS,-⟩:=hq.out
   rw [hS] at hx hq
   obtain⟨x0,x1,x2⟩:=hx
   simp only [Value.slice.injEq] at he1
   obtain⟨rfl,-,-⟩:=he1
   subst ha
   have HQ:=Lib.hid hq
   clear hS hq hn1 hk1
   go_upto_region 5 with fail
   clear x0 x1 x2
   have HV:=Lib.hid (((Below.refl wr.heap.size wr).alloc (Nat.le_refl _) (.cells #[.int .i64 (t.kids[j]).k,.int .i64 (t.kids[j]).i,.slice a' (t.kids[j]).kids.length cap'] 24)):Kept wr _)
   have hvp:(wr.alloc (.cells #[.int .i64 (t.kids[j]).k,.int .i64 (t.kids[j]).i,.slice a' (t.kids[j]).kids.length cap'] 24)).heap[wr.heap.size]? =some (Obj.cells #[.int .i64 (t.kids[j]).k,.int .i64 (t.kids[j]).i,.slice a' (t.kids[j]).kids.length cap'] 24 (0,0)):=alloc_new _ _
   have hvs:(wr.alloc (.cells #[.int .i64 (t.kids[j]).k,.int .i64 (t.kids[j]).i,.slice a' (t.kids[j]).kids.length cap'] 24)).heap.size=wr.heap.size+1:=by simp
   obtain⟨D,hD⟩:∃ D,wr.heap.size=D:=⟨_,rfl⟩
   rw [hD] at hvp hvs
   rw [hD]
   generalize wr.alloc (.cells #[.int .i64 (t.kids[j]).k,.int .i64 (t.kids[j]).i,.slice a' (t.kids[j]).kids.length cap'] 24)=V at HV hvp hvs ⊢
   have HVP:=Lib.hid hvp
   have HVS:=Lib.hid hvs
   have HD:=Lib.hid hD
   have HSD:=Lib.hid (hsd.out.later HV.out)
   have HMK:=Lib.hid (madeK_later hmk.out HV.out)
   have HQV:=Lib.hid (HQ.out.keep HV.out)
   clear hvp hvs hsd hmk y0 y1 y2 HQ hD
   obtain⟨y0,y1,y2⟩:=HSD.out.cells
   have HJ:=Lib.hid (madeK_lies HMK.out)
   have HOB:=Lib.hid (show ∀ b,V.heap.size≤b→(w.heap.size+2≤b∧u8.ownBlock≠some b) from fun b hb=>⟨by have:=HSD.out.size;omega,fun e=>by have:=madeK_block HMK.out e;omega⟩)
   go_wp2_with fail
   refine(premiseP_any c (ps.map (·.1)) t.k (j:Int) V sc _ (Se.liesEQ_lies (liesEQ_fr HSD.out.fr HSE.out HC.out)) (Se.liesJQ_lies HJ.out) HFT.out.1 (by unfold I64;omega) (by have:=HCS.out;omega) (fun e he=>by have:=HSC.out.ents e he;omega) (fun x hx=>by obtain⟨q,hq,rfl⟩:=List.mem_map.1 hx;have:=hsm.out q hq;unfold Smj at this;exact⟨by omega,by omega⟩)).mono ?_
   obtain⟨cc,hcc⟩:∃ cc,(premB c t.k (j:Int) (ps.map (·.1))).1=cc:=⟨_,rfl⟩
   have HCC:=Lib.hid hcc
   have hsmm:=smc_prem (r:=t.k) (kid:=(j:Int)) HSC.out (fun x hx=>by obtain⟨q,hq,rfl⟩:=List.mem_map.1 hx;exact hsm.out q hq)
   rw [hcc] at hsmm
   have HSM:=Lib.hid hsmm
   clear hsmm
   cases hp:(premB c t.k (j:Int) (ps.map (·.1))).2 with
   | false =>
    as_aux_lemma =>
     rintro e w1 ⟨s1,rfl,hl1,hk1⟩
     (try rw [hp])
     have HSD1:=Lib.hid (HSD.out.later hk1)
     have HP:=Lib.hid (judge_no hkb.out hlt hp)
     obtain⟨as1,cs1,Ss1,rfl,-⟩:=hl1.out
     clear hl1 hk1 y0 y1 y2 HJ HMK
     go_wp2_with (refine stop_store 40 (.tmp 6) (.tmp 36) rfl ?_)
     intro _
     refine wpList_store_part_n (by rfl) 40 (.tmp 6) (.tmp 36) rfl (w.heap.size+1) 0 zAgg (by rfl) (by rfl) 40 (by kernel_rfl) (row_ok rfl) ?_
     intro W hW
     subst hW
     refine⟨_,zAgg,HSD1.out.res,rfl,Nat.le_of_ble_eq_true rfl,?_⟩
     intro W2 hW2
     go_wp2_with fail
     (try simp only [Exit.inBlock,Exit.then])
     refine bodyPost_ret (results_cell_tmp rfl _ _ (w.heap.size+1) 40 _ _ dj rfl (HSD1.out.set hW2).1 dj1 (by cases dj<;>first | rfl | exact dj2) (by kernel_rfl)) rfl ?_
     rw [HP.out]
     have HZ:=HSD1.out.set hW2
     exact⟨HZ.2.2,_,rfl,by rw [List.append_nil];exact HZ.2.1⟩
   | true =>
    rintro e w1 ⟨s1,rfl,hl1,hk1⟩
    (try rw [hp])
    rw [hcc] at hl1
    have HP:=Lib.hid hp
    clear hcc hp
    have HSD1:=Lib.hid (HSD.out.later hk1)
    have HMK1:=Lib.hid (madeK_later HMK.out hk1)
    have HQ1:=Lib.hid (HQV.out.keep hk1)
    have HVP1:=Lib.hid ((hk1.block D (by have:=HVS.out;omega)).trans HVP.out)
    have hz1:V.heap.size≤w1.heap.size:=hk1.size
    have HL1:=Lib.hid (liesEP_q hl1)
    obtain⟨as1,cs1,Ss1,rfl,-⟩:=hl1.out
    obtain⟨ap,cp,he,hpc,hpm⟩:=HSD1.out.st.row.slc
    subst he
    clear hl1 hk1 y0 y1 y2 HJ HMK HQV
    obtain⟨k0,k1⟩:=HSD1.out.st.cells
    have hA:Kept w1 (w1.alloc (.cells #[.int .i64 (j:Int)] 3)):=(Below.refl w1.heap.size w1).alloc (Nat.le_refl _) _
    have HAC:=Lib.hid (show(w1.alloc (.cells #[.int .i64 (j:Int)] 3)).cell? ⟨w1.heap.size,0,none⟩=some (.int .i64 (j:Int)) from by rw [Lib.cell_of_heap (alloc_new _ _)];rfl)
    have HSA:=Lib.hid (HSD1.out.later hA)
    have HAS:=Lib.hid (show(w1.alloc (.cells #[.int .i64 (j:Int)] 3)).heap.size=w1.heap.size+1 by simp)
    have HAK:=Lib.hid hA
    clear hA
    go_upto_region 9 with (at_builtin;refine wpList_append_path rfl (.tmp 41) (.tmp 43) rfl N0 K (.slice ap p.length cp) p HSA.out.st.row rfl ⟨w1.heap.size,0,none⟩ 1 (j:Int) (by rfl) HAC.out (by have:=HPS.out;omega) (by have:=HSA.out.st.lo;have:=HSA.out.st.lt;omega) ?_;intro g cg w2 hr2 hrow2 hfr2;have hb2:=(hrow2 K HSA.out.st.lt (not_row HSA.out.st.box (by decide))).trans HSA.out.st.box;have k1':w2.cell? ⟨K,1,none⟩=some (.slice ap p.length cp):=(by rw [Lib.cell_of_heap hb2];rfl);have k1f:w2.frozen? ⟨K,1,none⟩=false:=(by simp [World.frozen?,hb2]);have HB2:=Lib.hid hb2;have HR2:=Lib.hid hr2;have HF2:=Lib.hid hfr2;clear hr2 hrow2 hfr2 hb2)
    have hst3:=St.set HB2.out HSA.out.st.lo HR2.out
    have hlen:(p++[(j:Int)]).length=p.length+1:=by simp
    generalize w2.setCell ⟨K,1,none⟩ (.slice (some ⟨g,0,none⟩) (p.length+1) cg)=w3 at hst3 ⊢
    have HST3:=Lib.hid hst3.1
    have HF3:=Lib.hid ((Fr.of HAK.out:Fr N0 K w1 _).trans (HF2.out.trans hst3.2))
    clear hst3 k0 k1 k1' k1f
    have HSD3:=Lib.hid (HSD1.out.step HF3.out HST3.out)
    have HL3:=Lib.hid (liesEQ_fr HF3.out HSD1.out.st.sees HL1.out)
    have HQ3:=Lib.hid (dlies_fr HF3.out HSD1.out.st.sees HQ1.out)
    have HMK3:=Lib.hid (madeK_fr HMK1.out HF3.out HSD1.out.st.sees (by omega))
    have hvp3:=(HF3.out.block D (by have:=HVS.out;have:=hz1;omega) (Or.inr ⟨by have:=HSD.out.size;have:=HVS.out;have:=HD.out;omega,not_row HVP1.out (by decide)⟩)).trans HVP1.out
    have z0:w3.cell? ⟨D,0,none⟩=some (.int .i64 (t.kids[j]).k):=by rw [Lib.cell_of_heap hvp3];rfl
    have z1:w3.cell? ⟨D,1,none⟩=some (.int .i64 (t.kids[j]).i):=by rw [Lib.cell_of_heap hvp3];rfl
    have z2:w3.cell? ⟨D,2,none⟩=some (.slice a' (t.kids[j]).kids.length cap'):=by rw [Lib.cell_of_heap hvp3];rfl
    clear hvp3
    go_wp2_with fail
    have HCALL:=Lib.hid (IH.out t.kids[j] (List.getElem_mem hlt) cc w3 (.slice as1 cc.length cs1) (.slice a' (t.kids[j]).kids.length cap') (.slice (some ⟨g,0,none⟩) (p.length+1) cg) (p++[(j:Int)]) (fun b=>V.heap.size≤b) HL3.out HQ3.out (HF.out _ (List.getElem_mem hlt)) HST3.out (by have:=dsize_kid (List.getElem_mem hlt);have:=HSM.out.2;have:=HCS.out;omega) HSM.out.1 (by have:=dsize_kid (List.getElem_mem hlt);have:=HPS.out;omega))
    cases hx:judgeB m cc t.kids[j] with
    | error ea =>
     as_aux_lemma =>
      obtain⟨er,q⟩:=ea
      have HX:=Lib.hid (judge_err hkb.out hlt HP.out (by rw [HCC.out];exact hx))
      have her:=judgeB_err m _ _ hx
      have HCE:=HCALL.out
      rw [hx] at HCE
      have HCE2:=Lib.hid HCE
      clear HCALL HCE hx
      refine HCE2.out.mono ?_
      rintro e w4 ⟨hf4,pv4,rfl,hs4⟩
      go_wp2_with (refine stop_store 40 (.tmp 13) (.tmp 52) rfl ?_)
      intro _
      refine wpList_store_part_n (by rfl) 40 (.tmp 13) (.tmp 52) rfl (w4.heap.size) 0 zAgg (by rfl) (by rfl) 40 (by kernel_rfl) (row_ok rfl) ?_
      intro W hW
      subst hW
      refine⟨_,zAgg,alloc_new _ _,rfl,Nat.le_of_ble_eq_true rfl,?_⟩
      intro w5 hwn
      have hfr:=fresh_judg hwn
      clear hwn
      have HSD5:=Lib.hid ((HSD3.out.step hf4 hs4).later hfr.1)
      clear hfr
      clear hf4 hs4 z0 z1 z2 HCE2
      rcases her with her | her
      ·obtain rfl:er=3:=her
       go_wp2_with (refine stop_store 40 (.tmp 6) (.tmp 56) rfl ?_)
       intro _
       refine wpList_store_part_n (by rfl) 40 (.tmp 6) (.tmp 56) rfl (w.heap.size+1) 0 zAgg (by rfl) (by rfl) 40 (by kernel_rfl) (row_ok rfl) ?_
       intro W hW
       subst hW
       refine⟨_,zAgg,HSD5.out.res,rfl,Nat.le_of_ble_eq_true rfl,?_⟩
       intro W2 hW2
       go_wp2_with fail
       (try simp only [Exit.inBlock,Exit.then])
       refine bodyPost_ret (results_cell_tmp rfl _ _ (w.heap.size+1) 40 _ _ dj rfl (HSD5.out.set hW2).1 dj1 (by cases dj<;>first | rfl | exact dj2) (by kernel_rfl)) rfl ?_
       rw [HX.out]
       have HZ:=HSD5.out.set hW2
       exact⟨HZ.2.2,_,rfl,by have h:=HZ.2.1;rw [List.append_assoc] at h;exact h⟩
      ·obtain rfl:er=4:=her
       go_wp2_with (refine stop_store 40 (.tmp 6) (.tmp 56) rfl ?_)
       intro _
       refine wpList_store_part_n (by rfl) 40 (.tmp 6) (.tmp 56) rfl (w.heap.size+1) 0 zAgg (by rfl) (by rfl) 40 (by kernel_rfl) (row_ok rfl) ?_
       intro W hW
       subst hW
       refine⟨_,zAgg,HSD5.out.res,rfl,Nat.le_of_ble_eq_true rfl,?_⟩
       intro W2 hW2
       go_wp2_with fail
       (try simp only [Exit.inBlock,Exit.then])
       refine bodyPost_ret (results_cell_tmp rfl _ _ (w.heap.size+1) 40 _ _ dj rfl (HSD5.out.set hW2).1 dj1 (by cases dj<;>first | rfl | exact dj2) (by kernel_rfl)) rfl ?_
       rw [HX.out]
       have HZ:=HSD5.out.set hW2
       exact⟨HZ.2.2,_,rfl,by have h:=HZ.2.1;rw [List.append_assoc] at h;exact h⟩
    | ok x =>
     have HX:=Lib.hid (judge_step hkb.out hlt HP.out (by rw [HCC.out];exact hx))
     have HXS:=Lib.hid (judgeB_small hm _ cc (by have:=dsize_kid (List.getElem_mem hlt);have:=HSM.out.2;have:=HCS.out;omega) HSM.out.1 hx)
     have HCE:=HCALL.out
     rw [hx] at HCE
     have HCE2:=Lib.hid HCE
     clear HCALL HCE hx
     refine HCE2.out.mono ?_
     rintro e w4 ⟨hf4,su,sv,sa,pv4,rfl,hs4,hfx,hu,hv,ha⟩
     obtain⟨au,cu,Su,rfl,-⟩:=hu.out
     obtain⟨av,cv,Sv,rfl,-⟩:=hv.out
     obtain⟨aa,ca,Sa,rfl,-⟩:=ha.out
     obtain⟨g4,c4,rfl,hc4,hc4m⟩:=rowI_some hs4.row
     have HSD4:=Lib.hid (HSD3.out.step hf4 hs4)
     have HMK4:=Lib.hid (madeK_fr HMK3.out hf4 HST3.out.sees (by omega))
     have HU:=Lib.hid hu
     have HV':=Lib.hid hv
     have HA:=Lib.hid ha
     have HFX:=Lib.hid hfx
     have hz4:=hf4.size
     clear hf4 hs4 z0 z1 z2 HCE2 hu hv ha hfx
     go_wp2_with (refine stop_store 40 (.tmp 13) (.tmp 52) rfl ?_)
     intro _
     refine wpList_store_part_n (by rfl) 40 (.tmp 13) (.tmp 52) rfl (w4.heap.size) 0 #[.bool x.eq,.int .i64 x.u.k,.int .i64 x.u.i,.int .i64 x.u.j,.int .i64 x.u.n,(.slice au x.u.kids.length cu),.int .i64 x.v.k,.int .i64 x.v.i,.int .i64 x.v.j,.int .i64 x.v.n,(.slice av x.v.kids.length cv),.int .i64 x.a.k,.int .i64 x.a.i,.int .i64 x.a.j,.int .i64 x.a.n,(.slice aa x.a.kids.length ca),.int .i64 x.i] (by rfl) (by rfl) 40 (by kernel_rfl) (row_ok rfl) ?_
     intro W hW
     subst hW
     refine⟨_,#[.bool x.eq,.int .i64 x.u.k,.int .i64 x.u.i,.int .i64 x.u.j,.int .i64 x.u.n,(.slice au x.u.kids.length cu),.int .i64 x.v.k,.int .i64 x.v.i,.int .i64 x.v.j,.int .i64 x.v.n,(.slice av x.v.kids.length cv),.int .i64 x.a.k,.int .i64 x.a.i,.int .i64 x.a.j,.int .i64 x.a.n,(.slice aa x.a.kids.length ca),.int .i64 x.i],alloc_new _ _,rfl,Nat.le_of_ble_eq_true rfl,?_⟩
     intro w5 hwn
     have hfr:=fresh_judg hwn
     clear hwn
     obtain⟨hk5,hjb,hz5⟩:=hfr
     obtain⟨E,hE⟩:∃ E,w4.heap.size=E:=⟨_,rfl⟩
     rw [hE] at hjb hz5
     rw [hE]
     go_upto_region 12 with fail
     have HSD5:=Lib.hid (HSD4.out.later hk5)
     have HMK5:=Lib.hid (madeK_later HMK4.out hk5)
     have HU5:=Lib.hid (HU.out.later hk5)
     have HV5:=Lib.hid (HV'.out.later hk5)
     have HA5:=Lib.hid (HA.out.later hk5)
     have HJB:=Lib.hid hjb
     have HE:=Lib.hid hE
     have HZ5:=Lib.hid hz5
     clear hk5 hjb hE hz5
     have k1:=HSD5.out.st.cells.2
     have k1f:=HSD5.out.st.free 1
     have hw1:IntKind.i64.wrap ((p.length:Nat):Int)=((p.length:Nat):Int):=IntWalk.i64_in _ (by have:=HPS.out;omega)
     have hle':((p.length:Nat):Int)≤(c4:Int):=by omega
     have hle:p.length≤c4:=by omega
     have hpl2:p.length≤1000:=by have:=HPS.out;omega
     have hst6:=St.set HSD5.out.st.box HSD5.out.st.lo HSD5.out.st.row.pop
     have HST6:=Lib.hid hst6.1.drew
     have HF6:=Lib.hid hst6.2.drew
     have HSD6:=Lib.hid (HSD5.out.step HF6.out HST6.out)
     have HMK6:=Lib.hid (madeK_fr HMK5.out HF6.out HSD5.out.st.sees (by omega))
     have HU6:=Lib.hid (liesQ_fr HF6.out HSD5.out.st.sees HU5.out)
     have HV6:=Lib.hid (liesQ_fr HF6.out HSD5.out.st.sees HV5.out)
     have HA6:=Lib.hid (liesQ_fr HF6.out HSD5.out.st.sees HA5.out)
     have HJB6:=Lib.hid ((HF6.out.block E (by have:=HZ5.out;omega) (Or.inr ⟨by have:=HSD4.out.size;have:=HE.out;omega,not_row HJB.out (by decide)⟩)).trans HJB.out)
     have HZ6:=Lib.hid (show(w5.setCell ⟨K,1,none⟩ (.slice (some ⟨g4,0,none⟩) p.length c4)).drew.heap.size=E+1 by show(w5.setCell ⟨K,1,none⟩ (.slice (some ⟨g4,0,none⟩) p.length c4)).heap.size=_;simp [HZ5.out])
     obtain⟨w6,hw6⟩:∃ w6,(w5.setCell ⟨K,1,none⟩ (.slice (some ⟨g4,0,none⟩) p.length c4)).drew=w6:=⟨_,rfl⟩
     rw [hw6] at HST6 HF6 HSD6 HMK6 HU6 HV6 HA6 HJB6 HZ6
     have HW6:=Lib.hid hw6
     clear hst6 hw6 HSD5 HMK5 HU5 HV5 HA5 HJB
     have hk7:Kept w6 (w6.alloc (.cells #[.bool x.eq,.int .i64 x.u.k,.int .i64 x.u.i,.int .i64 x.u.j,.int .i64 x.u.n,(.slice au x.u.kids.length cu),.int .i64 x.v.k,.int .i64 x.v.i,.int .i64 x.v.j,.int .i64 x.v.n,(.slice av x.v.kids.length cv),.int .i64 x.a.k,.int .i64 x.a.i,.int .i64 x.a.j,.int .i64 x.a.n,(.slice aa x.a.kids.length ca),.int .i64 x.i] 40)):=(Below.refl w6.heap.size w6).alloc (Nat.le_refl _) _
     have HSD7:=Lib.hid (HSD6.out.later hk7)
     have HMK7:=Lib.hid (madeK_later HMK6.out hk7)
     have hzw:w.heap.size+2≤V.heap.size:=HSD.out.size
     have hzv:V.heap.size≤w3.heap.size:=by have:=HF3.out.size;omega
     have HPX:=Lib.hid (show ∀ b,(V.heap.size≤b∨w3.heap.size≤b)→(w.heap.size+2≤b∧u8.ownBlock≠some b) from fun b hb=>HOB.out b (by omega))
     have HKX:=Lib.hid (show LiesQ (w6.alloc (.cells #[.bool x.eq,.int .i64 x.u.k,.int .i64 x.u.i,.int .i64 x.u.j,.int .i64 x.u.n,(.slice au x.u.kids.length cu),.int .i64 x.v.k,.int .i64 x.v.i,.int .i64 x.v.j,.int .i64 x.v.n,(.slice av x.v.kids.length cv),.int .i64 x.a.k,.int .i64 x.a.i,.int .i64 x.a.j,.int .i64 x.a.n,(.slice aa x.a.kids.length ca),.int .i64 x.i] 40)) (fun b=>w.heap.size+2≤b∧u8.ownBlock≠some b) x.u.kids (.slice au x.u.kids.length cu)∧LiesQ (w6.alloc (.cells #[.bool x.eq,.int .i64 x.u.k,.int .i64 x.u.i,.int .i64 x.u.j,.int .i64 x.u.n,(.slice au x.u.kids.length cu),.int .i64 x.v.k,.int .i64 x.v.i,.int .i64 x.v.j,.int .i64 x.v.n,(.slice av x.v.kids.length cv),.int .i64 x.a.k,.int .i64 x.a.i,.int .i64 x.a.j,.int .i64 x.a.n,(.slice aa x.a.kids.length ca),.int .i64 x.i] 40)) (fun b=>w.heap.size+2≤b∧u8.ownBlock≠some b) x.v.kids (.slice av x.v.kids.length cv)∧LiesQ (w6.alloc (.cells #[.bool x.eq,.int .i64 x.u.k,.int .i64 x.u.i,.int .i64 x.u.j,.int .i64 x.u.n,(.slice au x.u.kids.length cu),.int .i64 x.v.k,.int .i64 x.v.i,.int .i64 x.v.j,.int .i64 x.v.n,(.slice av x.v.kids.length cv),.int .i64 x.a.k,.int .i64 x.a.i,.int .i64 x.a.j,.int .i64 x.a.n,(.slice aa x.a.kids.length ca),.int .i64 x.i] 40)) (fun b=>w.heap.size+2≤b∧u8.ownBlock≠some b) x.a.kids (.slice aa x.a.kids.length ca) from⟨(HU6.out.later hk7).wide HPX.out,(HV6.out.later hk7).wide HPX.out,(HA6.out.later hk7).wide HPX.out⟩)
     have HZ7:=Lib.hid (show(w6.alloc (.cells #[.bool x.eq,.int .i64 x.u.k,.int .i64 x.u.i,.int .i64 x.u.j,.int .i64 x.u.n,(.slice au x.u.kids.length cu),.int .i64 x.v.k,.int .i64 x.v.i,.int .i64 x.v.j,.int .i64 x.v.n,(.slice av x.v.kids.length cv),.int .i64 x.a.k,.int .i64 x.a.i,.int .i64 x.a.j,.int .i64 x.a.n,(.slice aa x.a.kids.length ca),.int .i64 x.i] 40)).heap.size=w6.heap.size+1 by simp)
     have hw2:IntKind.i64.wrap ((j:Int)+1)=(j:Int)+1:=IntWalk.i64_in _ (by omega)
     obtain⟨i0,hi⟩:=info_parts info_judg
     have HI:=Lib.hid hi
     have HPLJ:=Lib.hid (show ps.length≤1000 by have h1:=hpl.out;have h2:=HCS.out;have h3:=kids_le t;omega)
     have HWZ:=Lib.hid (show w.heap.size+2≤(w6.alloc (.cells #[.bool x.eq,.int .i64 x.u.k,.int .i64 x.u.i,.int .i64 x.u.j,.int .i64 x.u.n,(.slice au x.u.kids.length cu),.int .i64 x.v.k,.int .i64 x.v.i,.int .i64 x.v.j,.int .i64 x.v.n,(.slice av x.v.kids.length cv),.int .i64 x.a.k,.int .i64 x.a.i,.int .i64 x.a.j,.int .i64 x.a.n,(.slice aa x.a.kids.length ca),.int .i64 x.i] 40)).heap.size by have h1:=HSD7.out.size;exact h1)
     clear hk7 hi HU6 HV6 HA6 HMK6
     go_region_law fail
     all_goals
      try rw [HW6.out]
      go_wp2_with (refine stop_load 40 (.tmp 13) rfl ?_)
      intro _
      refine wpList_load_part (E) (0) 40 (.tmp 13) #[.bool x.eq,.int .i64 x.u.k,.int .i64 x.u.i,.int .i64 x.u.j,.int .i64 x.u.n,(.slice au x.u.kids.length cu),.int .i64 x.v.k,.int .i64 x.v.i,.int .i64 x.v.j,.int .i64 x.v.n,(.slice av x.v.kids.length cv),.int .i64 x.a.k,.int .i64 x.a.i,.int .i64 x.a.j,.int .i64 x.a.n,(.slice aa x.a.kids.length ca),.int .i64 x.i] dj HJB6.out (by rfl) rfl (by rfl) (by rfl) dj1 (by cases dj<;>first | rfl | exact dj2) (by kernel_rfl) ?_
      go_wp2_with (at_builtin;refine wpList_append_lies _ rfl (.tmp 72) (.tmp 74) 65 rfl (w.heap.size+2) 40 i0 _ 17 184 (by kernel_rfl) HI.out.1 HI.out.2.1 HI.out.2.2.1 HI.out.2.2.2 rfl (by decide) u8 ps.length (cells17 ps) rfl HMK7.out.own ⟨w6.heap.size,0,none⟩ 1 1 (cells17 [(x,(.slice au x.u.kids.length cu,.slice av x.v.kids.length cv,.slice aa x.a.kids.length ca))]) rfl rfl (newsJ w6 x _ _ _ _) (oneJ x _ _ _) (by decide) (by have:=HPLJ.out;unfold maxLen;omega) (by have:=HPLJ.out;omega) HWZ.out _ rfl ?_;intro g7 c7 w7 hown7 hgrow7 hat7 _;have HMK8:=Lib.hid (madeK_step HMK7.out (p:=(x,(.slice au x.u.kids.length cu,.slice av x.v.kids.length cv,.slice aa x.a.kids.length ca))) HFX.out HKX.out hown7 hgrow7 hat7);have HSD8:=Lib.hid (HSD7.out.grow hgrow7 (fun b hb=>madeK_row HMK7.out hb));clear hown7 hgrow7 hat7)
      go_roundw
      case rel=>exact⟨j+1,ps++[(x,(.slice au x.u.kids.length cu,.slice av x.v.kids.length cv,.slice aa x.a.kids.length ca))],_,hlt,by go_num,by have:=hpl.out;simp [Hid];omega,by rw [List.map_append];exact HX,Lib.hid (fun q hq=>by rcases List.mem_append.1 hq with hq | hq;exact hsm.out q hq;rw [List.mem_singleton.1 hq];exact HXS.out),HMK8,HSD8⟩
      case measure=>simp [intOf];omega
  ·have hje:t.kids.length≤j:=by omega
   have HKE:=Lib.hid (judge_end hkb.out hje)
   have hSd:=hsd.out.size
   have HCQ:=Lib.hid (Se.liesEQ_keep (liesEQ_fr hsd.out.fr HSE.out (Se.liesEQ_keep (Q:=fun b=>P b∧b<w.heap.size) HC.out (fun b _ _=>rfl) (fun b hb hlt=>⟨hb,hlt⟩))) (Q:=fun b=>(P b∧b<w.heap.size)∨w.heap.size+2≤b) (fun b _ _=>rfl) (fun b hb _=>Or.inl hb))
   have HJQ:=Lib.hid (Se.liesJQ_keep (madeK_lies hmk.out) (Q:=fun b=>(P b∧b<w.heap.size)∨w.heap.size+2≤b) (fun b _ _=>rfl) (fun b hb _=>Or.inr hb))
   have HSL:=Lib.hid (show Sml c (ps.map (·.1)) from⟨by have:=HCS.out;omega,HSC.out.ents,fun x hx=>by obtain⟨q,hq,rfl⟩:=List.mem_map.1 hx;exact hsm.out q hq⟩)
   have HSD:=Lib.hid hsd.out
   clear hsd hmk
   go_wp2_with fail
   refine(ofC_any HCQ.out HJQ.out HFT.out.1 HFT.out.2 HSL.out).mono ?_
   rintro e w1 ⟨su,sv,sa,rfl,hfx,hu,hv,ha,hk1⟩
   have HSD1:=Lib.hid (HSD.out.later hk1)
   have hz1:=hk1.size
   obtain⟨au,cu,Su,rfl,-⟩:=hu.out
   obtain⟨av,cv,Sv,rfl,-⟩:=hv.out
   obtain⟨aa,ca,Sa,rfl,-⟩:=ha.out
   have HU:=Lib.hid hu
   have HV:=Lib.hid hv
   have HA:=Lib.hid ha
   have HFX:=Lib.hid hfx
   clear hu hv ha hfx hk1 y0 y1 y2 HSD
   cases ho:ofB c t.k t.i (ps.map (·.1)) with
   | none =>
    as_aux_lemma =>
     have HR:=Lib.hid (show judgeB m c t=.error (3,[]) by rw [HKE.out];unfold endB;rw [ho])
     clear HU HV HA HFX HSL HJQ HCQ HKE
     simp only [Option.getD_none,Option.isSome_none]
     go_wp2_with (refine stop_store 40 (.tmp 15) (.tmp 85) rfl ?_)
     intro _
     refine wpList_store_part_n (by rfl) 40 (.tmp 15) (.tmp 85) rfl (w1.heap.size) 0 #[.bool zJ.eq,.int .i64 zJ.u.k,.int .i64 zJ.u.i,.int .i64 zJ.u.j,.int .i64 zJ.u.n,(.slice au zJ.u.kids.length cu),.int .i64 zJ.v.k,.int .i64 zJ.v.i,.int .i64 zJ.v.j,.int .i64 zJ.v.n,(.slice av zJ.v.kids.length cv),.int .i64 zJ.a.k,.int .i64 zJ.a.i,.int .i64 zJ.a.j,.int .i64 zJ.a.n,(.slice aa zJ.a.kids.length ca),.int .i64 zJ.i] (by rfl) (by rfl) 40 (by kernel_rfl) (row_ok rfl) ?_
     intro W hW
     subst hW
     refine⟨_,#[.bool zJ.eq,.int .i64 zJ.u.k,.int .i64 zJ.u.i,.int .i64 zJ.u.j,.int .i64 zJ.u.n,(.slice au zJ.u.kids.length cu),.int .i64 zJ.v.k,.int .i64 zJ.v.i,.int .i64 zJ.v.j,.int .i64 zJ.v.n,(.slice av zJ.v.kids.length cv),.int .i64 zJ.a.k,.int .i64 zJ.a.i,.int .i64 zJ.a.j,.int .i64 zJ.a.n,(.slice aa zJ.a.kids.length ca),.int .i64 zJ.i],alloc_new _ _,rfl,Nat.le_of_ble_eq_true rfl,?_⟩
     intro w2 hwn
     have hfr:=fresh_judg hwn
     clear hwn
     have HSD4:=Lib.hid (HSD1.out.later hfr.1)
     clear hfr
     go_wp2_with (refine stop_store 40 (.tmp 6) (.tmp 89) rfl ?_)
     intro _
     refine wpList_store_part_n (by rfl) 40 (.tmp 6) (.tmp 89) rfl (w.heap.size+1) 0 zAgg (by rfl) (by rfl) 40 (by kernel_rfl) (row_ok rfl) ?_
     intro W hW
     subst hW
     refine⟨_,zAgg,HSD4.out.res,rfl,Nat.le_of_ble_eq_true rfl,?_⟩
     intro W2 hW2
     go_wp2_with fail
     (try simp only [Exit.inBlock,Exit.then])
     refine bodyPost_ret (results_cell_tmp rfl _ _ (w.heap.size+1) 40 _ _ dj rfl (HSD4.out.set hW2).1 dj1 (by cases dj<;>first | rfl | exact dj2) (by kernel_rfl)) rfl ?_
     rw [HR.out]
     have HZ:=HSD4.out.set hW2
     exact⟨HZ.2.2,_,rfl,by rw [List.append_nil];exact HZ.2.1⟩
   | some x =>
    simp only [ho,Option.getD_some,Option.isSome_some] at HU HV HA HFX ⊢
    have HOK:=Lib.hid (Se.ofB_smallw HSL.out ho)
    go_wp2_with (refine stop_store 40 (.tmp 15) (.tmp 85) rfl ?_)
    intro _
    refine wpList_store_part_n (by rfl) 40 (.tmp 15) (.tmp 85) rfl (w1.heap.size) 0 #[.bool x.eq,.int .i64 x.u.k,.int .i64 x.u.i,.int .i64 x.u.j,.int .i64 x.u.n,(.slice au x.u.kids.length cu),.int .i64 x.v.k,.int .i64 x.v.i,.int .i64 x.v.j,.int .i64 x.v.n,(.slice av x.v.kids.length cv),.int .i64 x.a.k,.int .i64 x.a.i,.int .i64 x.a.j,.int .i64 x.a.n,(.slice aa x.a.kids.length ca),.int .i64 x.i] (by rfl) (by rfl) 40 (by kernel_rfl) (row_ok rfl) ?_
    intro W hW
    subst hW
    refine⟨_,#[.bool x.eq,.int .i64 x.u.k,.int .i64 x.u.i,.int .i64 x.u.j,.int .i64 x.u.n,(.slice au x.u.kids.length cu),.int .i64 x.v.k,.int .i64 x.v.i,.int .i64 x.v.j,.int .i64 x.v.n,(.slice av x.v.kids.length cv),.int .i64 x.a.k,.int .i64 x.a.i,.int .i64 x.a.j,.int .i64 x.a.n,(.slice aa x.a.kids.length ca),.int .i64 x.i],alloc_new _ _,rfl,Nat.le_of_ble_eq_true rfl,?_⟩
    intro w2 hwn
    have hfr:=fresh_judg hwn
    clear hwn
    obtain⟨hk2,hjb,hz2⟩:=hfr
    obtain⟨E,hE⟩:∃ E,w1.heap.size=E:=⟨_,rfl⟩
    rw [hE] at hjb hz2
    rw [hE]
    go_upto_region 18 with fail
    have HSD3:=Lib.hid (HSD1.out.later hk2)
    have HU2:=Lib.hid (HU.out.later hk2)
    have HV2:=Lib.hid (HV.out.later hk2)
    have HA2:=Lib.hid (HA.out.later hk2)
    have HJB:=Lib.hid hjb
    have r0:=HSD3.out.st.cells.1
    clear hk2 hjb hE hz2 HU HV HA HSD1
    have HSZ:=Lib.hid (fun(W:World) (hW:Below w2.heap.size w2 W)=>Se.cksize_any x W _ _ _ _ HFX.out (HU2.out.later hW) (HV2.out.later hW) (HA2.out.later hW) HOK.out.u HOK.out.v HOK.out.a)
    cases hwb:withinB (sizeJ x) m with
    | true =>
     as_aux_lemma =>
      have HR:=Lib.hid (show judgeB m c t=.ok x by rw [HKE.out];unfold endB;rw [ho];simp only [hwb,if_true])
      have HWB:=Lib.hid hwb
      clear HSL HJQ HCQ HKE ho hwb
      have HDR:=Lib.hid (show Below w2.heap.size w2 w2.drew from⟨rfl,rfl,rfl,Nat.le_refl _,fun _ _=>rfl⟩)
      have HSZD:=Lib.hid (HSZ.out w2.drew HDR.out)
      refine wp_region_held_drew (S:=fun w'=>w'.heap[E]? =some (Obj.cells #[.bool x.eq,.int .i64 x.u.k,.int .i64 x.u.i,.int .i64 x.u.j,.int .i64 x.u.n,(.slice au x.u.kids.length cu),.int .i64 x.v.k,.int .i64 x.v.i,.int .i64 x.v.j,.int .i64 x.v.n,(.slice av x.v.kids.length cv),.int .i64 x.a.k,.int .i64 x.a.i,.int .i64 x.a.j,.int .i64 x.a.n,(.slice aa x.a.kids.length ca),.int .i64 x.i] 40 (0,0))∧(w'.cell? ⟨K,0,none⟩=some (.float .f64 m)∧Below w2.heap.size w2 w')) (by kernel_rfl) ?_ (fun hHeld=>?_)
      ·(try dsimp only)
       (first | exact hHeld | exact⟨(HBN.out.block E (Array.getElem?_eq_some_iff.1 HJB.out).1).trans HJB.out,(HBN.out.cell (by exact HSD3.out.st.lt)).trans r0,HBN.out⟩ | exact⟨HJB.out,r0,HDR.out⟩)
      refine take_at 0 90 ckq_0 (yields_row E 40 40 (.tmp 15) #[.bool x.eq,.int .i64 x.u.k,.int .i64 x.u.i,.int .i64 x.u.j,.int .i64 x.u.n,(.slice au x.u.kids.length cu),.int .i64 x.v.k,.int .i64 x.v.i,.int .i64 x.v.j,.int .i64 x.v.n,(.slice av x.v.kids.length cv),.int .i64 x.a.k,.int .i64 x.a.i,.int .i64 x.a.j,.int .i64 x.a.n,(.slice aa x.a.kids.length ca),.int .i64 x.i] _ dj (by rfl) rfl (by rfl) (fun w' h=>h.1) dj1 (by cases dj<;>first | rfl | exact dj2) (by kernel_rfl)) ?_
      (try simp only [Act.put,List.setIfInBounds_toArray,List.set_cons_zero,List.set_cons_succ])
      refine take_at 2 92 ckq_2 (v:=?_) (Or.inl ⟨by rfl,?_⟩) ?_
      rotate_left 1
      ·((intro w hSw;(try dsimp only at hSw);unfold ckq_2;go_simp)<;>with_reducible rfl)
      (try simp only [Act.put,List.setIfInBounds_toArray,List.set_cons_zero,List.set_cons_succ])
      refine take_at 3 93 ckq_3 (v:=?_) (Or.inl ⟨by rfl,?_⟩) ?_
      rotate_left 1
      ·((intro w hSw;(try dsimp only at hSw);unfold ckq_3;go_simp)<;>with_reducible rfl)
      (try simp only [Act.put,List.setIfInBounds_toArray,List.set_cons_zero,List.set_cons_succ])
      refine take_at 4 94 ckq_4 (v:=?_) (Or.inl ⟨by rfl,?_⟩) ?_
      rotate_left 1
      ·((intro w hSw;(try dsimp only at hSw);unfold ckq_4;go_simp)<;>with_reducible rfl)
      (try simp only [Act.put,List.setIfInBounds_toArray,List.set_cons_zero,List.set_cons_succ])
      refine take_at 5 95 ckq_5 (v:=?_) (Or.inl ⟨by rfl,?_⟩) ?_
      rotate_left 1
      ·((intro w hSw;(try dsimp only at hSw);obtain⟨hS0,hS1,hS2⟩:=hSw;unfold ckq_5;go_simp)<;>with_reducible rfl)
      (try simp only [Act.put,List.setIfInBounds_toArray,List.set_cons_zero,List.set_cons_succ])
      refine wpAnyH_ready (rs:=[1]) (by kernel_rfl) (by simp) ?_
      refine AllReadyH.cons (o:=ckq_1) rfl (fun K hK=>?_) ?_
      ·unfold ckq_1
       go_simp
       (go_at_call 29;with_reducible refine Calls.mono HSZD.out ?_)
       rintro e wn ⟨rfl,hbn⟩
       have HBN:=Lib.hid (show Below w2.heap.size w2 wn from⟨hbn.os,hbn.tape,hbn.output,hbn.size,fun b hb=>hbn.block b hb⟩)
       clear hbn
       refine hK.out _ _ ?_ (fun hHeld=>?_)
       ·(try dsimp only)
        (first | exact hHeld | exact⟨(HBN.out.block E (Array.getElem?_eq_some_iff.1 HJB.out).1).trans HJB.out,(HBN.out.cell (by exact HSD3.out.st.lt)).trans r0,HBN.out⟩ | exact⟨HJB.out,r0,HDR.out⟩)
       clear hK K
       (try simp only [Act.put,List.setIfInBounds_toArray,List.set_cons_zero,List.set_cons_succ])
       refine wpAnyH_ready (rs:=[6]) (by kernel_rfl) (by simp) ?_
       refine AllReadyH.cons (o:=ckq_6) rfl (fun K hK=>?_) ?_
       ·unfold ckq_6
        go_simp
        (go_at_call 28;with_reducible refine Calls.mono (within_any (sizeJ x) m _) ?_)
        rintro e wn2 ⟨rfl,rfl⟩
        rw [HWB.out]
        refine hK.out _ _ ?_ (fun hHeld=>?_)
        ·(try dsimp only)
         (first | exact hHeld | exact⟨(HBN.out.block E (Array.getElem?_eq_some_iff.1 HJB.out).1).trans HJB.out,(HBN.out.cell (by exact HSD3.out.st.lt)).trans r0,HBN.out⟩ | exact⟨HJB.out,r0,HDR.out⟩)
        clear hK K
        (try simp only [Act.put,List.setIfInBounds_toArray,List.set_cons_zero,List.set_cons_succ])
        refine take_at 7 97 ckq_7 (v:=?_) (Or.inl ⟨by rfl,?_⟩) ?_
        rotate_left 1
        ·((intro w hSw;(try dsimp only at hSw);unfold ckq_7;go_simp)<;>with_reducible rfl)
        (try simp only [Act.put,List.setIfInBounds_toArray,List.set_cons_zero,List.set_cons_succ])
        refine wpAnyH_done (by kernel_rfl) ?_ _
        have HSD4:=Lib.hid (HSD3.out.later HBN.out)
        have HU4:=Lib.hid (HU2.out.later HBN.out)
        have HV4:=Lib.hid (HV2.out.later HBN.out)
        have HA4:=Lib.hid (HA2.out.later HBN.out)
        have HJB4:=Lib.hid ((HBN.out.block E (Array.getElem?_eq_some_iff.1 HJB.out).1).trans HJB.out)
        clear hHeld r0
        go_wp2_with (refine stop_load 40 (.tmp 15) rfl ?_)
        intro _
        refine wpList_load_part (E) (0) 40 (.tmp 15) #[.bool x.eq,.int .i64 x.u.k,.int .i64 x.u.i,.int .i64 x.u.j,.int .i64 x.u.n,(.slice au x.u.kids.length cu),.int .i64 x.v.k,.int .i64 x.v.i,.int .i64 x.v.j,.int .i64 x.v.n,(.slice av x.v.kids.length cv),.int .i64 x.a.k,.int .i64 x.a.i,.int .i64 x.a.j,.int .i64 x.a.n,(.slice aa x.a.kids.length ca),.int .i64 x.i] dj HJB4.out (by rfl) rfl (by rfl) (by rfl) dj1 (by cases dj<;>first | rfl | exact dj2) (by kernel_rfl) ?_
        go_wp2_with (refine stop_store 40 (.tmp 6) (.tmp 99) rfl ?_)
        intro _
        refine wpList_store_part_n (by rfl) 40 (.tmp 6) (.tmp 99) rfl (w.heap.size+1) 0 #[.bool x.eq,.int .i64 x.u.k,.int .i64 x.u.i,.int .i64 x.u.j,.int .i64 x.u.n,(.slice au x.u.kids.length cu),.int .i64 x.v.k,.int .i64 x.v.i,.int .i64 x.v.j,.int .i64 x.v.n,(.slice av x.v.kids.length cv),.int .i64 x.a.k,.int .i64 x.a.i,.int .i64 x.a.j,.int .i64 x.a.n,(.slice aa x.a.kids.length ca),.int .i64 x.i] (by rfl) (by rfl) 40 (by kernel_rfl) (row_ok rfl) ?_
        intro W hW
        subst hW
        refine⟨_,#[.bool x.eq,.int .i64 x.u.k,.int .i64 x.u.i,.int .i64 x.u.j,.int .i64 x.u.n,(.slice au x.u.kids.length cu),.int .i64 x.v.k,.int .i64 x.v.i,.int .i64 x.v.j,.int .i64 x.v.n,(.slice av x.v.kids.length cv),.int .i64 x.a.k,.int .i64 x.a.i,.int .i64 x.a.j,.int .i64 x.a.n,(.slice aa x.a.kids.length ca),.int .i64 x.i],HSD4.out.res,rfl,Nat.le_of_ble_eq_true rfl,?_⟩
        intro W2 hW2
        go_wp2_with fail
        (try simp only [Exit.inBlock,Exit.then])
        refine bodyPost_ret (results_cell_tmp rfl _ _ (w.heap.size+1) 40 _ _ dj rfl (HSD4.out.set hW2).1 dj1 (by cases dj<;>first | rfl | exact dj2) (by kernel_rfl)) rfl ?_
        rw [HR.out]
        have HZ:=HSD4.out.set hW2
        exact⟨HZ.2.2,_,_,_,_,rfl,HZ.2.1,HFX.out,liesQ_set hW2 HU4.out (fun b hb=>by rcases hb with (⟨_,hb⟩ | hb) | hb<;>omega) (fun b hb=>by rcases hb with (⟨hb,_⟩ | hb) | hb;exact Or.inl hb;exact Or.inr (by omega);exact Or.inr (by omega)),liesQ_set hW2 HV4.out (fun b hb=>by rcases hb with (⟨_,hb⟩ | hb) | hb<;>omega) (fun b hb=>by rcases hb with (⟨hb,_⟩ | hb) | hb;exact Or.inl hb;exact Or.inr (by omega);exact Or.inr (by omega)),liesQ_set hW2 HA4.out (fun b hb=>by rcases hb with (⟨_,hb⟩ | hb) | hb<;>omega) (fun b hb=>by rcases hb with (⟨hb,_⟩ | hb) | hb;exact Or.inl hb;exact Or.inr (by omega);exact Or.inr (by omega))⟩
       exact AllReadyH.nil
      exact AllReadyH.nil
    | false =>
     as_aux_lemma =>
      have HR:=Lib.hid (show judgeB m c t=.error (4,[]) by rw [HKE.out];unfold endB;rw [ho];simp only [hwb,Bool.false_eq_true,if_false])
      have HWB:=Lib.hid hwb
      clear HSL HJQ HCQ HKE ho hwb
      have HDR:=Lib.hid (show Below w2.heap.size w2 w2.drew from⟨rfl,rfl,rfl,Nat.le_refl _,fun _ _=>rfl⟩)
      have HSZD:=Lib.hid (HSZ.out w2.drew HDR.out)
      refine wp_region_held_drew (S:=fun w'=>w'.heap[E]? =some (Obj.cells #[.bool x.eq,.int .i64 x.u.k,.int .i64 x.u.i,.int .i64 x.u.j,.int .i64 x.u.n,(.slice au x.u.kids.length cu),.int .i64 x.v.k,.int .i64 x.v.i,.int .i64 x.v.j,.int .i64 x.v.n,(.slice av x.v.kids.length cv),.int .i64 x.a.k,.int .i64 x.a.i,.int .i64 x.a.j,.int .i64 x.a.n,(.slice aa x.a.kids.length ca),.int .i64 x.i] 40 (0,0))∧(w'.cell? ⟨K,0,none⟩=some (.float .f64 m)∧Below w2.heap.size w2 w')) (by kernel_rfl) ?_ (fun hHeld=>?_)
      ·(try dsimp only)
       (first | exact hHeld | exact⟨(HBN.out.block E (Array.getElem?_eq_some_iff.1 HJB.out).1).trans HJB.out,(HBN.out.cell (by exact HSD3.out.st.lt)).trans r0,HBN.out⟩ | exact⟨HJB.out,r0,HDR.out⟩)
      refine take_at 0 90 ckq_0 (yields_row E 40 40 (.tmp 15) #[.bool x.eq,.int .i64 x.u.k,.int .i64 x.u.i,.int .i64 x.u.j,.int .i64 x.u.n,(.slice au x.u.kids.length cu),.int .i64 x.v.k,.int .i64 x.v.i,.int .i64 x.v.j,.int .i64 x.v.n,(.slice av x.v.kids.length cv),.int .i64 x.a.k,.int .i64 x.a.i,.int .i64 x.a.j,.int .i64 x.a.n,(.slice aa x.a.kids.length ca),.int .i64 x.i] _ dj (by rfl) rfl (by rfl) (fun w' h=>h.1) dj1 (by cases dj<;>first | rfl | exact dj2) (by kernel_rfl)) ?_
      (try simp only [Act.put,List.setIfInBounds_toArray,List.set_cons_zero,List.set_cons_succ])
      refine take_at 2 92 ckq_2 (v:=?_) (Or.inl ⟨by rfl,?_⟩) ?_
      rotate_left 1
      ·((intro w hSw;(try dsimp only at hSw);unfold ckq_2;go_simp)<;>with_reducible rfl)
      (try simp only [Act.put,List.setIfInBounds_toArray,List.set_cons_zero,List.set_cons_succ])
      refine take_at 3 93 ckq_3 (v:=?_) (Or.inl ⟨by rfl,?_⟩) ?_
      rotate_left 1
      ·((intro w hSw;(try dsimp only at hSw);unfold ckq_3;go_simp)<;>with_reducible rfl)
      (try simp only [Act.put,List.setIfInBounds_toArray,List.set_cons_zero,List.set_cons_succ])
      refine take_at 4 94 ckq_4 (v:=?_) (Or.inl ⟨by rfl,?_⟩) ?_
      rotate_left 1
      ·((intro w hSw;(try dsimp only at hSw);unfold ckq_4;go_simp)<;>with_reducible rfl)
      (try simp only [Act.put,List.setIfInBounds_toArray,List.set_cons_zero,List.set_cons_succ])
      refine take_at 5 95 ckq_5 (v:=?_) (Or.inl ⟨by rfl,?_⟩) ?_
      rotate_left 1
      ·((intro w hSw;(try dsimp only at hSw);obtain⟨hS0,hS1,hS2⟩:=hSw;unfold ckq_5;go_simp)<;>with_reducible rfl)
      (try simp only [Act.put,List.setIfInBounds_toArray,List.set_cons_zero,List.set_cons_succ])
      refine wpAnyH_ready (rs:=[1]) (by kernel_rfl) (by simp) ?_
      refine AllReadyH.cons (o:=ckq_1) rfl (fun K hK=>?_) ?_
      ·unfold ckq_1
       go_simp
       (go_at_call 29;with_reducible refine Calls.mono HSZD.out ?_)
       rintro e wn ⟨rfl,hbn⟩
       have HBN:=Lib.hid (show Below w2.heap.size w2 wn from⟨hbn.os,hbn.tape,hbn.output,hbn.size,fun b hb=>hbn.block b hb⟩)
       clear hbn
       refine hK.out _ _ ?_ (fun hHeld=>?_)
       ·(try dsimp only)
        (first | exact hHeld | exact⟨(HBN.out.block E (Array.getElem?_eq_some_iff.1 HJB.out).1).trans HJB.out,(HBN.out.cell (by exact HSD3.out.st.lt)).trans r0,HBN.out⟩ | exact⟨HJB.out,r0,HDR.out⟩)
       clear hK K
       (try simp only [Act.put,List.setIfInBounds_toArray,List.set_cons_zero,List.set_cons_succ])
       refine wpAnyH_ready (rs:=[6]) (by kernel_rfl) (by simp) ?_
       refine AllReadyH.cons (o:=ckq_6) rfl (fun K hK=>?_) ?_
       ·unfold ckq_6
        go_simp
        (go_at_call 28;with_reducible refine Calls.mono (within_any (sizeJ x) m _) ?_)
        rintro e wn2 ⟨rfl,rfl⟩
        rw [HWB.out]
        refine hK.out _ _ ?_ (fun hHeld=>?_)
        ·(try dsimp only)
         (first | exact hHeld | exact⟨(HBN.out.block E (Array.getElem?_eq_some_iff.1 HJB.out).1).trans HJB.out,(HBN.out.cell (by exact HSD3.out.st.lt)).trans r0,HBN.out⟩ | exact⟨HJB.out,r0,HDR.out⟩)
        clear hK K
        (try simp only [Act.put,List.setIfInBounds_toArray,List.set_cons_zero,List.set_cons_succ])
        refine take_at 7 97 ckq_7 (v:=?_) (Or.inl ⟨by rfl,?_⟩) ?_
        rotate_left 1
        ·((intro w hSw;(try dsimp only at hSw);unfold ckq_7;go_simp)<;>with_reducible rfl)
        (try simp only [Act.put,List.setIfInBounds_toArray,List.set_cons_zero,List.set_cons_succ])
        refine wpAnyH_done (by kernel_rfl) ?_ _
        have HSD4:=Lib.hid (HSD3.out.later HBN.out)
        have HU4:=Lib.hid (HU2.out.later HBN.out)
        have HV4:=Lib.hid (HV2.out.later HBN.out)
        have HA4:=Lib.hid (HA2.out.later HBN.out)
        have HJB4:=Lib.hid ((HBN.out.block E (Array.getElem?_eq_some_iff.1 HJB.out).1).trans HJB.out)
        clear hHeld r0
        go_wp2_with (refine stop_store 40 (.tmp 6) (.tmp 98) rfl ?_)
        intro _
        refine wpList_store_part_n (by rfl) 40 (.tmp 6) (.tmp 98) rfl (w.heap.size+1) 0 zAgg (by rfl) (by rfl) 40 (by kernel_rfl) (row_ok rfl) ?_
        intro W hW
        subst hW
        refine⟨_,zAgg,HSD4.out.res,rfl,Nat.le_of_ble_eq_true rfl,?_⟩
        intro W2 hW2
        go_wp2_with fail
        (try simp only [Exit.inBlock,Exit.then])
        refine bodyPost_ret (results_cell_tmp rfl _ _ (w.heap.size+1) 40 _ _ dj rfl (HSD4.out.set hW2).1 dj1 (by cases dj<;>first | rfl | exact dj2) (by kernel_rfl)) rfl ?_
        rw [HR.out]
        have HZ:=HSD4.out.set hW2
        exact⟨HZ.2.2,_,rfl,by rw [List.append_nil];exact HZ.2.1⟩
       exact AllReadyH.nil
      exact AllReadyH.nil
end Go.Proofs.Ytgnllglbopaheaa.Ck

namespace Go.Proofs.Ytgnllglbopaheaa.Dv
open Go.RowKit
def Makes (u:Tm) (w:World) (e:Ending) (w':World):Prop:=∃ s':Value,e=.returned (tv u s')∧LiesP w' (Own w.heap.size w') u.kids s'∧Below w.heap.size w w'
def MakesAll (l:List Tm) (w:World) (e:Ending) (w':World):Prop:=∃ s':Value,e=.returned s'∧LiesP w' (Own w.heap.size w') l s'∧Below w.heap.size w w'
theorem LiesP.out {w:World} {P:Nat→Prop} {l:List Tm} {s:Value} (h:LiesP w P l s):∃ (a:Option Addr) (cap:Nat),s=.slice a l.length cap∧l.length≤cap∧cap≤maxLen:=by
 cases h with
 | mk l a cap S hc hm hf hn hk=>exact⟨a,cap,rfl,hc,hm⟩
def Boxes (w:World) (t:Tm) (s:Value) (w':World):Prop:=Below (w.heap.size+2) ((w.alloc (boxOf t s)).alloc (.cells #[.int .i64 0,.int .i64 0,.slice none 0 0] 24)) w'
theorem boxes_start (w:World) (t:Tm) (s:Value):Boxes w t s ((w.alloc (.cells #[.int .i64 t.k,.int .i64 t.i,s] 24)).alloc (.cells #[.int .i64 0,.int .i64 0,.slice none 0 0] 24)):=Below.refl _ _
theorem boxes_held {w w':World} {t:Tm} {s:Value} (h:Boxes w t s w'):Held w t s w' :=
 ((Below.refl (w.heap.size+1) (w.alloc (boxOf t s))).alloc (by simp) _).trans (Below.mono h (by omega))
theorem boxes_cells {w w':World} {t:Tm} {s:Value} (h:Boxes w t s w'):w'.cell? ⟨w.heap.size,0,none⟩=some (.int .i64 t.k)∧w'.cell? ⟨w.heap.size,1,none⟩=some (.int .i64 t.i)∧w'.cell? ⟨w.heap.size,2,none⟩=some s ∧
 w'.cell? ⟨w.heap.size+1,0,none⟩=some (.int .i64 0)∧w'.cell? ⟨w.heap.size+1,1,none⟩=some (.int .i64 0)∧w'.cell? ⟨w.heap.size+1,2,none⟩=some (.slice none 0 0)∧w'.frozen? ⟨w.heap.size+1,0,none⟩=false∧w'.frozen? ⟨w.heap.size+1,1,none⟩=false∧w'.frozen? ⟨w.heap.size+1,2,none⟩=false:=by
 obtain⟨h0,h1,h2⟩:=held_cells (boxes_held h)
 have hs:(w.alloc (boxOf t s)).heap.size=w.heap.size+1:=by simp
 have:=box_cells (w:=w.alloc (boxOf t s)) (by rw [hs];exact h)
 rw [hs] at this
 obtain⟨y0,y1,y2⟩:=this
 have fr:∀ q,w'.frozen? ⟨w.heap.size+1,q,none⟩=false:=fun q=>by
  rw [Below.frozen h (p:=⟨w.heap.size+1,q,none⟩) (by simp)]
  unfold World.frozen?
  rw [show(⟨w.heap.size+1,q,none⟩:Addr).block=(w.alloc (boxOf t s)).heap.size by simp,alloc_new]
  rfl
 exact⟨h0,h1,h2,y0,y1,y2,fr _,fr _,fr _⟩
theorem boxes_call {w w1 w2:World} {t:Tm} {s:Value} (h:Boxes w t s w1) (hb:Below w1.heap.size w1 w2):Boxes w t s w2:=below_call h hb (by have:=Below.size h;simpa using this)
theorem boxes_block {w w1:World} {t:Tm} {s:Value} (h:Boxes w t s w1):w1.heap[w.heap.size+1]? =some (.cells #[.int .i64 0,.int .i64 0,.slice none 0 0] 24 (0,0)):=by
 rw [Below.block h _ (by omega)]
 exact heap_alloc2_new _ _ _
theorem boxes_lies {w w1:World} {t:Tm} {s s':Value} {l:List Tm} (h:Boxes w t s w1) (hl:Lies w l s'):Lies w1 l s':=held_lies (boxes_held h) hl
theorem len_sizes:∀ l:List Tm,l.length≤sizes l
 | []=>by simp
 | t::r=>by have:=len_sizes r;have:=t.size_eq;simp only [sizes,List.length_cons];omega
theorem size_mem:∀ (l:List Tm) (x:Tm),x ∈ l→x.size≤sizes l
 | t::r,x,h=>by
  simp only [sizes]
  rcases List.mem_cons.1 h with rfl | h
  ·omega
  ·have:=size_mem r x h;omega
theorem under_term:∃ d,Try.prog.underlying 24=some d∧(match d with | .struct _ | .array _ _=>true | _=>false)=true:=by
 have h:(Try.prog.underlying 24).map (fun d=>match d with | .struct _ | .array _ _=>true | _=>false)=some true:=by kernel_rfl
 cases e:Try.prog.underlying 24 with
 | none=>rw [e] at h;cases h
 | some d=>rw [e] at h;exact⟨d,rfl,Option.some.inj h⟩
theorem size_term:(Try.prog.info? 24).map (·.size)=some 3:=by kernel_rfl
end Go.Proofs.Ytgnllglbopaheaa.Dv

namespace Go.Proofs.Ytgnllglbopaheaa.Dv
open Go.RowKit
def Tm.at:List Int→Tm→Option Tm
 | [],t=>some t
 | k::r,t=>if 0≤k∧k<t.kids.length then((t.kids[k.toNat]?).getD .zero).at r else none
theorem at_nil (t:Tm):t.at []=some t:=rfl
theorem at_step {t:Tm} {l:List Int} {p:Nat} (hp:p<l.length) {k:Nat} (hk:k<t.kids.length) (he:l[p]=(k:Int)):t.at (l.drop p)=(t.kids[k]).at (l.drop (p+1)):=by
 rw [List.drop_eq_getElem_cons hp,he]
 simp only [Tm.at]
 rw [if_pos (by omega),show((k:Int)).toNat=k by omega,List.getElem?_eq_getElem hk];rfl
structure Two (w:World) (u:Tm) (su:Value) (w':World):Prop where
 below:Below w.heap.size w w'
 cur:w'.heap[w.heap.size]? =some (.cells #[.int .i64 u.k,.int .i64 u.i,su] 24 (0,0))
 res:w'.heap[w.heap.size+1]? =some zeroObj
end Go.Proofs.Ytgnllglbopaheaa.Dv

namespace Go.Proofs.Ytgnllglbopaheaa.Ck
open Go Go.RowKit
open Se (ofB Sml sizeJ zJ)
def judgeT (m:Nat) (c:List En) (d:Dv.Tm):CR:=if d.rightB=true then(if purC c=true then judgeB m c d else .error (1,[])) else .error (1,[])
theorem step_1000:Fl.leD (Fl.fi 1001) (Fl.fi 1000)=false:=by kernel_rfl
theorem read_1000:Ieee.double.read 4652007308841189376=Fl.fi 1000:=by kernel_rfl
theorem mild_of {m:Nat} (h:∀ n:Int,withinB n m=true→Fl.leD (Fl.fi n) (Fl.fi 1000)=true):Mild m:=by
 intro n h0 h1 hw
 have h2:=h n hw
 rcases Int.lt_or_le 1000 n with h3 | h3
 ·have h4:Fl.leD (Fl.fi 1001) (Fl.fi n)=true:=Fl.fi_mono (by decide) (by omega) (by omega)
  have h5:=Fl.leD_trans h4 h2
  rw [step_1000] at h5
  cases h5
 ·exact h3
theorem mild_1000:Mild 4652007308841189376:=mild_of fun n h=>by rw [withinB_eq,read_1000] at h;exact h
theorem mild_2:Mild 4611686018427387904:=mild_of fun n h=>Fl.leD_trans h (by kernel_rfl)
theorem mild_1:Mild 4607182418800017408:=mild_of fun n h=>Fl.leD_trans h (by kernel_rfl)
theorem rights_mem:∀ {l:List Dv.Tm} {x:Dv.Tm},Dv.rights l=true→x ∈ l→x.rightB=true
 | a::r,x,h,hx=>by
  simp only [Dv.rights,Bool.and_eq_true] at h
  rcases List.mem_cons.1 hx with rfl | hx
  ·exact h.1
  ·exact rights_mem h.2 hx
theorem dright_fine {t:Dv.Tm} (h:t.rightB=true):t.fine:=by
 rw [Dv.Tm.rightB_eq,Bool.and_eq_true] at h
 have h1:=h.1
 unfold Dv.nodeOk at h1
 simp only [Bool.and_eq_true,decide_eq_true_eq] at h1
 obtain⟨⟨⟨h2,-⟩,h3⟩,h4⟩:=h1
 have hk:1≤t.k∧t.k≤28:=by
  unfold Dv.dkidsN at h2
  split at h2
  ·assumption
  ·omega
 have hm:Dv.mostN t.k≤1000000:=by unfold Dv.mostN;split<;>omega
 exact⟨by unfold I64;omega,by unfold I64;omega⟩
theorem right_kid {t x:Dv.Tm} (h:t.rightB=true) (hx:x ∈ t.kids):x.rightB=true:=by
 rw [Dv.Tm.rightB_eq,Bool.and_eq_true] at h
 exact rights_mem h.2 hx
theorem endB_path {m:Nat} {c:List En} {r i:Int} {on:List Jd} {e:Int × List Int} (h:endB m c r i on=.error e):e.2=[]:=by
 unfold endB at h
 split at h
 ·cases h;rfl
 ·split at h
  ·cases h
  ·cases h;rfl
theorem judgeB_path {m:Nat} (t:Dv.Tm):∀ (c:List En) {er:Int} {q:List Int},judgeB m c t=.error (er,q)→t.rightB=true→(∃ x,t.at q=some x∧x.rightB=true)∧q.length+1≤t.size:=by
 induction t using Dv.Tm.ind with
 | h t ih =>
  intro c er q h hr
  have key:∀ (l:List Dv.Tm) (k:Nat) (on:List Jd),t.kids.drop k=l→∀ {er:Int} {q:List Int},kidsB m c t.k k on l=.error (er,q)→(∃ x,t.at q=some x∧x.rightB=true)∧q.length+1≤t.size:=by
   intro l
   induction l with
   | nil=>intro k on _ er q h;rw [kidsB] at h;cases h
   | cons d l ihl =>
    intro k on hl er q h
    have hk:k<t.kids.length:=by
     rcases Nat.lt_or_ge k t.kids.length with h1 | h1
     ·exact h1
     ·rw [List.drop_eq_nil_of_le h1] at hl;cases hl
    have hd:t.kids[k]=d:=by rw [List.drop_eq_getElem_cons hk] at hl;exact(List.cons.inj hl).1
    have hl2:t.kids.drop (k+1)=l:=by rw [List.drop_eq_getElem_cons hk] at hl;exact(List.cons.inj hl).2
    have hdm:d ∈ t.kids:=by rw [←hd];exact List.getElem_mem hk
    cases hp:(premB c t.k k on).2 with
    | false =>
     rw [kidsB_no hp] at h
     cases h
     exact⟨⟨t,Dv.at_nil t,hr⟩,by have:=dsize_pos t;simpa using this⟩
    | true =>
     cases hx:judgeB m (premB c t.k k on).1 d with
     | error e2 =>
      rw [kidsB_err hp hx] at h
      obtain⟨e3,q3⟩:=e2
      cases h
      obtain⟨⟨x,h1,h2⟩,h3⟩:=ih d hdm _ hx (right_kid hr hdm)
      refine⟨⟨x,?_,h2⟩,?_⟩
      ·have:=Dv.at_step (t:=t) (l:=(k:Int)::q3) (p:=0) (by simp) hk rfl
       simp only [List.drop_zero,Nat.zero_add,List.drop_succ_cons] at this
       rw [this,hd]
       exact h1
      ·have:=dsize_kid hdm
       simp only [List.length_cons]
       omega
     | ok y =>
      rw [kidsB_ok hp hx] at h
      exact ihl _ _ hl2 h
  rw [judgeB_eq] at h
  split at h
  ·rename_i e2 he
   cases h
   exact key _ _ _ (by simp) he
  ·have:=endB_path h
   simp only at this
   subst this
   exact⟨⟨t,Dv.at_nil t,hr⟩,by have:=dsize_pos t;simpa using this⟩
end Go.Proofs.Ytgnllglbopaheaa.Ck
