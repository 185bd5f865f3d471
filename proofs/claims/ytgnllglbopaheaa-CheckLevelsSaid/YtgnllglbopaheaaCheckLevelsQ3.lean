/-
  Facts and contracts that the proof of CheckLevels uses.
-/
import Derived.Test.YtgnllglbopaheaaRows
import Derived.WalkKit
import Derived.Lib.Hide
import Derived.KernelRfl
import Derived.Deep.RegionWith
import Derived.Deep.RegionHeld3
import Derived.Deep.AppendLies
import Derived.Laws.Rows
import Derived.Laws.IdiomCopy
import Derived.Deep.Slices
import Derived.Lib.QuietBelow
import Derived.StillTailTactics
import Derived.BigQuiet
import Derived.IntWalk
import Derived.OwnWalk
import Derived.Deep.RegionLaw
import Derived.Deep.QuietTactic
import Derived.Deep.LoopGhost
import Derived.Deep.DeepCutAuto
import Derived.Deep.MidRow
import Derived.OrdersHeld
import Derived.Laws.Tables
import Derived.Laws.CopyOwn
import Derived.Laws.CopyRow
import Derived.Maps.AppendAt
import Derived.Lib.Builder
import Derived.Shelf.Spec.SlicesInsertGrow
import Derived.Below
import Derived.Lib.MinMax
import Derived.Deep.RegionHeld
import Derived.Deep.Upon
import Derived.ArgAppend
import Derived.Laws.EntriesVeiled
import GoSem.Core.Float
import Derived.ProofKit
import Derived.LoopTactic
import Derived.Laws.Cover2
import Derived.Laws.FloatArith
import Derived.Laws.Externs
import Derived.RowKit
import Derived.Deep.Cut
import Derived.Deep.CutBlock
import Derived.OpenShut
import Derived.Carry
import Derived.ChangeSlices
import Derived.JoinedOf
import Derived.Test.YtgnllglbopaheaaCheckLevelsQ2
namespace Go.Proofs.Ytgnllglbopaheaa
open Go.RowKit
def jfitB (t:Tm) (n:Int):Bool:=t.pureB&&decide (t.freeB≤n)
def rightJ (j:Jd) (n:Int):Bool:=(decide (0≤j.i)&&decide (j.i≤1000))&&((jfitB j.u n&&jfitB j.a n)&&(if j.eq=true then jfitB j.v n else sameB j.v .zero))
set_option maxRecDepth 20000 in
set_option maxHeartbeats 4000000 in
theorem jfit_any (n:Int) (x:Tm) (P:Nat→Prop) (w:World) (sx:Value) (hfx:x.fine) (hlx:LiesQ w P x.kids sx) (hrn:I64 n):Calls Try.prog 45 #[tv x sx,.int .i64 n] w fun e w'=>e=.returned (.bool (jfitB x n))∧Kept w w':=by
 have Gx:=Lib.hid hfx
 clear hfx
 obtain⟨ax,cx,Sx,rfl,-⟩:=hlx.out
 have Rn:=Lib.hid hrn
 clear hrn
 obtain⟨du,hu1,hu2⟩:=under_term
 unfold tv
 go_enter Try.func45,Try.ntmps45
 go_upto_region 1 with fail
 refine at_code (fun V0 hV0=>?_)
 obtain⟨k2,x1,z3⟩:=alloc1 hV0
 have Kk4:=Lib.hid k2
 clear k2
 have Hx1:=Lib.hid x1
 have Z0:=Lib.hid z3
 clear z3 x1 hV0
 have HLx:Hid (LiesQ V0 (Par w V0.heap.size [] P) x.kids _):=(par_in _ _ hlx).later Kk4.out
 clear hlx
 have kvV0:SeesN V0 V0.heap.size V0:=seesN_kept _ (kept_refl _)
 go_wp2_with (refine stop_load 38 (.tmp 2) rfl ?_)
 intro _
 refine wpList_load_part (w.heap.size) 0 38 (.tmp 2) #[.int .i64 x.k,.int .i64 x.i,.int .i64 x.j,.int .i64 x.n,(.slice ax x.kids.length cx)] du Hx1.out (by rfl) rfl (by rfl) (by rfl) hu1 (by cases du<;>first | rfl | exact hu2) size_term ?_
 go_wp2_with fail
 clear kvV0
 refine(pure_any x _ (.slice ax x.kids.length cx) HLx.out.lies).mono ?_
 obtain⟨rb8,hb7⟩:∃ qb,(x.pureB)=qb:=⟨_,rfl⟩
 rw [hb7]
 have Hhb7:=Lib.hid hb7
 clear hb7
 rintro e w5 ⟨rfl,k6⟩
 have Kk9:=Lib.hid k6
 clear k6
 cases rb8 with
 | false =>
  have kvV0:SeesN V0 V0.heap.size w5:=seesN_kept _ Kk9.out
  go_wp2
  go_ret
  exact⟨ret_bool (Eq.symm (show jfitB x n=false from by unfold jfitB;rw [Hhb7.out];(try rfl))),(kept_trans Kk4.out Kk9.out)⟩
 | true =>
  have kvV0:SeesN V0 V0.heap.size w5:=seesN_kept _ Kk9.out
  go_wp2_with (refine stop_load 38 (.tmp 2) rfl ?_)
  intro _
  refine wpList_load_part (w.heap.size) 0 38 (.tmp 2) #[.int .i64 x.k,.int .i64 x.i,.int .i64 x.j,.int .i64 x.n,(.slice ax x.kids.length cx)] du (blk_at Hx1.out Kk9.out) (by rfl) rfl (by rfl) (by rfl) hu1 (by cases du<;>first | rfl | exact hu2) size_term ?_
  go_wp2_with fail
  clear kvV0
  refine(Free_any x _ (.slice ax x.kids.length cx) (HLx.out.later Kk9.out).lies).mono ?_
  rintro e w10 ⟨rfl,k11⟩
  have Kk12:=Lib.hid k11
  clear k11
  have kvV0:SeesN V0 V0.heap.size w10:=seesN_kept _ (kept_trans Kk9.out Kk12.out)
  by_cases c13:x.freeB≤n
  ·have ec13:decide (x.freeB≤n)=true:=decide_eq_true c13
   have Ec13:=Lib.hid ec13
   have Hc13:=Lib.hid c13
   clear c13
   go_wp2
   go_ret
   exact⟨ret_bool (Eq.symm (show jfitB x n=true from by unfold jfitB;rw [Hhb7.out,Ec13.out];(try rfl))),(kept_trans Kk4.out (kept_trans Kk9.out Kk12.out))⟩
  ·have ec13:decide (x.freeB≤n)=false:=decide_eq_false c13
   have Ec13:=Lib.hid ec13
   have Hc13:=Lib.hid c13
   clear c13
   go_wp2
   go_ret
   exact⟨ret_bool (Eq.symm (show jfitB x n=false from by unfold jfitB;rw [Hhb7.out,Ec13.out];(try rfl))),(kept_trans Kk4.out (kept_trans Kk9.out Kk12.out))⟩
set_option maxRecDepth 20000 in
set_option maxHeartbeats 4000000 in
theorem rright0_any (n:Int) (i:Int) (u:Tm) (v:Tm) (x:Tm) (P:Nat→Prop) (w:World) (su:Value) (sv:Value) (sx:Value) (hfu:u.fine) (hlu:LiesQ w P u.kids su) (hfv:v.fine) (hlv:LiesQ w P v.kids sv) (hfx:x.fine) (hlx:LiesQ w P x.kids sx) (hri:I64 i) (hrn:I64 n):Calls Try.prog 37 #[.agg #[.bool false,.int .i64 u.k,.int .i64 u.i,.int .i64 u.j,.int .i64 u.n,su,.int .i64 v.k,.int .i64 v.i,.int .i64 v.j,.int .i64 v.n,sv,.int .i64 x.k,.int .i64 x.i,.int .i64 x.j,.int .i64 x.n,sx,.int .i64 i],.int .i64 n] w fun e w'=>e=.returned (.bool (rightJ ⟨false,u,v,x,i⟩ n))∧Kept w w':=by
 have Gu:=Lib.hid hfu
 clear hfu
 obtain⟨au,cu,Su,rfl,-⟩:=hlu.out
 have Gv:=Lib.hid hfv
 clear hfv
 obtain⟨av,cv,Sv,rfl,-⟩:=hlv.out
 have Gx:=Lib.hid hfx
 clear hfx
 obtain⟨ax,cx,Sx,rfl,-⟩:=hlx.out
 have Ri:=Lib.hid hri
 clear hri
 have Rn:=Lib.hid hrn
 clear hrn
 obtain⟨dj,dj1,dj2⟩:=under_of 40 (by kernel_rfl)
 obtain⟨du,hu1,hu2⟩:=under_term
 go_enter Try.func37,Try.ntmps37
 go_upto_region 1 with fail
 refine at_code (fun V0 hV0=>?_)
 obtain⟨k2,x1,z3⟩:=alloc1 hV0
 have Kk4:=Lib.hid k2
 clear k2
 have Hx1:=Lib.hid x1
 have Z0:=Lib.hid z3
 clear z3 x1 hV0
 have HLu:Hid (LiesQ V0 (Par w V0.heap.size [] P) u.kids _):=(par_in _ _ hlu).later Kk4.out
 clear hlu
 have HLv:Hid (LiesQ V0 (Par w V0.heap.size [] P) v.kids _):=(par_in _ _ hlv).later Kk4.out
 clear hlv
 have HLx:Hid (LiesQ V0 (Par w V0.heap.size [] P) x.kids _):=(par_in _ _ hlx).later Kk4.out
 clear hlx
 have ld5:=partN_cell (r:=V0.heap.size) Hx1.out trivial 0 (.bool false) rfl
 have ld6:=partN_cell (r:=V0.heap.size) Hx1.out trivial 16 (.int .i64 i) rfl
 have kvV0:SeesN V0 V0.heap.size V0:=seesN_kept _ (kept_refl _)
 by_cases c7:i<0
 ·have ec7:decide (i<0)=true:=decide_eq_true c7
  have Ec7:=Lib.hid ec7
  have Hc7:=Lib.hid c7
  clear c7
  go_wp2
  go_ret
  exact⟨ret_bool (Eq.symm (show rightJ ⟨false,u,v,x,i⟩ n=false from by unfold rightJ;(try simp only []);rw [show decide (0≤i)=false from decide_eq_false (by have:=of_decide_eq_true Ec7.out;omega)];(try first | rfl | simp))),Kk4.out⟩
 ·have ec7:decide (i<0)=false:=decide_eq_false c7
  have Ec7:=Lib.hid ec7
  have Hc7:=Lib.hid c7
  clear c7
  by_cases c8:1000<i
  ·have ec8:decide (1000<i)=true:=decide_eq_true c8
   have Ec8:=Lib.hid ec8
   have Hc8:=Lib.hid c8
   clear c8
   go_wp2
   go_ret
   exact⟨ret_bool (Eq.symm (show rightJ ⟨false,u,v,x,i⟩ n=false from by unfold rightJ;(try simp only []);rw [show decide (0≤i)=true from decide_eq_true (by have:=of_decide_eq_false Ec7.out;omega),show decide (i≤1000)=false from decide_eq_false (by have:=of_decide_eq_true Ec8.out;omega)];(try first | rfl | simp))),Kk4.out⟩
  ·have ec8:decide (1000<i)=false:=decide_eq_false c8
   have Ec8:=Lib.hid ec8
   have Hc8:=Lib.hid c8
   clear c8
   go_wp2_with (refine stop_load 38 (.tmp 14) rfl ?_)
   intro _
   refine wpList_load_part (w.heap.size) 1 38 (.tmp 14) #[.int .i64 u.k,.int .i64 u.i,.int .i64 u.j,.int .i64 u.n,(.slice au u.kids.length cu)] du Hx1.out (by rfl) rfl (by rfl) (by rfl) hu1 (by cases du<;>first | rfl | exact hu2) size_term ?_
   go_wp2_with fail
   clear kvV0
   refine(jfit_any n u (Par w V0.heap.size [] P) _ ((.slice au u.kids.length cu)) Gu.out HLu.out Rn.out).mono ?_
   obtain⟨rb12,hb11⟩:∃ qb,(jfitB u n)=qb:=⟨_,rfl⟩
   rw [hb11]
   have Hhb11:=Lib.hid hb11
   clear hb11
   rintro e w9 ⟨rfl,k10⟩
   have Kk13:=Lib.hid k10
   clear k10
   cases rb12 with
   | false =>
    have kvV0:SeesN V0 V0.heap.size w9:=seesN_kept _ Kk13.out
    go_wp2
    go_ret
    exact⟨ret_bool (Eq.symm (show rightJ ⟨false,u,v,x,i⟩ n=false from by unfold rightJ;(try simp only []);rw [show decide (0≤i)=true from decide_eq_true (by have:=of_decide_eq_false Ec7.out;omega),show decide (i≤1000)=true from decide_eq_true (by have:=of_decide_eq_false Ec8.out;omega),Hhb11.out];(try first | rfl | simp))),(kept_trans Kk4.out Kk13.out)⟩
   | true =>
    have kvV0:SeesN V0 V0.heap.size w9:=seesN_kept _ Kk13.out
    go_wp2_with (refine stop_load 38 (.tmp 21) rfl ?_)
    intro _
    refine wpList_load_part (w.heap.size) 11 38 (.tmp 21) #[.int .i64 x.k,.int .i64 x.i,.int .i64 x.j,.int .i64 x.n,(.slice ax x.kids.length cx)] du (blk_at Hx1.out Kk13.out) (by rfl) rfl (by rfl) (by rfl) hu1 (by cases du<;>first | rfl | exact hu2) size_term ?_
    go_wp2_with fail
    clear kvV0
    refine(jfit_any n x (Par w V0.heap.size [] P) _ ((.slice ax x.kids.length cx)) Gx.out (HLx.out.later Kk13.out) Rn.out).mono ?_
    obtain⟨rb17,hb16⟩:∃ qb,(jfitB x n)=qb:=⟨_,rfl⟩
    rw [hb16]
    have Hhb16:=Lib.hid hb16
    clear hb16
    rintro e w14 ⟨rfl,k15⟩
    have Kk18:=Lib.hid k15
    clear k15
    cases rb17 with
    | false =>
     have kvV0:SeesN V0 V0.heap.size w14:=seesN_kept _ (kept_trans Kk13.out Kk18.out)
     go_wp2
     go_ret
     exact⟨ret_bool (Eq.symm (show rightJ ⟨false,u,v,x,i⟩ n=false from by unfold rightJ;(try simp only []);rw [show decide (0≤i)=true from decide_eq_true (by have:=of_decide_eq_false Ec7.out;omega),show decide (i≤1000)=true from decide_eq_true (by have:=of_decide_eq_false Ec8.out;omega),Hhb11.out,Hhb16.out];(try first | rfl | simp))),(kept_trans Kk4.out (kept_trans Kk13.out Kk18.out))⟩
    | true =>
     have kvV0:SeesN V0 V0.heap.size w14:=seesN_kept _ (kept_trans Kk13.out Kk18.out)
     go_wp2_with (refine stop_load 38 (.tmp 33) rfl ?_)
     intro _
     refine wpList_load_part (w.heap.size) 6 38 (.tmp 33) #[.int .i64 v.k,.int .i64 v.i,.int .i64 v.j,.int .i64 v.n,(.slice av v.kids.length cv)] du (blk_at Hx1.out (kept_trans Kk13.out Kk18.out)) (by rfl) rfl (by rfl) (by rfl) hu1 (by cases du<;>first | rfl | exact hu2) size_term ?_
     go_wp2_with fail
     clear kvV0
     refine(same_any v Tm.zero _ ((.slice av v.kids.length cv)) (.slice none 0 0) (HLv.out.later (kept_trans Kk13.out Kk18.out)).lies (liesQ_nil w14 (Par w V0.heap.size [] P)).lies).mono ?_
     obtain⟨rb22,hb21⟩:∃ qb,(sameB v Tm.zero)=qb:=⟨_,rfl⟩
     rw [hb21]
     have Hhb21:=Lib.hid hb21
     clear hb21
     rintro e w19 ⟨rfl,k20⟩
     have Kk23:=Lib.hid k20
     clear k20
     cases rb22 with
     | false =>
      have kvV0:SeesN V0 V0.heap.size w19:=seesN_kept _ (kept_trans Kk13.out (kept_trans Kk18.out Kk23.out))
      go_wp2
      go_ret
      exact⟨ret_bool (Eq.symm (show rightJ ⟨false,u,v,x,i⟩ n=false from by unfold rightJ;(try simp only []);rw [show decide (0≤i)=true from decide_eq_true (by have:=of_decide_eq_false Ec7.out;omega),show decide (i≤1000)=true from decide_eq_true (by have:=of_decide_eq_false Ec8.out;omega),Hhb11.out,Hhb16.out,Hhb21.out];(try first | rfl | simp))),(kept_trans Kk4.out (kept_trans Kk13.out (kept_trans Kk18.out Kk23.out)))⟩
     | true =>
      have kvV0:SeesN V0 V0.heap.size w19:=seesN_kept _ (kept_trans Kk13.out (kept_trans Kk18.out Kk23.out))
      go_wp2
      go_ret
      exact⟨ret_bool (Eq.symm (show rightJ ⟨false,u,v,x,i⟩ n=true from by unfold rightJ;(try simp only []);rw [show decide (0≤i)=true from decide_eq_true (by have:=of_decide_eq_false Ec7.out;omega),show decide (i≤1000)=true from decide_eq_true (by have:=of_decide_eq_false Ec8.out;omega),Hhb11.out,Hhb16.out,Hhb21.out];(try first | rfl | simp))),(kept_trans Kk4.out (kept_trans Kk13.out (kept_trans Kk18.out Kk23.out)))⟩
set_option maxRecDepth 20000 in
set_option maxHeartbeats 4000000 in
theorem rright1_any (n:Int) (i:Int) (u:Tm) (v:Tm) (x:Tm) (P:Nat→Prop) (w:World) (su:Value) (sv:Value) (sx:Value) (hfu:u.fine) (hlu:LiesQ w P u.kids su) (hfv:v.fine) (hlv:LiesQ w P v.kids sv) (hfx:x.fine) (hlx:LiesQ w P x.kids sx) (hri:I64 i) (hrn:I64 n):Calls Try.prog 37 #[.agg #[.bool true,.int .i64 u.k,.int .i64 u.i,.int .i64 u.j,.int .i64 u.n,su,.int .i64 v.k,.int .i64 v.i,.int .i64 v.j,.int .i64 v.n,sv,.int .i64 x.k,.int .i64 x.i,.int .i64 x.j,.int .i64 x.n,sx,.int .i64 i],.int .i64 n] w fun e w'=>e=.returned (.bool (rightJ ⟨true,u,v,x,i⟩ n))∧Kept w w':=by
 have Gu:=Lib.hid hfu
 clear hfu
 obtain⟨au,cu,Su,rfl,-⟩:=hlu.out
 have Gv:=Lib.hid hfv
 clear hfv
 obtain⟨av,cv,Sv,rfl,-⟩:=hlv.out
 have Gx:=Lib.hid hfx
 clear hfx
 obtain⟨ax,cx,Sx,rfl,-⟩:=hlx.out
 have Ri:=Lib.hid hri
 clear hri
 have Rn:=Lib.hid hrn
 clear hrn
 obtain⟨dj,dj1,dj2⟩:=under_of 40 (by kernel_rfl)
 obtain⟨du,hu1,hu2⟩:=under_term
 go_enter Try.func37,Try.ntmps37
 go_upto_region 1 with fail
 refine at_code (fun V0 hV0=>?_)
 obtain⟨k2,x1,z3⟩:=alloc1 hV0
 have Kk4:=Lib.hid k2
 clear k2
 have Hx1:=Lib.hid x1
 have Z0:=Lib.hid z3
 clear z3 x1 hV0
 have HLu:Hid (LiesQ V0 (Par w V0.heap.size [] P) u.kids _):=(par_in _ _ hlu).later Kk4.out
 clear hlu
 have HLv:Hid (LiesQ V0 (Par w V0.heap.size [] P) v.kids _):=(par_in _ _ hlv).later Kk4.out
 clear hlv
 have HLx:Hid (LiesQ V0 (Par w V0.heap.size [] P) x.kids _):=(par_in _ _ hlx).later Kk4.out
 clear hlx
 have ld5:=partN_cell (r:=V0.heap.size) Hx1.out trivial 0 (.bool true) rfl
 have ld6:=partN_cell (r:=V0.heap.size) Hx1.out trivial 16 (.int .i64 i) rfl
 have kvV0:SeesN V0 V0.heap.size V0:=seesN_kept _ (kept_refl _)
 by_cases c7:i<0
 ·have ec7:decide (i<0)=true:=decide_eq_true c7
  have Ec7:=Lib.hid ec7
  have Hc7:=Lib.hid c7
  clear c7
  go_wp2
  go_ret
  exact⟨ret_bool (Eq.symm (show rightJ ⟨true,u,v,x,i⟩ n=false from by unfold rightJ;(try simp only []);rw [show decide (0≤i)=false from decide_eq_false (by have:=of_decide_eq_true Ec7.out;omega)];(try first | rfl | simp))),Kk4.out⟩
 ·have ec7:decide (i<0)=false:=decide_eq_false c7
  have Ec7:=Lib.hid ec7
  have Hc7:=Lib.hid c7
  clear c7
  by_cases c8:1000<i
  ·have ec8:decide (1000<i)=true:=decide_eq_true c8
   have Ec8:=Lib.hid ec8
   have Hc8:=Lib.hid c8
   clear c8
   go_wp2
   go_ret
   exact⟨ret_bool (Eq.symm (show rightJ ⟨true,u,v,x,i⟩ n=false from by unfold rightJ;(try simp only []);rw [show decide (0≤i)=true from decide_eq_true (by have:=of_decide_eq_false Ec7.out;omega),show decide (i≤1000)=false from decide_eq_false (by have:=of_decide_eq_true Ec8.out;omega)];(try first | rfl | simp))),Kk4.out⟩
  ·have ec8:decide (1000<i)=false:=decide_eq_false c8
   have Ec8:=Lib.hid ec8
   have Hc8:=Lib.hid c8
   clear c8
   go_wp2_with (refine stop_load 38 (.tmp 14) rfl ?_)
   intro _
   refine wpList_load_part (w.heap.size) 1 38 (.tmp 14) #[.int .i64 u.k,.int .i64 u.i,.int .i64 u.j,.int .i64 u.n,(.slice au u.kids.length cu)] du Hx1.out (by rfl) rfl (by rfl) (by rfl) hu1 (by cases du<;>first | rfl | exact hu2) size_term ?_
   go_wp2_with fail
   clear kvV0
   refine(jfit_any n u (Par w V0.heap.size [] P) _ ((.slice au u.kids.length cu)) Gu.out HLu.out Rn.out).mono ?_
   obtain⟨rb12,hb11⟩:∃ qb,(jfitB u n)=qb:=⟨_,rfl⟩
   rw [hb11]
   have Hhb11:=Lib.hid hb11
   clear hb11
   rintro e w9 ⟨rfl,k10⟩
   have Kk13:=Lib.hid k10
   clear k10
   cases rb12 with
   | false =>
    have kvV0:SeesN V0 V0.heap.size w9:=seesN_kept _ Kk13.out
    go_wp2
    go_ret
    exact⟨ret_bool (Eq.symm (show rightJ ⟨true,u,v,x,i⟩ n=false from by unfold rightJ;(try simp only []);rw [show decide (0≤i)=true from decide_eq_true (by have:=of_decide_eq_false Ec7.out;omega),show decide (i≤1000)=true from decide_eq_true (by have:=of_decide_eq_false Ec8.out;omega),Hhb11.out];(try first | rfl | simp))),(kept_trans Kk4.out Kk13.out)⟩
   | true =>
    have kvV0:SeesN V0 V0.heap.size w9:=seesN_kept _ Kk13.out
    go_wp2_with (refine stop_load 38 (.tmp 21) rfl ?_)
    intro _
    refine wpList_load_part (w.heap.size) 11 38 (.tmp 21) #[.int .i64 x.k,.int .i64 x.i,.int .i64 x.j,.int .i64 x.n,(.slice ax x.kids.length cx)] du (blk_at Hx1.out Kk13.out) (by rfl) rfl (by rfl) (by rfl) hu1 (by cases du<;>first | rfl | exact hu2) size_term ?_
    go_wp2_with fail
    clear kvV0
    refine(jfit_any n x (Par w V0.heap.size [] P) _ ((.slice ax x.kids.length cx)) Gx.out (HLx.out.later Kk13.out) Rn.out).mono ?_
    obtain⟨rb17,hb16⟩:∃ qb,(jfitB x n)=qb:=⟨_,rfl⟩
    rw [hb16]
    have Hhb16:=Lib.hid hb16
    clear hb16
    rintro e w14 ⟨rfl,k15⟩
    have Kk18:=Lib.hid k15
    clear k15
    cases rb17 with
    | false =>
     have kvV0:SeesN V0 V0.heap.size w14:=seesN_kept _ (kept_trans Kk13.out Kk18.out)
     go_wp2
     go_ret
     exact⟨ret_bool (Eq.symm (show rightJ ⟨true,u,v,x,i⟩ n=false from by unfold rightJ;(try simp only []);rw [show decide (0≤i)=true from decide_eq_true (by have:=of_decide_eq_false Ec7.out;omega),show decide (i≤1000)=true from decide_eq_true (by have:=of_decide_eq_false Ec8.out;omega),Hhb11.out,Hhb16.out];(try first | rfl | simp))),(kept_trans Kk4.out (kept_trans Kk13.out Kk18.out))⟩
    | true =>
     have kvV0:SeesN V0 V0.heap.size w14:=seesN_kept _ (kept_trans Kk13.out Kk18.out)
     go_wp2_with (refine stop_load 38 (.tmp 29) rfl ?_)
     intro _
     refine wpList_load_part (w.heap.size) 6 38 (.tmp 29) #[.int .i64 v.k,.int .i64 v.i,.int .i64 v.j,.int .i64 v.n,(.slice av v.kids.length cv)] du (blk_at Hx1.out (kept_trans Kk13.out Kk18.out)) (by rfl) rfl (by rfl) (by rfl) hu1 (by cases du<;>first | rfl | exact hu2) size_term ?_
     go_wp2_with fail
     clear kvV0
     refine(jfit_any n v (Par w V0.heap.size [] P) _ ((.slice av v.kids.length cv)) Gv.out (HLv.out.later (kept_trans Kk13.out Kk18.out)) Rn.out).mono ?_
     obtain⟨rb22,hb21⟩:∃ qb,(jfitB v n)=qb:=⟨_,rfl⟩
     rw [hb21]
     have Hhb21:=Lib.hid hb21
     clear hb21
     rintro e w19 ⟨rfl,k20⟩
     have Kk23:=Lib.hid k20
     clear k20
     cases rb22 with
     | false =>
      have kvV0:SeesN V0 V0.heap.size w19:=seesN_kept _ (kept_trans Kk13.out (kept_trans Kk18.out Kk23.out))
      go_wp2
      go_ret
      exact⟨ret_bool (Eq.symm (show rightJ ⟨true,u,v,x,i⟩ n=false from by unfold rightJ;(try simp only []);rw [show decide (0≤i)=true from decide_eq_true (by have:=of_decide_eq_false Ec7.out;omega),show decide (i≤1000)=true from decide_eq_true (by have:=of_decide_eq_false Ec8.out;omega),Hhb11.out,Hhb16.out,Hhb21.out];(try first | rfl | simp))),(kept_trans Kk4.out (kept_trans Kk13.out (kept_trans Kk18.out Kk23.out)))⟩
     | true =>
      have kvV0:SeesN V0 V0.heap.size w19:=seesN_kept _ (kept_trans Kk13.out (kept_trans Kk18.out Kk23.out))
      go_wp2
      go_ret
      exact⟨ret_bool (Eq.symm (show rightJ ⟨true,u,v,x,i⟩ n=true from by unfold rightJ;(try simp only []);rw [show decide (0≤i)=true from decide_eq_true (by have:=of_decide_eq_false Ec7.out;omega),show decide (i≤1000)=true from decide_eq_true (by have:=of_decide_eq_false Ec8.out;omega),Hhb11.out,Hhb16.out,Hhb21.out];(try first | rfl | simp))),(kept_trans Kk4.out (kept_trans Kk13.out (kept_trans Kk18.out Kk23.out)))⟩
end Go.Proofs.Ytgnllglbopaheaa

namespace Go.Proofs.Ytgnllglbopaheaa.Dv
open Go.RowKit
def kidsL:List Int:=[0,0,2,2,2,2,3,1,1,2,1,2,1,1,2,2,1,2,3,3,1,1,2,2,2,2,3,4]
def dkidsN (r:Int):Int:=if 1≤r∧r≤28 then(kidsL[(r-1).toNat]?).getD 0 else -1
def innerB (r k:Int):Bool:=if r=3∨r=6∨r=4∨r=7∨r=19∨r=20∨r=18∨r=23∨r=25∨r=26∨r=28 then k==1 else if r=27 then(k==1||k==2) else false
def equalB (r:Int):Bool:=decide (13≤r)&&decide (r≤28)
theorem in28 {r:Int} (h:1≤r∧r≤28):r=1∨r=2∨r=3∨r=4∨r=5∨r=6∨r=7∨r=8∨r=9∨r=10∨r=11∨r=12∨r=13∨r=14∨r=15∨r=16∨r=17∨r=18∨r=19∨r=20∨r=21∨r=22∨r=23∨r=24∨r=25∨r=26∨r=27∨r=28:=by omega
theorem out_kids {r:Int} (h:¬ (1≤r∧r≤28)):dkidsN r=-1:=if_neg h
set_option maxHeartbeats 1000000 in
theorem dkids_any (r:Int) (w:World):Calls Try.prog 22 #[.int .i64 r] w fun e w'=>e=.returned (.int .i64 (dkidsN r))∧w'=w:=by
 by_cases h:1≤r∧r≤28
 ·rcases in28 h with rfl | rfl | rfl | rfl | rfl | rfl | rfl | rfl | rfl | rfl | rfl | rfl | rfl | rfl | rfl | rfl | rfl | rfl | rfl | rfl | rfl | rfl | rfl | rfl | rfl | rfl | rfl | rfl
  all_goals
   clear h
   go_enter Try.func22,Try.ntmps22
   go_wp2
   go_ret
   exact⟨ret_int (by decide),rfl⟩
 ·rw [out_kids h]
  go_enter Try.func22,Try.ntmps22
  go_wp2
  all_goals go_ret
  all_goals exact⟨ret_int (by first | rfl | (exfalso;simp only [beq_iff_eq] at *;omega)),rfl⟩
set_option maxHeartbeats 1000000 in
theorem dinner_any (r k:Int) (w:World):Calls Try.prog 36 #[.int .i64 r,.int .i64 k] w fun e w'=>e=.returned (.bool (innerB r k))∧w'=w:=by
 go_enter Try.func36,Try.ntmps36
 go_wp2
 all_goals go_ret
 all_goals exact⟨ret_bool (by unfold innerB;simp only [beq_iff_eq,beq_eq_false_iff_ne,ne_eq] at *;(repeat' split)<;>first | rfl | omega | (simp_all;done) | (exfalso;omega) | (simp;omega)),rfl⟩
end Go.Proofs.Ytgnllglbopaheaa.Dv

namespace Go.Proofs.Ytgnllglbopaheaa
open Go.RowKit
def BNode (w:World) (b:Nat) (e:En) (s:Value):Prop:=w.cell? ⟨b,0,none⟩=some (.int .i64 e.a.k)∧w.cell? ⟨b,1,none⟩=some (.int .i64 e.a.i)∧w.cell? ⟨b,2,none⟩=some (.int .i64 e.a.j)∧w.cell? ⟨b,3,none⟩=some (.int .i64 e.a.n)∧w.cell? ⟨b,4,none⟩=some (s)∧w.cell? ⟨b,5,none⟩=some (.int .i64 e.i)
theorem bnode_new (w:World) (e:En) (s:Value):BNode (w.alloc (.cells #[.int .i64 e.a.k,.int .i64 e.a.i,.int .i64 e.a.j,.int .i64 e.a.n,s,.int .i64 e.i] 61)) w.heap.size e s:=by
 have key:∀ o,(w.alloc (.cells #[.int .i64 e.a.k,.int .i64 e.a.i,.int .i64 e.a.j,.int .i64 e.a.n,s,.int .i64 e.i] 61)).cell? ⟨w.heap.size,o,none⟩=(#[.int .i64 e.a.k,.int .i64 e.a.i,.int .i64 e.a.j,.int .i64 e.a.n,s,.int .i64 e.i]:Array Value)[o]?:=fun o=>by rw [World.cell?_alloc_at _ _ _ _ rfl]
 exact⟨by rw [key];rfl,by rw [key];rfl,by rw [key];rfl,by rw [key];rfl,by rw [key];rfl,by rw [key];rfl⟩
theorem BNode.keep {v w':World} {b:Nat} {e:En} {s:Value} (h:BNode v b e s) (hk:Kept v w'):BNode w' b e s:=⟨cell_lat hk h.1,cell_lat hk h.2.1,cell_lat hk h.2.2.1,cell_lat hk h.2.2.2.1,cell_lat hk h.2.2.2.2.1,cell_lat hk h.2.2.2.2.2⟩
end Go.Proofs.Ytgnllglbopaheaa

namespace Go.Proofs.Ytgnllglbopaheaa
open Go.RowKit
set_option maxRecDepth 20000 in
set_option maxHeartbeats 2000000 in
theorem ctxright_any (l:List En) (w:World) (s:Value) (hl:LiesE w l s):Calls Try.prog 25 #[s] w fun e w'=>e=.returned (.bool (rightC l))∧Below w.heap.size w w':=by
 obtain⟨a,cap,S,rfl,hc,hmx,-,hn,hk⟩:=hl.out
 unfold maxLen at hmx
 have HN:=Lib.hid hn
 have HK:=Lib.hid hk
 clear hn hk hl
 go_enter Try.func25,Try.ntmps25
 go_wp2
 go_loopw [7] (fun iv wr=>∃ k:Nat,k≤l.length∧iv=.int .i64 k∧Hid (rightC (l.take k)=true)∧Below w.heap.size w wr) (fun iv _=>l.length-(intOf iv).toNat)
 case atStart=>exact⟨0,Nat.zero_le _,rfl,by simp [Hid,rightC,rightE],Below.refl _ _⟩
 case round =>
  obtain⟨k,hk,rfl,hgood,hb⟩:=hrel
  by_cases hlt:k<l.length
  ·obtain⟨b,o,rfl,hx⟩:=HN.out k hlt
   have hx:=hx.below hb hx.lt
   have hq:=(HK.out k hlt).keep hb
   obtain⟨a',cap',S',hS,-⟩:=hq.out
   rw [hS] at hx hq
   have HQ:=Lib.hid hq
   have HT:=Lib.hid (rightC_take hlt)
   have HO:=Lib.hid (fun h=>rightC_of (l:=l) hlt h)
   obtain⟨x0,x1,x2,x3,x4,x5⟩:=hx
   clear hS hq
   have hX:=bnode_new wr l[k] (.slice a' l[k].a.kids.length cap')
   have hbV:Below wr.heap.size wr (wr.alloc (.cells #[.int .i64 l[k].a.k,.int .i64 l[k].a.i,.int .i64 l[k].a.j,.int .i64 l[k].a.n,(.slice a' l[k].a.kids.length cap'),.int .i64 l[k].i] 61)):=(Below.refl _ _).alloc (Nat.le_refl _) _
   have hqV:=HQ.out.keep hbV
   have hbw:=below_call hb hbV hb.size
   clear HQ hb hbV
   go_upto_region 4 with fail
   clear x0 x1 x2 x3 x4 x5
   obtain⟨g,hg⟩:∃ g,wr.heap.size=g:=⟨_,rfl⟩
   rw [hg] at hX ⊢
   generalize wr.alloc (.cells #[.int .i64 l[k].a.k,.int .i64 l[k].a.i,.int .i64 l[k].a.j,.int .i64 l[k].a.n,(.slice a' l[k].a.kids.length cap'),.int .i64 l[k].i] 61)=V at hX hqV hbw ⊢
   have HX:=Lib.hid hX
   have HQ:=Lib.hid hqV
   have HBV:=Lib.hid hbw
   have hk0:=kept_start V
   clear hqV hbw hg
   obtain⟨x0,x1,x2,x3,x4,x5⟩:=hX
   by_cases h0:l[k].i<0
   ·have e0:decide (l[k].i<0)=true:=decide_eq_true h0
    go_wp2
    go_ret
    exact⟨ret_bool (HO.out (by unfold goodE;rw [decide_eq_false (show ¬ 0≤l[k].i by omega)];rfl)).symm,HBV.out⟩
   have e0:decide (l[k].i<0)=false:=decide_eq_false h0
   by_cases h1:1000<l[k].i
   ·have e1:decide (1000<l[k].i)=true:=decide_eq_true h1
    go_wp2
    go_ret
    exact⟨ret_bool (HO.out (by unfold goodE;rw [decide_eq_false (show ¬ l[k].i≤1000 by omega),Bool.and_false];rfl)).symm,HBV.out⟩
   have e1:decide (1000<l[k].i)=false:=decide_eq_false h1
   have g0:decide (0≤l[k].i)=true:=decide_eq_true (by omega)
   have g1:decide (l[k].i≤1000)=true:=decide_eq_true (by omega)
   have G0:=Lib.hid g0
   have G1:=Lib.hid g1
   clear g0 g1
   go_wp2_with fail
   refine(marked_any l[k].a _ _ HQ.out).mono ?_
   obtain⟨mb,hmb⟩:∃ b,l[k].a.markedB=b:=⟨_,rfl⟩
   rw [hmb]
   have HMB:=Lib.hid hmb
   clear hmb
   rintro e w1 ⟨rfl,hb1⟩
   have hk1:=kept_call hk0 hb1
   obtain⟨x0,x1,x2,x3,x4,x5⟩:=HX.out.keep hk1
   clear hb1 hk0
   cases mb with
   | false =>
    go_wp2
    go_ret
    exact⟨ret_bool (HO.out (by unfold goodE;rw [HMB.out,Bool.and_false];rfl)).symm,HBV.out.trans (Below.mono hk1 HBV.out.size)⟩
   | true =>
    go_wp2_with fail
    refine(Free_any l[k].a _ _ (kept_lies hk1 HQ.out)).mono ?_
    obtain⟨fb,hfb⟩:∃ b,l[k].a.freeB=b:=⟨_,rfl⟩
    rw [hfb]
    have HFB:=Lib.hid hfb
    clear hfb
    rintro e w2 ⟨rfl,hb2⟩
    have hk2:=kept_call hk1 hb2
    clear hb2
    by_cases h3:(k:Int)<fb
    ·have e3:decide ((k:Int)<fb)=true:=decide_eq_true h3
     go_wp2
     go_ret
     exact⟨ret_bool (HO.out (by unfold goodE;rw [HFB.out,decide_eq_false (show ¬ fb≤(k:Int) by omega),Bool.and_false])).symm,HBV.out.trans (Below.mono hk2 HBV.out.size)⟩
    ·have e3:decide ((k:Int)<fb)=false:=decide_eq_false h3
     have HS:Hid (goodE k l[k]=true):=by unfold goodE;rw [G0.out,G1.out,HMB.out,HFB.out,decide_eq_true (show fb≤(k:Int) by omega)];rfl
     go_wp2
     go_roundw
     case rel=>exact⟨k+1,by omega,by go_num,by show _=true;rw [HT.out,hgood.out,HS.out];rfl,HBV.out.trans (Below.mono hk2 HBV.out.size)⟩
     case measure=>simp [intOf];omega
  ·have:k=l.length:=by omega
   subst this
   go_wp2
   go_ret
   exact⟨ret_bool (by have hg:=hgood.out;rw [List.take_length] at hg;exact hg.symm),hb⟩
end Go.Proofs.Ytgnllglbopaheaa

namespace Go.Proofs.Ytgnllglbopaheaa
open Go.RowKit
theorem row_subW {C:Array Value} {o W:Nat} {L:List Value} (h:(C.toList.drop o).take W=L) (f n:Nat) (hn:f+n≤W):(C.toList.drop (o+f)).take n=(L.drop f).take n:=by
 rw [←h,List.drop_take,List.take_take,List.drop_drop,Nat.min_eq_left (by omega)]
theorem jnode_blk {w:World} {b o:Nat} {j:Jd} {su sv sa:Value} (h:JNode w b o j su sv sa):∃ (C:Array Value) (T:TypeId) (fr:Nat × Nat),w.heap[b]? =some (.cells C T fr) ∧
 (C.toList.drop o).take 17=[.bool j.eq,.int .i64 j.u.k,.int .i64 j.u.i,.int .i64 j.u.j,.int .i64 j.u.n,su,.int .i64 j.v.k,.int .i64 j.v.i,.int .i64 j.v.j,.int .i64 j.v.n,sv,.int .i64 j.a.k,.int .i64 j.a.i,.int .i64 j.a.j,.int .i64 j.a.n,sa,.int .i64 j.i]:=by
 obtain⟨x0,x1,x2,x3,x4,x5,x6,x7,x8,x9,x10,x11,x12,x13,x14,x15,x16⟩:=h
 have hb:∃ (C:Array Value) (T:TypeId) (fr:Nat × Nat),w.heap[b]? =some (.cells C T fr):=by
  have h0:=x0
  unfold World.cell? at h0
  cases e:w.heap[b]? with
  | none=>simp [e] at h0
  | some ob =>
   cases ob with
   | cells C T fr=>exact⟨C,T,fr,rfl⟩
   | _=>simp [e] at h0
 obtain⟨C,T,fr,hC⟩:=hb
 refine⟨C,T,fr,hC,?_⟩
 have cell:∀ q v,w.cell? ⟨b,o+q,none⟩=some v→C.toList[o+q]? =some v:=fun q v h=>by rw [cell_of_row w b _ C T fr hC] at h;rw [Array.getElem?_toList];exact h
 apply List.ext_getElem?
 intro q
 by_cases hq:q<17
 ·rw [List.getElem?_take_of_lt hq,List.getElem?_drop]
  match q,hq with
  | 0,_=>exact cell 0 _ x0
  | 1,_=>exact cell 1 _ x1
  | 2,_=>exact cell 2 _ x2
  | 3,_=>exact cell 3 _ x3
  | 4,_=>exact cell 4 _ x4
  | 5,_=>exact cell 5 _ x5
  | 6,_=>exact cell 6 _ x6
  | 7,_=>exact cell 7 _ x7
  | 8,_=>exact cell 8 _ x8
  | 9,_=>exact cell 9 _ x9
  | 10,_=>exact cell 10 _ x10
  | 11,_=>exact cell 11 _ x11
  | 12,_=>exact cell 12 _ x12
  | 13,_=>exact cell 13 _ x13
  | 14,_=>exact cell 14 _ x14
  | 15,_=>exact cell 15 _ x15
  | 16,_=>exact cell 16 _ x16
  | n+17,h=>exact absurd h (by omega)
 ·rw [List.getElem?_eq_none (by simp;omega),List.getElem?_eq_none (by simp;omega)]
def purC (l:List En):Bool:=l.all (fun e=>e.a.pureB)&&rightC l
def osB (a:Tm) (i:Int):Bool:=(a.k==1)&&(i==(a.i+1))
def rcls (r:Int):Nat:=if(r==3||(r==6||r==4))=true then 0 else if(r==25||(r==26||(r==27||r==28)))=true then 1 else 2
def entB (r:Int) (j:Jd):En × Bool:=if rcls r=0 then(⟨j.u,j.a.i⟩,!j.eq&&osB j.a j.i) else if rcls r=1 then(⟨j.u,j.a.i⟩,j.eq&&osB j.a j.i) else(⟨j.a,j.i⟩,j.eq==(r==23))
theorem entB_0 {r:Int} (j:Jd) (h:rcls r=0):entB r j=(⟨j.u,j.a.i⟩,!j.eq&&osB j.a j.i):=by unfold entB;rw [if_pos h]
theorem entB_1 {r:Int} (j:Jd) (h:rcls r=1):entB r j=(⟨j.u,j.a.i⟩,j.eq&&osB j.a j.i):=by unfold entB;rw [if_neg (by omega),if_pos h]
theorem entB_fine {r:Int} {j:Jd} (h:j.fine):(entB r j).1.fine:=by
 unfold entB
 split
 ·exact⟨h.1,h.2.2.1.2.1⟩
 ·split
  ·exact⟨h.1,h.2.2.1.2.1⟩
  ·exact⟨h.2.2.1,h.2.2.2⟩
theorem entB_size {r:Int} {j:Jd} {n:Nat} (hu:j.u.size≤n) (ha:j.a.size≤n):(entB r j).1.a.size≤n:=by
 unfold entB
 split
 ·exact hu
 ·split
  ·exact hu
  ·exact ha
def GivesEB (P:Nat→Prop) (x:En) (b:Bool) (w:World) (e:Ending) (w':World):Prop:=∃ s':Value,e=.returned (.tuple #[.agg #[.int .i64 x.a.k,.int .i64 x.a.i,.int .i64 x.a.j,.int .i64 x.a.n,s',.int .i64 x.i],.bool b])∧LiesQ w' (fun b=>P b∨w.heap.size≤b) x.a.kids s'∧Kept w w'
def premB (c:List En) (r kid:Int) (on:List Jd):List En × Bool :=
 if(purC c&&(decide (0≤kid)&&decide (kid<Dv.dkidsN r)))=true then
  if Dv.innerB r kid=true then
   match on with
   | []=>([],false)
   | j::_=>if rightJ j c.length=true then(if(entB r j).2=true then(c++[(entB r j).1],true) else([],false)) else([],false)
  else(c,true)
 else([],false)
theorem premB_kid0 {c:List En} {r kid:Int} {on:List Jd} (h:decide (kid<0)=true):premB c r kid on=([],false):=by
 unfold premB
 rw [if_neg]
 rw [decide_eq_false (p:=0≤kid) (by have:=of_decide_eq_true h;omega)];simp
theorem premB_kid1 {c:List En} {r kid:Int} {on:List Jd} (h:decide (Dv.dkidsN r≤kid)=true):premB c r kid on=([],false):=by
 unfold premB
 rw [if_neg]
 rw [decide_eq_false (p:=kid<Dv.dkidsN r) (by have:=of_decide_eq_true h;omega)];simp
theorem premB_pure {c:List En} {r kid:Int} {on:List Jd} (h:purC c=false):premB c r kid on=([],false):=by
 unfold premB
 rw [if_neg]
 rw [h];simp
theorem premB_in {c:List En} {r kid:Int} (h0:decide (kid<0)=false) (h1:decide (Dv.dkidsN r≤kid)=false) (h2:purC c=true):(purC c&&(decide (0≤kid)&&decide (kid<Dv.dkidsN r)))=true:=by
 rw [h2,decide_eq_true (p:=0≤kid) (by have:=of_decide_eq_false h0;omega),decide_eq_true (p:=kid<Dv.dkidsN r) (by have:=of_decide_eq_false h1;omega)];rfl
theorem premB_outer {c:List En} {r kid:Int} {on:List Jd} (h:(purC c&&(decide (0≤kid)&&decide (kid<Dv.dkidsN r)))=true) (h3:Dv.innerB r kid=false):premB c r kid on=(c,true):=by
 unfold premB
 rw [if_pos h,if_neg (by rw [h3];decide)]
theorem premB_nil {c:List En} {r kid:Int} (h3:Dv.innerB r kid=true):premB c r kid []=([],false):=by
 unfold premB
 by_cases h0:(purC c&&(decide (0≤kid)&&decide (kid<Dv.dkidsN r)))=true
 ·rw [if_pos h0,if_pos h3]
 ·rw [if_neg h0]
theorem premB_right {c:List En} {r kid:Int} {j:Jd} {on:List Jd} (h3:Dv.innerB r kid=true) (h:rightJ j c.length=false):premB c r kid (j::on)=([],false):=by
 unfold premB
 by_cases h0:(purC c&&(decide (0≤kid)&&decide (kid<Dv.dkidsN r)))=true
 ·rw [if_pos h0,if_pos h3]
  simp only []
  rw [if_neg (by rw [h];decide)]
 ·rw [if_neg h0]
theorem premB_ent {c:List En} {r kid:Int} {j:Jd} {on:List Jd} (h3:Dv.innerB r kid=true) (h:(entB r j).2=false):premB c r kid (j::on)=([],false):=by
 unfold premB
 by_cases h0:(purC c&&(decide (0≤kid)&&decide (kid<Dv.dkidsN r)))=true
 ·rw [if_pos h0,if_pos h3]
  simp only []
  rw [h]
  simp
 ·rw [if_neg h0]
theorem premB_all {c:List En} {r kid:Int} {j:Jd} {on:List Jd} (h0:(purC c&&(decide (0≤kid)&&decide (kid<Dv.dkidsN r)))=true) (h3:Dv.innerB r kid=true) (h4:rightJ j c.length=true) (h5:(entB r j).2=true):premB c r kid (j::on)=(c++[(entB r j).1],true):=by
 unfold premB
 rw [if_pos h0,if_pos h3]
 simp only []
 rw [if_pos h4,if_pos h5]
theorem numbers_range {k i j n:Int} (h:numbersN k i j n=true):0≤i∧i≤2147483647:=by
 unfold numbersN at h
 repeat' split at h
 all_goals (simp [levelB] at h;omega)
theorem pure_marked {t:Tm} (h:t.pureB=true):t.markedB=true:=by unfold Tm.pureB at h;rw [Bool.and_eq_true] at h;exact h.1
theorem pure_range {t:Tm} (h:t.pureB=true):0≤t.i∧t.i≤2147483647:=by
 have h1:=pure_marked h
 rw [Tm.markedB_eq,Bool.and_eq_true,Bool.and_eq_true,Tm.nodeB,Bool.and_eq_true] at h1
 have h2:=h1.2.1
 rw [Bool.and_eq_true] at h2
 exact numbers_range h2.2
theorem rightJ_pure {j:Jd} {n:Int} (h:rightJ j n=true):j.a.pureB=true:=by
 unfold rightJ jfitB at h
 simp only [Bool.and_eq_true] at h
 exact h.2.1.2.1
set_option maxRecDepth 20000 in
set_option maxHeartbeats 4000000 in
theorem rulepure_any (l:List En) (w:World) (s:Value) (hl:LiesE w l s):Calls Try.prog 35 #[s] w fun e w'=>e=.returned (.bool (purC l))∧Below w.heap.size w w':=by
 obtain⟨a,cap,S,rfl,hc,hmx,-,hn,hk⟩:=hl.out
 unfold maxLen at hmx
 have HL:=Lib.hid hl
 have HN:=Lib.hid hn
 have HK:=Lib.hid hk
 clear hn hk hl
 go_enter Try.func35,Try.ntmps35
 go_wp2
 go_loopw [7] (fun iv wr=>∃ k:Nat,k≤l.length∧iv=.int .i64 k∧Hid ((l.take k).all (fun e=>e.a.pureB)=true)∧Below w.heap.size w wr) (fun iv _=>l.length-(intOf iv).toNat)
 case atStart=>exact⟨0,Nat.zero_le _,rfl,rfl,Below.refl _ _⟩
 case round =>
  obtain⟨k,hk,rfl,hgood,hb⟩:=hrel
  by_cases hlt:k<l.length
  ·obtain⟨b,o,rfl,hx⟩:=HN.out k hlt
   have hx:=hx.below hb hx.lt
   have hq:=(HK.out k hlt).keep hb
   obtain⟨a',cap',S',hS,-⟩:=hq.out
   rw [hS] at hx hq
   have HQ:=Lib.hid hq
   have HT:=Lib.hid (fun(h:l[k].a.pureB=true)=>show(l.take (k+1)).all (fun e=>e.a.pureB)=true by rw [List.take_succ_eq_append_getElem hlt,List.all_append,hgood.out];simp [h])
   have HO:=Lib.hid (fun(h:l[k].a.pureB=false)=>show purC l=false by
    unfold purC
    cases e:l.all (fun e=>e.a.pureB) with
    | false=>rfl
    | true=>have:=List.all_eq_true.1 e _ (List.getElem_mem hlt);rw [h] at this;cases this)
   obtain⟨x0,x1,x2,x3,x4,x5⟩:=hx
   clear hS hq
   have hX:=bnode_new wr l[k] (.slice a' l[k].a.kids.length cap')
   have hbV:Below wr.heap.size wr (wr.alloc (.cells #[.int .i64 l[k].a.k,.int .i64 l[k].a.i,.int .i64 l[k].a.j,.int .i64 l[k].a.n,(.slice a' l[k].a.kids.length cap'),.int .i64 l[k].i] 61)):=(Below.refl _ _).alloc (Nat.le_refl _) _
   have hqV:=HQ.out.keep hbV
   have hbw:=below_call hb hbV hb.size
   clear HQ hb hbV
   go_upto_region 4 with fail
   clear x0 x1 x2 x3 x4 x5
   obtain⟨g,hg⟩:∃ g,wr.heap.size=g:=⟨_,rfl⟩
   rw [hg] at hX ⊢
   generalize wr.alloc (.cells #[.int .i64 l[k].a.k,.int .i64 l[k].a.i,.int .i64 l[k].a.j,.int .i64 l[k].a.n,(.slice a' l[k].a.kids.length cap'),.int .i64 l[k].i] 61)=V at hX hqV hbw ⊢
   have HX:=Lib.hid hX
   have HQ:=Lib.hid hqV
   have HBV:=Lib.hid hbw
   clear hqV hbw hg
   obtain⟨x0,x1,x2,x3,x4,x5⟩:=hX
   go_wp2_with fail
   refine(pure_any l[k].a _ _ HQ.out).mono ?_
   obtain⟨mb,hmb⟩:∃ b,l[k].a.pureB=b:=⟨_,rfl⟩
   rw [hmb]
   have HMB:=Lib.hid hmb
   clear hmb
   rintro e w1 ⟨rfl,hb1⟩
   have HB1:=Lib.hid (below_call HBV.out hb1 HBV.out.size)
   clear hb1 x0 x1 x2 x3 x4 x5
   cases mb with
   | false =>
    go_wp2
    go_ret
    exact⟨ret_bool (HO.out HMB.out).symm,HB1.out⟩
   | true =>
    go_wp2
    go_roundw
    case rel=>exact⟨k+1,hlt,by go_num,HT.out HMB.out,HB1.out⟩
    case measure=>simp [intOf];omega
  ·obtain rfl:k=l.length:=by omega
   have HS:=Lib.hid (show l.all (fun e=>e.a.pureB)=true by have:=hgood.out;rw [List.take_length] at this;exact this)
   go_wp2_with fail
   refine(ctxright_any l _ _ (HL.out.keep hb)).mono ?_
   rintro e w1 ⟨rfl,hb1⟩
   have hb01:=below_call hb hb1 hb.size
   clear hb1
   go_wp2
   go_ret
   exact⟨ret_bool (by unfold purC;rw [HS.out,Bool.true_and]),hb01⟩
end Go.Proofs.Ytgnllglbopaheaa

namespace Go.Proofs.Ytgnllglbopaheaa
open Go.RowKit
theorem oneE (t:En) (s:Value) (h:s.oneCell'=true:=by rfl):∀ u ∈ cells6 [(t,s)],u.oneCell'=true:=by
 intro u hu
 simp only [cells6,List.mem_cons,List.not_mem_nil,or_false] at hu
 rcases hu with rfl | rfl | rfl | rfl | rfl | rfl<;>first | rfl | exact h
end Go.Proofs.Ytgnllglbopaheaa

namespace Go.Proofs.Ytgnllglbopaheaa
open Go.RowKit
set_option maxRecDepth 20000 in
set_option maxHeartbeats 1000000 in
theorem eachl_any (k c:Int) (bf bk:Nat) (hk:I64 k) (hk0:0≤k) (t:Tm):∀ (b:Int) (w:World) (s:Value),Lies w t.kids s→t.rightB=true→0≤b→b+2 * t.deep≤1000000→w.cell? ⟨bf,0,none⟩=some (.int .i64 c)→w.cell? ⟨bk,0,none⟩=some (.int .i64 k) →
 Calls Try.prog 79 #[tv t s,.int .i64 b,.func (.func 80) #[] #[.pointer (some ⟨bf,0,none⟩),.pointer (some ⟨bk,0,none⟩)]] w (Gives (t.each (liftF k c) b) w):=by
 induction t using Tm.ind with
 | h t ih =>
  intro b w s hl hr hb hd hcf hck
  obtain⟨a,cap,S,rfl,hc,hm,hf,hn,hk⟩:=hl.out
  have hde:=t.deep_eq
  have hlen:=right_len hr
  have HB0:=boxes_start w t (.slice a t.kids.length cap)
  unfold tv
  unfold maxLen at hm
  obtain⟨du,hu1,hu2⟩:=under_term
  by_cases hk2:t.k=2
  ·have e2:(t.k==2)=true:=by simpa using hk2
   have hv:=t.right_var hr hk2
   have heq:=Tm.each_var (liftF k c) t b hk2
   have HEQ:=Lib.hid heq
   clear heq hk2 ih hn hk hf
   cases hx:(liftF k c) t.i b with
   | none =>
    have HX:=Lib.hid hx
    clear hx
    go_enter Try.func79,Try.ntmps79
    go_wp2_with fail
    refine(liftc_none t.i b c k bf bk _ HX.out hv.1 hv.2 hb (by omega) hk hk0 (cell_lat (boxes_under HB0) hcf) (cell_lat (boxes_under HB0) hck)).mono ?_
    rintro e w' ⟨rfl,rfl⟩
    go_wp2
    refine bodyPost_ret (results_cell_tmp rfl _ _ (w.heap.size+1) _ _ _ du rfl (heap_alloc2_new _ _ _) hu1 (by cases du<;>first | rfl | exact hu2) size_term) rfl ?_
    refine⟨((Below.refl _ _).alloc (Nat.le_refl _) _).alloc (by simp) _,Or.inr ⟨.mk 2 0 0 0 [],by rw [HEQ.out,HX.out];rfl,rfl,rfl⟩⟩
   | some r =>
    have HX:=Lib.hid hx
    clear hx
    go_enter Try.func79,Try.ntmps79
    go_wp2_with fail
    refine(liftc_some t.i b c k r bf bk _ HX.out hv.1 hv.2 hb (by omega) hk hk0 (cell_lat (boxes_under HB0) hcf) (cell_lat (boxes_under HB0) hck)).mono ?_
    rintro e w' ⟨rfl,rfl⟩
    go_wp2
    refine bodyPost_ret (results_cell_tmp rfl _ _ (w.heap.size+1) _ _ _ du rfl (heap_alloc2_new _ _ _) hu1 (by cases du<;>first | rfl | exact hu2) size_term) rfl ?_
    refine⟨((Below.refl _ _).alloc (Nat.le_refl _) _).alloc (by simp) _,Or.inl ⟨.mk 2 r 0 0 [],.slice none 0 0,by rw [HEQ.out,HX.out];rfl,rfl,liesP_nil _ _⟩⟩
  ·have e2:(t.k==2)=false:=by simpa using hk2
   have heq:=Tm.each_node (liftF k c) t b hk2
   have HEQ:=Lib.hid heq
   have HRK:=Lib.hid (t.right_kids hr)
   have HR:=Lib.hid hr
   have HFI:=Lib.hid hf
   have IH:=Lib.hid ih
   have HN:=Lib.hid hn
   have HK:=Lib.hid hk
   have HDE:=Lib.hid hde
   have hd0:=desk_start w t t (.slice a t.kids.length cap) (.slice none 0 0)
   clear heq hk2 ih hn hk hf hr hl hde
   by_cases h0:t.kids.length=0
   ·have h1:t.kids.length<1:=by omega
    have HNL:=Lib.hid (List.eq_nil_of_length_eq_zero h0)
    clear h0 HB0
    go_enter Try.func79,Try.ntmps79
    go_wp2_with fail
    go_loopw [50] (fun i wr=>i=.int .i64 0∧Desk w t t (.slice a t.kids.length cap) (.slice none 0 0) wr) (fun _ _=>0)
    case atStart=>exact⟨rfl,hd0⟩
    case round =>
     clear hd0
     obtain⟨rfl,hdk⟩:=hrel
     obtain⟨q0,q1,q2⟩:=desk_blocks hdk
     obtain⟨d0,d1,d2,d3,d4⟩:=five_cells q0
     obtain⟨y0,y1,y2,y3,y4⟩:=five_cells q2
     obtain⟨z0,z1,z2,z3,z4⟩:=five_cells q1
     obtain⟨f0,f1,f2,f3,f4⟩:=five_free q1
     clear q0 q2
     go_wp2_with fail
     (try simp only [Exit.inBlock,Exit.then])
     refine bodyPost_ret (results_cell_tmp rfl _ _ (w.heap.size+1) _ _ _ du rfl (five_set q1) hu1 (by cases du<;>first | rfl | exact hu2) size_term) rfl ?_
     exact⟨((((((desk_under hdk).setCell (by simp) _).setCell (by simp) _).setCell (by simp) _).setCell (by simp) _).setCell (by simp) _),Or.inl ⟨.mk t.k t.i t.j t.n [],.slice none 0 0,by rw [HEQ.out,HNL.out];rfl,rfl,liesP_nil _ _⟩⟩
   ·have h0':0<t.kids.length:=by omega
    obtain⟨i0,hi,hz0,hz1,hz2⟩:=info_parts info_term
    have HI:=Lib.hid (And.intro hi (And.intro hz0 (And.intro hz1 hz2)))
    clear hi hz0 hz1 hz2
    go_enter Try.func79,Try.ntmps79
    go_wp2_with (at_make;refine wpList_make_full _ rfl _ _ 36 rfl (w.heap.size+3) 38 i0 _ 5 (by kernel_rfl) HI.out.1 HI.out.2.1 HI.out.2.2.1 _ _ _ _ t.kids.length rfl rfl rfl rfl ?bytes ?max ?base ?next)
    case bytes=>rw [HI.out.2.2.2];omega
    case max=>unfold maxLen;omega
    case base=>simp
    case next =>
    intro w1 hown hgrow
    have hful:=full_made hown
    have hbel:Below (w.heap.size+3) _ w1:=(Below.refl _ _).grown hgrow (by simp) (by simp)
    have hd1:Desk w t t _ _ w1:=hbel
    clear hbel hgrow hown
    obtain⟨q0,q1,q2⟩:=desk_blocks hd1
    obtain⟨d0,d1,d2,d3,d4⟩:=five_cells q0
    obtain⟨y0,y1,y2,y3,y4⟩:=five_cells q2
    obtain⟨f0,f1,f2,f3,f4⟩:=five_free q2
    have hd2:=desk_set (v':=.slice (some ⟨w.heap.size+3,0,none⟩) t.kids.length t.kids.length) hd1
    clear q0 q1 q2
    have hf2:=hful.below (b:=w.heap.size+2) (o:=4) (by omega) (.slice (some ⟨w.heap.size+3,0,none⟩) t.kids.length t.kids.length)
    clear hd1 hful HB0 hd0
    go_wp2_with fail
    go_loopw [50] (fun i wr=>∃ (q:Nat) (xs:List (Tm × Value)),q≤t.kids.length∧i=.int .i64 q∧Hid (xs.length=t.kids.length)∧Hid (optK (fun q x=>x.each (liftF k c) (b+bindsN t.k q)) 0 (t.kids.take q)=some ((xs.map (·.1)).take q))∧Full (w.heap.size+3) wr (w.heap.size+3) xs∧Desk w t t (.slice a t.kids.length cap) (.slice (some ⟨w.heap.size+3,0,none⟩) t.kids.length t.kids.length) wr) (fun i _=>t.kids.length-(intOf i).toNat)
    case atStart=>exact⟨0,_,Nat.zero_le _,rfl,List.length_replicate,rfl,hf2,hd2⟩
    case round =>
     clear hf2 hd2 d0 d1 d2 d3 d4 y0 y1 y2 y3 y4 f0 f1 f2 f3 f4
     obtain⟨q,xs,hq0,rfl,hxl,hxs,hfu,hdk⟩:=hrel
     have HXL:=Lib.hid hxl.out
     have HXS:=Lib.hid hxs.out
     clear hxl hxs
     obtain⟨q0,q1,q2⟩:=desk_blocks hdk
     obtain⟨d0,d1,d2,d3,d4⟩:=five_cells q0
     obtain⟨y0,y1,y2,y3,y4⟩:=five_cells q2
     obtain⟨z0,z1,z2,z3,z4⟩:=five_cells q1
     obtain⟨f0,f1,f2,f3,f4⟩:=five_free q1
     have hsz:=desk_size hdk
     clear q0 q2
     by_cases hlt:q<t.kids.length
     ·obtain⟨b',o,rfl,hx⟩:=HN.out q hlt
      have hy:=hx.below (desk_under hdk) hx.lt
      obtain⟨c0,c1,c2,c3,c4⟩:=hy
      have hq:=HK.out q hlt
      obtain⟨a',cap',S',hS,-⟩:=hq.out
      rw [hS] at c4 hq
      have HM:=Lib.hid (List.getElem_mem hlt)
      have hbd:=binds_range t.k q
      have hdq:=deeps_get t.kids q hlt
      rw [HDE.out] at hd
      have hsum:IntKind.i64.wrap (b+bindsN t.k q)=b+bindsN t.k q:=IntWalk.i64_in _ (by omega)
      have hH0:=held_start wr t.kids[q] (.slice a' t.kids[q].kids.length cap')
      have CALL:∀ w',Held wr t.kids[q] (.slice a' t.kids[q].kids.length cap') w'→Calls Try.prog 79 #[tv t.kids[q] (.slice a' t.kids[q].kids.length cap'),.int .i64 (b+bindsN t.k q),.func (.func 80) #[] #[.pointer (some ⟨bf,0,none⟩),.pointer (some ⟨bk,0,none⟩)]] w' (Gives (t.kids[q].each (liftF k c) (b+bindsN t.k q)) w'):=fun w' h' =>
       IH.out _ HM.out _ w' _ (hq.keep ((desk_under hdk).trans ((held_below h').mono (by omega)))) (HRK.out _ HM.out) (by omega) (by omega) (cell_lat ((desk_under hdk).trans ((held_below h').mono (by omega))) hcf) (cell_lat ((desk_under hdk).trans ((held_below h').mono (by omega))) hck)
      clear hS hq hx hd hdq hbd
      cases hx2:t.kids[q].each (liftF k c) (b+bindsN t.k q) with
      | none =>
       rw [hx2] at CALL
       have HX2:=Lib.hid hx2
       have CALL2:∀ w',Held wr t.kids[q] (.slice a' t.kids[q].kids.length cap') w'→Calls Try.prog 79 #[tv t.kids[q] (.slice a' t.kids[q].kids.length cap'),.int .i64 (b+bindsN t.k q),.func (.func 80) #[] #[.pointer (some ⟨bf,0,none⟩),.pointer (some ⟨bk,0,none⟩)]] w' (GivesNone w'):=fun w' h'=>(CALL w' h').mono fun e w'' h=>h.none
       have CALLB:=Lib.hid (CALL2 (wr.alloc (.cells #[.int .i64 t.kids[q].k,.int .i64 t.kids[q].i,.int .i64 t.kids[q].j,.int .i64 t.kids[q].n,.slice a' t.kids[q].kids.length cap'] 38)).drew (held_drew hH0))
       have CALLA:=Lib.hid ((CALL2 ((wr.alloc (.cells #[.int .i64 t.kids[q].k,.int .i64 t.kids[q].i,.int .i64 t.kids[q].j,.int .i64 t.kids[q].n,.slice a' t.kids[q].kids.length cap'] 38)).alloc zeroObj).drew (held_drew (held_alloc hH0 _))).mono fun e w'' h=>And.intro h (zero_blocks_new h.2))
       clear hx2 CALL CALL2
       go_wp2_with fail
       go_region_held3 (fun w'=>Held wr t.kids[q] (.slice a' t.kids[q].kids.length cap') w'∧w'.cell? ⟨w.heap.size,0,none⟩=some (.int .i64 t.k)∧w'.cell? ⟨wr.heap.size,0,none⟩=some (.int .i64 t.kids[q].k)∧w'.cell? ⟨wr.heap.size,1,none⟩=some (.int .i64 t.kids[q].i)∧w'.cell? ⟨wr.heap.size,2,none⟩=some (.int .i64 t.kids[q].j)∧w'.cell? ⟨wr.heap.size,3,none⟩=some (.int .i64 t.kids[q].n)∧w'.cell? ⟨wr.heap.size,4,none⟩=some (.slice a' t.kids[q].kids.length cap'))
        (((with_reducible refine held_and ?_ d0);repeat (first | with_reducible assumption | with_reducible exact hH0 | with_reducible refine held_drew ?_ | with_reducible refine held_alloc ?_ _ | ((with_reducible refine held_set ?_ ?hh _);(case hh=>simp)))))
        (first | (go_at_call 65;refine(binds_any _ _ _).mono ?_;rintro e w' ⟨rfl,rfl⟩) | (go_at_call 79;((with_reducible refine Calls.mono CALLB.out ?_);rintro e wn ⟨⟨z,rfl⟩,hbn⟩;have hh:=held_call (held_drew hH0) hbn)) | (go_at_call 79;((with_reducible refine Calls.mono CALLA.out ?_);rintro e wn ⟨⟨⟨z,rfl⟩,hbn⟩,hZ⟩;obtain⟨⟨g0,g1,g2,g3,g4⟩,k0,k1,k2,k3,k4⟩:=And.intro (five_cells hZ) (five_free hZ);have hh:=held_call (held_drew (held_alloc hH0 _)) hbn)))
       ·have hW:Held wr t.kids[q] (.slice a' t.kids[q].kids.length cap') (wn.alloc (.cells #[.int .i64 z.k,.int .i64 z.i,.int .i64 z.j,.int .i64 z.n,.slice none 0 0] 38)):=held_alloc hh _
        clear hh hbn
        generalize wn.alloc (.cells #[.int .i64 z.k,.int .i64 z.i,.int .i64 z.j,.int .i64 z.n,.slice none 0 0] 38)=W at hW ⊢
        have hdW:=desk_trans hdk (below_from (held_below hW) hsz)
        obtain⟨-,q1,-⟩:=desk_blocks hdW
        obtain⟨z0,z1,z2,z3,z4⟩:=five_cells q1
        obtain⟨f0,f1,f2,f3,f4⟩:=five_free q1
        go_wp2
        (try simp only [Exit.inBlock,Exit.then])
        refine bodyPost_ret (results_cell_tmp rfl _ _ (w.heap.size+1) _ _ _ du rfl (five_set q1) hu1 (by cases du<;>first | rfl | exact hu2) size_term) rfl ?_
        exact⟨((((((desk_under hdW).setCell (by simp) _).setCell (by simp) _).setCell (by simp) _).setCell (by simp) _).setCell (by simp) _),Or.inr ⟨Tm.zero,by rw [HEQ.out,optK_stop hlt HX2.out];rfl,rfl,rfl⟩⟩
       ·have hW:Held wr t.kids[q] (.slice a' t.kids[q].kids.length cap') (((((wn.setCell ⟨wr.heap.size+1,0,none⟩ (.int .i64 z.k)).setCell ⟨wr.heap.size+1,1,none⟩ (.int .i64 z.i)).setCell ⟨wr.heap.size+1,2,none⟩ (.int .i64 z.j)).setCell ⟨wr.heap.size+1,3,none⟩ (.int .i64 z.n)).setCell ⟨wr.heap.size+1,4,none⟩ (.slice none 0 0)):=held_five hh _ _ _ _ _
        clear hh hbn hZ g0 g1 g2 g3 g4 k0 k1 k2 k3 k4
        generalize ((((wn.setCell ⟨wr.heap.size+1,0,none⟩ (.int .i64 z.k)).setCell ⟨wr.heap.size+1,1,none⟩ (.int .i64 z.i)).setCell ⟨wr.heap.size+1,2,none⟩ (.int .i64 z.j)).setCell ⟨wr.heap.size+1,3,none⟩ (.int .i64 z.n)).setCell ⟨wr.heap.size+1,4,none⟩ (.slice none 0 0)=W at hW ⊢
        have hdW:=desk_trans hdk (below_from (held_below hW) hsz)
        obtain⟨-,q1,-⟩:=desk_blocks hdW
        obtain⟨z0,z1,z2,z3,z4⟩:=five_cells q1
        obtain⟨f0,f1,f2,f3,f4⟩:=five_free q1
        go_wp2
        (try simp only [Exit.inBlock,Exit.then])
        refine bodyPost_ret (results_cell_tmp rfl _ _ (w.heap.size+1) _ _ _ du rfl (five_set q1) hu1 (by cases du<;>first | rfl | exact hu2) size_term) rfl ?_
        exact⟨((((((desk_under hdW).setCell (by simp) _).setCell (by simp) _).setCell (by simp) _).setCell (by simp) _).setCell (by simp) _),Or.inr ⟨Tm.zero,by rw [HEQ.out,optK_stop hlt HX2.out];rfl,rfl,rfl⟩⟩
       ·have hW:Held wr t.kids[q] (.slice a' t.kids[q].kids.length cap') (((((wn.setCell ⟨wr.heap.size+1,0,none⟩ (.int .i64 z.k)).setCell ⟨wr.heap.size+1,1,none⟩ (.int .i64 z.i)).setCell ⟨wr.heap.size+1,2,none⟩ (.int .i64 z.j)).setCell ⟨wr.heap.size+1,3,none⟩ (.int .i64 z.n)).setCell ⟨wr.heap.size+1,4,none⟩ (.slice none 0 0)):=held_five hh _ _ _ _ _
        clear hh hbn hZ g0 g1 g2 g3 g4 k0 k1 k2 k3 k4
        generalize ((((wn.setCell ⟨wr.heap.size+1,0,none⟩ (.int .i64 z.k)).setCell ⟨wr.heap.size+1,1,none⟩ (.int .i64 z.i)).setCell ⟨wr.heap.size+1,2,none⟩ (.int .i64 z.j)).setCell ⟨wr.heap.size+1,3,none⟩ (.int .i64 z.n)).setCell ⟨wr.heap.size+1,4,none⟩ (.slice none 0 0)=W at hW ⊢
        have hdW:=desk_trans hdk (below_from (held_below hW) hsz)
        obtain⟨-,q1,-⟩:=desk_blocks hdW
        obtain⟨z0,z1,z2,z3,z4⟩:=five_cells q1
        obtain⟨f0,f1,f2,f3,f4⟩:=five_free q1
        go_wp2
        (try simp only [Exit.inBlock,Exit.then])
        refine bodyPost_ret (results_cell_tmp rfl _ _ (w.heap.size+1) _ _ _ du rfl (five_set q1) hu1 (by cases du<;>first | rfl | exact hu2) size_term) rfl ?_
        exact⟨((((((desk_under hdW).setCell (by simp) _).setCell (by simp) _).setCell (by simp) _).setCell (by simp) _).setCell (by simp) _),Or.inr ⟨Tm.zero,by rw [HEQ.out,optK_stop hlt HX2.out];rfl,rfl,rfl⟩⟩
      | some u =>
       rw [hx2] at CALL
       have hfine:u.fine:=right_fine (right_each _ (liftF_range k c hk0) _ _ _ (HRK.out _ HM.out) hx2)
       have HFI2:=Lib.hid hfine
       have hfine':=trivial
       clear hfine
       have HX2:=Lib.hid hx2
       have CALL2:∀ w',Held wr t.kids[q] (.slice a' t.kids[q].kids.length cap') w'→Calls Try.prog 79 #[tv t.kids[q] (.slice a' t.kids[q].kids.length cap'),.int .i64 (b+bindsN t.k q),.func (.func 80) #[] #[.pointer (some ⟨bf,0,none⟩),.pointer (some ⟨bk,0,none⟩)]] w' (GivesSome u w'):=fun w' h'=>(CALL w' h').mono fun e w'' h=>h.some
       have CALLB:=Lib.hid (CALL2 (wr.alloc (.cells #[.int .i64 t.kids[q].k,.int .i64 t.kids[q].i,.int .i64 t.kids[q].j,.int .i64 t.kids[q].n,.slice a' t.kids[q].kids.length cap'] 38)).drew (held_drew hH0))
       have CALLA:=Lib.hid ((CALL2 ((wr.alloc (.cells #[.int .i64 t.kids[q].k,.int .i64 t.kids[q].i,.int .i64 t.kids[q].j,.int .i64 t.kids[q].n,.slice a' t.kids[q].kids.length cap'] 38)).alloc zeroObj).drew (held_drew (held_alloc hH0 _))).mono fun e w'' h=>And.intro h (zero_blocks_new h.2))
       clear hx2 CALL CALL2
       go_wp2_with fail
       go_region_held3 (fun w'=>Held wr t.kids[q] (.slice a' t.kids[q].kids.length cap') w'∧w'.cell? ⟨w.heap.size,0,none⟩=some (.int .i64 t.k)∧w'.cell? ⟨wr.heap.size,0,none⟩=some (.int .i64 t.kids[q].k)∧w'.cell? ⟨wr.heap.size,1,none⟩=some (.int .i64 t.kids[q].i)∧w'.cell? ⟨wr.heap.size,2,none⟩=some (.int .i64 t.kids[q].j)∧w'.cell? ⟨wr.heap.size,3,none⟩=some (.int .i64 t.kids[q].n)∧w'.cell? ⟨wr.heap.size,4,none⟩=some (.slice a' t.kids[q].kids.length cap'))
        (((with_reducible refine held_and ?_ d0);repeat (first | with_reducible assumption | with_reducible exact hH0 | with_reducible refine held_drew ?_ | with_reducible refine held_alloc ?_ _ | ((with_reducible refine held_set ?_ ?hh _);(case hh=>simp)))))
        (first | (go_at_call 65;refine(binds_any _ _ _).mono ?_;rintro e w' ⟨rfl,rfl⟩) | (go_at_call 79;((with_reducible refine Calls.mono CALLB.out ?_);rintro e wn ⟨⟨s2,rfl,hl2⟩,hbn⟩;obtain⟨a2,cap2,rfl,-,-⟩:=hl2.out;have HL2:=Lib.hid hl2;clear hl2;have hh:=held_call (held_drew hH0) hbn)) | (go_at_call 79;((with_reducible refine Calls.mono CALLA.out ?_);rintro e wn ⟨⟨⟨s2,rfl,hl2⟩,hbn⟩,hZ⟩;obtain⟨⟨g0,g1,g2,g3,g4⟩,k0,k1,k2,k3,k4⟩:=And.intro (five_cells hZ) (five_free hZ);obtain⟨a2,cap2,rfl,-,-⟩:=hl2.out;have HL2:=Lib.hid hl2;clear hl2;have hh:=held_call (held_drew (held_alloc hH0 _)) hbn)))
       ·have hW:Held wr t.kids[q] (.slice a' t.kids[q].kids.length cap') (wn.alloc (.cells #[.int .i64 u.k,.int .i64 u.i,.int .i64 u.j,.int .i64 u.n,.slice a2 u.kids.length cap2] 38)):=held_alloc hh _
        have hLW:LiesP (wn.alloc (.cells #[.int .i64 u.k,.int .i64 u.i,.int .i64 u.j,.int .i64 u.n,.slice a2 u.kids.length cap2] 38)) (Own wr.heap.size (wn.alloc (.cells #[.int .i64 u.k,.int .i64 u.i,.int .i64 u.j,.int .i64 u.n,.slice a2 u.kids.length cap2] 38))) u.kids (.slice a2 u.kids.length cap2):=((HL2.out.from (by simp)).later ((Below.refl _ _).alloc (Nat.le_refl _) _))
        have hN:(wn.alloc (.cells #[.int .i64 u.k,.int .i64 u.i,.int .i64 u.j,.int .i64 u.n,.slice a2 u.kids.length cap2] 38)).heap[wn.heap.size]? =some (boxOf u (.slice a2 u.kids.length cap2)):=alloc_new _ _
        clear hh hbn HL2
        generalize wn.alloc (.cells #[.int .i64 u.k,.int .i64 u.i,.int .i64 u.j,.int .i64 u.n,.slice a2 u.kids.length cap2] 38)=W at hW hLW hN ⊢
        have hdW:=desk_trans hdk (below_from (held_below hW) hsz)
        have hfW:=hfu.later (held_below hW)
        have hxq:q<xs.length:=by rw [HXL.out];exact hlt
        have hLF:=hfu.fresh hsz hLW
        obtain⟨-,-,q2⟩:=desk_blocks hdW
        obtain⟨y0,y1,y2,y3,y4⟩:=five_cells q2
        obtain⟨p0,p1,p2,p3,p4⟩:=five_cells hN
        obtain⟨x0,x1,x2,x3,x4⟩:=hfW.node q hxq
        obtain⟨cs,hcs⟩:=hfW.open'
        have f0:=open_unfrozen hcs (q * 5)
        have f1:=open_unfrozen hcs (q * 5+1)
        have f2:=open_unfrozen hcs (q * 5+2)
        have f3:=open_unfrozen hcs (q * 5+3)
        have f4:=open_unfrozen hcs (q * 5+4)
        have HFW:=Lib.hid hfW
        have HLF:=Lib.hid hLF
        have HFU:=Lib.hid hfu
        clear hcs hN hLW hW hfW hLF hfu hfine' d0 d1 d2 d3 d4 z0 z1 z2 z3 z4
        go_wp2
        go_roundw
        case rel=>exact⟨q+1,xs.set q (u,.slice a2 u.kids.length cap2),hlt,by go_num,by simp [Hid,HXL.out],by rw [Hid,optK_next hlt HXS.out HX2.out,List.map_set,take_set_next _ _ _ (by simpa using hxq)],HFW.out.fill hxq HFI2.out HLF.out,desk_put hdW (Nat.le_refl _) _ _ _⟩
        case measure=>simp [intOf];omega
       ·have hW:Held wr t.kids[q] (.slice a' t.kids[q].kids.length cap') (((((wn.setCell ⟨wr.heap.size+1,0,none⟩ (.int .i64 u.k)).setCell ⟨wr.heap.size+1,1,none⟩ (.int .i64 u.i)).setCell ⟨wr.heap.size+1,2,none⟩ (.int .i64 u.j)).setCell ⟨wr.heap.size+1,3,none⟩ (.int .i64 u.n)).setCell ⟨wr.heap.size+1,4,none⟩ (.slice a2 u.kids.length cap2)):=held_five hh _ _ _ _ _
        have hLW:LiesP (((((wn.setCell ⟨wr.heap.size+1,0,none⟩ (.int .i64 u.k)).setCell ⟨wr.heap.size+1,1,none⟩ (.int .i64 u.i)).setCell ⟨wr.heap.size+1,2,none⟩ (.int .i64 u.j)).setCell ⟨wr.heap.size+1,3,none⟩ (.int .i64 u.n)).setCell ⟨wr.heap.size+1,4,none⟩ (.slice a2 u.kids.length cap2)) (Own wr.heap.size (((((wn.setCell ⟨wr.heap.size+1,0,none⟩ (.int .i64 u.k)).setCell ⟨wr.heap.size+1,1,none⟩ (.int .i64 u.i)).setCell ⟨wr.heap.size+1,2,none⟩ (.int .i64 u.j)).setCell ⟨wr.heap.size+1,3,none⟩ (.int .i64 u.n)).setCell ⟨wr.heap.size+1,4,none⟩ (.slice a2 u.kids.length cap2))) u.kids (.slice a2 u.kids.length cap2):=liesP_five (HL2.out.from (B':=wr.heap.size+2) (by simp)) _ _ _ _ _
        have hN:(((((wn.setCell ⟨wr.heap.size+1,0,none⟩ (.int .i64 u.k)).setCell ⟨wr.heap.size+1,1,none⟩ (.int .i64 u.i)).setCell ⟨wr.heap.size+1,2,none⟩ (.int .i64 u.j)).setCell ⟨wr.heap.size+1,3,none⟩ (.int .i64 u.n)).setCell ⟨wr.heap.size+1,4,none⟩ (.slice a2 u.kids.length cap2)).heap[wr.heap.size+1]? =some (boxOf u (.slice a2 u.kids.length cap2)):=five_set hZ
        clear hh hbn HL2 hZ g0 g1 g2 g3 g4 k0 k1 k2 k3 k4
        generalize ((((wn.setCell ⟨wr.heap.size+1,0,none⟩ (.int .i64 u.k)).setCell ⟨wr.heap.size+1,1,none⟩ (.int .i64 u.i)).setCell ⟨wr.heap.size+1,2,none⟩ (.int .i64 u.j)).setCell ⟨wr.heap.size+1,3,none⟩ (.int .i64 u.n)).setCell ⟨wr.heap.size+1,4,none⟩ (.slice a2 u.kids.length cap2)=W at hW hLW hN ⊢
        have hdW:=desk_trans hdk (below_from (held_below hW) hsz)
        have hfW:=hfu.later (held_below hW)
        have hxq:q<xs.length:=by rw [HXL.out];exact hlt
        have hLF:=hfu.fresh hsz hLW
        obtain⟨-,-,q2⟩:=desk_blocks hdW
        obtain⟨y0,y1,y2,y3,y4⟩:=five_cells q2
        obtain⟨p0,p1,p2,p3,p4⟩:=five_cells hN
        obtain⟨x0,x1,x2,x3,x4⟩:=hfW.node q hxq
        obtain⟨cs,hcs⟩:=hfW.open'
        have f0:=open_unfrozen hcs (q * 5)
        have f1:=open_unfrozen hcs (q * 5+1)
        have f2:=open_unfrozen hcs (q * 5+2)
        have f3:=open_unfrozen hcs (q * 5+3)
        have f4:=open_unfrozen hcs (q * 5+4)
        have HFW:=Lib.hid hfW
        have HLF:=Lib.hid hLF
        have HFU:=Lib.hid hfu
        clear hcs hN hLW hW hfW hLF hfu hfine' d0 d1 d2 d3 d4 z0 z1 z2 z3 z4
        go_wp2
        go_roundw
        case rel=>exact⟨q+1,xs.set q (u,.slice a2 u.kids.length cap2),hlt,by go_num,by simp [Hid,HXL.out],by rw [Hid,optK_next hlt HXS.out HX2.out,List.map_set,take_set_next _ _ _ (by simpa using hxq)],HFW.out.fill hxq HFI2.out HLF.out,desk_put hdW (Nat.le_refl _) _ _ _⟩
        case measure=>simp [intOf];omega
       ·have hW:Held wr t.kids[q] (.slice a' t.kids[q].kids.length cap') (((((wn.setCell ⟨wr.heap.size+1,0,none⟩ (.int .i64 u.k)).setCell ⟨wr.heap.size+1,1,none⟩ (.int .i64 u.i)).setCell ⟨wr.heap.size+1,2,none⟩ (.int .i64 u.j)).setCell ⟨wr.heap.size+1,3,none⟩ (.int .i64 u.n)).setCell ⟨wr.heap.size+1,4,none⟩ (.slice a2 u.kids.length cap2)):=held_five hh _ _ _ _ _
        have hLW:LiesP (((((wn.setCell ⟨wr.heap.size+1,0,none⟩ (.int .i64 u.k)).setCell ⟨wr.heap.size+1,1,none⟩ (.int .i64 u.i)).setCell ⟨wr.heap.size+1,2,none⟩ (.int .i64 u.j)).setCell ⟨wr.heap.size+1,3,none⟩ (.int .i64 u.n)).setCell ⟨wr.heap.size+1,4,none⟩ (.slice a2 u.kids.length cap2)) (Own wr.heap.size (((((wn.setCell ⟨wr.heap.size+1,0,none⟩ (.int .i64 u.k)).setCell ⟨wr.heap.size+1,1,none⟩ (.int .i64 u.i)).setCell ⟨wr.heap.size+1,2,none⟩ (.int .i64 u.j)).setCell ⟨wr.heap.size+1,3,none⟩ (.int .i64 u.n)).setCell ⟨wr.heap.size+1,4,none⟩ (.slice a2 u.kids.length cap2))) u.kids (.slice a2 u.kids.length cap2):=liesP_five (HL2.out.from (B':=wr.heap.size+2) (by simp)) _ _ _ _ _
        have hN:(((((wn.setCell ⟨wr.heap.size+1,0,none⟩ (.int .i64 u.k)).setCell ⟨wr.heap.size+1,1,none⟩ (.int .i64 u.i)).setCell ⟨wr.heap.size+1,2,none⟩ (.int .i64 u.j)).setCell ⟨wr.heap.size+1,3,none⟩ (.int .i64 u.n)).setCell ⟨wr.heap.size+1,4,none⟩ (.slice a2 u.kids.length cap2)).heap[wr.heap.size+1]? =some (boxOf u (.slice a2 u.kids.length cap2)):=five_set hZ
        clear hh hbn HL2 hZ g0 g1 g2 g3 g4 k0 k1 k2 k3 k4
        generalize ((((wn.setCell ⟨wr.heap.size+1,0,none⟩ (.int .i64 u.k)).setCell ⟨wr.heap.size+1,1,none⟩ (.int .i64 u.i)).setCell ⟨wr.heap.size+1,2,none⟩ (.int .i64 u.j)).setCell ⟨wr.heap.size+1,3,none⟩ (.int .i64 u.n)).setCell ⟨wr.heap.size+1,4,none⟩ (.slice a2 u.kids.length cap2)=W at hW hLW hN ⊢
        have hdW:=desk_trans hdk (below_from (held_below hW) hsz)
        have hfW:=hfu.later (held_below hW)
        have hxq:q<xs.length:=by rw [HXL.out];exact hlt
        have hLF:=hfu.fresh hsz hLW
        obtain⟨-,-,q2⟩:=desk_blocks hdW
        obtain⟨y0,y1,y2,y3,y4⟩:=five_cells q2
        obtain⟨p0,p1,p2,p3,p4⟩:=five_cells hN
        obtain⟨x0,x1,x2,x3,x4⟩:=hfW.node q hxq
        obtain⟨cs,hcs⟩:=hfW.open'
        have f0:=open_unfrozen hcs (q * 5)
        have f1:=open_unfrozen hcs (q * 5+1)
        have f2:=open_unfrozen hcs (q * 5+2)
        have f3:=open_unfrozen hcs (q * 5+3)
        have f4:=open_unfrozen hcs (q * 5+4)
        have HFW:=Lib.hid hfW
        have HLF:=Lib.hid hLF
        have HFU:=Lib.hid hfu
        clear hcs hN hLW hW hfW hLF hfu hfine' d0 d1 d2 d3 d4 z0 z1 z2 z3 z4
        go_wp2
        go_roundw
        case rel=>exact⟨q+1,xs.set q (u,.slice a2 u.kids.length cap2),hlt,by go_num,by simp [Hid,HXL.out],by rw [Hid,optK_next hlt HXS.out HX2.out,List.map_set,take_set_next _ _ _ (by simpa using hxq)],HFW.out.fill hxq HFI2.out HLF.out,desk_put hdW (Nat.le_refl _) _ _ _⟩
        case measure=>simp [intOf];omega
     ·have:q=t.kids.length:=by omega
      subst this
      go_wp2_with fail
      (try simp only [Exit.inBlock,Exit.then])
      refine bodyPost_ret (results_cell_tmp rfl _ _ (w.heap.size+1) _ _ _ du rfl (five_set q1) hu1 (by cases du<;>first | rfl | exact hu2) size_term) rfl ?_
      have hxe:(xs.map (·.1)).take t.kids.length=xs.map (·.1):=by rw [←HXL.out,←List.length_map (f:=(·.1)),List.take_length]
      have hres:t.each (liftF k c) b=some (.mk t.k t.i t.j t.n (xs.map (·.1))):=by
       have:=HXS.out
       rw [List.take_length,hxe] at this
       rw [HEQ.out,this];rfl
      refine⟨((((((desk_under hdk).setCell (by simp) _).setCell (by simp) _).setCell (by simp) _).setCell (by simp) _).setCell (by simp) _),Or.inl ⟨_,_,hres,rfl,?_⟩⟩
      refine five_lies (hfu.lies (cap:=t.kids.length) (by rw [HXL.out];exact Nat.le_refl _) (by unfold maxLen;omega)) HXL.out _ _ _ _ _
end Go.Proofs.Ytgnllglbopaheaa

namespace Go.Proofs.Ytgnllglbopaheaa
open Go.RowKit
theorem heap_four (w:World) (a b c d:Obj):((((w.alloc a).alloc b).alloc c).alloc d).heap[w.heap.size]? =some a∧((((w.alloc a).alloc b).alloc c).alloc d).heap[w.heap.size+1]? =some b∧((((w.alloc a).alloc b).alloc c).alloc d).heap[w.heap.size+2]? =some c∧((((w.alloc a).alloc b).alloc c).alloc d).heap[w.heap.size+3]? =some d:=by
 obtain⟨h0,h1,h2,-⟩:=heap_three w a b c
 refine⟨?_,?_,?_,?_⟩
 ·rw [Below.heap_alloc _ _ _ (by simp<;>omega)];exact h0
 ·rw [Below.heap_alloc _ _ _ (by simp<;>omega)];exact h1
 ·rw [Below.heap_alloc _ _ _ (by simp)];exact h2
 ·have:=alloc_new (((w.alloc a).alloc b).alloc c) d
  simpa using this
theorem below_four (w:World) (a b c d:Obj):Below w.heap.size w ((((w.alloc a).alloc b).alloc c).alloc d):=((((Below.refl _ _).alloc (Nat.le_refl _) _).alloc (by simp) _).alloc (by simp<;>omega) _).alloc (by simp<;>omega) _
set_option maxHeartbeats 2000000 in
theorem lift_any (t:Tm) (k c:Int) (w:World) (s:Value) (hl:Lies w t.kids s) (hk:I64 k) (_:I64 c) (hd:t.deep≤100000):Calls Try.prog 67 #[tv t s,.int .i64 k,.int .i64 c] w (Makes (t.liftB k c) w):=by
 obtain⟨a,cap,S,rfl,hc,hm,-,-,-⟩:=hl.out
 have HL:=Lib.hid hl
 obtain⟨du,hu1,hu2⟩:=under_term
 have HB:=below_four w (.cells #[.int .i64 t.k,.int .i64 t.i,.int .i64 t.j,.int .i64 t.n,.slice a t.kids.length cap] 38) (.cells #[.int .i64 k] 3) (.cells #[.int .i64 c] 3) (.cells #[.int .i64 0,.int .i64 0,.int .i64 0,.int .i64 0,.slice none 0 0] 38)
 obtain⟨q0,q1,q2,q3⟩:=heap_four w (.cells #[.int .i64 t.k,.int .i64 t.i,.int .i64 t.j,.int .i64 t.n,.slice a t.kids.length cap] 38) (.cells #[.int .i64 k] 3) (.cells #[.int .i64 c] 3) (.cells #[.int .i64 0,.int .i64 0,.int .i64 0,.int .i64 0,.slice none 0 0] 38)
 clear hl
 unfold tv
 by_cases hk0:k<0
 ·have e1:decide (k<0)=true:=by simpa using hk0
  have hres:t.liftB k c=Tm.zero:=by unfold Tm.liftB;rw [if_pos (Or.inl hk0)]
  rw [hres]
  clear hres
  go_enter Try.func67,Try.ntmps67
  go_wp2
  refine bodyPost_ret (results_cell_row rfl _ _ (w.heap.size+3) _ _ _ du rfl q3 hu1 (by cases du<;>first | rfl | exact hu2) size_term) rfl ?_
  exact⟨.slice none 0 0,rfl,liesP_nil _ _,HB⟩
 by_cases hc0:c<0
 ·have e1:decide (k<0)=false:=by simpa using hk0
  have e2:decide (c<0)=true:=by simpa using hc0
  have hres:t.liftB k c=Tm.zero:=by unfold Tm.liftB;rw [if_pos (Or.inr (Or.inl hc0))]
  rw [hres]
  clear hres
  go_enter Try.func67,Try.ntmps67
  go_wp2
  refine bodyPost_ret (results_cell_row rfl _ _ (w.heap.size+3) _ _ _ du rfl q3 hu1 (by cases du<;>first | rfl | exact hu2) size_term) rfl ?_
  exact⟨.slice none 0 0,rfl,liesP_nil _ _,HB⟩
 have e1:decide (k<0)=false:=by simpa using hk0
 have e2:decide (c<0)=false:=by simpa using hc0
 cases hr:t.rightB with
 | false =>
  have hres:t.liftB k c=Tm.zero:=by unfold Tm.liftB;rw [if_pos (Or.inr (Or.inr hr))]
  rw [hres]
  clear hres
  go_enter Try.func67,Try.ntmps67
  go_wp2_with fail
  refine(right_any t _ _ (HL.out.keep HB)).mono ?_
  rw [hr]
  rintro e w2 ⟨rfl,hb2⟩
  have h3:=hb2.block (w.heap.size+3) (by have:=(Array.getElem?_eq_some_iff.1 q3).1;exact this)
  rw [q3] at h3
  obtain⟨z0,z1,z2,z3,z4⟩:=five_cells h3
  obtain⟨f0,f1,f2,f3,f4⟩:=five_free h3
  have hB2:=HB.trans (hb2.mono HB.size)
  clear hb2 q0 q1 q2 q3
  go_wp2
  refine bodyPost_ret (results_cell_row rfl _ _ (w.heap.size+3) _ _ _ du rfl (five_set h3) hu1 (by cases du<;>first | rfl | exact hu2) size_term) rfl ?_
  exact⟨.slice none 0 0,rfl,liesP_nil _ _,((((hB2.setCell (above3 _) _).setCell (above3 _) _).setCell (above3 _) _).setCell (above3 _) _).setCell (above3 _) _⟩
 | true =>
  have hlb:t.liftB k c=(t.each (liftF k c) 0).getD .zero:=by unfold Tm.liftB;rw [if_neg (by rw [hr];simp;omega)]
  have HLB:=Lib.hid hlb
  clear hlb
  go_enter Try.func67,Try.ntmps67
  go_wp2_with fail
  refine(right_any t _ _ (HL.out.keep HB)).mono ?_
  rw [hr]
  rintro e w2 ⟨rfl,hb2⟩
  have hB2:=HB.trans (hb2.mono HB.size)
  have key:∀ n o,n<w.heap.size+4→((((w.alloc (.cells #[.int .i64 t.k,.int .i64 t.i,.int .i64 t.j,.int .i64 t.n,.slice a t.kids.length cap] 38)).alloc (.cells #[.int .i64 k] 3)).alloc (.cells #[.int .i64 c] 3)).alloc (.cells #[.int .i64 0,.int .i64 0,.int .i64 0,.int .i64 0,.slice none 0 0] 38)).heap[n]? =some o→w2.heap[n]? =some o:=fun n o hn h=>by rw [hb2.block n (by simpa using hn)];exact h
  have h0:=key _ _ (by omega) q0
  have h1:=key _ _ (by omega) q1
  have h2:=key _ _ (by omega) q2
  have h3:=key _ _ (by omega) q3
  have hs2:w.heap.size+4≤w2.heap.size:=by have:=hb2.size;simpa using this
  obtain⟨d0,d1,d2,d3,d4⟩:=five_cells h0
  clear hb2 q0 q1 q2 q3 key
  go_wp2_with fail
  refine(eachl_any k c (w.heap.size+2) (w.heap.size+1) hk (by omega) t 0 w2 _ (HL.out.keep hB2) hr (by omega) (by omega) (by rw [cell_of_row _ _ _ _ _ _ h2];rfl) (by rw [cell_of_row _ _ _ _ _ _ h1];rfl)).mono ?_
  intro e w3 hg
  cases hx:t.each (liftF k c) 0 with
  | none =>
   rw [hx] at hg HLB
   obtain⟨⟨z,rfl⟩,hb3⟩:=hg.none
   have h4:=hb3.block (w.heap.size+3) (by omega)
   rw [h3] at h4
   obtain⟨z0,z1,z2,z3,z4⟩:=five_cells h4
   obtain⟨f0,f1,f2,f3,f4⟩:=five_free h4
   have hB3:=hB2.trans (hb3.mono hB2.size)
   have hs3:w.heap.size+1+1+1<w3.heap.size:=by have:=hb3.size;omega
   clear hb3 h0 h1 h2 h3
   go_wp2
   refine bodyPost_ret (results_cell_row rfl _ _ (w.heap.size+3) _ _ _ du rfl (five_alloc h4 _ _ _ _ _ _) hu1 (by cases du<;>first | rfl | exact hu2) size_term) rfl ?_
   rw [HLB.out]
   exact⟨.slice none 0 0,rfl,liesP_nil _ _,below_five_alloc hB3 hB3.size (above3 _) _ _ _ _ _ _⟩
  | some u =>
   rw [hx] at hg HLB
   obtain⟨⟨s2,rfl,hl2⟩,hb3⟩:=hg.some
   obtain⟨a2,cap2,rfl,-,-⟩:=hl2.out
   have h4:=hb3.block (w.heap.size+3) (by omega)
   rw [h3] at h4
   obtain⟨z0,z1,z2,z3,z4⟩:=five_cells h4
   obtain⟨f0,f1,f2,f3,f4⟩:=five_free h4
   have hB3:=hB2.trans (hb3.mono hB2.size)
   have hs3:w.heap.size+1+1+1<w3.heap.size:=by have:=hb3.size;omega
   clear hb3 h0 h1 h2 h3
   go_wp2
   refine bodyPost_ret (results_cell_row rfl _ _ (w.heap.size+3) _ _ _ du rfl (five_alloc h4 _ _ _ _ _ _) hu1 (by cases du<;>first | rfl | exact hu2) size_term) rfl ?_
   rw [HLB.out]
   exact⟨.slice a2 u.kids.length cap2,rfl,liesP_fives_alloc hl2 (by omega) (by omega) _ _ _ _ _ _,below_five_alloc hB3 hB3.size (above3 _) _ _ _ _ _ _⟩
end Go.Proofs.Ytgnllglbopaheaa

namespace Go.Proofs.Ytgnllglbopaheaa
open Go.RowKit
theorem results_c2 {P:Program} {fn:Func} {p q r:Tmp} {ty:TypeId} (h:fn.results=#[.cell p ty,.tmp q,.tmp r]) (tmps:Array Value) (w:World) (g:Nat) (t:TypeId) (cs:Array Value) (fr:Nat × Nat) (d:TypeDesc)
 (hp:tmps.getD p undef=.pointer (some ⟨g,0,none⟩)) (hg:w.heap[g]? =some (.cells cs t fr))
 (hu:P.underlying ty=some d) (hd:(match d with | .struct _ | .array _ _=>true | _=>false)=true) (hi:(P.info? ty).map (·.size)=some cs.size) :
 (results fn tmps).run P w=.ok (.tuple #[.agg cs,tmps.getD q undef,tmps.getD r undef]) w:=by
 have hp':tmps[p]?.getD undef=.pointer (some ⟨g,0,none⟩):=by simpa using hp
 simp [results,h,hp',asAddr,run_loadVar_row w g t ty cs fr d hg hu hd hi]
def AtIs (l:List En) (k:Int) (U:Tm) (I:Int) (B:Bool):Prop :=
 (B=true∧∃ (q:Nat) (hq:q<l.length),k=(q:Int)∧rightC l=true∧U=(l[l.length-1-q]).a.liftB ((q:Int)+1) 0∧I=(l[l.length-1-q]).i) ∨
 (B=false∧¬ (0≤k∧k<l.length∧rightC l=true)∧U=.zero∧I=0)
def GivesC (U:Tm) (I:Int) (B:Bool) (w:World) (e:Ending) (w':World):Prop:=∃ s':Value,e=.returned (.tuple #[tv U s',.int .i64 I,.bool B])∧LiesP w' (Own w.heap.size w') U.kids s'∧Below w.heap.size w w'
theorem bn_drew {w w':World} {g:Nat} {e:En} {s:Value} (h:Kept w w'∧BNode w' g e s):Kept w w'.drew∧w'.drew.cell? ⟨g,0,none⟩=some (.int .i64 e.a.k)∧w'.drew.cell? ⟨g,1,none⟩=some (.int .i64 e.a.i)∧w'.drew.cell? ⟨g,2,none⟩=some (.int .i64 e.a.j)∧w'.drew.cell? ⟨g,3,none⟩=some (.int .i64 e.a.n)∧w'.drew.cell? ⟨g,4,none⟩=some (s)∧w'.drew.cell? ⟨g,5,none⟩=some (.int .i64 e.i):=⟨kept_drew h.1,h.2⟩
theorem bn_call {w w' wn:World} {g:Nat} {e:En} {s:Value} (h:Kept w w'∧w'.cell? ⟨g,0,none⟩=some (.int .i64 e.a.k)∧w'.cell? ⟨g,1,none⟩=some (.int .i64 e.a.i)∧w'.cell? ⟨g,2,none⟩=some (.int .i64 e.a.j)∧w'.cell? ⟨g,3,none⟩=some (.int .i64 e.a.n)∧w'.cell? ⟨g,4,none⟩=some (s)∧w'.cell? ⟨g,5,none⟩=some (.int .i64 e.i)) (hb:Below w'.heap.size w' wn):Kept w wn∧wn.cell? ⟨g,0,none⟩=some (.int .i64 e.a.k)∧wn.cell? ⟨g,1,none⟩=some (.int .i64 e.a.i)∧wn.cell? ⟨g,2,none⟩=some (.int .i64 e.a.j)∧wn.cell? ⟨g,3,none⟩=some (.int .i64 e.a.n)∧wn.cell? ⟨g,4,none⟩=some (s)∧wn.cell? ⟨g,5,none⟩=some (.int .i64 e.i):=⟨kept_call h.1 hb,BNode.keep h.2 hb⟩
theorem bn_five {w w':World} {g r:Nat} {e:En} {s:Value} (h:Kept w w'∧w'.cell? ⟨g,0,none⟩=some (.int .i64 e.a.k)∧w'.cell? ⟨g,1,none⟩=some (.int .i64 e.a.i)∧w'.cell? ⟨g,2,none⟩=some (.int .i64 e.a.j)∧w'.cell? ⟨g,3,none⟩=some (.int .i64 e.a.n)∧w'.cell? ⟨g,4,none⟩=some (s)∧w'.cell? ⟨g,5,none⟩=some (.int .i64 e.i)) (hr:w.heap.size≤r) (hne:g≠r) (v0 v1 v2 v3 v4:Value):Kept w (five w' r v0 v1 v2 v3 v4)∧(five w' r v0 v1 v2 v3 v4).cell? ⟨g,0,none⟩=some (.int .i64 e.a.k)∧(five w' r v0 v1 v2 v3 v4).cell? ⟨g,1,none⟩=some (.int .i64 e.a.i)∧(five w' r v0 v1 v2 v3 v4).cell? ⟨g,2,none⟩=some (.int .i64 e.a.j)∧(five w' r v0 v1 v2 v3 v4).cell? ⟨g,3,none⟩=some (.int .i64 e.a.n)∧(five w' r v0 v1 v2 v3 v4).cell? ⟨g,4,none⟩=some (s)∧(five w' r v0 v1 v2 v3 v4).cell? ⟨g,5,none⟩=some (.int .i64 e.i):=by
 have hc:∀ q,(five w' r v0 v1 v2 v3 v4).cell? ⟨g,q,none⟩=w'.cell? ⟨g,q,none⟩:=fun q=>World.cell?_of_block (a:=⟨g,q,none⟩) (five_other _ _ _ _ _ _ _ hne)
 exact⟨below_five h.1 hr _ _ _ _ _,(hc 0).trans h.2.1,(hc 1).trans h.2.2.1,(hc 2).trans h.2.2.2.1,(hc 3).trans h.2.2.2.2.1,(hc 4).trans h.2.2.2.2.2.1,(hc 5).trans h.2.2.2.2.2.2⟩
def ka0:Oper:={dst:=some 30,op:=Go.Op.fieldAddr 61 (Go.Operand.tmp 7) 0,type:=0,pos := "ctx.go:29",after:=#[],guard:=none}
def ka1:Oper:={dst:=some 31,op:=Go.Op.load 38 (Go.Operand.tmp 30),type:=38,pos := "ctx.go:29",after:=#[{on:=0,ground:=Go.Ground.data}],guard:=none}
def ka2:Oper:={dst:=some 32,op:=Go.Op.move (Go.Operand.tmp 1),type:=3,pos := "ctx.go:29",after:=#[],guard:=none}
def ka3:Oper:={dst:=some 33,op:=Go.Op.binOp Go.BinOp.add 3 (Go.Operand.tmp 32) (Go.Operand.const (Go.Value.int Go.IntKind.i64 1)) 3,type:=3,pos := "ctx.go:29",after:=#[{on:=2,ground:=Go.Ground.data}],guard:=none}
def ka4:Oper:={dst:=some 34,op:=Go.Op.call {callee:=Go.Callee.value (Go.Operand.func 67),args:=#[Go.Operand.tmp 31,Go.Operand.tmp 33,Go.Operand.const (Go.Value.int Go.IntKind.i64 0)],argTypes:=#[38,3,3] },type:=38,pos := "ctx.go:29",after:=#[{on:=1,ground:=Go.Ground.data},{on:=3,ground:=Go.Ground.data}],guard:=none}
def ka5:Oper:={dst:=some 35,op:=Go.Op.fieldAddr 61 (Go.Operand.tmp 7) 1,type:=0,pos := "ctx.go:29",after:=#[{on:=7,ground:=Go.Ground.gcOnly Go.Departure.lateStores}],guard:=none}
def ka6:Oper:={dst:=some 36,op:=Go.Op.load 3 (Go.Operand.tmp 35),type:=3,pos := "ctx.go:29",after:=#[{on:=5,ground:=Go.Ground.data},{on:=7,ground:=Go.Ground.gcOnly Go.Departure.lateStores}],guard:=none}
def ka7:Oper:={dst:=none,op:=Go.Op.store 38 (Go.Operand.tmp 4) (Go.Operand.tmp 34),type:=0,pos := "ctx.go:29",after:=#[{on:=4,ground:=Go.Ground.data},{on:=4,ground:=Go.Ground.chain},{on:=0,ground:=Go.Ground.phase},{on:=1,ground:=Go.Ground.phase},{on:=2,ground:=Go.Ground.phase},{on:=3,ground:=Go.Ground.phase},{on:=4,ground:=Go.Ground.phase},{on:=5,ground:=Go.Ground.textOnly Go.Departure.lateStores},{on:=6,ground:=Go.Ground.textOnly Go.Departure.lateStores}],guard:=none}
def ka8:Oper:={dst:=some 5,op:=Go.Op.assign (Go.Operand.tmp 36),type:=3,pos := "ctx.go:29",after:=#[{on:=6,ground:=Go.Ground.data},{on:=7,ground:=Go.Ground.chain},{on:=0,ground:=Go.Ground.phase},{on:=1,ground:=Go.Ground.phase},{on:=2,ground:=Go.Ground.phase},{on:=3,ground:=Go.Ground.phase},{on:=4,ground:=Go.Ground.phase},{on:=5,ground:=Go.Ground.phase},{on:=6,ground:=Go.Ground.phase},{on:=7,ground:=Go.Ground.phase}],guard:=none}
def ka9:Oper:={dst:=some 6,op:=Go.Op.assign (Go.Operand.const (Go.Value.bool true)),type:=4,pos := "ctx.go:29",after:=#[{on:=8,ground:=Go.Ground.chain},{on:=0,ground:=Go.Ground.phase},{on:=1,ground:=Go.Ground.phase},{on:=2,ground:=Go.Ground.phase},{on:=3,ground:=Go.Ground.phase},{on:=4,ground:=Go.Ground.phase},{on:=5,ground:=Go.Ground.phase},{on:=6,ground:=Go.Ground.phase},{on:=7,ground:=Go.Ground.phase},{on:=8,ground:=Go.Ground.phase}],guard:=none}
set_option maxRecDepth 20000 in
set_option maxHeartbeats 4000000 in
theorem ctxat_any (l:List En) (k:Int) (w:World) (s:Value) (U:Tm) (I:Int) (B:Bool) (hl:LiesE w l s) (hA:AtIs l k U I B) (hlen:l.length≤100000) (hd:∀ u ∈ l,u.a.deep≤100000):Calls Try.prog 51 #[s,.int .i64 k] w (GivesC U I B w):=by
 obtain⟨a,cap,S,rfl,hc,hmx,hf,hn,hk⟩:=hl.out
 unfold maxLen at hmx
 obtain⟨du,hu1,hu2⟩:=under_term
 have hb0:Below w.heap.size w (w.alloc (.cells #[.int .i64 0,.int .i64 0,.int .i64 0,.int .i64 0,.slice none 0 0] 38)):=(Below.refl _ _).alloc (Nat.le_refl _) _
 have hz0:=alloc_new w (.cells #[.int .i64 0,.int .i64 0,.int .i64 0,.int .i64 0,.slice none 0 0] 38)
 have HLE:=Lib.hid (hl.keep hb0)
 have HN:=Lib.hid hn
 have HK:=Lib.hid hk
 have HDA:=Lib.hid hd
 clear hn hk hl hf hd
 rcases hA with ⟨rfl,q,hq,rfl,hr,hU,rfl⟩ | ⟨rfl,hno,rfl,rfl⟩
 ·have e1:decide ((q:Int)<0)=false:=decide_eq_false (by omega)
  have e2:decide ((l.length:Int)≤(q:Int))=false:=decide_eq_false (by omega)
  have e3:decide (l.length≤q)=false:=decide_eq_false (by omega)
  have HR:=Lib.hid hr
  have HU:=Lib.hid hU.symm
  clear hr hU
  have hj:l.length-1-q<l.length:=by omega
  obtain⟨b,o,rfl,hx⟩:=HN.out (l.length-1-q) hj
  have hqq:=HK.out (l.length-1-q) hj
  have HDP:=Lib.hid (HDA.out _ (List.getElem_mem hj))
  obtain⟨e,he⟩:∃ e,l[l.length-1-q]=e:=⟨_,rfl⟩
  rw [he] at hx hqq HU HDP ⊢
  obtain⟨a',cap',S',hS,-⟩:=hqq.out
  rw [hS] at hx hqq
  have HX:=Lib.hid hx
  have HQ:=Lib.hid hqq
  have HIQ:=Lib.hid (show I64 ((q:Int)+1) by unfold I64;omega)
  have HI0:=Lib.hid (show I64 0 by unfold I64;omega)
  clear hx hqq hS he
  go_enter Try.func51,Try.ntmps51
  go_wp2_with fail
  refine(ctxright_any l _ _ HLE.out).mono ?_
  rw [HR.out]
  rintro ee w1 ⟨rfl,hb1⟩
  have hb01:=below_call hb0 hb1 hb0.size
  have hz1:=(hb1.block w.heap.size (block_lt hz0)).trans hz0
  have hsz1:w.heap.size<w1.heap.size:=block_lt hz1
  obtain⟨x0,x1,x2,x3,x4,x5⟩:=HX.out.below hb01 HX.out.lt
  clear hb1 hb0 hz0
  go_upto_region 4 with fail
  have hX:=bnode_new w1 e (.slice a' e.a.kids.length cap')
  have hkV:Kept w (w1.alloc (.cells #[.int .i64 e.a.k,.int .i64 e.a.i,.int .i64 e.a.j,.int .i64 e.a.n,(.slice a' e.a.kids.length cap'),.int .i64 e.i] 61)):=Below.alloc hb01 hb01.size _
  have hzV:(w1.alloc (.cells #[.int .i64 e.a.k,.int .i64 e.a.i,.int .i64 e.a.j,.int .i64 e.a.n,(.slice a' e.a.kids.length cap'),.int .i64 e.i] 61)).heap[w.heap.size]? =some (.cells #[.int .i64 0,.int .i64 0,.int .i64 0,.int .i64 0,.slice none 0 0] 38 (0,0)):=by rw [Below.heap_alloc _ _ _ (by exact hsz1)];exact hz1
  obtain⟨g,hg⟩:∃ g,w1.heap.size=g:=⟨_,rfl⟩
  have HNE:=Lib.hid (show g≠w.heap.size by omega)
  rw [hg] at hX ⊢
  clear x0 x1 x2 x3 x4 x5 hb01 hz1
  generalize w1.alloc (.cells #[.int .i64 e.a.k,.int .i64 e.a.i,.int .i64 e.a.j,.int .i64 e.a.n,(.slice a' e.a.kids.length cap'),.int .i64 e.i] 61)=V at hX hkV hzV ⊢
  have hS0:Kept w V∧BNode V g e (.slice a' e.a.kids.length cap'):=⟨hkV,hX⟩
  have hzx:V.drew.heap[w.heap.size]? =some (.cells #[.int .i64 0,.int .i64 0,.int .i64 0,.int .i64 0,.slice none 0 0] 38 (0,0)):=hzV
  obtain⟨x0,x1,x2,x3,x4,x5⟩:=hX
  refine wp_region_held_drew (S:=fun w'=>Kept w w'∧w'.cell? ⟨g,0,none⟩=some (.int .i64 e.a.k)∧w'.cell? ⟨g,1,none⟩=some (.int .i64 e.a.i)∧w'.cell? ⟨g,2,none⟩=some (.int .i64 e.a.j)∧w'.cell? ⟨g,3,none⟩=some (.int .i64 e.a.n)∧w'.cell? ⟨g,4,none⟩=some ((.slice a' e.a.kids.length cap'))∧w'.cell? ⟨g,5,none⟩=some (.int .i64 e.i)) (by kernel_rfl) ?_ (fun hHeld=>?_)
  ·(try dsimp only)
   (first | exact hS7 | exact hS4 | exact bn_drew hS0)
  generalize V.drew=wx at hHeld hzx ⊢
  have eW:IntKind.i64.wrap ((q:Int)+1)=(q:Int)+1:=IntWalk.i64_in _ (by omega)
  clear hzV hkV hS0 x0 x1 x2 x3 x4 x5
  refine take_at 0 30 ka0 (v:=?_) (Or.inl ⟨by rfl,?_⟩) ?_
  rotate_left 1
  ·((intro w hSw;(try dsimp only at hSw);unfold ka0;go_simp)<;>with_reducible rfl)
  (try simp only [Act.put,List.setIfInBounds_toArray,List.set_cons_zero,List.set_cons_succ])
  refine take_at 1 31 ka1 (v:=?_) (Or.inl ⟨by rfl,?_⟩) ?_
  rotate_left 1
  ·((intro w hSw;(try dsimp only at hSw);unfold ka1;go_simp)<;>with_reducible rfl)
  (try simp only [Act.put,List.setIfInBounds_toArray,List.set_cons_zero,List.set_cons_succ])
  refine take_at 2 32 ka2 (v:=?_) (Or.inl ⟨by rfl,?_⟩) ?_
  rotate_left 1
  ·((intro w hSw;(try dsimp only at hSw);unfold ka2;go_simp)<;>with_reducible rfl)
  (try simp only [Act.put,List.setIfInBounds_toArray,List.set_cons_zero,List.set_cons_succ])
  refine take_at 3 33 ka3 (v:=?_) (Or.inl ⟨by rfl,?_⟩) ?_
  rotate_left 1
  ·((intro w hSw;(try dsimp only at hSw);unfold ka3;go_simp)<;>with_reducible rfl)
  (try simp only [Act.put,List.setIfInBounds_toArray,List.set_cons_zero,List.set_cons_succ])
  refine take_at 5 35 ka5 (v:=?_) (Or.inl ⟨by rfl,?_⟩) ?_
  rotate_left 1
  ·((intro w hSw;(try dsimp only at hSw);unfold ka5;go_simp)<;>with_reducible rfl)
  (try simp only [Act.put,List.setIfInBounds_toArray,List.set_cons_zero,List.set_cons_succ])
  refine take_at 6 36 ka6 (v:=?_) (Or.inl ⟨by rfl,?_⟩) ?_
  rotate_left 1
  ·((intro w hSw;(try dsimp only at hSw);unfold ka6;go_simp)<;>with_reducible rfl)
  (try simp only [Act.put,List.setIfInBounds_toArray,List.set_cons_zero,List.set_cons_succ])
  refine wpAnyH_ready (rs:=[4]) (by kernel_rfl) (by simp) ?_
  refine AllReadyH.cons (o:=ka4) rfl (fun K hK=>?_) ?_
  ·unfold ka4
   go_simp
   (go_at_call 67;(with_reducible refine Calls.mono (lift_any e.a _ _ _ _ (kept_lies hHeld.1 HQ.out) HIQ.out HI0.out HDP.out) ?_);rw [HU.out];rintro ee wn ⟨s2,rfl,hl2,hbn⟩;obtain⟨a2,cap2,rfl,-,-⟩:=hl2.out;have hS4:=bn_call hHeld hbn;have HL2:=Lib.hid hl2;have hz:=(hbn.block w.heap.size (block_lt hzx)).trans hzx;have hlt2:=block_lt hzx;clear hbn hl2 hHeld;obtain⟨z0,z1,z2,z3,z4⟩:=five_cells hz;obtain⟨r0,r1,r2,r3,r4⟩:=five_free hz)
   refine hK.out _ _ ?_ (fun hHeld=>?_)
   ·(try dsimp only)
    (first | exact hS7 | exact hS4 | exact bn_drew hS0)
   clear hK K
   (try simp only [Act.put,List.setIfInBounds_toArray,List.set_cons_zero,List.set_cons_succ])
   refine wpAnyH_ready (rs:=[7]) (by kernel_rfl) (by simp) ?_
   refine AllReadyH.cons (o:=ka7) rfl (fun K hK=>?_) ?_
   ·unfold ka7
    go_simp
    have hS7:=bn_five hHeld (Nat.le_refl _) HNE.out (.int .i64 U.k) (.int .i64 U.i) (.int .i64 U.j) (.int .i64 U.n) (.slice a2 U.kids.length cap2)
    (try clear hHeld)
    refine hK.out _ _ ?_ (fun hHeld=>?_)
    ·(try dsimp only)
     (first | exact hS7 | exact hS4 | exact bn_drew hS0)
    clear hK K
    (try simp only [Act.put,List.setIfInBounds_toArray,List.set_cons_zero,List.set_cons_succ])
    refine take_at 8 5 ka8 (v:=?_) (Or.inl ⟨by rfl,?_⟩) ?_
    rotate_left 1
    ·((intro w hSw;(try dsimp only at hSw);unfold ka8;go_simp)<;>with_reducible rfl)
    (try simp only [Act.put,List.setIfInBounds_toArray,List.set_cons_zero,List.set_cons_succ])
    refine take_at 9 6 ka9 (v:=?_) (Or.inl ⟨by rfl,?_⟩) ?_
    rotate_left 1
    ·((intro w hSw;(try dsimp only at hSw);unfold ka9;go_simp)<;>with_reducible rfl)
    (try simp only [Act.put,List.setIfInBounds_toArray,List.set_cons_zero,List.set_cons_succ])
    refine wpAnyH_done (by kernel_rfl) ?_ _
    go_wp2_with fail
    refine bodyPost_ret (results_c2 rfl _ _ w.heap.size _ _ _ du rfl (five_set hz) hu1 (by cases du<;>first | rfl | exact hu2) size_term) rfl ?_
    exact⟨_,rfl,liesP_fives HL2.out hlt2 (by omega) _ _ _ _ _,hHeld.1⟩
   exact AllReadyH.nil
  exact AllReadyH.nil
 ·have H3:Hid (GivesC .zero 0 false w (.returned (.tuple #[tv .zero (.slice none 0 0),.int .i64 0,.bool false])) (w.alloc (.cells #[.int .i64 0,.int .i64 0,.int .i64 0,.int .i64 0,.slice none 0 0] 38))):=⟨_,rfl,liesP_nil _ _,hb0⟩
  by_cases h1:k<0
  ·have e1:decide (k<0)=true:=decide_eq_true h1
   go_enter Try.func51,Try.ntmps51
   go_wp2
   refine bodyPost_ret (results_c2 rfl _ _ w.heap.size _ _ _ du rfl hz0 hu1 (by cases du<;>first | rfl | exact hu2) size_term) rfl ?_
   exact H3
  have e1:decide (k<0)=false:=decide_eq_false h1
  by_cases h2:(l.length:Int)≤k
  ·have e2:decide ((l.length:Int)≤k)=true:=decide_eq_true h2
   go_enter Try.func51,Try.ntmps51
   go_wp2
   refine bodyPost_ret (results_c2 rfl _ _ w.heap.size _ _ _ du rfl hz0 hu1 (by cases du<;>first | rfl | exact hu2) size_term) rfl ?_
   exact H3
  have e2:decide ((l.length:Int)≤k)=false:=decide_eq_false h2
  have HR:Hid (rightC l=false):=by
   show rightC l=false
   cases hr:rightC l with
   | false=>rfl
   | true=>exact absurd ⟨by omega,by omega,hr⟩ hno
  clear hno
  go_enter Try.func51,Try.ntmps51
  go_wp2_with fail
  refine(ctxright_any l _ _ HLE.out).mono ?_
  rw [HR.out]
  rintro ee w1 ⟨rfl,hb1⟩
  have hb01:=below_call hb0 hb1 hb0.size
  have hz1:=(hb1.block w.heap.size (block_lt hz0)).trans hz0
  have hsz1:w.heap.size<w1.heap.size:=block_lt hz1
  obtain⟨z0,z1,z2,z3,z4⟩:=five_cells hz1
  obtain⟨r0,r1,r2,r3,r4⟩:=five_free hz1
  clear hb1 hb0 hz0
  go_wp2
  refine bodyPost_ret (results_c2 rfl _ _ w.heap.size _ _ _ du rfl (five_set hz1) hu1 (by cases du<;>first | rfl | exact hu2) size_term) rfl ?_
  exact⟨_,rfl,liesP_nil _ _,below_five hb01 (Nat.le_refl _) _ _ _ _ _⟩
end Go.Proofs.Ytgnllglbopaheaa

namespace Go.Proofs.Ytgnllglbopaheaa
open Go.RowKit
theorem cells6_zeros:∀ n:Nat,(cells6 (List.replicate n ((⟨.zero,0⟩:En),Value.slice none 0 0)))=(madeCells #[.int .i64 0,.int .i64 0,.int .i64 0,.int .i64 0,.slice none 0 0,.int .i64 0] (n * 6)).toList:=by
 intro n
 apply List.ext_getElem?
 intro j
 by_cases hj:j<n * 6
 ·have h5:j % 6<6:=Nat.mod_lt _ (by omega)
  have hd:j / 6<n:=by omega
  have e:j=j / 6 * 6+j % 6:=by omega
  have h1:=cells6_get (List.replicate n ((⟨.zero,0⟩:En),Value.slice none 0 0)) (j / 6) (by simpa using hd) (j % 6) h5
  rw [←e] at h1
  rw [h1]
  simp only [List.getElem_replicate]
  have hz:(madeCells #[Value.int .i64 0,.int .i64 0,.int .i64 0,.int .i64 0,.slice none 0 0,.int .i64 0] (n * 6)).toList[j]? =some (#[Value.int .i64 0,.int .i64 0,.int .i64 0,.int .i64 0,.slice none 0 0,.int .i64 0][j % 6]!):=by simp [madeCells,hj]
  rw [hz]
  generalize j % 6=q at h5
  match q,h5 with
  | 0,_=>rfl
  | 1,_=>rfl
  | 2,_=>rfl
  | 3,_=>rfl
  | 4,_=>rfl
  | 5,_=>rfl
 ·rw [List.getElem?_eq_none (by rw [cells6_length];simp;omega),List.getElem?_eq_none (by simp [madeCells];omega)]
theorem fullE_made {B:Nat} {w:World} {g n:Nat} (h:w.ownsRow B 61 6 (.slice (some ⟨g,0,none⟩) n n) n (madeCells #[.int .i64 0,.int .i64 0,.int .i64 0,.int .i64 0,.slice none 0 0,.int .i64 0] (n * 6)).toList) :
 FullE B w g (List.replicate n ((⟨.zero,0⟩:En),.slice none 0 0)):=by
 rw [←cells6_zeros] at h
 have hb:B≤g∧∃ cs,w.heap[g]? =some (.cells cs 61 (0,0)):=by
  obtain⟨-,⟨h1,-⟩ | ⟨g',cap,cur,h1,h2,h3,-⟩⟩:=h
  ·cases h1
  ·obtain rfl:g=g':=by simp only [Value.slice.injEq,Option.some.injEq,Addr.mk.injEq] at h1;exact h1.1.1
   exact⟨h2,cur,h3⟩
 refine⟨hb.1,hb.2,fun i hi=>?_,fun p hp=>?_,fun p hp=>?_⟩
 ·have cellq:∀ q,q<6→w.cell? ⟨g,i * 6+q,none⟩=[Value.int .i64 ((List.replicate n ((⟨.zero,0⟩:En),Value.slice none 0 0))[i]).1.a.k,.int .i64 ((List.replicate n ((⟨.zero,0⟩:En),Value.slice none 0 0))[i]).1.a.i,.int .i64 ((List.replicate n ((⟨.zero,0⟩:En),Value.slice none 0 0))[i]).1.a.j,.int .i64 ((List.replicate n ((⟨.zero,0⟩:En),Value.slice none 0 0))[i]).1.a.n,((List.replicate n ((⟨.zero,0⟩:En),Value.slice none 0 0))[i]).2,.int .i64 ((List.replicate n ((⟨.zero,0⟩:En),Value.slice none 0 0))[i]).1.i][q]?:=fun q hq=>by
   rw [h.cellAt (i * 6+q) (by simp at hi;omega)];exact cells6_get _ i hi q hq
  exact⟨cellq 0 (by omega),cellq 1 (by omega),cellq 2 (by omega),cellq 3 (by omega),cellq 4 (by omega),cellq 5 (by omega)⟩
 ·rw [(List.mem_replicate.1 hp).2];exact⟨zero_fine,by unfold I64;exact⟨by decide,by decide⟩⟩
 ·rw [(List.mem_replicate.1 hp).2];exact liesP_nil _ _
theorem bn_put6 {w w':World} {g r o:Nat} {e t:En} {s st:Value} (h:Kept w w'∧w'.cell? ⟨g,0,none⟩=some (.int .i64 e.a.k)∧w'.cell? ⟨g,1,none⟩=some (.int .i64 e.a.i)∧w'.cell? ⟨g,2,none⟩=some (.int .i64 e.a.j)∧w'.cell? ⟨g,3,none⟩=some (.int .i64 e.a.n)∧w'.cell? ⟨g,4,none⟩=some (s)∧w'.cell? ⟨g,5,none⟩=some (.int .i64 e.i)) (hr:w.heap.size≤r) (hne:g≠r):Kept w (put6 w' r o t st)∧(put6 w' r o t st).cell? ⟨g,0,none⟩=some (.int .i64 e.a.k)∧(put6 w' r o t st).cell? ⟨g,1,none⟩=some (.int .i64 e.a.i)∧(put6 w' r o t st).cell? ⟨g,2,none⟩=some (.int .i64 e.a.j)∧(put6 w' r o t st).cell? ⟨g,3,none⟩=some (.int .i64 e.a.n)∧(put6 w' r o t st).cell? ⟨g,4,none⟩=some (s)∧(put6 w' r o t st).cell? ⟨g,5,none⟩=some (.int .i64 e.i):=by
 have hc:∀ q,(put6 w' r o t st).cell? ⟨g,q,none⟩=w'.cell? ⟨g,q,none⟩:=fun q=>World.cell?_of_block (a:=⟨g,q,none⟩) (put6_other _ _ _ _ _ hne)
 exact⟨put6_below h.1 hr _ _ _,(hc 0).trans h.2.1,(hc 1).trans h.2.2.1,(hc 2).trans h.2.2.2.1,(hc 3).trans h.2.2.2.2.1,(hc 4).trans h.2.2.2.2.2.1,(hc 5).trans h.2.2.2.2.2.2⟩
theorem put5_below {B:Nat} {w w1:World} (h:Below B w w1) {g:Nat} (hg:B≤g) (o:Nat) (t:Tm) (s:Value):Below B w (put5 w1 g o t s):=by
 unfold put5
 exact((((h.setCell hg _).setCell hg _).setCell hg _).setCell hg _).setCell hg _
theorem open_free {w:World} {g:Nat} {cs:Array Value} {T:TypeId} (h:w.heap[g]? =some (.cells cs T (0,0))) (o:Nat) :
 w.frozen? ⟨g,o,none⟩=false∧w.frozen? ⟨g,o+1,none⟩=false∧w.frozen? ⟨g,o+2,none⟩=false∧w.frozen? ⟨g,o+3,none⟩=false∧w.frozen? ⟨g,o+4,none⟩=false∧w.frozen? ⟨g,o+5,none⟩=false :=
 ⟨open_unfrozen h _,open_unfrozen h _,open_unfrozen h _,open_unfrozen h _,open_unfrozen h _,open_unfrozen h _⟩
theorem take_set_map {α β:Type} (f:β→α) {xs:List β} {l:List α} {k:Nat} (hl:xs.length=l.length) (hk:k<l.length) (h:(xs.map f).take k=l.take k) {y:β} (hy:f y=l[k]):((xs.set k y).map f).take (k+1)=l.take (k+1):=by
 have hk1:k<(xs.set k y).length:=by simp;omega
 rw [List.take_succ_eq_append_getElem (by simpa using hk1),List.take_succ_eq_append_getElem hk]
 congr 1
 ·rw [←h];apply List.ext_getElem?;intro i
  by_cases hi:i<k
  ·simp [List.getElem?_take_of_lt hi,List.getElem?_set_ne (Nat.ne_of_gt hi)]
  ·simp [List.getElem?_take,hi]
 ·simp [hy]
end Go.Proofs.Ytgnllglbopaheaa

namespace Go.Proofs.Ytgnllglbopaheaa
open Go.RowKit
set_option maxRecDepth 20000 in
set_option maxHeartbeats 4000000 in
theorem copies_of (l:List Tm) (ih:∀ x ∈ l,∀ (w:World) (s:Value),Lies w x.kids s→Calls Try.prog 21 #[tv x s] w (Makes x w))
 (w:World) (s:Value) (hl:Lies w l s) (hlen:l.length≤10000000):Calls Try.prog 31 #[s] w (MakesAll l w):=by
 obtain⟨a,cap,S,rfl,hc,hmx,hf,hn,hk⟩:=hl.out
 unfold maxLen at hmx
 obtain⟨i0,hi,hz0,hz1,hz2⟩:=info_parts info_term
 have IH:=Lib.hid ih
 have HN:=Lib.hid hn
 have HK:=Lib.hid hk
 have HF:=Lib.hid hf
 have HI:=Lib.hid (And.intro hi (And.intro hz0 (And.intro hz1 hz2)))
 clear ih hn hk hl hf hi hz0 hz1 hz2
 by_cases h0:l.length=0
 ·obtain rfl:l=[]:=List.eq_nil_of_length_eq_zero h0
  go_enter Try.func31,Try.ntmps31
  go_wp2
  go_ret
  exact⟨_,rfl,liesP_nil _ _,Below.refl _ _⟩
 have e1:((l.length:Int)==0)=false:=by simpa using h0
 have e2:(l.length==0)=false:=by simpa using h0
 clear h0
 go_enter Try.func31,Try.ntmps31
 go_wp2_with (at_make;refine wpList_make_full _ rfl _ _ 36 rfl w.heap.size 38 i0 _ 5 (by kernel_rfl) HI.out.1 HI.out.2.1 HI.out.2.2.1 _ _ _ _ l.length rfl rfl rfl rfl ?bytes ?max ?base ?next)
 case bytes=>rw [HI.out.2.2.2];omega
 case max=>unfold maxLen;omega
 case base=>exact Nat.le_refl _
 case next =>
 intro w2 hown hgrow
 have hful:=full_made hown
 have hbel:Below w.heap.size w w2:=(Below.refl _ _).grown hgrow (Nat.le_refl _) (by simp)
 obtain⟨g,hg⟩:∃ g,w.heap.size=g:=⟨_,rfl⟩
 have HGE:=Lib.hid (show w.heap.size≤g by omega)
 (try rw [hg] at hful)
 (try rw [hg])
 have hful':Full w.heap.size w2 g (List.replicate l.length (Tm.zero,.slice none 0 0)):=by rw [hg];exact hful
 clear hown hgrow hful e1 e2
 have hbel':Below w.heap.size w w2:=hbel
 clear hbel
 have HG:=Lib.hid hg
 clear hg
 go_wp2_with fail
 go_loopw [14] (fun iv wr=>∃ (k:Nat) (xs:List (Tm × Value)),k≤l.length∧iv=.int .i64 k∧Hid (xs.length=l.length)∧Hid ((xs.map (·.1)).take k=l.take k)∧Full w.heap.size wr g xs∧Below w.heap.size w wr) (fun iv _=>l.length-(intOf iv).toNat)
 case atStart=>exact⟨0,_,Nat.zero_le _,rfl,List.length_replicate,rfl,hful',hbel'⟩
 case round =>
  clear hful' hbel'
  obtain⟨k,xs,hk,rfl,hxl,hxs,hfu,hb⟩:=hrel
  by_cases hlt:k<l.length
  ·obtain⟨b,o,rfl,hx⟩:=HN.out k hlt
   obtain⟨x0,x1,x2,x3,x4⟩:=hx.below hb hx.lt
   have hq:=(HK.out k hlt).keep hb
   obtain⟨a',cap',S',hS,-⟩:=hq.out
   rw [hS] at x4 hq
   have HXK:=Lib.hid (show k<xs.length by have:=hxl.out;omega)
   have HM:=Lib.hid (List.getElem_mem hlt)
   have hV:Below wr.heap.size wr (wr.alloc (.cells #[.int .i64 l[k].k,.int .i64 l[k].i,.int .i64 l[k].j,.int .i64 l[k].n,.slice a' l[k].kids.length cap'] 38)):=(Below.refl _ _).alloc (Nat.le_refl _) _
   have hqV:=hq.keep hV
   have HFV:=Lib.hid (hfu.later hV)
   have HKV:=Lib.hid (below_call hb hV hb.size)
   have HW:=Lib.hid hb.size
   clear hS hq hV hfu hb
   go_wp2_with fail
   refine(IH.out _ HM.out _ _ hqV).mono ?_
   generalize wr.alloc (.cells #[.int .i64 l[k].k,.int .i64 l[k].i,.int .i64 l[k].j,.int .i64 l[k].n,.slice a' l[k].kids.length cap'] 38)=V at HFV HKV hqV ⊢
   rintro ee wn ⟨s2,rfl,hl2,hbn⟩
   obtain⟨a2,cap2,rfl,-,-⟩:=hl2.out
   have hfn:=HFV.out.later hbn
   have HL2:=Lib.hid (HFV.out.fresh HKV.out.size hl2)
   have HKN:=Lib.hid (below_call HKV.out hbn HKV.out.size)
   obtain⟨z0,z1,z2,z3,z4⟩:=hfn.node k HXK.out
   obtain⟨cs,hcs⟩:=hfn.open'
   obtain⟨r0,r1,r2,r3,r4,-⟩:=open_free hcs (k * 5)
   have HFN:=Lib.hid hfn
   clear hfn hcs hbn hl2 hqV x0 x1 x2 x3 x4
   go_wp2_with fail
   have hFN:=HFN.out.fill (t:=l[k]) HXK.out (HF.out _ HM.out) HL2.out
   have hkE:=put5_below HKN.out HGE.out (k * 5) l[k] (.slice a2 l[k].kids.length cap2)
   clear z0 z1 z2 z3 z4 r0 r1 r2 r3 r4
   go_roundw
   case rel=>exact⟨k+1,xs.set k (l[k],.slice a2 l[k].kids.length cap2),by omega,by go_num,by show _=_;rw [List.length_set];exact hxl.out,take_set_map _ hxl.out hlt hxs.out rfl,hFN,hkE⟩
   case measure=>simp [intOf];omega
  ·obtain rfl:k=l.length:=by omega
   have hxs':xs.map (·.1)=l:=by
    have h:=hxs.out
    rw [List.take_of_length_le (by simp [hxl.out]),List.take_of_length_le (Nat.le_refl _)] at h
    exact h
   have hres:=hfu.lies (cap:=l.length) (by rw [hxl.out];exact Nat.le_refl _) (by unfold maxLen;omega)
   rw [hxs',hxl.out] at hres
   go_wp2_with fail
   go_ret
   exact⟨_,rfl,hres,hb⟩
set_option maxRecDepth 20000 in
set_option maxHeartbeats 4000000 in
theorem copy_big (t:Tm):∀ (w:World) (s:Value),Lies w t.kids s→t.size≤10000000→Calls Try.prog 21 #[tv t s] w (Makes t w):=by
 induction t using Tm.ind with
 | h t ih =>
  intro w s hl hsz
  obtain⟨a,cap,S,rfl,hc,hm,hf,hn,hk⟩:=hl.out
  rw [t.size_eq] at hsz
  have CP:∀ (w':World) (s':Value),Lies w' t.kids s'→Calls Try.prog 31 #[s'] w' (MakesAll t.kids w'):=fun w' s' h'=>copies_of t.kids (fun x hx w2 s2 h2=>ih x hx w2 s2 h2 (by have:=size_mem _ x hx;omega)) w' s' h' (by have:=len_sizes t.kids;omega)
  unfold tv
  unfold maxLen at hm
  obtain⟨du,hu1,hu2⟩:=under_term
  have HL:=Lib.hid hl
  replace CP:=Lib.hid CP
  have H0:=boxes_start w t (.slice a t.kids.length cap)
  clear ih hn hk hf hl
  go_enter Try.func21,Try.ntmps21
  go_wp2_with fail
  refine(CP.out _ _ (boxes_lies H0 HL.out)).mono ?_
  generalize (w.alloc (.cells #[.int .i64 t.k,.int .i64 t.i,.int .i64 t.j,.int .i64 t.n,.slice a t.kids.length cap] 38)).alloc (.cells #[.int .i64 0,.int .i64 0,.int .i64 0,.int .i64 0,.slice none 0 0] 38)=V at H0 ⊢
  rintro ee wn ⟨s2,rfl,hl2,hb2⟩
  obtain⟨a2,cap2,rfl,-,-⟩:=hl2.out
  have hs:=Below.size H0
  have hh:=boxes_call H0 hb2
  have hl3:LiesP wn (Own (w.heap.size+2) wn) t.kids (.slice a2 t.kids.length cap2):=hl2.from (by simpa using hs)
  have hbx:=boxes_block hh
  have hbo:wn.heap[w.heap.size]? =some (boxOf t (.slice a t.kids.length cap)):=by
   rw [Below.block hh _ (by omega),Below.heap_alloc _ _ _ (by simp)];exact alloc_new _ _
  obtain⟨x0,x1,x2,x3,x4,z0,z1,z2,z3,z4,f0,f1,f2,f3,f4⟩:=boxes_cells hh
  obtain⟨q0,q1,q2,q3,q4⟩:=five_free hbo
  have HL3:=Lib.hid hl3
  have HBX:Hid ((wn.setCell ⟨w.heap.size,4,none⟩ (.slice a2 t.kids.length cap2)).heap[w.heap.size+1]? =some (.cells #[.int .i64 0,.int .i64 0,.int .i64 0,.int .i64 0,.slice none 0 0] 38 (0,0))):=(Below.heap_setCell _ _ _ _ (by show w.heap.size+1≠w.heap.size;omega)).trans hbx
  have HBL:=Lib.hid (held_below (boxes_held hh))
  clear hl2 hb2 hl3 hbx hbo hh hs H0
  go_wp2
  refine bodyPost_ret (results_cell_row rfl _ _ (w.heap.size+1) _ _ _ du rfl (five_set HBX.out) hu1 (by cases du<;>first | rfl | exact hu2) size_term) rfl ?_
  refine⟨_,rfl,?_,?_⟩
  ·exact liesP_fives (liesP_set HL3.out (by omega) (Nat.le_refl _) _) (by omega) (by omega) _ _ _ _ _
  ·exact below_five (HBL.out.setCell (Nat.le_refl _) _) (by omega) _ _ _ _ _
theorem copy_any (t:Tm) (w:World) (s:Value) (hl:Lies w t.kids s) (h:t.size≤1000000):Calls Try.prog 21 #[tv t s] w (Makes t w):=copy_big t w s hl (by omega)
end Go.Proofs.Ytgnllglbopaheaa

namespace Go.Proofs.Ytgnllglbopaheaa
open Go.RowKit
theorem wpList_make_room {P:Program} (w:World) {ops:Array Oper} {rest:List Oper} {o:Oper} {a:Act} {Q:Exit→Act→World→Prop}
 (hg:o.guard=none) (l c:Operand) (t:TypeId) (hop:o.op=Op.makeSlice t l c)
 (e:TypeId) (i:TypeInfo) (z:Value) (size:Nat) (h1:P.underlying t=some (.slice e)) (h2:P.info? e=some i) (h3:i.zero=some z) (h4:i.size=size)
 (kl kc:IntKind) (L C:Int) (n m:Nat) (hl:a.eval l=.int kl L) (hc:a.eval c=.int kc C) (hL:L=(n:Int)) (hC:C=(m:Int)) (hnm:n≤m) (b2:i.bytes * m≤281474976710656) (b3:m≤maxLen)
 (hK:wpList P ops Q rest (a.put o.dst (.slice (some ⟨w.heap.size,0,none⟩) n m)) (w.alloc (.cells (madeCells z.cells (m * size)) e))) :
 wpList P ops Q (o::rest) a w:=by
 refine wpList_plain hg fun K hK'=>?_
 have h63':(m:Int)≤9223372036854775807:=by simp [maxLen] at b3;omega
 have hb':(i.bytes:Int) * (m:Int)≤281474976710656:=by
  have h:((i.bytes * m:Nat):Int)≤281474976710656:=by omega
  rwa [Int.natCast_mul] at h
 have hrun:=run_make (P:=P) w t e i z h1 h2 h3 kl kc n m (by omega) (by omega) hb' h63'
 simp only [Int.toNat_natCast,h4] at hrun
 subst hL
 subst hC
 unfold Oper.wp
 simp [execOp,hop,hl,hc,hrun,Result.andThen]
 exact hK' _ _ hK
def SizeE (w:World) (g N:Nat):Prop:=∃ cs,w.heap[g]? =some (.cells cs 61 (0,0))∧cs.size=N
theorem SizeE.later {w w':World} {g N:Nat} (h:SizeE w g N) (hb:Below w.heap.size w w'):SizeE w' g N:=by
 obtain⟨cs,h1,h2⟩:=h
 exact⟨cs,(hb.block g (Array.getElem?_eq_some_iff.1 h1).1).trans h1,h2⟩
theorem SizeE.put6 {w:World} {g N o:Nat} {t:En} {s:Value} (h:SizeE w g N):SizeE (put6 w g o t s) g N:=by
 obtain⟨cs,h1,h2⟩:=h
 exact⟨_,heap_setCell_same _ _ _ _ _ _ (put5_block _ _ _ h1),by simpa using h2⟩
theorem fullE_own {B g N n:Nat} {w:World} {xs:List (En × Value)} (h:FullE B w g xs) (hs:SizeE w g (N * 6)) (hn:n≤xs.length) (hnN:n≤N) (hN:N≤maxLen) :
 w.ownsRow B 61 6 (.slice (some ⟨g,0,none⟩) n N) n (cells6 (xs.take n)):=by
 obtain⟨cs,h1,h2⟩:=hs
 have hl:(xs.take n).length=n:=by simp;omega
 refine⟨by rw [cells6_length,hl],Or.inr ⟨g,N,cs,rfl,h.above,h1,hnN,hN,h2,?_⟩⟩
 apply List.ext_getElem?
 intro j
 by_cases hj:j<n * 6
 ·have h5:j % 6<6:=Nat.mod_lt _ (by omega)
  have hd:j / 6<n:=by omega
  have e:j=j / 6 * 6+j % 6:=by omega
  have h3:=cells6_get (xs.take n) (j / 6) (by omega) (j % 6) h5
  rw [←e] at h3
  rw [h3,List.getElem?_take_of_lt hj]
  have hc:cs.toList[j]? =w.cell? ⟨g,j,none⟩:=by rw [cell_of_row w g j cs _ _ h1];simp
  have hnode:=h.node (j / 6) (by omega)
  rw [hc]
  simp only [List.getElem_take]
  have hq:∀ q,q=j % 6→w.cell? ⟨g,j / 6 * 6+q,none⟩=w.cell? ⟨g,j,none⟩:=fun q hq=>by rw [hq,←e]
  generalize hqq:j % 6=q at h5
  rw [←hq q hqq.symm]
  match q,h5 with
  | 0,_=>exact hnode.c0
  | 1,_=>exact hnode.c1
  | 2,_=>exact hnode.c2
  | 3,_=>exact hnode.c3
  | 4,_=>exact hnode.c4
  | 5,_=>exact hnode.c5
 ·rw [List.getElem?_eq_none (by simp;omega),List.getElem?_eq_none (by rw [cells6_length,hl];omega)]
theorem fullE_made' {B g N n:Nat} {w:World} {xs:List (En × Value)} (h:FullE B w g xs) (hs:SizeE w g (N * 6)) (hn:n≤xs.length) (hnN:n≤N) (hN:N≤maxLen) :
 MadeE B w (.slice (some ⟨g,0,none⟩) n N) (xs.take n):=by
 have hl:(xs.take n).length=n:=by simp;omega
 refine⟨by rw [hl];exact fullE_own h hs hn hnN hN,fun p hp=>h.fine p (List.mem_of_mem_take hp),fun p hp=>?_⟩
 exact(h.kids p (List.mem_of_mem_take hp)).keep (fun _ _ _=>rfl) (fun b hb _=>⟨hb.1,by simp only [Value.ownBlock,ne_eq,Option.some.injEq];exact fun e=>hb.2 e.symm⟩)
def GivesRow (l:List En) (w:World) (e:Ending) (w':World):Prop:=∃ (s':Value) (ps:List (En × Value)),e=.returned s'∧MadeE w.heap.size w' s' ps∧ps.map (·.1)=l∧Below w.heap.size w w'
def en0:Oper:={dst:=some 19,op:=Go.Op.move (Go.Operand.tmp 3),type:=29,pos := "tree.go:28",after:=#[],guard:=none}
def en1:Oper:={dst:=some 20,op:=Go.Op.move (Go.Operand.tmp 4),type:=3,pos := "tree.go:28",after:=#[],guard:=none}
def en2:Oper:={dst:=some 21,op:=Go.Op.fieldAddr 61 (Go.Operand.tmp 5) 0,type:=0,pos := "tree.go:28",after:=#[],guard:=none}
def en3:Oper:={dst:=some 22,op:=Go.Op.load 38 (Go.Operand.tmp 21),type:=38,pos := "tree.go:28",after:=#[{on:=2,ground:=Go.Ground.data}],guard:=none}
def en4:Oper:={dst:=some 23,op:=Go.Op.call {callee:=Go.Callee.value (Go.Operand.func 21),args:=#[Go.Operand.tmp 22],argTypes:=#[38] },type:=38,pos := "tree.go:28",after:=#[{on:=3,ground:=Go.Ground.data}],guard:=none}
def en5:Oper:={dst:=some 24,op:=Go.Op.fieldAddr 61 (Go.Operand.tmp 5) 1,type:=0,pos := "tree.go:28",after:=#[],guard:=none}
def en6:Oper:={dst:=some 25,op:=Go.Op.load 3 (Go.Operand.tmp 24),type:=3,pos := "tree.go:28",after:=#[{on:=5,ground:=Go.Ground.data}],guard:=none}
def en7:Oper:={dst:=some 26,op:=Go.Op.build 61 #[(0,Go.Operand.tmp 23),(1,Go.Operand.tmp 25)],type:=61,pos := "tree.go:28",after:=#[{on:=4,ground:=Go.Ground.data},{on:=6,ground:=Go.Ground.data}],guard:=none}
def en8:Oper:={dst:=some 27,op:=Go.Op.indexAddr 29 (Go.Operand.tmp 19) (Go.Operand.tmp 20),type:=0,pos := "tree.go:28",after:=#[{on:=0,ground:=Go.Ground.data},{on:=1,ground:=Go.Ground.data},{on:=0,ground:=Go.Ground.phase},{on:=1,ground:=Go.Ground.phase},{on:=2,ground:=Go.Ground.phase},{on:=3,ground:=Go.Ground.phase},{on:=4,ground:=Go.Ground.phase},{on:=5,ground:=Go.Ground.phase},{on:=6,ground:=Go.Ground.phase},{on:=7,ground:=Go.Ground.phase}],guard:=none}
def en9:Oper:={dst:=none,op:=Go.Op.store 61 (Go.Operand.tmp 27) (Go.Operand.tmp 26),type:=0,pos := "tree.go:28",after:=#[{on:=8,ground:=Go.Ground.data},{on:=7,ground:=Go.Ground.data},{on:=4,ground:=Go.Ground.chain},{on:=0,ground:=Go.Ground.phase},{on:=1,ground:=Go.Ground.phase},{on:=2,ground:=Go.Ground.phase},{on:=3,ground:=Go.Ground.phase},{on:=4,ground:=Go.Ground.phase},{on:=5,ground:=Go.Ground.phase},{on:=6,ground:=Go.Ground.phase},{on:=7,ground:=Go.Ground.phase}],guard:=none}
theorem take_set_map2 {α β:Type} (f:β→α) {xs:List β} {l:List α} {k:Nat} (hx:k<xs.length) (hk:k<l.length) (h:(xs.map f).take k=l.take k) {y:β} (hy:f y=l[k]):((xs.set k y).map f).take (k+1)=l.take (k+1):=by
 have hk1:k<(xs.set k y).length:=by simp;omega
 rw [List.take_succ_eq_append_getElem (by simpa using hk1),List.take_succ_eq_append_getElem hk]
 congr 1
 ·rw [←h];apply List.ext_getElem?;intro i
  by_cases hi:i<k
  ·simp [List.getElem?_take_of_lt hi,List.getElem?_set_ne (Nat.ne_of_gt hi)]
  ·simp [List.getElem?_take,hi]
 ·simp [hy]
set_option maxRecDepth 20000 in
set_option maxHeartbeats 4000000 in
theorem entries_any (l:List En) (w:World) (s:Value) (hl:LiesE w l s) (hlen:l.length≤100000) (hsz:∀ x ∈ l,x.a.size≤1000000):Calls Try.prog 20 #[s] w (GivesRow l w):=by
 obtain⟨a,cap,S,rfl,hc,hmx,hf,hn,hk⟩:=hl.out
 unfold maxLen at hmx
 obtain⟨i0,hi,hz0,hz1,hz2⟩:=info_parts info_entry
 have HI:=Lib.hid (And.intro hi (And.intro hz0 (And.intro hz1 hz2)))
 have HN:=Lib.hid hn
 have HK:=Lib.hid hk
 have HF:=Lib.hid hf
 have HSA:=Lib.hid hsz
 clear hn hk hl hf hi hz0 hz1 hz2 hsz
 go_enter Try.func20,Try.ntmps20
 go_wp2_with (at_make;refine wpList_make_room _ rfl _ _ 29 rfl 61 i0 _ 6 (by kernel_rfl) HI.out.1 HI.out.2.1 HI.out.2.2.1 _ _ _ _ l.length (l.length+1) rfl rfl rfl ?hC ?hnm ?bytes ?max ?next)
 case hC=>simp
 case hnm=>omega
 case bytes=>rw [HI.out.2.2.2];omega
 case max=>unfold maxLen;omega
 have hown:=World.ownsRow_lit w (madeCells #[Value.int .i64 0,.int .i64 0,.int .i64 0,.int .i64 0,.slice none 0 0,.int .i64 0] ((l.length+1) * 6)) (e:=61) (size:=6) (l.length+1) (Nat.le_refl w.heap.size) (by unfold maxLen;omega) (size_madeCells _ _)
 have hblk:=alloc_new w (.cells (madeCells #[Value.int .i64 0,.int .i64 0,.int .i64 0,.int .i64 0,.slice none 0 0,.int .i64 0] ((l.length+1) * 6)) 61)
 have hbel:Below w.heap.size w (w.alloc (.cells (madeCells #[Value.int .i64 0,.int .i64 0,.int .i64 0,.int .i64 0,.slice none 0 0,.int .i64 0] ((l.length+1) * 6)) 61)):=(Below.refl _ _).alloc (Nat.le_refl _) _
 have hful:=fullE_made hown
 have hsz2:SizeE (w.alloc (.cells (madeCells #[Value.int .i64 0,.int .i64 0,.int .i64 0,.int .i64 0,.slice none 0 0,.int .i64 0] ((l.length+1) * 6)) 61)) w.heap.size ((l.length+1) * 6):=⟨_,hblk,size_madeCells _ _⟩
 clear hown hblk
 have HGE:=Lib.hid (Nat.le_refl w.heap.size)
 generalize w.alloc (.cells (madeCells #[Value.int .i64 0,.int .i64 0,.int .i64 0,.int .i64 0,.slice none 0 0,.int .i64 0] ((l.length+1) * 6)) 61)=w2 at hbel hful hsz2 ⊢
 go_loopw [14] (fun iv wr=>∃ (k:Nat) (xs:List (En × Value)),k≤l.length∧iv=.int .i64 k∧Hid (xs.length=l.length+1)∧Hid ((xs.map (·.1)).take k=l.take k)∧FullE w.heap.size wr w.heap.size xs∧SizeE wr w.heap.size ((l.length+1) * 6)∧Below w.heap.size w wr) (fun iv _=>l.length-(intOf iv).toNat)
 case atStart=>exact⟨0,_,Nat.zero_le _,rfl,List.length_replicate,rfl,hful,hsz2,hbel⟩
 case round =>
  clear hful hbel hsz2
  obtain⟨k,xs,hk,rfl,hxl,hxs,hfu,hse,hb⟩:=hrel
  by_cases hlt:k<l.length
  ·obtain⟨b,o,rfl,hx⟩:=HN.out k hlt
   have hx:=hx.below hb hx.lt
   have hq:=HK.out k hlt
   obtain⟨a',cap',S',hS,-⟩:=hq.out
   rw [hS] at hx hq
   have HQ:=Lib.hid hq
   have HXK:=Lib.hid (show k<xs.length by have:=hxl.out;omega)
   have HM:=Lib.hid (List.getElem_mem hlt)
   have HSZ:=Lib.hid (HSA.out _ HM.out)
   obtain⟨x0,x1,x2,x3,x4,x5⟩:=hx
   have hglt:w.heap.size<wr.heap.size:=hfu.lt
   clear hS hq
   go_upto_region 5 with fail
   have hX:=bnode_new wr l[k] (.slice a' l[k].a.kids.length cap')
   have hkV:Kept w (wr.alloc (.cells #[.int .i64 l[k].a.k,.int .i64 l[k].a.i,.int .i64 l[k].a.j,.int .i64 l[k].a.n,(.slice a' l[k].a.kids.length cap'),.int .i64 l[k].i] 61)):=Below.alloc hb hb.size _
   have hfV:=hfu.later (w':=wr.alloc (.cells #[.int .i64 l[k].a.k,.int .i64 l[k].a.i,.int .i64 l[k].a.j,.int .i64 l[k].a.n,(.slice a' l[k].a.kids.length cap'),.int .i64 l[k].i] 61)) ((Below.refl _ _).alloc (Nat.le_refl _) _)
   have hsV:=hse.later (w':=wr.alloc (.cells #[.int .i64 l[k].a.k,.int .i64 l[k].a.i,.int .i64 l[k].a.j,.int .i64 l[k].a.n,(.slice a' l[k].a.kids.length cap'),.int .i64 l[k].i] 61)) ((Below.refl _ _).alloc (Nat.le_refl _) _)
   obtain⟨ge,hge⟩:∃ ge,wr.heap.size=ge:=⟨_,rfl⟩
   have HNE:=Lib.hid (show ge≠w.heap.size by omega)
   rw [hge] at hX ⊢
   clear x0 x1 x2 x3 x4 x5 hb hfu hse hge hglt
   generalize wr.alloc (.cells #[.int .i64 l[k].a.k,.int .i64 l[k].a.i,.int .i64 l[k].a.j,.int .i64 l[k].a.n,(.slice a' l[k].a.kids.length cap'),.int .i64 l[k].i] 61)=V at hX hkV hfV hsV ⊢
   have hS0:Kept w V∧BNode V ge l[k] (.slice a' l[k].a.kids.length cap'):=⟨hkV,hX⟩
   have hfx:FullE w.heap.size V.drew w.heap.size xs:=hfV.later (Below.drew (Below.refl _ _))
   have hsx:SizeE V.drew w.heap.size ((l.length+1) * 6):=hsV.later (Below.drew (Below.refl _ _))
   have hwx:w.heap.size≤V.drew.heap.size:=hkV.size
   obtain⟨x0,x1,x2,x3,x4,x5⟩:=hX
   refine wp_region_held_drew (S:=fun w'=>Kept w w'∧w'.cell? ⟨ge,0,none⟩=some (.int .i64 l[k].a.k)∧w'.cell? ⟨ge,1,none⟩=some (.int .i64 l[k].a.i)∧w'.cell? ⟨ge,2,none⟩=some (.int .i64 l[k].a.j)∧w'.cell? ⟨ge,3,none⟩=some (.int .i64 l[k].a.n)∧w'.cell? ⟨ge,4,none⟩=some ((.slice a' l[k].a.kids.length cap'))∧w'.cell? ⟨ge,5,none⟩=some (.int .i64 l[k].i)) (by kernel_rfl) ?_ (fun hHeld=>?_)
   ·(try dsimp only)
    (first | exact hS7 | exact hS4 | exact bn_drew hS0)
   generalize V.drew=wx at hHeld hfx hsx hwx ⊢
   have HFU:=Lib.hid hfx
   have HSE:=Lib.hid hsx
   have HWX:=Lib.hid hwx
   clear hkV hfV hsV hS0 x0 x1 x2 x3 x4 x5 hfx hsx hwx
   refine take_at 0 19 en0 (v:=?_) (Or.inl ⟨by rfl,?_⟩) ?_
   rotate_left 1
   ·((intro w hSw;(try dsimp only at hSw);unfold en0;go_simp)<;>with_reducible rfl)
   (try simp only [Act.put,List.setIfInBounds_toArray,List.set_cons_zero,List.set_cons_succ])
   refine take_at 1 20 en1 (v:=?_) (Or.inl ⟨by rfl,?_⟩) ?_
   rotate_left 1
   ·((intro w hSw;(try dsimp only at hSw);unfold en1;go_simp)<;>with_reducible rfl)
   (try simp only [Act.put,List.setIfInBounds_toArray,List.set_cons_zero,List.set_cons_succ])
   refine take_at 2 21 en2 (v:=?_) (Or.inl ⟨by rfl,?_⟩) ?_
   rotate_left 1
   ·((intro w hSw;(try dsimp only at hSw);unfold en2;go_simp)<;>with_reducible rfl)
   (try simp only [Act.put,List.setIfInBounds_toArray,List.set_cons_zero,List.set_cons_succ])
   refine take_at 3 22 en3 (v:=?_) (Or.inl ⟨by rfl,?_⟩) ?_
   rotate_left 1
   ·((intro w hSw;(try dsimp only at hSw);unfold en3;go_simp)<;>with_reducible rfl)
   (try simp only [Act.put,List.setIfInBounds_toArray,List.set_cons_zero,List.set_cons_succ])
   refine take_at 5 24 en5 (v:=?_) (Or.inl ⟨by rfl,?_⟩) ?_
   rotate_left 1
   ·((intro w hSw;(try dsimp only at hSw);unfold en5;go_simp)<;>with_reducible rfl)
   (try simp only [Act.put,List.setIfInBounds_toArray,List.set_cons_zero,List.set_cons_succ])
   refine take_at 6 25 en6 (v:=?_) (Or.inl ⟨by rfl,?_⟩) ?_
   rotate_left 1
   ·((intro w hSw;(try dsimp only at hSw);unfold en6;go_simp)<;>with_reducible rfl)
   (try simp only [Act.put,List.setIfInBounds_toArray,List.set_cons_zero,List.set_cons_succ])
   refine wpAnyH_ready (rs:=[4]) (by kernel_rfl) (by simp) ?_
   refine AllReadyH.cons (o:=en4) rfl (fun K hK=>?_) ?_
   ·unfold en4
    go_simp
    (go_at_call 21;(with_reducible refine Calls.mono (copy_any l[k].a _ _ (kept_lies hHeld.1 HQ.out) HSZ.out) ?_);rintro ee wn ⟨s2,rfl,hl2,hbn⟩;obtain⟨a2,cap2,rfl,-,-⟩:=hl2.out;have hS4:=bn_call hHeld hbn;have hfn:=HFU.out.later hbn;have HSN:=Lib.hid (HSE.out.later hbn);have HL2:=Lib.hid (HFU.out.fresh HWX.out hl2);clear hbn hl2 hHeld;obtain⟨z0,z1,z2,z3,z4,z5⟩:=hfn.node k HXK.out;obtain⟨cs,hcs⟩:=hfn.open';obtain⟨r0,r1,r2,r3,r4,r5⟩:=open_free hcs (k * 6);have HFN:=Lib.hid hfn;clear hfn hcs)
    refine hK.out _ _ ?_ (fun hHeld=>?_)
    ·(try dsimp only)
     (first | exact hS7 | exact hS4 | exact bn_drew hS0)
    clear hK K
    (try simp only [Act.put,List.setIfInBounds_toArray,List.set_cons_zero,List.set_cons_succ])
    refine take_at 7 26 en7 (v:=?_) (Or.inl ⟨by rfl,?_⟩) ?_
    rotate_left 1
    ·((intro w hSw;(try dsimp only at hSw);unfold en7;go_simp)<;>with_reducible rfl)
    (try simp only [Act.put,List.setIfInBounds_toArray,List.set_cons_zero,List.set_cons_succ])
    refine take_at 8 27 en8 (v:=?_) (Or.inl ⟨by rfl,?_⟩) ?_
    rotate_left 1
    ·((intro w hSw;(try dsimp only at hSw);unfold en8;go_simp)<;>with_reducible rfl)
    (try simp only [Act.put,List.setIfInBounds_toArray,List.set_cons_zero,List.set_cons_succ])
    refine wpAnyH_ready (rs:=[9]) (by kernel_rfl) (by simp) ?_
    refine AllReadyH.cons (o:=en9) rfl (fun K hK=>?_) ?_
    ·unfold en9
     go_simp
     have hS7:=bn_put6 (o:=k * 6) (t:=l[k]) (st:=.slice a2 l[k].a.kids.length cap2) hHeld HGE.out HNE.out
     (try clear hHeld)
     refine hK.out _ _ ?_ (fun hHeld=>?_)
     ·(try dsimp only)
      (first | exact hS7 | exact hS4 | exact bn_drew hS0)
     clear hK K
     (try simp only [Act.put,List.setIfInBounds_toArray,List.set_cons_zero,List.set_cons_succ])
     refine wpAnyH_done (by kernel_rfl) ?_ _
     clear z0 z1 z2 z3 z4 z5 r0 r1 r2 r3 r4 r5
     have hFN:=HFN.out.fill HXK.out (HF.out _ HM.out) HL2.out
     have hSN:=HSN.out.put6 (o:=k * 6) (t:=l[k]) (s:=.slice a2 l[k].a.kids.length cap2)
     have hkE:=hHeld.1
     clear hHeld
     go_wp2_with fail
     go_roundw
     case rel=>exact⟨k+1,xs.set k (l[k],.slice a2 l[k].a.kids.length cap2),by omega,by go_num,by show _=_;rw [List.length_set];exact hxl.out,take_set_map2 _ HXK.out hlt hxs.out rfl,hFN,hSN,hkE⟩
     case measure=>simp [intOf];omega
    exact AllReadyH.nil
   exact AllReadyH.nil
  ·obtain rfl:k=l.length:=by omega
   have hxs':(xs.take l.length).map (·.1)=l:=by
    have h:=hxs.out
    rw [←List.map_take,List.take_of_length_le (Nat.le_refl l.length)] at h
    exact h
   have hres:=fullE_made' (n:=l.length) (N:=l.length+1) hfu hse (by have:=hxl.out;omega) (by omega) (by unfold maxLen;omega)
   go_wp2_with fail
   go_ret
   exact⟨_,_,rfl,hres,hxs',hb⟩
def ad0:Oper:={dst:=some 7,op:=Go.Op.move (Go.Operand.tmp 0),type:=29,pos := "ctx.go:34",after:=#[],guard:=none}
def ad1:Oper:={dst:=some 8,op:=Go.Op.call {callee:=Go.Callee.value (Go.Operand.func 20),args:=#[Go.Operand.tmp 7],argTypes:=#[29] },type:=29,pos := "ctx.go:34",after:=#[{on:=0,ground:=Go.Ground.data}],guard:=none}
def ad2:Oper:={dst:=some 9,op:=Go.Op.load 38 (Go.Operand.tmp 4),type:=38,pos := "ctx.go:34",after:=#[],guard:=none}
def ad3:Oper:={dst:=some 10,op:=Go.Op.call {callee:=Go.Callee.value (Go.Operand.func 21),args:=#[Go.Operand.tmp 9],argTypes:=#[38] },type:=38,pos := "ctx.go:34",after:=#[{on:=2,ground:=Go.Ground.data},{on:=1,ground:=Go.Ground.chain}],guard:=none}
def ad4:Oper:={dst:=some 11,op:=Go.Op.move (Go.Operand.tmp 2),type:=3,pos := "ctx.go:34",after:=#[],guard:=none}
def ad5:Oper:={dst:=some 12,op:=Go.Op.build 61 #[(0,Go.Operand.tmp 10),(1,Go.Operand.tmp 11)],type:=61,pos := "ctx.go:34",after:=#[{on:=3,ground:=Go.Ground.data},{on:=4,ground:=Go.Ground.data}],guard:=none}
def ad6:Oper:={dst:=some 13,op:=Go.Op.buildSlice 29 1 #[(0,Go.Operand.tmp 12)],type:=29,pos := "ctx.go:34",after:=#[{on:=5,ground:=Go.Ground.data}],guard:=none}
def ad7:Oper:={dst:=some 14,op:=Go.Op.call {callee:=Go.Callee.builtin Go.Builtin.append,args:=#[Go.Operand.tmp 8,Go.Operand.tmp 13],argTypes:=#[29,29] },type:=29,pos := "ctx.go:34",after:=#[{on:=1,ground:=Go.Ground.data},{on:=6,ground:=Go.Ground.data},{on:=3,ground:=Go.Ground.chain}],guard:=none}
def ad8:Oper:={dst:=some 6,op:=Go.Op.assign (Go.Operand.tmp 14),type:=29,pos := "ctx.go:34",after:=#[{on:=7,ground:=Go.Ground.data},{on:=7,ground:=Go.Ground.chain},{on:=0,ground:=Go.Ground.phase},{on:=1,ground:=Go.Ground.phase},{on:=2,ground:=Go.Ground.phase},{on:=3,ground:=Go.Ground.phase},{on:=4,ground:=Go.Ground.phase},{on:=5,ground:=Go.Ground.phase},{on:=6,ground:=Go.Ground.phase},{on:=7,ground:=Go.Ground.phase}],guard:=none}
theorem b5_call {w w' wn:World} {g:Nat} {t:Tm} {s:Value} (h:Kept w w'∧w'.cell? ⟨g,0,none⟩=some (.int .i64 t.k)∧w'.cell? ⟨g,1,none⟩=some (.int .i64 t.i)∧w'.cell? ⟨g,2,none⟩=some (.int .i64 t.j)∧w'.cell? ⟨g,3,none⟩=some (.int .i64 t.n)∧w'.cell? ⟨g,4,none⟩=some (s)) (hb:Below w'.heap.size w' wn):Kept w wn∧wn.cell? ⟨g,0,none⟩=some (.int .i64 t.k)∧wn.cell? ⟨g,1,none⟩=some (.int .i64 t.i)∧wn.cell? ⟨g,2,none⟩=some (.int .i64 t.j)∧wn.cell? ⟨g,3,none⟩=some (.int .i64 t.n)∧wn.cell? ⟨g,4,none⟩=some (s):=⟨kept_call h.1 hb,cell_lat hb h.2.1,cell_lat hb h.2.2.1,cell_lat hb h.2.2.2.1,cell_lat hb h.2.2.2.2.1,cell_lat hb h.2.2.2.2.2⟩
theorem b5_drew {w w':World} {g:Nat} {t:Tm} {s:Value} (h:Kept w w'∧w'.cell? ⟨g,0,none⟩=some (.int .i64 t.k)∧w'.cell? ⟨g,1,none⟩=some (.int .i64 t.i)∧w'.cell? ⟨g,2,none⟩=some (.int .i64 t.j)∧w'.cell? ⟨g,3,none⟩=some (.int .i64 t.n)∧w'.cell? ⟨g,4,none⟩=some (s)):Kept w w'.drew∧w'.drew.cell? ⟨g,0,none⟩=some (.int .i64 t.k)∧w'.drew.cell? ⟨g,1,none⟩=some (.int .i64 t.i)∧w'.drew.cell? ⟨g,2,none⟩=some (.int .i64 t.j)∧w'.drew.cell? ⟨g,3,none⟩=some (.int .i64 t.n)∧w'.drew.cell? ⟨g,4,none⟩=some (s):=⟨kept_drew h.1,h.2⟩
theorem b5_grow {w w' w4:World} {g:Nat} {t:Tm} {s:Value} {row:Option Nat} (h:Kept w w'∧w'.cell? ⟨g,0,none⟩=some (.int .i64 t.k)∧w'.cell? ⟨g,1,none⟩=some (.int .i64 t.i)∧w'.cell? ⟨g,2,none⟩=some (.int .i64 t.j)∧w'.cell? ⟨g,3,none⟩=some (.int .i64 t.n)∧w'.cell? ⟨g,4,none⟩=some (s)) (hg:w'.grownBy w4 row) (hr:∀ k,row=some k→w.heap.size≤k) (hne:row≠some g):Kept w w4∧w4.cell? ⟨g,0,none⟩=some (.int .i64 t.k)∧w4.cell? ⟨g,1,none⟩=some (.int .i64 t.i)∧w4.cell? ⟨g,2,none⟩=some (.int .i64 t.j)∧w4.cell? ⟨g,3,none⟩=some (.int .i64 t.n)∧w4.cell? ⟨g,4,none⟩=some (s):=by
 have hlt:g<w'.heap.size:=World.block_lt_of_cell? _ _ h.2.1
 have hb:=hg.block g hlt (fun e=>hne e.symm)
 have hc:∀ q,w4.cell? ⟨g,q,none⟩=w'.cell? ⟨g,q,none⟩:=fun q=>World.cell?_of_block (a:=⟨g,q,none⟩) hb
 obtain⟨hw,x0,x1,x2,x3,x4⟩:=h
 exact⟨Below.grown hw hg (Below.size hw) hr,(hc _).trans x0,(hc _).trans x1,(hc _).trans x2,(hc _).trans x3,(hc _).trans x4⟩
set_option maxRecDepth 20000 in
set_option maxHeartbeats 4000000 in
theorem ctxadd_any (l:List En) (t:Tm) (i:Int) (w:World) (s st:Value) (hl:LiesE w l s) (ht:Lies w t.kids st) (hft:(⟨t,i⟩:En).fine) (hlen:l.length≤100000) (hsz:∀ x ∈ l,x.a.size≤1000000) (hst:t.size≤1000000):Calls Try.prog 13 #[s,tv t st,.int .i64 i] w (MakesE (l++[⟨t,i⟩]) w):=by
 obtain⟨a,cap,S,rfl,-⟩:=hl.out
 obtain⟨a2,cap2,S2,rfl,-⟩:=ht.out
 obtain⟨i0,hi,hz0,hz1,hz2⟩:=info_parts info_entry
 have HI:=Lib.hid (And.intro hi (And.intro hz0 (And.intro hz1 hz2)))
 have HL:=Lib.hid hl
 have HT:=Lib.hid ht
 have HFT:=Lib.hid hft
 have HLE:=Lib.hid hlen
 have HSA:=Lib.hid hsz
 have HST:=Lib.hid hst
 have HPL:∀ ps:List (En × Value),ps.map (·.1)=l→ps.length≤100000:=fun ps h=>by have:=congrArg List.length h;simp at this;omega
 have HPL:=Lib.hid HPL
 unfold tv
 have hX:(w.alloc (.cells #[.int .i64 t.k,.int .i64 t.i,.int .i64 t.j,.int .i64 t.n,(.slice a2 t.kids.length cap2)] 38)).cell? ⟨w.heap.size,0,none⟩=some (.int .i64 t.k)∧(w.alloc (.cells #[.int .i64 t.k,.int .i64 t.i,.int .i64 t.j,.int .i64 t.n,(.slice a2 t.kids.length cap2)] 38)).cell? ⟨w.heap.size,1,none⟩=some (.int .i64 t.i)∧(w.alloc (.cells #[.int .i64 t.k,.int .i64 t.i,.int .i64 t.j,.int .i64 t.n,(.slice a2 t.kids.length cap2)] 38)).cell? ⟨w.heap.size,2,none⟩=some (.int .i64 t.j)∧(w.alloc (.cells #[.int .i64 t.k,.int .i64 t.i,.int .i64 t.j,.int .i64 t.n,(.slice a2 t.kids.length cap2)] 38)).cell? ⟨w.heap.size,3,none⟩=some (.int .i64 t.n)∧(w.alloc (.cells #[.int .i64 t.k,.int .i64 t.i,.int .i64 t.j,.int .i64 t.n,(.slice a2 t.kids.length cap2)] 38)).cell? ⟨w.heap.size,4,none⟩=some ((.slice a2 t.kids.length cap2)):=held_cells (held_start w t (.slice a2 t.kids.length cap2))
 have hkV:Kept w (w.alloc (.cells #[.int .i64 t.k,.int .i64 t.i,.int .i64 t.j,.int .i64 t.n,(.slice a2 t.kids.length cap2)] 38)):=kept_alloc (kept_start w) _
 have hwV:w.heap.size<(w.alloc (.cells #[.int .i64 t.k,.int .i64 t.i,.int .i64 t.j,.int .i64 t.n,(.slice a2 t.kids.length cap2)] 38)).heap.size:=by simp
 clear hi hz0 hz1 hz2 hl ht hft hsz hst
 go_enter Try.func13,Try.ntmps13
 go_upto_region 1 with fail
 generalize w.alloc (.cells #[.int .i64 t.k,.int .i64 t.i,.int .i64 t.j,.int .i64 t.n,(.slice a2 t.kids.length cap2)] 38)=V at hX hkV hwV ⊢
 have hS0:Kept w V∧V.cell? ⟨w.heap.size,0,none⟩=some (.int .i64 t.k)∧V.cell? ⟨w.heap.size,1,none⟩=some (.int .i64 t.i)∧V.cell? ⟨w.heap.size,2,none⟩=some (.int .i64 t.j)∧V.cell? ⟨w.heap.size,3,none⟩=some (.int .i64 t.n)∧V.cell? ⟨w.heap.size,4,none⟩=some ((.slice a2 t.kids.length cap2)):=⟨hkV,hX⟩
 have hwx:w.heap.size≤V.drew.heap.size:=Nat.le_of_lt hwV
 have hwy:w.heap.size<V.drew.heap.size:=hwV
 refine wp_region_held_drew (S:=fun w'=>Kept w w'∧w'.cell? ⟨w.heap.size,0,none⟩=some (.int .i64 t.k)∧w'.cell? ⟨w.heap.size,1,none⟩=some (.int .i64 t.i)∧w'.cell? ⟨w.heap.size,2,none⟩=some (.int .i64 t.j)∧w'.cell? ⟨w.heap.size,3,none⟩=some (.int .i64 t.n)∧w'.cell? ⟨w.heap.size,4,none⟩=some ((.slice a2 t.kids.length cap2))) (by kernel_rfl) ?_ (fun hHeld=>?_)
 ·(try dsimp only)
  (first | exact hS7 | exact hS6 | exact hS3 | exact hS1 | exact b5_drew hS0)
 generalize V.drew=wx at hHeld hwx hwy ⊢
 have HWX:=Lib.hid hwx
 have HWY:=Lib.hid hwy
 clear hS0 hX hkV hwV hwx hwy
 refine take_at 0 7 ad0 (v:=?_) (Or.inl ⟨by rfl,?_⟩) ?_
 rotate_left 1
 ·((intro w hSw;(try dsimp only at hSw);unfold ad0;go_simp)<;>with_reducible rfl)
 (try simp only [Act.put,List.setIfInBounds_toArray,List.set_cons_zero,List.set_cons_succ])
 refine take_at 2 9 ad2 (v:=?_) (Or.inl ⟨by rfl,?_⟩) ?_
 rotate_left 1
 ·((intro w hSw;(try dsimp only at hSw);unfold ad2;go_simp)<;>with_reducible rfl)
 (try simp only [Act.put,List.setIfInBounds_toArray,List.set_cons_zero,List.set_cons_succ])
 refine take_at 4 11 ad4 (v:=?_) (Or.inl ⟨by rfl,?_⟩) ?_
 rotate_left 1
 ·((intro w hSw;(try dsimp only at hSw);unfold ad4;go_simp)<;>with_reducible rfl)
 (try simp only [Act.put,List.setIfInBounds_toArray,List.set_cons_zero,List.set_cons_succ])
 refine wpAnyH_ready (rs:=[1]) (by kernel_rfl) (by simp) ?_
 refine AllReadyH.cons (o:=ad1) rfl (fun K hK=>?_) ?_
 ·unfold ad1
  go_simp
  (go_at_call 20;(with_reducible refine Calls.mono (entries_any l _ _ (HL.out.keep (kept_below hHeld.1)) HLE.out HSA.out) ?_);rintro ee w1 ⟨s1,ps,rfl,hm1,hps,hb1⟩;have hS1:=b5_call hHeld hb1;have HM1:=Lib.hid hm1;have HPS:=Lib.hid hps;have HB1:=Lib.hid hb1;clear hm1 hps hb1 hHeld)
  refine hK.out _ _ ?_ (fun hHeld=>?_)
  ·(try dsimp only)
   (first | exact hS7 | exact hS6 | exact hS3 | exact hS1 | exact b5_drew hS0)
  clear hK K
  (try simp only [Act.put,List.setIfInBounds_toArray,List.set_cons_zero,List.set_cons_succ])
  refine wpAnyH_ready (rs:=[3]) (by kernel_rfl) (by simp) ?_
  refine AllReadyH.cons (o:=ad3) rfl (fun K hK=>?_) ?_
  ·unfold ad3
   go_simp
   (go_at_call 21;(with_reducible refine Calls.mono (copy_any t _ _ (HT.out.keep (kept_below hHeld.1)) HST.out) ?_);rintro ee w2 ⟨s2,rfl,hl2,hb2⟩;obtain⟨a3,cap3,rfl,-,-⟩:=hl2.out;have hS3:=b5_call hHeld hb2;have HL2:=Lib.hid hl2;have HB2:=Lib.hid hb2;clear hl2 hb2 hHeld)
   refine hK.out _ _ ?_ (fun hHeld=>?_)
   ·(try dsimp only)
    (first | exact hS7 | exact hS6 | exact hS3 | exact hS1 | exact b5_drew hS0)
   clear hK K
   (try simp only [Act.put,List.setIfInBounds_toArray,List.set_cons_zero,List.set_cons_succ])
   refine take_at 5 12 ad5 (v:=?_) (Or.inl ⟨by rfl,?_⟩) ?_
   rotate_left 1
   ·((intro w hSw;(try dsimp only at hSw);unfold ad5;go_simp)<;>with_reducible rfl)
   (try simp only [Act.put,List.setIfInBounds_toArray,List.set_cons_zero,List.set_cons_succ])
   refine wpAnyH_ready (rs:=[6]) (by kernel_rfl) (by simp) ?_
   refine AllReadyH.cons (o:=ad6) rfl (fun K hK=>?_) ?_
   ·unfold ad6
    go_simp
    have hS6:=b5_call hHeld ((Below.refl _ _).alloc (Nat.le_refl _) (.cells #[.int .i64 t.k,.int .i64 t.i,.int .i64 t.j,.int .i64 t.n,.slice a3 t.kids.length cap3,.int .i64 i] 61):Below w2.heap.size w2 (w2.alloc (.cells #[.int .i64 t.k,.int .i64 t.i,.int .i64 t.j,.int .i64 t.n,.slice a3 t.kids.length cap3,.int .i64 i] 61)))
    (try clear hHeld)
    refine hK.out _ _ ?_ (fun hHeld=>?_)
    ·(try dsimp only)
     (first | exact hS7 | exact hS6 | exact hS3 | exact hS1 | exact b5_drew hS0)
    clear hK K
    (try simp only [Act.put,List.setIfInBounds_toArray,List.set_cons_zero,List.set_cons_succ])
    refine wpAnyH_ready (rs:=[7]) (by kernel_rfl) (by simp) ?_
    refine AllReadyH.cons (o:=ad7) rfl (fun K hK=>?_) ?_
    ·unfold ad7
     refine step_append_lies _ rfl _ _ 29 rfl wx.heap.size 61 i0 _ 6 64 (by kernel_rfl) HI.out.1 HI.out.2.1 HI.out.2.2.1 HI.out.2.2.2 rfl (by decide) s1 ps.length (cells6 ps) rfl (madeE_later (madeE_later HM1.out HB2.out) ((Below.refl _ _).alloc (Nat.le_refl _) _)).own ⟨w2.heap.size,0,none⟩ 1 1 (cells6 [((⟨t,i⟩:En),.slice a3 t.kids.length cap3)]) rfl rfl (newsE _ (⟨t,i⟩:En) _ _) (oneE _ _) (by decide) (by have:=HPL.out ps HPS.out;unfold maxLen;omega) (by have:=HPL.out ps HPS.out;omega) (by have:=HB1.out.size;have:=HB2.out.size;simp;omega) _ rfl ?_
     intro g cap4 w3 hown hgrow hat hlt3
     have hS7:=b5_grow hHeld hgrow (fun k h=>Nat.le_trans HWX.out (madeE_above HM1.out k h)) (fun e=>by have:=madeE_above HM1.out _ e;have:=HWY.out;omega)
     clear hHeld
     refine hK.out _ _ ?_ (fun hHeld=>?_)
     ·(try dsimp only)
      (first | exact hS7 | exact hS6 | exact hS3 | exact hS1 | exact b5_drew hS0)
     clear hK K
     (try simp only [Act.put,List.setIfInBounds_toArray,List.set_cons_zero,List.set_cons_succ])
     refine take_at 8 6 ad8 (v:=?_) (Or.inl ⟨by rfl,?_⟩) ?_
     rotate_left 1
     ·((intro w hSw;(try dsimp only at hSw);unfold ad8;go_simp)<;>with_reducible rfl)
     (try simp only [Act.put,List.setIfInBounds_toArray,List.set_cons_zero,List.set_cons_succ])
     refine wpAnyH_done (by kernel_rfl) ?_ _
     have hkE:=hHeld.1
     clear hHeld
     have hat':s1.ownBlock=some g∨g=w2.heap.size+1:=by simpa using hat
     have hMN:=madeE_push HM1.out (show(⟨t,i⟩:En).fine from HFT.out) HB1.out.size HB2.out HL2.out _ hown hgrow hat'
     have hres:=(madeE_lies hMN).from HWX.out
     rw [List.map_append,HPS.out] at hres
     go_wp2_with fail
     go_ret
     exact⟨_,rfl,hres,hkE⟩
    exact AllReadyH.nil
   exact AllReadyH.nil
  exact AllReadyH.nil
 exact AllReadyH.nil
end Go.Proofs.Ytgnllglbopaheaa

namespace Go.Proofs.Ytgnllglbopaheaa
open Go.RowKit
theorem kidsK (r:Int) (w:World):Calls Try.prog 22 #[.int .i64 r] w fun e w'=>e=.returned (.int .i64 (Dv.dkidsN r))∧Kept w w':=(Dv.dkids_any r w).mono (fun _ _ h=>⟨h.1,by rw [h.2];exact kept_refl _⟩)
theorem innerK (r k:Int) (w:World):Calls Try.prog 36 #[.int .i64 r,.int .i64 k] w fun e w'=>e=.returned (.bool (Dv.innerB r k))∧Kept w w':=(Dv.dinner_any r k w).mono (fun _ _ h=>⟨h.1,by rw [h.2];exact kept_refl _⟩)
end Go.Proofs.Ytgnllglbopaheaa

namespace Go.Proofs.Ytgnllglbopaheaa
open Go.RowKit
def GivesJT (P:Nat→Prop) (j:Jd) (b:Bool) (w:World) (e:Ending) (w':World):Prop:=∃ su sv sa:Value,e=.returned (.tuple #[jv j su sv sa,.bool b])∧(LiesQ w' (fun b=>P b∨w.heap.size≤b) j.u.kids su∧LiesQ w' (fun b=>P b∨w.heap.size≤b) j.v.kids sv∧LiesQ w' (fun b=>P b∨w.heap.size≤b) j.a.kids sa)∧Kept w w'
end Go.Proofs.Ytgnllglbopaheaa

namespace Go.Proofs.Ytgnllglbopaheaa
open Go.RowKit
structure MadeS (B:Nat) (w:World) (v:Value) (ps:List (En × Value)):Prop where
 own:w.ownsRow B 61 6 v ps.length (cells6 ps)
 fine:∀ p ∈ ps,p.1.fine
 kids:∀ p ∈ ps,LiesQ w (fun b=>v.ownBlock≠some b) p.1.a.kids p.2
end Go.Proofs.Ytgnllglbopaheaa

namespace Go.Proofs.Ytgnllglbopaheaa
open Go.RowKit
theorem pairs_of (l:List Tm) (S:Nat→Value):∃ ps:List (Tm × Value),ps.map (·.1)=l∧ps.length=l.length∧∀ i (h:i<l.length) (h':i<ps.length),ps[i]=(l[i],S i):=by
 refine⟨(List.range l.length).map fun i=>((l[i]?).getD .zero,S i),?_,by simp,fun i h h'=>by simp [h]⟩
 apply List.ext_getElem
 ·simp
 ·intro i h1 h2
  simp at h1
  simp [h2]
theorem owns_lies {B:Nat} {w:World} {Q:Nat→Prop} {v:Value} {ps:List (Tm × Value)} (h:w.ownsRow B 38 5 v ps.length (cells5 ps)) (hQ:∀ g,B≤g→g<w.heap.size→Q g) (hp:∀ p ∈ ps,p.1.fine∧LiesQ w Q p.1.kids p.2):LiesQ w Q (ps.map (·.1)) v:=by
 have h0:=h
 obtain⟨-,⟨rfl,hn⟩ | ⟨g,cap,cur,rfl,hg,hh,hnc,hcm,hsz,htk⟩⟩:=h
 ·obtain rfl:ps=[]:=List.eq_nil_of_length_eq_zero hn
  exact liesQ_nil _ _
 ·have:=LiesQ.mk (w:=w) (P:=Q) (ps.map (·.1)) (some ⟨g,0,none⟩) cap (fun i=>(ps[i]?.map (·.2)).getD (.slice none 0 0)) (by simpa using hnc) hcm (fun x hx=>by obtain⟨p,hq,rfl⟩:=List.mem_map.1 hx;exact(hp p hq).1)
   (fun i hi=>by
     have hi':i<ps.length:=by simpa using hi
     refine⟨g,0,rfl,hQ g hg (Array.getElem?_eq_some_iff.1 hh).1,?_⟩
     simp only [List.getElem_map,List.getElem?_eq_getElem hi',Option.map_some,Option.getD_some,Nat.zero_add]
     have cellq:∀ q,q<5→w.cell? ⟨g,i * 5+q,none⟩=[Value.int .i64 (ps[i]).1.k,.int .i64 (ps[i]).1.i,.int .i64 (ps[i]).1.j,.int .i64 (ps[i]).1.n,(ps[i]).2][q]?:=fun q hq=>by
      rw [h0.cellAt (i * 5+q) (by omega)];exact cells5_get ps i hi' q hq
     exact⟨cellq 0 (by omega),cellq 1 (by omega),cellq 2 (by omega),cellq 3 (by omega),cellq 4 (by omega)⟩)
   (fun i hi=>by
     have hi':i<ps.length:=by simpa using hi
     simp only [List.getElem_map,List.getElem?_eq_getElem hi',Option.map_some,Option.getD_some]
     exact(hp _ (List.getElem_mem hi')).2)
  simpa using this
end Go.Proofs.Ytgnllglbopaheaa

namespace Go.Proofs.Ytgnllglbopaheaa
open Go.RowKit
theorem cells5_from {w:World} {Q:Nat→Prop} {l:List Tm} {S:Nat→Value} {b o:Nat} (ps:List (Tm × Value)) (hpl:ps.length=l.length) (hpg:∀ i (h:i<l.length) (h':i<ps.length),ps[i]=(l[i],S i))
 (hn:∀ i (h:i<l.length),∃ b' o',some (⟨b,o,none⟩:Addr)=some ⟨b',o',none⟩∧Q b'∧Node w b' (o'+i * 5) l[i] (S i)):∀ j u,(cells5 ps)[j]? =some u→w.cell? ((⟨b,o,none⟩:Addr).add j)=some u:=by
 intro j u hu
 have hj:j<(cells5 ps).length:=(List.getElem?_eq_some_iff.1 hu).1
 rw [cells5_length] at hj
 have hi:j / 5<ps.length:=by omega
 have hq:j % 5<5:=Nat.mod_lt _ (by decide)
 have e:=cells5_get ps (j / 5) hi (j % 5) hq
 rw [show j / 5 * 5+j % 5=j by omega,hu] at e
 obtain⟨b',o',h1,-,h2⟩:=hn (j / 5) (by omega)
 cases h1
 rw [hpg (j / 5) (by omega) hi] at e
 have ea:(⟨b,o,none⟩:Addr).add j=⟨b,o+j / 5 * 5+j % 5,none⟩:=by
  rw [Addr.add_lit]
  congr 1
  omega
 rw [ea,e]
 generalize j % 5=q at hq
 match q,hq with
 | 0,_=>exact h2.c0
 | 1,_=>exact h2.c1
 | 2,_=>exact h2.c2
 | 3,_=>exact h2.c3
 | 4,_=>exact h2.c4
theorem cells5_one:∀ (ps:List (Tm × Value)),(∀ p ∈ ps,p.2.oneCell'=true)→∀ u ∈ cells5 ps,u.oneCell'=true
 | [],_,u,hu=>by cases hu
 | (t,s)::r,h,u,hu=>by
  simp only [cells5,List.mem_cons] at hu
  rcases hu with rfl | rfl | rfl | rfl | rfl | hu
  ·rfl
  ·rfl
  ·rfl
  ·rfl
  ·exact h (t,u) (by simp)
  ·exact cells5_one r (fun p hp=>h p (List.mem_cons_of_mem _ hp)) u hu
theorem run_append_list {w:World} {Q:Nat→Prop} (ty:TypeId) (l1 l2:List Tm) (s1 s2:Value) (h1:LiesQ w Q l1 s1) (h2:LiesQ w Q l2 s2) (hs:∃ a,s1=.slice a l1.length l1.length) (hl1:0<l1.length) (hm:l1.length+l2.length≤1000000) :
 ∃ s' w',(Builtin.append_ #[36,36] ty #[s1,s2]).run Try.prog w=.ok s' w'∧LiesQ w' (fun b=>Q b∨w.heap.size≤b) (l1++l2) s'∧Kept w w':=by
 obtain⟨a1,cap1,S1,rfl,hc1,hx1,hf1,hn1,hk1⟩:=h1.out
 obtain⟨a,e⟩:=hs
 injection e with e1 e2 e3
 subst e1 e3
 obtain⟨a2,cap2,S2,rfl,hc2,hx2,hf2,hn2,hk2⟩:=h2.out
 obtain⟨i0,hi,hz0,hz1,hz2⟩:=info_parts info_term
 have ht:Try.prog.underlying 36=some (.slice 38):=by kernel_rfl
 by_cases hl:l2=[]
 ·subst hl
  have src:Src Try.prog i0.size 36 (.slice a2 ([]:List Tm).length cap2) 0 [] w:=by
   cases a2 with
   | none=>exact Src.ofNil w ht cap2
   | some ad=>exact Src.ofSlice w ht ad 0 cap2 [] (by simp) (by simp) (by simp)
  refine⟨_,w,run_append_nothing w _ _ ty _ i0 ht hi _ _ _ hc1 _ src,?_,kept_refl w⟩
  rw [List.append_nil]
  exact h1.wide (fun _ h=>Or.inl h)
 ·have hpos:0<l2.length:=List.length_pos_iff.2 hl
  obtain⟨b2,o2,rfl,-⟩:=hn2 0 hpos
  obtain⟨b1,o1,rfl,-⟩:=hn1 0 hl1
  obtain⟨ps1,q1a,q1b,q1c⟩:=pairs_of l1 S1
  obtain⟨ps2,q2a,q2b,q2c⟩:=pairs_of l2 S2
  have one2:∀ u ∈ cells5 ps2,u.oneCell'=true:=cells5_one ps2 (fun p hp=>by
   obtain⟨j,hj,rfl⟩:=List.getElem_of_mem hp
   rw [q2c j (by omega) hj]
   obtain⟨a',c',S',e',-⟩:=(hk2 j (by omega)).out
   show(S2 j).oneCell'=true
   rw [e'];rfl)
  obtain⟨v',w',hr,hown,hg⟩:=run_append_arg_grows (P:=Try.prog) w 36 ty 38 i0 _ 5 56 ht hi hz0 hz1 hz2 rfl (by decide) ⟨b1,o1,none⟩ l1.length l1.length (cells5 ps1) (by rw [cells5_length,q1b]) (cells5_from ps1 q1b q1c hn1) ⟨b2,o2,none⟩ l2.length cap2 (cells5 ps2) (by rw [cells5_length,q2b]) (cells5_from ps2 q2b q2c hn2) (by omega) (by unfold maxLen;omega) (by omega)
  have hk:Kept w w':=Below.grown (kept_refl w) hg (Nat.le_refl _) (fun g h=>by cases h)
  refine⟨v',w',hr,?_,hk⟩
  rw [←cells5_append,show l1.length+l2.length=(ps1++ps2).length by simp [q1b,q2b]] at hown
  have kid:∀ p ∈ ps1++ps2,p.1.fine∧LiesQ w' (fun b=>Q b∨w.heap.size≤b) p.1.kids p.2:=fun p hp=>by
   rcases List.mem_append.1 hp with hp | hp
   ·obtain⟨j,hj,rfl⟩:=List.getElem_of_mem hp
    rw [q1c j (by omega) hj]
    exact⟨hf1 _ (List.getElem_mem (by omega)),((hk1 j (by omega)).later hk).wide (fun _ h=>Or.inl h)⟩
   ·obtain⟨j,hj,rfl⟩:=List.getElem_of_mem hp
    rw [q2c j (by omega) hj]
    exact⟨hf2 _ (List.getElem_mem (by omega)),((hk2 j (by omega)).later hk).wide (fun _ h=>Or.inl h)⟩
  have:=owns_lies hown (Q:=fun b=>Q b∨w.heap.size≤b) (fun g hg _=>Or.inr hg) kid
  rw [List.map_append,q1a,q2a] at this
  exact this
theorem wp_append_list {o:Oper} {a:Act} {w:World} {K:Act→World→Prop} {E:Exit→Act→World→Prop} {Q:Nat→Prop} (s x:Operand)
 (ho:o.op=.call {callee:=.builtin .append,args:=#[s,x],argTypes:=#[36,36] }) (l1 l2:List Tm) (s1 s2:Value) (hs:a.eval s=s1) (hx:a.eval x=s2)
 (h1:LiesQ w Q l1 s1) (h2:LiesQ w Q l2 s2) (hc:∃ a,s1=.slice a l1.length l1.length) (hl1:0<l1.length) (hm:l1.length+l2.length≤1000000)
 (h:∀ s' w',LiesQ w' (fun b=>Q b∨w.heap.size≤b) (l1++l2) s'→Kept w w'→K (a.put o.dst s') w'):o.wp Try.prog a w K E:=by
 obtain⟨s',w',hr,h3,h4⟩:=run_append_list o.type l1 l2 s1 s2 h1 h2 hc hl1 hm
 unfold Oper.wp execOp
 simp only [ho,resolve,invoke,builtin,Sem.run_bind,Sem.run_pure,Result.andThen_ok,List.map_toArray,List.map_cons,List.map_nil,hs,hx,hr]
 exact h s' w' h3 h4
theorem step_append_list {ops:Array Oper} {o:Oper} {a:Act} {w:World} {K:Act→World→Prop} {E:Exit→Act→World→Prop} {F:Prop} {Q:Nat→Prop} (hgd:o.guard=none) (s x:Operand)
 (ho:o.op=.call {callee:=.builtin .append,args:=#[s,x],argTypes:=#[36,36] }) (l1 l2:List Tm) (s1 s2:Value) (hs:a.eval s=s1) (hx:a.eval x=s2)
 (h1:LiesQ w Q l1 s1) (h2:LiesQ w Q l2 s2) (hc:∃ a,s1=.slice a l1.length l1.length) (hl1:0<l1.length) (hm:l1.length+l2.length≤1000000)
 (h:∀ s' w',LiesQ w' (fun b=>Q b∨w.heap.size≤b) (l1++l2) s'→Kept w w'→K (a.put o.dst s') w'):if Region.wanted o (yielded ops a.tmps)=true then Oper.wp Try.prog o a w K E else F:=by
 have hw:Region.wanted o (yielded ops a.tmps)=true:=by simp [Region.wanted,hgd]
 rw [if_pos hw]
 exact wp_append_list s x ho l1 l2 s1 s2 hs hx h1 h2 hc hl1 hm h
end Go.Proofs.Ytgnllglbopaheaa

namespace Go.Proofs.Ytgnllglbopaheaa
open Go.RowKit
def fmk (k i j:Int) (a b:Tm) (l:List Tm):Tm:=.mk k i j 0 (a::b::l)
theorem app_len3 {a b:Tm} {l:List Tm} (h:l.length≤10):[a,b].length+l.length≤1000000:=by simp only [List.length_cons,List.length_nil];omega
def fmaker1_0:Oper:={dst:=some 7,op:=Go.Op.move (Go.Operand.tmp 1),type:=3,pos := "rule.go:118",after:=#[],guard:=none}
def fmaker1_1:Oper:={dst:=some 8,op:=Go.Op.fieldAddr 88 (Go.Operand.tmp 3) 0,type:=0,pos := "rule.go:118",after:=#[],guard:=none}
def fmaker1_2:Oper:={dst:=some 9,op:=Go.Op.load 3 (Go.Operand.tmp 8),type:=3,pos := "rule.go:118",after:=#[{on:=1,ground:=Go.Ground.data}],guard:=none}
def fmaker1_3:Oper:={dst:=some 10,op:=Go.Op.fieldAddr 88 (Go.Operand.tmp 3) 1,type:=0,pos := "rule.go:118",after:=#[],guard:=none}
def fmaker1_4:Oper:={dst:=some 11,op:=Go.Op.load 3 (Go.Operand.tmp 10),type:=3,pos := "rule.go:118",after:=#[{on:=3,ground:=Go.Ground.data}],guard:=none}
def fmaker1_5:Oper:={dst:=some 12,op:=Go.Op.fieldAddr 88 (Go.Operand.tmp 3) 2,type:=0,pos := "rule.go:118",after:=#[],guard:=none}
def fmaker1_6:Oper:={dst:=some 13,op:=Go.Op.load 38 (Go.Operand.tmp 12),type:=38,pos := "rule.go:118",after:=#[{on:=5,ground:=Go.Ground.data}],guard:=none}
def fmaker1_7:Oper:={dst:=some 14,op:=Go.Op.fieldAddr 88 (Go.Operand.tmp 3) 3,type:=0,pos := "rule.go:118",after:=#[],guard:=none}
def fmaker1_8:Oper:={dst:=some 15,op:=Go.Op.load 38 (Go.Operand.tmp 14),type:=38,pos := "rule.go:118",after:=#[{on:=7,ground:=Go.Ground.data}],guard:=none}
def fmaker1_9:Oper:={dst:=some 16,op:=Go.Op.buildSlice 36 2 #[(0,Go.Operand.tmp 13),(1,Go.Operand.tmp 15)],type:=36,pos := "rule.go:118",after:=#[{on:=6,ground:=Go.Ground.data},{on:=8,ground:=Go.Ground.data}],guard:=none}
def fmaker1_10:Oper:={dst:=some 17,op:=Go.Op.move (Go.Operand.tmp 2),type:=36,pos := "rule.go:118",after:=#[],guard:=none}
def fmaker1_11:Oper:={dst:=some 18,op:=Go.Op.call {callee:=Go.Callee.builtin Go.Builtin.append,args:=#[Go.Operand.tmp 16,Go.Operand.tmp 17],argTypes:=#[36,36] },type:=36,pos := "rule.go:118",after:=#[{on:=9,ground:=Go.Ground.data},{on:=10,ground:=Go.Ground.data}],guard:=none}
def fmaker1_12:Oper:={dst:=some 19,op:=Go.Op.build 38 #[(0,Go.Operand.tmp 7),(1,Go.Operand.tmp 9),(2,Go.Operand.tmp 11),(4,Go.Operand.tmp 18)],type:=38,pos := "rule.go:118",after:=#[{on:=0,ground:=Go.Ground.data},{on:=2,ground:=Go.Ground.data},{on:=4,ground:=Go.Ground.data},{on:=11,ground:=Go.Ground.data}],guard:=none}
def fmaker1_13:Oper:={dst:=none,op:=Go.Op.store 38 (Go.Operand.tmp 6) (Go.Operand.tmp 19),type:=0,pos := "rule.go:118",after:=#[{on:=12,ground:=Go.Ground.data},{on:=11,ground:=Go.Ground.chain},{on:=0,ground:=Go.Ground.phase},{on:=1,ground:=Go.Ground.phase},{on:=2,ground:=Go.Ground.phase},{on:=3,ground:=Go.Ground.phase},{on:=4,ground:=Go.Ground.phase},{on:=5,ground:=Go.Ground.phase},{on:=6,ground:=Go.Ground.phase},{on:=7,ground:=Go.Ground.phase},{on:=8,ground:=Go.Ground.phase},{on:=9,ground:=Go.Ground.phase},{on:=10,ground:=Go.Ground.phase},{on:=11,ground:=Go.Ground.phase},{on:=12,ground:=Go.Ground.phase}],guard:=none}
set_option maxRecDepth 20000 in
set_option maxHeartbeats 4000000 in
theorem fmake_any (k:Int) (i j:Int) (ok:Bool) (a:Tm) (b:Tm) (c:Tm) (d:Tm) (more:List Tm) (P:Nat→Prop) (w:World) (sa:Value) (sb:Value) (sc:Value) (sd:Value) (smore:Value) (hri:I64 i) (hrj:I64 j) (hfa:a.fine) (hla:LiesQ w P a.kids sa) (hfb:b.fine) (hlb:LiesQ w P b.kids sb) (hfc:c.fine) (hlc:LiesQ w P c.kids sc) (hfd:d.fine) (hld:LiesQ w P d.kids sd) (hrk:I64 k) (hlmore:LiesQ w P more smore) (hll:more.length≤10):Calls Try.prog 54 #[.agg #[.int .i64 i,.int .i64 j,.int .i64 a.k,.int .i64 a.i,.int .i64 a.j,.int .i64 a.n,sa,.int .i64 b.k,.int .i64 b.i,.int .i64 b.j,.int .i64 b.n,sb,.int .i64 c.k,.int .i64 c.i,.int .i64 c.j,.int .i64 c.n,sc,.int .i64 d.k,.int .i64 d.i,.int .i64 d.j,.int .i64 d.n,sd,.bool ok],.int .i64 k,smore] w (GivesP P (fmk k i j a b more) w):=by
 have Ri:=Lib.hid hri
 have Rj:=Lib.hid hrj
 clear hri hrj
 have Ga:=Lib.hid hfa
 clear hfa
 obtain⟨aa,ca,Sa,rfl,-⟩:=hla.out
 have Gb:=Lib.hid hfb
 clear hfb
 obtain⟨ab,cb,Sb,rfl,-⟩:=hlb.out
 have Gc:=Lib.hid hfc
 clear hfc
 obtain⟨ac,cc,Sc,rfl,-⟩:=hlc.out
 have Gd:=Lib.hid hfd
 clear hfd
 obtain⟨ad,cd,Sd,rfl,-⟩:=hld.out
 have Rk:=Lib.hid hrk
 clear hrk
 obtain⟨amore,cmore,Smore,rfl,-⟩:=hlmore.out
 have HLL:=Lib.hid hll
 clear hll
 obtain⟨du,hu1,hu2⟩:=under_term
 obtain⟨df,df1,df2⟩:=under_of 88 (by kernel_rfl)
 go_enter Try.func54,Try.ntmps54
 go_upto_region 1 with fail
 refine at_code (fun V0 hV0=>?_)
 obtain⟨k3,x1,x2,z4⟩:=alloc2 hV0
 have Kk5:=Lib.hid k3
 clear k3
 have Hx1:=Lib.hid x1
 have Hx2:=Lib.hid x2
 have Z0:=Lib.hid z4
 clear z4 x1 x2 hV0
 have HLa:Hid (LiesQ V0 (Par w V0.heap.size [] P) a.kids _):=(par_in _ _ hla).later Kk5.out
 clear hla
 have HLb:Hid (LiesQ V0 (Par w V0.heap.size [] P) b.kids _):=(par_in _ _ hlb).later Kk5.out
 clear hlb
 have HLc:Hid (LiesQ V0 (Par w V0.heap.size [] P) c.kids _):=(par_in _ _ hlc).later Kk5.out
 clear hlc
 have HLd:Hid (LiesQ V0 (Par w V0.heap.size [] P) d.kids _):=(par_in _ _ hld).later Kk5.out
 clear hld
 have HLmore:Hid (LiesQ V0 (Par w V0.heap.size [] P) more _):=(par_in _ _ hlmore).later Kk5.out
 clear hlmore
 have ld6:=part_cell (r:=(w.heap.size+1)) Hx1.out (by have:=Z0.out;omega) 0 (.int .i64 i) rfl
 have ld7:=part_cell (r:=(w.heap.size+1)) Hx1.out (by have:=Z0.out;omega) 1 (.int .i64 j) rfl
 have kvV0:Sees V0 (w.heap.size+1) V0:=sees_kept _ (kept_refl _)
 go_wp2_with fail
 clear kvV0
 obtain⟨W8,h9⟩:∃ x,World.drew V0=x:=⟨_,rfl⟩
 have k10:Kept V0 W8:=by rw [←h9];exact kept_drew (kept_refl _)
 have Kk11:=Lib.hid k10
 clear k10
 refine wp_region_held_drew (S:=Sees W8 (w.heap.size+1)) (by kernel_rfl) ?_ (fun hHeld=>?_)
 ·(try dsimp only)
  rw [h9]
  exact sees_kept _ (kept_refl _)
 rw [h9] at hHeld ⊢
 clear h9
 refine take_at 0 7 fmaker1_0 (v:=?_) (Or.inl ⟨by rfl,?_⟩) ?_
 rotate_left 1
 ·((intro w hSw;(try dsimp only at hSw);unfold fmaker1_0;go_simp)<;>with_reducible rfl)
 (try simp only [Act.put,List.setIfInBounds_toArray,List.set_cons_zero,List.set_cons_succ])
 refine take_at 1 8 fmaker1_1 (v:=?_) (Or.inl ⟨by rfl,?_⟩) ?_
 rotate_left 1
 ·((intro w hSw;(try dsimp only at hSw);unfold fmaker1_1;go_simp)<;>with_reducible rfl)
 (try simp only [Act.put,List.setIfInBounds_toArray,List.set_cons_zero,List.set_cons_succ])
 refine take_at 2 9 fmaker1_2 (v:=?_) (Or.inl ⟨by rfl,?_⟩) ?_
 rotate_left 1
 ·((intro w hSw;(try dsimp only at hSw);have qV0:=sees_of Kk11.out hSw;unfold fmaker1_2;go_simp)<;>with_reducible rfl)
 (try simp only [Act.put,List.setIfInBounds_toArray,List.set_cons_zero,List.set_cons_succ])
 refine take_at 3 10 fmaker1_3 (v:=?_) (Or.inl ⟨by rfl,?_⟩) ?_
 rotate_left 1
 ·((intro w hSw;(try dsimp only at hSw);unfold fmaker1_3;go_simp)<;>with_reducible rfl)
 (try simp only [Act.put,List.setIfInBounds_toArray,List.set_cons_zero,List.set_cons_succ])
 refine take_at 4 11 fmaker1_4 (v:=?_) (Or.inl ⟨by rfl,?_⟩) ?_
 rotate_left 1
 ·((intro w hSw;(try dsimp only at hSw);have qV0:=sees_of Kk11.out hSw;unfold fmaker1_4;go_simp)<;>with_reducible rfl)
 (try simp only [Act.put,List.setIfInBounds_toArray,List.set_cons_zero,List.set_cons_succ])
 refine take_at 5 12 fmaker1_5 (v:=?_) (Or.inl ⟨by rfl,?_⟩) ?_
 rotate_left 1
 ·((intro w hSw;(try dsimp only at hSw);unfold fmaker1_5;go_simp)<;>with_reducible rfl)
 (try simp only [Act.put,List.setIfInBounds_toArray,List.set_cons_zero,List.set_cons_succ])
 refine take_at 6 13 fmaker1_6 (yields_part (w.heap.size) (2) 38 (.tmp 12) #[.int .i64 a.k,.int .i64 a.i,.int .i64 a.j,.int .i64 a.n,(.slice aa a.kids.length ca)] du (fun _ h=>sees_blk Hx1.out (by have:=Z0.out;omega) (sees_of Kk11.out h)) (by rfl) rfl (by rfl) (by rfl) hu1 (by cases du<;>first | rfl | exact hu2) size_term) ?_
 (try simp only [Act.put,List.setIfInBounds_toArray,List.set_cons_zero,List.set_cons_succ])
 refine take_at 7 14 fmaker1_7 (v:=?_) (Or.inl ⟨by rfl,?_⟩) ?_
 rotate_left 1
 ·((intro w hSw;(try dsimp only at hSw);unfold fmaker1_7;go_simp)<;>with_reducible rfl)
 (try simp only [Act.put,List.setIfInBounds_toArray,List.set_cons_zero,List.set_cons_succ])
 refine take_at 8 15 fmaker1_8 (yields_part (w.heap.size) (7) 38 (.tmp 14) #[.int .i64 b.k,.int .i64 b.i,.int .i64 b.j,.int .i64 b.n,(.slice ab b.kids.length cb)] du (fun _ h=>sees_blk Hx1.out (by have:=Z0.out;omega) (sees_of Kk11.out h)) (by rfl) rfl (by rfl) (by rfl) hu1 (by cases du<;>first | rfl | exact hu2) size_term) ?_
 (try simp only [Act.put,List.setIfInBounds_toArray,List.set_cons_zero,List.set_cons_succ])
 refine take_at 10 17 fmaker1_10 (v:=?_) (Or.inl ⟨by rfl,?_⟩) ?_
 rotate_left 1
 ·((intro w hSw;(try dsimp only at hSw);unfold fmaker1_10;go_simp)<;>with_reducible rfl)
 (try simp only [Act.put,List.setIfInBounds_toArray,List.set_cons_zero,List.set_cons_succ])
 refine wpAnyH_ready (rs:=[9]) (by kernel_rfl) (by simp) ?_
 refine AllReadyH.cons (o:=fmaker1_9) rfl (fun K hK=>?_) ?_
 ·unfold fmaker1_9
  go_simp
  refine at_K (fun W13 hW13=>?_)
  obtain⟨g17,hg18,Kk15,Hx14,Hz16,KV19,HN20⟩:=alloc1v Kk11.out hW13
  rw [hg18]
  clear hW13
  have HR21:=Lib.hid (q_row2 Hx14.out Ga.out (HLa.out.later KV19.out) Gb.out (HLb.out.later KV19.out) (par_newg HN20.out (fun h=>nomatch h)))
  clear hg18
  clear hHeld
  refine hK.out _ _ (sees_kept _ Kk15.out) (fun hHeld=>?_)
  clear hK K
  (try simp only [Act.put,List.setIfInBounds_toArray,List.set_cons_zero,List.set_cons_succ])
  refine wpAnyH_ready (rs:=[11]) (by kernel_rfl) (by simp) ?_
  refine AllReadyH.cons (o:=fmaker1_11) rfl (fun K hK=>?_) ?_
  ·unfold fmaker1_11
   refine step_append_list rfl (.tmp 16) (.tmp 17) rfl [a,b] more (.slice (some ⟨g17,0,none⟩) 2 2) (.slice amore more.length cmore) rfl rfl HR21.out (HLmore.out.later KV19.out) ⟨_,rfl⟩ (Nat.le_of_ble_eq_true rfl) (app_len3 HLL.out) ?_
   intro s24 w22 hl25 k23
   obtain⟨a26,c27,S28,rfl,-⟩:=hl25.out
   have Kk29:=Lib.hid k23
   clear k23
   have Hhl25:Hid (LiesQ w22 (Par w V0.heap.size [] P) ([a,b]++more) _):=par_give hl25 (Below.size KV19.out) (xlt_nil _)
   clear hl25
   clear hHeld
   refine hK.out _ _ (sees_kept _ (kept_trans Kk15.out Kk29.out)) (fun hHeld=>?_)
   clear hK K
   (try simp only [Act.put,List.setIfInBounds_toArray,List.set_cons_zero,List.set_cons_succ])
   refine take_at 12 19 fmaker1_12 (v:=?_) (Or.inl ⟨by rfl,?_⟩) ?_
   rotate_left 1
   ·((intro w hSw;(try dsimp only at hSw);unfold fmaker1_12;go_simp)<;>with_reducible rfl)
   (try simp only [Act.put,List.setIfInBounds_toArray,List.set_cons_zero,List.set_cons_succ])
   refine wpAnyH_ready (rs:=[13]) (by kernel_rfl) (by simp) ?_
   refine AllReadyH.cons (o:=fmaker1_13) rfl (fun K hK=>?_) ?_
   ·unfold fmaker1_13
    refine step_store_part rfl 38 (.tmp 6) (.tmp 19) rfl (w.heap.size+1) 0 #[.int .i64 k,.int .i64 i,.int .i64 j,.int .i64 0,(.slice a26 (List.length ([a,b]++more)) c27)] rfl rfl 38 size_term (row_ok rfl) _ #[.int .i64 k,.int .i64 i,.int .i64 j,.int .i64 0,(.slice a26 (List.length ([a,b]++more)) c27)] (blk_at Hx2.out (kept_trans Kk11.out (kept_trans Kk15.out Kk29.out))) rfl (Nat.le_of_ble_eq_true rfl) ?_
    intro W30 hW30
    clear hHeld
    refine hK.out _ _ (sees_set (kept_trans Kk15.out Kk29.out) hW30) (fun hHeld=>?_)
    clear hK K
    (try simp only [Act.put])
    refine wpAnyH_done (by kernel_rfl) ?_ _
    clear hHeld
    go_wp2_with fail
    refine bodyPost_ret (results_cell_row rfl _ _ (w.heap.size+1) 38 _ _ du rfl (blk_same (blk_at Hx2.out (kept_trans Kk11.out (kept_trans Kk15.out Kk29.out))) hW30) hu1 (by cases du<;>first | rfl | exact hu2) size_term) rfl ?_
    rw [show(fmk k i j a b more)=(Tm.mk k i j 0 ([a,b]++more)) from by unfold fmk;(try rfl)]
    exact⟨_,rfl,par_end (par_row' Hhl25.out hW30 (by omega) (by have:=Z0.out;omega)) (by have:=Z0.out;omega),kept_set (kept_trans Kk5.out (kept_trans Kk11.out (kept_trans Kk15.out Kk29.out))) hW30 (by omega)⟩
   exact AllReadyH.nil
  exact AllReadyH.nil
 exact AllReadyH.nil
def fotherr1_0:Oper:={dst:=some 7,op:=Go.Op.move (Go.Operand.tmp 1),type:=3,pos := "rule.go:123",after:=#[],guard:=none}
def fotherr1_1:Oper:={dst:=some 8,op:=Go.Op.fieldAddr 88 (Go.Operand.tmp 3) 0,type:=0,pos := "rule.go:123",after:=#[],guard:=none}
def fotherr1_2:Oper:={dst:=some 9,op:=Go.Op.load 3 (Go.Operand.tmp 8),type:=3,pos := "rule.go:123",after:=#[{on:=1,ground:=Go.Ground.data}],guard:=none}
def fotherr1_3:Oper:={dst:=some 10,op:=Go.Op.fieldAddr 88 (Go.Operand.tmp 3) 1,type:=0,pos := "rule.go:123",after:=#[],guard:=none}
def fotherr1_4:Oper:={dst:=some 11,op:=Go.Op.load 3 (Go.Operand.tmp 10),type:=3,pos := "rule.go:123",after:=#[{on:=3,ground:=Go.Ground.data}],guard:=none}
def fotherr1_5:Oper:={dst:=some 12,op:=Go.Op.fieldAddr 88 (Go.Operand.tmp 3) 4,type:=0,pos := "rule.go:123",after:=#[],guard:=none}
def fotherr1_6:Oper:={dst:=some 13,op:=Go.Op.load 38 (Go.Operand.tmp 12),type:=38,pos := "rule.go:123",after:=#[{on:=5,ground:=Go.Ground.data}],guard:=none}
def fotherr1_7:Oper:={dst:=some 14,op:=Go.Op.fieldAddr 88 (Go.Operand.tmp 3) 5,type:=0,pos := "rule.go:123",after:=#[],guard:=none}
def fotherr1_8:Oper:={dst:=some 15,op:=Go.Op.load 38 (Go.Operand.tmp 14),type:=38,pos := "rule.go:123",after:=#[{on:=7,ground:=Go.Ground.data}],guard:=none}
def fotherr1_9:Oper:={dst:=some 16,op:=Go.Op.buildSlice 36 2 #[(0,Go.Operand.tmp 13),(1,Go.Operand.tmp 15)],type:=36,pos := "rule.go:123",after:=#[{on:=6,ground:=Go.Ground.data},{on:=8,ground:=Go.Ground.data}],guard:=none}
def fotherr1_10:Oper:={dst:=some 17,op:=Go.Op.move (Go.Operand.tmp 2),type:=36,pos := "rule.go:123",after:=#[],guard:=none}
def fotherr1_11:Oper:={dst:=some 18,op:=Go.Op.call {callee:=Go.Callee.builtin Go.Builtin.append,args:=#[Go.Operand.tmp 16,Go.Operand.tmp 17],argTypes:=#[36,36] },type:=36,pos := "rule.go:123",after:=#[{on:=9,ground:=Go.Ground.data},{on:=10,ground:=Go.Ground.data}],guard:=none}
def fotherr1_12:Oper:={dst:=some 19,op:=Go.Op.build 38 #[(0,Go.Operand.tmp 7),(1,Go.Operand.tmp 9),(2,Go.Operand.tmp 11),(4,Go.Operand.tmp 18)],type:=38,pos := "rule.go:123",after:=#[{on:=0,ground:=Go.Ground.data},{on:=2,ground:=Go.Ground.data},{on:=4,ground:=Go.Ground.data},{on:=11,ground:=Go.Ground.data}],guard:=none}
def fotherr1_13:Oper:={dst:=none,op:=Go.Op.store 38 (Go.Operand.tmp 6) (Go.Operand.tmp 19),type:=0,pos := "rule.go:123",after:=#[{on:=12,ground:=Go.Ground.data},{on:=11,ground:=Go.Ground.chain},{on:=0,ground:=Go.Ground.phase},{on:=1,ground:=Go.Ground.phase},{on:=2,ground:=Go.Ground.phase},{on:=3,ground:=Go.Ground.phase},{on:=4,ground:=Go.Ground.phase},{on:=5,ground:=Go.Ground.phase},{on:=6,ground:=Go.Ground.phase},{on:=7,ground:=Go.Ground.phase},{on:=8,ground:=Go.Ground.phase},{on:=9,ground:=Go.Ground.phase},{on:=10,ground:=Go.Ground.phase},{on:=11,ground:=Go.Ground.phase},{on:=12,ground:=Go.Ground.phase}],guard:=none}
set_option maxRecDepth 20000 in
set_option maxHeartbeats 4000000 in
theorem fother_any (k:Int) (i j:Int) (ok:Bool) (a:Tm) (b:Tm) (c:Tm) (d:Tm) (more:List Tm) (P:Nat→Prop) (w:World) (sa:Value) (sb:Value) (sc:Value) (sd:Value) (smore:Value) (hri:I64 i) (hrj:I64 j) (hfa:a.fine) (hla:LiesQ w P a.kids sa) (hfb:b.fine) (hlb:LiesQ w P b.kids sb) (hfc:c.fine) (hlc:LiesQ w P c.kids sc) (hfd:d.fine) (hld:LiesQ w P d.kids sd) (hrk:I64 k) (hlmore:LiesQ w P more smore) (hll:more.length≤10):Calls Try.prog 83 #[.agg #[.int .i64 i,.int .i64 j,.int .i64 a.k,.int .i64 a.i,.int .i64 a.j,.int .i64 a.n,sa,.int .i64 b.k,.int .i64 b.i,.int .i64 b.j,.int .i64 b.n,sb,.int .i64 c.k,.int .i64 c.i,.int .i64 c.j,.int .i64 c.n,sc,.int .i64 d.k,.int .i64 d.i,.int .i64 d.j,.int .i64 d.n,sd,.bool ok],.int .i64 k,smore] w (GivesP P (fmk k i j c d more) w):=by
 have Ri:=Lib.hid hri
 have Rj:=Lib.hid hrj
 clear hri hrj
 have Ga:=Lib.hid hfa
 clear hfa
 obtain⟨aa,ca,Sa,rfl,-⟩:=hla.out
 have Gb:=Lib.hid hfb
 clear hfb
 obtain⟨ab,cb,Sb,rfl,-⟩:=hlb.out
 have Gc:=Lib.hid hfc
 clear hfc
 obtain⟨ac,cc,Sc,rfl,-⟩:=hlc.out
 have Gd:=Lib.hid hfd
 clear hfd
 obtain⟨ad,cd,Sd,rfl,-⟩:=hld.out
 have Rk:=Lib.hid hrk
 clear hrk
 obtain⟨amore,cmore,Smore,rfl,-⟩:=hlmore.out
 have HLL:=Lib.hid hll
 clear hll
 obtain⟨du,hu1,hu2⟩:=under_term
 obtain⟨df,df1,df2⟩:=under_of 88 (by kernel_rfl)
 go_enter Try.func83,Try.ntmps83
 go_upto_region 1 with fail
 refine at_code (fun V0 hV0=>?_)
 obtain⟨k3,x1,x2,z4⟩:=alloc2 hV0
 have Kk5:=Lib.hid k3
 clear k3
 have Hx1:=Lib.hid x1
 have Hx2:=Lib.hid x2
 have Z0:=Lib.hid z4
 clear z4 x1 x2 hV0
 have HLa:Hid (LiesQ V0 (Par w V0.heap.size [] P) a.kids _):=(par_in _ _ hla).later Kk5.out
 clear hla
 have HLb:Hid (LiesQ V0 (Par w V0.heap.size [] P) b.kids _):=(par_in _ _ hlb).later Kk5.out
 clear hlb
 have HLc:Hid (LiesQ V0 (Par w V0.heap.size [] P) c.kids _):=(par_in _ _ hlc).later Kk5.out
 clear hlc
 have HLd:Hid (LiesQ V0 (Par w V0.heap.size [] P) d.kids _):=(par_in _ _ hld).later Kk5.out
 clear hld
 have HLmore:Hid (LiesQ V0 (Par w V0.heap.size [] P) more _):=(par_in _ _ hlmore).later Kk5.out
 clear hlmore
 have ld6:=part_cell (r:=(w.heap.size+1)) Hx1.out (by have:=Z0.out;omega) 0 (.int .i64 i) rfl
 have ld7:=part_cell (r:=(w.heap.size+1)) Hx1.out (by have:=Z0.out;omega) 1 (.int .i64 j) rfl
 have kvV0:Sees V0 (w.heap.size+1) V0:=sees_kept _ (kept_refl _)
 go_wp2_with fail
 clear kvV0
 obtain⟨W8,h9⟩:∃ x,World.drew V0=x:=⟨_,rfl⟩
 have k10:Kept V0 W8:=by rw [←h9];exact kept_drew (kept_refl _)
 have Kk11:=Lib.hid k10
 clear k10
 refine wp_region_held_drew (S:=Sees W8 (w.heap.size+1)) (by kernel_rfl) ?_ (fun hHeld=>?_)
 ·(try dsimp only)
  rw [h9]
  exact sees_kept _ (kept_refl _)
 rw [h9] at hHeld ⊢
 clear h9
 refine take_at 0 7 fotherr1_0 (v:=?_) (Or.inl ⟨by rfl,?_⟩) ?_
 rotate_left 1
 ·((intro w hSw;(try dsimp only at hSw);unfold fotherr1_0;go_simp)<;>with_reducible rfl)
 (try simp only [Act.put,List.setIfInBounds_toArray,List.set_cons_zero,List.set_cons_succ])
 refine take_at 1 8 fotherr1_1 (v:=?_) (Or.inl ⟨by rfl,?_⟩) ?_
 rotate_left 1
 ·((intro w hSw;(try dsimp only at hSw);unfold fotherr1_1;go_simp)<;>with_reducible rfl)
 (try simp only [Act.put,List.setIfInBounds_toArray,List.set_cons_zero,List.set_cons_succ])
 refine take_at 2 9 fotherr1_2 (v:=?_) (Or.inl ⟨by rfl,?_⟩) ?_
 rotate_left 1
 ·((intro w hSw;(try dsimp only at hSw);have qV0:=sees_of Kk11.out hSw;unfold fotherr1_2;go_simp)<;>with_reducible rfl)
 (try simp only [Act.put,List.setIfInBounds_toArray,List.set_cons_zero,List.set_cons_succ])
 refine take_at 3 10 fotherr1_3 (v:=?_) (Or.inl ⟨by rfl,?_⟩) ?_
 rotate_left 1
 ·((intro w hSw;(try dsimp only at hSw);unfold fotherr1_3;go_simp)<;>with_reducible rfl)
 (try simp only [Act.put,List.setIfInBounds_toArray,List.set_cons_zero,List.set_cons_succ])
 refine take_at 4 11 fotherr1_4 (v:=?_) (Or.inl ⟨by rfl,?_⟩) ?_
 rotate_left 1
 ·((intro w hSw;(try dsimp only at hSw);have qV0:=sees_of Kk11.out hSw;unfold fotherr1_4;go_simp)<;>with_reducible rfl)
 (try simp only [Act.put,List.setIfInBounds_toArray,List.set_cons_zero,List.set_cons_succ])
 refine take_at 5 12 fotherr1_5 (v:=?_) (Or.inl ⟨by rfl,?_⟩) ?_
 rotate_left 1
 ·((intro w hSw;(try dsimp only at hSw);unfold fotherr1_5;go_simp)<;>with_reducible rfl)
 (try simp only [Act.put,List.setIfInBounds_toArray,List.set_cons_zero,List.set_cons_succ])
 refine take_at 6 13 fotherr1_6 (yields_part (w.heap.size) (12) 38 (.tmp 12) #[.int .i64 c.k,.int .i64 c.i,.int .i64 c.j,.int .i64 c.n,(.slice ac c.kids.length cc)] du (fun _ h=>sees_blk Hx1.out (by have:=Z0.out;omega) (sees_of Kk11.out h)) (by rfl) rfl (by rfl) (by rfl) hu1 (by cases du<;>first | rfl | exact hu2) size_term) ?_
 (try simp only [Act.put,List.setIfInBounds_toArray,List.set_cons_zero,List.set_cons_succ])
 refine take_at 7 14 fotherr1_7 (v:=?_) (Or.inl ⟨by rfl,?_⟩) ?_
 rotate_left 1
 ·((intro w hSw;(try dsimp only at hSw);unfold fotherr1_7;go_simp)<;>with_reducible rfl)
 (try simp only [Act.put,List.setIfInBounds_toArray,List.set_cons_zero,List.set_cons_succ])
 refine take_at 8 15 fotherr1_8 (yields_part (w.heap.size) (17) 38 (.tmp 14) #[.int .i64 d.k,.int .i64 d.i,.int .i64 d.j,.int .i64 d.n,(.slice ad d.kids.length cd)] du (fun _ h=>sees_blk Hx1.out (by have:=Z0.out;omega) (sees_of Kk11.out h)) (by rfl) rfl (by rfl) (by rfl) hu1 (by cases du<;>first | rfl | exact hu2) size_term) ?_
 (try simp only [Act.put,List.setIfInBounds_toArray,List.set_cons_zero,List.set_cons_succ])
 refine take_at 10 17 fotherr1_10 (v:=?_) (Or.inl ⟨by rfl,?_⟩) ?_
 rotate_left 1
 ·((intro w hSw;(try dsimp only at hSw);unfold fotherr1_10;go_simp)<;>with_reducible rfl)
 (try simp only [Act.put,List.setIfInBounds_toArray,List.set_cons_zero,List.set_cons_succ])
 refine wpAnyH_ready (rs:=[9]) (by kernel_rfl) (by simp) ?_
 refine AllReadyH.cons (o:=fotherr1_9) rfl (fun K hK=>?_) ?_
 ·unfold fotherr1_9
  go_simp
  refine at_K (fun W13 hW13=>?_)
  obtain⟨g17,hg18,Kk15,Hx14,Hz16,KV19,HN20⟩:=alloc1v Kk11.out hW13
  rw [hg18]
  clear hW13
  have HR21:=Lib.hid (q_row2 Hx14.out Gc.out (HLc.out.later KV19.out) Gd.out (HLd.out.later KV19.out) (par_newg HN20.out (fun h=>nomatch h)))
  clear hg18
  clear hHeld
  refine hK.out _ _ (sees_kept _ Kk15.out) (fun hHeld=>?_)
  clear hK K
  (try simp only [Act.put,List.setIfInBounds_toArray,List.set_cons_zero,List.set_cons_succ])
  refine wpAnyH_ready (rs:=[11]) (by kernel_rfl) (by simp) ?_
  refine AllReadyH.cons (o:=fotherr1_11) rfl (fun K hK=>?_) ?_
  ·unfold fotherr1_11
   refine step_append_list rfl (.tmp 16) (.tmp 17) rfl [c,d] more (.slice (some ⟨g17,0,none⟩) 2 2) (.slice amore more.length cmore) rfl rfl HR21.out (HLmore.out.later KV19.out) ⟨_,rfl⟩ (Nat.le_of_ble_eq_true rfl) (app_len3 HLL.out) ?_
   intro s24 w22 hl25 k23
   obtain⟨a26,c27,S28,rfl,-⟩:=hl25.out
   have Kk29:=Lib.hid k23
   clear k23
   have Hhl25:Hid (LiesQ w22 (Par w V0.heap.size [] P) ([c,d]++more) _):=par_give hl25 (Below.size KV19.out) (xlt_nil _)
   clear hl25
   clear hHeld
   refine hK.out _ _ (sees_kept _ (kept_trans Kk15.out Kk29.out)) (fun hHeld=>?_)
   clear hK K
   (try simp only [Act.put,List.setIfInBounds_toArray,List.set_cons_zero,List.set_cons_succ])
   refine take_at 12 19 fotherr1_12 (v:=?_) (Or.inl ⟨by rfl,?_⟩) ?_
   rotate_left 1
   ·((intro w hSw;(try dsimp only at hSw);unfold fotherr1_12;go_simp)<;>with_reducible rfl)
   (try simp only [Act.put,List.setIfInBounds_toArray,List.set_cons_zero,List.set_cons_succ])
   refine wpAnyH_ready (rs:=[13]) (by kernel_rfl) (by simp) ?_
   refine AllReadyH.cons (o:=fotherr1_13) rfl (fun K hK=>?_) ?_
   ·unfold fotherr1_13
    refine step_store_part rfl 38 (.tmp 6) (.tmp 19) rfl (w.heap.size+1) 0 #[.int .i64 k,.int .i64 i,.int .i64 j,.int .i64 0,(.slice a26 (List.length ([c,d]++more)) c27)] rfl rfl 38 size_term (row_ok rfl) _ #[.int .i64 k,.int .i64 i,.int .i64 j,.int .i64 0,(.slice a26 (List.length ([c,d]++more)) c27)] (blk_at Hx2.out (kept_trans Kk11.out (kept_trans Kk15.out Kk29.out))) rfl (Nat.le_of_ble_eq_true rfl) ?_
    intro W30 hW30
    clear hHeld
    refine hK.out _ _ (sees_set (kept_trans Kk15.out Kk29.out) hW30) (fun hHeld=>?_)
    clear hK K
    (try simp only [Act.put])
    refine wpAnyH_done (by kernel_rfl) ?_ _
    clear hHeld
    go_wp2_with fail
    refine bodyPost_ret (results_cell_row rfl _ _ (w.heap.size+1) 38 _ _ du rfl (blk_same (blk_at Hx2.out (kept_trans Kk11.out (kept_trans Kk15.out Kk29.out))) hW30) hu1 (by cases du<;>first | rfl | exact hu2) size_term) rfl ?_
    rw [show(fmk k i j c d more)=(Tm.mk k i j 0 ([c,d]++more)) from by unfold fmk;(try rfl)]
    exact⟨_,rfl,par_end (par_row' Hhl25.out hW30 (by omega) (by have:=Z0.out;omega)) (by have:=Z0.out;omega),kept_set (kept_trans Kk5.out (kept_trans Kk11.out (kept_trans Kk15.out Kk29.out))) hW30 (by omega)⟩
   exact AllReadyH.nil
  exact AllReadyH.nil
 exact AllReadyH.nil
end Go.Proofs.Ytgnllglbopaheaa

namespace Go.Proofs.Ytgnllglbopaheaa
open Go.RowKit
theorem results_cell_tmp2 {P:Program} {fn:Func} {p q r:Tmp} {ty:TypeId} (h:fn.results=#[.cell p ty,.tmp q,.tmp r]) (tmps:Array Value) (w:World) (g:Nat) (t:TypeId) (cs:Array Value) (fr:Nat × Nat) (d:TypeDesc)
 (hp:tmps.getD p undef=.pointer (some ⟨g,0,none⟩)) (hg:w.heap[g]? =some (.cells cs t fr))
 (hu:P.underlying ty=some d) (hd:(match d with | .struct _ | .array _ _=>true | _=>false)=true) (hi:(P.info? ty).map (·.size)=some cs.size) :
 (results fn tmps).run P w=.ok (.tuple #[.agg cs,tmps.getD q undef,tmps.getD r undef]) w:=by
 have hp':tmps[p]?.getD undef=.pointer (some ⟨g,0,none⟩):=by simpa using hp
 simp [results,h,hp',asAddr,run_loadVar_row w g t ty cs fr d hg hu hd hi]
theorem under_value:∃ d,Try.prog.underlying 101=some d∧(match d with | .struct _ | .array _ _=>true | _=>false)=true:=by
 have h:(Try.prog.underlying 101).map (fun d=>match d with | .struct _ | .array _ _=>true | _=>false)=some true:=by kernel_rfl
 cases e:Try.prog.underlying 101 with
 | none=>rw [e] at h;cases h
 | some d=>rw [e] at h;exact⟨d,rfl,Option.some.inj h⟩
theorem size_value:(Try.prog.info? 101).map (·.size)=some 10:=by kernel_rfl
theorem ten_cells {w:World} {g:Nat} {v0 v1 v2 v3 v4 v5 v6 v7 v8 v9:Value} {T:TypeId} {fr:Nat × Nat} (h:w.heap[g]? =some (.cells #[v0,v1,v2,v3,v4,v5,v6,v7,v8,v9] T fr)):w.cell? ⟨g,0,none⟩=some v0∧w.cell? ⟨g,1,none⟩=some v1∧w.cell? ⟨g,2,none⟩=some v2∧w.cell? ⟨g,3,none⟩=some v3∧w.cell? ⟨g,4,none⟩=some v4∧w.cell? ⟨g,5,none⟩=some v5∧w.cell? ⟨g,6,none⟩=some v6∧w.cell? ⟨g,7,none⟩=some v7∧w.cell? ⟨g,8,none⟩=some v8∧w.cell? ⟨g,9,none⟩=some v9:=by
 have c:=fun q=>cell_of_row w g q _ _ _ h
 exact⟨by rw [c];rfl,by rw [c];rfl,by rw [c];rfl,by rw [c];rfl,by rw [c];rfl,by rw [c];rfl,by rw [c];rfl,by rw [c];rfl,by rw [c];rfl,by rw [c];rfl⟩
theorem ten_free {w:World} {g:Nat} {v0 v1 v2 v3 v4 v5 v6 v7 v8 v9:Value} {T:TypeId} (h:w.heap[g]? =some (.cells #[v0,v1,v2,v3,v4,v5,v6,v7,v8,v9] T (0,0))) (q:Nat):w.frozen? ⟨g,q,none⟩=false:=open_unfrozen h q
theorem ten_set {w:World} {g:Nat} {z0 z1 z2 z3 z4 z5 z6 z7 z8 z9 v0 v1 v2 v3 v4 v5 v6 v7 v8 v9:Value} {T:TypeId} (h:w.heap[g]? =some (.cells #[z0,z1,z2,z3,z4,z5,z6,z7,z8,z9] T (0,0))):((((((((((w.setCell ⟨g,0,none⟩ v0).setCell ⟨g,1,none⟩ v1).setCell ⟨g,2,none⟩ v2).setCell ⟨g,3,none⟩ v3).setCell ⟨g,4,none⟩ v4).setCell ⟨g,5,none⟩ v5).setCell ⟨g,6,none⟩ v6).setCell ⟨g,7,none⟩ v7).setCell ⟨g,8,none⟩ v8).setCell ⟨g,9,none⟩ v9).heap[g]? =some (.cells #[v0,v1,v2,v3,v4,v5,v6,v7,v8,v9] T (0,0)):=by
 have h5:(((((w.setCell ⟨g,0,none⟩ v0).setCell ⟨g,1,none⟩ v1).setCell ⟨g,2,none⟩ v2).setCell ⟨g,3,none⟩ v3).setCell ⟨g,4,none⟩ v4).heap[g]? =some (.cells #[v0,v1,v2,v3,v4,z5,z6,z7,z8,z9] T (0,0)):=heap_setCell_same _ _ _ _ _ _ (heap_setCell_same _ _ _ _ _ _ (heap_setCell_same _ _ _ _ _ _ (heap_setCell_same _ _ _ _ _ _ (heap_setCell_same _ _ _ _ _ _ h))))
 exact heap_setCell_same _ _ _ _ _ _ (heap_setCell_same _ _ _ _ _ _ (heap_setCell_same _ _ _ _ _ _ (heap_setCell_same _ _ _ _ _ _ (heap_setCell_same _ _ _ _ _ _ h5))))
def GivesN (r:Option Tm) (w:World) (e:Ending) (w':World):Prop:=Below w.heap.size w w' ∧
 ((∃ u s',r=some u∧e=.returned (.tuple #[tv u s',.bool true])∧LiesP w' (Own w.heap.size w') u.kids s')∨(∃ (z:Tm) (a:Option Addr) (n cap:Nat),r=none∧e=.returned (.tuple #[tv z (.slice a n cap),.bool false])))
set_option maxHeartbeats 1000000 in
theorem fits_any (t u:Tm) (w:World) (s r:Value) (hl:Lies w t.kids s) (hm:Lies w u.kids r):Calls Try.prog 68 #[tv t s,tv u r] w fun e w'=>e=.returned (.bool (fitsB t u))∧Below w.heap.size w w':=by
 obtain⟨a,cap,S,rfl,-⟩:=hl.out
 obtain⟨a2,cap2,S2,rfl,-⟩:=hm.out
 have HL:=Lib.hid hl
 have HM:=Lib.hid hm
 have H0:=held2_start w t (.slice a t.kids.length cap) u (.slice a2 u.kids.length cap2)
 clear hl hm
 unfold tv
 by_cases h1:t.k≤2
 ·have e1:decide (t.k≤2)=true:=by simpa using h1
  have HR:=Lib.hid (show fitsB t u=u.rightB by unfold fitsB;rw [if_pos (Or.inl h1)])
  clear h1
  go_enter Try.func68,Try.ntmps68
  go_wp2_with fail
  refine(right_any u _ _ (held2_lies H0 HM.out)).mono ?_
  rintro e w1 ⟨rfl,hb1⟩
  have H1:=held2_call H0 hb1
  clear hb1
  go_wp2
  go_ret
  exact⟨ret_bool HR.out.symm,held2_below H1⟩
 have e1:decide (t.k≤2)=false:=by simpa using h1
 by_cases h2:12<t.k
 ·have e2:decide (12<t.k)=true:=by simpa using h2
  have HR:=Lib.hid (show fitsB t u=u.rightB by unfold fitsB;rw [if_pos (Or.inr h2)])
  clear h1 h2
  go_enter Try.func68,Try.ntmps68
  go_wp2_with fail
  refine(right_any u _ _ (held2_lies H0 HM.out)).mono ?_
  rintro e w1 ⟨rfl,hb1⟩
  have H1:=held2_call H0 hb1
  clear hb1
  go_wp2
  go_ret
  exact⟨ret_bool HR.out.symm,held2_below H1⟩
 have e2:decide (12<t.k)=false:=by simpa using h2
 have HR:=Lib.hid (show fitsB t u=u.markedB by unfold fitsB;rw [if_neg (by omega)])
 clear h1 h2
 go_enter Try.func68,Try.ntmps68
 go_wp2_with fail
 refine(marked_any u _ _ (held2_lies H0 HM.out)).mono ?_
 rintro e w1 ⟨rfl,hb1⟩
 have H1:=held2_call H0 hb1
 clear hb1
 go_wp2
 go_ret
 exact⟨ret_bool HR.out.symm,held2_below H1⟩
theorem plainPlace_any (t:Tm) (w:World) (s:Value):Calls Try.prog 72 #[tv t s] w fun e w'=>e=.returned (.bool (decide (12<t.k)))∧Below w.heap.size w w':=by
 unfold tv
 go_enter Try.func72,Try.ntmps72
 go_wp2
 go_ret
 exact⟨rfl,(Below.refl _ _).alloc (Nat.le_refl _) _⟩
set_option maxHeartbeats 1000000 in
theorem putc_zero (n:Int) (hn:n=0) (w:World) (bv:Nat) (u x:Tm) (a1 a2:Option Addr) (n1 p1 n2 p2:Nat) (fr:Nat × Nat) (h:w.heap[bv]? =some (.cells #[.int .i64 u.k,.int .i64 u.i,.int .i64 u.j,.int .i64 u.n,.slice a1 n1 p1,.int .i64 x.k,.int .i64 x.i,.int .i64 x.j,.int .i64 x.n,.slice a2 n2 p2] 101 fr)) :
 Calls Try.prog 70 #[.int .i64 n,.pointer (some ⟨bv,0,none⟩)] w fun e w'=>e=.returned (.tuple #[.agg #[.int .i64 u.k,.int .i64 u.i,.int .i64 u.j,.int .i64 u.n,.slice a1 n1 p1,.int .i64 x.k,.int .i64 x.i,.int .i64 x.j,.int .i64 x.n,.slice a2 n2 p2],.int .i64 (-1),.bool true])∧Below w.heap.size w w':=by
 obtain⟨dv,hv1,hv2⟩:=under_value
 obtain⟨c0,c1,c2,c3,c4,c5,c6,c7,c8,c9⟩:=ten_cells h
 have hlt:bv<w.heap.size:=block_lt h
 have e1:(n==0)=true:=by simpa using hn
 clear hn h
 go_enter Try.func70,Try.ntmps70
 go_wp2
 (try simp only [Exit.inBlock,Exit.then])
 refine bodyPost_ret (results_cell_tmp2 rfl _ _ (w.heap.size) _ _ _ dv rfl (alloc_new _ _) hv1 (by cases dv<;>first | rfl | exact hv2) size_value) rfl ?_
 exact⟨rfl,(Below.refl _ _).alloc (Nat.le_refl _) _⟩
set_option maxHeartbeats 1000000 in
theorem putc_next (n:Int) (hn:n≠0) (h0:0≤n) (h1:n≤2147483647) (w:World) (bv:Nat) :
 Calls Try.prog 70 #[.int .i64 n,.pointer (some ⟨bv,0,none⟩)] w fun e w'=>e=.returned (.tuple #[.agg #[.int .i64 0,.int .i64 0,.int .i64 0,.int .i64 0,.slice none 0 0,.int .i64 0,.int .i64 0,.int .i64 0,.int .i64 0,.slice none 0 0],.int .i64 (n-1),.bool true])∧Below w.heap.size w w':=by
 obtain⟨dv,hv1,hv2⟩:=under_value
 have e1:(n==0)=false:=by simpa using hn
 clear hn
 go_enter Try.func70,Try.ntmps70
 go_wp2
 (try simp only [Exit.inBlock,Exit.then])
 refine bodyPost_ret (results_cell_tmp2 rfl _ _ (w.heap.size) _ _ _ dv rfl (alloc_new _ _) hv1 (by cases dv<;>first | rfl | exact hv2) size_value) rfl ?_
 exact⟨rfl,(Below.refl _ _).alloc (Nat.le_refl _) _⟩
end Go.Proofs.Ytgnllglbopaheaa

namespace Go.Proofs.Ytgnllglbopaheaa
open Go.RowKit
theorem liftB_fin {u:Tm} {b:Int} (hb:0≤b) (hu:u.rightB=true):(((u.liftB b 0).k != 0)=false∧u.each (liftF b 0) 0=none)∨(((u.liftB b 0).k != 0)=true∧u.each (liftF b 0) 0=some (u.liftB b 0)):=by
 rw [liftB_good hb (Int.le_refl _) hu]
 cases hx:u.each (liftF b 0) 0 with
 | none=>exact Or.inl ⟨rfl,rfl⟩
 | some x =>
  have hk:=Tm.node_kind (Tm.right_node (right_each _ (liftF_range b 0 hb) u 0 x hu hx))
  refine Or.inr ⟨?_,rfl⟩
  show(x.k != 0)=true
  simp;omega
set_option maxRecDepth 20000 in
set_option maxHeartbeats 2000000 in
theorem variable_put (u:Tm) (hu:u.rightB=true) (hd:u.deep≤100000) (bv:Nat) (a1 a2:Option Addr) (p1 p2:Nat) (fr:Nat × Nat) (v b:Int) (pl:Bool) (w:World) (h0:0≤v) (h1:v≤2147483647) (hb0:0≤b) (hb1:b≤2000000)
 (hV0:w.heap[bv]? =some (.cells #[.int .i64 u.k,.int .i64 u.i,.int .i64 u.j,.int .i64 u.n,.slice a1 u.kids.length p1,.int .i64 u.bare.k,.int .i64 u.bare.i,.int .i64 u.bare.j,.int .i64 u.bare.n,.slice a2 u.bare.kids.length p2] 101 fr)) (hl:Lies w u.kids (.slice a1 u.kids.length p1)) (hlb:Lies w u.bare.kids (.slice a2 u.bare.kids.length p2)) :
 Calls Try.prog 82 #[.agg #[.func (.func 70) #[] #[.pointer (some ⟨bv,0,none⟩)]],.int .i64 v,.int .i64 b,.bool pl] w (GivesN (gPut u v b pl) w):=by
 obtain⟨du,hu1,hu2⟩:=under_term
 have HL:=Lib.hid hl
 have HLB:=Lib.hid hlb
 have HV:=Lib.hid hV0
 clear hl hlb hV0
 have hbW:Below w.heap.size w ((w.alloc (.cells #[.func (.func 70) #[] #[.pointer (some ⟨bv,0,none⟩)]] 104)).alloc (.cells #[.int .i64 0,.int .i64 0,.int .i64 0,.int .i64 0,.slice none 0 0] 38)):=((Below.refl _ _).alloc (Nat.le_refl _) _).alloc (by simp) _
 have hz:((w.alloc (.cells #[.func (.func 70) #[] #[.pointer (some ⟨bv,0,none⟩)]] 104)).alloc (.cells #[.int .i64 0,.int .i64 0,.int .i64 0,.int .i64 0,.slice none 0 0] 38)).heap[w.heap.size+1]? =some zeroObj:=heap_alloc2_new _ _ _
 by_cases hv:v<b
 ·have e1:decide (v<b)=true:=by simpa using hv
  have HG:=Lib.hid (show gPut u v b pl=some (varT v) by unfold gPut;rw [if_pos hv])
  clear hv hz
  go_enter Try.func82,Try.ntmps82
  go_wp2
  (try simp only [Exit.inBlock,Exit.then])
  refine bodyPost_ret (results_cell_tmp rfl _ _ (w.heap.size+1) _ _ _ du rfl (heap_alloc2_new _ _ _) hu1 (by cases du<;>first | rfl | exact hu2) size_term) rfl ?_
  rw [HG.out]
  exact⟨((Below.refl _ _).alloc (Nat.le_refl _) _).alloc (by simp) _,Or.inl ⟨varT v,.slice none 0 0,rfl,rfl,liesP_nil _ _⟩⟩
 have e1:decide (v<b)=false:=by simpa using hv
 have hsub:IntKind.i64.wrap (v-b)=v-b:=IntWalk.i64_in _ (by omega)
 have hbi:I64 b:=by unfold I64;omega
 have h0i:I64 0:=by unfold I64;omega
 by_cases he:v=b
 ·cases pl with
  | false =>
   have HG:=Lib.hid (show gPut u v b false=u.each (liftF b 0) 0 by unfold gPut;rw [if_neg hv,if_pos he,if_neg (by decide)])
   have HX0:=liftB_fin (b:=b) hb0 hu
   obtain⟨X,hX⟩:∃ X,(u).liftB b 0=X:=⟨_,rfl⟩
   rw [hX] at HX0
   have HX:=Lib.hid hX
   have HFIN:=Lib.hid HX0
   have hdX:(u).deep≤100000:=hd
   clear hX HX0
   go_enter Try.func82,Try.ntmps82
   go_wp2_with fail
   refine(putc_zero 0 rfl _ bv u u.bare a1 a2 _ p1 _ p2 fr (keep_block hbW (block_lt HV.out) HV.out)).mono ?_
   rintro e w2 ⟨rfl,hb2⟩
   have hbw2:=hbW.trans (hb2.mono hbW.size)
   have hz2:=keep_block hb2 (block_lt hz) hz
   have hsN:w.heap.size+1<w2.heap.size:=block_lt hz2
   have hb4:Below w2.heap.size w2 ((w2.alloc (.cells #[.int .i64 u.k,.int .i64 u.i,.int .i64 u.j,.int .i64 u.n,.slice a1 u.kids.length p1,.int .i64 u.bare.k,.int .i64 u.bare.i,.int .i64 u.bare.j,.int .i64 u.bare.n,.slice a2 u.bare.kids.length p2] 101)).alloc (.cells #[.int .i64 u.k,.int .i64 u.i,.int .i64 u.j,.int .i64 u.n,.slice a1 u.kids.length p1] 38)):=((Below.refl _ _).alloc (Nat.le_refl _) _).alloc (by simp) _
   have hqx:((w2.alloc (.cells #[.int .i64 u.k,.int .i64 u.i,.int .i64 u.j,.int .i64 u.n,.slice a1 u.kids.length p1,.int .i64 u.bare.k,.int .i64 u.bare.i,.int .i64 u.bare.j,.int .i64 u.bare.n,.slice a2 u.bare.kids.length p2] 101)).alloc (.cells #[.int .i64 u.k,.int .i64 u.i,.int .i64 u.j,.int .i64 u.n,.slice a1 u.kids.length p1] 38)).heap[w2.heap.size+1]? =some (.cells #[.int .i64 u.k,.int .i64 u.i,.int .i64 u.j,.int .i64 u.n,.slice a1 u.kids.length p1] 38):=heap_alloc2_new _ _ _
   have hs4:((w2.alloc (.cells #[.int .i64 u.k,.int .i64 u.i,.int .i64 u.j,.int .i64 u.n,.slice a1 u.kids.length p1,.int .i64 u.bare.k,.int .i64 u.bare.i,.int .i64 u.bare.j,.int .i64 u.bare.n,.slice a2 u.bare.kids.length p2] 101)).alloc (.cells #[.int .i64 u.k,.int .i64 u.i,.int .i64 u.j,.int .i64 u.n,.slice a1 u.kids.length p1] 38)).heap.size=w2.heap.size+1+1:=by simp
   clear hb2
   go_wp2_with fail
   generalize ((w2.alloc (.cells #[.int .i64 u.k,.int .i64 u.i,.int .i64 u.j,.int .i64 u.n,.slice a1 u.kids.length p1,.int .i64 u.bare.k,.int .i64 u.bare.i,.int .i64 u.bare.j,.int .i64 u.bare.n,.slice a2 u.bare.kids.length p2] 101)).alloc (.cells #[.int .i64 u.k,.int .i64 u.i,.int .i64 u.j,.int .i64 u.n,.slice a1 u.kids.length p1] 38))=w4 at hb4 hqx hs4 ⊢
   refine(lift_any u b 0 w4 _ ((HL.out.keep hbw2).keep hb4) hbi h0i hdX).mono ?_
   rw [HX.out]
   rintro e w5 ⟨s5,rfl,hl5,hb5⟩
   obtain⟨a5,c5,rfl,-,-⟩:=hl5.out
   have hq5:=keep_block hb5 (block_lt hqx) hqx
   have hz5:=keep_block hb5 (by omega) (keep_block hb4 (by omega) hz2)
   obtain⟨x0,x1,x2,x3,x4⟩:=five_cells hq5
   obtain⟨y0,y1,y2,y3,y4⟩:=five_free hq5
   have hs5:w2.heap.size+1<w5.heap.size:=block_lt hq5
   have hbw5:=(hbw2.trans (hb4.mono hbw2.size)).trans (hb5.mono (by omega))
   have hl6:=liesP_fives hl5 (g:=w2.heap.size+1) (N:=w2.heap.size+1+1) (by omega) (by omega) (.int .i64 X.k) (.int .i64 X.i) (.int .i64 X.j) (.int .i64 X.n) (.slice a5 X.kids.length c5)
   have hq6:=five_set (v0:=.int .i64 X.k) (v1:=.int .i64 X.i) (v2:=.int .i64 X.j) (v3:=.int .i64 X.n) (v4:=.slice a5 X.kids.length c5) hq5
   have hz6:(five w5 (w2.heap.size+1) (.int .i64 X.k) (.int .i64 X.i) (.int .i64 X.j) (.int .i64 X.n) (.slice a5 X.kids.length c5)).heap[w.heap.size+1]? =some zeroObj:=by rw [five_other _ _ _ _ _ _ _ (by omega)];exact hz5
   have hb6:=below_five hbw5 (g:=w2.heap.size+1) (by omega) (.int .i64 X.k) (.int .i64 X.i) (.int .i64 X.j) (.int .i64 X.n) (.slice a5 X.kids.length c5)
   unfold five at hl6 hz6 hb6
   clear hl5 hb5 hqx hb4 hz5 hz2 hbw2 hbw5 hq5
   go_upto_region 12 with fail
   generalize ((((w5.setCell ⟨w2.heap.size+1,0,none⟩ (.int .i64 X.k)).setCell ⟨w2.heap.size+1,1,none⟩ (.int .i64 X.i)).setCell ⟨w2.heap.size+1,2,none⟩ (.int .i64 X.j)).setCell ⟨w2.heap.size+1,3,none⟩ (.int .i64 X.n)).setCell ⟨w2.heap.size+1,4,none⟩ (.slice a5 X.kids.length c5)=w6 at hl6 hq6 hz6 hb6 ⊢
   clear x0 x1 x2 x3 x4 y0 y1 y2 y3 y4
   obtain⟨x0,x1,x2,x3,x4⟩:=five_cells hq6
   obtain⟨z0,z1,z2,z3,z4⟩:=five_cells hz6
   obtain⟨f0,f1,f2,f3,f4⟩:=five_free hz6
   have HL6:=Lib.hid hl6
   have HB6:=Lib.hid hb6
   clear hl6 hq6 hb6
   go_wp2_with fail
   go_region
   all_goals
    go_wp2
    (try simp only [Exit.inBlock,Exit.then])
    refine bodyPost_ret (results_cell_tmp rfl _ _ (w.heap.size+1) _ _ _ du rfl (five_set hz6) hu1 (by cases du<;>first | rfl | exact hu2) size_term) rfl ?_
    rcases HFIN.out with ⟨hk,hr⟩ | ⟨hk,hr⟩
    ·exact⟨(below_five HB6.out (by omega) _ _ _ _ _).drew,Or.inr ⟨X,a5,_,c5,HG.out.trans hr,(by rw [hk]<;>rfl)⟩⟩
    ·exact⟨(below_five HB6.out (by omega) _ _ _ _ _).drew,Or.inl ⟨X,_,HG.out.trans hr,(by rw [hk]<;>rfl),(liesP_fives HL6.out (by omega) (by omega) _ _ _ _ _).later (Below.refl _ _).drew⟩⟩
  | true =>
   have HG:=Lib.hid (show gPut u v b true=u.bare.each (liftF b 0) 0 by unfold gPut;rw [if_neg hv,if_pos he,if_pos rfl])
   have HX0:=liftB_fin (b:=b) hb0 (plain_right (bare_plain u hu))
   obtain⟨X,hX⟩:∃ X,(u.bare).liftB b 0=X:=⟨_,rfl⟩
   rw [hX] at HX0
   have HX:=Lib.hid hX
   have HFIN:=Lib.hid HX0
   have hdX:(u.bare).deep≤100000:=Nat.le_trans (bare_deep u) hd
   clear hX HX0
   go_enter Try.func82,Try.ntmps82
   go_wp2_with fail
   refine(putc_zero 0 rfl _ bv u u.bare a1 a2 _ p1 _ p2 fr (keep_block hbW (block_lt HV.out) HV.out)).mono ?_
   rintro e w2 ⟨rfl,hb2⟩
   have hbw2:=hbW.trans (hb2.mono hbW.size)
   have hz2:=keep_block hb2 (block_lt hz) hz
   have hsN:w.heap.size+1<w2.heap.size:=block_lt hz2
   have hb4:Below w2.heap.size w2 ((w2.alloc (.cells #[.int .i64 u.k,.int .i64 u.i,.int .i64 u.j,.int .i64 u.n,.slice a1 u.kids.length p1,.int .i64 u.bare.k,.int .i64 u.bare.i,.int .i64 u.bare.j,.int .i64 u.bare.n,.slice a2 u.bare.kids.length p2] 101)).alloc (.cells #[.int .i64 u.bare.k,.int .i64 u.bare.i,.int .i64 u.bare.j,.int .i64 u.bare.n,.slice a2 u.bare.kids.length p2] 38)):=((Below.refl _ _).alloc (Nat.le_refl _) _).alloc (by simp) _
   have hqx:((w2.alloc (.cells #[.int .i64 u.k,.int .i64 u.i,.int .i64 u.j,.int .i64 u.n,.slice a1 u.kids.length p1,.int .i64 u.bare.k,.int .i64 u.bare.i,.int .i64 u.bare.j,.int .i64 u.bare.n,.slice a2 u.bare.kids.length p2] 101)).alloc (.cells #[.int .i64 u.bare.k,.int .i64 u.bare.i,.int .i64 u.bare.j,.int .i64 u.bare.n,.slice a2 u.bare.kids.length p2] 38)).heap[w2.heap.size+1]? =some (.cells #[.int .i64 u.bare.k,.int .i64 u.bare.i,.int .i64 u.bare.j,.int .i64 u.bare.n,.slice a2 u.bare.kids.length p2] 38):=heap_alloc2_new _ _ _
   have hs4:((w2.alloc (.cells #[.int .i64 u.k,.int .i64 u.i,.int .i64 u.j,.int .i64 u.n,.slice a1 u.kids.length p1,.int .i64 u.bare.k,.int .i64 u.bare.i,.int .i64 u.bare.j,.int .i64 u.bare.n,.slice a2 u.bare.kids.length p2] 101)).alloc (.cells #[.int .i64 u.bare.k,.int .i64 u.bare.i,.int .i64 u.bare.j,.int .i64 u.bare.n,.slice a2 u.bare.kids.length p2] 38)).heap.size=w2.heap.size+1+1:=by simp
   clear hb2
   go_wp2_with fail
   generalize ((w2.alloc (.cells #[.int .i64 u.k,.int .i64 u.i,.int .i64 u.j,.int .i64 u.n,.slice a1 u.kids.length p1,.int .i64 u.bare.k,.int .i64 u.bare.i,.int .i64 u.bare.j,.int .i64 u.bare.n,.slice a2 u.bare.kids.length p2] 101)).alloc (.cells #[.int .i64 u.bare.k,.int .i64 u.bare.i,.int .i64 u.bare.j,.int .i64 u.bare.n,.slice a2 u.bare.kids.length p2] 38))=w4 at hb4 hqx hs4 ⊢
   refine(lift_any u.bare b 0 w4 _ ((HLB.out.keep hbw2).keep hb4) hbi h0i hdX).mono ?_
   rw [HX.out]
   rintro e w5 ⟨s5,rfl,hl5,hb5⟩
   obtain⟨a5,c5,rfl,-,-⟩:=hl5.out
   have hq5:=keep_block hb5 (block_lt hqx) hqx
   have hz5:=keep_block hb5 (by omega) (keep_block hb4 (by omega) hz2)
   obtain⟨x0,x1,x2,x3,x4⟩:=five_cells hq5
   obtain⟨y0,y1,y2,y3,y4⟩:=five_free hq5
   have hs5:w2.heap.size+1<w5.heap.size:=block_lt hq5
   have hbw5:=(hbw2.trans (hb4.mono hbw2.size)).trans (hb5.mono (by omega))
   have hl6:=liesP_fives hl5 (g:=w2.heap.size+1) (N:=w2.heap.size+1+1) (by omega) (by omega) (.int .i64 X.k) (.int .i64 X.i) (.int .i64 X.j) (.int .i64 X.n) (.slice a5 X.kids.length c5)
   have hq6:=five_set (v0:=.int .i64 X.k) (v1:=.int .i64 X.i) (v2:=.int .i64 X.j) (v3:=.int .i64 X.n) (v4:=.slice a5 X.kids.length c5) hq5
   have hz6:(five w5 (w2.heap.size+1) (.int .i64 X.k) (.int .i64 X.i) (.int .i64 X.j) (.int .i64 X.n) (.slice a5 X.kids.length c5)).heap[w.heap.size+1]? =some zeroObj:=by rw [five_other _ _ _ _ _ _ _ (by omega)];exact hz5
   have hb6:=below_five hbw5 (g:=w2.heap.size+1) (by omega) (.int .i64 X.k) (.int .i64 X.i) (.int .i64 X.j) (.int .i64 X.n) (.slice a5 X.kids.length c5)
   unfold five at hl6 hz6 hb6
   clear hl5 hb5 hqx hb4 hz5 hz2 hbw2 hbw5 hq5
   go_upto_region 12 with fail
   generalize ((((w5.setCell ⟨w2.heap.size+1,0,none⟩ (.int .i64 X.k)).setCell ⟨w2.heap.size+1,1,none⟩ (.int .i64 X.i)).setCell ⟨w2.heap.size+1,2,none⟩ (.int .i64 X.j)).setCell ⟨w2.heap.size+1,3,none⟩ (.int .i64 X.n)).setCell ⟨w2.heap.size+1,4,none⟩ (.slice a5 X.kids.length c5)=w6 at hl6 hq6 hz6 hb6 ⊢
   clear x0 x1 x2 x3 x4 y0 y1 y2 y3 y4
   obtain⟨x0,x1,x2,x3,x4⟩:=five_cells hq6
   obtain⟨z0,z1,z2,z3,z4⟩:=five_cells hz6
   obtain⟨f0,f1,f2,f3,f4⟩:=five_free hz6
   have HL6:=Lib.hid hl6
   have HB6:=Lib.hid hb6
   clear hl6 hq6 hb6
   go_wp2_with fail
   go_region
   all_goals
    go_wp2
    (try simp only [Exit.inBlock,Exit.then])
    refine bodyPost_ret (results_cell_tmp rfl _ _ (w.heap.size+1) _ _ _ du rfl (five_set hz6) hu1 (by cases du<;>first | rfl | exact hu2) size_term) rfl ?_
    rcases HFIN.out with ⟨hk,hr⟩ | ⟨hk,hr⟩
    ·exact⟨(below_five HB6.out (by omega) _ _ _ _ _).drew,Or.inr ⟨X,a5,_,c5,HG.out.trans hr,(by rw [hk]<;>rfl)⟩⟩
    ·exact⟨(below_five HB6.out (by omega) _ _ _ _ _).drew,Or.inl ⟨X,_,HG.out.trans hr,(by rw [hk]<;>rfl),(liesP_fives HL6.out (by omega) (by omega) _ _ _ _ _).later (Below.refl _ _).drew⟩⟩
 ·have HG:=Lib.hid (show gPut u v b pl=some (varT (v-1)) by unfold gPut;rw [if_neg hv,if_neg he])
  have e3:decide (0≤v-b-1)=true:=decide_eq_true (by omega)
  have hsum:IntKind.i64.wrap (v-b-1+b)=v-1:=by rw [show v-b-1+b=v-1 by omega];exact IntWalk.i64_in _ (by omega)
  go_enter Try.func82,Try.ntmps82
  go_wp2_with fail
  refine(putc_next (v-b) (by omega) (by omega) (by omega) _ bv).mono ?_
  rintro e w2 ⟨rfl,hb2⟩
  have hbw2:=hbW.trans (hb2.mono hbW.size)
  have hz2:=keep_block hb2 (block_lt hz) hz
  have hsN:w.heap.size+1<w2.heap.size:=block_lt hz2
  obtain⟨z0,z1,z2,z3,z4⟩:=five_cells hz2
  obtain⟨f0,f1,f2,f3,f4⟩:=five_free hz2
  have HZ2:=Lib.hid hz2
  have HB2:=Lib.hid hbw2
  clear hb2 hz hbW hbw2 hz2
  go_wp2
  (try simp only [Exit.inBlock,Exit.then])
  refine bodyPost_ret (results_cell_tmp rfl _ _ (w.heap.size+1) _ _ _ du rfl (five_alloc HZ2.out _ _ _ _ _ _) hu1 (by cases du<;>first | rfl | exact hu2) size_term) rfl ?_
  rw [HG.out]
  exact⟨below_five_alloc HB2.out HB2.out.size (by omega) _ _ _ _ _ _,Or.inl ⟨varT (v-1),.slice none 0 0,rfl,rfl,liesP_nil _ _⟩⟩
end Go.Proofs.Ytgnllglbopaheaa
