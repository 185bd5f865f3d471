/-
  Facts and contracts that the proof of CongCalls uses.
-/
import Derived.OrdersHeld
import Derived.Below
import Derived.Laws.Rows
import Derived.Laws.CopyRow
import Derived.KernelRfl
import Derived.WalkKit
import Derived.Lib.Hide
import Derived.Lib.MinMax
import Derived.Deep.RegionHeld3
import Derived.Test.YtpdinlejmlbbeaaRows
import Derived.Deep.RegionWith
import Derived.Deep.AppendLies
import Derived.Laws.IdiomCopy
import Derived.Deep.Slices
import Derived.Deep.QuietTactic
import Derived.BigQuiet
import Derived.Lib.QuietBelow
import Derived.StillTailTactics
import Derived.IntWalk
import Derived.OwnWalk
import Derived.Deep.DeepCutAuto
import Derived.Deep.RegionLaw
import Derived.Deep.LoopGhost
import Derived.Deep.MidRow
import Derived.Laws.Tables
import Derived.Laws.CopyOwn
import Derived.Deep.Upon
import Derived.ArgAppend
import Derived.Deep.RegionHeld
import Derived.Laws.EntriesVeiled
import Derived.ProofKit
import Derived.OpenShut
import Derived.Carry
import Derived.ChangeSlices
import Derived.JoinedOf
import Derived.Test.YtpdinlejmlbbeaaCongCallsQ3
namespace Go.Proofs.Ytpdinlejmlbbeaa
open Go.RowKit
theorem strip_and {v w':World} {n g q b o:Nat} {s x sx:Value} {y:Tm} (h:Kept v w') (h4:v.cell? ⟨n,4,none⟩=some s) (hp:v.cell? ⟨g,q,none⟩=some x) (hx:Node v b o y sx):Kept v w'∧w'.cell? ⟨n,4,none⟩=some s∧w'.cell? ⟨g,q,none⟩=some x ∧
 w'.cell? ⟨b,o,none⟩=some (.int .i64 y.k)∧w'.cell? ⟨b,o+1,none⟩=some (.int .i64 y.i)∧w'.cell? ⟨b,o+2,none⟩=some (.int .i64 y.j)∧w'.cell? ⟨b,o+3,none⟩=some (.int .i64 y.n)∧w'.cell? ⟨b,o+4,none⟩=some sx :=
 ⟨h,cell_lat h h4,cell_lat h hp,cell_lat h hx.c0,cell_lat h hx.c1,cell_lat h hx.c2,cell_lat h hx.c3,cell_lat h hx.c4⟩
theorem liesQ_fives {E N M g:Nat} {w:World} {l:List Tm} {s:Value} (h:LiesQ w (Far E M) l s) (hE:E≤g) (hg:g<M) (hN:N≤M) (v0 v1 v2 v3 v4:Value):LiesQ (five w g v0 v1 v2 v3 v4) (Far E N) l s :=
 h.keep (fun b hp _=>five_other w g v0 v1 v2 v3 v4 (by rcases hp with hp | hp<;>omega)) (fun b hp _=>by rcases hp with hp | hp;exact Or.inl hp;exact Or.inr (by omega))
theorem far_wide {w:World} {E M N:Nat} {l:List Tm} {s:Value} (h:LiesQ w (Far E N) l s) (hn:M≤N):LiesQ w (Far E M) l s:=h.wide (fun b hb=>by rcases hb with hb | hb;exact Or.inl hb;exact Or.inr (Nat.le_trans hn hb))
theorem five_new (w:World) (g:Nat) (v0 v1 v2 v3 v4:Value) (X:Obj):((five w g v0 v1 v2 v3 v4).alloc X).heap[w.heap.size]? =some X:=by
 have:=alloc_new (five w g v0 v1 v2 v3 v4) X
 rw [five_size] at this
 exact this
theorem far_fives {E N M g:Nat} {w:World} {l:List Tm} {s:Value} (h:LiesQ w (Far E M) l s) (hE:E≤g) (hg:g<M) (hN:N≤M) (v0 v1 v2 v3 v4:Value) (X:Obj):LiesQ ((five w g v0 v1 v2 v3 v4).alloc X) (Far E N) l s :=
 (liesQ_fives h hE hg hN v0 v1 v2 v3 v4).later ((Below.refl _ _).alloc (Nat.le_refl _) _)
theorem cells5_node {w:World} {b:Nat} {ps:List (Tm × Value)} {T:TypeId} {fr:Nat × Nat} (h:w.heap[b]? =some (.cells (cells5 ps).toArray T fr)) (i:Nat) (hi:i<ps.length):Node w b (i * 5) (ps[i]).1 (ps[i]).2:=by
 have cellq:∀ q,q<5→w.cell? ⟨b,i * 5+q,none⟩=[Value.int .i64 (ps[i]).1.k,.int .i64 (ps[i]).1.i,.int .i64 (ps[i]).1.j,.int .i64 (ps[i]).1.n,(ps[i]).2][q]?:=fun q hq=>by
  rw [cell_of_row _ _ _ _ _ _ h,List.getElem?_toArray];exact cells5_get ps i hi q hq
 exact⟨cellq 0 (by omega),cellq 1 (by omega),cellq 2 (by omega),cellq 3 (by omega),cellq 4 (by omega)⟩
theorem liesQ_row {w:World} {P:Nat→Prop} {b cap:Nat} {ps:List (Tm × Value)} {T:TypeId} {fr:Nat × Nat} (h:w.heap[b]? =some (.cells (cells5 ps).toArray T fr)) (hP:P b) (hf:∀ p ∈ ps,p.1.fine) (hk:∀ p ∈ ps,LiesQ w P p.1.kids p.2) (hc:ps.length≤cap) (hm:cap≤maxLen) :
 LiesQ w P (ps.map (·.1)) (.slice (some ⟨b,0,none⟩) ps.length cap):=by
 have:=LiesQ.mk (w:=w) (P:=P) (ps.map (·.1)) (some ⟨b,0,none⟩) cap (fun i=>(ps[i]?.map (·.2)).getD (.slice none 0 0)) (by simpa using hc) hm
  (fun x hx=>by obtain⟨p,hp,rfl⟩:=List.mem_map.1 hx;exact hf p hp)
  (fun i hi=>by
    have hi':i<ps.length:=by simpa using hi
    refine⟨b,0,rfl,hP,?_⟩
    simp only [List.getElem_map,List.getElem?_eq_getElem hi',Option.map_some,Option.getD_some,Nat.zero_add]
    exact cells5_node h i hi')
  (fun i hi=>by
    have hi':i<ps.length:=by simpa using hi
    simp only [List.getElem_map,List.getElem?_eq_getElem hi',Option.map_some,Option.getD_some]
    exact hk _ (List.getElem_mem hi'))
 simpa using this
def Bx (w:World) (t:Tm) (s:Value) (w':World):Prop:=Below w.heap.size w w'∧w'.heap[w.heap.size]? =some (boxOf t s)
theorem bx_below {w w1:World} {t:Tm} {s:Value} (h:Bx w t s w1):Below w.heap.size w w1:=h.1
theorem bx_drew {w w1:World} {t:Tm} {s:Value} (h:Bx w t s w1):Bx w t s w1.drew:=⟨h.1.drew,h.2⟩
theorem bx_call {w w1 w2:World} {t:Tm} {s:Value} (h:Bx w t s w1) (hb:Below w1.heap.size w1 w2):Bx w t s w2:=⟨below_call h.1 hb h.1.size,by rw [hb.block _ (block_lt h.2)];exact h.2⟩
theorem bx_alloc {w w1:World} {t:Tm} {s:Value} (h:Bx w t s w1) (o:Obj):Bx w t s (w1.alloc o):=bx_call h ((Below.refl _ _).alloc (Nat.le_refl _) o)
theorem bx_set {w w1:World} {t:Tm} {s:Value} {g o:Nat} (h:Bx w t s w1) (hg:w.heap.size<g) (x:Value):Bx w t s (w1.setCell ⟨g,o,none⟩ x):=⟨Below.setCell h.1 (Nat.le_of_lt hg) _,by rw [Below.heap_setCell _ _ _ _ (by show w.heap.size≠g;omega)];exact h.2⟩
theorem bx_and {w w':World} {t:Tm} {s:Value} {b o:Nat} {y0 y1 y2 y3:Tm} {r0 r1 r2 r3:Value} (h:Bx w t s w') (h0:Node w b o y0 r0) (h1:Node w b (o+5) y1 r1) (h2:Node w b (o+10) y2 r2) (h3:Node w b (o+15) y3 r3):Bx w t s w'∧w'.cell? ⟨w.heap.size,1,none⟩=some (.int .i64 t.i)∧w'.cell? ⟨w.heap.size,4,none⟩=some s ∧
 w'.cell? ⟨b,o,none⟩=some (.int .i64 y0.k)∧w'.cell? ⟨b,o+1,none⟩=some (.int .i64 y0.i)∧w'.cell? ⟨b,o+2,none⟩=some (.int .i64 y0.j)∧w'.cell? ⟨b,o+3,none⟩=some (.int .i64 y0.n)∧w'.cell? ⟨b,o+4,none⟩=some (r0)∧w'.cell? ⟨b,o+5,none⟩=some (.int .i64 y1.k)∧w'.cell? ⟨b,o+5+1,none⟩=some (.int .i64 y1.i)∧w'.cell? ⟨b,o+5+2,none⟩=some (.int .i64 y1.j)∧w'.cell? ⟨b,o+5+3,none⟩=some (.int .i64 y1.n)∧w'.cell? ⟨b,o+5+4,none⟩=some (r1)∧w'.cell? ⟨b,o+10,none⟩=some (.int .i64 y2.k)∧w'.cell? ⟨b,o+10+1,none⟩=some (.int .i64 y2.i)∧w'.cell? ⟨b,o+10+2,none⟩=some (.int .i64 y2.j)∧w'.cell? ⟨b,o+10+3,none⟩=some (.int .i64 y2.n)∧w'.cell? ⟨b,o+10+4,none⟩=some (r2)∧w'.cell? ⟨b,o+15,none⟩=some (.int .i64 y3.k)∧w'.cell? ⟨b,o+15+1,none⟩=some (.int .i64 y3.i)∧w'.cell? ⟨b,o+15+2,none⟩=some (.int .i64 y3.j)∧w'.cell? ⟨b,o+15+3,none⟩=some (.int .i64 y3.n)∧w'.cell? ⟨b,o+15+4,none⟩=some (r3):=by
 obtain⟨-,c1,-,-,c4⟩:=five_cells h.2
 have l:∀ {a:Addr} {v:Value},w.cell? a=some v→w'.cell? a=some v:=fun hc=>cell_lat h.1 hc
 exact⟨h,c1,c4,l h0.c0,l h0.c1,l h0.c2,l h0.c3,l h0.c4,l h1.c0,l h1.c1,l h1.c2,l h1.c3,l h1.c4,l h2.c0,l h2.c1,l h2.c2,l h2.c3,l h2.c4,l h3.c0,l h3.c1,l h3.c2,l h3.c3,l h3.c4⟩
set_option maxRecDepth 20000 in
set_option maxHeartbeats 4000000 in
theorem refstrip_any (t:Tm):∀ (E:Nat) (w:World) (s:Value),E≤w.heap.size→LiesQ w (·<E) t.kids s→t.markedB=true→Calls Try.prog 78 #[tv t s] w (Shares E t.bare w):=by
 induction t using Tm.ind with
 | h t ih =>
  intro E w s hEw hl hmk
  obtain⟨a,cap,S,rfl,hc,hm,hf,hn,hkk⟩:=hl.out
  have hr:=marked_right hmk
  have hlen:=right_len hr
  obtain⟨du,hu1,hu2⟩:=under_term
  have HR0:=Lib.hid hr
  have HM0:=Lib.hid hmk
  have IH:=Lib.hid ih
  have HN:=Lib.hid hn
  have HK:=Lib.hid hkk
  have hkind:=marked_kind hmk
  have HFI:=Lib.hid hf
  unfold maxLen at hm
  clear ih hl hn hkk hr hf
  unfold tv
  have hcs:t.k=1∨t.k=2∨t.k=3∨t.k=4∨t.k=5∨t.k=6∨t.k=7∨t.k=8∨t.k=9∨t.k=10∨t.k=11∨t.k=12:=by omega
  clear hkind hmk
  rcases hcs with hkc | hkc | hkc | hkc | hkc | hkc | hkc | hkc | hkc | hkc | hkc | hkc
  ·have hnil:t.kids=[]:=(sorts_two (t.right_node HR0.out) (by omega)).2
   have hl0:t.kids.length=0:=by rw [hnil];rfl
   have hres:t.bare=t:=by rw [Tm.bare_eq,bareNode,if_neg (by omega),hnil];simp;rw [←hnil];exact t.eta
   have HRES:=Lib.hid hres
   have HNIL:=Lib.hid hnil
   have hb3:=below_three w (.cells #[.int .i64 t.k,.int .i64 t.i,.int .i64 t.j,.int .i64 t.n,.slice a t.kids.length cap] 24) (.cells #[.int .i64 0,.int .i64 0,.int .i64 0,.int .i64 0,.slice none 0 0] 24) (.cells #[] 3)
   obtain⟨q0,q1,-,-⟩:=heap_three w (.cells #[.int .i64 t.k,.int .i64 t.i,.int .i64 t.j,.int .i64 t.n,.slice a t.kids.length cap] 24) (.cells #[.int .i64 0,.int .i64 0,.int .i64 0,.int .i64 0,.slice none 0 0] 24) (.cells #[] 3)
   have e3:(t.k==3)=false:=by rw [hkc];decide
   have e4:(t.k==4)=false:=by rw [hkc];decide
   have e5:(t.k==5)=false:=by rw [hkc];decide
   have e6:(t.k==6)=false:=by rw [hkc];decide
   have e7:(t.k==7)=false:=by rw [hkc];decide
   have e8:(t.k==8)=false:=by rw [hkc];decide
   have e9:(t.k==9)=false:=by rw [hkc];decide
   have e10:(t.k==10)=false:=by rw [hkc];decide
   have e11:(t.k==11)=false:=by rw [hkc];decide
   have e12:(t.k==12)=false:=by rw [hkc];decide
   have hs3:w.heap.size+1<(((w.alloc (.cells #[.int .i64 t.k,.int .i64 t.i,.int .i64 t.j,.int .i64 t.n,.slice a t.kids.length cap] 24)).alloc (.cells #[.int .i64 0,.int .i64 0,.int .i64 0,.int .i64 0,.slice none 0 0] 24)).alloc (.cells #[] 3)).heap.size:=by simp
   clear hkc hnil hres hl0
   go_enter Try.func78,Try.ntmps78
   go_upto_region 3 with fail
   generalize (((w.alloc (.cells #[.int .i64 t.k,.int .i64 t.i,.int .i64 t.j,.int .i64 t.n,.slice a t.kids.length cap] 24)).alloc (.cells #[.int .i64 0,.int .i64 0,.int .i64 0,.int .i64 0,.slice none 0 0] 24)).alloc (.cells #[] 3))=v1 at hb3 q0 q1 hs3 ⊢
   obtain⟨d0,d1,d2,d3,d4⟩:=five_cells q0
   obtain⟨z0,z1,z2,z3,z4⟩:=five_cells q1
   obtain⟨f0,f1,f2,f3,f4⟩:=five_free q1
   go_wp2
   (try simp only [Exit.inBlock,Exit.then])
   refine bodyPost_ret (results_cell_row rfl _ _ (w.heap.size+1) _ _ _ du rfl (five_set q1) hu1 (by cases du<;>first | rfl | exact hu2) size_term) rfl ?_
   rw [HRES.out]
   refine⟨_,rfl,?_,below_five hb3 (by omega) _ _ _ _ _⟩
   rw [HNIL.out]
   exact .mk [] a cap (fun _=>.nilIface) (Nat.zero_le _) (by unfold maxLen;omega) (fun _ h=>by cases h) (fun _ h=>by cases h) (fun _ h=>by cases h)
  ·have hnil:t.kids=[]:=(sorts_two (t.right_node HR0.out) (by omega)).2
   have hl0:t.kids.length=0:=by rw [hnil];rfl
   have hres:t.bare=t:=by rw [Tm.bare_eq,bareNode,if_neg (by omega),hnil];simp;rw [←hnil];exact t.eta
   have HRES:=Lib.hid hres
   have HNIL:=Lib.hid hnil
   have hb3:=below_three w (.cells #[.int .i64 t.k,.int .i64 t.i,.int .i64 t.j,.int .i64 t.n,.slice a t.kids.length cap] 24) (.cells #[.int .i64 0,.int .i64 0,.int .i64 0,.int .i64 0,.slice none 0 0] 24) (.cells #[] 3)
   obtain⟨q0,q1,-,-⟩:=heap_three w (.cells #[.int .i64 t.k,.int .i64 t.i,.int .i64 t.j,.int .i64 t.n,.slice a t.kids.length cap] 24) (.cells #[.int .i64 0,.int .i64 0,.int .i64 0,.int .i64 0,.slice none 0 0] 24) (.cells #[] 3)
   have e3:(t.k==3)=false:=by rw [hkc];decide
   have e4:(t.k==4)=false:=by rw [hkc];decide
   have e5:(t.k==5)=false:=by rw [hkc];decide
   have e6:(t.k==6)=false:=by rw [hkc];decide
   have e7:(t.k==7)=false:=by rw [hkc];decide
   have e8:(t.k==8)=false:=by rw [hkc];decide
   have e9:(t.k==9)=false:=by rw [hkc];decide
   have e10:(t.k==10)=false:=by rw [hkc];decide
   have e11:(t.k==11)=false:=by rw [hkc];decide
   have e12:(t.k==12)=false:=by rw [hkc];decide
   have hs3:w.heap.size+1<(((w.alloc (.cells #[.int .i64 t.k,.int .i64 t.i,.int .i64 t.j,.int .i64 t.n,.slice a t.kids.length cap] 24)).alloc (.cells #[.int .i64 0,.int .i64 0,.int .i64 0,.int .i64 0,.slice none 0 0] 24)).alloc (.cells #[] 3)).heap.size:=by simp
   clear hkc hnil hres hl0
   go_enter Try.func78,Try.ntmps78
   go_upto_region 3 with fail
   generalize (((w.alloc (.cells #[.int .i64 t.k,.int .i64 t.i,.int .i64 t.j,.int .i64 t.n,.slice a t.kids.length cap] 24)).alloc (.cells #[.int .i64 0,.int .i64 0,.int .i64 0,.int .i64 0,.slice none 0 0] 24)).alloc (.cells #[] 3))=v1 at hb3 q0 q1 hs3 ⊢
   obtain⟨d0,d1,d2,d3,d4⟩:=five_cells q0
   obtain⟨z0,z1,z2,z3,z4⟩:=five_cells q1
   obtain⟨f0,f1,f2,f3,f4⟩:=five_free q1
   go_wp2
   (try simp only [Exit.inBlock,Exit.then])
   refine bodyPost_ret (results_cell_row rfl _ _ (w.heap.size+1) _ _ _ du rfl (five_set q1) hu1 (by cases du<;>first | rfl | exact hu2) size_term) rfl ?_
   rw [HRES.out]
   refine⟨_,rfl,?_,below_five hb3 (by omega) _ _ _ _ _⟩
   rw [HNIL.out]
   exact .mk [] a cap (fun _=>.nilIface) (Nat.zero_le _) (by unfold maxLen;omega) (fun _ h=>by cases h) (fun _ h=>by cases h) (fun _ h=>by cases h)
  ·have hpk:∀ p ∈ ([0,1]:List Nat),p<t.kids.length:=by
    have hlen:=node_length (t.right_node HR0.out)
    rw [hkc] at hlen
    have h9:t.kids.length=2:=by simp [kidsN] at hlen;omega
    intro p hp
    simp at hp
    omega
   have hres:=bare_pick t 3 [0,1] hkc rfl rfl hpk
   have hb4:=below_four w (.cells #[.int .i64 t.k,.int .i64 t.i,.int .i64 t.j,.int .i64 t.n,.slice a t.kids.length cap] 24) (.cells #[.int .i64 0,.int .i64 0,.int .i64 0,.int .i64 0,.slice none 0 0] 24) (.cells #[] 3) (.cells #[.int .i64 0,.int .i64 1] 3)
   obtain⟨q0,q1,-,q3⟩:=heap_four w (.cells #[.int .i64 t.k,.int .i64 t.i,.int .i64 t.j,.int .i64 t.n,.slice a t.kids.length cap] 24) (.cells #[.int .i64 0,.int .i64 0,.int .i64 0,.int .i64 0,.slice none 0 0] 24) (.cells #[] 3) (.cells #[.int .i64 0,.int .i64 1] 3)
   have hti:=liesI_new (l:=[(0:Int),(1:Int)]) q3 (by decide)
   have hkm:∀ p (h:p ∈ ([0,1]:List Nat)),(t.kids[p]'(hpk p h)).markedB=true:=fun p h=>marked_others HM0.out (by rw [hkc];decide) _ (List.getElem_mem _)
   have e3:(t.k==3)=true:=by rw [hkc];decide
   clear hkc
   go_enter Try.func78,Try.ntmps78
   go_upto_region 24 with fail
   have hs4:w.heap.size+3<(((((w.alloc (.cells #[.int .i64 t.k,.int .i64 t.i,.int .i64 t.j,.int .i64 t.n,.slice a t.kids.length cap] 24)).alloc (.cells #[.int .i64 0,.int .i64 0,.int .i64 0,.int .i64 0,.slice none 0 0] 24)).alloc (.cells #[] 3)).alloc (.cells #[.int .i64 0,.int .i64 1] 3))).heap.size:=by simp
   generalize ((((w.alloc (.cells #[.int .i64 t.k,.int .i64 t.i,.int .i64 t.j,.int .i64 t.n,.slice a t.kids.length cap] 24)).alloc (.cells #[.int .i64 0,.int .i64 0,.int .i64 0,.int .i64 0,.slice none 0 0] 24)).alloc (.cells #[] 3)).alloc (.cells #[.int .i64 0,.int .i64 1] 3))=v1 at hb4 q0 q1 q3 hti hs4 ⊢
   have HTI:=Lib.hid hti
   have HPKL:=Lib.hid hpk
   have HKM:=Lib.hid hkm
   have HRES:=Lib.hid hres
   have HB4:=Lib.hid hb4
   have Q0:=Lib.hid q0
   have Q1:=Lib.hid q1
   have hEv:E≤v1.heap.size:=by omega
   have hk0:=kept_start v1
   obtain⟨M,hM⟩:∃ M,v1.heap.size=M:=⟨_,rfl⟩
   obtain⟨ti,tcap,hsl,htc,htm,htn⟩:=hti.out
   simp only [Value.slice.injEq] at hsl
   obtain⟨rfl,-,rfl⟩:=hsl
   have HTN:=Lib.hid htn
   clear hti hkm hres hb4 q0 q1 q3 htn htc htm
   obtain⟨i0,hi,hz0,hz1,hz2⟩:=info_parts info_term
   have HI:=Lib.hid (And.intro hi (And.intro hz0 (And.intro hz1 hz2)))
   clear hi hz0 hz1 hz2
   go_wp2_with fail
   go_loopw [5,6] (fun v i wr=>∃ (q:Nat) (ps:List (Tm × Value)) (vv:Value),vv=v∧q≤2∧i=.int .i64 q∧Hid (ps.map (·.1)=(picked t ([0,1]:List Nat)).take q)∧MadeQ E v1.heap.size v1.heap.size wr v ps∧Kept v1 wr) (fun _ i _=>2-(intOf i).toNat)
   case atStart=>exact⟨0,[],_,rfl,Nat.zero_le _,rfl,by simp [Hid],madeQ_nil _ _ _ _,hk0⟩
   case round =>
    clear hk0
    obtain⟨q,ps,vv,rfl,hq0,rfl,hps,hmade,hkp⟩:=hrel
    have HPS:=Lib.hid hps.out
    clear hps
    have t0:=keep_block hkp (block_lt Q0.out) Q0.out
    have t1:=keep_block hkp (block_lt Q1.out) Q1.out
    obtain⟨d0,d1,d2,d3,d4⟩:=five_cells t0
    obtain⟨z0,z1,z2,z3,z4⟩:=five_cells t1
    obtain⟨f0,f1,f2,f3,f4⟩:=five_free t1
    have hsz:v1.heap.size≤wr.heap.size:=Below.size hkp
    clear t0
    by_cases hlt:q<2
    ·obtain⟨p,hp⟩:∃ p,([0,1]:List Nat)[q]'(by exact hlt)=p:=⟨_,rfl⟩
     have hpm:p ∈ ([0,1]:List Nat):=by rw [←hp];exact List.getElem_mem _
     have hplt:=HPKL.out p hpm
     obtain⟨b9,o9,h9,hx9⟩:=HTN.out q (by simpa using hlt)
     have hv9:([(0:Int),(1:Int)])[q]'(by simpa using hlt)=(p:Int):=by
      subst hp
      have:q=0∨q=1∨q=2∨q=3:=by first | omega | (simp at hlt;omega)
      rcases this with rfl | rfl | rfl | rfl<;>first | rfl | (simp at hlt) | omega
     rw [hv9] at hx9
     simp only [Option.some.injEq,Addr.mk.injEq] at h9
     obtain⟨rfl,rfl,-⟩:=h9
     replace hx9:v1.cell? ⟨w.heap.size+1+1+1,q,none⟩=some (.int .i64 p):=by rw [Nat.zero_add] at hx9;exact hx9
     obtain⟨b',o,rfl,hQb,hx⟩:=HN.out p hplt
     have hq:=HK.out p hplt
     obtain⟨a',cap',S',hS,-⟩:=hq.out
     rw [hS] at hx hq
     have hkid:(t.kids[p]?).getD .zero=t.kids[p]:=by rw [List.getElem?_eq_getElem hplt];rfl
     have HMem:=Lib.hid (List.getElem_mem hplt)
     have hrk:=HKM.out p hpm
     have hfx:=right_fine (plain_right (bare_plain _ (marked_right hrk)))
     have hEr:E≤wr.heap.size:=by have:=HB4.out.size;omega
     have CALL:=Lib.hid (IH.out _ HMem.out E wr.drew _ hEr ((hq.later HB4.out).later (Below.trans hkp (Below.refl _ _).drew)) hrk)
     have hpick:(picked t ([0,1]:List Nat)).take (q+1)=(picked t ([0,1]:List Nat)).take q++[(t.kids[p]).bare]:=by
      rw [List.take_succ_eq_append_getElem (by unfold picked;rw [List.length_map];exact hlt)]
      congr 2
      simp only [picked,List.getElem_map,hp,hkid]
     obtain⟨x,hxb⟩:∃ x,(t.kids[p]).bare=x:=⟨_,rfl⟩
     rw [hxb] at CALL hfx hpick
     have hpl:ps.length=q:=by have:=congrArg List.length HPS.out;simp [picked] at this;first | omega | (simp at hlt;omega)
     have HPL:=Lib.hid hpl
     have HMD:=Lib.hid hmade
     have HFX:=Lib.hid hfx
     have HPICK:=Lib.hid hpick
     have hnode:=hx.below HB4.out hx.lt
     have hb4':=HB4.out.size
     have hnc:=five_cells Q0.out
     have hd4:=hnc.2.2.2.2
     obtain⟨c0,c1,c2,c3,c4⟩:=hnode.below hkp hnode.lt
     have hc9:=cell_lat hkp hx9
     clear hS hq hx hfx hpick hxb hkid hrk hp hmade hpl hv9 hnc
     go_wp2_with fail
     go_region_held3 (fun w'=>Kept v1 w'∧w'.cell? ⟨w.heap.size,4,none⟩=some (.slice (some ⟨b',o,none⟩) t.kids.length cap)∧w'.cell? ⟨w.heap.size+1+1+1,q,none⟩=some (.int .i64 p)∧w'.cell? ⟨b',o+p * 5,none⟩=some (.int .i64 t.kids[p].k)∧w'.cell? ⟨b',o+p * 5+1,none⟩=some (.int .i64 t.kids[p].i)∧w'.cell? ⟨b',o+p * 5+2,none⟩=some (.int .i64 t.kids[p].j)∧w'.cell? ⟨b',o+p * 5+3,none⟩=some (.int .i64 t.kids[p].n)∧w'.cell? ⟨b',o+p * 5+4,none⟩=some (.slice a' t.kids[p].kids.length cap'))
      (((with_reducible refine strip_and ?_ hd4 hx9 hnode);repeat (first | with_reducible assumption | with_reducible exact hkp | with_reducible refine kept_drew ?_ | with_reducible refine kept_alloc ?_ _)))
      (first | (go_at_call 78;((with_reducible refine Calls.mono CALL.out ?_);rintro e wn ⟨s2,rfl,hl2,hbn⟩;obtain⟨a2,cap2,S2,rfl,-⟩:=hl2.out;have HL2:=Lib.hid hl2;have HB2:=Lib.hid hbn;have hk2:=kept_call (kept_drew hkp) hbn;clear hl2 hbn)) | (refine step_append_lies _ rfl _ _ 22 rfl (v1.heap.size) 24 i0 _ 5 56 (by kernel_rfl) HI.out.1 HI.out.2.1 HI.out.2.2.1 HI.out.2.2.2 rfl (by decide) _ ps.length (cells5 ps) rfl (madeQ_later (madeQ_later (madeQ_later HMD.out (Below.refl _ _).drew) HB2.out) ((Below.refl _ _).alloc (Nat.le_refl _) _)).own ⟨wn.heap.size,0,none⟩ 1 1 (cells5 [(x,.slice a2 x.kids.length cap2)]) rfl rfl (news_new _ _ _ _) (one5 _ _) (by decide) (by have:=HPL.out;unfold maxLen;omega) (by have:=HPL.out;omega) (by have:=Below.size hk2;simp;omega) _ rfl ?_;intro g cap3 w3 hown hgrow hat _;have hmq:=madeQ_push (madeQ_later HMD.out (Below.refl _ _).drew) hEv (Nat.le_refl _) hsz HFX.out HB2.out HL2.out _ hown hgrow hat;have HMQ:=Lib.hid hmq;have hk3:Kept v1 w3:=Below.grown (Below.alloc hk2 (Below.size hk2) _) hgrow (by have:=Below.size hk2;simp;omega) (madeQ_above HMD.out);clear hmq hown hgrow hat))
     go_wp2_with fail
     go_roundw
     case rel=>exact⟨q+1,ps++[(x,.slice a2 x.kids.length cap2)],_,rfl,hlt,by go_num,by rw [Hid,List.map_append,HPS.out,HPICK.out];rfl,HMQ.out,hk3⟩
     case measure=>simp [intOf];omega
    ·have:q=2:=by omega
     subst this
     have hres2:ps.map (·.1)=picked t ([0,1]:List Nat):=by
      have:=HPS.out
      rwa [List.take_of_length_le (by simp [picked])] at this
     have hll:=madeQ_lies hmade (Nat.le_refl _)
     rw [hres2] at hll
     obtain⟨a2,cap2,S2,rfl,-⟩:=hll.out
     have HLL:=Lib.hid hll
     have hbw:=HB4.out.trans (Below.mono hkp HB4.out.size)
     have q1':=t1
     clear hres2 hll hmade
     go_wp2
     (try simp only [Exit.inBlock,Exit.then])
     refine bodyPost_ret (results_cell_row rfl _ _ (w.heap.size+1) _ _ _ du rfl (five_set q1') hu1 (by cases du<;>first | rfl | exact hu2) size_term) rfl ?_
     rw [HRES.out]
     exact⟨_,rfl,liesQ_fives HLL.out (by omega) (by omega) (by omega) _ _ _ _ _,below_five hbw (by omega) _ _ _ _ _⟩
  ·have hpk:∀ p ∈ ([0,2]:List Nat),p<t.kids.length:=by
    have hlen:=node_length (t.right_node HR0.out)
    rw [hkc] at hlen
    have h9:t.kids.length=3:=by simp [kidsN] at hlen;omega
    intro p hp
    simp at hp
    omega
   have hres:=bare_pick t 4 [0,2] hkc rfl rfl hpk
   have hb4:=below_four w (.cells #[.int .i64 t.k,.int .i64 t.i,.int .i64 t.j,.int .i64 t.n,.slice a t.kids.length cap] 24) (.cells #[.int .i64 0,.int .i64 0,.int .i64 0,.int .i64 0,.slice none 0 0] 24) (.cells #[] 3) (.cells #[.int .i64 0,.int .i64 2] 3)
   obtain⟨q0,q1,-,q3⟩:=heap_four w (.cells #[.int .i64 t.k,.int .i64 t.i,.int .i64 t.j,.int .i64 t.n,.slice a t.kids.length cap] 24) (.cells #[.int .i64 0,.int .i64 0,.int .i64 0,.int .i64 0,.slice none 0 0] 24) (.cells #[] 3) (.cells #[.int .i64 0,.int .i64 2] 3)
   have hti:=liesI_new (l:=[(0:Int),(2:Int)]) q3 (by decide)
   have hkm:∀ p (h:p ∈ ([0,2]:List Nat)),(t.kids[p]'(hpk p h)).markedB=true:=fun p h=>marked_others HM0.out (by rw [hkc];decide) _ (List.getElem_mem _)
   have e3:(t.k==3)=false:=by rw [hkc];decide
   have e4:(t.k==4)=true:=by rw [hkc];decide
   clear hkc
   go_enter Try.func78,Try.ntmps78
   go_upto_region 24 with fail
   have hs4:w.heap.size+3<(((((w.alloc (.cells #[.int .i64 t.k,.int .i64 t.i,.int .i64 t.j,.int .i64 t.n,.slice a t.kids.length cap] 24)).alloc (.cells #[.int .i64 0,.int .i64 0,.int .i64 0,.int .i64 0,.slice none 0 0] 24)).alloc (.cells #[] 3)).alloc (.cells #[.int .i64 0,.int .i64 2] 3))).heap.size:=by simp
   generalize ((((w.alloc (.cells #[.int .i64 t.k,.int .i64 t.i,.int .i64 t.j,.int .i64 t.n,.slice a t.kids.length cap] 24)).alloc (.cells #[.int .i64 0,.int .i64 0,.int .i64 0,.int .i64 0,.slice none 0 0] 24)).alloc (.cells #[] 3)).alloc (.cells #[.int .i64 0,.int .i64 2] 3))=v1 at hb4 q0 q1 q3 hti hs4 ⊢
   have HTI:=Lib.hid hti
   have HPKL:=Lib.hid hpk
   have HKM:=Lib.hid hkm
   have HRES:=Lib.hid hres
   have HB4:=Lib.hid hb4
   have Q0:=Lib.hid q0
   have Q1:=Lib.hid q1
   have hEv:E≤v1.heap.size:=by omega
   have hk0:=kept_start v1
   obtain⟨M,hM⟩:∃ M,v1.heap.size=M:=⟨_,rfl⟩
   obtain⟨ti,tcap,hsl,htc,htm,htn⟩:=hti.out
   simp only [Value.slice.injEq] at hsl
   obtain⟨rfl,-,rfl⟩:=hsl
   have HTN:=Lib.hid htn
   clear hti hkm hres hb4 q0 q1 q3 htn htc htm
   obtain⟨i0,hi,hz0,hz1,hz2⟩:=info_parts info_term
   have HI:=Lib.hid (And.intro hi (And.intro hz0 (And.intro hz1 hz2)))
   clear hi hz0 hz1 hz2
   go_wp2_with fail
   go_loopw [5,6] (fun v i wr=>∃ (q:Nat) (ps:List (Tm × Value)) (vv:Value),vv=v∧q≤2∧i=.int .i64 q∧Hid (ps.map (·.1)=(picked t ([0,2]:List Nat)).take q)∧MadeQ E v1.heap.size v1.heap.size wr v ps∧Kept v1 wr) (fun _ i _=>2-(intOf i).toNat)
   case atStart=>exact⟨0,[],_,rfl,Nat.zero_le _,rfl,by simp [Hid],madeQ_nil _ _ _ _,hk0⟩
   case round =>
    clear hk0
    obtain⟨q,ps,vv,rfl,hq0,rfl,hps,hmade,hkp⟩:=hrel
    have HPS:=Lib.hid hps.out
    clear hps
    have t0:=keep_block hkp (block_lt Q0.out) Q0.out
    have t1:=keep_block hkp (block_lt Q1.out) Q1.out
    obtain⟨d0,d1,d2,d3,d4⟩:=five_cells t0
    obtain⟨z0,z1,z2,z3,z4⟩:=five_cells t1
    obtain⟨f0,f1,f2,f3,f4⟩:=five_free t1
    have hsz:v1.heap.size≤wr.heap.size:=Below.size hkp
    clear t0
    by_cases hlt:q<2
    ·obtain⟨p,hp⟩:∃ p,([0,2]:List Nat)[q]'(by exact hlt)=p:=⟨_,rfl⟩
     have hpm:p ∈ ([0,2]:List Nat):=by rw [←hp];exact List.getElem_mem _
     have hplt:=HPKL.out p hpm
     obtain⟨b9,o9,h9,hx9⟩:=HTN.out q (by simpa using hlt)
     have hv9:([(0:Int),(2:Int)])[q]'(by simpa using hlt)=(p:Int):=by
      subst hp
      have:q=0∨q=1∨q=2∨q=3:=by first | omega | (simp at hlt;omega)
      rcases this with rfl | rfl | rfl | rfl<;>first | rfl | (simp at hlt) | omega
     rw [hv9] at hx9
     simp only [Option.some.injEq,Addr.mk.injEq] at h9
     obtain⟨rfl,rfl,-⟩:=h9
     replace hx9:v1.cell? ⟨w.heap.size+1+1+1,q,none⟩=some (.int .i64 p):=by rw [Nat.zero_add] at hx9;exact hx9
     obtain⟨b',o,rfl,hQb,hx⟩:=HN.out p hplt
     have hq:=HK.out p hplt
     obtain⟨a',cap',S',hS,-⟩:=hq.out
     rw [hS] at hx hq
     have hkid:(t.kids[p]?).getD .zero=t.kids[p]:=by rw [List.getElem?_eq_getElem hplt];rfl
     have HMem:=Lib.hid (List.getElem_mem hplt)
     have hrk:=HKM.out p hpm
     have hfx:=right_fine (plain_right (bare_plain _ (marked_right hrk)))
     have hEr:E≤wr.heap.size:=by have:=HB4.out.size;omega
     have CALL:=Lib.hid (IH.out _ HMem.out E wr.drew _ hEr ((hq.later HB4.out).later (Below.trans hkp (Below.refl _ _).drew)) hrk)
     have hpick:(picked t ([0,2]:List Nat)).take (q+1)=(picked t ([0,2]:List Nat)).take q++[(t.kids[p]).bare]:=by
      rw [List.take_succ_eq_append_getElem (by unfold picked;rw [List.length_map];exact hlt)]
      congr 2
      simp only [picked,List.getElem_map,hp,hkid]
     obtain⟨x,hxb⟩:∃ x,(t.kids[p]).bare=x:=⟨_,rfl⟩
     rw [hxb] at CALL hfx hpick
     have hpl:ps.length=q:=by have:=congrArg List.length HPS.out;simp [picked] at this;first | omega | (simp at hlt;omega)
     have HPL:=Lib.hid hpl
     have HMD:=Lib.hid hmade
     have HFX:=Lib.hid hfx
     have HPICK:=Lib.hid hpick
     have hnode:=hx.below HB4.out hx.lt
     have hb4':=HB4.out.size
     have hnc:=five_cells Q0.out
     have hd4:=hnc.2.2.2.2
     obtain⟨c0,c1,c2,c3,c4⟩:=hnode.below hkp hnode.lt
     have hc9:=cell_lat hkp hx9
     clear hS hq hx hfx hpick hxb hkid hrk hp hmade hpl hv9 hnc
     go_wp2_with fail
     go_region_held3 (fun w'=>Kept v1 w'∧w'.cell? ⟨w.heap.size,4,none⟩=some (.slice (some ⟨b',o,none⟩) t.kids.length cap)∧w'.cell? ⟨w.heap.size+1+1+1,q,none⟩=some (.int .i64 p)∧w'.cell? ⟨b',o+p * 5,none⟩=some (.int .i64 t.kids[p].k)∧w'.cell? ⟨b',o+p * 5+1,none⟩=some (.int .i64 t.kids[p].i)∧w'.cell? ⟨b',o+p * 5+2,none⟩=some (.int .i64 t.kids[p].j)∧w'.cell? ⟨b',o+p * 5+3,none⟩=some (.int .i64 t.kids[p].n)∧w'.cell? ⟨b',o+p * 5+4,none⟩=some (.slice a' t.kids[p].kids.length cap'))
      (((with_reducible refine strip_and ?_ hd4 hx9 hnode);repeat (first | with_reducible assumption | with_reducible exact hkp | with_reducible refine kept_drew ?_ | with_reducible refine kept_alloc ?_ _)))
      (first | (go_at_call 78;((with_reducible refine Calls.mono CALL.out ?_);rintro e wn ⟨s2,rfl,hl2,hbn⟩;obtain⟨a2,cap2,S2,rfl,-⟩:=hl2.out;have HL2:=Lib.hid hl2;have HB2:=Lib.hid hbn;have hk2:=kept_call (kept_drew hkp) hbn;clear hl2 hbn)) | (refine step_append_lies _ rfl _ _ 22 rfl (v1.heap.size) 24 i0 _ 5 56 (by kernel_rfl) HI.out.1 HI.out.2.1 HI.out.2.2.1 HI.out.2.2.2 rfl (by decide) _ ps.length (cells5 ps) rfl (madeQ_later (madeQ_later (madeQ_later HMD.out (Below.refl _ _).drew) HB2.out) ((Below.refl _ _).alloc (Nat.le_refl _) _)).own ⟨wn.heap.size,0,none⟩ 1 1 (cells5 [(x,.slice a2 x.kids.length cap2)]) rfl rfl (news_new _ _ _ _) (one5 _ _) (by decide) (by have:=HPL.out;unfold maxLen;omega) (by have:=HPL.out;omega) (by have:=Below.size hk2;simp;omega) _ rfl ?_;intro g cap3 w3 hown hgrow hat _;have hmq:=madeQ_push (madeQ_later HMD.out (Below.refl _ _).drew) hEv (Nat.le_refl _) hsz HFX.out HB2.out HL2.out _ hown hgrow hat;have HMQ:=Lib.hid hmq;have hk3:Kept v1 w3:=Below.grown (Below.alloc hk2 (Below.size hk2) _) hgrow (by have:=Below.size hk2;simp;omega) (madeQ_above HMD.out);clear hmq hown hgrow hat))
     go_wp2_with fail
     go_roundw
     case rel=>exact⟨q+1,ps++[(x,.slice a2 x.kids.length cap2)],_,rfl,hlt,by go_num,by rw [Hid,List.map_append,HPS.out,HPICK.out];rfl,HMQ.out,hk3⟩
     case measure=>simp [intOf];omega
    ·have:q=2:=by omega
     subst this
     have hres2:ps.map (·.1)=picked t ([0,2]:List Nat):=by
      have:=HPS.out
      rwa [List.take_of_length_le (by simp [picked])] at this
     have hll:=madeQ_lies hmade (Nat.le_refl _)
     rw [hres2] at hll
     obtain⟨a2,cap2,S2,rfl,-⟩:=hll.out
     have HLL:=Lib.hid hll
     have hbw:=HB4.out.trans (Below.mono hkp HB4.out.size)
     have q1':=t1
     clear hres2 hll hmade
     go_wp2
     (try simp only [Exit.inBlock,Exit.then])
     refine bodyPost_ret (results_cell_row rfl _ _ (w.heap.size+1) _ _ _ du rfl (five_set q1') hu1 (by cases du<;>first | rfl | exact hu2) size_term) rfl ?_
     rw [HRES.out]
     exact⟨_,rfl,liesQ_fives HLL.out (by omega) (by omega) (by omega) _ _ _ _ _,below_five hbw (by omega) _ _ _ _ _⟩
  ·have hpk:∀ p ∈ ([2,3]:List Nat),p<t.kids.length:=by
    have hlen:=node_length (t.right_node HR0.out)
    rw [hkc] at hlen
    have h9:t.kids.length=4:=by simp [kidsN] at hlen;omega
    intro p hp
    simp at hp
    omega
   have hres:=bare_pick t 5 [2,3] hkc rfl rfl hpk
   have hb4:=below_four w (.cells #[.int .i64 t.k,.int .i64 t.i,.int .i64 t.j,.int .i64 t.n,.slice a t.kids.length cap] 24) (.cells #[.int .i64 0,.int .i64 0,.int .i64 0,.int .i64 0,.slice none 0 0] 24) (.cells #[] 3) (.cells #[.int .i64 2,.int .i64 3] 3)
   obtain⟨q0,q1,-,q3⟩:=heap_four w (.cells #[.int .i64 t.k,.int .i64 t.i,.int .i64 t.j,.int .i64 t.n,.slice a t.kids.length cap] 24) (.cells #[.int .i64 0,.int .i64 0,.int .i64 0,.int .i64 0,.slice none 0 0] 24) (.cells #[] 3) (.cells #[.int .i64 2,.int .i64 3] 3)
   have hti:=liesI_new (l:=[(2:Int),(3:Int)]) q3 (by decide)
   have hkm:∀ p (h:p ∈ ([2,3]:List Nat)),(t.kids[p]'(hpk p h)).markedB=true:=fun p h=>marked_others HM0.out (by rw [hkc];decide) _ (List.getElem_mem _)
   have e3:(t.k==3)=false:=by rw [hkc];decide
   have e4:(t.k==4)=false:=by rw [hkc];decide
   have e5:(t.k==5)=true:=by rw [hkc];decide
   clear hkc
   go_enter Try.func78,Try.ntmps78
   go_upto_region 24 with fail
   have hs4:w.heap.size+3<(((((w.alloc (.cells #[.int .i64 t.k,.int .i64 t.i,.int .i64 t.j,.int .i64 t.n,.slice a t.kids.length cap] 24)).alloc (.cells #[.int .i64 0,.int .i64 0,.int .i64 0,.int .i64 0,.slice none 0 0] 24)).alloc (.cells #[] 3)).alloc (.cells #[.int .i64 2,.int .i64 3] 3))).heap.size:=by simp
   generalize ((((w.alloc (.cells #[.int .i64 t.k,.int .i64 t.i,.int .i64 t.j,.int .i64 t.n,.slice a t.kids.length cap] 24)).alloc (.cells #[.int .i64 0,.int .i64 0,.int .i64 0,.int .i64 0,.slice none 0 0] 24)).alloc (.cells #[] 3)).alloc (.cells #[.int .i64 2,.int .i64 3] 3))=v1 at hb4 q0 q1 q3 hti hs4 ⊢
   have HTI:=Lib.hid hti
   have HPKL:=Lib.hid hpk
   have HKM:=Lib.hid hkm
   have HRES:=Lib.hid hres
   have HB4:=Lib.hid hb4
   have Q0:=Lib.hid q0
   have Q1:=Lib.hid q1
   have hEv:E≤v1.heap.size:=by omega
   have hk0:=kept_start v1
   obtain⟨M,hM⟩:∃ M,v1.heap.size=M:=⟨_,rfl⟩
   obtain⟨ti,tcap,hsl,htc,htm,htn⟩:=hti.out
   simp only [Value.slice.injEq] at hsl
   obtain⟨rfl,-,rfl⟩:=hsl
   have HTN:=Lib.hid htn
   clear hti hkm hres hb4 q0 q1 q3 htn htc htm
   obtain⟨i0,hi,hz0,hz1,hz2⟩:=info_parts info_term
   have HI:=Lib.hid (And.intro hi (And.intro hz0 (And.intro hz1 hz2)))
   clear hi hz0 hz1 hz2
   go_wp2_with fail
   go_loopw [5,6] (fun v i wr=>∃ (q:Nat) (ps:List (Tm × Value)) (vv:Value),vv=v∧q≤2∧i=.int .i64 q∧Hid (ps.map (·.1)=(picked t ([2,3]:List Nat)).take q)∧MadeQ E v1.heap.size v1.heap.size wr v ps∧Kept v1 wr) (fun _ i _=>2-(intOf i).toNat)
   case atStart=>exact⟨0,[],_,rfl,Nat.zero_le _,rfl,by simp [Hid],madeQ_nil _ _ _ _,hk0⟩
   case round =>
    clear hk0
    obtain⟨q,ps,vv,rfl,hq0,rfl,hps,hmade,hkp⟩:=hrel
    have HPS:=Lib.hid hps.out
    clear hps
    have t0:=keep_block hkp (block_lt Q0.out) Q0.out
    have t1:=keep_block hkp (block_lt Q1.out) Q1.out
    obtain⟨d0,d1,d2,d3,d4⟩:=five_cells t0
    obtain⟨z0,z1,z2,z3,z4⟩:=five_cells t1
    obtain⟨f0,f1,f2,f3,f4⟩:=five_free t1
    have hsz:v1.heap.size≤wr.heap.size:=Below.size hkp
    clear t0
    by_cases hlt:q<2
    ·obtain⟨p,hp⟩:∃ p,([2,3]:List Nat)[q]'(by exact hlt)=p:=⟨_,rfl⟩
     have hpm:p ∈ ([2,3]:List Nat):=by rw [←hp];exact List.getElem_mem _
     have hplt:=HPKL.out p hpm
     obtain⟨b9,o9,h9,hx9⟩:=HTN.out q (by simpa using hlt)
     have hv9:([(2:Int),(3:Int)])[q]'(by simpa using hlt)=(p:Int):=by
      subst hp
      have:q=0∨q=1∨q=2∨q=3:=by first | omega | (simp at hlt;omega)
      rcases this with rfl | rfl | rfl | rfl<;>first | rfl | (simp at hlt) | omega
     rw [hv9] at hx9
     simp only [Option.some.injEq,Addr.mk.injEq] at h9
     obtain⟨rfl,rfl,-⟩:=h9
     replace hx9:v1.cell? ⟨w.heap.size+1+1+1,q,none⟩=some (.int .i64 p):=by rw [Nat.zero_add] at hx9;exact hx9
     obtain⟨b',o,rfl,hQb,hx⟩:=HN.out p hplt
     have hq:=HK.out p hplt
     obtain⟨a',cap',S',hS,-⟩:=hq.out
     rw [hS] at hx hq
     have hkid:(t.kids[p]?).getD .zero=t.kids[p]:=by rw [List.getElem?_eq_getElem hplt];rfl
     have HMem:=Lib.hid (List.getElem_mem hplt)
     have hrk:=HKM.out p hpm
     have hfx:=right_fine (plain_right (bare_plain _ (marked_right hrk)))
     have hEr:E≤wr.heap.size:=by have:=HB4.out.size;omega
     have CALL:=Lib.hid (IH.out _ HMem.out E wr.drew _ hEr ((hq.later HB4.out).later (Below.trans hkp (Below.refl _ _).drew)) hrk)
     have hpick:(picked t ([2,3]:List Nat)).take (q+1)=(picked t ([2,3]:List Nat)).take q++[(t.kids[p]).bare]:=by
      rw [List.take_succ_eq_append_getElem (by unfold picked;rw [List.length_map];exact hlt)]
      congr 2
      simp only [picked,List.getElem_map,hp,hkid]
     obtain⟨x,hxb⟩:∃ x,(t.kids[p]).bare=x:=⟨_,rfl⟩
     rw [hxb] at CALL hfx hpick
     have hpl:ps.length=q:=by have:=congrArg List.length HPS.out;simp [picked] at this;first | omega | (simp at hlt;omega)
     have HPL:=Lib.hid hpl
     have HMD:=Lib.hid hmade
     have HFX:=Lib.hid hfx
     have HPICK:=Lib.hid hpick
     have hnode:=hx.below HB4.out hx.lt
     have hb4':=HB4.out.size
     have hnc:=five_cells Q0.out
     have hd4:=hnc.2.2.2.2
     obtain⟨c0,c1,c2,c3,c4⟩:=hnode.below hkp hnode.lt
     have hc9:=cell_lat hkp hx9
     clear hS hq hx hfx hpick hxb hkid hrk hp hmade hpl hv9 hnc
     go_wp2_with fail
     go_region_held3 (fun w'=>Kept v1 w'∧w'.cell? ⟨w.heap.size,4,none⟩=some (.slice (some ⟨b',o,none⟩) t.kids.length cap)∧w'.cell? ⟨w.heap.size+1+1+1,q,none⟩=some (.int .i64 p)∧w'.cell? ⟨b',o+p * 5,none⟩=some (.int .i64 t.kids[p].k)∧w'.cell? ⟨b',o+p * 5+1,none⟩=some (.int .i64 t.kids[p].i)∧w'.cell? ⟨b',o+p * 5+2,none⟩=some (.int .i64 t.kids[p].j)∧w'.cell? ⟨b',o+p * 5+3,none⟩=some (.int .i64 t.kids[p].n)∧w'.cell? ⟨b',o+p * 5+4,none⟩=some (.slice a' t.kids[p].kids.length cap'))
      (((with_reducible refine strip_and ?_ hd4 hx9 hnode);repeat (first | with_reducible assumption | with_reducible exact hkp | with_reducible refine kept_drew ?_ | with_reducible refine kept_alloc ?_ _)))
      (first | (go_at_call 78;((with_reducible refine Calls.mono CALL.out ?_);rintro e wn ⟨s2,rfl,hl2,hbn⟩;obtain⟨a2,cap2,S2,rfl,-⟩:=hl2.out;have HL2:=Lib.hid hl2;have HB2:=Lib.hid hbn;have hk2:=kept_call (kept_drew hkp) hbn;clear hl2 hbn)) | (refine step_append_lies _ rfl _ _ 22 rfl (v1.heap.size) 24 i0 _ 5 56 (by kernel_rfl) HI.out.1 HI.out.2.1 HI.out.2.2.1 HI.out.2.2.2 rfl (by decide) _ ps.length (cells5 ps) rfl (madeQ_later (madeQ_later (madeQ_later HMD.out (Below.refl _ _).drew) HB2.out) ((Below.refl _ _).alloc (Nat.le_refl _) _)).own ⟨wn.heap.size,0,none⟩ 1 1 (cells5 [(x,.slice a2 x.kids.length cap2)]) rfl rfl (news_new _ _ _ _) (one5 _ _) (by decide) (by have:=HPL.out;unfold maxLen;omega) (by have:=HPL.out;omega) (by have:=Below.size hk2;simp;omega) _ rfl ?_;intro g cap3 w3 hown hgrow hat _;have hmq:=madeQ_push (madeQ_later HMD.out (Below.refl _ _).drew) hEv (Nat.le_refl _) hsz HFX.out HB2.out HL2.out _ hown hgrow hat;have HMQ:=Lib.hid hmq;have hk3:Kept v1 w3:=Below.grown (Below.alloc hk2 (Below.size hk2) _) hgrow (by have:=Below.size hk2;simp;omega) (madeQ_above HMD.out);clear hmq hown hgrow hat))
     go_wp2_with fail
     go_roundw
     case rel=>exact⟨q+1,ps++[(x,.slice a2 x.kids.length cap2)],_,rfl,hlt,by go_num,by rw [Hid,List.map_append,HPS.out,HPICK.out];rfl,HMQ.out,hk3⟩
     case measure=>simp [intOf];omega
    ·have:q=2:=by omega
     subst this
     have hres2:ps.map (·.1)=picked t ([2,3]:List Nat):=by
      have:=HPS.out
      rwa [List.take_of_length_le (by simp [picked])] at this
     have hll:=madeQ_lies hmade (Nat.le_refl _)
     rw [hres2] at hll
     obtain⟨a2,cap2,S2,rfl,-⟩:=hll.out
     have HLL:=Lib.hid hll
     have hbw:=HB4.out.trans (Below.mono hkp HB4.out.size)
     have q1':=t1
     clear hres2 hll hmade
     go_wp2
     (try simp only [Exit.inBlock,Exit.then])
     refine bodyPost_ret (results_cell_row rfl _ _ (w.heap.size+1) _ _ _ du rfl (five_set q1') hu1 (by cases du<;>first | rfl | exact hu2) size_term) rfl ?_
     rw [HRES.out]
     exact⟨_,rfl,liesQ_fives HLL.out (by omega) (by omega) (by omega) _ _ _ _ _,below_five hbw (by omega) _ _ _ _ _⟩
  ·have hpk:∀ p ∈ ([0,1]:List Nat),p<t.kids.length:=by
    have hlen:=node_length (t.right_node HR0.out)
    rw [hkc] at hlen
    have h9:t.kids.length=2:=by simp [kidsN] at hlen;omega
    intro p hp
    simp at hp
    omega
   have hres:=bare_pick t 6 [0,1] hkc rfl rfl hpk
   have hb4:=below_four w (.cells #[.int .i64 t.k,.int .i64 t.i,.int .i64 t.j,.int .i64 t.n,.slice a t.kids.length cap] 24) (.cells #[.int .i64 0,.int .i64 0,.int .i64 0,.int .i64 0,.slice none 0 0] 24) (.cells #[] 3) (.cells #[.int .i64 0,.int .i64 1] 3)
   obtain⟨q0,q1,-,q3⟩:=heap_four w (.cells #[.int .i64 t.k,.int .i64 t.i,.int .i64 t.j,.int .i64 t.n,.slice a t.kids.length cap] 24) (.cells #[.int .i64 0,.int .i64 0,.int .i64 0,.int .i64 0,.slice none 0 0] 24) (.cells #[] 3) (.cells #[.int .i64 0,.int .i64 1] 3)
   have hti:=liesI_new (l:=[(0:Int),(1:Int)]) q3 (by decide)
   have hkm:∀ p (h:p ∈ ([0,1]:List Nat)),(t.kids[p]'(hpk p h)).markedB=true:=fun p h=>marked_others HM0.out (by rw [hkc];decide) _ (List.getElem_mem _)
   have e3:(t.k==3)=false:=by rw [hkc];decide
   have e4:(t.k==4)=false:=by rw [hkc];decide
   have e5:(t.k==5)=false:=by rw [hkc];decide
   have e6:(t.k==6)=true:=by rw [hkc];decide
   clear hkc
   go_enter Try.func78,Try.ntmps78
   go_upto_region 24 with fail
   have hs4:w.heap.size+3<(((((w.alloc (.cells #[.int .i64 t.k,.int .i64 t.i,.int .i64 t.j,.int .i64 t.n,.slice a t.kids.length cap] 24)).alloc (.cells #[.int .i64 0,.int .i64 0,.int .i64 0,.int .i64 0,.slice none 0 0] 24)).alloc (.cells #[] 3)).alloc (.cells #[.int .i64 0,.int .i64 1] 3))).heap.size:=by simp
   generalize ((((w.alloc (.cells #[.int .i64 t.k,.int .i64 t.i,.int .i64 t.j,.int .i64 t.n,.slice a t.kids.length cap] 24)).alloc (.cells #[.int .i64 0,.int .i64 0,.int .i64 0,.int .i64 0,.slice none 0 0] 24)).alloc (.cells #[] 3)).alloc (.cells #[.int .i64 0,.int .i64 1] 3))=v1 at hb4 q0 q1 q3 hti hs4 ⊢
   have HTI:=Lib.hid hti
   have HPKL:=Lib.hid hpk
   have HKM:=Lib.hid hkm
   have HRES:=Lib.hid hres
   have HB4:=Lib.hid hb4
   have Q0:=Lib.hid q0
   have Q1:=Lib.hid q1
   have hEv:E≤v1.heap.size:=by omega
   have hk0:=kept_start v1
   obtain⟨M,hM⟩:∃ M,v1.heap.size=M:=⟨_,rfl⟩
   obtain⟨ti,tcap,hsl,htc,htm,htn⟩:=hti.out
   simp only [Value.slice.injEq] at hsl
   obtain⟨rfl,-,rfl⟩:=hsl
   have HTN:=Lib.hid htn
   clear hti hkm hres hb4 q0 q1 q3 htn htc htm
   obtain⟨i0,hi,hz0,hz1,hz2⟩:=info_parts info_term
   have HI:=Lib.hid (And.intro hi (And.intro hz0 (And.intro hz1 hz2)))
   clear hi hz0 hz1 hz2
   go_wp2_with fail
   go_loopw [5,6] (fun v i wr=>∃ (q:Nat) (ps:List (Tm × Value)) (vv:Value),vv=v∧q≤2∧i=.int .i64 q∧Hid (ps.map (·.1)=(picked t ([0,1]:List Nat)).take q)∧MadeQ E v1.heap.size v1.heap.size wr v ps∧Kept v1 wr) (fun _ i _=>2-(intOf i).toNat)
   case atStart=>exact⟨0,[],_,rfl,Nat.zero_le _,rfl,by simp [Hid],madeQ_nil _ _ _ _,hk0⟩
   case round =>
    clear hk0
    obtain⟨q,ps,vv,rfl,hq0,rfl,hps,hmade,hkp⟩:=hrel
    have HPS:=Lib.hid hps.out
    clear hps
    have t0:=keep_block hkp (block_lt Q0.out) Q0.out
    have t1:=keep_block hkp (block_lt Q1.out) Q1.out
    obtain⟨d0,d1,d2,d3,d4⟩:=five_cells t0
    obtain⟨z0,z1,z2,z3,z4⟩:=five_cells t1
    obtain⟨f0,f1,f2,f3,f4⟩:=five_free t1
    have hsz:v1.heap.size≤wr.heap.size:=Below.size hkp
    clear t0
    by_cases hlt:q<2
    ·obtain⟨p,hp⟩:∃ p,([0,1]:List Nat)[q]'(by exact hlt)=p:=⟨_,rfl⟩
     have hpm:p ∈ ([0,1]:List Nat):=by rw [←hp];exact List.getElem_mem _
     have hplt:=HPKL.out p hpm
     obtain⟨b9,o9,h9,hx9⟩:=HTN.out q (by simpa using hlt)
     have hv9:([(0:Int),(1:Int)])[q]'(by simpa using hlt)=(p:Int):=by
      subst hp
      have:q=0∨q=1∨q=2∨q=3:=by first | omega | (simp at hlt;omega)
      rcases this with rfl | rfl | rfl | rfl<;>first | rfl | (simp at hlt) | omega
     rw [hv9] at hx9
     simp only [Option.some.injEq,Addr.mk.injEq] at h9
     obtain⟨rfl,rfl,-⟩:=h9
     replace hx9:v1.cell? ⟨w.heap.size+1+1+1,q,none⟩=some (.int .i64 p):=by rw [Nat.zero_add] at hx9;exact hx9
     obtain⟨b',o,rfl,hQb,hx⟩:=HN.out p hplt
     have hq:=HK.out p hplt
     obtain⟨a',cap',S',hS,-⟩:=hq.out
     rw [hS] at hx hq
     have hkid:(t.kids[p]?).getD .zero=t.kids[p]:=by rw [List.getElem?_eq_getElem hplt];rfl
     have HMem:=Lib.hid (List.getElem_mem hplt)
     have hrk:=HKM.out p hpm
     have hfx:=right_fine (plain_right (bare_plain _ (marked_right hrk)))
     have hEr:E≤wr.heap.size:=by have:=HB4.out.size;omega
     have CALL:=Lib.hid (IH.out _ HMem.out E wr.drew _ hEr ((hq.later HB4.out).later (Below.trans hkp (Below.refl _ _).drew)) hrk)
     have hpick:(picked t ([0,1]:List Nat)).take (q+1)=(picked t ([0,1]:List Nat)).take q++[(t.kids[p]).bare]:=by
      rw [List.take_succ_eq_append_getElem (by unfold picked;rw [List.length_map];exact hlt)]
      congr 2
      simp only [picked,List.getElem_map,hp,hkid]
     obtain⟨x,hxb⟩:∃ x,(t.kids[p]).bare=x:=⟨_,rfl⟩
     rw [hxb] at CALL hfx hpick
     have hpl:ps.length=q:=by have:=congrArg List.length HPS.out;simp [picked] at this;first | omega | (simp at hlt;omega)
     have HPL:=Lib.hid hpl
     have HMD:=Lib.hid hmade
     have HFX:=Lib.hid hfx
     have HPICK:=Lib.hid hpick
     have hnode:=hx.below HB4.out hx.lt
     have hb4':=HB4.out.size
     have hnc:=five_cells Q0.out
     have hd4:=hnc.2.2.2.2
     obtain⟨c0,c1,c2,c3,c4⟩:=hnode.below hkp hnode.lt
     have hc9:=cell_lat hkp hx9
     clear hS hq hx hfx hpick hxb hkid hrk hp hmade hpl hv9 hnc
     go_wp2_with fail
     go_region_held3 (fun w'=>Kept v1 w'∧w'.cell? ⟨w.heap.size,4,none⟩=some (.slice (some ⟨b',o,none⟩) t.kids.length cap)∧w'.cell? ⟨w.heap.size+1+1+1,q,none⟩=some (.int .i64 p)∧w'.cell? ⟨b',o+p * 5,none⟩=some (.int .i64 t.kids[p].k)∧w'.cell? ⟨b',o+p * 5+1,none⟩=some (.int .i64 t.kids[p].i)∧w'.cell? ⟨b',o+p * 5+2,none⟩=some (.int .i64 t.kids[p].j)∧w'.cell? ⟨b',o+p * 5+3,none⟩=some (.int .i64 t.kids[p].n)∧w'.cell? ⟨b',o+p * 5+4,none⟩=some (.slice a' t.kids[p].kids.length cap'))
      (((with_reducible refine strip_and ?_ hd4 hx9 hnode);repeat (first | with_reducible assumption | with_reducible exact hkp | with_reducible refine kept_drew ?_ | with_reducible refine kept_alloc ?_ _)))
      (first | (go_at_call 78;((with_reducible refine Calls.mono CALL.out ?_);rintro e wn ⟨s2,rfl,hl2,hbn⟩;obtain⟨a2,cap2,S2,rfl,-⟩:=hl2.out;have HL2:=Lib.hid hl2;have HB2:=Lib.hid hbn;have hk2:=kept_call (kept_drew hkp) hbn;clear hl2 hbn)) | (refine step_append_lies _ rfl _ _ 22 rfl (v1.heap.size) 24 i0 _ 5 56 (by kernel_rfl) HI.out.1 HI.out.2.1 HI.out.2.2.1 HI.out.2.2.2 rfl (by decide) _ ps.length (cells5 ps) rfl (madeQ_later (madeQ_later (madeQ_later HMD.out (Below.refl _ _).drew) HB2.out) ((Below.refl _ _).alloc (Nat.le_refl _) _)).own ⟨wn.heap.size,0,none⟩ 1 1 (cells5 [(x,.slice a2 x.kids.length cap2)]) rfl rfl (news_new _ _ _ _) (one5 _ _) (by decide) (by have:=HPL.out;unfold maxLen;omega) (by have:=HPL.out;omega) (by have:=Below.size hk2;simp;omega) _ rfl ?_;intro g cap3 w3 hown hgrow hat _;have hmq:=madeQ_push (madeQ_later HMD.out (Below.refl _ _).drew) hEv (Nat.le_refl _) hsz HFX.out HB2.out HL2.out _ hown hgrow hat;have HMQ:=Lib.hid hmq;have hk3:Kept v1 w3:=Below.grown (Below.alloc hk2 (Below.size hk2) _) hgrow (by have:=Below.size hk2;simp;omega) (madeQ_above HMD.out);clear hmq hown hgrow hat))
     go_wp2_with fail
     go_roundw
     case rel=>exact⟨q+1,ps++[(x,.slice a2 x.kids.length cap2)],_,rfl,hlt,by go_num,by rw [Hid,List.map_append,HPS.out,HPICK.out];rfl,HMQ.out,hk3⟩
     case measure=>simp [intOf];omega
    ·have:q=2:=by omega
     subst this
     have hres2:ps.map (·.1)=picked t ([0,1]:List Nat):=by
      have:=HPS.out
      rwa [List.take_of_length_le (by simp [picked])] at this
     have hll:=madeQ_lies hmade (Nat.le_refl _)
     rw [hres2] at hll
     obtain⟨a2,cap2,S2,rfl,-⟩:=hll.out
     have HLL:=Lib.hid hll
     have hbw:=HB4.out.trans (Below.mono hkp HB4.out.size)
     have q1':=t1
     clear hres2 hll hmade
     go_wp2
     (try simp only [Exit.inBlock,Exit.then])
     refine bodyPost_ret (results_cell_row rfl _ _ (w.heap.size+1) _ _ _ du rfl (five_set q1') hu1 (by cases du<;>first | rfl | exact hu2) size_term) rfl ?_
     rw [HRES.out]
     exact⟨_,rfl,liesQ_fives HLL.out (by omega) (by omega) (by omega) _ _ _ _ _,below_five hbw (by omega) _ _ _ _ _⟩
  ·have hpk:∀ p ∈ ([0,1,2,3]:List Nat),p<t.kids.length:=by
    have hlen:=node_length (t.right_node HR0.out)
    rw [hkc] at hlen
    have h9:t.kids.length=4:=by simp [kidsN] at hlen;omega
    intro p hp
    simp at hp
    omega
   have hres:=bare_pick t 7 [0,1,2,3] hkc rfl rfl hpk
   have hb4:=below_four w (.cells #[.int .i64 t.k,.int .i64 t.i,.int .i64 t.j,.int .i64 t.n,.slice a t.kids.length cap] 24) (.cells #[.int .i64 0,.int .i64 0,.int .i64 0,.int .i64 0,.slice none 0 0] 24) (.cells #[] 3) (.cells #[.int .i64 0,.int .i64 1,.int .i64 2,.int .i64 3] 3)
   obtain⟨q0,q1,-,q3⟩:=heap_four w (.cells #[.int .i64 t.k,.int .i64 t.i,.int .i64 t.j,.int .i64 t.n,.slice a t.kids.length cap] 24) (.cells #[.int .i64 0,.int .i64 0,.int .i64 0,.int .i64 0,.slice none 0 0] 24) (.cells #[] 3) (.cells #[.int .i64 0,.int .i64 1,.int .i64 2,.int .i64 3] 3)
   have hti:=liesI_new (l:=[(0:Int),(1:Int),(2:Int),(3:Int)]) q3 (by decide)
   have hkm:∀ p (h:p ∈ ([0,1,2,3]:List Nat)),(t.kids[p]'(hpk p h)).markedB=true:=fun p h=>marked_others HM0.out (by rw [hkc];decide) _ (List.getElem_mem _)
   have e3:(t.k==3)=false:=by rw [hkc];decide
   have e4:(t.k==4)=false:=by rw [hkc];decide
   have e5:(t.k==5)=false:=by rw [hkc];decide
   have e6:(t.k==6)=false:=by rw [hkc];decide
   have e7:(t.k==7)=true:=by rw [hkc];decide
   clear hkc
   go_enter Try.func78,Try.ntmps78
   go_upto_region 24 with fail
   have hs4:w.heap.size+3<(((((w.alloc (.cells #[.int .i64 t.k,.int .i64 t.i,.int .i64 t.j,.int .i64 t.n,.slice a t.kids.length cap] 24)).alloc (.cells #[.int .i64 0,.int .i64 0,.int .i64 0,.int .i64 0,.slice none 0 0] 24)).alloc (.cells #[] 3)).alloc (.cells #[.int .i64 0,.int .i64 1,.int .i64 2,.int .i64 3] 3))).heap.size:=by simp
   generalize ((((w.alloc (.cells #[.int .i64 t.k,.int .i64 t.i,.int .i64 t.j,.int .i64 t.n,.slice a t.kids.length cap] 24)).alloc (.cells #[.int .i64 0,.int .i64 0,.int .i64 0,.int .i64 0,.slice none 0 0] 24)).alloc (.cells #[] 3)).alloc (.cells #[.int .i64 0,.int .i64 1,.int .i64 2,.int .i64 3] 3))=v1 at hb4 q0 q1 q3 hti hs4 ⊢
   have HTI:=Lib.hid hti
   have HPKL:=Lib.hid hpk
   have HKM:=Lib.hid hkm
   have HRES:=Lib.hid hres
   have HB4:=Lib.hid hb4
   have Q0:=Lib.hid q0
   have Q1:=Lib.hid q1
   have hEv:E≤v1.heap.size:=by omega
   have hk0:=kept_start v1
   obtain⟨M,hM⟩:∃ M,v1.heap.size=M:=⟨_,rfl⟩
   obtain⟨ti,tcap,hsl,htc,htm,htn⟩:=hti.out
   simp only [Value.slice.injEq] at hsl
   obtain⟨rfl,-,rfl⟩:=hsl
   have HTN:=Lib.hid htn
   clear hti hkm hres hb4 q0 q1 q3 htn htc htm
   obtain⟨i0,hi,hz0,hz1,hz2⟩:=info_parts info_term
   have HI:=Lib.hid (And.intro hi (And.intro hz0 (And.intro hz1 hz2)))
   clear hi hz0 hz1 hz2
   go_wp2_with fail
   go_loopw [5,6] (fun v i wr=>∃ (q:Nat) (ps:List (Tm × Value)) (vv:Value),vv=v∧q≤4∧i=.int .i64 q∧Hid (ps.map (·.1)=(picked t ([0,1,2,3]:List Nat)).take q)∧MadeQ E v1.heap.size v1.heap.size wr v ps∧Kept v1 wr) (fun _ i _=>4-(intOf i).toNat)
   case atStart=>exact⟨0,[],_,rfl,Nat.zero_le _,rfl,by simp [Hid],madeQ_nil _ _ _ _,hk0⟩
   case round =>
    clear hk0
    obtain⟨q,ps,vv,rfl,hq0,rfl,hps,hmade,hkp⟩:=hrel
    have HPS:=Lib.hid hps.out
    clear hps
    have t0:=keep_block hkp (block_lt Q0.out) Q0.out
    have t1:=keep_block hkp (block_lt Q1.out) Q1.out
    obtain⟨d0,d1,d2,d3,d4⟩:=five_cells t0
    obtain⟨z0,z1,z2,z3,z4⟩:=five_cells t1
    obtain⟨f0,f1,f2,f3,f4⟩:=five_free t1
    have hsz:v1.heap.size≤wr.heap.size:=Below.size hkp
    clear t0
    by_cases hlt:q<4
    ·obtain⟨p,hp⟩:∃ p,([0,1,2,3]:List Nat)[q]'(by exact hlt)=p:=⟨_,rfl⟩
     have hpm:p ∈ ([0,1,2,3]:List Nat):=by rw [←hp];exact List.getElem_mem _
     have hplt:=HPKL.out p hpm
     obtain⟨b9,o9,h9,hx9⟩:=HTN.out q (by simpa using hlt)
     have hv9:([(0:Int),(1:Int),(2:Int),(3:Int)])[q]'(by simpa using hlt)=(p:Int):=by
      subst hp
      have:q=0∨q=1∨q=2∨q=3:=by first | omega | (simp at hlt;omega)
      rcases this with rfl | rfl | rfl | rfl<;>first | rfl | (simp at hlt) | omega
     rw [hv9] at hx9
     simp only [Option.some.injEq,Addr.mk.injEq] at h9
     obtain⟨rfl,rfl,-⟩:=h9
     replace hx9:v1.cell? ⟨w.heap.size+1+1+1,q,none⟩=some (.int .i64 p):=by rw [Nat.zero_add] at hx9;exact hx9
     obtain⟨b',o,rfl,hQb,hx⟩:=HN.out p hplt
     have hq:=HK.out p hplt
     obtain⟨a',cap',S',hS,-⟩:=hq.out
     rw [hS] at hx hq
     have hkid:(t.kids[p]?).getD .zero=t.kids[p]:=by rw [List.getElem?_eq_getElem hplt];rfl
     have HMem:=Lib.hid (List.getElem_mem hplt)
     have hrk:=HKM.out p hpm
     have hfx:=right_fine (plain_right (bare_plain _ (marked_right hrk)))
     have hEr:E≤wr.heap.size:=by have:=HB4.out.size;omega
     have CALL:=Lib.hid (IH.out _ HMem.out E wr.drew _ hEr ((hq.later HB4.out).later (Below.trans hkp (Below.refl _ _).drew)) hrk)
     have hpick:(picked t ([0,1,2,3]:List Nat)).take (q+1)=(picked t ([0,1,2,3]:List Nat)).take q++[(t.kids[p]).bare]:=by
      rw [List.take_succ_eq_append_getElem (by unfold picked;rw [List.length_map];exact hlt)]
      congr 2
      simp only [picked,List.getElem_map,hp,hkid]
     obtain⟨x,hxb⟩:∃ x,(t.kids[p]).bare=x:=⟨_,rfl⟩
     rw [hxb] at CALL hfx hpick
     have hpl:ps.length=q:=by have:=congrArg List.length HPS.out;simp [picked] at this;first | omega | (simp at hlt;omega)
     have HPL:=Lib.hid hpl
     have HMD:=Lib.hid hmade
     have HFX:=Lib.hid hfx
     have HPICK:=Lib.hid hpick
     have hnode:=hx.below HB4.out hx.lt
     have hb4':=HB4.out.size
     have hnc:=five_cells Q0.out
     have hd4:=hnc.2.2.2.2
     obtain⟨c0,c1,c2,c3,c4⟩:=hnode.below hkp hnode.lt
     have hc9:=cell_lat hkp hx9
     clear hS hq hx hfx hpick hxb hkid hrk hp hmade hpl hv9 hnc
     go_wp2_with fail
     go_region_held3 (fun w'=>Kept v1 w'∧w'.cell? ⟨w.heap.size,4,none⟩=some (.slice (some ⟨b',o,none⟩) t.kids.length cap)∧w'.cell? ⟨w.heap.size+1+1+1,q,none⟩=some (.int .i64 p)∧w'.cell? ⟨b',o+p * 5,none⟩=some (.int .i64 t.kids[p].k)∧w'.cell? ⟨b',o+p * 5+1,none⟩=some (.int .i64 t.kids[p].i)∧w'.cell? ⟨b',o+p * 5+2,none⟩=some (.int .i64 t.kids[p].j)∧w'.cell? ⟨b',o+p * 5+3,none⟩=some (.int .i64 t.kids[p].n)∧w'.cell? ⟨b',o+p * 5+4,none⟩=some (.slice a' t.kids[p].kids.length cap'))
      (((with_reducible refine strip_and ?_ hd4 hx9 hnode);repeat (first | with_reducible assumption | with_reducible exact hkp | with_reducible refine kept_drew ?_ | with_reducible refine kept_alloc ?_ _)))
      (first | (go_at_call 78;((with_reducible refine Calls.mono CALL.out ?_);rintro e wn ⟨s2,rfl,hl2,hbn⟩;obtain⟨a2,cap2,S2,rfl,-⟩:=hl2.out;have HL2:=Lib.hid hl2;have HB2:=Lib.hid hbn;have hk2:=kept_call (kept_drew hkp) hbn;clear hl2 hbn)) | (refine step_append_lies _ rfl _ _ 22 rfl (v1.heap.size) 24 i0 _ 5 56 (by kernel_rfl) HI.out.1 HI.out.2.1 HI.out.2.2.1 HI.out.2.2.2 rfl (by decide) _ ps.length (cells5 ps) rfl (madeQ_later (madeQ_later (madeQ_later HMD.out (Below.refl _ _).drew) HB2.out) ((Below.refl _ _).alloc (Nat.le_refl _) _)).own ⟨wn.heap.size,0,none⟩ 1 1 (cells5 [(x,.slice a2 x.kids.length cap2)]) rfl rfl (news_new _ _ _ _) (one5 _ _) (by decide) (by have:=HPL.out;unfold maxLen;omega) (by have:=HPL.out;omega) (by have:=Below.size hk2;simp;omega) _ rfl ?_;intro g cap3 w3 hown hgrow hat _;have hmq:=madeQ_push (madeQ_later HMD.out (Below.refl _ _).drew) hEv (Nat.le_refl _) hsz HFX.out HB2.out HL2.out _ hown hgrow hat;have HMQ:=Lib.hid hmq;have hk3:Kept v1 w3:=Below.grown (Below.alloc hk2 (Below.size hk2) _) hgrow (by have:=Below.size hk2;simp;omega) (madeQ_above HMD.out);clear hmq hown hgrow hat))
     go_wp2_with fail
     go_roundw
     case rel=>exact⟨q+1,ps++[(x,.slice a2 x.kids.length cap2)],_,rfl,hlt,by go_num,by rw [Hid,List.map_append,HPS.out,HPICK.out];rfl,HMQ.out,hk3⟩
     case measure=>simp [intOf];omega
    ·have:q=4:=by omega
     subst this
     have hres2:ps.map (·.1)=picked t ([0,1,2,3]:List Nat):=by
      have:=HPS.out
      rwa [List.take_of_length_le (by simp [picked])] at this
     have hll:=madeQ_lies hmade (Nat.le_refl _)
     rw [hres2] at hll
     obtain⟨a2,cap2,S2,rfl,-⟩:=hll.out
     have HLL:=Lib.hid hll
     have hbw:=HB4.out.trans (Below.mono hkp HB4.out.size)
     have q1':=t1
     clear hres2 hll hmade
     go_wp2
     (try simp only [Exit.inBlock,Exit.then])
     refine bodyPost_ret (results_cell_row rfl _ _ (w.heap.size+1) _ _ _ du rfl (five_set q1') hu1 (by cases du<;>first | rfl | exact hu2) size_term) rfl ?_
     rw [HRES.out]
     exact⟨_,rfl,liesQ_fives HLL.out (by omega) (by omega) (by omega) _ _ _ _ _,below_five hbw (by omega) _ _ _ _ _⟩
  ·have hpk:∀ p ∈ ([2]:List Nat),p<t.kids.length:=by
    have hlen:=node_length (t.right_node HR0.out)
    rw [hkc] at hlen
    have h9:t.kids.length=3:=by simp [kidsN] at hlen;omega
    intro p hp
    simp at hp
    omega
   have hres:=bare_pick t 8 [2] hkc rfl rfl hpk
   have hb4:=below_four w (.cells #[.int .i64 t.k,.int .i64 t.i,.int .i64 t.j,.int .i64 t.n,.slice a t.kids.length cap] 24) (.cells #[.int .i64 0,.int .i64 0,.int .i64 0,.int .i64 0,.slice none 0 0] 24) (.cells #[] 3) (.cells #[.int .i64 2] 3)
   obtain⟨q0,q1,-,q3⟩:=heap_four w (.cells #[.int .i64 t.k,.int .i64 t.i,.int .i64 t.j,.int .i64 t.n,.slice a t.kids.length cap] 24) (.cells #[.int .i64 0,.int .i64 0,.int .i64 0,.int .i64 0,.slice none 0 0] 24) (.cells #[] 3) (.cells #[.int .i64 2] 3)
   have hti:=liesI_new (l:=[(2:Int)]) q3 (by decide)
   have hkm:∀ p (h:p ∈ ([2]:List Nat)),(t.kids[p]'(hpk p h)).markedB=true:=fun p h=>marked_others HM0.out (by rw [hkc];decide) _ (List.getElem_mem _)
   have e3:(t.k==3)=false:=by rw [hkc];decide
   have e4:(t.k==4)=false:=by rw [hkc];decide
   have e5:(t.k==5)=false:=by rw [hkc];decide
   have e6:(t.k==6)=false:=by rw [hkc];decide
   have e7:(t.k==7)=false:=by rw [hkc];decide
   have e8:(t.k==8)=true:=by rw [hkc];decide
   clear hkc
   go_enter Try.func78,Try.ntmps78
   go_upto_region 24 with fail
   have hs4:w.heap.size+3<(((((w.alloc (.cells #[.int .i64 t.k,.int .i64 t.i,.int .i64 t.j,.int .i64 t.n,.slice a t.kids.length cap] 24)).alloc (.cells #[.int .i64 0,.int .i64 0,.int .i64 0,.int .i64 0,.slice none 0 0] 24)).alloc (.cells #[] 3)).alloc (.cells #[.int .i64 2] 3))).heap.size:=by simp
   generalize ((((w.alloc (.cells #[.int .i64 t.k,.int .i64 t.i,.int .i64 t.j,.int .i64 t.n,.slice a t.kids.length cap] 24)).alloc (.cells #[.int .i64 0,.int .i64 0,.int .i64 0,.int .i64 0,.slice none 0 0] 24)).alloc (.cells #[] 3)).alloc (.cells #[.int .i64 2] 3))=v1 at hb4 q0 q1 q3 hti hs4 ⊢
   have HTI:=Lib.hid hti
   have HPKL:=Lib.hid hpk
   have HKM:=Lib.hid hkm
   have HRES:=Lib.hid hres
   have HB4:=Lib.hid hb4
   have Q0:=Lib.hid q0
   have Q1:=Lib.hid q1
   have hEv:E≤v1.heap.size:=by omega
   have hk0:=kept_start v1
   obtain⟨M,hM⟩:∃ M,v1.heap.size=M:=⟨_,rfl⟩
   obtain⟨ti,tcap,hsl,htc,htm,htn⟩:=hti.out
   simp only [Value.slice.injEq] at hsl
   obtain⟨rfl,-,rfl⟩:=hsl
   have HTN:=Lib.hid htn
   clear hti hkm hres hb4 q0 q1 q3 htn htc htm
   obtain⟨i0,hi,hz0,hz1,hz2⟩:=info_parts info_term
   have HI:=Lib.hid (And.intro hi (And.intro hz0 (And.intro hz1 hz2)))
   clear hi hz0 hz1 hz2
   go_wp2_with fail
   go_loopw [5,6] (fun v i wr=>∃ (q:Nat) (ps:List (Tm × Value)) (vv:Value),vv=v∧q≤1∧i=.int .i64 q∧Hid (ps.map (·.1)=(picked t ([2]:List Nat)).take q)∧MadeQ E v1.heap.size v1.heap.size wr v ps∧Kept v1 wr) (fun _ i _=>1-(intOf i).toNat)
   case atStart=>exact⟨0,[],_,rfl,Nat.zero_le _,rfl,by simp [Hid],madeQ_nil _ _ _ _,hk0⟩
   case round =>
    clear hk0
    obtain⟨q,ps,vv,rfl,hq0,rfl,hps,hmade,hkp⟩:=hrel
    have HPS:=Lib.hid hps.out
    clear hps
    have t0:=keep_block hkp (block_lt Q0.out) Q0.out
    have t1:=keep_block hkp (block_lt Q1.out) Q1.out
    obtain⟨d0,d1,d2,d3,d4⟩:=five_cells t0
    obtain⟨z0,z1,z2,z3,z4⟩:=five_cells t1
    obtain⟨f0,f1,f2,f3,f4⟩:=five_free t1
    have hsz:v1.heap.size≤wr.heap.size:=Below.size hkp
    clear t0
    by_cases hlt:q<1
    ·obtain⟨p,hp⟩:∃ p,([2]:List Nat)[q]'(by exact hlt)=p:=⟨_,rfl⟩
     have hpm:p ∈ ([2]:List Nat):=by rw [←hp];exact List.getElem_mem _
     have hplt:=HPKL.out p hpm
     obtain⟨b9,o9,h9,hx9⟩:=HTN.out q (by simpa using hlt)
     have hv9:([(2:Int)])[q]'(by simpa using hlt)=(p:Int):=by
      subst hp
      have:q=0∨q=1∨q=2∨q=3:=by first | omega | (simp at hlt;omega)
      rcases this with rfl | rfl | rfl | rfl<;>first | rfl | (simp at hlt) | omega
     rw [hv9] at hx9
     simp only [Option.some.injEq,Addr.mk.injEq] at h9
     obtain⟨rfl,rfl,-⟩:=h9
     replace hx9:v1.cell? ⟨w.heap.size+1+1+1,q,none⟩=some (.int .i64 p):=by rw [Nat.zero_add] at hx9;exact hx9
     obtain⟨b',o,rfl,hQb,hx⟩:=HN.out p hplt
     have hq:=HK.out p hplt
     obtain⟨a',cap',S',hS,-⟩:=hq.out
     rw [hS] at hx hq
     have hkid:(t.kids[p]?).getD .zero=t.kids[p]:=by rw [List.getElem?_eq_getElem hplt];rfl
     have HMem:=Lib.hid (List.getElem_mem hplt)
     have hrk:=HKM.out p hpm
     have hfx:=right_fine (plain_right (bare_plain _ (marked_right hrk)))
     have hEr:E≤wr.heap.size:=by have:=HB4.out.size;omega
     have CALL:=Lib.hid (IH.out _ HMem.out E wr.drew _ hEr ((hq.later HB4.out).later (Below.trans hkp (Below.refl _ _).drew)) hrk)
     have hpick:(picked t ([2]:List Nat)).take (q+1)=(picked t ([2]:List Nat)).take q++[(t.kids[p]).bare]:=by
      rw [List.take_succ_eq_append_getElem (by unfold picked;rw [List.length_map];exact hlt)]
      congr 2
      simp only [picked,List.getElem_map,hp,hkid]
     obtain⟨x,hxb⟩:∃ x,(t.kids[p]).bare=x:=⟨_,rfl⟩
     rw [hxb] at CALL hfx hpick
     have hpl:ps.length=q:=by have:=congrArg List.length HPS.out;simp [picked] at this;first | omega | (simp at hlt;omega)
     have HPL:=Lib.hid hpl
     have HMD:=Lib.hid hmade
     have HFX:=Lib.hid hfx
     have HPICK:=Lib.hid hpick
     have hnode:=hx.below HB4.out hx.lt
     have hb4':=HB4.out.size
     have hnc:=five_cells Q0.out
     have hd4:=hnc.2.2.2.2
     obtain⟨c0,c1,c2,c3,c4⟩:=hnode.below hkp hnode.lt
     have hc9:=cell_lat hkp hx9
     clear hS hq hx hfx hpick hxb hkid hrk hp hmade hpl hv9 hnc
     go_wp2_with fail
     go_region_held3 (fun w'=>Kept v1 w'∧w'.cell? ⟨w.heap.size,4,none⟩=some (.slice (some ⟨b',o,none⟩) t.kids.length cap)∧w'.cell? ⟨w.heap.size+1+1+1,q,none⟩=some (.int .i64 p)∧w'.cell? ⟨b',o+p * 5,none⟩=some (.int .i64 t.kids[p].k)∧w'.cell? ⟨b',o+p * 5+1,none⟩=some (.int .i64 t.kids[p].i)∧w'.cell? ⟨b',o+p * 5+2,none⟩=some (.int .i64 t.kids[p].j)∧w'.cell? ⟨b',o+p * 5+3,none⟩=some (.int .i64 t.kids[p].n)∧w'.cell? ⟨b',o+p * 5+4,none⟩=some (.slice a' t.kids[p].kids.length cap'))
      (((with_reducible refine strip_and ?_ hd4 hx9 hnode);repeat (first | with_reducible assumption | with_reducible exact hkp | with_reducible refine kept_drew ?_ | with_reducible refine kept_alloc ?_ _)))
      (first | (go_at_call 78;((with_reducible refine Calls.mono CALL.out ?_);rintro e wn ⟨s2,rfl,hl2,hbn⟩;obtain⟨a2,cap2,S2,rfl,-⟩:=hl2.out;have HL2:=Lib.hid hl2;have HB2:=Lib.hid hbn;have hk2:=kept_call (kept_drew hkp) hbn;clear hl2 hbn)) | (refine step_append_lies _ rfl _ _ 22 rfl (v1.heap.size) 24 i0 _ 5 56 (by kernel_rfl) HI.out.1 HI.out.2.1 HI.out.2.2.1 HI.out.2.2.2 rfl (by decide) _ ps.length (cells5 ps) rfl (madeQ_later (madeQ_later (madeQ_later HMD.out (Below.refl _ _).drew) HB2.out) ((Below.refl _ _).alloc (Nat.le_refl _) _)).own ⟨wn.heap.size,0,none⟩ 1 1 (cells5 [(x,.slice a2 x.kids.length cap2)]) rfl rfl (news_new _ _ _ _) (one5 _ _) (by decide) (by have:=HPL.out;unfold maxLen;omega) (by have:=HPL.out;omega) (by have:=Below.size hk2;simp;omega) _ rfl ?_;intro g cap3 w3 hown hgrow hat _;have hmq:=madeQ_push (madeQ_later HMD.out (Below.refl _ _).drew) hEv (Nat.le_refl _) hsz HFX.out HB2.out HL2.out _ hown hgrow hat;have HMQ:=Lib.hid hmq;have hk3:Kept v1 w3:=Below.grown (Below.alloc hk2 (Below.size hk2) _) hgrow (by have:=Below.size hk2;simp;omega) (madeQ_above HMD.out);clear hmq hown hgrow hat))
     go_wp2_with fail
     go_roundw
     case rel=>exact⟨q+1,ps++[(x,.slice a2 x.kids.length cap2)],_,rfl,hlt,by go_num,by rw [Hid,List.map_append,HPS.out,HPICK.out];rfl,HMQ.out,hk3⟩
     case measure=>simp [intOf];omega
    ·have:q=1:=by omega
     subst this
     have hres2:ps.map (·.1)=picked t ([2]:List Nat):=by
      have:=HPS.out
      rwa [List.take_of_length_le (by simp [picked])] at this
     have hll:=madeQ_lies hmade (Nat.le_refl _)
     rw [hres2] at hll
     obtain⟨a2,cap2,S2,rfl,-⟩:=hll.out
     have HLL:=Lib.hid hll
     have hbw:=HB4.out.trans (Below.mono hkp HB4.out.size)
     have q1':=t1
     clear hres2 hll hmade
     go_wp2
     (try simp only [Exit.inBlock,Exit.then])
     refine bodyPost_ret (results_cell_row rfl _ _ (w.heap.size+1) _ _ _ du rfl (five_set q1') hu1 (by cases du<;>first | rfl | exact hu2) size_term) rfl ?_
     rw [HRES.out]
     exact⟨_,rfl,liesQ_fives HLL.out (by omega) (by omega) (by omega) _ _ _ _ _,below_five hbw (by omega) _ _ _ _ _⟩
  ·have hpk:∀ p ∈ ([2]:List Nat),p<t.kids.length:=by
    have hlen:=node_length (t.right_node HR0.out)
    rw [hkc] at hlen
    have h9:t.kids.length=3:=by simp [kidsN] at hlen;omega
    intro p hp
    simp at hp
    omega
   have hres:=bare_pick t 9 [2] hkc rfl rfl hpk
   have hb4:=below_four w (.cells #[.int .i64 t.k,.int .i64 t.i,.int .i64 t.j,.int .i64 t.n,.slice a t.kids.length cap] 24) (.cells #[.int .i64 0,.int .i64 0,.int .i64 0,.int .i64 0,.slice none 0 0] 24) (.cells #[] 3) (.cells #[.int .i64 2] 3)
   obtain⟨q0,q1,-,q3⟩:=heap_four w (.cells #[.int .i64 t.k,.int .i64 t.i,.int .i64 t.j,.int .i64 t.n,.slice a t.kids.length cap] 24) (.cells #[.int .i64 0,.int .i64 0,.int .i64 0,.int .i64 0,.slice none 0 0] 24) (.cells #[] 3) (.cells #[.int .i64 2] 3)
   have hti:=liesI_new (l:=[(2:Int)]) q3 (by decide)
   have hkm:∀ p (h:p ∈ ([2]:List Nat)),(t.kids[p]'(hpk p h)).markedB=true:=fun p h=>marked_others HM0.out (by rw [hkc];decide) _ (List.getElem_mem _)
   have e3:(t.k==3)=false:=by rw [hkc];decide
   have e4:(t.k==4)=false:=by rw [hkc];decide
   have e5:(t.k==5)=false:=by rw [hkc];decide
   have e6:(t.k==6)=false:=by rw [hkc];decide
   have e7:(t.k==7)=false:=by rw [hkc];decide
   have e8:(t.k==8)=false:=by rw [hkc];decide
   have e9:(t.k==9)=true:=by rw [hkc];decide
   clear hkc
   go_enter Try.func78,Try.ntmps78
   go_upto_region 24 with fail
   have hs4:w.heap.size+3<(((((w.alloc (.cells #[.int .i64 t.k,.int .i64 t.i,.int .i64 t.j,.int .i64 t.n,.slice a t.kids.length cap] 24)).alloc (.cells #[.int .i64 0,.int .i64 0,.int .i64 0,.int .i64 0,.slice none 0 0] 24)).alloc (.cells #[] 3)).alloc (.cells #[.int .i64 2] 3))).heap.size:=by simp
   generalize ((((w.alloc (.cells #[.int .i64 t.k,.int .i64 t.i,.int .i64 t.j,.int .i64 t.n,.slice a t.kids.length cap] 24)).alloc (.cells #[.int .i64 0,.int .i64 0,.int .i64 0,.int .i64 0,.slice none 0 0] 24)).alloc (.cells #[] 3)).alloc (.cells #[.int .i64 2] 3))=v1 at hb4 q0 q1 q3 hti hs4 ⊢
   have HTI:=Lib.hid hti
   have HPKL:=Lib.hid hpk
   have HKM:=Lib.hid hkm
   have HRES:=Lib.hid hres
   have HB4:=Lib.hid hb4
   have Q0:=Lib.hid q0
   have Q1:=Lib.hid q1
   have hEv:E≤v1.heap.size:=by omega
   have hk0:=kept_start v1
   obtain⟨M,hM⟩:∃ M,v1.heap.size=M:=⟨_,rfl⟩
   obtain⟨ti,tcap,hsl,htc,htm,htn⟩:=hti.out
   simp only [Value.slice.injEq] at hsl
   obtain⟨rfl,-,rfl⟩:=hsl
   have HTN:=Lib.hid htn
   clear hti hkm hres hb4 q0 q1 q3 htn htc htm
   obtain⟨i0,hi,hz0,hz1,hz2⟩:=info_parts info_term
   have HI:=Lib.hid (And.intro hi (And.intro hz0 (And.intro hz1 hz2)))
   clear hi hz0 hz1 hz2
   go_wp2_with fail
   go_loopw [5,6] (fun v i wr=>∃ (q:Nat) (ps:List (Tm × Value)) (vv:Value),vv=v∧q≤1∧i=.int .i64 q∧Hid (ps.map (·.1)=(picked t ([2]:List Nat)).take q)∧MadeQ E v1.heap.size v1.heap.size wr v ps∧Kept v1 wr) (fun _ i _=>1-(intOf i).toNat)
   case atStart=>exact⟨0,[],_,rfl,Nat.zero_le _,rfl,by simp [Hid],madeQ_nil _ _ _ _,hk0⟩
   case round =>
    clear hk0
    obtain⟨q,ps,vv,rfl,hq0,rfl,hps,hmade,hkp⟩:=hrel
    have HPS:=Lib.hid hps.out
    clear hps
    have t0:=keep_block hkp (block_lt Q0.out) Q0.out
    have t1:=keep_block hkp (block_lt Q1.out) Q1.out
    obtain⟨d0,d1,d2,d3,d4⟩:=five_cells t0
    obtain⟨z0,z1,z2,z3,z4⟩:=five_cells t1
    obtain⟨f0,f1,f2,f3,f4⟩:=five_free t1
    have hsz:v1.heap.size≤wr.heap.size:=Below.size hkp
    clear t0
    by_cases hlt:q<1
    ·obtain⟨p,hp⟩:∃ p,([2]:List Nat)[q]'(by exact hlt)=p:=⟨_,rfl⟩
     have hpm:p ∈ ([2]:List Nat):=by rw [←hp];exact List.getElem_mem _
     have hplt:=HPKL.out p hpm
     obtain⟨b9,o9,h9,hx9⟩:=HTN.out q (by simpa using hlt)
     have hv9:([(2:Int)])[q]'(by simpa using hlt)=(p:Int):=by
      subst hp
      have:q=0∨q=1∨q=2∨q=3:=by first | omega | (simp at hlt;omega)
      rcases this with rfl | rfl | rfl | rfl<;>first | rfl | (simp at hlt) | omega
     rw [hv9] at hx9
     simp only [Option.some.injEq,Addr.mk.injEq] at h9
     obtain⟨rfl,rfl,-⟩:=h9
     replace hx9:v1.cell? ⟨w.heap.size+1+1+1,q,none⟩=some (.int .i64 p):=by rw [Nat.zero_add] at hx9;exact hx9
     obtain⟨b',o,rfl,hQb,hx⟩:=HN.out p hplt
     have hq:=HK.out p hplt
     obtain⟨a',cap',S',hS,-⟩:=hq.out
     rw [hS] at hx hq
     have hkid:(t.kids[p]?).getD .zero=t.kids[p]:=by rw [List.getElem?_eq_getElem hplt];rfl
     have HMem:=Lib.hid (List.getElem_mem hplt)
     have hrk:=HKM.out p hpm
     have hfx:=right_fine (plain_right (bare_plain _ (marked_right hrk)))
     have hEr:E≤wr.heap.size:=by have:=HB4.out.size;omega
     have CALL:=Lib.hid (IH.out _ HMem.out E wr.drew _ hEr ((hq.later HB4.out).later (Below.trans hkp (Below.refl _ _).drew)) hrk)
     have hpick:(picked t ([2]:List Nat)).take (q+1)=(picked t ([2]:List Nat)).take q++[(t.kids[p]).bare]:=by
      rw [List.take_succ_eq_append_getElem (by unfold picked;rw [List.length_map];exact hlt)]
      congr 2
      simp only [picked,List.getElem_map,hp,hkid]
     obtain⟨x,hxb⟩:∃ x,(t.kids[p]).bare=x:=⟨_,rfl⟩
     rw [hxb] at CALL hfx hpick
     have hpl:ps.length=q:=by have:=congrArg List.length HPS.out;simp [picked] at this;first | omega | (simp at hlt;omega)
     have HPL:=Lib.hid hpl
     have HMD:=Lib.hid hmade
     have HFX:=Lib.hid hfx
     have HPICK:=Lib.hid hpick
     have hnode:=hx.below HB4.out hx.lt
     have hb4':=HB4.out.size
     have hnc:=five_cells Q0.out
     have hd4:=hnc.2.2.2.2
     obtain⟨c0,c1,c2,c3,c4⟩:=hnode.below hkp hnode.lt
     have hc9:=cell_lat hkp hx9
     clear hS hq hx hfx hpick hxb hkid hrk hp hmade hpl hv9 hnc
     go_wp2_with fail
     go_region_held3 (fun w'=>Kept v1 w'∧w'.cell? ⟨w.heap.size,4,none⟩=some (.slice (some ⟨b',o,none⟩) t.kids.length cap)∧w'.cell? ⟨w.heap.size+1+1+1,q,none⟩=some (.int .i64 p)∧w'.cell? ⟨b',o+p * 5,none⟩=some (.int .i64 t.kids[p].k)∧w'.cell? ⟨b',o+p * 5+1,none⟩=some (.int .i64 t.kids[p].i)∧w'.cell? ⟨b',o+p * 5+2,none⟩=some (.int .i64 t.kids[p].j)∧w'.cell? ⟨b',o+p * 5+3,none⟩=some (.int .i64 t.kids[p].n)∧w'.cell? ⟨b',o+p * 5+4,none⟩=some (.slice a' t.kids[p].kids.length cap'))
      (((with_reducible refine strip_and ?_ hd4 hx9 hnode);repeat (first | with_reducible assumption | with_reducible exact hkp | with_reducible refine kept_drew ?_ | with_reducible refine kept_alloc ?_ _)))
      (first | (go_at_call 78;((with_reducible refine Calls.mono CALL.out ?_);rintro e wn ⟨s2,rfl,hl2,hbn⟩;obtain⟨a2,cap2,S2,rfl,-⟩:=hl2.out;have HL2:=Lib.hid hl2;have HB2:=Lib.hid hbn;have hk2:=kept_call (kept_drew hkp) hbn;clear hl2 hbn)) | (refine step_append_lies _ rfl _ _ 22 rfl (v1.heap.size) 24 i0 _ 5 56 (by kernel_rfl) HI.out.1 HI.out.2.1 HI.out.2.2.1 HI.out.2.2.2 rfl (by decide) _ ps.length (cells5 ps) rfl (madeQ_later (madeQ_later (madeQ_later HMD.out (Below.refl _ _).drew) HB2.out) ((Below.refl _ _).alloc (Nat.le_refl _) _)).own ⟨wn.heap.size,0,none⟩ 1 1 (cells5 [(x,.slice a2 x.kids.length cap2)]) rfl rfl (news_new _ _ _ _) (one5 _ _) (by decide) (by have:=HPL.out;unfold maxLen;omega) (by have:=HPL.out;omega) (by have:=Below.size hk2;simp;omega) _ rfl ?_;intro g cap3 w3 hown hgrow hat _;have hmq:=madeQ_push (madeQ_later HMD.out (Below.refl _ _).drew) hEv (Nat.le_refl _) hsz HFX.out HB2.out HL2.out _ hown hgrow hat;have HMQ:=Lib.hid hmq;have hk3:Kept v1 w3:=Below.grown (Below.alloc hk2 (Below.size hk2) _) hgrow (by have:=Below.size hk2;simp;omega) (madeQ_above HMD.out);clear hmq hown hgrow hat))
     go_wp2_with fail
     go_roundw
     case rel=>exact⟨q+1,ps++[(x,.slice a2 x.kids.length cap2)],_,rfl,hlt,by go_num,by rw [Hid,List.map_append,HPS.out,HPICK.out];rfl,HMQ.out,hk3⟩
     case measure=>simp [intOf];omega
    ·have:q=1:=by omega
     subst this
     have hres2:ps.map (·.1)=picked t ([2]:List Nat):=by
      have:=HPS.out
      rwa [List.take_of_length_le (by simp [picked])] at this
     have hll:=madeQ_lies hmade (Nat.le_refl _)
     rw [hres2] at hll
     obtain⟨a2,cap2,S2,rfl,-⟩:=hll.out
     have HLL:=Lib.hid hll
     have hbw:=HB4.out.trans (Below.mono hkp HB4.out.size)
     have q1':=t1
     clear hres2 hll hmade
     go_wp2
     (try simp only [Exit.inBlock,Exit.then])
     refine bodyPost_ret (results_cell_row rfl _ _ (w.heap.size+1) _ _ _ du rfl (five_set q1') hu1 (by cases du<;>first | rfl | exact hu2) size_term) rfl ?_
     rw [HRES.out]
     exact⟨_,rfl,liesQ_fives HLL.out (by omega) (by omega) (by omega) _ _ _ _ _,below_five hbw (by omega) _ _ _ _ _⟩
  ·have hpk:∀ p ∈ ([0,1,2]:List Nat),p<t.kids.length:=by
    have hlen:=node_length (t.right_node HR0.out)
    rw [hkc] at hlen
    have h9:t.kids.length=3:=by simp [kidsN] at hlen;omega
    intro p hp
    simp at hp
    omega
   have hres:=bare_pick t 10 [0,1,2] hkc rfl rfl hpk
   have hb4:=below_four w (.cells #[.int .i64 t.k,.int .i64 t.i,.int .i64 t.j,.int .i64 t.n,.slice a t.kids.length cap] 24) (.cells #[.int .i64 0,.int .i64 0,.int .i64 0,.int .i64 0,.slice none 0 0] 24) (.cells #[] 3) (.cells #[.int .i64 0,.int .i64 1,.int .i64 2] 3)
   obtain⟨q0,q1,-,q3⟩:=heap_four w (.cells #[.int .i64 t.k,.int .i64 t.i,.int .i64 t.j,.int .i64 t.n,.slice a t.kids.length cap] 24) (.cells #[.int .i64 0,.int .i64 0,.int .i64 0,.int .i64 0,.slice none 0 0] 24) (.cells #[] 3) (.cells #[.int .i64 0,.int .i64 1,.int .i64 2] 3)
   have hti:=liesI_new (l:=[(0:Int),(1:Int),(2:Int)]) q3 (by decide)
   have hkm:∀ p (h:p ∈ ([0,1,2]:List Nat)),(t.kids[p]'(hpk p h)).markedB=true:=fun p h=>marked_others HM0.out (by rw [hkc];decide) _ (List.getElem_mem _)
   have e3:(t.k==3)=false:=by rw [hkc];decide
   have e4:(t.k==4)=false:=by rw [hkc];decide
   have e5:(t.k==5)=false:=by rw [hkc];decide
   have e6:(t.k==6)=false:=by rw [hkc];decide
   have e7:(t.k==7)=false:=by rw [hkc];decide
   have e8:(t.k==8)=false:=by rw [hkc];decide
   have e9:(t.k==9)=false:=by rw [hkc];decide
   have e10:(t.k==10)=true:=by rw [hkc];decide
   clear hkc
   go_enter Try.func78,Try.ntmps78
   go_upto_region 24 with fail
   have hs4:w.heap.size+3<(((((w.alloc (.cells #[.int .i64 t.k,.int .i64 t.i,.int .i64 t.j,.int .i64 t.n,.slice a t.kids.length cap] 24)).alloc (.cells #[.int .i64 0,.int .i64 0,.int .i64 0,.int .i64 0,.slice none 0 0] 24)).alloc (.cells #[] 3)).alloc (.cells #[.int .i64 0,.int .i64 1,.int .i64 2] 3))).heap.size:=by simp
   generalize ((((w.alloc (.cells #[.int .i64 t.k,.int .i64 t.i,.int .i64 t.j,.int .i64 t.n,.slice a t.kids.length cap] 24)).alloc (.cells #[.int .i64 0,.int .i64 0,.int .i64 0,.int .i64 0,.slice none 0 0] 24)).alloc (.cells #[] 3)).alloc (.cells #[.int .i64 0,.int .i64 1,.int .i64 2] 3))=v1 at hb4 q0 q1 q3 hti hs4 ⊢
   have HTI:=Lib.hid hti
   have HPKL:=Lib.hid hpk
   have HKM:=Lib.hid hkm
   have HRES:=Lib.hid hres
   have HB4:=Lib.hid hb4
   have Q0:=Lib.hid q0
   have Q1:=Lib.hid q1
   have hEv:E≤v1.heap.size:=by omega
   have hk0:=kept_start v1
   obtain⟨M,hM⟩:∃ M,v1.heap.size=M:=⟨_,rfl⟩
   obtain⟨ti,tcap,hsl,htc,htm,htn⟩:=hti.out
   simp only [Value.slice.injEq] at hsl
   obtain⟨rfl,-,rfl⟩:=hsl
   have HTN:=Lib.hid htn
   clear hti hkm hres hb4 q0 q1 q3 htn htc htm
   obtain⟨i0,hi,hz0,hz1,hz2⟩:=info_parts info_term
   have HI:=Lib.hid (And.intro hi (And.intro hz0 (And.intro hz1 hz2)))
   clear hi hz0 hz1 hz2
   go_wp2_with fail
   go_loopw [5,6] (fun v i wr=>∃ (q:Nat) (ps:List (Tm × Value)) (vv:Value),vv=v∧q≤3∧i=.int .i64 q∧Hid (ps.map (·.1)=(picked t ([0,1,2]:List Nat)).take q)∧MadeQ E v1.heap.size v1.heap.size wr v ps∧Kept v1 wr) (fun _ i _=>3-(intOf i).toNat)
   case atStart=>exact⟨0,[],_,rfl,Nat.zero_le _,rfl,by simp [Hid],madeQ_nil _ _ _ _,hk0⟩
   case round =>
    clear hk0
    obtain⟨q,ps,vv,rfl,hq0,rfl,hps,hmade,hkp⟩:=hrel
    have HPS:=Lib.hid hps.out
    clear hps
    have t0:=keep_block hkp (block_lt Q0.out) Q0.out
    have t1:=keep_block hkp (block_lt Q1.out) Q1.out
    obtain⟨d0,d1,d2,d3,d4⟩:=five_cells t0
    obtain⟨z0,z1,z2,z3,z4⟩:=five_cells t1
    obtain⟨f0,f1,f2,f3,f4⟩:=five_free t1
    have hsz:v1.heap.size≤wr.heap.size:=Below.size hkp
    clear t0
    by_cases hlt:q<3
    ·obtain⟨p,hp⟩:∃ p,([0,1,2]:List Nat)[q]'(by exact hlt)=p:=⟨_,rfl⟩
     have hpm:p ∈ ([0,1,2]:List Nat):=by rw [←hp];exact List.getElem_mem _
     have hplt:=HPKL.out p hpm
     obtain⟨b9,o9,h9,hx9⟩:=HTN.out q (by simpa using hlt)
     have hv9:([(0:Int),(1:Int),(2:Int)])[q]'(by simpa using hlt)=(p:Int):=by
      subst hp
      have:q=0∨q=1∨q=2∨q=3:=by first | omega | (simp at hlt;omega)
      rcases this with rfl | rfl | rfl | rfl<;>first | rfl | (simp at hlt) | omega
     rw [hv9] at hx9
     simp only [Option.some.injEq,Addr.mk.injEq] at h9
     obtain⟨rfl,rfl,-⟩:=h9
     replace hx9:v1.cell? ⟨w.heap.size+1+1+1,q,none⟩=some (.int .i64 p):=by rw [Nat.zero_add] at hx9;exact hx9
     obtain⟨b',o,rfl,hQb,hx⟩:=HN.out p hplt
     have hq:=HK.out p hplt
     obtain⟨a',cap',S',hS,-⟩:=hq.out
     rw [hS] at hx hq
     have hkid:(t.kids[p]?).getD .zero=t.kids[p]:=by rw [List.getElem?_eq_getElem hplt];rfl
     have HMem:=Lib.hid (List.getElem_mem hplt)
     have hrk:=HKM.out p hpm
     have hfx:=right_fine (plain_right (bare_plain _ (marked_right hrk)))
     have hEr:E≤wr.heap.size:=by have:=HB4.out.size;omega
     have CALL:=Lib.hid (IH.out _ HMem.out E wr.drew _ hEr ((hq.later HB4.out).later (Below.trans hkp (Below.refl _ _).drew)) hrk)
     have hpick:(picked t ([0,1,2]:List Nat)).take (q+1)=(picked t ([0,1,2]:List Nat)).take q++[(t.kids[p]).bare]:=by
      rw [List.take_succ_eq_append_getElem (by unfold picked;rw [List.length_map];exact hlt)]
      congr 2
      simp only [picked,List.getElem_map,hp,hkid]
     obtain⟨x,hxb⟩:∃ x,(t.kids[p]).bare=x:=⟨_,rfl⟩
     rw [hxb] at CALL hfx hpick
     have hpl:ps.length=q:=by have:=congrArg List.length HPS.out;simp [picked] at this;first | omega | (simp at hlt;omega)
     have HPL:=Lib.hid hpl
     have HMD:=Lib.hid hmade
     have HFX:=Lib.hid hfx
     have HPICK:=Lib.hid hpick
     have hnode:=hx.below HB4.out hx.lt
     have hb4':=HB4.out.size
     have hnc:=five_cells Q0.out
     have hd4:=hnc.2.2.2.2
     obtain⟨c0,c1,c2,c3,c4⟩:=hnode.below hkp hnode.lt
     have hc9:=cell_lat hkp hx9
     clear hS hq hx hfx hpick hxb hkid hrk hp hmade hpl hv9 hnc
     go_wp2_with fail
     go_region_held3 (fun w'=>Kept v1 w'∧w'.cell? ⟨w.heap.size,4,none⟩=some (.slice (some ⟨b',o,none⟩) t.kids.length cap)∧w'.cell? ⟨w.heap.size+1+1+1,q,none⟩=some (.int .i64 p)∧w'.cell? ⟨b',o+p * 5,none⟩=some (.int .i64 t.kids[p].k)∧w'.cell? ⟨b',o+p * 5+1,none⟩=some (.int .i64 t.kids[p].i)∧w'.cell? ⟨b',o+p * 5+2,none⟩=some (.int .i64 t.kids[p].j)∧w'.cell? ⟨b',o+p * 5+3,none⟩=some (.int .i64 t.kids[p].n)∧w'.cell? ⟨b',o+p * 5+4,none⟩=some (.slice a' t.kids[p].kids.length cap'))
      (((with_reducible refine strip_and ?_ hd4 hx9 hnode);repeat (first | with_reducible assumption | with_reducible exact hkp | with_reducible refine kept_drew ?_ | with_reducible refine kept_alloc ?_ _)))
      (first | (go_at_call 78;((with_reducible refine Calls.mono CALL.out ?_);rintro e wn ⟨s2,rfl,hl2,hbn⟩;obtain⟨a2,cap2,S2,rfl,-⟩:=hl2.out;have HL2:=Lib.hid hl2;have HB2:=Lib.hid hbn;have hk2:=kept_call (kept_drew hkp) hbn;clear hl2 hbn)) | (refine step_append_lies _ rfl _ _ 22 rfl (v1.heap.size) 24 i0 _ 5 56 (by kernel_rfl) HI.out.1 HI.out.2.1 HI.out.2.2.1 HI.out.2.2.2 rfl (by decide) _ ps.length (cells5 ps) rfl (madeQ_later (madeQ_later (madeQ_later HMD.out (Below.refl _ _).drew) HB2.out) ((Below.refl _ _).alloc (Nat.le_refl _) _)).own ⟨wn.heap.size,0,none⟩ 1 1 (cells5 [(x,.slice a2 x.kids.length cap2)]) rfl rfl (news_new _ _ _ _) (one5 _ _) (by decide) (by have:=HPL.out;unfold maxLen;omega) (by have:=HPL.out;omega) (by have:=Below.size hk2;simp;omega) _ rfl ?_;intro g cap3 w3 hown hgrow hat _;have hmq:=madeQ_push (madeQ_later HMD.out (Below.refl _ _).drew) hEv (Nat.le_refl _) hsz HFX.out HB2.out HL2.out _ hown hgrow hat;have HMQ:=Lib.hid hmq;have hk3:Kept v1 w3:=Below.grown (Below.alloc hk2 (Below.size hk2) _) hgrow (by have:=Below.size hk2;simp;omega) (madeQ_above HMD.out);clear hmq hown hgrow hat))
     go_wp2_with fail
     go_roundw
     case rel=>exact⟨q+1,ps++[(x,.slice a2 x.kids.length cap2)],_,rfl,hlt,by go_num,by rw [Hid,List.map_append,HPS.out,HPICK.out];rfl,HMQ.out,hk3⟩
     case measure=>simp [intOf];omega
    ·have:q=3:=by omega
     subst this
     have hres2:ps.map (·.1)=picked t ([0,1,2]:List Nat):=by
      have:=HPS.out
      rwa [List.take_of_length_le (by simp [picked])] at this
     have hll:=madeQ_lies hmade (Nat.le_refl _)
     rw [hres2] at hll
     obtain⟨a2,cap2,S2,rfl,-⟩:=hll.out
     have HLL:=Lib.hid hll
     have hbw:=HB4.out.trans (Below.mono hkp HB4.out.size)
     have q1':=t1
     clear hres2 hll hmade
     go_wp2
     (try simp only [Exit.inBlock,Exit.then])
     refine bodyPost_ret (results_cell_row rfl _ _ (w.heap.size+1) _ _ _ du rfl (five_set q1') hu1 (by cases du<;>first | rfl | exact hu2) size_term) rfl ?_
     rw [HRES.out]
     exact⟨_,rfl,liesQ_fives HLL.out (by omega) (by omega) (by omega) _ _ _ _ _,below_five hbw (by omega) _ _ _ _ _⟩
  ·have hpk:∀ p ∈ ([0,1]:List Nat),p<t.kids.length:=by
    have hlen:=node_length (t.right_node HR0.out)
    rw [hkc] at hlen
    have h9:t.kids.length=2:=by simp [kidsN] at hlen;omega
    intro p hp
    simp at hp
    omega
   have hres:=bare_pick t 11 [0,1] hkc rfl rfl hpk
   have hb4:=below_four w (.cells #[.int .i64 t.k,.int .i64 t.i,.int .i64 t.j,.int .i64 t.n,.slice a t.kids.length cap] 24) (.cells #[.int .i64 0,.int .i64 0,.int .i64 0,.int .i64 0,.slice none 0 0] 24) (.cells #[] 3) (.cells #[.int .i64 0,.int .i64 1] 3)
   obtain⟨q0,q1,-,q3⟩:=heap_four w (.cells #[.int .i64 t.k,.int .i64 t.i,.int .i64 t.j,.int .i64 t.n,.slice a t.kids.length cap] 24) (.cells #[.int .i64 0,.int .i64 0,.int .i64 0,.int .i64 0,.slice none 0 0] 24) (.cells #[] 3) (.cells #[.int .i64 0,.int .i64 1] 3)
   have hti:=liesI_new (l:=[(0:Int),(1:Int)]) q3 (by decide)
   have hkm:∀ p (h:p ∈ ([0,1]:List Nat)),(t.kids[p]'(hpk p h)).markedB=true:=fun p h=>marked_others HM0.out (by rw [hkc];decide) _ (List.getElem_mem _)
   have e3:(t.k==3)=false:=by rw [hkc];decide
   have e4:(t.k==4)=false:=by rw [hkc];decide
   have e5:(t.k==5)=false:=by rw [hkc];decide
   have e6:(t.k==6)=false:=by rw [hkc];decide
   have e7:(t.k==7)=false:=by rw [hkc];decide
   have e8:(t.k==8)=false:=by rw [hkc];decide
   have e9:(t.k==9)=false:=by rw [hkc];decide
   have e10:(t.k==10)=false:=by rw [hkc];decide
   have e11:(t.k==11)=true:=by rw [hkc];decide
   clear hkc
   go_enter Try.func78,Try.ntmps78
   go_upto_region 24 with fail
   have hs4:w.heap.size+3<(((((w.alloc (.cells #[.int .i64 t.k,.int .i64 t.i,.int .i64 t.j,.int .i64 t.n,.slice a t.kids.length cap] 24)).alloc (.cells #[.int .i64 0,.int .i64 0,.int .i64 0,.int .i64 0,.slice none 0 0] 24)).alloc (.cells #[] 3)).alloc (.cells #[.int .i64 0,.int .i64 1] 3))).heap.size:=by simp
   generalize ((((w.alloc (.cells #[.int .i64 t.k,.int .i64 t.i,.int .i64 t.j,.int .i64 t.n,.slice a t.kids.length cap] 24)).alloc (.cells #[.int .i64 0,.int .i64 0,.int .i64 0,.int .i64 0,.slice none 0 0] 24)).alloc (.cells #[] 3)).alloc (.cells #[.int .i64 0,.int .i64 1] 3))=v1 at hb4 q0 q1 q3 hti hs4 ⊢
   have HTI:=Lib.hid hti
   have HPKL:=Lib.hid hpk
   have HKM:=Lib.hid hkm
   have HRES:=Lib.hid hres
   have HB4:=Lib.hid hb4
   have Q0:=Lib.hid q0
   have Q1:=Lib.hid q1
   have hEv:E≤v1.heap.size:=by omega
   have hk0:=kept_start v1
   obtain⟨M,hM⟩:∃ M,v1.heap.size=M:=⟨_,rfl⟩
   obtain⟨ti,tcap,hsl,htc,htm,htn⟩:=hti.out
   simp only [Value.slice.injEq] at hsl
   obtain⟨rfl,-,rfl⟩:=hsl
   have HTN:=Lib.hid htn
   clear hti hkm hres hb4 q0 q1 q3 htn htc htm
   obtain⟨i0,hi,hz0,hz1,hz2⟩:=info_parts info_term
   have HI:=Lib.hid (And.intro hi (And.intro hz0 (And.intro hz1 hz2)))
   clear hi hz0 hz1 hz2
   go_wp2_with fail
   go_loopw [5,6] (fun v i wr=>∃ (q:Nat) (ps:List (Tm × Value)) (vv:Value),vv=v∧q≤2∧i=.int .i64 q∧Hid (ps.map (·.1)=(picked t ([0,1]:List Nat)).take q)∧MadeQ E v1.heap.size v1.heap.size wr v ps∧Kept v1 wr) (fun _ i _=>2-(intOf i).toNat)
   case atStart=>exact⟨0,[],_,rfl,Nat.zero_le _,rfl,by simp [Hid],madeQ_nil _ _ _ _,hk0⟩
   case round =>
    clear hk0
    obtain⟨q,ps,vv,rfl,hq0,rfl,hps,hmade,hkp⟩:=hrel
    have HPS:=Lib.hid hps.out
    clear hps
    have t0:=keep_block hkp (block_lt Q0.out) Q0.out
    have t1:=keep_block hkp (block_lt Q1.out) Q1.out
    obtain⟨d0,d1,d2,d3,d4⟩:=five_cells t0
    obtain⟨z0,z1,z2,z3,z4⟩:=five_cells t1
    obtain⟨f0,f1,f2,f3,f4⟩:=five_free t1
    have hsz:v1.heap.size≤wr.heap.size:=Below.size hkp
    clear t0
    by_cases hlt:q<2
    ·obtain⟨p,hp⟩:∃ p,([0,1]:List Nat)[q]'(by exact hlt)=p:=⟨_,rfl⟩
     have hpm:p ∈ ([0,1]:List Nat):=by rw [←hp];exact List.getElem_mem _
     have hplt:=HPKL.out p hpm
     obtain⟨b9,o9,h9,hx9⟩:=HTN.out q (by simpa using hlt)
     have hv9:([(0:Int),(1:Int)])[q]'(by simpa using hlt)=(p:Int):=by
      subst hp
      have:q=0∨q=1∨q=2∨q=3:=by first | omega | (simp at hlt;omega)
      rcases this with rfl | rfl | rfl | rfl<;>first | rfl | (simp at hlt) | omega
     rw [hv9] at hx9
     simp only [Option.some.injEq,Addr.mk.injEq] at h9
     obtain⟨rfl,rfl,-⟩:=h9
     replace hx9:v1.cell? ⟨w.heap.size+1+1+1,q,none⟩=some (.int .i64 p):=by rw [Nat.zero_add] at hx9;exact hx9
     obtain⟨b',o,rfl,hQb,hx⟩:=HN.out p hplt
     have hq:=HK.out p hplt
     obtain⟨a',cap',S',hS,-⟩:=hq.out
     rw [hS] at hx hq
     have hkid:(t.kids[p]?).getD .zero=t.kids[p]:=by rw [List.getElem?_eq_getElem hplt];rfl
     have HMem:=Lib.hid (List.getElem_mem hplt)
     have hrk:=HKM.out p hpm
     have hfx:=right_fine (plain_right (bare_plain _ (marked_right hrk)))
     have hEr:E≤wr.heap.size:=by have:=HB4.out.size;omega
     have CALL:=Lib.hid (IH.out _ HMem.out E wr.drew _ hEr ((hq.later HB4.out).later (Below.trans hkp (Below.refl _ _).drew)) hrk)
     have hpick:(picked t ([0,1]:List Nat)).take (q+1)=(picked t ([0,1]:List Nat)).take q++[(t.kids[p]).bare]:=by
      rw [List.take_succ_eq_append_getElem (by unfold picked;rw [List.length_map];exact hlt)]
      congr 2
      simp only [picked,List.getElem_map,hp,hkid]
     obtain⟨x,hxb⟩:∃ x,(t.kids[p]).bare=x:=⟨_,rfl⟩
     rw [hxb] at CALL hfx hpick
     have hpl:ps.length=q:=by have:=congrArg List.length HPS.out;simp [picked] at this;first | omega | (simp at hlt;omega)
     have HPL:=Lib.hid hpl
     have HMD:=Lib.hid hmade
     have HFX:=Lib.hid hfx
     have HPICK:=Lib.hid hpick
     have hnode:=hx.below HB4.out hx.lt
     have hb4':=HB4.out.size
     have hnc:=five_cells Q0.out
     have hd4:=hnc.2.2.2.2
     obtain⟨c0,c1,c2,c3,c4⟩:=hnode.below hkp hnode.lt
     have hc9:=cell_lat hkp hx9
     clear hS hq hx hfx hpick hxb hkid hrk hp hmade hpl hv9 hnc
     go_wp2_with fail
     go_region_held3 (fun w'=>Kept v1 w'∧w'.cell? ⟨w.heap.size,4,none⟩=some (.slice (some ⟨b',o,none⟩) t.kids.length cap)∧w'.cell? ⟨w.heap.size+1+1+1,q,none⟩=some (.int .i64 p)∧w'.cell? ⟨b',o+p * 5,none⟩=some (.int .i64 t.kids[p].k)∧w'.cell? ⟨b',o+p * 5+1,none⟩=some (.int .i64 t.kids[p].i)∧w'.cell? ⟨b',o+p * 5+2,none⟩=some (.int .i64 t.kids[p].j)∧w'.cell? ⟨b',o+p * 5+3,none⟩=some (.int .i64 t.kids[p].n)∧w'.cell? ⟨b',o+p * 5+4,none⟩=some (.slice a' t.kids[p].kids.length cap'))
      (((with_reducible refine strip_and ?_ hd4 hx9 hnode);repeat (first | with_reducible assumption | with_reducible exact hkp | with_reducible refine kept_drew ?_ | with_reducible refine kept_alloc ?_ _)))
      (first | (go_at_call 78;((with_reducible refine Calls.mono CALL.out ?_);rintro e wn ⟨s2,rfl,hl2,hbn⟩;obtain⟨a2,cap2,S2,rfl,-⟩:=hl2.out;have HL2:=Lib.hid hl2;have HB2:=Lib.hid hbn;have hk2:=kept_call (kept_drew hkp) hbn;clear hl2 hbn)) | (refine step_append_lies _ rfl _ _ 22 rfl (v1.heap.size) 24 i0 _ 5 56 (by kernel_rfl) HI.out.1 HI.out.2.1 HI.out.2.2.1 HI.out.2.2.2 rfl (by decide) _ ps.length (cells5 ps) rfl (madeQ_later (madeQ_later (madeQ_later HMD.out (Below.refl _ _).drew) HB2.out) ((Below.refl _ _).alloc (Nat.le_refl _) _)).own ⟨wn.heap.size,0,none⟩ 1 1 (cells5 [(x,.slice a2 x.kids.length cap2)]) rfl rfl (news_new _ _ _ _) (one5 _ _) (by decide) (by have:=HPL.out;unfold maxLen;omega) (by have:=HPL.out;omega) (by have:=Below.size hk2;simp;omega) _ rfl ?_;intro g cap3 w3 hown hgrow hat _;have hmq:=madeQ_push (madeQ_later HMD.out (Below.refl _ _).drew) hEv (Nat.le_refl _) hsz HFX.out HB2.out HL2.out _ hown hgrow hat;have HMQ:=Lib.hid hmq;have hk3:Kept v1 w3:=Below.grown (Below.alloc hk2 (Below.size hk2) _) hgrow (by have:=Below.size hk2;simp;omega) (madeQ_above HMD.out);clear hmq hown hgrow hat))
     go_wp2_with fail
     go_roundw
     case rel=>exact⟨q+1,ps++[(x,.slice a2 x.kids.length cap2)],_,rfl,hlt,by go_num,by rw [Hid,List.map_append,HPS.out,HPICK.out];rfl,HMQ.out,hk3⟩
     case measure=>simp [intOf];omega
    ·have:q=2:=by omega
     subst this
     have hres2:ps.map (·.1)=picked t ([0,1]:List Nat):=by
      have:=HPS.out
      rwa [List.take_of_length_le (by simp [picked])] at this
     have hll:=madeQ_lies hmade (Nat.le_refl _)
     rw [hres2] at hll
     obtain⟨a2,cap2,S2,rfl,-⟩:=hll.out
     have HLL:=Lib.hid hll
     have hbw:=HB4.out.trans (Below.mono hkp HB4.out.size)
     have q1':=t1
     clear hres2 hll hmade
     go_wp2
     (try simp only [Exit.inBlock,Exit.then])
     refine bodyPost_ret (results_cell_row rfl _ _ (w.heap.size+1) _ _ _ du rfl (five_set q1') hu1 (by cases du<;>first | rfl | exact hu2) size_term) rfl ?_
     rw [HRES.out]
     exact⟨_,rfl,liesQ_fives HLL.out (by omega) (by omega) (by omega) _ _ _ _ _,below_five hbw (by omega) _ _ _ _ _⟩
  ·have hn12:t.k≠2:=by rw [hkc];decide
   obtain⟨x0,x1,x2,x3,hkids,hm0,hm1,hp2,hm3⟩:=marked_tr HM0.out hkc
   have hres:t.bare=.mk 23 t.i 0 5 [x0.bare,x1.bare,x2,x3.bare]:=by
    rw [Tm.bare_eq,hkids,hkc]
    simp [bareNode,bareKind,barePick,pickT,plain_bare x2 hp2]
   have h4:t.kids.length=4:=by rw [hkids];rfl
   have g0:t.kids[0]'(by omega)=x0:=by simp [hkids]
   have g1:t.kids[1]'(by omega)=x1:=by simp [hkids]
   have g2:t.kids[2]'(by omega)=x2:=by simp [hkids]
   have g3:t.kids[3]'(by omega)=x3:=by simp [hkids]
   obtain⟨b',o,ha,-,n0⟩:=HN.out 0 (by omega)
   subst ha
   obtain⟨b1,o1,ha,-,n1⟩:=HN.out 1 (by omega)
   cases ha
   obtain⟨b1,o1,ha,-,n2⟩:=HN.out 2 (by omega)
   cases ha
   obtain⟨b1,o1,ha,-,n3⟩:=HN.out 3 (by omega)
   cases ha
   have l0:=HK.out 0 (by omega)
   have l1:=HK.out 1 (by omega)
   have l2:=HK.out 2 (by omega)
   have l3:=HK.out 3 (by omega)
   rw [g0] at n0 l0
   rw [g1] at n1 l1
   rw [g2] at n2 l2
   rw [g3] at n3 l3
   obtain⟨a0,p0,S0,hS0,-⟩:=l0.out
   obtain⟨a1,p1,S1,hS1,-⟩:=l1.out
   obtain⟨a2,p2,S2,hS2,-⟩:=l2.out
   obtain⟨a3,p3,S3,hS3,-⟩:=l3.out
   rw [hS0] at n0 l0
   rw [hS1] at n1 l1
   rw [hS2] at n2 l2
   rw [hS3] at n3 l3
   simp only [Nat.zero_mul,Nat.add_zero,Nat.one_mul,Nat.reduceMul] at n0 n1 n2 n3
   have f0':=right_fine (plain_right (bare_plain _ (marked_right hm0)))
   have f1':=right_fine (plain_right (bare_plain _ (marked_right hm1)))
   have f2':=right_fine (plain_right hp2)
   have f3':=right_fine (plain_right (bare_plain _ (marked_right hm3)))
   have HF:=Lib.hid (And.intro f0' (And.intro f1' (And.intro f2' f3')))
   have C0:Hid (∀ w',Below w.heap.size w w'→Calls Try.prog 78 #[tv x0 (.slice a0 x0.kids.length p0)] w' (Shares E x0.bare w')):=fun w' h=>IH.out x0 (by rw [hkids];simp) E w' _ (Nat.le_trans hEw h.size) (l0.later h) hm0
   have C1:Hid (∀ w',Below w.heap.size w w'→Calls Try.prog 78 #[tv x1 (.slice a1 x1.kids.length p1)] w' (Shares E x1.bare w')):=fun w' h=>IH.out x1 (by rw [hkids];simp) E w' _ (Nat.le_trans hEw h.size) (l1.later h) hm1
   have C3:Hid (∀ w',Below w.heap.size w w'→Calls Try.prog 78 #[tv x3 (.slice a3 x3.kids.length p3)] w' (Shares E x3.bare w')):=fun w' h=>IH.out x3 (by rw [hkids];simp) E w' _ (Nat.le_trans hEw h.size) (l3.later h) hm3
   have HL2:=Lib.hid l2
   have HRES:=Lib.hid hres
   have hb3:=below_three w (.cells #[.int .i64 t.k,.int .i64 t.i,.int .i64 t.j,.int .i64 t.n,.slice (some ⟨b',o,none⟩) t.kids.length cap] 24) (.cells #[.int .i64 0,.int .i64 0,.int .i64 0,.int .i64 0,.slice none 0 0] 24) (.cells #[] 3)
   obtain⟨q0,q1,-,-⟩:=heap_three w (.cells #[.int .i64 t.k,.int .i64 t.i,.int .i64 t.j,.int .i64 t.n,.slice (some ⟨b',o,none⟩) t.kids.length cap] 24) (.cells #[.int .i64 0,.int .i64 0,.int .i64 0,.int .i64 0,.slice none 0 0] 24) (.cells #[] 3)
   have hs3:w.heap.size+1<(((w.alloc (.cells #[.int .i64 t.k,.int .i64 t.i,.int .i64 t.j,.int .i64 t.n,.slice (some ⟨b',o,none⟩) t.kids.length cap] 24)).alloc (.cells #[.int .i64 0,.int .i64 0,.int .i64 0,.int .i64 0,.slice none 0 0] 24)).alloc (.cells #[] 3)).heap.size:=by simp
   have e3:(t.k==3)=false:=by rw [hkc];decide
   have e4:(t.k==4)=false:=by rw [hkc];decide
   have e5:(t.k==5)=false:=by rw [hkc];decide
   have e6:(t.k==6)=false:=by rw [hkc];decide
   have e7:(t.k==7)=false:=by rw [hkc];decide
   have e8:(t.k==8)=false:=by rw [hkc];decide
   have e9:(t.k==9)=false:=by rw [hkc];decide
   have e10:(t.k==10)=false:=by rw [hkc];decide
   have e11:(t.k==11)=false:=by rw [hkc];decide
   have e12:(t.k==12)=true:=by rw [hkc];decide
   have hx0:=n0
   have hx1:=n1
   have hx2:=n2
   have hx3:=n3
   have j0:(0:Int)<(t.kids.length:Int):=by omega
   have i0:0<t.kids.length:=by omega
   have j1:(1:Int)<(t.kids.length:Int):=by omega
   have i1:1<t.kids.length:=by omega
   have j2:(2:Int)<(t.kids.length:Int):=by omega
   have i2:2<t.kids.length:=by omega
   have j3:(3:Int)<(t.kids.length:Int):=by omega
   have i3:3<t.kids.length:=by omega
   have H4:=Lib.hid h4
   have HKIDS:=Lib.hid hkids
   clear hkc hres hkids h4 g0 g1 g2 g3 l0 l1 l2 l3 hS0 hS1 hS2 hS3 f0' f1' f2' f3' hm0 hm1 hp2 hm3 hn12
   go_enter Try.func78,Try.ntmps78
   go_upto_region 23 with fail
   generalize (((w.alloc (.cells #[.int .i64 t.k,.int .i64 t.i,.int .i64 t.j,.int .i64 t.n,.slice (some ⟨b',o,none⟩) t.kids.length cap] 24)).alloc (.cells #[.int .i64 0,.int .i64 0,.int .i64 0,.int .i64 0,.slice none 0 0] 24)).alloc (.cells #[] 3))=v1 at hb3 q0 q1 hs3 ⊢
   have hbx:Bx w t (.slice (some ⟨b',o,none⟩) t.kids.length cap) v1:=⟨hb3,q0⟩
   have Q1:=Lib.hid q1
   have HB3:=Lib.hid hb3
   obtain⟨d0,d1,d2,d3,d4⟩:=five_cells q0
   obtain⟨m00,m01,m02,m03,m04⟩:=n0.below hb3 n0.lt
   obtain⟨m10,m11,m12,m13,m14⟩:=n1.below hb3 n1.lt
   obtain⟨m20,m21,m22,m23,m24⟩:=n2.below hb3 n2.lt
   obtain⟨m30,m31,m32,m33,m34⟩:=n3.below hb3 n3.lt
   clear q0 q1 hb3 n0 n1 n2 n3
   go_wp2_with fail
   go_region_held3 (fun w'=>Bx w t (.slice (some ⟨b',o,none⟩) t.kids.length cap) w'∧w'.cell? ⟨w.heap.size,1,none⟩=some (.int .i64 t.i)∧w'.cell? ⟨w.heap.size,4,none⟩=some (.slice (some ⟨b',o,none⟩) t.kids.length cap)∧w'.cell? ⟨b',o,none⟩=some (.int .i64 x0.k)∧w'.cell? ⟨b',o+1,none⟩=some (.int .i64 x0.i)∧w'.cell? ⟨b',o+2,none⟩=some (.int .i64 x0.j)∧w'.cell? ⟨b',o+3,none⟩=some (.int .i64 x0.n)∧w'.cell? ⟨b',o+4,none⟩=some (.slice a0 x0.kids.length p0)∧w'.cell? ⟨b',o+5,none⟩=some (.int .i64 x1.k)∧w'.cell? ⟨b',o+5+1,none⟩=some (.int .i64 x1.i)∧w'.cell? ⟨b',o+5+2,none⟩=some (.int .i64 x1.j)∧w'.cell? ⟨b',o+5+3,none⟩=some (.int .i64 x1.n)∧w'.cell? ⟨b',o+5+4,none⟩=some (.slice a1 x1.kids.length p1)∧w'.cell? ⟨b',o+10,none⟩=some (.int .i64 x2.k)∧w'.cell? ⟨b',o+10+1,none⟩=some (.int .i64 x2.i)∧w'.cell? ⟨b',o+10+2,none⟩=some (.int .i64 x2.j)∧w'.cell? ⟨b',o+10+3,none⟩=some (.int .i64 x2.n)∧w'.cell? ⟨b',o+10+4,none⟩=some (.slice a2 x2.kids.length p2)∧w'.cell? ⟨b',o+15,none⟩=some (.int .i64 x3.k)∧w'.cell? ⟨b',o+15+1,none⟩=some (.int .i64 x3.i)∧w'.cell? ⟨b',o+15+2,none⟩=some (.int .i64 x3.j)∧w'.cell? ⟨b',o+15+3,none⟩=some (.int .i64 x3.n)∧w'.cell? ⟨b',o+15+4,none⟩=some (.slice a3 x3.kids.length p3))
    (((with_reducible refine bx_and ?_ hx0 hx1 hx2 hx3);repeat (first | with_reducible assumption | with_reducible exact hbx | with_reducible refine bx_drew ?_ | with_reducible refine bx_alloc ?_ _ | ((with_reducible refine bx_set ?_ ?hh _);(case hh=>simp)))))
    (first | (go_at_call 78;have mk0:=HM2.out;have hS:=(‹Bx w _ _ _∧_›).1;((with_reducible refine Calls.mono (C3.out _ (bx_below hS)) ?_);rintro e wn ⟨s3,rfl,hl3,hbn⟩;obtain⟨a9,p9,S9,rfl,-⟩:=hl3.out;have HQ0:=Lib.hid (HQ0.out.later hbn);have HQ1:=Lib.hid (HQ1.out.later hbn);have HQ3:=Lib.hid (far_wide hl3 HSZ.out);have hu:=mk0.trans (hbn.mono mk0.size);have HU:=Lib.hid hu;have hbx3:=bx_call hS hbn;have hq1n:=keep_block hu (by exact hs3) Q1.out;have hsn:w.heap.size+1<wn.heap.size:=block_lt hq1n;obtain⟨z0,z1,z2,z3,z4⟩:=five_cells hq1n;obtain⟨f0,f1,f2,f3,f4⟩:=five_free hq1n;clear hl3 mk0 hu)) |
      (go_at_call 78;have mk0:=HM1.out;have hS:=(‹Bx w _ _ _∧_›).1;((with_reducible refine Calls.mono (C1.out _ (bx_below hS)) ?_);rintro e wn ⟨s3,rfl,hl3,hbn⟩;obtain⟨a8,p8,S8,rfl,-⟩:=hl3.out;have HQ0:=Lib.hid (HQ0.out.later hbn);have HQ1:=Lib.hid (far_wide hl3 HSZ.out);have HM2:=Lib.hid (mk0.trans (hbn.mono mk0.size));have HSZ:=Lib.hid (Nat.le_trans HSZ.out hbn.size);have hbx2:=bx_call hS hbn;clear hl3 mk0)) |
      (go_at_call 78;have hS:=(‹Bx w _ _ _∧_›).1;((with_reducible refine Calls.mono (C0.out _ (bx_below hS)) ?_);rintro e wn ⟨s3,rfl,hl3,hbn⟩;obtain⟨a7,p7,S7,rfl,-⟩:=hl3.out;have hbv:=(Below.refl v1.heap.size v1).drew;have HM1:=Lib.hid (hbv.trans (hbn.mono hbv.size));have HSZ:=Lib.hid (show v1.heap.size≤wn.heap.size from hbn.size);have HQ0:Hid (LiesQ wn (Far E v1.heap.size) _ _):=Lib.hid hl3;have hbx2:=bx_call hS hbn;clear hl3 hbv)))
   go_wp2
   (try simp only [Exit.inBlock,Exit.then])
   refine bodyPost_ret (results_cell_row rfl _ _ (w.heap.size+1) _ _ _ du rfl (five_alloc hq1n _ _ _ _ _ _) hu1 (by cases du<;>first | rfl | exact hu2) size_term) rfl ?_
   rw [HRES.out]
   have hbw:Below w.heap.size w wn:=HB3.out.trans (HU.out.mono HB3.out.size)
   have hE1:E≤w.heap.size+1:=by omega
   have hN1:w.heap.size≤v1.heap.size:=by omega
   have h2:LiesQ wn (Far E v1.heap.size) x2.kids (.slice a2 x2.kids.length p2):=(HL2.out.later hbw).wide (fun b hb=>Or.inl hb)
   obtain⟨fi0,fi1,fi2,fi3⟩:=HF.out
   refine⟨.slice (some ⟨wn.heap.size,0,none⟩) 4 4,rfl,liesQ_row (ps:=[(x0.bare,.slice a7 x0.bare.kids.length p7),(x1.bare,.slice a8 x1.bare.kids.length p8),(x2,.slice a2 x2.kids.length p2),(x3.bare,.slice a9 x3.bare.kids.length p9)]) (five_new wn _ _ _ _ _ _ _) (Or.inr hbw.size) ?_ ?_ (Nat.le_refl 4) (by decide),below_five_alloc hbw hbw.size (Nat.le_succ _) _ _ _ _ _ _⟩
   ·intro p hp
    simp only [List.mem_cons,List.not_mem_nil,or_false] at hp
    rcases hp with rfl | rfl | rfl | rfl
    ·exact fi0
    ·exact fi1
    ·exact fi2
    ·exact fi3
   ·intro p hp
    simp only [List.mem_cons,List.not_mem_nil,or_false] at hp
    rcases hp with rfl | rfl | rfl | rfl
    ·exact far_fives HQ0.out hE1 hs3 hN1 _ _ _ _ _ _
    ·exact far_fives HQ1.out hE1 hs3 hN1 _ _ _ _ _ _
    ·exact far_fives h2 hE1 hs3 hN1 _ _ _ _ _ _
    ·exact far_fives HQ3.out hE1 hs3 hN1 _ _ _ _ _ _
end Go.Proofs.Ytpdinlejmlbbeaa

namespace Go.Proofs.Ytpdinlejmlbbeaa
open Go.RowKit
theorem stripB_ofPlain {t:Tm} (h:t.plainB=true):t.stripB=t:=by unfold Tm.stripB;rw [if_pos (plain_right h),plain_bare t h]
theorem stripB_ofMarked {t:Tm} (h:t.markedB=true):t.stripB=t.bare:=by unfold Tm.stripB;rw [if_pos (marked_right h)]
theorem stripB_ofNone {t:Tm} (h:t.plainB=false) (h':t.markedB=false):t.stripB=.zero:=by unfold Tm.stripB;rw [if_neg (by unfold Tm.rightB;rw [h,h'];decide)]
end Go.Proofs.Ytpdinlejmlbbeaa

namespace Go.Proofs.Ytpdinlejmlbbeaa
open Go.RowKit
theorem results_cell_tmp2 {P:Program} {fn:Func} {p q r:Tmp} {ty:TypeId} (h:fn.results=#[.cell p ty,.tmp q,.tmp r]) (tmps:Array Value) (w:World) (g:Nat) (t:TypeId) (cs:Array Value) (fr:Nat × Nat) (d:TypeDesc)
 (hp:tmps.getD p undef=.pointer (some ⟨g,0,none⟩)) (hg:w.heap[g]? =some (.cells cs t fr))
 (hu:P.underlying ty=some d) (hd:(match d with | .struct _ | .array _ _=>true | _=>false)=true) (hi:(P.info? ty).map (·.size)=some cs.size) :
 (results fn tmps).run P w=.ok (.tuple #[.agg cs,tmps.getD q undef,tmps.getD r undef]) w:=by
 have hp':tmps[p]?.getD undef=.pointer (some ⟨g,0,none⟩):=by simpa using hp
 simp [results,h,hp',asAddr,run_loadVar_row w g t ty cs fr d hg hu hd hi]
theorem under_value:∃ d,Try.prog.underlying 65=some d∧(match d with | .struct _ | .array _ _=>true | _=>false)=true:=by
 have h:(Try.prog.underlying 65).map (fun d=>match d with | .struct _ | .array _ _=>true | _=>false)=some true:=by kernel_rfl
 cases e:Try.prog.underlying 65 with
 | none=>rw [e] at h;cases h
 | some d=>rw [e] at h;exact⟨d,rfl,Option.some.inj h⟩
theorem size_value:(Try.prog.info? 65).map (·.size)=some 10:=by kernel_rfl
theorem ten_cells {w:World} {g:Nat} {v0 v1 v2 v3 v4 v5 v6 v7 v8 v9:Value} {T:TypeId} {fr:Nat × Nat} (h:w.heap[g]? =some (.cells #[v0,v1,v2,v3,v4,v5,v6,v7,v8,v9] T fr)):w.cell? ⟨g,0,none⟩=some v0∧w.cell? ⟨g,1,none⟩=some v1∧w.cell? ⟨g,2,none⟩=some v2∧w.cell? ⟨g,3,none⟩=some v3∧w.cell? ⟨g,4,none⟩=some v4∧w.cell? ⟨g,5,none⟩=some v5∧w.cell? ⟨g,6,none⟩=some v6∧w.cell? ⟨g,7,none⟩=some v7∧w.cell? ⟨g,8,none⟩=some v8∧w.cell? ⟨g,9,none⟩=some v9:=by
 have c:=fun q=>cell_of_row w g q _ _ _ h
 exact⟨by rw [c];rfl,by rw [c];rfl,by rw [c];rfl,by rw [c];rfl,by rw [c];rfl,by rw [c];rfl,by rw [c];rfl,by rw [c];rfl,by rw [c];rfl,by rw [c];rfl⟩
theorem ten_free {w:World} {g:Nat} {v0 v1 v2 v3 v4 v5 v6 v7 v8 v9:Value} {T:TypeId} (h:w.heap[g]? =some (.cells #[v0,v1,v2,v3,v4,v5,v6,v7,v8,v9] T (0,0))) (q:Nat):w.frozen? ⟨g,q,none⟩=false:=open_unfrozen h q
theorem ten_set {w:World} {g:Nat} {z0 z1 z2 z3 z4 z5 z6 z7 z8 z9 v0 v1 v2 v3 v4 v5 v6 v7 v8 v9:Value} {T:TypeId} (h:w.heap[g]? =some (.cells #[z0,z1,z2,z3,z4,z5,z6,z7,z8,z9] T (0,0))):((((((((((w.setCell ⟨g,0,none⟩ v0).setCell ⟨g,1,none⟩ v1).setCell ⟨g,2,none⟩ v2).setCell ⟨g,3,none⟩ v3).setCell ⟨g,4,none⟩ v4).setCell ⟨g,5,none⟩ v5).setCell ⟨g,6,none⟩ v6).setCell ⟨g,7,none⟩ v7).setCell ⟨g,8,none⟩ v8).setCell ⟨g,9,none⟩ v9).heap[g]? =some (.cells #[v0,v1,v2,v3,v4,v5,v6,v7,v8,v9] T (0,0)):=by
 have h5:(((((w.setCell ⟨g,0,none⟩ v0).setCell ⟨g,1,none⟩ v1).setCell ⟨g,2,none⟩ v2).setCell ⟨g,3,none⟩ v3).setCell ⟨g,4,none⟩ v4).heap[g]? =some (.cells #[v0,v1,v2,v3,v4,z5,z6,z7,z8,z9] T (0,0)):=heap_setCell_same _ _ _ _ _ _ (heap_setCell_same _ _ _ _ _ _ (heap_setCell_same _ _ _ _ _ _ (heap_setCell_same _ _ _ _ _ _ (heap_setCell_same _ _ _ _ _ _ h))))
 exact heap_setCell_same _ _ _ _ _ _ (heap_setCell_same _ _ _ _ _ _ (heap_setCell_same _ _ _ _ _ _ (heap_setCell_same _ _ _ _ _ _ (heap_setCell_same _ _ _ _ _ _ h5))))
def GivesN (r:Option Tm) (w:World) (e:Ending) (w':World):Prop:=Below w.heap.size w w' ∧
 ((∃ u s',r=some u∧e=.returned (.tuple #[tv u s',.bool true])∧LiesP w' (Own w.heap.size w') u.kids s')∨(∃ (z:Tm) (a:Option Addr) (n cap:Nat),r=none∧e=.returned (.tuple #[tv z (.slice a n cap),.bool false])))
set_option maxHeartbeats 1000000 in
theorem fits_any (t u:Tm) (w:World) (s r:Value) (hl:Lies w t.kids s) (hm:Lies w u.kids r):Calls Try.prog 40 #[tv t s,tv u r] w fun e w'=>e=.returned (.bool (fitsB t u))∧Below w.heap.size w w':=by
 obtain⟨a,cap,S,rfl,-⟩:=hl.out
 obtain⟨a2,cap2,S2,rfl,-⟩:=hm.out
 have HL:=Lib.hid hl
 have HM:=Lib.hid hm
 have H0:=held2_start w t (.slice a t.kids.length cap) u (.slice a2 u.kids.length cap2)
 clear hl hm
 unfold tv
 by_cases h1:t.k≤2
 ·have e1:decide (t.k≤2)=true:=by simpa using h1
  have HR:=Lib.hid (show fitsB t u=u.rightB by unfold fitsB;rw [if_pos (Or.inl h1)])
  clear h1
  go_enter Try.func40,Try.ntmps40
  go_wp2_with fail
  refine(right_any u _ _ (held2_lies H0 HM.out)).mono ?_
  rintro e w1 ⟨rfl,hb1⟩
  have H1:=held2_call H0 hb1
  clear hb1
  go_wp2
  go_ret
  exact⟨ret_bool HR.out.symm,held2_below H1⟩
 have e1:decide (t.k≤2)=false:=by simpa using h1
 by_cases h2:12<t.k
 ·have e2:decide (12<t.k)=true:=by simpa using h2
  have HR:=Lib.hid (show fitsB t u=u.rightB by unfold fitsB;rw [if_pos (Or.inr h2)])
  clear h1 h2
  go_enter Try.func40,Try.ntmps40
  go_wp2_with fail
  refine(right_any u _ _ (held2_lies H0 HM.out)).mono ?_
  rintro e w1 ⟨rfl,hb1⟩
  have H1:=held2_call H0 hb1
  clear hb1
  go_wp2
  go_ret
  exact⟨ret_bool HR.out.symm,held2_below H1⟩
 have e2:decide (12<t.k)=false:=by simpa using h2
 have HR:=Lib.hid (show fitsB t u=u.markedB by unfold fitsB;rw [if_neg (by omega)])
 clear h1 h2
 go_enter Try.func40,Try.ntmps40
 go_wp2_with fail
 refine(marked_any u _ _ (held2_lies H0 HM.out)).mono ?_
 rintro e w1 ⟨rfl,hb1⟩
 have H1:=held2_call H0 hb1
 clear hb1
 go_wp2
 go_ret
 exact⟨ret_bool HR.out.symm,held2_below H1⟩
theorem plainPlace_any (t:Tm) (w:World) (s:Value):Calls Try.prog 44 #[tv t s] w fun e w'=>e=.returned (.bool (decide (12<t.k)))∧Below w.heap.size w w':=by
 unfold tv
 go_enter Try.func44,Try.ntmps44
 go_wp2
 go_ret
 exact⟨rfl,(Below.refl _ _).alloc (Nat.le_refl _) _⟩
set_option maxHeartbeats 1000000 in
theorem putc_zero (n:Int) (hn:n=0) (w:World) (bv:Nat) (u x:Tm) (a1 a2:Option Addr) (n1 p1 n2 p2:Nat) (fr:Nat × Nat) (h:w.heap[bv]? =some (.cells #[.int .i64 u.k,.int .i64 u.i,.int .i64 u.j,.int .i64 u.n,.slice a1 n1 p1,.int .i64 x.k,.int .i64 x.i,.int .i64 x.j,.int .i64 x.n,.slice a2 n2 p2] 65 fr)) :
 Calls Try.prog 42 #[.int .i64 n,.pointer (some ⟨bv,0,none⟩)] w fun e w'=>e=.returned (.tuple #[.agg #[.int .i64 u.k,.int .i64 u.i,.int .i64 u.j,.int .i64 u.n,.slice a1 n1 p1,.int .i64 x.k,.int .i64 x.i,.int .i64 x.j,.int .i64 x.n,.slice a2 n2 p2],.int .i64 (-1),.bool true])∧Below w.heap.size w w':=by
 obtain⟨dv,hv1,hv2⟩:=under_value
 obtain⟨c0,c1,c2,c3,c4,c5,c6,c7,c8,c9⟩:=ten_cells h
 have hlt:bv<w.heap.size:=block_lt h
 have e1:(n==0)=true:=by simpa using hn
 clear hn h
 go_enter Try.func42,Try.ntmps42
 go_wp2
 (try simp only [Exit.inBlock,Exit.then])
 refine bodyPost_ret (results_cell_tmp2 rfl _ _ (w.heap.size) _ _ _ dv rfl (alloc_new _ _) hv1 (by cases dv<;>first | rfl | exact hv2) size_value) rfl ?_
 exact⟨rfl,(Below.refl _ _).alloc (Nat.le_refl _) _⟩
set_option maxHeartbeats 1000000 in
theorem putc_next (n:Int) (hn:n≠0) (h0:0≤n) (h1:n≤2147483647) (w:World) (bv:Nat) :
 Calls Try.prog 42 #[.int .i64 n,.pointer (some ⟨bv,0,none⟩)] w fun e w'=>e=.returned (.tuple #[.agg #[.int .i64 0,.int .i64 0,.int .i64 0,.int .i64 0,.slice none 0 0,.int .i64 0,.int .i64 0,.int .i64 0,.int .i64 0,.slice none 0 0],.int .i64 (n-1),.bool true])∧Below w.heap.size w w':=by
 obtain⟨dv,hv1,hv2⟩:=under_value
 have e1:(n==0)=false:=by simpa using hn
 clear hn
 go_enter Try.func42,Try.ntmps42
 go_wp2
 (try simp only [Exit.inBlock,Exit.then])
 refine bodyPost_ret (results_cell_tmp2 rfl _ _ (w.heap.size) _ _ _ dv rfl (alloc_new _ _) hv1 (by cases dv<;>first | rfl | exact hv2) size_value) rfl ?_
 exact⟨rfl,(Below.refl _ _).alloc (Nat.le_refl _) _⟩
end Go.Proofs.Ytpdinlejmlbbeaa

namespace Go.Proofs.Ytpdinlejmlbbeaa
open Go.RowKit
theorem liftB_fin {u:Tm} {b:Int} (hb:0≤b) (hu:u.rightB=true):(((u.liftB b 0).k != 0)=false∧u.each (liftF b 0) 0=none)∨(((u.liftB b 0).k != 0)=true∧u.each (liftF b 0) 0=some (u.liftB b 0)):=by
 rw [liftB_good hb (Int.le_refl _) hu]
 cases hx:u.each (liftF b 0) 0 with
 | none=>exact Or.inl ⟨rfl,rfl⟩
 | some x =>
  have hk:=Tm.node_kind (Tm.right_node (right_each _ (liftF_range b 0 hb) u 0 x hu hx))
  refine Or.inr ⟨?_,rfl⟩
  show(x.k != 0)=true
  simp;omega
set_option maxRecDepth 20000 in
set_option maxHeartbeats 2000000 in
theorem variable_put (u:Tm) (hu:u.rightB=true) (hd:u.deep≤100000) (bv:Nat) (a1 a2:Option Addr) (p1 p2:Nat) (fr:Nat × Nat) (v b:Int) (pl:Bool) (w:World) (h0:0≤v) (h1:v≤2147483647) (hb0:0≤b) (hb1:b≤2000000)
 (hV0:w.heap[bv]? =some (.cells #[.int .i64 u.k,.int .i64 u.i,.int .i64 u.j,.int .i64 u.n,.slice a1 u.kids.length p1,.int .i64 u.bare.k,.int .i64 u.bare.i,.int .i64 u.bare.j,.int .i64 u.bare.n,.slice a2 u.bare.kids.length p2] 65 fr)) (hl:Lies w u.kids (.slice a1 u.kids.length p1)) (hlb:Lies w u.bare.kids (.slice a2 u.bare.kids.length p2)) :
 Calls Try.prog 57 #[.agg #[.func (.func 42) #[] #[.pointer (some ⟨bv,0,none⟩)]],.int .i64 v,.int .i64 b,.bool pl] w (GivesN (gPut u v b pl) w):=by
 obtain⟨du,hu1,hu2⟩:=under_term
 have HL:=Lib.hid hl
 have HLB:=Lib.hid hlb
 have HV:=Lib.hid hV0
 clear hl hlb hV0
 have hbW:Below w.heap.size w ((w.alloc (.cells #[.func (.func 42) #[] #[.pointer (some ⟨bv,0,none⟩)]] 68)).alloc (.cells #[.int .i64 0,.int .i64 0,.int .i64 0,.int .i64 0,.slice none 0 0] 24)):=((Below.refl _ _).alloc (Nat.le_refl _) _).alloc (by simp) _
 have hz:((w.alloc (.cells #[.func (.func 42) #[] #[.pointer (some ⟨bv,0,none⟩)]] 68)).alloc (.cells #[.int .i64 0,.int .i64 0,.int .i64 0,.int .i64 0,.slice none 0 0] 24)).heap[w.heap.size+1]? =some zeroObj:=heap_alloc2_new _ _ _
 by_cases hv:v<b
 ·have e1:decide (v<b)=true:=by simpa using hv
  have HG:=Lib.hid (show gPut u v b pl=some (varT v) by unfold gPut;rw [if_pos hv])
  clear hv hz
  go_enter Try.func57,Try.ntmps57
  go_wp2
  (try simp only [Exit.inBlock,Exit.then])
  refine bodyPost_ret (results_cell_tmp rfl _ _ (w.heap.size+1) _ _ _ du rfl (heap_alloc2_new _ _ _) hu1 (by cases du<;>first | rfl | exact hu2) size_term) rfl ?_
  rw [HG.out]
  exact⟨((Below.refl _ _).alloc (Nat.le_refl _) _).alloc (by simp) _,Or.inl ⟨varT v,.slice none 0 0,rfl,rfl,liesP_nil _ _⟩⟩
 have e1:decide (v<b)=false:=by simpa using hv
 have hsub:IntKind.i64.wrap (v-b)=v-b:=IntWalk.i64_in _ (by omega)
 have hbi:I64 b:=by unfold I64;omega
 have h0i:I64 0:=by unfold I64;omega
 by_cases he:v=b
 ·cases pl with
  | false =>
   have HG:=Lib.hid (show gPut u v b false=u.each (liftF b 0) 0 by unfold gPut;rw [if_neg hv,if_pos he,if_neg (by decide)])
   have HX0:=liftB_fin (b:=b) hb0 hu
   obtain⟨X,hX⟩:∃ X,(u).liftB b 0=X:=⟨_,rfl⟩
   rw [hX] at HX0
   have HX:=Lib.hid hX
   have HFIN:=Lib.hid HX0
   have hdX:(u).deep≤100000:=hd
   clear hX HX0
   go_enter Try.func57,Try.ntmps57
   go_wp2_with fail
   refine(putc_zero 0 rfl _ bv u u.bare a1 a2 _ p1 _ p2 fr (keep_block hbW (block_lt HV.out) HV.out)).mono ?_
   rintro e w2 ⟨rfl,hb2⟩
   have hbw2:=hbW.trans (hb2.mono hbW.size)
   have hz2:=keep_block hb2 (block_lt hz) hz
   have hsN:w.heap.size+1<w2.heap.size:=block_lt hz2
   have hb4:Below w2.heap.size w2 ((w2.alloc (.cells #[.int .i64 u.k,.int .i64 u.i,.int .i64 u.j,.int .i64 u.n,.slice a1 u.kids.length p1,.int .i64 u.bare.k,.int .i64 u.bare.i,.int .i64 u.bare.j,.int .i64 u.bare.n,.slice a2 u.bare.kids.length p2] 65)).alloc (.cells #[.int .i64 u.k,.int .i64 u.i,.int .i64 u.j,.int .i64 u.n,.slice a1 u.kids.length p1] 24)):=((Below.refl _ _).alloc (Nat.le_refl _) _).alloc (by simp) _
   have hqx:((w2.alloc (.cells #[.int .i64 u.k,.int .i64 u.i,.int .i64 u.j,.int .i64 u.n,.slice a1 u.kids.length p1,.int .i64 u.bare.k,.int .i64 u.bare.i,.int .i64 u.bare.j,.int .i64 u.bare.n,.slice a2 u.bare.kids.length p2] 65)).alloc (.cells #[.int .i64 u.k,.int .i64 u.i,.int .i64 u.j,.int .i64 u.n,.slice a1 u.kids.length p1] 24)).heap[w2.heap.size+1]? =some (.cells #[.int .i64 u.k,.int .i64 u.i,.int .i64 u.j,.int .i64 u.n,.slice a1 u.kids.length p1] 24):=heap_alloc2_new _ _ _
   have hs4:((w2.alloc (.cells #[.int .i64 u.k,.int .i64 u.i,.int .i64 u.j,.int .i64 u.n,.slice a1 u.kids.length p1,.int .i64 u.bare.k,.int .i64 u.bare.i,.int .i64 u.bare.j,.int .i64 u.bare.n,.slice a2 u.bare.kids.length p2] 65)).alloc (.cells #[.int .i64 u.k,.int .i64 u.i,.int .i64 u.j,.int .i64 u.n,.slice a1 u.kids.length p1] 24)).heap.size=w2.heap.size+1+1:=by simp
   clear hb2
   go_wp2_with fail
   generalize ((w2.alloc (.cells #[.int .i64 u.k,.int .i64 u.i,.int .i64 u.j,.int .i64 u.n,.slice a1 u.kids.length p1,.int .i64 u.bare.k,.int .i64 u.bare.i,.int .i64 u.bare.j,.int .i64 u.bare.n,.slice a2 u.bare.kids.length p2] 65)).alloc (.cells #[.int .i64 u.k,.int .i64 u.i,.int .i64 u.j,.int .i64 u.n,.slice a1 u.kids.length p1] 24))=w4 at hb4 hqx hs4 ⊢
   refine(lift_any u b 0 w4 _ ((HL.out.keep hbw2).keep hb4) hbi h0i hdX).mono ?_
   rw [HX.out]
   rintro e w5 ⟨s5,rfl,hl5,hb5⟩
   obtain⟨a5,c5,rfl,-,-⟩:=hl5.out
   have hq5:=keep_block hb5 (block_lt hqx) hqx
   have hz5:=keep_block hb5 (by omega) (keep_block hb4 (by omega) hz2)
   obtain⟨x0,x1,x2,x3,x4⟩:=five_cells hq5
   obtain⟨y0,y1,y2,y3,y4⟩:=five_free hq5
   have hs5:w2.heap.size+1<w5.heap.size:=block_lt hq5
   have hbw5:=(hbw2.trans (hb4.mono hbw2.size)).trans (hb5.mono (by omega))
   have hl6:=liesP_fives hl5 (g:=w2.heap.size+1) (N:=w2.heap.size+1+1) (by omega) (by omega) (.int .i64 X.k) (.int .i64 X.i) (.int .i64 X.j) (.int .i64 X.n) (.slice a5 X.kids.length c5)
   have hq6:=five_set (v0:=.int .i64 X.k) (v1:=.int .i64 X.i) (v2:=.int .i64 X.j) (v3:=.int .i64 X.n) (v4:=.slice a5 X.kids.length c5) hq5
   have hz6:(five w5 (w2.heap.size+1) (.int .i64 X.k) (.int .i64 X.i) (.int .i64 X.j) (.int .i64 X.n) (.slice a5 X.kids.length c5)).heap[w.heap.size+1]? =some zeroObj:=by rw [five_other _ _ _ _ _ _ _ (by omega)];exact hz5
   have hb6:=below_five hbw5 (g:=w2.heap.size+1) (by omega) (.int .i64 X.k) (.int .i64 X.i) (.int .i64 X.j) (.int .i64 X.n) (.slice a5 X.kids.length c5)
   unfold five at hl6 hz6 hb6
   clear hl5 hb5 hqx hb4 hz5 hz2 hbw2 hbw5 hq5
   go_upto_region 12 with fail
   generalize ((((w5.setCell ⟨w2.heap.size+1,0,none⟩ (.int .i64 X.k)).setCell ⟨w2.heap.size+1,1,none⟩ (.int .i64 X.i)).setCell ⟨w2.heap.size+1,2,none⟩ (.int .i64 X.j)).setCell ⟨w2.heap.size+1,3,none⟩ (.int .i64 X.n)).setCell ⟨w2.heap.size+1,4,none⟩ (.slice a5 X.kids.length c5)=w6 at hl6 hq6 hz6 hb6 ⊢
   clear x0 x1 x2 x3 x4 y0 y1 y2 y3 y4
   obtain⟨x0,x1,x2,x3,x4⟩:=five_cells hq6
   obtain⟨z0,z1,z2,z3,z4⟩:=five_cells hz6
   obtain⟨f0,f1,f2,f3,f4⟩:=five_free hz6
   have HL6:=Lib.hid hl6
   have HB6:=Lib.hid hb6
   clear hl6 hq6 hb6
   go_wp2_with fail
   go_region
   all_goals
    go_wp2
    (try simp only [Exit.inBlock,Exit.then])
    refine bodyPost_ret (results_cell_tmp rfl _ _ (w.heap.size+1) _ _ _ du rfl (five_set hz6) hu1 (by cases du<;>first | rfl | exact hu2) size_term) rfl ?_
    rcases HFIN.out with ⟨hk,hr⟩ | ⟨hk,hr⟩
    ·exact⟨(below_five HB6.out (by omega) _ _ _ _ _).drew,Or.inr ⟨X,a5,_,c5,HG.out.trans hr,(by rw [hk]<;>rfl)⟩⟩
    ·exact⟨(below_five HB6.out (by omega) _ _ _ _ _).drew,Or.inl ⟨X,_,HG.out.trans hr,(by rw [hk]<;>rfl),(liesP_fives HL6.out (by omega) (by omega) _ _ _ _ _).later (Below.refl _ _).drew⟩⟩
  | true =>
   have HG:=Lib.hid (show gPut u v b true=u.bare.each (liftF b 0) 0 by unfold gPut;rw [if_neg hv,if_pos he,if_pos rfl])
   have HX0:=liftB_fin (b:=b) hb0 (plain_right (bare_plain u hu))
   obtain⟨X,hX⟩:∃ X,(u.bare).liftB b 0=X:=⟨_,rfl⟩
   rw [hX] at HX0
   have HX:=Lib.hid hX
   have HFIN:=Lib.hid HX0
   have hdX:(u.bare).deep≤100000:=Nat.le_trans (bare_deep u) hd
   clear hX HX0
   go_enter Try.func57,Try.ntmps57
   go_wp2_with fail
   refine(putc_zero 0 rfl _ bv u u.bare a1 a2 _ p1 _ p2 fr (keep_block hbW (block_lt HV.out) HV.out)).mono ?_
   rintro e w2 ⟨rfl,hb2⟩
   have hbw2:=hbW.trans (hb2.mono hbW.size)
   have hz2:=keep_block hb2 (block_lt hz) hz
   have hsN:w.heap.size+1<w2.heap.size:=block_lt hz2
   have hb4:Below w2.heap.size w2 ((w2.alloc (.cells #[.int .i64 u.k,.int .i64 u.i,.int .i64 u.j,.int .i64 u.n,.slice a1 u.kids.length p1,.int .i64 u.bare.k,.int .i64 u.bare.i,.int .i64 u.bare.j,.int .i64 u.bare.n,.slice a2 u.bare.kids.length p2] 65)).alloc (.cells #[.int .i64 u.bare.k,.int .i64 u.bare.i,.int .i64 u.bare.j,.int .i64 u.bare.n,.slice a2 u.bare.kids.length p2] 24)):=((Below.refl _ _).alloc (Nat.le_refl _) _).alloc (by simp) _
   have hqx:((w2.alloc (.cells #[.int .i64 u.k,.int .i64 u.i,.int .i64 u.j,.int .i64 u.n,.slice a1 u.kids.length p1,.int .i64 u.bare.k,.int .i64 u.bare.i,.int .i64 u.bare.j,.int .i64 u.bare.n,.slice a2 u.bare.kids.length p2] 65)).alloc (.cells #[.int .i64 u.bare.k,.int .i64 u.bare.i,.int .i64 u.bare.j,.int .i64 u.bare.n,.slice a2 u.bare.kids.length p2] 24)).heap[w2.heap.size+1]? =some (.cells #[.int .i64 u.bare.k,.int .i64 u.bare.i,.int .i64 u.bare.j,.int .i64 u.bare.n,.slice a2 u.bare.kids.length p2] 24):=heap_alloc2_new _ _ _
   have hs4:((w2.alloc (.cells #[.int .i64 u.k,.int .i64 u.i,.int .i64 u.j,.int .i64 u.n,.slice a1 u.kids.length p1,.int .i64 u.bare.k,.int .i64 u.bare.i,.int .i64 u.bare.j,.int .i64 u.bare.n,.slice a2 u.bare.kids.length p2] 65)).alloc (.cells #[.int .i64 u.bare.k,.int .i64 u.bare.i,.int .i64 u.bare.j,.int .i64 u.bare.n,.slice a2 u.bare.kids.length p2] 24)).heap.size=w2.heap.size+1+1:=by simp
   clear hb2
   go_wp2_with fail
   generalize ((w2.alloc (.cells #[.int .i64 u.k,.int .i64 u.i,.int .i64 u.j,.int .i64 u.n,.slice a1 u.kids.length p1,.int .i64 u.bare.k,.int .i64 u.bare.i,.int .i64 u.bare.j,.int .i64 u.bare.n,.slice a2 u.bare.kids.length p2] 65)).alloc (.cells #[.int .i64 u.bare.k,.int .i64 u.bare.i,.int .i64 u.bare.j,.int .i64 u.bare.n,.slice a2 u.bare.kids.length p2] 24))=w4 at hb4 hqx hs4 ⊢
   refine(lift_any u.bare b 0 w4 _ ((HLB.out.keep hbw2).keep hb4) hbi h0i hdX).mono ?_
   rw [HX.out]
   rintro e w5 ⟨s5,rfl,hl5,hb5⟩
   obtain⟨a5,c5,rfl,-,-⟩:=hl5.out
   have hq5:=keep_block hb5 (block_lt hqx) hqx
   have hz5:=keep_block hb5 (by omega) (keep_block hb4 (by omega) hz2)
   obtain⟨x0,x1,x2,x3,x4⟩:=five_cells hq5
   obtain⟨y0,y1,y2,y3,y4⟩:=five_free hq5
   have hs5:w2.heap.size+1<w5.heap.size:=block_lt hq5
   have hbw5:=(hbw2.trans (hb4.mono hbw2.size)).trans (hb5.mono (by omega))
   have hl6:=liesP_fives hl5 (g:=w2.heap.size+1) (N:=w2.heap.size+1+1) (by omega) (by omega) (.int .i64 X.k) (.int .i64 X.i) (.int .i64 X.j) (.int .i64 X.n) (.slice a5 X.kids.length c5)
   have hq6:=five_set (v0:=.int .i64 X.k) (v1:=.int .i64 X.i) (v2:=.int .i64 X.j) (v3:=.int .i64 X.n) (v4:=.slice a5 X.kids.length c5) hq5
   have hz6:(five w5 (w2.heap.size+1) (.int .i64 X.k) (.int .i64 X.i) (.int .i64 X.j) (.int .i64 X.n) (.slice a5 X.kids.length c5)).heap[w.heap.size+1]? =some zeroObj:=by rw [five_other _ _ _ _ _ _ _ (by omega)];exact hz5
   have hb6:=below_five hbw5 (g:=w2.heap.size+1) (by omega) (.int .i64 X.k) (.int .i64 X.i) (.int .i64 X.j) (.int .i64 X.n) (.slice a5 X.kids.length c5)
   unfold five at hl6 hz6 hb6
   clear hl5 hb5 hqx hb4 hz5 hz2 hbw2 hbw5 hq5
   go_upto_region 12 with fail
   generalize ((((w5.setCell ⟨w2.heap.size+1,0,none⟩ (.int .i64 X.k)).setCell ⟨w2.heap.size+1,1,none⟩ (.int .i64 X.i)).setCell ⟨w2.heap.size+1,2,none⟩ (.int .i64 X.j)).setCell ⟨w2.heap.size+1,3,none⟩ (.int .i64 X.n)).setCell ⟨w2.heap.size+1,4,none⟩ (.slice a5 X.kids.length c5)=w6 at hl6 hq6 hz6 hb6 ⊢
   clear x0 x1 x2 x3 x4 y0 y1 y2 y3 y4
   obtain⟨x0,x1,x2,x3,x4⟩:=five_cells hq6
   obtain⟨z0,z1,z2,z3,z4⟩:=five_cells hz6
   obtain⟨f0,f1,f2,f3,f4⟩:=five_free hz6
   have HL6:=Lib.hid hl6
   have HB6:=Lib.hid hb6
   clear hl6 hq6 hb6
   go_wp2_with fail
   go_region
   all_goals
    go_wp2
    (try simp only [Exit.inBlock,Exit.then])
    refine bodyPost_ret (results_cell_tmp rfl _ _ (w.heap.size+1) _ _ _ du rfl (five_set hz6) hu1 (by cases du<;>first | rfl | exact hu2) size_term) rfl ?_
    rcases HFIN.out with ⟨hk,hr⟩ | ⟨hk,hr⟩
    ·exact⟨(below_five HB6.out (by omega) _ _ _ _ _).drew,Or.inr ⟨X,a5,_,c5,HG.out.trans hr,(by rw [hk]<;>rfl)⟩⟩
    ·exact⟨(below_five HB6.out (by omega) _ _ _ _ _).drew,Or.inl ⟨X,_,HG.out.trans hr,(by rw [hk]<;>rfl),(liesP_fives HL6.out (by omega) (by omega) _ _ _ _ _).later (Below.refl _ _).drew⟩⟩
 ·have HG:=Lib.hid (show gPut u v b pl=some (varT (v-1)) by unfold gPut;rw [if_neg hv,if_neg he])
  have e3:decide (0≤v-b-1)=true:=decide_eq_true (by omega)
  have hsum:IntKind.i64.wrap (v-b-1+b)=v-1:=by rw [show v-b-1+b=v-1 by omega];exact IntWalk.i64_in _ (by omega)
  go_enter Try.func57,Try.ntmps57
  go_wp2_with fail
  refine(putc_next (v-b) (by omega) (by omega) (by omega) _ bv).mono ?_
  rintro e w2 ⟨rfl,hb2⟩
  have hbw2:=hbW.trans (hb2.mono hbW.size)
  have hz2:=keep_block hb2 (block_lt hz) hz
  have hsN:w.heap.size+1<w2.heap.size:=block_lt hz2
  obtain⟨z0,z1,z2,z3,z4⟩:=five_cells hz2
  obtain⟨f0,f1,f2,f3,f4⟩:=five_free hz2
  have HZ2:=Lib.hid hz2
  have HB2:=Lib.hid hbw2
  clear hb2 hz hbW hbw2 hz2
  go_wp2
  (try simp only [Exit.inBlock,Exit.then])
  refine bodyPost_ret (results_cell_tmp rfl _ _ (w.heap.size+1) _ _ _ du rfl (five_alloc HZ2.out _ _ _ _ _ _) hu1 (by cases du<;>first | rfl | exact hu2) size_term) rfl ?_
  rw [HG.out]
  exact⟨below_five_alloc HB2.out HB2.out.size (by omega) _ _ _ _ _ _,Or.inl ⟨varT (v-1),.slice none 0 0,rfl,rfl,liesP_nil _ _⟩⟩
end Go.Proofs.Ytpdinlejmlbbeaa
