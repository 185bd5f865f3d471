/-
  Facts and contracts that the proof of CongCalls uses.
-/
import Derived.OrdersHeld
import Derived.Below
import Derived.Laws.Rows
import Derived.Laws.CopyRow
import Derived.KernelRfl
import Derived.WalkKit
import Derived.Lib.Hide
import Derived.Lib.MinMax
import Derived.Deep.RegionHeld3
import Derived.Test.YtpdinlejmlbbeaaRows
import Derived.Deep.RegionWith
import Derived.Deep.AppendLies
import Derived.Laws.IdiomCopy
import Derived.Deep.Slices
import Derived.Deep.QuietTactic
import Derived.BigQuiet
import Derived.Lib.QuietBelow
import Derived.StillTailTactics
import Derived.IntWalk
import Derived.OwnWalk
import Derived.Deep.DeepCutAuto
import Derived.Deep.RegionLaw
import Derived.Deep.LoopGhost
import Derived.Deep.MidRow
import Derived.Laws.Tables
import Derived.Laws.CopyOwn
import Derived.Deep.Upon
import Derived.ArgAppend
import Derived.Deep.RegionHeld
import Derived.Laws.EntriesVeiled
import Derived.ProofKit
import Derived.OpenShut
import Derived.Carry
import Derived.ChangeSlices
import Derived.JoinedOf
import Derived.Test.YtpdinlejmlbbeaaCongCallsQ5
namespace Go.Proofs.Ytpdinlejmlbbeaa
open Go.RowKit
theorem kept_set_ {v w:World} {p:Addr} (h:Kept v w) (hp:v.heap.size≤p.block) (x:Value):Kept v (w.setCell p x):=Below.setCell h hp x
theorem gPut_fine {u:Tm} (hu:u.rightB=true):∀ v b pl x,0≤v→v≤2147483647→0≤b→gPut u v b pl=some x→x.fine:=by
 intro v b pl x h0 h1 hb hx
 unfold gPut at hx
 split at hx
 ·cases hx;exact right_fine (var_right h0 h1).2.2
 ·split at hx
  ·exact right_fine (right_each _ (liftF_range b 0 hb) _ 0 x (bareIf_right hu pl) hx)
  ·cases hx;exact right_fine (var_right (by omega) (by omega)).2.2
theorem kept_tp {w w':World} {b0:Nat} {v00 v01 v02 v03 v04 v:Value} {p:Addr} (h:Kept w w') (H:w.cell? ⟨b0,0,none⟩=some v00∧w.cell? ⟨b0,1,none⟩=some v01∧w.cell? ⟨b0,2,none⟩=some v02∧w.cell? ⟨b0,3,none⟩=some v03∧w.cell? ⟨b0,4,none⟩=some v04) (hp:w.cell? p=some v):Kept w w'∧w'.cell? ⟨b0,0,none⟩=some v00∧w'.cell? ⟨b0,1,none⟩=some v01∧w'.cell? ⟨b0,2,none⟩=some v02∧w'.cell? ⟨b0,3,none⟩=some v03∧w'.cell? ⟨b0,4,none⟩=some v04∧w'.cell? p=some v:=by
 obtain⟨c00,c01,c02,c03,c04⟩:=H
 exact⟨h,cell_lat h c00,cell_lat h c01,cell_lat h c02,cell_lat h c03,cell_lat h c04,cell_lat h hp⟩
def PutI (u:Tm) (bv:Nat) (a1 a2:Option Addr) (p1 p2:Nat) (w:World):Prop:=(∃ fr,w.heap[bv]? =some (.cells #[.int .i64 u.k,.int .i64 u.i,.int .i64 u.j,.int .i64 u.n,.slice a1 u.kids.length p1,.int .i64 u.bare.k,.int .i64 u.bare.i,.int .i64 u.bare.j,.int .i64 u.bare.n,.slice a2 u.bare.kids.length p2] 65 fr)) ∧
 Lies w u.kids (.slice a1 u.kids.length p1)∧Lies w u.bare.kids (.slice a2 u.bare.kids.length p2)
theorem putI_later (u:Tm) (bv:Nat) (a1 a2:Option Addr) (p1 p2:Nat):∀ w w':World,PutI u bv a1 a2 p1 p2 w→Below w.heap.size w w'→PutI u bv a1 a2 p1 p2 w':=by
 rintro w w' ⟨⟨fr,h⟩,h1,h2⟩ hb
 exact⟨⟨fr,keep_block hb (block_lt h) h⟩,h1.keep hb,h2.keep hb⟩
theorem put_in {u:Tm} (hu:u.rightB=true) (hd:u.deep≤100000) (bv:Nat) (a1 a2:Option Addr) (p1 p2:Nat) (t:Tm) (pl:Bool) (w:World) (s:Value) (hl:Lies w t.kids s) (hr:t.rightB=true) (hdt:t.deep≤100000) (hI:PutI u bv a1 a2 p1 p2 w) :
 Calls Try.prog 43 #[.agg #[.func (.func 42) #[] #[.pointer (some ⟨bv,0,none⟩)]],tv t s,.int .i64 0,.bool pl] w (GivesY (t.putG (gPut u) 0 pl) w) :=
 (in_any (gPut u) 42 bv (PutI u bv a1 a2 p1 p2) (putI_later u bv a1 a2 p1 p2) (fun v b pl w hI h0 h1 hb0 hb1=>by obtain⟨⟨fr,h⟩,h3,h4⟩:=hI;exact variable_put u hu hd bv a1 a2 p1 p2 fr v b pl w h0 h1 hb0 hb1 h h3 h4) (gPut_fine hu) t 0 pl w s hl hr (Int.le_refl _) (by omega) hI).mono fun e w' h=>h.ans
set_option maxRecDepth 20000 in
set_option maxHeartbeats 4000000 in
theorem put_any (t u:Tm) (w:World) (s r:Value) (hl:Lies w t.kids s) (hm:Lies w u.kids r) (hdt:t.deep≤100000) (hdu:u.deep≤100000):Calls Try.prog 21 #[tv t s,tv u r] w (Makes (t.putB u) w):=by
 obtain⟨a,cap,S,rfl,-⟩:=hl.out
 obtain⟨a2,cap2,S2,rfl,-⟩:=hm.out
 obtain⟨du,hu1,hu2⟩:=under_term
 have hb3:=below_three w (.cells #[.int .i64 t.k,.int .i64 t.i,.int .i64 t.j,.int .i64 t.n,.slice a t.kids.length cap] 24) (.cells #[.int .i64 u.k,.int .i64 u.i,.int .i64 u.j,.int .i64 u.n,.slice a2 u.kids.length cap2] 24) (.cells #[.int .i64 0,.int .i64 0,.int .i64 0,.int .i64 0,.slice none 0 0] 24)
 obtain⟨q0,q1,q2,-⟩:=heap_three w (.cells #[.int .i64 t.k,.int .i64 t.i,.int .i64 t.j,.int .i64 t.n,.slice a t.kids.length cap] 24) (.cells #[.int .i64 u.k,.int .i64 u.i,.int .i64 u.j,.int .i64 u.n,.slice a2 u.kids.length cap2] 24) (.cells #[.int .i64 0,.int .i64 0,.int .i64 0,.int .i64 0,.slice none 0 0] 24)
 have HL:=Lib.hid (hl.keep hb3)
 have HM:=Lib.hid (hm.keep hb3)
 clear hl hm
 unfold tv
 cases h1:t.rightB with
 | false =>
  have HR:=Lib.hid (show t.putB u=.zero by unfold Tm.putB;rw [if_neg (by rw [h1];simp)])
  go_enter Try.func21,Try.ntmps21
  go_wp2_with fail
  refine(right_any t _ _ HL.out).mono ?_
  rw [h1]
  rintro e w1 ⟨rfl,hb1⟩
  have t2:=keep_block hb1 (block_lt q2) q2
  obtain⟨z0,z1,z2,z3,z4⟩:=five_cells t2
  obtain⟨f0,f1,f2,f3,f4⟩:=five_free t2
  have HB:=Lib.hid (hb3.trans (hb1.mono hb3.size))
  clear hb1 q0 q1 q2 hb3
  go_wp2
  (try simp only [Exit.inBlock,Exit.then])
  refine bodyPost_ret (results_cell_row rfl _ _ (w.heap.size+1+1) _ _ _ du rfl (five_set t2) hu1 (by cases du<;>first | rfl | exact hu2) size_term) rfl ?_
  rw [HR.out]
  exact⟨.slice none 0 0,rfl,liesP_nil _ _,below_five HB.out (by omega) _ _ _ _ _⟩
 | true =>
 have hfm:=fits_may u h1
 cases h2:fitsB t u with
 | false =>
  have HR:=Lib.hid (show t.putB u=.zero by unfold Tm.putB;rw [if_neg (by rw [←hfm,h2];simp)])
  clear hfm
  go_enter Try.func21,Try.ntmps21
  go_wp2_with fail
  refine(right_any t _ _ HL.out).mono ?_
  rw [h1]
  rintro e w1 ⟨rfl,hb1⟩
  have t0:=keep_block hb1 (block_lt q0) q0
  have t1:=keep_block hb1 (block_lt q1) q1
  have t2:=keep_block hb1 (block_lt q2) q2
  obtain⟨d0,d1,d2,d3,d4⟩:=five_cells t0
  obtain⟨c0,c1,c2,c3,c4⟩:=five_cells t1
  have HB:=hb3.trans (hb1.mono hb3.size)
  go_wp2_with fail
  refine(fits_any t u _ _ _ (HL.out.keep hb1) (HM.out.keep hb1)).mono ?_
  rw [h2]
  rintro e w2 ⟨rfl,hb2⟩
  have t3:=keep_block hb2 (block_lt t2) t2
  obtain⟨z0,z1,z2,z3,z4⟩:=five_cells t3
  obtain⟨f0,f1,f2,f3,f4⟩:=five_free t3
  have HB2:=Lib.hid (HB.trans (hb2.mono HB.size))
  clear hb1 hb2 q0 q1 q2 hb3 HB t0 t1 t2 d0 d1 d2 d3 d4 c0 c1 c2 c3 c4
  go_wp2
  (try simp only [Exit.inBlock,Exit.then])
  refine bodyPost_ret (results_cell_row rfl _ _ (w.heap.size+1+1) _ _ _ du rfl (five_set t3) hu1 (by cases du<;>first | rfl | exact hu2) size_term) rfl ?_
  rw [HR.out]
  exact⟨.slice none 0 0,rfl,liesP_nil _ _,below_five HB2.out (by omega) _ _ _ _ _⟩
 | true =>
 have hmy:mayB t u=true:=hfm.symm.trans h2
 have hur:=may_right hmy
 have HR:=Lib.hid (show t.putB u=(t.putG (gPut u) 0 (decide (12<t.k))).getD .zero by unfold Tm.putB;rw [if_pos ⟨h1,hmy⟩])
 have HUR:=Lib.hid hur
 have HSB:=Lib.hid (stripB_good hur)
 clear hfm hmy hur
 go_enter Try.func21,Try.ntmps21
 go_wp2_with fail
 refine(right_any t _ _ HL.out).mono ?_
 rw [h1]
 rintro e w1 ⟨rfl,hb1⟩
 have t0:=keep_block hb1 (block_lt q0) q0
 have t1:=keep_block hb1 (block_lt q1) q1
 have t2:=keep_block hb1 (block_lt q2) q2
 obtain⟨d0,d1,d2,d3,d4⟩:=five_cells t0
 obtain⟨c0,c1,c2,c3,c4⟩:=five_cells t1
 have HB:=hb3.trans (hb1.mono hb3.size)
 go_wp2_with fail
 refine(fits_any t u _ _ _ (HL.out.keep hb1) (HM.out.keep hb1)).mono ?_
 rw [h2]
 rintro e v0 ⟨rfl,hb2⟩
 have r0:=keep_block hb2 (block_lt t0) t0
 have r1:=keep_block hb2 (block_lt t1) t1
 have r2:=keep_block hb2 (block_lt t2) t2
 have HB0:=Lib.hid (HB.trans (hb2.mono HB.size))
 have HLT:=Lib.hid ((HL.out.keep hb1).keep hb2)
 have HLU:=Lib.hid ((HM.out.keep hb1).keep hb2)
 have HCT:=Lib.hid (five_cells r0)
 have HCU:=Lib.hid (five_cells r1)
 have HQ2:=Lib.hid r2
 have hN2:w.heap.size+1+1<v0.heap.size:=block_lt r2
 have hN1:w.heap.size+1<v0.heap.size:=by omega
 have hN0:w.heap.size<v0.heap.size:=by omega
 have hK0:=kept_start v0
 clear hb1 hb2 q0 q1 q2 hb3 HB t0 t1 t2 d0 d1 d2 d3 d4 c0 c1 c2 c3 c4 r0 r2
 obtain⟨c0,c1,c2,c3,c4⟩:=five_cells r1
 clear r1
 have hcall:∀ w',Kept v0 w'→Calls Try.prog 41 #[tv u (.slice a2 u.kids.length cap2)] w' (Makes u.bare w'):=fun w' h=>by
  have:=strip_any u w' _ (kept_lies h HLU.out)
  rw [HSB.out] at this;exact this
 have CALLB:=Lib.hid (hcall v0.drew (kept_drew hK0))
 have CALLA:=Lib.hid ((hcall (v0.alloc (.cells #[.int .i64 0,.int .i64 0,.int .i64 0,.int .i64 0,.slice none 0 0,.int .i64 0,.int .i64 0,.int .i64 0,.int .i64 0,.slice none 0 0] 65)).drew (kept_drew (kept_alloc hK0 _))).mono fun e w'' h=>And.intro h (show w''.heap[v0.heap.size]? =some (.cells #[.int .i64 0,.int .i64 0,.int .i64 0,.int .i64 0,.slice none 0 0,.int .i64 0,.int .i64 0,.int .i64 0,.int .i64 0,.slice none 0 0] 65) by
  obtain⟨s',-,-,hb⟩:=h
  exact keep_block hb (by show v0.heap.size<(v0.alloc (.cells #[.int .i64 0,.int .i64 0,.int .i64 0,.int .i64 0,.slice none 0 0,.int .i64 0,.int .i64 0,.int .i64 0,.int .i64 0,.slice none 0 0] 65)).heap.size;simp) (alloc_new v0 (.cells #[.int .i64 0,.int .i64 0,.int .i64 0,.int .i64 0,.slice none 0 0,.int .i64 0,.int .i64 0,.int .i64 0,.int .i64 0,.slice none 0 0] 65))))
 clear hcall
 go_wp2_with fail
 go_region_held3 (fun w'=>Kept v0 w'∧w'.cell? ⟨w.heap.size+1,0,none⟩=some (.int .i64 u.k)∧w'.cell? ⟨w.heap.size+1,1,none⟩=some (.int .i64 u.i)∧w'.cell? ⟨w.heap.size+1,2,none⟩=some (.int .i64 u.j)∧w'.cell? ⟨w.heap.size+1,3,none⟩=some (.int .i64 u.n)∧w'.cell? ⟨w.heap.size+1,4,none⟩=some (.slice a2 u.kids.length cap2))
  (((with_reducible refine kept_boxes1 ?_ HCU.out);repeat (first | with_reducible assumption | with_reducible exact hK0 | with_reducible refine kept_drew ?_ | with_reducible refine kept_alloc ?_ _ | ((with_reducible refine kept_set_ ?_ ?hh _);(case hh=>simp)))))
  (first | (go_at_call 41;((with_reducible refine Calls.mono CALLB.out ?_);rintro e wn ⟨s8,rfl,hl8,hbn⟩;obtain⟨a8,cap8,rfl,-,-⟩:=hl8.out;have HL8:=Lib.hid hl8;clear hl8;have hh:=kept_call (kept_drew hK0) hbn;obtain⟨-,m0,m1,m2,m3,m4⟩:=kept_boxes1 hh HCU.out)) | (go_at_call 41;((with_reducible refine Calls.mono CALLA.out ?_);rintro e wn ⟨⟨s8,rfl,hl8,hbn⟩,hZ⟩;obtain⟨a8,cap8,rfl,-,-⟩:=hl8.out;have HL8:=Lib.hid hl8;clear hl8;obtain⟨g0,g1,g2,g3,g4,g5,g6,g7,g8,g9⟩:=ten_cells hZ;have k0:=ten_free hZ 0;have k1:=ten_free hZ 1;have k2:=ten_free hZ 2;have k3:=ten_free hZ 3;have k4:=ten_free hZ 4;have k5:=ten_free hZ 5;have k6:=ten_free hZ 6;have k7:=ten_free hZ 7;have k8:=ten_free hZ 8;have k9:=ten_free hZ 9;have hh:=kept_call (kept_drew (kept_alloc hK0 _)) hbn;obtain⟨-,m0,m1,m2,m3,m4⟩:=kept_boxes1 hh HCU.out)))
 ·have hKW:Kept v0 (wn.alloc (.cells #[.int .i64 u.k,.int .i64 u.i,.int .i64 u.j,.int .i64 u.n,.slice a2 u.kids.length cap2,.int .i64 u.bare.k,.int .i64 u.bare.i,.int .i64 u.bare.j,.int .i64 u.bare.n,.slice a8 u.bare.kids.length cap8] 65)):=kept_alloc hh _
  have hV:(wn.alloc (.cells #[.int .i64 u.k,.int .i64 u.i,.int .i64 u.j,.int .i64 u.n,.slice a2 u.kids.length cap2,.int .i64 u.bare.k,.int .i64 u.bare.i,.int .i64 u.bare.j,.int .i64 u.bare.n,.slice a8 u.bare.kids.length cap8] 65)).heap[wn.heap.size]? =some (.cells #[.int .i64 u.k,.int .i64 u.i,.int .i64 u.j,.int .i64 u.n,.slice a2 u.kids.length cap2,.int .i64 u.bare.k,.int .i64 u.bare.i,.int .i64 u.bare.j,.int .i64 u.bare.n,.slice a8 u.bare.kids.length cap8] 65):=alloc_new _ _
  have hLB:Lies (wn.alloc (.cells #[.int .i64 u.k,.int .i64 u.i,.int .i64 u.j,.int .i64 u.n,.slice a2 u.kids.length cap2,.int .i64 u.bare.k,.int .i64 u.bare.i,.int .i64 u.bare.j,.int .i64 u.bare.n,.slice a8 u.bare.kids.length cap8] 65)) u.bare.kids (.slice a8 u.bare.kids.length cap8):=HL8.out.lies.keep ((Below.refl _ _).alloc (Nat.le_refl _) _)
  have hbv:v0.heap.size≤wn.heap.size:=Below.size hh
  clear hh hbn HL8
  generalize (wn.alloc (.cells #[.int .i64 u.k,.int .i64 u.i,.int .i64 u.j,.int .i64 u.n,.slice a2 u.kids.length cap2,.int .i64 u.bare.k,.int .i64 u.bare.i,.int .i64 u.bare.j,.int .i64 u.bare.n,.slice a8 u.bare.kids.length cap8] 65))=W at hKW hV hLB ⊢
  generalize wn.heap.size=bv at hV hbv ⊢
  have hI:PutI u bv a2 a8 cap2 cap8 W:=⟨⟨_,hV⟩,kept_lies hKW HLU.out,hLB⟩
  have hb1:Below W.heap.size W (W.alloc (.cells #[.func (.func 42) #[] #[.pointer (some ⟨bv,0,none⟩)]] 68)):=(Below.refl _ _).alloc (Nat.le_refl _) _
  have hI1:=putI_later u bv a2 a8 cap2 cap8 _ _ hI hb1
  have hKV:Kept v0 (W.alloc (.cells #[.func (.func 42) #[] #[.pointer (some ⟨bv,0,none⟩)]] 68)):=kept_alloc hKW _
  have hpc:(W.alloc (.cells #[.func (.func 42) #[] #[.pointer (some ⟨bv,0,none⟩)]] 68)).cell? ⟨W.heap.size,0,none⟩=some (.func (.func 42) #[] #[.pointer (some ⟨bv,0,none⟩)]):=by rw [World.cell?_alloc_at _ _ _ _ rfl];rfl
  have hpl:W.heap.size<(W.alloc (.cells #[.func (.func 42) #[] #[.pointer (some ⟨bv,0,none⟩)]] 68)).heap.size:=by simp
  obtain⟨-,m0,m1,m2,m3,m4⟩:=kept_boxes1 hKW HCT.out
  clear hI hV hLB hb1
  go_wp2_with fail
  clear m0 m1 m2 m3 m4
  generalize W.alloc (.cells #[.func (.func 42) #[] #[.pointer (some ⟨bv,0,none⟩)]] 68)=v1 at hI1 hKV hpc hpl ⊢
  generalize W.heap.size=pv at hpc hpl ⊢
  have HCT1:=Lib.hid (kept_boxes1 hKV HCT.out).2
  have HPC:=Lib.hid hpc
  obtain⟨d0,d1,d2,d3,d4⟩:=HCT1.out
  have hK1:=kept_start v1
  have HQ3:=Lib.hid (keep_block hKV (block_lt HQ2.out) HQ2.out)
  have hv01:v0.heap.size≤v1.heap.size:=Below.size hKV
  have HB1:=Lib.hid (HB0.out.trans (Below.mono hKV HB0.out.size))
  have HI1:=Lib.hid hI1
  have HLT1:=Lib.hid (kept_lies hKV HLT.out)
  have CIN:Hid (∀ w',Kept v1 w'→Calls Try.prog 43 #[.agg #[.func (.func 42) #[] #[.pointer (some ⟨bv,0,none⟩)]],tv t (.slice a t.kids.length cap),.int .i64 0,.bool (decide (12<t.k))] w' (GivesY (t.putG (gPut u) 0 (decide (12<t.k))) w')):=fun w' h=>put_in HUR.out hdu bv a2 a8 cap2 cap8 t _ w' _ (kept_lies h HLT1.out) h1 hdt (putI_later u bv a2 a8 cap2 cap8 _ _ HI1.out h)
  have hN2':w.heap.size+1+1<v1.heap.size:=by omega
  clear hI1 hKV hpc hKW
  go_region_held3 (fun w'=>Kept v1 w'∧w'.cell? ⟨w.heap.size,0,none⟩=some (.int .i64 t.k)∧w'.cell? ⟨w.heap.size,1,none⟩=some (.int .i64 t.i)∧w'.cell? ⟨w.heap.size,2,none⟩=some (.int .i64 t.j)∧w'.cell? ⟨w.heap.size,3,none⟩=some (.int .i64 t.n)∧w'.cell? ⟨w.heap.size,4,none⟩=some (.slice a t.kids.length cap)∧w'.cell? ⟨pv,0,none⟩=some (.func (.func 42) #[] #[.pointer (some ⟨bv,0,none⟩)]))
   (((with_reducible refine kept_tp ?_ HCT1.out HPC.out);repeat (first | with_reducible assumption | with_reducible exact hK1 | with_reducible refine kept_drew ?_ | with_reducible refine kept_alloc ?_ _ | ((with_reducible refine kept_set_ ?_ ?hh _);(case hh=>simp [*])))))
   (first | (go_at_call 43;have mk0:=HZA.out;have hS:=(‹Kept v1 _∧_›).1;((with_reducible refine Calls.mono (CIN.out _ hS) ?_);rintro e wm ⟨y,ay,ny,cy,ok,rfl,hbn,hans⟩;have HANS:=Lib.hid hans;have hzm:=keep_block hbn (block_lt mk0) mk0;obtain⟨e0,e1,e2,e3,e4⟩:=five_cells hzm;obtain⟨b0,b1,b2,b3,b4⟩:=five_free hzm;have hsm:v1.heap.size≤wm.heap.size:=Nat.le_of_lt (block_lt hzm);have hbe:v1.heap.size+1≤_:=block_lt mk0;have HBE:=Lib.hid hbe;clear hans hbe;have hh:=kept_call hS hbn)) | (go_at_call 43;have mk0:=HPB.out;((with_reducible refine Calls.mono (CIN.out (wp.alloc zeroObj) (kept_alloc mk0 _)) ?_);rintro e wm ⟨y,ay,ny,cy,ok,rfl,hbn,hans⟩;have HANS:=Lib.hid hans;have hzm:=keep_block hbn (block_lt (alloc_new wp zeroObj)) (alloc_new wp zeroObj);obtain⟨e0,e1,e2,e3,e4⟩:=five_cells hzm;obtain⟨b0,b1,b2,b3,b4⟩:=five_free hzm;have hvp:v1.heap.size≤wp.heap.size:=Below.size mk0;clear hans;have hh:=kept_call (kept_alloc mk0 _) hbn)) | (go_at_call 43;have mk0:=HPB.out;have hS:=(‹Kept v1 _∧_›).1;((with_reducible refine Calls.mono (CIN.out wp hS) ?_);rintro e wm ⟨y,ay,ny,cy,ok,rfl,hbn,hans⟩;have HANS:=Lib.hid hans;have hvp:v1.heap.size≤wp.heap.size:=Below.size mk0;clear hans;have hh:=kept_call hS hbn)) | (go_at_call 44;((with_reducible refine Calls.mono (plainPlace_any t (v1.alloc zeroObj).drew _) ?_);rintro e wp ⟨rfl,hbp⟩;have HZA:=Lib.hid (keep_block hbp (block_lt (alloc_new v1 zeroObj)) (alloc_new v1 zeroObj));have hh:=kept_call (kept_drew (kept_alloc hK1 zeroObj)) hbp)) | (go_at_call 44;((with_reducible refine Calls.mono (plainPlace_any t v1.drew _) ?_);rintro e wp ⟨rfl,hbp⟩;have hh:=kept_call (kept_drew hK1) hbp;have HPB:=Lib.hid hh)))
  ·rcases HANS.out with ⟨rfl,hr,rfl,hly⟩ | ⟨rfl,hr⟩
   ·have q5:(wm.alloc (.cells #[.int .i64 y.k,.int .i64 y.i,.int .i64 y.j,.int .i64 y.n,.slice ay y.kids.length cy] 24)).heap[wm.heap.size]? =some (.cells #[.int .i64 y.k,.int .i64 y.i,.int .i64 y.j,.int .i64 y.n,.slice ay y.kids.length cy] 24):=alloc_new _ _
    have hK5:Kept v1 (wm.alloc (.cells #[.int .i64 y.k,.int .i64 y.i,.int .i64 y.j,.int .i64 y.n,.slice ay y.kids.length cy] 24)):=kept_alloc hh _
    have hl5:LiesP (wm.alloc (.cells #[.int .i64 y.k,.int .i64 y.i,.int .i64 y.j,.int .i64 y.n,.slice ay y.kids.length cy] 24)) (Own v0.heap.size (wm.alloc (.cells #[.int .i64 y.k,.int .i64 y.i,.int .i64 y.j,.int .i64 y.n,.slice ay y.kids.length cy] 24))) y.kids (.slice ay y.kids.length cy):=(hly.from (by omega)).later ((Below.refl _ _).alloc (Nat.le_refl _) _)
    have z5:=keep_block hK5 (block_lt HQ3.out) HQ3.out
    have hB5:=HB1.out.trans (Below.mono hK5 HB1.out.size)
    generalize (wm.alloc (.cells #[.int .i64 y.k,.int .i64 y.i,.int .i64 y.j,.int .i64 y.n,.slice ay y.kids.length cy] 24))=W5 at q5 hl5 z5 hB5 ⊢
    clear hK5
    obtain⟨x0,x1,x2,x3,x4⟩:=five_cells q5
    obtain⟨z0,z1,z2,z3,z4⟩:=five_cells z5
    obtain⟨f0,f1,f2,f3,f4⟩:=five_free z5
    have HB5:=Lib.hid hB5
    have HL5:=Lib.hid hl5
    clear hl5 hly
    have HR5:=Lib.hid (HR.out.trans (congrArg (fun o=>Option.getD o .zero) hr))
    clear hB5 q5 hr hh hbn
    go_wp2
    (try simp only [Exit.inBlock,Exit.then])
    refine bodyPost_ret (results_cell_row rfl _ _ (w.heap.size+1+1) _ _ _ du rfl (five_set z5) hu1 (by cases du<;>first | rfl | exact hu2) size_term) rfl ?_
    rw [HR5.out]
    exact⟨_,rfl,liesP_fives HL5.out (by omega) (by omega) _ _ _ _ _,below_five HB5.out (by omega) _ _ _ _ _⟩
   ·have q5:(wm.alloc (.cells #[.int .i64 y.k,.int .i64 y.i,.int .i64 y.j,.int .i64 y.n,.slice ay ny cy] 24)).heap[wm.heap.size]? =some (.cells #[.int .i64 y.k,.int .i64 y.i,.int .i64 y.j,.int .i64 y.n,.slice ay ny cy] 24):=alloc_new _ _
    have hK5:Kept v1 (wm.alloc (.cells #[.int .i64 y.k,.int .i64 y.i,.int .i64 y.j,.int .i64 y.n,.slice ay ny cy] 24)):=kept_alloc hh _
    have z5:=keep_block hK5 (block_lt HQ3.out) HQ3.out
    have hB5:=HB1.out.trans (Below.mono hK5 HB1.out.size)
    generalize (wm.alloc (.cells #[.int .i64 y.k,.int .i64 y.i,.int .i64 y.j,.int .i64 y.n,.slice ay ny cy] 24))=W5 at q5 z5 hB5 ⊢
    clear hK5
    obtain⟨x0,x1,x2,x3,x4⟩:=five_cells q5
    obtain⟨z0,z1,z2,z3,z4⟩:=five_cells z5
    obtain⟨f0,f1,f2,f3,f4⟩:=five_free z5
    have HB5:=Lib.hid hB5
    have HR5:=Lib.hid (HR.out.trans (congrArg (fun o=>Option.getD o .zero) hr))
    clear hB5 q5 hr hh hbn
    go_wp2
    (try simp only [Exit.inBlock,Exit.then])
    refine bodyPost_ret (results_cell_row rfl _ _ (w.heap.size+1+1) _ _ _ du rfl (five_set z5) hu1 (by cases du<;>first | rfl | exact hu2) size_term) rfl ?_
    rw [HR5.out]
    exact⟨.slice none 0 0,rfl,liesP_nil _ _,below_five HB5.out (by omega) _ _ _ _ _⟩
  ·rcases HANS.out with ⟨rfl,hr,rfl,hly⟩ | ⟨rfl,hr⟩
   ·have q5:(((((wm.setCell ⟨wp.heap.size,0,none⟩ (.int .i64 y.k)).setCell ⟨wp.heap.size,1,none⟩ (.int .i64 y.i)).setCell ⟨wp.heap.size,2,none⟩ (.int .i64 y.j)).setCell ⟨wp.heap.size,3,none⟩ (.int .i64 y.n)).setCell ⟨wp.heap.size,4,none⟩ (.slice ay y.kids.length cy)).heap[wp.heap.size]? =some (.cells #[.int .i64 y.k,.int .i64 y.i,.int .i64 y.j,.int .i64 y.n,.slice ay y.kids.length cy] 24):=five_set hzm
    have hK5:Kept v1 (((((wm.setCell ⟨wp.heap.size,0,none⟩ (.int .i64 y.k)).setCell ⟨wp.heap.size,1,none⟩ (.int .i64 y.i)).setCell ⟨wp.heap.size,2,none⟩ (.int .i64 y.j)).setCell ⟨wp.heap.size,3,none⟩ (.int .i64 y.n)).setCell ⟨wp.heap.size,4,none⟩ (.slice ay y.kids.length cy)):=(kept_set_ (kept_set_ (kept_set_ (kept_set_ (kept_set_ hh hvp _) hvp _) hvp _) hvp _) hvp _)
    have hl5:LiesP (((((wm.setCell ⟨wp.heap.size,0,none⟩ (.int .i64 y.k)).setCell ⟨wp.heap.size,1,none⟩ (.int .i64 y.i)).setCell ⟨wp.heap.size,2,none⟩ (.int .i64 y.j)).setCell ⟨wp.heap.size,3,none⟩ (.int .i64 y.n)).setCell ⟨wp.heap.size,4,none⟩ (.slice ay y.kids.length cy)) (Own v0.heap.size (((((wm.setCell ⟨wp.heap.size,0,none⟩ (.int .i64 y.k)).setCell ⟨wp.heap.size,1,none⟩ (.int .i64 y.i)).setCell ⟨wp.heap.size,2,none⟩ (.int .i64 y.j)).setCell ⟨wp.heap.size,3,none⟩ (.int .i64 y.n)).setCell ⟨wp.heap.size,4,none⟩ (.slice ay y.kids.length cy))) y.kids (.slice ay y.kids.length cy):=liesP_fives hly (g:=wp.heap.size) (N:=v0.heap.size) (by simp) (by simp<;>omega) _ _ _ _ _
    have z5:=keep_block hK5 (block_lt HQ3.out) HQ3.out
    have hB5:=HB1.out.trans (Below.mono hK5 HB1.out.size)
    generalize (((((wm.setCell ⟨wp.heap.size,0,none⟩ (.int .i64 y.k)).setCell ⟨wp.heap.size,1,none⟩ (.int .i64 y.i)).setCell ⟨wp.heap.size,2,none⟩ (.int .i64 y.j)).setCell ⟨wp.heap.size,3,none⟩ (.int .i64 y.n)).setCell ⟨wp.heap.size,4,none⟩ (.slice ay y.kids.length cy))=W5 at q5 hl5 z5 hB5 ⊢
    clear hK5
    obtain⟨x0,x1,x2,x3,x4⟩:=five_cells q5
    obtain⟨z0,z1,z2,z3,z4⟩:=five_cells z5
    obtain⟨f0,f1,f2,f3,f4⟩:=five_free z5
    have HB5:=Lib.hid hB5
    have HL5:=Lib.hid hl5
    clear hl5 hly
    have HR5:=Lib.hid (HR.out.trans (congrArg (fun o=>Option.getD o .zero) hr))
    clear hB5 q5 hr hh hbn
    go_wp2
    (try simp only [Exit.inBlock,Exit.then])
    refine bodyPost_ret (results_cell_row rfl _ _ (w.heap.size+1+1) _ _ _ du rfl (five_set z5) hu1 (by cases du<;>first | rfl | exact hu2) size_term) rfl ?_
    rw [HR5.out]
    exact⟨_,rfl,liesP_fives HL5.out (by omega) (by omega) _ _ _ _ _,below_five HB5.out (by omega) _ _ _ _ _⟩
   ·have q5:(((((wm.setCell ⟨wp.heap.size,0,none⟩ (.int .i64 y.k)).setCell ⟨wp.heap.size,1,none⟩ (.int .i64 y.i)).setCell ⟨wp.heap.size,2,none⟩ (.int .i64 y.j)).setCell ⟨wp.heap.size,3,none⟩ (.int .i64 y.n)).setCell ⟨wp.heap.size,4,none⟩ (.slice ay ny cy)).heap[wp.heap.size]? =some (.cells #[.int .i64 y.k,.int .i64 y.i,.int .i64 y.j,.int .i64 y.n,.slice ay ny cy] 24):=five_set hzm
    have hK5:Kept v1 (((((wm.setCell ⟨wp.heap.size,0,none⟩ (.int .i64 y.k)).setCell ⟨wp.heap.size,1,none⟩ (.int .i64 y.i)).setCell ⟨wp.heap.size,2,none⟩ (.int .i64 y.j)).setCell ⟨wp.heap.size,3,none⟩ (.int .i64 y.n)).setCell ⟨wp.heap.size,4,none⟩ (.slice ay ny cy)):=(kept_set_ (kept_set_ (kept_set_ (kept_set_ (kept_set_ hh hvp _) hvp _) hvp _) hvp _) hvp _)
    have z5:=keep_block hK5 (block_lt HQ3.out) HQ3.out
    have hB5:=HB1.out.trans (Below.mono hK5 HB1.out.size)
    generalize (((((wm.setCell ⟨wp.heap.size,0,none⟩ (.int .i64 y.k)).setCell ⟨wp.heap.size,1,none⟩ (.int .i64 y.i)).setCell ⟨wp.heap.size,2,none⟩ (.int .i64 y.j)).setCell ⟨wp.heap.size,3,none⟩ (.int .i64 y.n)).setCell ⟨wp.heap.size,4,none⟩ (.slice ay ny cy))=W5 at q5 z5 hB5 ⊢
    clear hK5
    obtain⟨x0,x1,x2,x3,x4⟩:=five_cells q5
    obtain⟨z0,z1,z2,z3,z4⟩:=five_cells z5
    obtain⟨f0,f1,f2,f3,f4⟩:=five_free z5
    have HB5:=Lib.hid hB5
    have HR5:=Lib.hid (HR.out.trans (congrArg (fun o=>Option.getD o .zero) hr))
    clear hB5 q5 hr hh hbn
    go_wp2
    (try simp only [Exit.inBlock,Exit.then])
    refine bodyPost_ret (results_cell_row rfl _ _ (w.heap.size+1+1) _ _ _ du rfl (five_set z5) hu1 (by cases du<;>first | rfl | exact hu2) size_term) rfl ?_
    rw [HR5.out]
    exact⟨.slice none 0 0,rfl,liesP_nil _ _,below_five HB5.out (by omega) _ _ _ _ _⟩
  ·rcases HANS.out with ⟨rfl,hr,rfl,hly⟩ | ⟨rfl,hr⟩
   ·have q5:(((((wm.setCell ⟨v1.heap.size,0,none⟩ (.int .i64 y.k)).setCell ⟨v1.heap.size,1,none⟩ (.int .i64 y.i)).setCell ⟨v1.heap.size,2,none⟩ (.int .i64 y.j)).setCell ⟨v1.heap.size,3,none⟩ (.int .i64 y.n)).setCell ⟨v1.heap.size,4,none⟩ (.slice ay y.kids.length cy)).heap[v1.heap.size]? =some (.cells #[.int .i64 y.k,.int .i64 y.i,.int .i64 y.j,.int .i64 y.n,.slice ay y.kids.length cy] 24):=five_set hzm
    have hK5:Kept v1 (((((wm.setCell ⟨v1.heap.size,0,none⟩ (.int .i64 y.k)).setCell ⟨v1.heap.size,1,none⟩ (.int .i64 y.i)).setCell ⟨v1.heap.size,2,none⟩ (.int .i64 y.j)).setCell ⟨v1.heap.size,3,none⟩ (.int .i64 y.n)).setCell ⟨v1.heap.size,4,none⟩ (.slice ay y.kids.length cy)):=(kept_set_ (kept_set_ (kept_set_ (kept_set_ (kept_set_ hh (Nat.le_refl _) _) (Nat.le_refl _) _) (Nat.le_refl _) _) (Nat.le_refl _) _) (Nat.le_refl _) _)
    have hl5:LiesP (((((wm.setCell ⟨v1.heap.size,0,none⟩ (.int .i64 y.k)).setCell ⟨v1.heap.size,1,none⟩ (.int .i64 y.i)).setCell ⟨v1.heap.size,2,none⟩ (.int .i64 y.j)).setCell ⟨v1.heap.size,3,none⟩ (.int .i64 y.n)).setCell ⟨v1.heap.size,4,none⟩ (.slice ay y.kids.length cy)) (Own v0.heap.size (((((wm.setCell ⟨v1.heap.size,0,none⟩ (.int .i64 y.k)).setCell ⟨v1.heap.size,1,none⟩ (.int .i64 y.i)).setCell ⟨v1.heap.size,2,none⟩ (.int .i64 y.j)).setCell ⟨v1.heap.size,3,none⟩ (.int .i64 y.n)).setCell ⟨v1.heap.size,4,none⟩ (.slice ay y.kids.length cy))) y.kids (.slice ay y.kids.length cy):=liesP_fives hly (g:=v1.heap.size) (N:=v0.heap.size) (by have:=HBE.out;omega) (by have:=HBE.out;omega) _ _ _ _ _
    have z5:=keep_block hK5 (block_lt HQ3.out) HQ3.out
    have hB5:=HB1.out.trans (Below.mono hK5 HB1.out.size)
    generalize (((((wm.setCell ⟨v1.heap.size,0,none⟩ (.int .i64 y.k)).setCell ⟨v1.heap.size,1,none⟩ (.int .i64 y.i)).setCell ⟨v1.heap.size,2,none⟩ (.int .i64 y.j)).setCell ⟨v1.heap.size,3,none⟩ (.int .i64 y.n)).setCell ⟨v1.heap.size,4,none⟩ (.slice ay y.kids.length cy))=W5 at q5 hl5 z5 hB5 ⊢
    clear hK5
    obtain⟨x0,x1,x2,x3,x4⟩:=five_cells q5
    obtain⟨z0,z1,z2,z3,z4⟩:=five_cells z5
    obtain⟨f0,f1,f2,f3,f4⟩:=five_free z5
    have HB5:=Lib.hid hB5
    have HL5:=Lib.hid hl5
    clear hl5 hly
    have HR5:=Lib.hid (HR.out.trans (congrArg (fun o=>Option.getD o .zero) hr))
    clear hB5 q5 hr hh hbn
    go_wp2
    (try simp only [Exit.inBlock,Exit.then])
    refine bodyPost_ret (results_cell_row rfl _ _ (w.heap.size+1+1) _ _ _ du rfl (five_set z5) hu1 (by cases du<;>first | rfl | exact hu2) size_term) rfl ?_
    rw [HR5.out]
    exact⟨_,rfl,liesP_fives HL5.out (by omega) (by omega) _ _ _ _ _,below_five HB5.out (by omega) _ _ _ _ _⟩
   ·have q5:(((((wm.setCell ⟨v1.heap.size,0,none⟩ (.int .i64 y.k)).setCell ⟨v1.heap.size,1,none⟩ (.int .i64 y.i)).setCell ⟨v1.heap.size,2,none⟩ (.int .i64 y.j)).setCell ⟨v1.heap.size,3,none⟩ (.int .i64 y.n)).setCell ⟨v1.heap.size,4,none⟩ (.slice ay ny cy)).heap[v1.heap.size]? =some (.cells #[.int .i64 y.k,.int .i64 y.i,.int .i64 y.j,.int .i64 y.n,.slice ay ny cy] 24):=five_set hzm
    have hK5:Kept v1 (((((wm.setCell ⟨v1.heap.size,0,none⟩ (.int .i64 y.k)).setCell ⟨v1.heap.size,1,none⟩ (.int .i64 y.i)).setCell ⟨v1.heap.size,2,none⟩ (.int .i64 y.j)).setCell ⟨v1.heap.size,3,none⟩ (.int .i64 y.n)).setCell ⟨v1.heap.size,4,none⟩ (.slice ay ny cy)):=(kept_set_ (kept_set_ (kept_set_ (kept_set_ (kept_set_ hh (Nat.le_refl _) _) (Nat.le_refl _) _) (Nat.le_refl _) _) (Nat.le_refl _) _) (Nat.le_refl _) _)
    have z5:=keep_block hK5 (block_lt HQ3.out) HQ3.out
    have hB5:=HB1.out.trans (Below.mono hK5 HB1.out.size)
    generalize (((((wm.setCell ⟨v1.heap.size,0,none⟩ (.int .i64 y.k)).setCell ⟨v1.heap.size,1,none⟩ (.int .i64 y.i)).setCell ⟨v1.heap.size,2,none⟩ (.int .i64 y.j)).setCell ⟨v1.heap.size,3,none⟩ (.int .i64 y.n)).setCell ⟨v1.heap.size,4,none⟩ (.slice ay ny cy))=W5 at q5 z5 hB5 ⊢
    clear hK5
    obtain⟨x0,x1,x2,x3,x4⟩:=five_cells q5
    obtain⟨z0,z1,z2,z3,z4⟩:=five_cells z5
    obtain⟨f0,f1,f2,f3,f4⟩:=five_free z5
    have HB5:=Lib.hid hB5
    have HR5:=Lib.hid (HR.out.trans (congrArg (fun o=>Option.getD o .zero) hr))
    clear hB5 q5 hr hh hbn
    go_wp2
    (try simp only [Exit.inBlock,Exit.then])
    refine bodyPost_ret (results_cell_row rfl _ _ (w.heap.size+1+1) _ _ _ du rfl (five_set z5) hu1 (by cases du<;>first | rfl | exact hu2) size_term) rfl ?_
    rw [HR5.out]
    exact⟨.slice none 0 0,rfl,liesP_nil _ _,below_five HB5.out (by omega) _ _ _ _ _⟩
 ·have hKW:Kept v0 ((((((((((wn.setCell ⟨v0.heap.size,0,none⟩ (.int .i64 u.k)).setCell ⟨v0.heap.size,1,none⟩ (.int .i64 u.i)).setCell ⟨v0.heap.size,2,none⟩ (.int .i64 u.j)).setCell ⟨v0.heap.size,3,none⟩ (.int .i64 u.n)).setCell ⟨v0.heap.size,4,none⟩ (.slice a2 u.kids.length cap2)).setCell ⟨v0.heap.size,5,none⟩ (.int .i64 u.bare.k)).setCell ⟨v0.heap.size,6,none⟩ (.int .i64 u.bare.i)).setCell ⟨v0.heap.size,7,none⟩ (.int .i64 u.bare.j)).setCell ⟨v0.heap.size,8,none⟩ (.int .i64 u.bare.n)).setCell ⟨v0.heap.size,9,none⟩ (.slice a8 u.bare.kids.length cap8)):=kept_set_ (kept_set_ (kept_set_ (kept_set_ (kept_set_ (kept_set_ (kept_set_ (kept_set_ (kept_set_ (kept_set_ hh (Nat.le_refl _) _) (Nat.le_refl _) _) (Nat.le_refl _) _) (Nat.le_refl _) _) (Nat.le_refl _) _) (Nat.le_refl _) _) (Nat.le_refl _) _) (Nat.le_refl _) _) (Nat.le_refl _) _) (Nat.le_refl _) _
  have hV:((((((((((wn.setCell ⟨v0.heap.size,0,none⟩ (.int .i64 u.k)).setCell ⟨v0.heap.size,1,none⟩ (.int .i64 u.i)).setCell ⟨v0.heap.size,2,none⟩ (.int .i64 u.j)).setCell ⟨v0.heap.size,3,none⟩ (.int .i64 u.n)).setCell ⟨v0.heap.size,4,none⟩ (.slice a2 u.kids.length cap2)).setCell ⟨v0.heap.size,5,none⟩ (.int .i64 u.bare.k)).setCell ⟨v0.heap.size,6,none⟩ (.int .i64 u.bare.i)).setCell ⟨v0.heap.size,7,none⟩ (.int .i64 u.bare.j)).setCell ⟨v0.heap.size,8,none⟩ (.int .i64 u.bare.n)).setCell ⟨v0.heap.size,9,none⟩ (.slice a8 u.bare.kids.length cap8)).heap[v0.heap.size]? =some (.cells #[.int .i64 u.k,.int .i64 u.i,.int .i64 u.j,.int .i64 u.n,.slice a2 u.kids.length cap2,.int .i64 u.bare.k,.int .i64 u.bare.i,.int .i64 u.bare.j,.int .i64 u.bare.n,.slice a8 u.bare.kids.length cap8] 65):=ten_set hZ
  have hl9:LiesP wn (Own (v0.heap.size+1) wn) u.bare.kids (.slice a8 u.bare.kids.length cap8):=HL8.out.from (by show v0.heap.size+1≤(v0.alloc (.cells #[.int .i64 0,.int .i64 0,.int .i64 0,.int .i64 0,.slice none 0 0,.int .i64 0,.int .i64 0,.int .i64 0,.int .i64 0,.slice none 0 0] 65)).heap.size;simp)
  have hLB:Lies ((((((((((wn.setCell ⟨v0.heap.size,0,none⟩ (.int .i64 u.k)).setCell ⟨v0.heap.size,1,none⟩ (.int .i64 u.i)).setCell ⟨v0.heap.size,2,none⟩ (.int .i64 u.j)).setCell ⟨v0.heap.size,3,none⟩ (.int .i64 u.n)).setCell ⟨v0.heap.size,4,none⟩ (.slice a2 u.kids.length cap2)).setCell ⟨v0.heap.size,5,none⟩ (.int .i64 u.bare.k)).setCell ⟨v0.heap.size,6,none⟩ (.int .i64 u.bare.i)).setCell ⟨v0.heap.size,7,none⟩ (.int .i64 u.bare.j)).setCell ⟨v0.heap.size,8,none⟩ (.int .i64 u.bare.n)).setCell ⟨v0.heap.size,9,none⟩ (.slice a8 u.bare.kids.length cap8)) u.bare.kids (.slice a8 u.bare.kids.length cap8):=LiesP.lies (liesP_set (B:=v0.heap.size+1) (N:=v0.heap.size+1) (liesP_set (B:=v0.heap.size+1) (N:=v0.heap.size+1) (liesP_set (B:=v0.heap.size+1) (N:=v0.heap.size+1) (liesP_set (B:=v0.heap.size+1) (N:=v0.heap.size+1) (liesP_set (B:=v0.heap.size+1) (N:=v0.heap.size+1) (liesP_set (B:=v0.heap.size+1) (N:=v0.heap.size+1) (liesP_set (B:=v0.heap.size+1) (N:=v0.heap.size+1) (liesP_set (B:=v0.heap.size+1) (N:=v0.heap.size+1) (liesP_set (B:=v0.heap.size+1) (N:=v0.heap.size+1) (liesP_set (B:=v0.heap.size+1) (N:=v0.heap.size+1) hl9 (Nat.lt_succ_self _) (Nat.le_refl _) _) (Nat.lt_succ_self _) (Nat.le_refl _) _) (Nat.lt_succ_self _) (Nat.le_refl _) _) (Nat.lt_succ_self _) (Nat.le_refl _) _) (Nat.lt_succ_self _) (Nat.le_refl _) _) (Nat.lt_succ_self _) (Nat.le_refl _) _) (Nat.lt_succ_self _) (Nat.le_refl _) _) (Nat.lt_succ_self _) (Nat.le_refl _) _) (Nat.lt_succ_self _) (Nat.le_refl _) _) (Nat.lt_succ_self _) (Nat.le_refl _) _)
  have hbv:v0.heap.size≤v0.heap.size:=Nat.le_refl _
  clear hh hbn HL8 hl9 hZ g0 g1 g2 g3 g4 g5 g6 g7 g8 g9 k0 k1 k2 k3 k4 k5 k6 k7 k8 k9
  generalize ((((((((((wn.setCell ⟨v0.heap.size,0,none⟩ (.int .i64 u.k)).setCell ⟨v0.heap.size,1,none⟩ (.int .i64 u.i)).setCell ⟨v0.heap.size,2,none⟩ (.int .i64 u.j)).setCell ⟨v0.heap.size,3,none⟩ (.int .i64 u.n)).setCell ⟨v0.heap.size,4,none⟩ (.slice a2 u.kids.length cap2)).setCell ⟨v0.heap.size,5,none⟩ (.int .i64 u.bare.k)).setCell ⟨v0.heap.size,6,none⟩ (.int .i64 u.bare.i)).setCell ⟨v0.heap.size,7,none⟩ (.int .i64 u.bare.j)).setCell ⟨v0.heap.size,8,none⟩ (.int .i64 u.bare.n)).setCell ⟨v0.heap.size,9,none⟩ (.slice a8 u.bare.kids.length cap8))=W at hKW hV hLB ⊢
  have hI:PutI u v0.heap.size a2 a8 cap2 cap8 W:=⟨⟨_,hV⟩,kept_lies hKW HLU.out,hLB⟩
  have hb1:Below W.heap.size W (W.alloc (.cells #[.func (.func 42) #[] #[.pointer (some ⟨v0.heap.size,0,none⟩)]] 68)):=(Below.refl _ _).alloc (Nat.le_refl _) _
  have hI1:=putI_later u v0.heap.size a2 a8 cap2 cap8 _ _ hI hb1
  have hKV:Kept v0 (W.alloc (.cells #[.func (.func 42) #[] #[.pointer (some ⟨v0.heap.size,0,none⟩)]] 68)):=kept_alloc hKW _
  have hpc:(W.alloc (.cells #[.func (.func 42) #[] #[.pointer (some ⟨v0.heap.size,0,none⟩)]] 68)).cell? ⟨W.heap.size,0,none⟩=some (.func (.func 42) #[] #[.pointer (some ⟨v0.heap.size,0,none⟩)]):=by rw [World.cell?_alloc_at _ _ _ _ rfl];rfl
  have hpl:W.heap.size<(W.alloc (.cells #[.func (.func 42) #[] #[.pointer (some ⟨v0.heap.size,0,none⟩)]] 68)).heap.size:=by simp
  obtain⟨-,m0,m1,m2,m3,m4⟩:=kept_boxes1 hKW HCT.out
  clear hI hV hLB hb1
  go_wp2_with fail
  clear m0 m1 m2 m3 m4
  generalize W.alloc (.cells #[.func (.func 42) #[] #[.pointer (some ⟨v0.heap.size,0,none⟩)]] 68)=v1 at hI1 hKV hpc hpl ⊢
  generalize W.heap.size=pv at hpc hpl ⊢
  have HCT1:=Lib.hid (kept_boxes1 hKV HCT.out).2
  have HPC:=Lib.hid hpc
  obtain⟨d0,d1,d2,d3,d4⟩:=HCT1.out
  have hK1:=kept_start v1
  have HQ3:=Lib.hid (keep_block hKV (block_lt HQ2.out) HQ2.out)
  have hv01:v0.heap.size≤v1.heap.size:=Below.size hKV
  have HB1:=Lib.hid (HB0.out.trans (Below.mono hKV HB0.out.size))
  have HI1:=Lib.hid hI1
  have HLT1:=Lib.hid (kept_lies hKV HLT.out)
  have CIN:Hid (∀ w',Kept v1 w'→Calls Try.prog 43 #[.agg #[.func (.func 42) #[] #[.pointer (some ⟨v0.heap.size,0,none⟩)]],tv t (.slice a t.kids.length cap),.int .i64 0,.bool (decide (12<t.k))] w' (GivesY (t.putG (gPut u) 0 (decide (12<t.k))) w')):=fun w' h=>put_in HUR.out hdu v0.heap.size a2 a8 cap2 cap8 t _ w' _ (kept_lies h HLT1.out) h1 hdt (putI_later u v0.heap.size a2 a8 cap2 cap8 _ _ HI1.out h)
  have hN2':w.heap.size+1+1<v1.heap.size:=by omega
  clear hI1 hKV hpc hKW
  go_region_held3 (fun w'=>Kept v1 w'∧w'.cell? ⟨w.heap.size,0,none⟩=some (.int .i64 t.k)∧w'.cell? ⟨w.heap.size,1,none⟩=some (.int .i64 t.i)∧w'.cell? ⟨w.heap.size,2,none⟩=some (.int .i64 t.j)∧w'.cell? ⟨w.heap.size,3,none⟩=some (.int .i64 t.n)∧w'.cell? ⟨w.heap.size,4,none⟩=some (.slice a t.kids.length cap)∧w'.cell? ⟨pv,0,none⟩=some (.func (.func 42) #[] #[.pointer (some ⟨v0.heap.size,0,none⟩)]))
   (((with_reducible refine kept_tp ?_ HCT1.out HPC.out);repeat (first | with_reducible assumption | with_reducible exact hK1 | with_reducible refine kept_drew ?_ | with_reducible refine kept_alloc ?_ _ | ((with_reducible refine kept_set_ ?_ ?hh _);(case hh=>simp [*])))))
   (first | (go_at_call 43;have mk0:=HZA.out;have hS:=(‹Kept v1 _∧_›).1;((with_reducible refine Calls.mono (CIN.out _ hS) ?_);rintro e wm ⟨y,ay,ny,cy,ok,rfl,hbn,hans⟩;have HANS:=Lib.hid hans;have hzm:=keep_block hbn (block_lt mk0) mk0;obtain⟨e0,e1,e2,e3,e4⟩:=five_cells hzm;obtain⟨b0,b1,b2,b3,b4⟩:=five_free hzm;have hsm:v1.heap.size≤wm.heap.size:=Nat.le_of_lt (block_lt hzm);have hbe:v1.heap.size+1≤_:=block_lt mk0;have HBE:=Lib.hid hbe;clear hans hbe;have hh:=kept_call hS hbn)) | (go_at_call 43;have mk0:=HPB.out;((with_reducible refine Calls.mono (CIN.out (wp.alloc zeroObj) (kept_alloc mk0 _)) ?_);rintro e wm ⟨y,ay,ny,cy,ok,rfl,hbn,hans⟩;have HANS:=Lib.hid hans;have hzm:=keep_block hbn (block_lt (alloc_new wp zeroObj)) (alloc_new wp zeroObj);obtain⟨e0,e1,e2,e3,e4⟩:=five_cells hzm;obtain⟨b0,b1,b2,b3,b4⟩:=five_free hzm;have hvp:v1.heap.size≤wp.heap.size:=Below.size mk0;clear hans;have hh:=kept_call (kept_alloc mk0 _) hbn)) | (go_at_call 43;have mk0:=HPB.out;have hS:=(‹Kept v1 _∧_›).1;((with_reducible refine Calls.mono (CIN.out wp hS) ?_);rintro e wm ⟨y,ay,ny,cy,ok,rfl,hbn,hans⟩;have HANS:=Lib.hid hans;have hvp:v1.heap.size≤wp.heap.size:=Below.size mk0;clear hans;have hh:=kept_call hS hbn)) | (go_at_call 44;((with_reducible refine Calls.mono (plainPlace_any t (v1.alloc zeroObj).drew _) ?_);rintro e wp ⟨rfl,hbp⟩;have HZA:=Lib.hid (keep_block hbp (block_lt (alloc_new v1 zeroObj)) (alloc_new v1 zeroObj));have hh:=kept_call (kept_drew (kept_alloc hK1 zeroObj)) hbp)) | (go_at_call 44;((with_reducible refine Calls.mono (plainPlace_any t v1.drew _) ?_);rintro e wp ⟨rfl,hbp⟩;have hh:=kept_call (kept_drew hK1) hbp;have HPB:=Lib.hid hh)))
  ·rcases HANS.out with ⟨rfl,hr,rfl,hly⟩ | ⟨rfl,hr⟩
   ·have q5:(wm.alloc (.cells #[.int .i64 y.k,.int .i64 y.i,.int .i64 y.j,.int .i64 y.n,.slice ay y.kids.length cy] 24)).heap[wm.heap.size]? =some (.cells #[.int .i64 y.k,.int .i64 y.i,.int .i64 y.j,.int .i64 y.n,.slice ay y.kids.length cy] 24):=alloc_new _ _
    have hK5:Kept v1 (wm.alloc (.cells #[.int .i64 y.k,.int .i64 y.i,.int .i64 y.j,.int .i64 y.n,.slice ay y.kids.length cy] 24)):=kept_alloc hh _
    have hl5:LiesP (wm.alloc (.cells #[.int .i64 y.k,.int .i64 y.i,.int .i64 y.j,.int .i64 y.n,.slice ay y.kids.length cy] 24)) (Own v0.heap.size (wm.alloc (.cells #[.int .i64 y.k,.int .i64 y.i,.int .i64 y.j,.int .i64 y.n,.slice ay y.kids.length cy] 24))) y.kids (.slice ay y.kids.length cy):=(hly.from (by omega)).later ((Below.refl _ _).alloc (Nat.le_refl _) _)
    have z5:=keep_block hK5 (block_lt HQ3.out) HQ3.out
    have hB5:=HB1.out.trans (Below.mono hK5 HB1.out.size)
    generalize (wm.alloc (.cells #[.int .i64 y.k,.int .i64 y.i,.int .i64 y.j,.int .i64 y.n,.slice ay y.kids.length cy] 24))=W5 at q5 hl5 z5 hB5 ⊢
    clear hK5
    obtain⟨x0,x1,x2,x3,x4⟩:=five_cells q5
    obtain⟨z0,z1,z2,z3,z4⟩:=five_cells z5
    obtain⟨f0,f1,f2,f3,f4⟩:=five_free z5
    have HB5:=Lib.hid hB5
    have HL5:=Lib.hid hl5
    clear hl5 hly
    have HR5:=Lib.hid (HR.out.trans (congrArg (fun o=>Option.getD o .zero) hr))
    clear hB5 q5 hr hh hbn
    go_wp2
    (try simp only [Exit.inBlock,Exit.then])
    refine bodyPost_ret (results_cell_row rfl _ _ (w.heap.size+1+1) _ _ _ du rfl (five_set z5) hu1 (by cases du<;>first | rfl | exact hu2) size_term) rfl ?_
    rw [HR5.out]
    exact⟨_,rfl,liesP_fives HL5.out (by omega) (by omega) _ _ _ _ _,below_five HB5.out (by omega) _ _ _ _ _⟩
   ·have q5:(wm.alloc (.cells #[.int .i64 y.k,.int .i64 y.i,.int .i64 y.j,.int .i64 y.n,.slice ay ny cy] 24)).heap[wm.heap.size]? =some (.cells #[.int .i64 y.k,.int .i64 y.i,.int .i64 y.j,.int .i64 y.n,.slice ay ny cy] 24):=alloc_new _ _
    have hK5:Kept v1 (wm.alloc (.cells #[.int .i64 y.k,.int .i64 y.i,.int .i64 y.j,.int .i64 y.n,.slice ay ny cy] 24)):=kept_alloc hh _
    have z5:=keep_block hK5 (block_lt HQ3.out) HQ3.out
    have hB5:=HB1.out.trans (Below.mono hK5 HB1.out.size)
    generalize (wm.alloc (.cells #[.int .i64 y.k,.int .i64 y.i,.int .i64 y.j,.int .i64 y.n,.slice ay ny cy] 24))=W5 at q5 z5 hB5 ⊢
    clear hK5
    obtain⟨x0,x1,x2,x3,x4⟩:=five_cells q5
    obtain⟨z0,z1,z2,z3,z4⟩:=five_cells z5
    obtain⟨f0,f1,f2,f3,f4⟩:=five_free z5
    have HB5:=Lib.hid hB5
    have HR5:=Lib.hid (HR.out.trans (congrArg (fun o=>Option.getD o .zero) hr))
    clear hB5 q5 hr hh hbn
    go_wp2
    (try simp only [Exit.inBlock,Exit.then])
    refine bodyPost_ret (results_cell_row rfl _ _ (w.heap.size+1+1) _ _ _ du rfl (five_set z5) hu1 (by cases du<;>first | rfl | exact hu2) size_term) rfl ?_
    rw [HR5.out]
    exact⟨.slice none 0 0,rfl,liesP_nil _ _,below_five HB5.out (by omega) _ _ _ _ _⟩
  ·rcases HANS.out with ⟨rfl,hr,rfl,hly⟩ | ⟨rfl,hr⟩
   ·have q5:(((((wm.setCell ⟨wp.heap.size,0,none⟩ (.int .i64 y.k)).setCell ⟨wp.heap.size,1,none⟩ (.int .i64 y.i)).setCell ⟨wp.heap.size,2,none⟩ (.int .i64 y.j)).setCell ⟨wp.heap.size,3,none⟩ (.int .i64 y.n)).setCell ⟨wp.heap.size,4,none⟩ (.slice ay y.kids.length cy)).heap[wp.heap.size]? =some (.cells #[.int .i64 y.k,.int .i64 y.i,.int .i64 y.j,.int .i64 y.n,.slice ay y.kids.length cy] 24):=five_set hzm
    have hK5:Kept v1 (((((wm.setCell ⟨wp.heap.size,0,none⟩ (.int .i64 y.k)).setCell ⟨wp.heap.size,1,none⟩ (.int .i64 y.i)).setCell ⟨wp.heap.size,2,none⟩ (.int .i64 y.j)).setCell ⟨wp.heap.size,3,none⟩ (.int .i64 y.n)).setCell ⟨wp.heap.size,4,none⟩ (.slice ay y.kids.length cy)):=(kept_set_ (kept_set_ (kept_set_ (kept_set_ (kept_set_ hh hvp _) hvp _) hvp _) hvp _) hvp _)
    have hl5:LiesP (((((wm.setCell ⟨wp.heap.size,0,none⟩ (.int .i64 y.k)).setCell ⟨wp.heap.size,1,none⟩ (.int .i64 y.i)).setCell ⟨wp.heap.size,2,none⟩ (.int .i64 y.j)).setCell ⟨wp.heap.size,3,none⟩ (.int .i64 y.n)).setCell ⟨wp.heap.size,4,none⟩ (.slice ay y.kids.length cy)) (Own v0.heap.size (((((wm.setCell ⟨wp.heap.size,0,none⟩ (.int .i64 y.k)).setCell ⟨wp.heap.size,1,none⟩ (.int .i64 y.i)).setCell ⟨wp.heap.size,2,none⟩ (.int .i64 y.j)).setCell ⟨wp.heap.size,3,none⟩ (.int .i64 y.n)).setCell ⟨wp.heap.size,4,none⟩ (.slice ay y.kids.length cy))) y.kids (.slice ay y.kids.length cy):=liesP_fives hly (g:=wp.heap.size) (N:=v0.heap.size) (by simp) (by simp<;>omega) _ _ _ _ _
    have z5:=keep_block hK5 (block_lt HQ3.out) HQ3.out
    have hB5:=HB1.out.trans (Below.mono hK5 HB1.out.size)
    generalize (((((wm.setCell ⟨wp.heap.size,0,none⟩ (.int .i64 y.k)).setCell ⟨wp.heap.size,1,none⟩ (.int .i64 y.i)).setCell ⟨wp.heap.size,2,none⟩ (.int .i64 y.j)).setCell ⟨wp.heap.size,3,none⟩ (.int .i64 y.n)).setCell ⟨wp.heap.size,4,none⟩ (.slice ay y.kids.length cy))=W5 at q5 hl5 z5 hB5 ⊢
    clear hK5
    obtain⟨x0,x1,x2,x3,x4⟩:=five_cells q5
    obtain⟨z0,z1,z2,z3,z4⟩:=five_cells z5
    obtain⟨f0,f1,f2,f3,f4⟩:=five_free z5
    have HB5:=Lib.hid hB5
    have HL5:=Lib.hid hl5
    clear hl5 hly
    have HR5:=Lib.hid (HR.out.trans (congrArg (fun o=>Option.getD o .zero) hr))
    clear hB5 q5 hr hh hbn
    go_wp2
    (try simp only [Exit.inBlock,Exit.then])
    refine bodyPost_ret (results_cell_row rfl _ _ (w.heap.size+1+1) _ _ _ du rfl (five_set z5) hu1 (by cases du<;>first | rfl | exact hu2) size_term) rfl ?_
    rw [HR5.out]
    exact⟨_,rfl,liesP_fives HL5.out (by omega) (by omega) _ _ _ _ _,below_five HB5.out (by omega) _ _ _ _ _⟩
   ·have q5:(((((wm.setCell ⟨wp.heap.size,0,none⟩ (.int .i64 y.k)).setCell ⟨wp.heap.size,1,none⟩ (.int .i64 y.i)).setCell ⟨wp.heap.size,2,none⟩ (.int .i64 y.j)).setCell ⟨wp.heap.size,3,none⟩ (.int .i64 y.n)).setCell ⟨wp.heap.size,4,none⟩ (.slice ay ny cy)).heap[wp.heap.size]? =some (.cells #[.int .i64 y.k,.int .i64 y.i,.int .i64 y.j,.int .i64 y.n,.slice ay ny cy] 24):=five_set hzm
    have hK5:Kept v1 (((((wm.setCell ⟨wp.heap.size,0,none⟩ (.int .i64 y.k)).setCell ⟨wp.heap.size,1,none⟩ (.int .i64 y.i)).setCell ⟨wp.heap.size,2,none⟩ (.int .i64 y.j)).setCell ⟨wp.heap.size,3,none⟩ (.int .i64 y.n)).setCell ⟨wp.heap.size,4,none⟩ (.slice ay ny cy)):=(kept_set_ (kept_set_ (kept_set_ (kept_set_ (kept_set_ hh hvp _) hvp _) hvp _) hvp _) hvp _)
    have z5:=keep_block hK5 (block_lt HQ3.out) HQ3.out
    have hB5:=HB1.out.trans (Below.mono hK5 HB1.out.size)
    generalize (((((wm.setCell ⟨wp.heap.size,0,none⟩ (.int .i64 y.k)).setCell ⟨wp.heap.size,1,none⟩ (.int .i64 y.i)).setCell ⟨wp.heap.size,2,none⟩ (.int .i64 y.j)).setCell ⟨wp.heap.size,3,none⟩ (.int .i64 y.n)).setCell ⟨wp.heap.size,4,none⟩ (.slice ay ny cy))=W5 at q5 z5 hB5 ⊢
    clear hK5
    obtain⟨x0,x1,x2,x3,x4⟩:=five_cells q5
    obtain⟨z0,z1,z2,z3,z4⟩:=five_cells z5
    obtain⟨f0,f1,f2,f3,f4⟩:=five_free z5
    have HB5:=Lib.hid hB5
    have HR5:=Lib.hid (HR.out.trans (congrArg (fun o=>Option.getD o .zero) hr))
    clear hB5 q5 hr hh hbn
    go_wp2
    (try simp only [Exit.inBlock,Exit.then])
    refine bodyPost_ret (results_cell_row rfl _ _ (w.heap.size+1+1) _ _ _ du rfl (five_set z5) hu1 (by cases du<;>first | rfl | exact hu2) size_term) rfl ?_
    rw [HR5.out]
    exact⟨.slice none 0 0,rfl,liesP_nil _ _,below_five HB5.out (by omega) _ _ _ _ _⟩
  ·rcases HANS.out with ⟨rfl,hr,rfl,hly⟩ | ⟨rfl,hr⟩
   ·have q5:(((((wm.setCell ⟨v1.heap.size,0,none⟩ (.int .i64 y.k)).setCell ⟨v1.heap.size,1,none⟩ (.int .i64 y.i)).setCell ⟨v1.heap.size,2,none⟩ (.int .i64 y.j)).setCell ⟨v1.heap.size,3,none⟩ (.int .i64 y.n)).setCell ⟨v1.heap.size,4,none⟩ (.slice ay y.kids.length cy)).heap[v1.heap.size]? =some (.cells #[.int .i64 y.k,.int .i64 y.i,.int .i64 y.j,.int .i64 y.n,.slice ay y.kids.length cy] 24):=five_set hzm
    have hK5:Kept v1 (((((wm.setCell ⟨v1.heap.size,0,none⟩ (.int .i64 y.k)).setCell ⟨v1.heap.size,1,none⟩ (.int .i64 y.i)).setCell ⟨v1.heap.size,2,none⟩ (.int .i64 y.j)).setCell ⟨v1.heap.size,3,none⟩ (.int .i64 y.n)).setCell ⟨v1.heap.size,4,none⟩ (.slice ay y.kids.length cy)):=(kept_set_ (kept_set_ (kept_set_ (kept_set_ (kept_set_ hh (Nat.le_refl _) _) (Nat.le_refl _) _) (Nat.le_refl _) _) (Nat.le_refl _) _) (Nat.le_refl _) _)
    have hl5:LiesP (((((wm.setCell ⟨v1.heap.size,0,none⟩ (.int .i64 y.k)).setCell ⟨v1.heap.size,1,none⟩ (.int .i64 y.i)).setCell ⟨v1.heap.size,2,none⟩ (.int .i64 y.j)).setCell ⟨v1.heap.size,3,none⟩ (.int .i64 y.n)).setCell ⟨v1.heap.size,4,none⟩ (.slice ay y.kids.length cy)) (Own v0.heap.size (((((wm.setCell ⟨v1.heap.size,0,none⟩ (.int .i64 y.k)).setCell ⟨v1.heap.size,1,none⟩ (.int .i64 y.i)).setCell ⟨v1.heap.size,2,none⟩ (.int .i64 y.j)).setCell ⟨v1.heap.size,3,none⟩ (.int .i64 y.n)).setCell ⟨v1.heap.size,4,none⟩ (.slice ay y.kids.length cy))) y.kids (.slice ay y.kids.length cy):=liesP_fives hly (g:=v1.heap.size) (N:=v0.heap.size) (by have:=HBE.out;omega) (by have:=HBE.out;omega) _ _ _ _ _
    have z5:=keep_block hK5 (block_lt HQ3.out) HQ3.out
    have hB5:=HB1.out.trans (Below.mono hK5 HB1.out.size)
    generalize (((((wm.setCell ⟨v1.heap.size,0,none⟩ (.int .i64 y.k)).setCell ⟨v1.heap.size,1,none⟩ (.int .i64 y.i)).setCell ⟨v1.heap.size,2,none⟩ (.int .i64 y.j)).setCell ⟨v1.heap.size,3,none⟩ (.int .i64 y.n)).setCell ⟨v1.heap.size,4,none⟩ (.slice ay y.kids.length cy))=W5 at q5 hl5 z5 hB5 ⊢
    clear hK5
    obtain⟨x0,x1,x2,x3,x4⟩:=five_cells q5
    obtain⟨z0,z1,z2,z3,z4⟩:=five_cells z5
    obtain⟨f0,f1,f2,f3,f4⟩:=five_free z5
    have HB5:=Lib.hid hB5
    have HL5:=Lib.hid hl5
    clear hl5 hly
    have HR5:=Lib.hid (HR.out.trans (congrArg (fun o=>Option.getD o .zero) hr))
    clear hB5 q5 hr hh hbn
    go_wp2
    (try simp only [Exit.inBlock,Exit.then])
    refine bodyPost_ret (results_cell_row rfl _ _ (w.heap.size+1+1) _ _ _ du rfl (five_set z5) hu1 (by cases du<;>first | rfl | exact hu2) size_term) rfl ?_
    rw [HR5.out]
    exact⟨_,rfl,liesP_fives HL5.out (by omega) (by omega) _ _ _ _ _,below_five HB5.out (by omega) _ _ _ _ _⟩
   ·have q5:(((((wm.setCell ⟨v1.heap.size,0,none⟩ (.int .i64 y.k)).setCell ⟨v1.heap.size,1,none⟩ (.int .i64 y.i)).setCell ⟨v1.heap.size,2,none⟩ (.int .i64 y.j)).setCell ⟨v1.heap.size,3,none⟩ (.int .i64 y.n)).setCell ⟨v1.heap.size,4,none⟩ (.slice ay ny cy)).heap[v1.heap.size]? =some (.cells #[.int .i64 y.k,.int .i64 y.i,.int .i64 y.j,.int .i64 y.n,.slice ay ny cy] 24):=five_set hzm
    have hK5:Kept v1 (((((wm.setCell ⟨v1.heap.size,0,none⟩ (.int .i64 y.k)).setCell ⟨v1.heap.size,1,none⟩ (.int .i64 y.i)).setCell ⟨v1.heap.size,2,none⟩ (.int .i64 y.j)).setCell ⟨v1.heap.size,3,none⟩ (.int .i64 y.n)).setCell ⟨v1.heap.size,4,none⟩ (.slice ay ny cy)):=(kept_set_ (kept_set_ (kept_set_ (kept_set_ (kept_set_ hh (Nat.le_refl _) _) (Nat.le_refl _) _) (Nat.le_refl _) _) (Nat.le_refl _) _) (Nat.le_refl _) _)
    have z5:=keep_block hK5 (block_lt HQ3.out) HQ3.out
    have hB5:=HB1.out.trans (Below.mono hK5 HB1.out.size)
    generalize (((((wm.setCell ⟨v1.heap.size,0,none⟩ (.int .i64 y.k)).setCell ⟨v1.heap.size,1,none⟩ (.int .i64 y.i)).setCell ⟨v1.heap.size,2,none⟩ (.int .i64 y.j)).setCell ⟨v1.heap.size,3,none⟩ (.int .i64 y.n)).setCell ⟨v1.heap.size,4,none⟩ (.slice ay ny cy))=W5 at q5 z5 hB5 ⊢
    clear hK5
    obtain⟨x0,x1,x2,x3,x4⟩:=five_cells q5
    obtain⟨z0,z1,z2,z3,z4⟩:=five_cells z5
    obtain⟨f0,f1,f2,f3,f4⟩:=five_free z5
    have HB5:=Lib.hid hB5
    have HR5:=Lib.hid (HR.out.trans (congrArg (fun o=>Option.getD o .zero) hr))
    clear hB5 q5 hr hh hbn
    go_wp2
    (try simp only [Exit.inBlock,Exit.then])
    refine bodyPost_ret (results_cell_row rfl _ _ (w.heap.size+1+1) _ _ _ du rfl (five_set z5) hu1 (by cases du<;>first | rfl | exact hu2) size_term) rfl ?_
    rw [HR5.out]
    exact⟨.slice none 0 0,rfl,liesP_nil _ _,below_five HB5.out (by omega) _ _ _ _ _⟩
end Go.Proofs.Ytpdinlejmlbbeaa

namespace Go.Proofs.Ytpdinlejmlbbeaa
open Go.RowKit
theorem kept_setP {w w1:World} (h:Kept w w1) {p:Addr} (hp:w.heap.size≤p.block) (v:Value):Kept w (w1.setCell p v):=Below.setCell h hp v
def Five (v:World) (b:Nat) (t:Tm) (s:Value):Prop:=v.cell? ⟨b,0,none⟩=some (.int .i64 t.k)∧v.cell? ⟨b,1,none⟩=some (.int .i64 t.i)∧v.cell? ⟨b,2,none⟩=some (.int .i64 t.j)∧v.cell? ⟨b,3,none⟩=some (.int .i64 t.n)∧v.cell? ⟨b,4,none⟩=some s
theorem Five.keep {v w':World} {b:Nat} {t:Tm} {s:Value} (h:Five v b t s) (hk:Below v.heap.size v w'):Five w' b t s :=
 ⟨cell_lat hk h.1,cell_lat hk h.2.1,cell_lat hk h.2.2.1,cell_lat hk h.2.2.2.1,cell_lat hk h.2.2.2.2⟩
theorem put_and {v w':World} {b0 b1 b2 o2:Nat} {t u x:Tm} {st su sx:Value} (h:Kept v w') (ht:Five v b0 t st) (hu:Five v b1 u su) (hx:Node v b2 o2 x sx):Kept v w'∧w'.cell? ⟨b0,0,none⟩=some (.int .i64 t.k)∧w'.cell? ⟨b0,1,none⟩=some (.int .i64 t.i)∧w'.cell? ⟨b0,2,none⟩=some (.int .i64 t.j)∧w'.cell? ⟨b0,3,none⟩=some (.int .i64 t.n)∧w'.cell? ⟨b0,4,none⟩=some (st)∧w'.cell? ⟨b1,0,none⟩=some (.int .i64 u.k)∧w'.cell? ⟨b1,1,none⟩=some (.int .i64 u.i)∧w'.cell? ⟨b1,2,none⟩=some (.int .i64 u.j)∧w'.cell? ⟨b1,3,none⟩=some (.int .i64 u.n)∧w'.cell? ⟨b1,4,none⟩=some (su)∧w'.cell? ⟨b2,o2,none⟩=some (.int .i64 x.k)∧w'.cell? ⟨b2,o2+1,none⟩=some (.int .i64 x.i)∧w'.cell? ⟨b2,o2+2,none⟩=some (.int .i64 x.j)∧w'.cell? ⟨b2,o2+3,none⟩=some (.int .i64 x.n)∧w'.cell? ⟨b2,o2+4,none⟩=some (sx):=by
 obtain⟨t0,t1,t2,t3,t4⟩:=ht.keep h
 obtain⟨u0,u1,u2,u3,u4⟩:=hu.keep h
 obtain⟨x0,x1,x2,x3,x4⟩:=hx.below h hx.lt
 exact⟨h,t0,t1,t2,t3,t4,u0,u1,u2,u3,u4,x0,x1,x2,x3,x4⟩
set_option maxRecDepth 20000 in
set_option maxHeartbeats 8000000 in
theorem refput_any (u:Tm) (hur:u.rightB=true) (hud:u.deep≤100000) (t:Tm):∀ (b:Int) (pl:Bool) (wi:World) (s su:Value),Lies wi t.kids s→Lies wi u.kids su→t.rightB=true→0≤b→b+2 * t.deep≤1000000 →
 Calls Try.prog 51 #[tv t s,tv u su,.int .i64 b,.bool pl] wi (GivesY (t.putG (gPut u) b (pl||decide (12<t.k))) wi):=by
 induction t using Tm.ind with
 | h t ih =>
  intro b pl wi s su hl hlu hr hb hd
  obtain⟨a,cap,S,rfl,hc,hm,hf,hn,hkk⟩:=hl.out
  obtain⟨au,capu,SU,rfl,-⟩:=hlu.out
  have hlen:=right_len hr
  unfold maxLen at hm
  obtain⟨du,hu1,hu2⟩:=under_term
  have hde:=t.deep_eq
  have HUR:=Lib.hid hur
  have hN:(wi.alloc (.cells #[.int .i64 t.k,.int .i64 t.i,.int .i64 t.j,.int .i64 t.n,.slice a t.kids.length cap] 24)).heap.size=wi.heap.size+1:=by simp
  have hbP:Below wi.heap.size wi (wi.alloc (.cells #[.int .i64 t.k,.int .i64 t.i,.int .i64 t.j,.int .i64 t.n,.slice a t.kids.length cap] 24)):=(Below.refl _ _).alloc (Nat.le_refl _) _
  have hTc:Five (wi.alloc (.cells #[.int .i64 t.k,.int .i64 t.i,.int .i64 t.j,.int .i64 t.n,.slice a t.kids.length cap] 24)) wi.heap.size t (.slice a t.kids.length cap):=five_cells (alloc_new _ _)
  have HLU:=Lib.hid (hlu.keep hbP)
  have HLT:=Lib.hid (hl.keep hbP)
  clear hlu
  unfold tv
  by_cases hk2:t.k=2
  ·have e2:(t.k==2)=true:=by simpa using hk2
   have hv:=t.right_var hr hk2
   have hve:=right_var_eq hr hk2
   have hflag:(pl||decide (12<t.k))=pl:=by rw [decide_eq_false (by omega),Bool.or_false]
   rw [hflag,t.putG_var _ _ _ hk2]
   have HV:=Lib.hid hve
   clear hflag hk2 ih hn hkk hf hl hve
   by_cases hib:t.i=b
   ·have e3:(t.i==b)=true:=by simpa using hib
    have hg:gPut u t.i b pl=(if pl=true then u.bare else u).each (liftF b 0) 0:=by unfold gPut;rw [if_neg (by omega),if_pos hib]
    obtain⟨R,hRR⟩:∃ R,(if pl=true then u.bare else u).each (liftF b 0) 0=R:=⟨_,rfl⟩
    have CR:Hid (∀ w' s',Lies w' u.kids s'→Calls Try.prog 62 #[tv u s',.int .i64 b,.bool pl] w' (GivesY R w')):=fun w' s' h=>by rw [←hRR];exact refraised_any u b pl w' s' h hur hud hb (by omega)
    rw [hg,hRR]
    clear hg hib hRR
    go_enter Try.func51,Try.ntmps51
    go_upto_region 1 with fail
    generalize wi.alloc (.cells #[.int .i64 t.k,.int .i64 t.i,.int .i64 t.j,.int .i64 t.n,.slice a t.kids.length cap] 24)=w at hN hbP hTc HLU HLT ⊢
    rw [←hN]
    have HBP:=Lib.hid hbP
    have hplt:wi.heap.size<w.heap.size:=by omega
    have hplt1:wi.heap.size<w.heap.size+1:=by omega
    have hplt2:wi.heap.size<w.heap.size+1+1:=by omega
    clear hbP hN
    have H0:=boxes_start w u (.slice au u.kids.length capu)
    obtain⟨d0,d1,d2,d3,d4⟩:=hTc
    go_wp2_with fail
    refine(CR.out _ _ (boxes_lies H0 HLU.out)).mono ?_
    rintro e w3 ⟨x,xa,xn,xc,ok,rfl,hb3,hans⟩
    have H3:=boxes_call H0 hb3
    obtain⟨-,q1⟩:=boxes_two H3
    obtain⟨z0,z1,z2,z3,z4⟩:=five_cells q1
    obtain⟨f0,f1,f2,f3,f4⟩:=five_free q1
    have HANS:=Lib.hid hans
    clear hans hb3 d0 d1 d2 d3 d4
    go_wp2
    (try simp only [Exit.inBlock,Exit.then])
    refine bodyPost_ret (results_cell_tmp rfl _ _ (w.heap.size+1) _ _ _ du rfl (five_set q1) hu1 (by cases du<;>first | rfl | exact hu2) size_term) rfl ?_
    refine⟨x,xa,xn,xc,ok,rfl,HBP.out.trans ((below_five (boxes_under H3) (by omega) _ _ _ _ _).mono HBP.out.size),?_⟩
    rcases HANS.out with ⟨rfl,h1,h2,h3⟩ | ⟨rfl,h1⟩
    ·exact Or.inl ⟨rfl,h1,h2,liesP_fives h3 (by simp) (by have:=HBP.out.size;simp;omega) _ _ _ _ _⟩
    ·exact Or.inr ⟨rfl,h1⟩
   have e3:(t.i==b)=false:=by simpa using hib
   by_cases hgt:b<t.i
   ·have e4:decide (b<t.i)=true:=decide_eq_true hgt
    have hg:gPut u t.i b pl=some (varT (t.i-1)):=by unfold gPut;rw [if_neg (by omega),if_neg hib]
    have hwr:IntKind.i64.wrap (t.i-1)=t.i-1:=IntWalk.i64_in _ (by omega)
    rw [hg]
    clear hg hib
    go_enter Try.func51,Try.ntmps51
    go_upto_region 1 with fail
    generalize wi.alloc (.cells #[.int .i64 t.k,.int .i64 t.i,.int .i64 t.j,.int .i64 t.n,.slice a t.kids.length cap] 24)=w at hN hbP hTc HLU HLT ⊢
    rw [←hN]
    have HBP:=Lib.hid hbP
    have hplt:wi.heap.size<w.heap.size:=by omega
    have hplt1:wi.heap.size<w.heap.size+1:=by omega
    have hplt2:wi.heap.size<w.heap.size+1+1:=by omega
    clear hbP hN
    obtain⟨d0,d1,d2,d3,d4⟩:=hTc
    go_wp2
    (try simp only [Exit.inBlock,Exit.then])
    refine bodyPost_ret (results_cell_tmp rfl _ _ (w.heap.size+1) _ _ _ du rfl (heap_alloc2_new _ _ _) hu1 (by cases du<;>first | rfl | exact hu2) size_term) rfl ?_
    exact⟨varT (t.i-1),none,0,0,true,rfl,HBP.out.trans ((below_two w _ _).mono HBP.out.size),Or.inl ⟨rfl,rfl,rfl,liesP_nil _ _⟩⟩
   ·have e4:decide (b<t.i)=false:=decide_eq_false hgt
    have hg:gPut u t.i b pl=some (varT t.i):=by unfold gPut;rw [if_pos (by omega)]
    rw [hg]
    clear hg hib
    go_enter Try.func51,Try.ntmps51
    go_upto_region 1 with fail
    generalize wi.alloc (.cells #[.int .i64 t.k,.int .i64 t.i,.int .i64 t.j,.int .i64 t.n,.slice a t.kids.length cap] 24)=w at hN hbP hTc HLU HLT ⊢
    rw [←hN]
    have HBP:=Lib.hid hbP
    have hplt:wi.heap.size<w.heap.size:=by omega
    have hplt1:wi.heap.size<w.heap.size+1:=by omega
    have hplt2:wi.heap.size<w.heap.size+1+1:=by omega
    clear hbP hN
    obtain⟨d0,d1,d2,d3,d4⟩:=hTc
    go_wp2
    (try simp only [Exit.inBlock,Exit.then])
    refine bodyPost_ret (results_cell_tmp rfl _ _ (w.heap.size+1) _ _ _ du rfl (heap_alloc2_new _ _ _) hu1 (by cases du<;>first | rfl | exact hu2) size_term) rfl ?_
    have hvk:t.kids=[]:=by have:=HV.out;rw [this];rfl
    refine⟨t,a,t.kids.length,cap,true,rfl,HBP.out.trans ((below_two w _ _).mono HBP.out.size),Or.inl ⟨rfl,by rw [HV.out];rfl,rfl,?_⟩⟩
    rw [hvk]
    exact .mk [] a cap (fun _=>.nilIface) (Nat.zero_le _) (by unfold maxLen;omega) (fun _ h=>by cases h) (fun _ h=>by cases h) (fun _ h=>by cases h)
  ·have e2:(t.k==2)=false:=by simpa using hk2
   obtain⟨F,hF⟩:∃ F,(pl||decide (12<t.k))=F:=⟨_,rfl⟩
   have heq:=t.putG_node (gPut u) b F hk2
   rw [hF]
   have HF:=Lib.hid hF
   have HEQ:=Lib.hid heq
   have HR:=Lib.hid hr
   have HRK:=Lib.hid (t.right_kids hr)
   have HFI:=Lib.hid hf
   have IH:=Lib.hid ih
   have HN:=Lib.hid hn
   have HK:=Lib.hid hkk
   have HDE:=Lib.hid hde
   clear heq hk2 ih hn hkk hf hr hl hF hde
   obtain⟨i0,hi,hz0,hz1,hz2⟩:=info_parts info_term
   have HI:=Lib.hid (And.intro hi (And.intro hz0 (And.intro hz1 hz2)))
   clear hi hz0 hz1 hz2
   go_enter Try.func51,Try.ntmps51
   go_upto_region 1 with fail
   generalize wi.alloc (.cells #[.int .i64 t.k,.int .i64 t.i,.int .i64 t.j,.int .i64 t.n,.slice a t.kids.length cap] 24)=w at hN hbP hTc HLU HLT ⊢
   rw [←hN]
   have HBP:=Lib.hid hbP
   have hplt:wi.heap.size<w.heap.size:=by omega
   have hplt1:wi.heap.size<w.heap.size+1:=by omega
   have hplt2:wi.heap.size<w.heap.size+1+1:=by omega
   clear hbP hN
   have hd0:=desk_start w u t (.slice au u.kids.length capu) (.slice none 0 0)
   have HTC0:=Lib.hid hTc
   obtain⟨d0,d1,d2,d3,d4⟩:=hTc
   go_wp2_with fail
   go_loopw [11,12] (fun v i wr=>∃ (q:Nat) (ps:List (Tm × Value)) (vv:Value),vv=v∧q≤t.kids.length∧i=.int .i64 q∧Hid (optK (fun q x=>x.putG (gPut u) (b+bindsN t.k q) (F||(t.k==12&&q==2))) 0 (t.kids.take q)=some (ps.map (·.1)))∧Made (w.heap.size+3) wr v ps∧Desk w u t (.slice au u.kids.length capu) (.slice none 0 0) wr) (fun _ i _=>t.kids.length-(intOf i).toNat)
   case atStart=>exact⟨0,[],_,rfl,Nat.zero_le _,rfl,rfl,made_nil _ _,hd0⟩
   case round =>
    clear hd0 d0 d1 d2 d3 d4
    obtain⟨q,ps,vv,rfl,hq0,rfl,hps,hmade,hdk⟩:=hrel
    have HPS:=Lib.hid hps.out
    clear hps
    obtain⟨q0,q1,q2⟩:=desk_blocks hdk
    have hsz:=desk_size hdk
    have hTw:Five wr wi.heap.size t (.slice a t.kids.length cap):=HTC0.out.keep (desk_under hdk)
    have hUw:Five wr w.heap.size u (.slice au u.kids.length capu):=five_cells q0
    obtain⟨d0,d1,d2,d3,d4⟩:=hTw
    by_cases hlt:q<t.kids.length
    ·obtain⟨b',o,rfl,hx⟩:=HN.out q hlt
     have hxw:=hx.below HBP.out hx.lt
     have hy:=hxw.below (desk_under hdk) hxw.lt
     have hq:=(HK.out q hlt).keep HBP.out
     obtain⟨a',cap',S',hS,-⟩:=hq.out
     rw [hS] at hy hq
     have HM:=Lib.hid (List.getElem_mem hlt)
     have hbd:=binds_range t.k q
     have hwrap:IntKind.i64.wrap (b+bindsN t.k q)=b+bindsN t.k q:=IntWalk.i64_in _ (by omega)
     have hj1:(q:Int)<(t.kids.length:Int):=by omega
     have hpl:ps.length=q:=by have:=optK_length HPS.out;simp at this;omega
     have hkd:(t.kids[q]).deep+1≤t.deep:=by have:=deep_mem (List.getElem_mem hlt);rw [HDE.out];omega
     have CALL0:Hid (∀ w',Kept wr w'→∀ fl:Bool,fl=(pl||plainlyB t q)→Calls Try.prog 51 #[tv t.kids[q] (.slice a' t.kids[q].kids.length cap'),tv u (.slice au u.kids.length capu),.int .i64 (b+bindsN t.k q),.bool fl] w' (GivesY (t.kids[q].putG (gPut u) (b+bindsN t.k q) (F||(t.k==12&&q==2))) w')):=fun w' hk fl hfl=>by
      have h1:=IH.out _ HM.out (b+bindsN t.k q) fl w' _ _ ((hq.keep (desk_under hdk)).keep hk) ((HLU.out.keep (desk_under hdk)).keep hk) (HRK.out _ HM.out) (by omega) (by omega)
      have h2:(fl||decide (12<(t.kids[q]).k))=(F||(t.k==12&&q==2)):=by
       rw [hfl,←HF.out]
       have:=flag_kid' HR.out q hlt pl
       rw [int_two q] at this ⊢
       rw [←this]
       unfold plainlyB
       generalize decide (12<t.k)=d1
       generalize ((t.k==12)&&((q:Int)==2))=d2
       generalize decide (12<(t.kids[q]).k)=d3
       cases pl<;>cases d1<;>cases d2<;>cases d3<;>rfl
      rw [h2] at h1
      exact h1
     have HTC:=Lib.hid (show Five wr wi.heap.size t (.slice (some ⟨b',o,none⟩) t.kids.length cap) from⟨d0,d1,d2,d3,d4⟩)
     have HUC:=Lib.hid hUw
     have HXC:=Lib.hid hy
     have HPL:=Lib.hid hpl
     have HMD:=Lib.hid hmade
     have HDK:=Lib.hid hdk
     have hk0:=kept_start wr
     obtain⟨c0,c1,c2,c3,c4⟩:=hy
     obtain⟨y0,y1,y2,y3,y4⟩:=hUw
     clear hS hq hx hxw hpl hmade hdk hkd q0 q1 q2
     cases pl with
     | true =>
      have CALL:=Lib.hid (fun w' (h:Kept wr w')=>CALL0.out w' h true rfl)
      clear CALL0
      go_wp2_with fail
      refine wp_region_held_drew (S:=fun w'=>Kept wr w'∧w'.cell? ⟨wi.heap.size,0,none⟩=some (.int .i64 t.k)∧w'.cell? ⟨wi.heap.size,1,none⟩=some (.int .i64 t.i)∧w'.cell? ⟨wi.heap.size,2,none⟩=some (.int .i64 t.j)∧w'.cell? ⟨wi.heap.size,3,none⟩=some (.int .i64 t.n)∧w'.cell? ⟨wi.heap.size,4,none⟩=some (.slice (some ⟨b',o,none⟩) t.kids.length cap)∧w'.cell? ⟨w.heap.size,0,none⟩=some (.int .i64 u.k)∧w'.cell? ⟨w.heap.size,1,none⟩=some (.int .i64 u.i)∧w'.cell? ⟨w.heap.size,2,none⟩=some (.int .i64 u.j)∧w'.cell? ⟨w.heap.size,3,none⟩=some (.int .i64 u.n)∧w'.cell? ⟨w.heap.size,4,none⟩=some (.slice au u.kids.length capu)∧w'.cell? ⟨b',o+q * 5,none⟩=some (.int .i64 t.kids[q].k)∧w'.cell? ⟨b',o+q * 5+1,none⟩=some (.int .i64 t.kids[q].i)∧w'.cell? ⟨b',o+q * 5+2,none⟩=some (.int .i64 t.kids[q].j)∧w'.cell? ⟨b',o+q * 5+3,none⟩=some (.int .i64 t.kids[q].n)∧w'.cell? ⟨b',o+q * 5+4,none⟩=some (.slice a' t.kids[q].kids.length cap')) (by kernel_rfl) ?_ (fun hHeld=>?_)
      ·(try dsimp only)
       (((with_reducible refine put_and ?_ HTC.out HUC.out HXC.out);repeat (first | with_reducible assumption | with_reducible exact hk0 | with_reducible refine kept_drew ?_ | with_reducible refine kept_alloc ?_ _ | ((with_reducible refine kept_setP ?_ ?hh _);(case hh=>first | exact Nat.le_refl _ | exact hszp)))))
      refine wpAnyH_take (i:=0) (oi:={dst:=some 54,op:=Go.Op.fieldAddr 24 (Go.Operand.tmp 4) 4,type:=0,pos := "ref.go:284",after:=#[],guard:=none}) (v:=?_) rfl (by kernel_rfl) (by kernel_rfl) (by kernel_rfl) (fun _ _ _ h=>h) (Or.inl ⟨by rfl,?_⟩) (by assumption) ?_
      rotate_left 1
      ·((intro w hSw;(try dsimp only at hSw);go_simp)<;>with_reducible rfl)
      (try simp only [Act.put,List.setIfInBounds_toArray,List.set_cons_zero,List.set_cons_succ])
      refine wpAnyH_take (i:=1) (oi:={dst:=some 55,op:=Go.Op.load 22 (Go.Operand.tmp 54),type:=22,pos := "ref.go:284",after:=#[{on:=0,ground:=Go.Ground.data}],guard:=none}) (v:=?_) rfl (by kernel_rfl) (by kernel_rfl) (by kernel_rfl) (fun _ _ _ h=>h) (Or.inl ⟨by rfl,?_⟩) (by assumption) ?_
      rotate_left 1
      ·((intro w hSw;(try dsimp only at hSw);go_simp)<;>with_reducible rfl)
      (try simp only [Act.put,List.setIfInBounds_toArray,List.set_cons_zero,List.set_cons_succ])
      refine wpAnyH_take (i:=2) (oi:={dst:=some 56,op:=Go.Op.move (Go.Operand.tmp 12),type:=3,pos := "ref.go:284",after:=#[],guard:=none}) (v:=?_) rfl (by kernel_rfl) (by kernel_rfl) (by kernel_rfl) (fun _ _ _ h=>h) (Or.inl ⟨by rfl,?_⟩) (by assumption) ?_
      rotate_left 1
      ·((intro w hSw;(try dsimp only at hSw);go_simp)<;>with_reducible rfl)
      (try simp only [Act.put,List.setIfInBounds_toArray,List.set_cons_zero,List.set_cons_succ])
      refine wpAnyH_take (i:=3) (oi:={dst:=some 57,op:=Go.Op.indexAddr 22 (Go.Operand.tmp 55) (Go.Operand.tmp 56),type:=0,pos := "ref.go:284",after:=#[{on:=1,ground:=Go.Ground.data},{on:=2,ground:=Go.Ground.data}],guard:=none}) (v:=?_) rfl (by kernel_rfl) (by kernel_rfl) (by kernel_rfl) (fun _ _ _ h=>h) (Or.inl ⟨by rfl,?_⟩) (by assumption) ?_
      rotate_left 1
      ·((intro w hSw;(try dsimp only at hSw);go_simp)<;>with_reducible rfl)
      (try simp only [Act.put,List.setIfInBounds_toArray,List.set_cons_zero,List.set_cons_succ])
      refine wpAnyH_take (i:=4) (oi:={dst:=some 58,op:=Go.Op.load 24 (Go.Operand.tmp 57),type:=24,pos := "ref.go:284",after:=#[{on:=3,ground:=Go.Ground.data}],guard:=none}) (v:=?_) rfl (by kernel_rfl) (by kernel_rfl) (by kernel_rfl) (fun _ _ _ h=>h) (Or.inl ⟨by rfl,?_⟩) (by assumption) ?_
      rotate_left 1
      ·((intro w hSw;(try dsimp only at hSw);go_simp)<;>with_reducible rfl)
      (try simp only [Act.put,List.setIfInBounds_toArray,List.set_cons_zero,List.set_cons_succ])
      refine wpAnyH_take (i:=5) (oi:={dst:=some 59,op:=Go.Op.load 24 (Go.Operand.tmp 5),type:=24,pos := "ref.go:284",after:=#[],guard:=none}) (v:=?_) rfl (by kernel_rfl) (by kernel_rfl) (by kernel_rfl) (fun _ _ _ h=>h) (Or.inl ⟨by rfl,?_⟩) (by assumption) ?_
      rotate_left 1
      ·((intro w hSw;(try dsimp only at hSw);go_simp)<;>with_reducible rfl)
      (try simp only [Act.put,List.setIfInBounds_toArray,List.set_cons_zero,List.set_cons_succ])
      refine wpAnyH_take (i:=6) (oi:={dst:=some 60,op:=Go.Op.move (Go.Operand.tmp 2),type:=3,pos := "ref.go:284",after:=#[],guard:=none}) (v:=?_) rfl (by kernel_rfl) (by kernel_rfl) (by kernel_rfl) (fun _ _ _ h=>h) (Or.inl ⟨by rfl,?_⟩) (by assumption) ?_
      rotate_left 1
      ·((intro w hSw;(try dsimp only at hSw);go_simp)<;>with_reducible rfl)
      (try simp only [Act.put,List.setIfInBounds_toArray,List.set_cons_zero,List.set_cons_succ])
      refine wpAnyH_take (i:=7) (oi:={dst:=some 61,op:=Go.Op.fieldAddr 24 (Go.Operand.tmp 4) 0,type:=0,pos := "ref.go:284",after:=#[],guard:=none}) (v:=?_) rfl (by kernel_rfl) (by kernel_rfl) (by kernel_rfl) (fun _ _ _ h=>h) (Or.inl ⟨by rfl,?_⟩) (by assumption) ?_
      rotate_left 1
      ·((intro w hSw;(try dsimp only at hSw);go_simp)<;>with_reducible rfl)
      (try simp only [Act.put,List.setIfInBounds_toArray,List.set_cons_zero,List.set_cons_succ])
      refine wpAnyH_take (i:=8) (oi:={dst:=some 62,op:=Go.Op.load 3 (Go.Operand.tmp 61),type:=3,pos := "ref.go:284",after:=#[{on:=7,ground:=Go.Ground.data}],guard:=none}) (v:=?_) rfl (by kernel_rfl) (by kernel_rfl) (by kernel_rfl) (fun _ _ _ h=>h) (Or.inl ⟨by rfl,?_⟩) (by assumption) ?_
      rotate_left 1
      ·((intro w hSw;(try dsimp only at hSw);go_simp)<;>with_reducible rfl)
      (try simp only [Act.put,List.setIfInBounds_toArray,List.set_cons_zero,List.set_cons_succ])
      refine wpAnyH_take (i:=9) (oi:={dst:=some 63,op:=Go.Op.move (Go.Operand.tmp 12),type:=3,pos := "ref.go:284",after:=#[],guard:=none}) (v:=?_) rfl (by kernel_rfl) (by kernel_rfl) (by kernel_rfl) (fun _ _ _ h=>h) (Or.inl ⟨by rfl,?_⟩) (by assumption) ?_
      rotate_left 1
      ·((intro w hSw;(try dsimp only at hSw);go_simp)<;>with_reducible rfl)
      (try simp only [Act.put,List.setIfInBounds_toArray,List.set_cons_zero,List.set_cons_succ])
      refine wpAnyH_take (i:=12) (oi:={dst:=some 66,op:=Go.Op.move (Go.Operand.tmp 3),type:=4,pos := "ref.go:284",after:=#[],guard:=none}) (v:=?_) rfl (by kernel_rfl) (by kernel_rfl) (by kernel_rfl) (fun _ _ _ h=>h) (Or.inl ⟨by rfl,?_⟩) (by assumption) ?_
      rotate_left 1
      ·((intro w hSw;(try dsimp only at hSw);go_simp)<;>with_reducible rfl)
      (try simp only [Act.put,List.setIfInBounds_toArray,List.set_cons_zero,List.set_cons_succ])
      refine wpAnyH_ready (rs:=[10,22]) (by kernel_rfl) (by simp) ?_
      refine AllReadyH.cons (o:={dst:=some 64,op:=Go.Op.call {callee:=Go.Callee.value (Go.Operand.func 63),args:=#[Go.Operand.tmp 62,Go.Operand.tmp 63],argTypes:=#[3,3] },type:=3,pos := "ref.go:284",after:=#[{on:=8,ground:=Go.Ground.data},{on:=9,ground:=Go.Ground.data}],guard:=none}) rfl (fun K hK=>?_) ?_
      ·go_simp
       (go_at_call 63;refine(refbinds_any _ _ _).mono ?_;rintro e w' ⟨rfl,rfl⟩)
       refine hK.out _ _ ?_ (fun hHeld=>?_)
       ·(try dsimp only)
        (((with_reducible refine put_and ?_ HTC.out HUC.out HXC.out);repeat (first | with_reducible assumption | with_reducible exact hk0 | with_reducible refine kept_drew ?_ | with_reducible refine kept_alloc ?_ _ | ((with_reducible refine kept_setP ?_ ?hh _);(case hh=>first | exact Nat.le_refl _ | exact hszp)))))
       clear hK K
       (try simp only [Act.put,List.setIfInBounds_toArray,List.set_cons_zero,List.set_cons_succ])
       refine wpAnyH_take (i:=11) (oi:={dst:=some 65,op:=Go.Op.binOp Go.BinOp.add 3 (Go.Operand.tmp 60) (Go.Operand.tmp 64) 3,type:=3,pos := "ref.go:284",after:=#[{on:=6,ground:=Go.Ground.data},{on:=10,ground:=Go.Ground.data}],guard:=none}) (v:=?_) rfl (by kernel_rfl) (by kernel_rfl) (by kernel_rfl) (fun _ _ _ h=>h) (Or.inl ⟨by rfl,?_⟩) (by assumption) ?_
       rotate_left 1
       ·((intro w hSw;(try dsimp only at hSw);go_simp)<;>with_reducible rfl)
       (try simp only [Act.put,List.setIfInBounds_toArray,List.set_cons_zero,List.set_cons_succ])
       refine wpAnyH_take (i:=13) (oi:={dst:=some 67,op:=Go.Op.move (Go.Operand.tmp 66),type:=4,pos := "ref.go:284",after:=#[{on:=12,ground:=Go.Ground.data},{on:=10,ground:=Go.Ground.chain}],guard:=none}) (v:=?_) rfl (by kernel_rfl) (by kernel_rfl) (by kernel_rfl) (fun _ _ _ h=>h) (Or.inl ⟨by rfl,?_⟩) (by assumption) ?_
       rotate_left 1
       ·((intro w hSw;(try dsimp only at hSw);go_simp)<;>with_reducible rfl)
       (try simp only [Act.put,List.setIfInBounds_toArray,List.set_cons_zero,List.set_cons_succ])
       refine wpAnyH_take (i:=14) (oi:={dst:=some 68,op:=Go.Op.load 24 (Go.Operand.tmp 4),type:=24,pos := "ref.go:284",after:=#[{on:=13,ground:=Go.Ground.guard}],guard:=some (13,false) }) (v:=undef) rfl (by kernel_rfl) (by kernel_rfl) (by kernel_rfl) (fun _ _ _ h=>h) (Or.inr ⟨by rfl,rfl⟩) (by assumption) ?_
       (try simp only [Act.put,List.setIfInBounds_toArray,List.set_cons_zero,List.set_cons_succ])
       refine wpAnyH_take (i:=15) (oi:={dst:=some 69,op:=Go.Op.move (Go.Operand.tmp 12),type:=3,pos := "ref.go:284",after:=#[{on:=13,ground:=Go.Ground.guard}],guard:=some (13,false) }) (v:=undef) rfl (by kernel_rfl) (by kernel_rfl) (by kernel_rfl) (fun _ _ _ h=>h) (Or.inr ⟨by rfl,rfl⟩) (by assumption) ?_
       (try simp only [Act.put,List.setIfInBounds_toArray,List.set_cons_zero,List.set_cons_succ])
       refine wpAnyH_take (i:=16) (oi:={dst:=some 70,op:=Go.Op.call {callee:=Go.Callee.value (Go.Operand.func 64),args:=#[Go.Operand.tmp 68,Go.Operand.tmp 69],argTypes:=#[24,3] },type:=4,pos := "ref.go:284",after:=#[{on:=14,ground:=Go.Ground.data},{on:=15,ground:=Go.Ground.data},{on:=13,ground:=Go.Ground.chain},{on:=13,ground:=Go.Ground.guard}],guard:=some (13,false) }) (v:=undef) rfl (by kernel_rfl) (by kernel_rfl) (by kernel_rfl) (fun _ _ _ h=>h) (Or.inr ⟨by rfl,rfl⟩) (by assumption) ?_
       (try simp only [Act.put,List.setIfInBounds_toArray,List.set_cons_zero,List.set_cons_succ])
       refine wpAnyH_take (i:=17) (oi:={dst:=some 71,op:=Go.Op.pick (Go.Operand.tmp 67) (Go.Operand.const (Go.Value.bool true)) (Go.Operand.tmp 70),type:=4,pos := "ref.go:284",after:=#[{on:=13,ground:=Go.Ground.data},{on:=16,ground:=Go.Ground.data}],guard:=none}) (v:=?_) rfl (by kernel_rfl) (by kernel_rfl) (by kernel_rfl) (fun _ _ _ h=>h) (Or.inl ⟨by rfl,?_⟩) (by assumption) ?_
       rotate_left 1
       ·((intro w hSw;(try dsimp only at hSw);go_simp)<;>with_reducible rfl)
       (try simp only [Act.put,List.setIfInBounds_toArray,List.set_cons_zero,List.set_cons_succ])
       refine wpAnyH_ready (rs:=[18,22]) (by kernel_rfl) (by simp) ?_
       refine AllReadyH.cons (o:={dst:=some 72,op:=Go.Op.call {callee:=Go.Callee.value (Go.Operand.func 51),args:=#[Go.Operand.tmp 58,Go.Operand.tmp 59,Go.Operand.tmp 65,Go.Operand.tmp 71],argTypes:=#[24,24,3,4] },type:=69,pos := "ref.go:284",after:=#[{on:=4,ground:=Go.Ground.data},{on:=5,ground:=Go.Ground.data},{on:=11,ground:=Go.Ground.data},{on:=17,ground:=Go.Ground.data},{on:=16,ground:=Go.Ground.chain}],guard:=none}) rfl (fun K hK=>?_) ?_
       ·go_simp
        (go_at_call 51;have hS:=hHeld.1;have hnc:=Below.size hS;((with_reducible refine Calls.mono (CALL.out _ hS) ?_);rintro e wn ⟨x,a2,n2,cap2,ok,rfl,hbn,hans⟩;have HANS:=Lib.hid hans;have hhn:=kept_call hS hbn;clear hans hbn hS))
        refine hK.out _ _ ?_ (fun hHeld=>?_)
        ·(try dsimp only)
         (((with_reducible refine put_and ?_ HTC.out HUC.out HXC.out);repeat (first | with_reducible assumption | with_reducible exact hk0 | with_reducible refine kept_drew ?_ | with_reducible refine kept_alloc ?_ _ | ((with_reducible refine kept_setP ?_ ?hh _);(case hh=>first | exact Nat.le_refl _ | exact hszp)))))
        clear hK K
        (try simp only [Act.put,List.setIfInBounds_toArray,List.set_cons_zero,List.set_cons_succ])
        refine wpAnyH_take (i:=19) (oi:={dst:=some 53,op:=Go.Op.move (Go.Operand.tmp 72),type:=69,pos := "ref.go:284",after:=#[{on:=18,ground:=Go.Ground.data}],guard:=none}) (v:=?_) rfl (by kernel_rfl) (by kernel_rfl) (by kernel_rfl) (fun _ _ _ h=>h) (Or.inl ⟨by rfl,?_⟩) (by assumption) ?_
        rotate_left 1
        ·((intro w hSw;(try dsimp only at hSw);go_simp)<;>with_reducible rfl)
        (try simp only [Act.put,List.setIfInBounds_toArray,List.set_cons_zero,List.set_cons_succ])
        refine wpAnyH_take (i:=20) (oi:={dst:=some 73,op:=Go.Op.extract (Go.Operand.tmp 53) 0,type:=24,pos := "ref.go:284",after:=#[{on:=19,ground:=Go.Ground.data}],guard:=none}) (v:=?_) rfl (by kernel_rfl) (by kernel_rfl) (by kernel_rfl) (fun _ _ _ h=>h) (Or.inl ⟨by rfl,?_⟩) (by assumption) ?_
        rotate_left 1
        ·((intro w hSw;(try dsimp only at hSw);go_simp)<;>with_reducible rfl)
        (try simp only [Act.put,List.setIfInBounds_toArray,List.set_cons_zero,List.set_cons_succ])
        refine wpAnyH_take (i:=21) (oi:={dst:=some 74,op:=Go.Op.extract (Go.Operand.tmp 53) 1,type:=4,pos := "ref.go:284",after:=#[{on:=19,ground:=Go.Ground.data},{on:=23,ground:=Go.Ground.gcOnly Go.Departure.lateStores}],guard:=none}) (v:=?_) rfl (by kernel_rfl) (by kernel_rfl) (by kernel_rfl) (fun _ _ _ h=>h) (Or.inl ⟨by rfl,?_⟩) (by assumption) ?_
        rotate_left 1
        ·((intro w hSw;(try dsimp only at hSw);go_simp)<;>with_reducible rfl)
        (try simp only [Act.put,List.setIfInBounds_toArray,List.set_cons_zero,List.set_cons_succ])
        refine wpAnyH_ready (rs:=[22]) (by kernel_rfl) (by simp) ?_
        refine AllReadyH.cons (o:={dst:=some 13,op:=Go.Op.alloc 24,type:=0,pos := "ref.go:284",after:=#[],guard:=none}) rfl (fun K hK=>?_) ?_
        ·go_simp
         refine hK.out _ _ ?_ (fun hHeld=>?_)
         ·(try dsimp only)
          (((with_reducible refine put_and ?_ HTC.out HUC.out HXC.out);repeat (first | with_reducible assumption | with_reducible exact hk0 | with_reducible refine kept_drew ?_ | with_reducible refine kept_alloc ?_ _ | ((with_reducible refine kept_setP ?_ ?hh _);(case hh=>first | exact Nat.le_refl _ | exact hszp)))))
         clear hK K
         (try simp only [Act.put,List.setIfInBounds_toArray,List.set_cons_zero,List.set_cons_succ])
         refine wpAnyH_ready (rs:=[23]) (by kernel_rfl) (by simp) ?_
         refine AllReadyH.cons (o:={dst:=none,op:=Go.Op.store 24 (Go.Operand.tmp 13) (Go.Operand.tmp 73),type:=0,pos := "ref.go:284",after:=#[{on:=22,ground:=Go.Ground.data},{on:=20,ground:=Go.Ground.data},{on:=18,ground:=Go.Ground.chain},{on:=0,ground:=Go.Ground.phase},{on:=1,ground:=Go.Ground.phase},{on:=2,ground:=Go.Ground.phase},{on:=3,ground:=Go.Ground.phase},{on:=4,ground:=Go.Ground.phase},{on:=5,ground:=Go.Ground.phase},{on:=6,ground:=Go.Ground.phase},{on:=7,ground:=Go.Ground.phase},{on:=8,ground:=Go.Ground.phase},{on:=9,ground:=Go.Ground.phase},{on:=10,ground:=Go.Ground.phase},{on:=11,ground:=Go.Ground.phase},{on:=12,ground:=Go.Ground.phase},{on:=13,ground:=Go.Ground.phase},{on:=14,ground:=Go.Ground.phase},{on:=15,ground:=Go.Ground.phase},{on:=16,ground:=Go.Ground.phase},{on:=17,ground:=Go.Ground.phase},{on:=18,ground:=Go.Ground.phase},{on:=19,ground:=Go.Ground.phase},{on:=20,ground:=Go.Ground.phase},{on:=21,ground:=Go.Ground.textOnly Go.Departure.lateStores},{on:=22,ground:=Go.Ground.phase}],guard:=none}) rfl (fun K hK=>?_) ?_
         ·go_simp
          refine hK.out _ _ ?_ (fun hHeld=>?_)
          ·(try dsimp only)
           (((with_reducible refine put_and ?_ HTC.out HUC.out HXC.out);repeat (first | with_reducible assumption | with_reducible exact hk0 | with_reducible refine kept_drew ?_ | with_reducible refine kept_alloc ?_ _ | ((with_reducible refine kept_setP ?_ ?hh _);(case hh=>first | exact Nat.le_refl _ | exact hszp)))))
          clear hK K
          (try simp only [Act.put,List.setIfInBounds_toArray,List.set_cons_zero,List.set_cons_succ])
          refine wpAnyH_take (i:=24) (oi:={dst:=some 14,op:=Go.Op.assign (Go.Operand.tmp 74),type:=4,pos := "ref.go:284",after:=#[{on:=21,ground:=Go.Ground.data},{on:=23,ground:=Go.Ground.chain},{on:=0,ground:=Go.Ground.phase},{on:=1,ground:=Go.Ground.phase},{on:=2,ground:=Go.Ground.phase},{on:=3,ground:=Go.Ground.phase},{on:=4,ground:=Go.Ground.phase},{on:=5,ground:=Go.Ground.phase},{on:=6,ground:=Go.Ground.phase},{on:=7,ground:=Go.Ground.phase},{on:=8,ground:=Go.Ground.phase},{on:=9,ground:=Go.Ground.phase},{on:=10,ground:=Go.Ground.phase},{on:=11,ground:=Go.Ground.phase},{on:=12,ground:=Go.Ground.phase},{on:=13,ground:=Go.Ground.phase},{on:=14,ground:=Go.Ground.phase},{on:=15,ground:=Go.Ground.phase},{on:=16,ground:=Go.Ground.phase},{on:=17,ground:=Go.Ground.phase},{on:=18,ground:=Go.Ground.phase},{on:=19,ground:=Go.Ground.phase},{on:=20,ground:=Go.Ground.phase},{on:=21,ground:=Go.Ground.phase},{on:=22,ground:=Go.Ground.phase},{on:=23,ground:=Go.Ground.phase}],guard:=none}) (v:=?_) rfl (by kernel_rfl) (by kernel_rfl) (by kernel_rfl) (fun _ _ _ h=>h) (Or.inl ⟨by rfl,?_⟩) (by assumption) ?_
          rotate_left 1
          ·((intro w hSw;(try dsimp only at hSw);go_simp)<;>with_reducible rfl)
          (try simp only [Act.put,List.setIfInBounds_toArray,List.set_cons_zero,List.set_cons_succ])
          refine wpAnyH_done (by kernel_rfl) ?_ _
          have hHold:=True.intro
          clear hHold
          rcases HANS.out with ⟨rfl,hr,rfl,hl2⟩ | ⟨rfl,hr⟩
          ·have HKW:=Lib.hid hHeld.1
           have hN:(wn.alloc (.cells #[.int .i64 x.k,.int .i64 x.i,.int .i64 x.j,.int .i64 x.n,.slice a2 x.kids.length cap2] 24)).heap[wn.heap.size]? =some (boxOf x (.slice a2 x.kids.length cap2)):=alloc_new _ _
           have hLW:LiesP (wn.alloc (.cells #[.int .i64 x.k,.int .i64 x.i,.int .i64 x.j,.int .i64 x.n,.slice a2 x.kids.length cap2] 24)) (Own wr.heap.size (wn.alloc (.cells #[.int .i64 x.k,.int .i64 x.i,.int .i64 x.j,.int .i64 x.n,.slice a2 x.kids.length cap2] 24))) x.kids (.slice a2 x.kids.length cap2):=(hl2.from hnc).later ((Below.refl _ _).alloc (Nat.le_refl _) _)
           generalize wn.alloc (.cells #[.int .i64 x.k,.int .i64 x.i,.int .i64 x.j,.int .i64 x.n,.slice a2 x.kids.length cap2] 24)=W at HKW hN hLW ⊢
           have HFX:=Lib.hid (putG_fine (gPut_fine HUR.out) (HRK.out _ HM.out) (by omega) hr)
           have HRS:=Lib.hid hr
           obtain⟨p0,p1,p2,p3,p4⟩:=five_cells hN
           have HLW:=Lib.hid hLW
           clear hN hLW hr
           go_wp2_with (at_builtin;refine wpList_append_lies _ rfl _ _ 22 rfl (w.heap.size+3) 24 i0 _ 5 56 (by kernel_rfl) HI.out.1 HI.out.2.1 HI.out.2.2.1 HI.out.2.2.2 rfl (by decide) _ ps.length (cells5 ps) rfl (made_later (made_later HMD.out HKW.out) ((Below.refl _ _).alloc (Nat.le_refl _) _)).own ⟨W.heap.size,0,none⟩ 1 1 (cells5 [(x,.slice a2 x.kids.length cap2)]) rfl rfl ?news ?one (by decide) ?max ?bytes ?base _ rfl ?next)
           case news=>first | exact news_new _ _ _ _ | exact fun j u h=>h
           case one=>exact one5 _ _
           case max=>have:=HPL.out;unfold maxLen;omega
           case bytes=>have:=HPL.out;omega
           case base=>have:=Below.size HKW.out;simp;omega
           case next =>
            intro g3 cap3 w3 hown hgrow hat _
            have hpb:=push_once HDK.out HMD.out HFX.out HKW.out HLW.out _ hown hgrow (by simpa using hat)
            clear hown hgrow hat
            go_wp2_with fail
            go_roundw
            case rel=>exact⟨q+1,ps++[(x,.slice a2 x.kids.length cap2)],_,rfl,hlt,by go_num,by rw [Hid,optK_next hlt HPS.out HRS.out];simp,hpb.1,hpb.2⟩
            case measure=>simp [intOf];omega
          ·have HKW:=Lib.hid hHeld.1
           generalize wn.alloc (.cells #[.int .i64 x.k,.int .i64 x.i,.int .i64 x.j,.int .i64 x.n,.slice a2 n2 cap2] 24)=W at HKW ⊢
           have hdW:=desk_trans HDK.out (below_from HKW.out hsz)
           obtain⟨-,q1,-⟩:=desk_blocks hdW
           obtain⟨z0,z1,z2,z3,z4⟩:=five_cells q1
           obtain⟨f0,f1,f2,f3,f4⟩:=five_free q1
           go_wp2
           (try simp only [Exit.inBlock,Exit.then])
           refine bodyPost_ret (results_cell_tmp rfl _ _ (w.heap.size+1) _ _ _ du rfl (five_set q1) hu1 (by cases du<;>first | rfl | exact hu2) size_term) rfl ?_
           exact⟨Tm.zero,none,0,0,false,rfl,HBP.out.trans ((below_five (desk_under hdW) (by omega) _ _ _ _ _).mono HBP.out.size),Or.inr ⟨rfl,by rw [HEQ.out,optK_stop hlt hr];rfl⟩⟩
         exact AllReadyH.nil
        exact AllReadyH.nil
       refine AllReadyH.cons (o:={dst:=some 13,op:=Go.Op.alloc 24,type:=0,pos := "ref.go:284",after:=#[],guard:=none}) rfl (fun K hK=>?_) ?_
       ·go_simp
        refine hK.out _ _ ?_ (fun hHeld=>?_)
        ·(try dsimp only)
         (((with_reducible refine put_and ?_ HTC.out HUC.out HXC.out);repeat (first | with_reducible assumption | with_reducible exact hk0 | with_reducible refine kept_drew ?_ | with_reducible refine kept_alloc ?_ _ | ((with_reducible refine kept_setP ?_ ?hh _);(case hh=>first | exact Nat.le_refl _ | exact hszp)))))
        clear hK K
        (try simp only [Act.put,List.setIfInBounds_toArray,List.set_cons_zero,List.set_cons_succ])
        have hZ:(wr.drew.alloc zeroObj).heap[wr.heap.size]? =some zeroObj:=alloc_new _ _
        refine wpAnyH_ready (rs:=[18]) (by kernel_rfl) (by simp) ?_
        refine AllReadyH.cons (o:={dst:=some 72,op:=Go.Op.call {callee:=Go.Callee.value (Go.Operand.func 51),args:=#[Go.Operand.tmp 58,Go.Operand.tmp 59,Go.Operand.tmp 65,Go.Operand.tmp 71],argTypes:=#[24,24,3,4] },type:=69,pos := "ref.go:284",after:=#[{on:=4,ground:=Go.Ground.data},{on:=5,ground:=Go.Ground.data},{on:=11,ground:=Go.Ground.data},{on:=17,ground:=Go.Ground.data},{on:=16,ground:=Go.Ground.chain}],guard:=none}) rfl (fun K hK=>?_) ?_
        ·go_simp
         (go_at_call 51;have hS:=hHeld.1;have hnc:=Below.size hS;have hgc:=block_lt hZ;((with_reducible refine Calls.mono (CALL.out _ hS) ?_);rintro e wn ⟨x,a2,n2,cap2,ok,rfl,hbn,hans⟩;have HANS:=Lib.hid hans;have hhn:=kept_call hS hbn;have hZ:=keep_block hbn (block_lt hZ) hZ;obtain⟨⟨g0,g1,g2,g3,g4⟩,v0,v1,v2,v3,v4⟩:=And.intro (five_cells hZ) (five_free hZ);clear hans hbn hS))
         refine hK.out _ _ ?_ (fun hHeld=>?_)
         ·(try dsimp only)
          (((with_reducible refine put_and ?_ HTC.out HUC.out HXC.out);repeat (first | with_reducible assumption | with_reducible exact hk0 | with_reducible refine kept_drew ?_ | with_reducible refine kept_alloc ?_ _ | ((with_reducible refine kept_setP ?_ ?hh _);(case hh=>first | exact Nat.le_refl _ | exact hszp)))))
         clear hK K
         (try simp only [Act.put,List.setIfInBounds_toArray,List.set_cons_zero,List.set_cons_succ])
         refine wpAnyH_take (i:=19) (oi:={dst:=some 53,op:=Go.Op.move (Go.Operand.tmp 72),type:=69,pos := "ref.go:284",after:=#[{on:=18,ground:=Go.Ground.data}],guard:=none}) (v:=?_) rfl (by kernel_rfl) (by kernel_rfl) (by kernel_rfl) (fun _ _ _ h=>h) (Or.inl ⟨by rfl,?_⟩) (by assumption) ?_
         rotate_left 1
         ·((intro w hSw;(try dsimp only at hSw);go_simp)<;>with_reducible rfl)
         (try simp only [Act.put,List.setIfInBounds_toArray,List.set_cons_zero,List.set_cons_succ])
         refine wpAnyH_take (i:=20) (oi:={dst:=some 73,op:=Go.Op.extract (Go.Operand.tmp 53) 0,type:=24,pos := "ref.go:284",after:=#[{on:=19,ground:=Go.Ground.data}],guard:=none}) (v:=?_) rfl (by kernel_rfl) (by kernel_rfl) (by kernel_rfl) (fun _ _ _ h=>h) (Or.inl ⟨by rfl,?_⟩) (by assumption) ?_
         rotate_left 1
         ·((intro w hSw;(try dsimp only at hSw);go_simp)<;>with_reducible rfl)
         (try simp only [Act.put,List.setIfInBounds_toArray,List.set_cons_zero,List.set_cons_succ])
         refine wpAnyH_take (i:=21) (oi:={dst:=some 74,op:=Go.Op.extract (Go.Operand.tmp 53) 1,type:=4,pos := "ref.go:284",after:=#[{on:=19,ground:=Go.Ground.data},{on:=23,ground:=Go.Ground.gcOnly Go.Departure.lateStores}],guard:=none}) (v:=?_) rfl (by kernel_rfl) (by kernel_rfl) (by kernel_rfl) (fun _ _ _ h=>h) (Or.inl ⟨by rfl,?_⟩) (by assumption) ?_
         rotate_left 1
         ·((intro w hSw;(try dsimp only at hSw);go_simp)<;>with_reducible rfl)
         (try simp only [Act.put,List.setIfInBounds_toArray,List.set_cons_zero,List.set_cons_succ])
         refine wpAnyH_ready (rs:=[23]) (by kernel_rfl) (by simp) ?_
         refine AllReadyH.cons (o:={dst:=none,op:=Go.Op.store 24 (Go.Operand.tmp 13) (Go.Operand.tmp 73),type:=0,pos := "ref.go:284",after:=#[{on:=22,ground:=Go.Ground.data},{on:=20,ground:=Go.Ground.data},{on:=18,ground:=Go.Ground.chain},{on:=0,ground:=Go.Ground.phase},{on:=1,ground:=Go.Ground.phase},{on:=2,ground:=Go.Ground.phase},{on:=3,ground:=Go.Ground.phase},{on:=4,ground:=Go.Ground.phase},{on:=5,ground:=Go.Ground.phase},{on:=6,ground:=Go.Ground.phase},{on:=7,ground:=Go.Ground.phase},{on:=8,ground:=Go.Ground.phase},{on:=9,ground:=Go.Ground.phase},{on:=10,ground:=Go.Ground.phase},{on:=11,ground:=Go.Ground.phase},{on:=12,ground:=Go.Ground.phase},{on:=13,ground:=Go.Ground.phase},{on:=14,ground:=Go.Ground.phase},{on:=15,ground:=Go.Ground.phase},{on:=16,ground:=Go.Ground.phase},{on:=17,ground:=Go.Ground.phase},{on:=18,ground:=Go.Ground.phase},{on:=19,ground:=Go.Ground.phase},{on:=20,ground:=Go.Ground.phase},{on:=21,ground:=Go.Ground.textOnly Go.Departure.lateStores},{on:=22,ground:=Go.Ground.phase}],guard:=none}) rfl (fun K hK=>?_) ?_
         ·go_simp
          refine hK.out _ _ ?_ (fun hHeld=>?_)
          ·(try dsimp only)
           (((with_reducible refine put_and ?_ HTC.out HUC.out HXC.out);repeat (first | with_reducible assumption | with_reducible exact hk0 | with_reducible refine kept_drew ?_ | with_reducible refine kept_alloc ?_ _ | ((with_reducible refine kept_setP ?_ ?hh _);(case hh=>first | exact Nat.le_refl _ | exact hszp)))))
          clear hK K
          (try simp only [Act.put,List.setIfInBounds_toArray,List.set_cons_zero,List.set_cons_succ])
          refine wpAnyH_take (i:=24) (oi:={dst:=some 14,op:=Go.Op.assign (Go.Operand.tmp 74),type:=4,pos := "ref.go:284",after:=#[{on:=21,ground:=Go.Ground.data},{on:=23,ground:=Go.Ground.chain},{on:=0,ground:=Go.Ground.phase},{on:=1,ground:=Go.Ground.phase},{on:=2,ground:=Go.Ground.phase},{on:=3,ground:=Go.Ground.phase},{on:=4,ground:=Go.Ground.phase},{on:=5,ground:=Go.Ground.phase},{on:=6,ground:=Go.Ground.phase},{on:=7,ground:=Go.Ground.phase},{on:=8,ground:=Go.Ground.phase},{on:=9,ground:=Go.Ground.phase},{on:=10,ground:=Go.Ground.phase},{on:=11,ground:=Go.Ground.phase},{on:=12,ground:=Go.Ground.phase},{on:=13,ground:=Go.Ground.phase},{on:=14,ground:=Go.Ground.phase},{on:=15,ground:=Go.Ground.phase},{on:=16,ground:=Go.Ground.phase},{on:=17,ground:=Go.Ground.phase},{on:=18,ground:=Go.Ground.phase},{on:=19,ground:=Go.Ground.phase},{on:=20,ground:=Go.Ground.phase},{on:=21,ground:=Go.Ground.phase},{on:=22,ground:=Go.Ground.phase},{on:=23,ground:=Go.Ground.phase}],guard:=none}) (v:=?_) rfl (by kernel_rfl) (by kernel_rfl) (by kernel_rfl) (fun _ _ _ h=>h) (Or.inl ⟨by rfl,?_⟩) (by assumption) ?_
          rotate_left 1
          ·((intro w hSw;(try dsimp only at hSw);go_simp)<;>with_reducible rfl)
          (try simp only [Act.put,List.setIfInBounds_toArray,List.set_cons_zero,List.set_cons_succ])
          refine wpAnyH_done (by kernel_rfl) ?_ _
          have hHold:=True.intro
          clear hHold
          rcases HANS.out with ⟨rfl,hr,rfl,hl2⟩ | ⟨rfl,hr⟩
          ·have HKW:=Lib.hid hHeld.1
           have hN:(((((wn.setCell ⟨wr.heap.size,0,none⟩ (.int .i64 x.k)).setCell ⟨wr.heap.size,1,none⟩ (.int .i64 x.i)).setCell ⟨wr.heap.size,2,none⟩ (.int .i64 x.j)).setCell ⟨wr.heap.size,3,none⟩ (.int .i64 x.n)).setCell ⟨wr.heap.size,4,none⟩ (.slice a2 x.kids.length cap2)).heap[wr.heap.size]? =some (boxOf x (.slice a2 x.kids.length cap2)):=five_set hZ
           have hLW:LiesP (((((wn.setCell ⟨wr.heap.size,0,none⟩ (.int .i64 x.k)).setCell ⟨wr.heap.size,1,none⟩ (.int .i64 x.i)).setCell ⟨wr.heap.size,2,none⟩ (.int .i64 x.j)).setCell ⟨wr.heap.size,3,none⟩ (.int .i64 x.n)).setCell ⟨wr.heap.size,4,none⟩ (.slice a2 x.kids.length cap2)) (Own wr.heap.size (((((wn.setCell ⟨wr.heap.size,0,none⟩ (.int .i64 x.k)).setCell ⟨wr.heap.size,1,none⟩ (.int .i64 x.i)).setCell ⟨wr.heap.size,2,none⟩ (.int .i64 x.j)).setCell ⟨wr.heap.size,3,none⟩ (.int .i64 x.n)).setCell ⟨wr.heap.size,4,none⟩ (.slice a2 x.kids.length cap2))) x.kids (.slice a2 x.kids.length cap2):=liesP_fives hl2 hgc hnc _ _ _ _ _
           generalize ((((wn.setCell ⟨wr.heap.size,0,none⟩ (.int .i64 x.k)).setCell ⟨wr.heap.size,1,none⟩ (.int .i64 x.i)).setCell ⟨wr.heap.size,2,none⟩ (.int .i64 x.j)).setCell ⟨wr.heap.size,3,none⟩ (.int .i64 x.n)).setCell ⟨wr.heap.size,4,none⟩ (.slice a2 x.kids.length cap2)=W at HKW hN hLW ⊢
           have HFX:=Lib.hid (putG_fine (gPut_fine HUR.out) (HRK.out _ HM.out) (by omega) hr)
           have HRS:=Lib.hid hr
           obtain⟨p0,p1,p2,p3,p4⟩:=five_cells hN
           have HLW:=Lib.hid hLW
           clear hN hLW hr
           go_wp2_with (at_builtin;refine wpList_append_lies _ rfl _ _ 22 rfl (w.heap.size+3) 24 i0 _ 5 56 (by kernel_rfl) HI.out.1 HI.out.2.1 HI.out.2.2.1 HI.out.2.2.2 rfl (by decide) _ ps.length (cells5 ps) rfl (made_later (made_later HMD.out HKW.out) ((Below.refl _ _).alloc (Nat.le_refl _) _)).own ⟨W.heap.size,0,none⟩ 1 1 (cells5 [(x,.slice a2 x.kids.length cap2)]) rfl rfl ?news ?one (by decide) ?max ?bytes ?base _ rfl ?next)
           case news=>first | exact news_new _ _ _ _ | exact fun j u h=>h
           case one=>exact one5 _ _
           case max=>have:=HPL.out;unfold maxLen;omega
           case bytes=>have:=HPL.out;omega
           case base=>have:=Below.size HKW.out;simp;omega
           case next =>
            intro g3 cap3 w3 hown hgrow hat _
            have hpb:=push_once HDK.out HMD.out HFX.out HKW.out HLW.out _ hown hgrow (by simpa using hat)
            clear hown hgrow hat
            go_wp2_with fail
            go_roundw
            case rel=>exact⟨q+1,ps++[(x,.slice a2 x.kids.length cap2)],_,rfl,hlt,by go_num,by rw [Hid,optK_next hlt HPS.out HRS.out];simp,hpb.1,hpb.2⟩
            case measure=>simp [intOf];omega
          ·have HKW:=Lib.hid hHeld.1
           generalize ((((wn.setCell ⟨wr.heap.size,0,none⟩ (.int .i64 x.k)).setCell ⟨wr.heap.size,1,none⟩ (.int .i64 x.i)).setCell ⟨wr.heap.size,2,none⟩ (.int .i64 x.j)).setCell ⟨wr.heap.size,3,none⟩ (.int .i64 x.n)).setCell ⟨wr.heap.size,4,none⟩ (.slice a2 n2 cap2)=W at HKW ⊢
           have hdW:=desk_trans HDK.out (below_from HKW.out hsz)
           obtain⟨-,q1,-⟩:=desk_blocks hdW
           obtain⟨z0,z1,z2,z3,z4⟩:=five_cells q1
           obtain⟨f0,f1,f2,f3,f4⟩:=five_free q1
           go_wp2
           (try simp only [Exit.inBlock,Exit.then])
           refine bodyPost_ret (results_cell_tmp rfl _ _ (w.heap.size+1) _ _ _ du rfl (five_set q1) hu1 (by cases du<;>first | rfl | exact hu2) size_term) rfl ?_
           exact⟨Tm.zero,none,0,0,false,rfl,HBP.out.trans ((below_five (desk_under hdW) (by omega) _ _ _ _ _).mono HBP.out.size),Or.inr ⟨rfl,by rw [HEQ.out,optK_stop hlt hr];rfl⟩⟩
         exact AllReadyH.nil
        exact AllReadyH.nil
       exact AllReadyH.nil
      refine AllReadyH.cons (o:={dst:=some 13,op:=Go.Op.alloc 24,type:=0,pos := "ref.go:284",after:=#[],guard:=none}) rfl (fun K hK=>?_) ?_
      ·go_simp
       refine hK.out _ _ ?_ (fun hHeld=>?_)
       ·(try dsimp only)
        (((with_reducible refine put_and ?_ HTC.out HUC.out HXC.out);repeat (first | with_reducible assumption | with_reducible exact hk0 | with_reducible refine kept_drew ?_ | with_reducible refine kept_alloc ?_ _ | ((with_reducible refine kept_setP ?_ ?hh _);(case hh=>first | exact Nat.le_refl _ | exact hszp)))))
       clear hK K
       (try simp only [Act.put,List.setIfInBounds_toArray,List.set_cons_zero,List.set_cons_succ])
       have hZ:(wr.drew.alloc zeroObj).heap[wr.heap.size]? =some zeroObj:=alloc_new _ _
       refine wpAnyH_ready (rs:=[10]) (by kernel_rfl) (by simp) ?_
       refine AllReadyH.cons (o:={dst:=some 64,op:=Go.Op.call {callee:=Go.Callee.value (Go.Operand.func 63),args:=#[Go.Operand.tmp 62,Go.Operand.tmp 63],argTypes:=#[3,3] },type:=3,pos := "ref.go:284",after:=#[{on:=8,ground:=Go.Ground.data},{on:=9,ground:=Go.Ground.data}],guard:=none}) rfl (fun K hK=>?_) ?_
       ·go_simp
        (go_at_call 63;refine(refbinds_any _ _ _).mono ?_;rintro e w' ⟨rfl,rfl⟩)
        refine hK.out _ _ ?_ (fun hHeld=>?_)
        ·(try dsimp only)
         (((with_reducible refine put_and ?_ HTC.out HUC.out HXC.out);repeat (first | with_reducible assumption | with_reducible exact hk0 | with_reducible refine kept_drew ?_ | with_reducible refine kept_alloc ?_ _ | ((with_reducible refine kept_setP ?_ ?hh _);(case hh=>first | exact Nat.le_refl _ | exact hszp)))))
        clear hK K
        (try simp only [Act.put,List.setIfInBounds_toArray,List.set_cons_zero,List.set_cons_succ])
        refine wpAnyH_take (i:=11) (oi:={dst:=some 65,op:=Go.Op.binOp Go.BinOp.add 3 (Go.Operand.tmp 60) (Go.Operand.tmp 64) 3,type:=3,pos := "ref.go:284",after:=#[{on:=6,ground:=Go.Ground.data},{on:=10,ground:=Go.Ground.data}],guard:=none}) (v:=?_) rfl (by kernel_rfl) (by kernel_rfl) (by kernel_rfl) (fun _ _ _ h=>h) (Or.inl ⟨by rfl,?_⟩) (by assumption) ?_
        rotate_left 1
        ·((intro w hSw;(try dsimp only at hSw);go_simp)<;>with_reducible rfl)
        (try simp only [Act.put,List.setIfInBounds_toArray,List.set_cons_zero,List.set_cons_succ])
        refine wpAnyH_take (i:=13) (oi:={dst:=some 67,op:=Go.Op.move (Go.Operand.tmp 66),type:=4,pos := "ref.go:284",after:=#[{on:=12,ground:=Go.Ground.data},{on:=10,ground:=Go.Ground.chain}],guard:=none}) (v:=?_) rfl (by kernel_rfl) (by kernel_rfl) (by kernel_rfl) (fun _ _ _ h=>h) (Or.inl ⟨by rfl,?_⟩) (by assumption) ?_
        rotate_left 1
        ·((intro w hSw;(try dsimp only at hSw);go_simp)<;>with_reducible rfl)
        (try simp only [Act.put,List.setIfInBounds_toArray,List.set_cons_zero,List.set_cons_succ])
        refine wpAnyH_take (i:=14) (oi:={dst:=some 68,op:=Go.Op.load 24 (Go.Operand.tmp 4),type:=24,pos := "ref.go:284",after:=#[{on:=13,ground:=Go.Ground.guard}],guard:=some (13,false) }) (v:=undef) rfl (by kernel_rfl) (by kernel_rfl) (by kernel_rfl) (fun _ _ _ h=>h) (Or.inr ⟨by rfl,rfl⟩) (by assumption) ?_
        (try simp only [Act.put,List.setIfInBounds_toArray,List.set_cons_zero,List.set_cons_succ])
        refine wpAnyH_take (i:=15) (oi:={dst:=some 69,op:=Go.Op.move (Go.Operand.tmp 12),type:=3,pos := "ref.go:284",after:=#[{on:=13,ground:=Go.Ground.guard}],guard:=some (13,false) }) (v:=undef) rfl (by kernel_rfl) (by kernel_rfl) (by kernel_rfl) (fun _ _ _ h=>h) (Or.inr ⟨by rfl,rfl⟩) (by assumption) ?_
        (try simp only [Act.put,List.setIfInBounds_toArray,List.set_cons_zero,List.set_cons_succ])
        refine wpAnyH_take (i:=16) (oi:={dst:=some 70,op:=Go.Op.call {callee:=Go.Callee.value (Go.Operand.func 64),args:=#[Go.Operand.tmp 68,Go.Operand.tmp 69],argTypes:=#[24,3] },type:=4,pos := "ref.go:284",after:=#[{on:=14,ground:=Go.Ground.data},{on:=15,ground:=Go.Ground.data},{on:=13,ground:=Go.Ground.chain},{on:=13,ground:=Go.Ground.guard}],guard:=some (13,false) }) (v:=undef) rfl (by kernel_rfl) (by kernel_rfl) (by kernel_rfl) (fun _ _ _ h=>h) (Or.inr ⟨by rfl,rfl⟩) (by assumption) ?_
        (try simp only [Act.put,List.setIfInBounds_toArray,List.set_cons_zero,List.set_cons_succ])
        refine wpAnyH_take (i:=17) (oi:={dst:=some 71,op:=Go.Op.pick (Go.Operand.tmp 67) (Go.Operand.const (Go.Value.bool true)) (Go.Operand.tmp 70),type:=4,pos := "ref.go:284",after:=#[{on:=13,ground:=Go.Ground.data},{on:=16,ground:=Go.Ground.data}],guard:=none}) (v:=?_) rfl (by kernel_rfl) (by kernel_rfl) (by kernel_rfl) (fun _ _ _ h=>h) (Or.inl ⟨by rfl,?_⟩) (by assumption) ?_
        rotate_left 1
        ·((intro w hSw;(try dsimp only at hSw);go_simp)<;>with_reducible rfl)
        (try simp only [Act.put,List.setIfInBounds_toArray,List.set_cons_zero,List.set_cons_succ])
        refine wpAnyH_ready (rs:=[18]) (by kernel_rfl) (by simp) ?_
        refine AllReadyH.cons (o:={dst:=some 72,op:=Go.Op.call {callee:=Go.Callee.value (Go.Operand.func 51),args:=#[Go.Operand.tmp 58,Go.Operand.tmp 59,Go.Operand.tmp 65,Go.Operand.tmp 71],argTypes:=#[24,24,3,4] },type:=69,pos := "ref.go:284",after:=#[{on:=4,ground:=Go.Ground.data},{on:=5,ground:=Go.Ground.data},{on:=11,ground:=Go.Ground.data},{on:=17,ground:=Go.Ground.data},{on:=16,ground:=Go.Ground.chain}],guard:=none}) rfl (fun K hK=>?_) ?_
        ·go_simp
         (go_at_call 51;have hS:=hHeld.1;have hnc:=Below.size hS;have hgc:=block_lt hZ;((with_reducible refine Calls.mono (CALL.out _ hS) ?_);rintro e wn ⟨x,a2,n2,cap2,ok,rfl,hbn,hans⟩;have HANS:=Lib.hid hans;have hhn:=kept_call hS hbn;have hZ:=keep_block hbn (block_lt hZ) hZ;obtain⟨⟨g0,g1,g2,g3,g4⟩,v0,v1,v2,v3,v4⟩:=And.intro (five_cells hZ) (five_free hZ);clear hans hbn hS))
         refine hK.out _ _ ?_ (fun hHeld=>?_)
         ·(try dsimp only)
          (((with_reducible refine put_and ?_ HTC.out HUC.out HXC.out);repeat (first | with_reducible assumption | with_reducible exact hk0 | with_reducible refine kept_drew ?_ | with_reducible refine kept_alloc ?_ _ | ((with_reducible refine kept_setP ?_ ?hh _);(case hh=>first | exact Nat.le_refl _ | exact hszp)))))
         clear hK K
         (try simp only [Act.put,List.setIfInBounds_toArray,List.set_cons_zero,List.set_cons_succ])
         refine wpAnyH_take (i:=19) (oi:={dst:=some 53,op:=Go.Op.move (Go.Operand.tmp 72),type:=69,pos := "ref.go:284",after:=#[{on:=18,ground:=Go.Ground.data}],guard:=none}) (v:=?_) rfl (by kernel_rfl) (by kernel_rfl) (by kernel_rfl) (fun _ _ _ h=>h) (Or.inl ⟨by rfl,?_⟩) (by assumption) ?_
         rotate_left 1
         ·((intro w hSw;(try dsimp only at hSw);go_simp)<;>with_reducible rfl)
         (try simp only [Act.put,List.setIfInBounds_toArray,List.set_cons_zero,List.set_cons_succ])
         refine wpAnyH_take (i:=20) (oi:={dst:=some 73,op:=Go.Op.extract (Go.Operand.tmp 53) 0,type:=24,pos := "ref.go:284",after:=#[{on:=19,ground:=Go.Ground.data}],guard:=none}) (v:=?_) rfl (by kernel_rfl) (by kernel_rfl) (by kernel_rfl) (fun _ _ _ h=>h) (Or.inl ⟨by rfl,?_⟩) (by assumption) ?_
         rotate_left 1
         ·((intro w hSw;(try dsimp only at hSw);go_simp)<;>with_reducible rfl)
         (try simp only [Act.put,List.setIfInBounds_toArray,List.set_cons_zero,List.set_cons_succ])
         refine wpAnyH_take (i:=21) (oi:={dst:=some 74,op:=Go.Op.extract (Go.Operand.tmp 53) 1,type:=4,pos := "ref.go:284",after:=#[{on:=19,ground:=Go.Ground.data},{on:=23,ground:=Go.Ground.gcOnly Go.Departure.lateStores}],guard:=none}) (v:=?_) rfl (by kernel_rfl) (by kernel_rfl) (by kernel_rfl) (fun _ _ _ h=>h) (Or.inl ⟨by rfl,?_⟩) (by assumption) ?_
         rotate_left 1
         ·((intro w hSw;(try dsimp only at hSw);go_simp)<;>with_reducible rfl)
         (try simp only [Act.put,List.setIfInBounds_toArray,List.set_cons_zero,List.set_cons_succ])
         refine wpAnyH_ready (rs:=[23]) (by kernel_rfl) (by simp) ?_
         refine AllReadyH.cons (o:={dst:=none,op:=Go.Op.store 24 (Go.Operand.tmp 13) (Go.Operand.tmp 73),type:=0,pos := "ref.go:284",after:=#[{on:=22,ground:=Go.Ground.data},{on:=20,ground:=Go.Ground.data},{on:=18,ground:=Go.Ground.chain},{on:=0,ground:=Go.Ground.phase},{on:=1,ground:=Go.Ground.phase},{on:=2,ground:=Go.Ground.phase},{on:=3,ground:=Go.Ground.phase},{on:=4,ground:=Go.Ground.phase},{on:=5,ground:=Go.Ground.phase},{on:=6,ground:=Go.Ground.phase},{on:=7,ground:=Go.Ground.phase},{on:=8,ground:=Go.Ground.phase},{on:=9,ground:=Go.Ground.phase},{on:=10,ground:=Go.Ground.phase},{on:=11,ground:=Go.Ground.phase},{on:=12,ground:=Go.Ground.phase},{on:=13,ground:=Go.Ground.phase},{on:=14,ground:=Go.Ground.phase},{on:=15,ground:=Go.Ground.phase},{on:=16,ground:=Go.Ground.phase},{on:=17,ground:=Go.Ground.phase},{on:=18,ground:=Go.Ground.phase},{on:=19,ground:=Go.Ground.phase},{on:=20,ground:=Go.Ground.phase},{on:=21,ground:=Go.Ground.textOnly Go.Departure.lateStores},{on:=22,ground:=Go.Ground.phase}],guard:=none}) rfl (fun K hK=>?_) ?_
         ·go_simp
          refine hK.out _ _ ?_ (fun hHeld=>?_)
          ·(try dsimp only)
           (((with_reducible refine put_and ?_ HTC.out HUC.out HXC.out);repeat (first | with_reducible assumption | with_reducible exact hk0 | with_reducible refine kept_drew ?_ | with_reducible refine kept_alloc ?_ _ | ((with_reducible refine kept_setP ?_ ?hh _);(case hh=>first | exact Nat.le_refl _ | exact hszp)))))
          clear hK K
          (try simp only [Act.put,List.setIfInBounds_toArray,List.set_cons_zero,List.set_cons_succ])
          refine wpAnyH_take (i:=24) (oi:={dst:=some 14,op:=Go.Op.assign (Go.Operand.tmp 74),type:=4,pos := "ref.go:284",after:=#[{on:=21,ground:=Go.Ground.data},{on:=23,ground:=Go.Ground.chain},{on:=0,ground:=Go.Ground.phase},{on:=1,ground:=Go.Ground.phase},{on:=2,ground:=Go.Ground.phase},{on:=3,ground:=Go.Ground.phase},{on:=4,ground:=Go.Ground.phase},{on:=5,ground:=Go.Ground.phase},{on:=6,ground:=Go.Ground.phase},{on:=7,ground:=Go.Ground.phase},{on:=8,ground:=Go.Ground.phase},{on:=9,ground:=Go.Ground.phase},{on:=10,ground:=Go.Ground.phase},{on:=11,ground:=Go.Ground.phase},{on:=12,ground:=Go.Ground.phase},{on:=13,ground:=Go.Ground.phase},{on:=14,ground:=Go.Ground.phase},{on:=15,ground:=Go.Ground.phase},{on:=16,ground:=Go.Ground.phase},{on:=17,ground:=Go.Ground.phase},{on:=18,ground:=Go.Ground.phase},{on:=19,ground:=Go.Ground.phase},{on:=20,ground:=Go.Ground.phase},{on:=21,ground:=Go.Ground.phase},{on:=22,ground:=Go.Ground.phase},{on:=23,ground:=Go.Ground.phase}],guard:=none}) (v:=?_) rfl (by kernel_rfl) (by kernel_rfl) (by kernel_rfl) (fun _ _ _ h=>h) (Or.inl ⟨by rfl,?_⟩) (by assumption) ?_
          rotate_left 1
          ·((intro w hSw;(try dsimp only at hSw);go_simp)<;>with_reducible rfl)
          (try simp only [Act.put,List.setIfInBounds_toArray,List.set_cons_zero,List.set_cons_succ])
          refine wpAnyH_done (by kernel_rfl) ?_ _
          have hHold:=True.intro
          clear hHold
          rcases HANS.out with ⟨rfl,hr,rfl,hl2⟩ | ⟨rfl,hr⟩
          ·have HKW:=Lib.hid hHeld.1
           have hN:(((((wn.setCell ⟨wr.heap.size,0,none⟩ (.int .i64 x.k)).setCell ⟨wr.heap.size,1,none⟩ (.int .i64 x.i)).setCell ⟨wr.heap.size,2,none⟩ (.int .i64 x.j)).setCell ⟨wr.heap.size,3,none⟩ (.int .i64 x.n)).setCell ⟨wr.heap.size,4,none⟩ (.slice a2 x.kids.length cap2)).heap[wr.heap.size]? =some (boxOf x (.slice a2 x.kids.length cap2)):=five_set hZ
           have hLW:LiesP (((((wn.setCell ⟨wr.heap.size,0,none⟩ (.int .i64 x.k)).setCell ⟨wr.heap.size,1,none⟩ (.int .i64 x.i)).setCell ⟨wr.heap.size,2,none⟩ (.int .i64 x.j)).setCell ⟨wr.heap.size,3,none⟩ (.int .i64 x.n)).setCell ⟨wr.heap.size,4,none⟩ (.slice a2 x.kids.length cap2)) (Own wr.heap.size (((((wn.setCell ⟨wr.heap.size,0,none⟩ (.int .i64 x.k)).setCell ⟨wr.heap.size,1,none⟩ (.int .i64 x.i)).setCell ⟨wr.heap.size,2,none⟩ (.int .i64 x.j)).setCell ⟨wr.heap.size,3,none⟩ (.int .i64 x.n)).setCell ⟨wr.heap.size,4,none⟩ (.slice a2 x.kids.length cap2))) x.kids (.slice a2 x.kids.length cap2):=liesP_fives hl2 hgc hnc _ _ _ _ _
           generalize ((((wn.setCell ⟨wr.heap.size,0,none⟩ (.int .i64 x.k)).setCell ⟨wr.heap.size,1,none⟩ (.int .i64 x.i)).setCell ⟨wr.heap.size,2,none⟩ (.int .i64 x.j)).setCell ⟨wr.heap.size,3,none⟩ (.int .i64 x.n)).setCell ⟨wr.heap.size,4,none⟩ (.slice a2 x.kids.length cap2)=W at HKW hN hLW ⊢
           have HFX:=Lib.hid (putG_fine (gPut_fine HUR.out) (HRK.out _ HM.out) (by omega) hr)
           have HRS:=Lib.hid hr
           obtain⟨p0,p1,p2,p3,p4⟩:=five_cells hN
           have HLW:=Lib.hid hLW
           clear hN hLW hr
           go_wp2_with (at_builtin;refine wpList_append_lies _ rfl _ _ 22 rfl (w.heap.size+3) 24 i0 _ 5 56 (by kernel_rfl) HI.out.1 HI.out.2.1 HI.out.2.2.1 HI.out.2.2.2 rfl (by decide) _ ps.length (cells5 ps) rfl (made_later (made_later HMD.out HKW.out) ((Below.refl _ _).alloc (Nat.le_refl _) _)).own ⟨W.heap.size,0,none⟩ 1 1 (cells5 [(x,.slice a2 x.kids.length cap2)]) rfl rfl ?news ?one (by decide) ?max ?bytes ?base _ rfl ?next)
           case news=>first | exact news_new _ _ _ _ | exact fun j u h=>h
           case one=>exact one5 _ _
           case max=>have:=HPL.out;unfold maxLen;omega
           case bytes=>have:=HPL.out;omega
           case base=>have:=Below.size HKW.out;simp;omega
           case next =>
            intro g3 cap3 w3 hown hgrow hat _
            have hpb:=push_once HDK.out HMD.out HFX.out HKW.out HLW.out _ hown hgrow (by simpa using hat)
            clear hown hgrow hat
            go_wp2_with fail
            go_roundw
            case rel=>exact⟨q+1,ps++[(x,.slice a2 x.kids.length cap2)],_,rfl,hlt,by go_num,by rw [Hid,optK_next hlt HPS.out HRS.out];simp,hpb.1,hpb.2⟩
            case measure=>simp [intOf];omega
          ·have HKW:=Lib.hid hHeld.1
           generalize ((((wn.setCell ⟨wr.heap.size,0,none⟩ (.int .i64 x.k)).setCell ⟨wr.heap.size,1,none⟩ (.int .i64 x.i)).setCell ⟨wr.heap.size,2,none⟩ (.int .i64 x.j)).setCell ⟨wr.heap.size,3,none⟩ (.int .i64 x.n)).setCell ⟨wr.heap.size,4,none⟩ (.slice a2 n2 cap2)=W at HKW ⊢
           have hdW:=desk_trans HDK.out (below_from HKW.out hsz)
           obtain⟨-,q1,-⟩:=desk_blocks hdW
           obtain⟨z0,z1,z2,z3,z4⟩:=five_cells q1
           obtain⟨f0,f1,f2,f3,f4⟩:=five_free q1
           go_wp2
           (try simp only [Exit.inBlock,Exit.then])
           refine bodyPost_ret (results_cell_tmp rfl _ _ (w.heap.size+1) _ _ _ du rfl (five_set q1) hu1 (by cases du<;>first | rfl | exact hu2) size_term) rfl ?_
           exact⟨Tm.zero,none,0,0,false,rfl,HBP.out.trans ((below_five (desk_under hdW) (by omega) _ _ _ _ _).mono HBP.out.size),Or.inr ⟨rfl,by rw [HEQ.out,optK_stop hlt hr];rfl⟩⟩
         exact AllReadyH.nil
        exact AllReadyH.nil
       exact AllReadyH.nil
      exact AllReadyH.nil
     | false =>
      have CALL:=Lib.hid (fun w' (h:Kept wr w')=>CALL0.out w' h (plainlyB t q) (by rw [Bool.false_or]))
      clear CALL0
      go_wp2_with fail
      refine wp_region_held_drew (S:=fun w'=>Kept wr w'∧w'.cell? ⟨wi.heap.size,0,none⟩=some (.int .i64 t.k)∧w'.cell? ⟨wi.heap.size,1,none⟩=some (.int .i64 t.i)∧w'.cell? ⟨wi.heap.size,2,none⟩=some (.int .i64 t.j)∧w'.cell? ⟨wi.heap.size,3,none⟩=some (.int .i64 t.n)∧w'.cell? ⟨wi.heap.size,4,none⟩=some (.slice (some ⟨b',o,none⟩) t.kids.length cap)∧w'.cell? ⟨w.heap.size,0,none⟩=some (.int .i64 u.k)∧w'.cell? ⟨w.heap.size,1,none⟩=some (.int .i64 u.i)∧w'.cell? ⟨w.heap.size,2,none⟩=some (.int .i64 u.j)∧w'.cell? ⟨w.heap.size,3,none⟩=some (.int .i64 u.n)∧w'.cell? ⟨w.heap.size,4,none⟩=some (.slice au u.kids.length capu)∧w'.cell? ⟨b',o+q * 5,none⟩=some (.int .i64 t.kids[q].k)∧w'.cell? ⟨b',o+q * 5+1,none⟩=some (.int .i64 t.kids[q].i)∧w'.cell? ⟨b',o+q * 5+2,none⟩=some (.int .i64 t.kids[q].j)∧w'.cell? ⟨b',o+q * 5+3,none⟩=some (.int .i64 t.kids[q].n)∧w'.cell? ⟨b',o+q * 5+4,none⟩=some (.slice a' t.kids[q].kids.length cap')) (by kernel_rfl) ?_ (fun hHeld=>?_)
      ·(try dsimp only)
       (((with_reducible refine put_and ?_ HTC.out HUC.out HXC.out);repeat (first | with_reducible assumption | with_reducible exact hk0 | with_reducible refine kept_drew ?_ | with_reducible refine kept_alloc ?_ _ | ((with_reducible refine kept_setP ?_ ?hh _);(case hh=>first | exact Nat.le_refl _ | exact hszp)))))
      refine wpAnyH_take (i:=0) (oi:={dst:=some 54,op:=Go.Op.fieldAddr 24 (Go.Operand.tmp 4) 4,type:=0,pos := "ref.go:284",after:=#[],guard:=none}) (v:=?_) rfl (by kernel_rfl) (by kernel_rfl) (by kernel_rfl) (fun _ _ _ h=>h) (Or.inl ⟨by rfl,?_⟩) (by assumption) ?_
      rotate_left 1
      ·((intro w hSw;(try dsimp only at hSw);go_simp)<;>with_reducible rfl)
      (try simp only [Act.put,List.setIfInBounds_toArray,List.set_cons_zero,List.set_cons_succ])
      refine wpAnyH_take (i:=1) (oi:={dst:=some 55,op:=Go.Op.load 22 (Go.Operand.tmp 54),type:=22,pos := "ref.go:284",after:=#[{on:=0,ground:=Go.Ground.data}],guard:=none}) (v:=?_) rfl (by kernel_rfl) (by kernel_rfl) (by kernel_rfl) (fun _ _ _ h=>h) (Or.inl ⟨by rfl,?_⟩) (by assumption) ?_
      rotate_left 1
      ·((intro w hSw;(try dsimp only at hSw);go_simp)<;>with_reducible rfl)
      (try simp only [Act.put,List.setIfInBounds_toArray,List.set_cons_zero,List.set_cons_succ])
      refine wpAnyH_take (i:=2) (oi:={dst:=some 56,op:=Go.Op.move (Go.Operand.tmp 12),type:=3,pos := "ref.go:284",after:=#[],guard:=none}) (v:=?_) rfl (by kernel_rfl) (by kernel_rfl) (by kernel_rfl) (fun _ _ _ h=>h) (Or.inl ⟨by rfl,?_⟩) (by assumption) ?_
      rotate_left 1
      ·((intro w hSw;(try dsimp only at hSw);go_simp)<;>with_reducible rfl)
      (try simp only [Act.put,List.setIfInBounds_toArray,List.set_cons_zero,List.set_cons_succ])
      refine wpAnyH_take (i:=3) (oi:={dst:=some 57,op:=Go.Op.indexAddr 22 (Go.Operand.tmp 55) (Go.Operand.tmp 56),type:=0,pos := "ref.go:284",after:=#[{on:=1,ground:=Go.Ground.data},{on:=2,ground:=Go.Ground.data}],guard:=none}) (v:=?_) rfl (by kernel_rfl) (by kernel_rfl) (by kernel_rfl) (fun _ _ _ h=>h) (Or.inl ⟨by rfl,?_⟩) (by assumption) ?_
      rotate_left 1
      ·((intro w hSw;(try dsimp only at hSw);go_simp)<;>with_reducible rfl)
      (try simp only [Act.put,List.setIfInBounds_toArray,List.set_cons_zero,List.set_cons_succ])
      refine wpAnyH_take (i:=4) (oi:={dst:=some 58,op:=Go.Op.load 24 (Go.Operand.tmp 57),type:=24,pos := "ref.go:284",after:=#[{on:=3,ground:=Go.Ground.data}],guard:=none}) (v:=?_) rfl (by kernel_rfl) (by kernel_rfl) (by kernel_rfl) (fun _ _ _ h=>h) (Or.inl ⟨by rfl,?_⟩) (by assumption) ?_
      rotate_left 1
      ·((intro w hSw;(try dsimp only at hSw);go_simp)<;>with_reducible rfl)
      (try simp only [Act.put,List.setIfInBounds_toArray,List.set_cons_zero,List.set_cons_succ])
      refine wpAnyH_take (i:=5) (oi:={dst:=some 59,op:=Go.Op.load 24 (Go.Operand.tmp 5),type:=24,pos := "ref.go:284",after:=#[],guard:=none}) (v:=?_) rfl (by kernel_rfl) (by kernel_rfl) (by kernel_rfl) (fun _ _ _ h=>h) (Or.inl ⟨by rfl,?_⟩) (by assumption) ?_
      rotate_left 1
      ·((intro w hSw;(try dsimp only at hSw);go_simp)<;>with_reducible rfl)
      (try simp only [Act.put,List.setIfInBounds_toArray,List.set_cons_zero,List.set_cons_succ])
      refine wpAnyH_take (i:=6) (oi:={dst:=some 60,op:=Go.Op.move (Go.Operand.tmp 2),type:=3,pos := "ref.go:284",after:=#[],guard:=none}) (v:=?_) rfl (by kernel_rfl) (by kernel_rfl) (by kernel_rfl) (fun _ _ _ h=>h) (Or.inl ⟨by rfl,?_⟩) (by assumption) ?_
      rotate_left 1
      ·((intro w hSw;(try dsimp only at hSw);go_simp)<;>with_reducible rfl)
      (try simp only [Act.put,List.setIfInBounds_toArray,List.set_cons_zero,List.set_cons_succ])
      refine wpAnyH_take (i:=7) (oi:={dst:=some 61,op:=Go.Op.fieldAddr 24 (Go.Operand.tmp 4) 0,type:=0,pos := "ref.go:284",after:=#[],guard:=none}) (v:=?_) rfl (by kernel_rfl) (by kernel_rfl) (by kernel_rfl) (fun _ _ _ h=>h) (Or.inl ⟨by rfl,?_⟩) (by assumption) ?_
      rotate_left 1
      ·((intro w hSw;(try dsimp only at hSw);go_simp)<;>with_reducible rfl)
      (try simp only [Act.put,List.setIfInBounds_toArray,List.set_cons_zero,List.set_cons_succ])
      refine wpAnyH_take (i:=8) (oi:={dst:=some 62,op:=Go.Op.load 3 (Go.Operand.tmp 61),type:=3,pos := "ref.go:284",after:=#[{on:=7,ground:=Go.Ground.data}],guard:=none}) (v:=?_) rfl (by kernel_rfl) (by kernel_rfl) (by kernel_rfl) (fun _ _ _ h=>h) (Or.inl ⟨by rfl,?_⟩) (by assumption) ?_
      rotate_left 1
      ·((intro w hSw;(try dsimp only at hSw);go_simp)<;>with_reducible rfl)
      (try simp only [Act.put,List.setIfInBounds_toArray,List.set_cons_zero,List.set_cons_succ])
      refine wpAnyH_take (i:=9) (oi:={dst:=some 63,op:=Go.Op.move (Go.Operand.tmp 12),type:=3,pos := "ref.go:284",after:=#[],guard:=none}) (v:=?_) rfl (by kernel_rfl) (by kernel_rfl) (by kernel_rfl) (fun _ _ _ h=>h) (Or.inl ⟨by rfl,?_⟩) (by assumption) ?_
      rotate_left 1
      ·((intro w hSw;(try dsimp only at hSw);go_simp)<;>with_reducible rfl)
      (try simp only [Act.put,List.setIfInBounds_toArray,List.set_cons_zero,List.set_cons_succ])
      refine wpAnyH_take (i:=12) (oi:={dst:=some 66,op:=Go.Op.move (Go.Operand.tmp 3),type:=4,pos := "ref.go:284",after:=#[],guard:=none}) (v:=?_) rfl (by kernel_rfl) (by kernel_rfl) (by kernel_rfl) (fun _ _ _ h=>h) (Or.inl ⟨by rfl,?_⟩) (by assumption) ?_
      rotate_left 1
      ·((intro w hSw;(try dsimp only at hSw);go_simp)<;>with_reducible rfl)
      (try simp only [Act.put,List.setIfInBounds_toArray,List.set_cons_zero,List.set_cons_succ])
      refine wpAnyH_ready (rs:=[10,22]) (by kernel_rfl) (by simp) ?_
      refine AllReadyH.cons (o:={dst:=some 64,op:=Go.Op.call {callee:=Go.Callee.value (Go.Operand.func 63),args:=#[Go.Operand.tmp 62,Go.Operand.tmp 63],argTypes:=#[3,3] },type:=3,pos := "ref.go:284",after:=#[{on:=8,ground:=Go.Ground.data},{on:=9,ground:=Go.Ground.data}],guard:=none}) rfl (fun K hK=>?_) ?_
      ·go_simp
       (go_at_call 63;refine(refbinds_any _ _ _).mono ?_;rintro e w' ⟨rfl,rfl⟩)
       refine hK.out _ _ ?_ (fun hHeld=>?_)
       ·(try dsimp only)
        (((with_reducible refine put_and ?_ HTC.out HUC.out HXC.out);repeat (first | with_reducible assumption | with_reducible exact hk0 | with_reducible refine kept_drew ?_ | with_reducible refine kept_alloc ?_ _ | ((with_reducible refine kept_setP ?_ ?hh _);(case hh=>first | exact Nat.le_refl _ | exact hszp)))))
       clear hK K
       (try simp only [Act.put,List.setIfInBounds_toArray,List.set_cons_zero,List.set_cons_succ])
       refine wpAnyH_take (i:=11) (oi:={dst:=some 65,op:=Go.Op.binOp Go.BinOp.add 3 (Go.Operand.tmp 60) (Go.Operand.tmp 64) 3,type:=3,pos := "ref.go:284",after:=#[{on:=6,ground:=Go.Ground.data},{on:=10,ground:=Go.Ground.data}],guard:=none}) (v:=?_) rfl (by kernel_rfl) (by kernel_rfl) (by kernel_rfl) (fun _ _ _ h=>h) (Or.inl ⟨by rfl,?_⟩) (by assumption) ?_
       rotate_left 1
       ·((intro w hSw;(try dsimp only at hSw);go_simp)<;>with_reducible rfl)
       (try simp only [Act.put,List.setIfInBounds_toArray,List.set_cons_zero,List.set_cons_succ])
       refine wpAnyH_take (i:=13) (oi:={dst:=some 67,op:=Go.Op.move (Go.Operand.tmp 66),type:=4,pos := "ref.go:284",after:=#[{on:=12,ground:=Go.Ground.data},{on:=10,ground:=Go.Ground.chain}],guard:=none}) (v:=?_) rfl (by kernel_rfl) (by kernel_rfl) (by kernel_rfl) (fun _ _ _ h=>h) (Or.inl ⟨by rfl,?_⟩) (by assumption) ?_
       rotate_left 1
       ·((intro w hSw;(try dsimp only at hSw);go_simp)<;>with_reducible rfl)
       (try simp only [Act.put,List.setIfInBounds_toArray,List.set_cons_zero,List.set_cons_succ])
       refine wpAnyH_take (i:=14) (oi:={dst:=some 68,op:=Go.Op.load 24 (Go.Operand.tmp 4),type:=24,pos := "ref.go:284",after:=#[{on:=13,ground:=Go.Ground.guard}],guard:=some (13,false) }) (v:=?_) rfl (by kernel_rfl) (by kernel_rfl) (by kernel_rfl) (fun _ _ _ h=>h) (Or.inl ⟨by rfl,?_⟩) (by assumption) ?_
       rotate_left 1
       ·((intro w hSw;(try dsimp only at hSw);go_simp)<;>with_reducible rfl)
       (try simp only [Act.put,List.setIfInBounds_toArray,List.set_cons_zero,List.set_cons_succ])
       refine wpAnyH_take (i:=15) (oi:={dst:=some 69,op:=Go.Op.move (Go.Operand.tmp 12),type:=3,pos := "ref.go:284",after:=#[{on:=13,ground:=Go.Ground.guard}],guard:=some (13,false) }) (v:=?_) rfl (by kernel_rfl) (by kernel_rfl) (by kernel_rfl) (fun _ _ _ h=>h) (Or.inl ⟨by rfl,?_⟩) (by assumption) ?_
       rotate_left 1
       ·((intro w hSw;(try dsimp only at hSw);go_simp)<;>with_reducible rfl)
       (try simp only [Act.put,List.setIfInBounds_toArray,List.set_cons_zero,List.set_cons_succ])
       refine wpAnyH_ready (rs:=[16,22]) (by kernel_rfl) (by simp) ?_
       refine AllReadyH.cons (o:={dst:=some 70,op:=Go.Op.call {callee:=Go.Callee.value (Go.Operand.func 64),args:=#[Go.Operand.tmp 68,Go.Operand.tmp 69],argTypes:=#[24,3] },type:=4,pos := "ref.go:284",after:=#[{on:=14,ground:=Go.Ground.data},{on:=15,ground:=Go.Ground.data},{on:=13,ground:=Go.Ground.chain},{on:=13,ground:=Go.Ground.guard}],guard:=some (13,false) }) rfl (fun K hK=>?_) ?_
       ·go_simp
        (go_at_call 64;have hS:=hHeld.1;refine(refplainly_any t q _ _ _ _).mono ?_;rintro e wp ⟨rfl,hbn⟩;have hhp:=kept_call hS hbn;have hszp:wr.heap.size≤wp.heap.size:=Below.size hhp;clear hbn hS)
        refine hK.out _ _ ?_ (fun hHeld=>?_)
        ·(try dsimp only)
         (((with_reducible refine put_and ?_ HTC.out HUC.out HXC.out);repeat (first | with_reducible assumption | with_reducible exact hk0 | with_reducible refine kept_drew ?_ | with_reducible refine kept_alloc ?_ _ | ((with_reducible refine kept_setP ?_ ?hh _);(case hh=>first | exact Nat.le_refl _ | exact hszp)))))
        clear hK K
        (try simp only [Act.put,List.setIfInBounds_toArray,List.set_cons_zero,List.set_cons_succ])
        refine wpAnyH_take (i:=17) (oi:={dst:=some 71,op:=Go.Op.pick (Go.Operand.tmp 67) (Go.Operand.const (Go.Value.bool true)) (Go.Operand.tmp 70),type:=4,pos := "ref.go:284",after:=#[{on:=13,ground:=Go.Ground.data},{on:=16,ground:=Go.Ground.data}],guard:=none}) (v:=?_) rfl (by kernel_rfl) (by kernel_rfl) (by kernel_rfl) (fun _ _ _ h=>h) (Or.inl ⟨by rfl,?_⟩) (by assumption) ?_
        rotate_left 1
        ·((intro w hSw;(try dsimp only at hSw);go_simp)<;>with_reducible rfl)
        (try simp only [Act.put,List.setIfInBounds_toArray,List.set_cons_zero,List.set_cons_succ])
        refine wpAnyH_ready (rs:=[18,22]) (by kernel_rfl) (by simp) ?_
        refine AllReadyH.cons (o:={dst:=some 72,op:=Go.Op.call {callee:=Go.Callee.value (Go.Operand.func 51),args:=#[Go.Operand.tmp 58,Go.Operand.tmp 59,Go.Operand.tmp 65,Go.Operand.tmp 71],argTypes:=#[24,24,3,4] },type:=69,pos := "ref.go:284",after:=#[{on:=4,ground:=Go.Ground.data},{on:=5,ground:=Go.Ground.data},{on:=11,ground:=Go.Ground.data},{on:=17,ground:=Go.Ground.data},{on:=16,ground:=Go.Ground.chain}],guard:=none}) rfl (fun K hK=>?_) ?_
        ·go_simp
         (go_at_call 51;have hS:=hHeld.1;have hnc:=Below.size hS;((with_reducible refine Calls.mono (CALL.out _ hS) ?_);rintro e wn ⟨x,a2,n2,cap2,ok,rfl,hbn,hans⟩;have HANS:=Lib.hid hans;have hhn:=kept_call hS hbn;clear hans hbn hS))
         refine hK.out _ _ ?_ (fun hHeld=>?_)
         ·(try dsimp only)
          (((with_reducible refine put_and ?_ HTC.out HUC.out HXC.out);repeat (first | with_reducible assumption | with_reducible exact hk0 | with_reducible refine kept_drew ?_ | with_reducible refine kept_alloc ?_ _ | ((with_reducible refine kept_setP ?_ ?hh _);(case hh=>first | exact Nat.le_refl _ | exact hszp)))))
         clear hK K
         (try simp only [Act.put,List.setIfInBounds_toArray,List.set_cons_zero,List.set_cons_succ])
         refine wpAnyH_take (i:=19) (oi:={dst:=some 53,op:=Go.Op.move (Go.Operand.tmp 72),type:=69,pos := "ref.go:284",after:=#[{on:=18,ground:=Go.Ground.data}],guard:=none}) (v:=?_) rfl (by kernel_rfl) (by kernel_rfl) (by kernel_rfl) (fun _ _ _ h=>h) (Or.inl ⟨by rfl,?_⟩) (by assumption) ?_
         rotate_left 1
         ·((intro w hSw;(try dsimp only at hSw);go_simp)<;>with_reducible rfl)
         (try simp only [Act.put,List.setIfInBounds_toArray,List.set_cons_zero,List.set_cons_succ])
         refine wpAnyH_take (i:=20) (oi:={dst:=some 73,op:=Go.Op.extract (Go.Operand.tmp 53) 0,type:=24,pos := "ref.go:284",after:=#[{on:=19,ground:=Go.Ground.data}],guard:=none}) (v:=?_) rfl (by kernel_rfl) (by kernel_rfl) (by kernel_rfl) (fun _ _ _ h=>h) (Or.inl ⟨by rfl,?_⟩) (by assumption) ?_
         rotate_left 1
         ·((intro w hSw;(try dsimp only at hSw);go_simp)<;>with_reducible rfl)
         (try simp only [Act.put,List.setIfInBounds_toArray,List.set_cons_zero,List.set_cons_succ])
         refine wpAnyH_take (i:=21) (oi:={dst:=some 74,op:=Go.Op.extract (Go.Operand.tmp 53) 1,type:=4,pos := "ref.go:284",after:=#[{on:=19,ground:=Go.Ground.data},{on:=23,ground:=Go.Ground.gcOnly Go.Departure.lateStores}],guard:=none}) (v:=?_) rfl (by kernel_rfl) (by kernel_rfl) (by kernel_rfl) (fun _ _ _ h=>h) (Or.inl ⟨by rfl,?_⟩) (by assumption) ?_
         rotate_left 1
         ·((intro w hSw;(try dsimp only at hSw);go_simp)<;>with_reducible rfl)
         (try simp only [Act.put,List.setIfInBounds_toArray,List.set_cons_zero,List.set_cons_succ])
         refine wpAnyH_ready (rs:=[22]) (by kernel_rfl) (by simp) ?_
         refine AllReadyH.cons (o:={dst:=some 13,op:=Go.Op.alloc 24,type:=0,pos := "ref.go:284",after:=#[],guard:=none}) rfl (fun K hK=>?_) ?_
         ·go_simp
          refine hK.out _ _ ?_ (fun hHeld=>?_)
          ·(try dsimp only)
           (((with_reducible refine put_and ?_ HTC.out HUC.out HXC.out);repeat (first | with_reducible assumption | with_reducible exact hk0 | with_reducible refine kept_drew ?_ | with_reducible refine kept_alloc ?_ _ | ((with_reducible refine kept_setP ?_ ?hh _);(case hh=>first | exact Nat.le_refl _ | exact hszp)))))
          clear hK K
          (try simp only [Act.put,List.setIfInBounds_toArray,List.set_cons_zero,List.set_cons_succ])
          refine wpAnyH_ready (rs:=[23]) (by kernel_rfl) (by simp) ?_
          refine AllReadyH.cons (o:={dst:=none,op:=Go.Op.store 24 (Go.Operand.tmp 13) (Go.Operand.tmp 73),type:=0,pos := "ref.go:284",after:=#[{on:=22,ground:=Go.Ground.data},{on:=20,ground:=Go.Ground.data},{on:=18,ground:=Go.Ground.chain},{on:=0,ground:=Go.Ground.phase},{on:=1,ground:=Go.Ground.phase},{on:=2,ground:=Go.Ground.phase},{on:=3,ground:=Go.Ground.phase},{on:=4,ground:=Go.Ground.phase},{on:=5,ground:=Go.Ground.phase},{on:=6,ground:=Go.Ground.phase},{on:=7,ground:=Go.Ground.phase},{on:=8,ground:=Go.Ground.phase},{on:=9,ground:=Go.Ground.phase},{on:=10,ground:=Go.Ground.phase},{on:=11,ground:=Go.Ground.phase},{on:=12,ground:=Go.Ground.phase},{on:=13,ground:=Go.Ground.phase},{on:=14,ground:=Go.Ground.phase},{on:=15,ground:=Go.Ground.phase},{on:=16,ground:=Go.Ground.phase},{on:=17,ground:=Go.Ground.phase},{on:=18,ground:=Go.Ground.phase},{on:=19,ground:=Go.Ground.phase},{on:=20,ground:=Go.Ground.phase},{on:=21,ground:=Go.Ground.textOnly Go.Departure.lateStores},{on:=22,ground:=Go.Ground.phase}],guard:=none}) rfl (fun K hK=>?_) ?_
          ·go_simp
           refine hK.out _ _ ?_ (fun hHeld=>?_)
           ·(try dsimp only)
            (((with_reducible refine put_and ?_ HTC.out HUC.out HXC.out);repeat (first | with_reducible assumption | with_reducible exact hk0 | with_reducible refine kept_drew ?_ | with_reducible refine kept_alloc ?_ _ | ((with_reducible refine kept_setP ?_ ?hh _);(case hh=>first | exact Nat.le_refl _ | exact hszp)))))
           clear hK K
           (try simp only [Act.put,List.setIfInBounds_toArray,List.set_cons_zero,List.set_cons_succ])
           refine wpAnyH_take (i:=24) (oi:={dst:=some 14,op:=Go.Op.assign (Go.Operand.tmp 74),type:=4,pos := "ref.go:284",after:=#[{on:=21,ground:=Go.Ground.data},{on:=23,ground:=Go.Ground.chain},{on:=0,ground:=Go.Ground.phase},{on:=1,ground:=Go.Ground.phase},{on:=2,ground:=Go.Ground.phase},{on:=3,ground:=Go.Ground.phase},{on:=4,ground:=Go.Ground.phase},{on:=5,ground:=Go.Ground.phase},{on:=6,ground:=Go.Ground.phase},{on:=7,ground:=Go.Ground.phase},{on:=8,ground:=Go.Ground.phase},{on:=9,ground:=Go.Ground.phase},{on:=10,ground:=Go.Ground.phase},{on:=11,ground:=Go.Ground.phase},{on:=12,ground:=Go.Ground.phase},{on:=13,ground:=Go.Ground.phase},{on:=14,ground:=Go.Ground.phase},{on:=15,ground:=Go.Ground.phase},{on:=16,ground:=Go.Ground.phase},{on:=17,ground:=Go.Ground.phase},{on:=18,ground:=Go.Ground.phase},{on:=19,ground:=Go.Ground.phase},{on:=20,ground:=Go.Ground.phase},{on:=21,ground:=Go.Ground.phase},{on:=22,ground:=Go.Ground.phase},{on:=23,ground:=Go.Ground.phase}],guard:=none}) (v:=?_) rfl (by kernel_rfl) (by kernel_rfl) (by kernel_rfl) (fun _ _ _ h=>h) (Or.inl ⟨by rfl,?_⟩) (by assumption) ?_
           rotate_left 1
           ·((intro w hSw;(try dsimp only at hSw);go_simp)<;>with_reducible rfl)
           (try simp only [Act.put,List.setIfInBounds_toArray,List.set_cons_zero,List.set_cons_succ])
           refine wpAnyH_done (by kernel_rfl) ?_ _
           have hHold:=True.intro
           clear hHold
           rcases HANS.out with ⟨rfl,hr,rfl,hl2⟩ | ⟨rfl,hr⟩
           ·have HKW:=Lib.hid hHeld.1
            have hN:(wn.alloc (.cells #[.int .i64 x.k,.int .i64 x.i,.int .i64 x.j,.int .i64 x.n,.slice a2 x.kids.length cap2] 24)).heap[wn.heap.size]? =some (boxOf x (.slice a2 x.kids.length cap2)):=alloc_new _ _
            have hLW:LiesP (wn.alloc (.cells #[.int .i64 x.k,.int .i64 x.i,.int .i64 x.j,.int .i64 x.n,.slice a2 x.kids.length cap2] 24)) (Own wr.heap.size (wn.alloc (.cells #[.int .i64 x.k,.int .i64 x.i,.int .i64 x.j,.int .i64 x.n,.slice a2 x.kids.length cap2] 24))) x.kids (.slice a2 x.kids.length cap2):=(hl2.from hnc).later ((Below.refl _ _).alloc (Nat.le_refl _) _)
            generalize wn.alloc (.cells #[.int .i64 x.k,.int .i64 x.i,.int .i64 x.j,.int .i64 x.n,.slice a2 x.kids.length cap2] 24)=W at HKW hN hLW ⊢
            have HFX:=Lib.hid (putG_fine (gPut_fine HUR.out) (HRK.out _ HM.out) (by omega) hr)
            have HRS:=Lib.hid hr
            obtain⟨p0,p1,p2,p3,p4⟩:=five_cells hN
            have HLW:=Lib.hid hLW
            clear hN hLW hr
            go_wp2_with (at_builtin;refine wpList_append_lies _ rfl _ _ 22 rfl (w.heap.size+3) 24 i0 _ 5 56 (by kernel_rfl) HI.out.1 HI.out.2.1 HI.out.2.2.1 HI.out.2.2.2 rfl (by decide) _ ps.length (cells5 ps) rfl (made_later (made_later HMD.out HKW.out) ((Below.refl _ _).alloc (Nat.le_refl _) _)).own ⟨W.heap.size,0,none⟩ 1 1 (cells5 [(x,.slice a2 x.kids.length cap2)]) rfl rfl ?news ?one (by decide) ?max ?bytes ?base _ rfl ?next)
            case news=>first | exact news_new _ _ _ _ | exact fun j u h=>h
            case one=>exact one5 _ _
            case max=>have:=HPL.out;unfold maxLen;omega
            case bytes=>have:=HPL.out;omega
            case base=>have:=Below.size HKW.out;simp;omega
            case next =>
             intro g3 cap3 w3 hown hgrow hat _
             have hpb:=push_once HDK.out HMD.out HFX.out HKW.out HLW.out _ hown hgrow (by simpa using hat)
             clear hown hgrow hat
             go_wp2_with fail
             go_roundw
             case rel=>exact⟨q+1,ps++[(x,.slice a2 x.kids.length cap2)],_,rfl,hlt,by go_num,by rw [Hid,optK_next hlt HPS.out HRS.out];simp,hpb.1,hpb.2⟩
             case measure=>simp [intOf];omega
           ·have HKW:=Lib.hid hHeld.1
            generalize wn.alloc (.cells #[.int .i64 x.k,.int .i64 x.i,.int .i64 x.j,.int .i64 x.n,.slice a2 n2 cap2] 24)=W at HKW ⊢
            have hdW:=desk_trans HDK.out (below_from HKW.out hsz)
            obtain⟨-,q1,-⟩:=desk_blocks hdW
            obtain⟨z0,z1,z2,z3,z4⟩:=five_cells q1
            obtain⟨f0,f1,f2,f3,f4⟩:=five_free q1
            go_wp2
            (try simp only [Exit.inBlock,Exit.then])
            refine bodyPost_ret (results_cell_tmp rfl _ _ (w.heap.size+1) _ _ _ du rfl (five_set q1) hu1 (by cases du<;>first | rfl | exact hu2) size_term) rfl ?_
            exact⟨Tm.zero,none,0,0,false,rfl,HBP.out.trans ((below_five (desk_under hdW) (by omega) _ _ _ _ _).mono HBP.out.size),Or.inr ⟨rfl,by rw [HEQ.out,optK_stop hlt hr];rfl⟩⟩
          exact AllReadyH.nil
         exact AllReadyH.nil
        refine AllReadyH.cons (o:={dst:=some 13,op:=Go.Op.alloc 24,type:=0,pos := "ref.go:284",after:=#[],guard:=none}) rfl (fun K hK=>?_) ?_
        ·go_simp
         refine hK.out _ _ ?_ (fun hHeld=>?_)
         ·(try dsimp only)
          (((with_reducible refine put_and ?_ HTC.out HUC.out HXC.out);repeat (first | with_reducible assumption | with_reducible exact hk0 | with_reducible refine kept_drew ?_ | with_reducible refine kept_alloc ?_ _ | ((with_reducible refine kept_setP ?_ ?hh _);(case hh=>first | exact Nat.le_refl _ | exact hszp)))))
         clear hK K
         (try simp only [Act.put,List.setIfInBounds_toArray,List.set_cons_zero,List.set_cons_succ])
         have hZ:(wp.alloc zeroObj).heap[wp.heap.size]? =some zeroObj:=alloc_new _ _
         refine wpAnyH_ready (rs:=[18]) (by kernel_rfl) (by simp) ?_
         refine AllReadyH.cons (o:={dst:=some 72,op:=Go.Op.call {callee:=Go.Callee.value (Go.Operand.func 51),args:=#[Go.Operand.tmp 58,Go.Operand.tmp 59,Go.Operand.tmp 65,Go.Operand.tmp 71],argTypes:=#[24,24,3,4] },type:=69,pos := "ref.go:284",after:=#[{on:=4,ground:=Go.Ground.data},{on:=5,ground:=Go.Ground.data},{on:=11,ground:=Go.Ground.data},{on:=17,ground:=Go.Ground.data},{on:=16,ground:=Go.Ground.chain}],guard:=none}) rfl (fun K hK=>?_) ?_
         ·go_simp
          (go_at_call 51;have hS:=hHeld.1;have hnc:=Below.size hS;have hgc:=block_lt hZ;((with_reducible refine Calls.mono (CALL.out _ hS) ?_);rintro e wn ⟨x,a2,n2,cap2,ok,rfl,hbn,hans⟩;have HANS:=Lib.hid hans;have hhn:=kept_call hS hbn;have hZ:=keep_block hbn (block_lt hZ) hZ;obtain⟨⟨g0,g1,g2,g3,g4⟩,v0,v1,v2,v3,v4⟩:=And.intro (five_cells hZ) (five_free hZ);clear hans hbn hS))
          refine hK.out _ _ ?_ (fun hHeld=>?_)
          ·(try dsimp only)
           (((with_reducible refine put_and ?_ HTC.out HUC.out HXC.out);repeat (first | with_reducible assumption | with_reducible exact hk0 | with_reducible refine kept_drew ?_ | with_reducible refine kept_alloc ?_ _ | ((with_reducible refine kept_setP ?_ ?hh _);(case hh=>first | exact Nat.le_refl _ | exact hszp)))))
          clear hK K
          (try simp only [Act.put,List.setIfInBounds_toArray,List.set_cons_zero,List.set_cons_succ])
          refine wpAnyH_take (i:=19) (oi:={dst:=some 53,op:=Go.Op.move (Go.Operand.tmp 72),type:=69,pos := "ref.go:284",after:=#[{on:=18,ground:=Go.Ground.data}],guard:=none}) (v:=?_) rfl (by kernel_rfl) (by kernel_rfl) (by kernel_rfl) (fun _ _ _ h=>h) (Or.inl ⟨by rfl,?_⟩) (by assumption) ?_
          rotate_left 1
          ·((intro w hSw;(try dsimp only at hSw);go_simp)<;>with_reducible rfl)
          (try simp only [Act.put,List.setIfInBounds_toArray,List.set_cons_zero,List.set_cons_succ])
          refine wpAnyH_take (i:=20) (oi:={dst:=some 73,op:=Go.Op.extract (Go.Operand.tmp 53) 0,type:=24,pos := "ref.go:284",after:=#[{on:=19,ground:=Go.Ground.data}],guard:=none}) (v:=?_) rfl (by kernel_rfl) (by kernel_rfl) (by kernel_rfl) (fun _ _ _ h=>h) (Or.inl ⟨by rfl,?_⟩) (by assumption) ?_
          rotate_left 1
          ·((intro w hSw;(try dsimp only at hSw);go_simp)<;>with_reducible rfl)
          (try simp only [Act.put,List.setIfInBounds_toArray,List.set_cons_zero,List.set_cons_succ])
          refine wpAnyH_take (i:=21) (oi:={dst:=some 74,op:=Go.Op.extract (Go.Operand.tmp 53) 1,type:=4,pos := "ref.go:284",after:=#[{on:=19,ground:=Go.Ground.data},{on:=23,ground:=Go.Ground.gcOnly Go.Departure.lateStores}],guard:=none}) (v:=?_) rfl (by kernel_rfl) (by kernel_rfl) (by kernel_rfl) (fun _ _ _ h=>h) (Or.inl ⟨by rfl,?_⟩) (by assumption) ?_
          rotate_left 1
          ·((intro w hSw;(try dsimp only at hSw);go_simp)<;>with_reducible rfl)
          (try simp only [Act.put,List.setIfInBounds_toArray,List.set_cons_zero,List.set_cons_succ])
          refine wpAnyH_ready (rs:=[23]) (by kernel_rfl) (by simp) ?_
          refine AllReadyH.cons (o:={dst:=none,op:=Go.Op.store 24 (Go.Operand.tmp 13) (Go.Operand.tmp 73),type:=0,pos := "ref.go:284",after:=#[{on:=22,ground:=Go.Ground.data},{on:=20,ground:=Go.Ground.data},{on:=18,ground:=Go.Ground.chain},{on:=0,ground:=Go.Ground.phase},{on:=1,ground:=Go.Ground.phase},{on:=2,ground:=Go.Ground.phase},{on:=3,ground:=Go.Ground.phase},{on:=4,ground:=Go.Ground.phase},{on:=5,ground:=Go.Ground.phase},{on:=6,ground:=Go.Ground.phase},{on:=7,ground:=Go.Ground.phase},{on:=8,ground:=Go.Ground.phase},{on:=9,ground:=Go.Ground.phase},{on:=10,ground:=Go.Ground.phase},{on:=11,ground:=Go.Ground.phase},{on:=12,ground:=Go.Ground.phase},{on:=13,ground:=Go.Ground.phase},{on:=14,ground:=Go.Ground.phase},{on:=15,ground:=Go.Ground.phase},{on:=16,ground:=Go.Ground.phase},{on:=17,ground:=Go.Ground.phase},{on:=18,ground:=Go.Ground.phase},{on:=19,ground:=Go.Ground.phase},{on:=20,ground:=Go.Ground.phase},{on:=21,ground:=Go.Ground.textOnly Go.Departure.lateStores},{on:=22,ground:=Go.Ground.phase}],guard:=none}) rfl (fun K hK=>?_) ?_
          ·go_simp
           refine hK.out _ _ ?_ (fun hHeld=>?_)
           ·(try dsimp only)
            (((with_reducible refine put_and ?_ HTC.out HUC.out HXC.out);repeat (first | with_reducible assumption | with_reducible exact hk0 | with_reducible refine kept_drew ?_ | with_reducible refine kept_alloc ?_ _ | ((with_reducible refine kept_setP ?_ ?hh _);(case hh=>first | exact Nat.le_refl _ | exact hszp)))))
           clear hK K
           (try simp only [Act.put,List.setIfInBounds_toArray,List.set_cons_zero,List.set_cons_succ])
           refine wpAnyH_take (i:=24) (oi:={dst:=some 14,op:=Go.Op.assign (Go.Operand.tmp 74),type:=4,pos := "ref.go:284",after:=#[{on:=21,ground:=Go.Ground.data},{on:=23,ground:=Go.Ground.chain},{on:=0,ground:=Go.Ground.phase},{on:=1,ground:=Go.Ground.phase},{on:=2,ground:=Go.Ground.phase},{on:=3,ground:=Go.Ground.phase},{on:=4,ground:=Go.Ground.phase},{on:=5,ground:=Go.Ground.phase},{on:=6,ground:=Go.Ground.phase},{on:=7,ground:=Go.Ground.phase},{on:=8,ground:=Go.Ground.phase},{on:=9,ground:=Go.Ground.phase},{on:=10,ground:=Go.Ground.phase},{on:=11,ground:=Go.Ground.phase},{on:=12,ground:=Go.Ground.phase},{on:=13,ground:=Go.Ground.phase},{on:=14,ground:=Go.Ground.phase},{on:=15,ground:=Go.Ground.phase},{on:=16,ground:=Go.Ground.phase},{on:=17,ground:=Go.Ground.phase},{on:=18,ground:=Go.Ground.phase},{on:=19,ground:=Go.Ground.phase},{on:=20,ground:=Go.Ground.phase},{on:=21,ground:=Go.Ground.phase},{on:=22,ground:=Go.Ground.phase},{on:=23,ground:=Go.Ground.phase}],guard:=none}) (v:=?_) rfl (by kernel_rfl) (by kernel_rfl) (by kernel_rfl) (fun _ _ _ h=>h) (Or.inl ⟨by rfl,?_⟩) (by assumption) ?_
           rotate_left 1
           ·((intro w hSw;(try dsimp only at hSw);go_simp)<;>with_reducible rfl)
           (try simp only [Act.put,List.setIfInBounds_toArray,List.set_cons_zero,List.set_cons_succ])
           refine wpAnyH_done (by kernel_rfl) ?_ _
           have hHold:=True.intro
           clear hHold
           rcases HANS.out with ⟨rfl,hr,rfl,hl2⟩ | ⟨rfl,hr⟩
           ·have HKW:=Lib.hid hHeld.1
            have hN:(((((wn.setCell ⟨wp.heap.size,0,none⟩ (.int .i64 x.k)).setCell ⟨wp.heap.size,1,none⟩ (.int .i64 x.i)).setCell ⟨wp.heap.size,2,none⟩ (.int .i64 x.j)).setCell ⟨wp.heap.size,3,none⟩ (.int .i64 x.n)).setCell ⟨wp.heap.size,4,none⟩ (.slice a2 x.kids.length cap2)).heap[wp.heap.size]? =some (boxOf x (.slice a2 x.kids.length cap2)):=five_set hZ
            have hLW:LiesP (((((wn.setCell ⟨wp.heap.size,0,none⟩ (.int .i64 x.k)).setCell ⟨wp.heap.size,1,none⟩ (.int .i64 x.i)).setCell ⟨wp.heap.size,2,none⟩ (.int .i64 x.j)).setCell ⟨wp.heap.size,3,none⟩ (.int .i64 x.n)).setCell ⟨wp.heap.size,4,none⟩ (.slice a2 x.kids.length cap2)) (Own wr.heap.size (((((wn.setCell ⟨wp.heap.size,0,none⟩ (.int .i64 x.k)).setCell ⟨wp.heap.size,1,none⟩ (.int .i64 x.i)).setCell ⟨wp.heap.size,2,none⟩ (.int .i64 x.j)).setCell ⟨wp.heap.size,3,none⟩ (.int .i64 x.n)).setCell ⟨wp.heap.size,4,none⟩ (.slice a2 x.kids.length cap2))) x.kids (.slice a2 x.kids.length cap2):=liesP_fives hl2 hgc hnc _ _ _ _ _
            generalize ((((wn.setCell ⟨wp.heap.size,0,none⟩ (.int .i64 x.k)).setCell ⟨wp.heap.size,1,none⟩ (.int .i64 x.i)).setCell ⟨wp.heap.size,2,none⟩ (.int .i64 x.j)).setCell ⟨wp.heap.size,3,none⟩ (.int .i64 x.n)).setCell ⟨wp.heap.size,4,none⟩ (.slice a2 x.kids.length cap2)=W at HKW hN hLW ⊢
            have HFX:=Lib.hid (putG_fine (gPut_fine HUR.out) (HRK.out _ HM.out) (by omega) hr)
            have HRS:=Lib.hid hr
            obtain⟨p0,p1,p2,p3,p4⟩:=five_cells hN
            have HLW:=Lib.hid hLW
            clear hN hLW hr
            go_wp2_with (at_builtin;refine wpList_append_lies _ rfl _ _ 22 rfl (w.heap.size+3) 24 i0 _ 5 56 (by kernel_rfl) HI.out.1 HI.out.2.1 HI.out.2.2.1 HI.out.2.2.2 rfl (by decide) _ ps.length (cells5 ps) rfl (made_later (made_later HMD.out HKW.out) ((Below.refl _ _).alloc (Nat.le_refl _) _)).own ⟨W.heap.size,0,none⟩ 1 1 (cells5 [(x,.slice a2 x.kids.length cap2)]) rfl rfl ?news ?one (by decide) ?max ?bytes ?base _ rfl ?next)
            case news=>first | exact news_new _ _ _ _ | exact fun j u h=>h
            case one=>exact one5 _ _
            case max=>have:=HPL.out;unfold maxLen;omega
            case bytes=>have:=HPL.out;omega
            case base=>have:=Below.size HKW.out;simp;omega
            case next =>
             intro g3 cap3 w3 hown hgrow hat _
             have hpb:=push_once HDK.out HMD.out HFX.out HKW.out HLW.out _ hown hgrow (by simpa using hat)
             clear hown hgrow hat
             go_wp2_with fail
             go_roundw
             case rel=>exact⟨q+1,ps++[(x,.slice a2 x.kids.length cap2)],_,rfl,hlt,by go_num,by rw [Hid,optK_next hlt HPS.out HRS.out];simp,hpb.1,hpb.2⟩
             case measure=>simp [intOf];omega
           ·have HKW:=Lib.hid hHeld.1
            generalize ((((wn.setCell ⟨wp.heap.size,0,none⟩ (.int .i64 x.k)).setCell ⟨wp.heap.size,1,none⟩ (.int .i64 x.i)).setCell ⟨wp.heap.size,2,none⟩ (.int .i64 x.j)).setCell ⟨wp.heap.size,3,none⟩ (.int .i64 x.n)).setCell ⟨wp.heap.size,4,none⟩ (.slice a2 n2 cap2)=W at HKW ⊢
            have hdW:=desk_trans HDK.out (below_from HKW.out hsz)
            obtain⟨-,q1,-⟩:=desk_blocks hdW
            obtain⟨z0,z1,z2,z3,z4⟩:=five_cells q1
            obtain⟨f0,f1,f2,f3,f4⟩:=five_free q1
            go_wp2
            (try simp only [Exit.inBlock,Exit.then])
            refine bodyPost_ret (results_cell_tmp rfl _ _ (w.heap.size+1) _ _ _ du rfl (five_set q1) hu1 (by cases du<;>first | rfl | exact hu2) size_term) rfl ?_
            exact⟨Tm.zero,none,0,0,false,rfl,HBP.out.trans ((below_five (desk_under hdW) (by omega) _ _ _ _ _).mono HBP.out.size),Or.inr ⟨rfl,by rw [HEQ.out,optK_stop hlt hr];rfl⟩⟩
          exact AllReadyH.nil
         exact AllReadyH.nil
        exact AllReadyH.nil
       refine AllReadyH.cons (o:={dst:=some 13,op:=Go.Op.alloc 24,type:=0,pos := "ref.go:284",after:=#[],guard:=none}) rfl (fun K hK=>?_) ?_
       ·go_simp
        refine hK.out _ _ ?_ (fun hHeld=>?_)
        ·(try dsimp only)
         (((with_reducible refine put_and ?_ HTC.out HUC.out HXC.out);repeat (first | with_reducible assumption | with_reducible exact hk0 | with_reducible refine kept_drew ?_ | with_reducible refine kept_alloc ?_ _ | ((with_reducible refine kept_setP ?_ ?hh _);(case hh=>first | exact Nat.le_refl _ | exact hszp)))))
        clear hK K
        (try simp only [Act.put,List.setIfInBounds_toArray,List.set_cons_zero,List.set_cons_succ])
        have hZ:(wr.drew.alloc zeroObj).heap[wr.heap.size]? =some zeroObj:=alloc_new _ _
        refine wpAnyH_ready (rs:=[16]) (by kernel_rfl) (by simp) ?_
        refine AllReadyH.cons (o:={dst:=some 70,op:=Go.Op.call {callee:=Go.Callee.value (Go.Operand.func 64),args:=#[Go.Operand.tmp 68,Go.Operand.tmp 69],argTypes:=#[24,3] },type:=4,pos := "ref.go:284",after:=#[{on:=14,ground:=Go.Ground.data},{on:=15,ground:=Go.Ground.data},{on:=13,ground:=Go.Ground.chain},{on:=13,ground:=Go.Ground.guard}],guard:=some (13,false) }) rfl (fun K hK=>?_) ?_
        ·go_simp
         (go_at_call 64;have hS:=hHeld.1;refine(refplainly_any t q _ _ _ _).mono ?_;rintro e wp ⟨rfl,hbn⟩;have hhp:=kept_call hS hbn;have hszp:wr.heap.size≤wp.heap.size:=Below.size hhp;have hZ:=keep_block hbn (block_lt hZ) hZ;clear hbn hS)
         refine hK.out _ _ ?_ (fun hHeld=>?_)
         ·(try dsimp only)
          (((with_reducible refine put_and ?_ HTC.out HUC.out HXC.out);repeat (first | with_reducible assumption | with_reducible exact hk0 | with_reducible refine kept_drew ?_ | with_reducible refine kept_alloc ?_ _ | ((with_reducible refine kept_setP ?_ ?hh _);(case hh=>first | exact Nat.le_refl _ | exact hszp)))))
         clear hK K
         (try simp only [Act.put,List.setIfInBounds_toArray,List.set_cons_zero,List.set_cons_succ])
         refine wpAnyH_take (i:=17) (oi:={dst:=some 71,op:=Go.Op.pick (Go.Operand.tmp 67) (Go.Operand.const (Go.Value.bool true)) (Go.Operand.tmp 70),type:=4,pos := "ref.go:284",after:=#[{on:=13,ground:=Go.Ground.data},{on:=16,ground:=Go.Ground.data}],guard:=none}) (v:=?_) rfl (by kernel_rfl) (by kernel_rfl) (by kernel_rfl) (fun _ _ _ h=>h) (Or.inl ⟨by rfl,?_⟩) (by assumption) ?_
         rotate_left 1
         ·((intro w hSw;(try dsimp only at hSw);go_simp)<;>with_reducible rfl)
         (try simp only [Act.put,List.setIfInBounds_toArray,List.set_cons_zero,List.set_cons_succ])
         refine wpAnyH_ready (rs:=[18]) (by kernel_rfl) (by simp) ?_
         refine AllReadyH.cons (o:={dst:=some 72,op:=Go.Op.call {callee:=Go.Callee.value (Go.Operand.func 51),args:=#[Go.Operand.tmp 58,Go.Operand.tmp 59,Go.Operand.tmp 65,Go.Operand.tmp 71],argTypes:=#[24,24,3,4] },type:=69,pos := "ref.go:284",after:=#[{on:=4,ground:=Go.Ground.data},{on:=5,ground:=Go.Ground.data},{on:=11,ground:=Go.Ground.data},{on:=17,ground:=Go.Ground.data},{on:=16,ground:=Go.Ground.chain}],guard:=none}) rfl (fun K hK=>?_) ?_
         ·go_simp
          (go_at_call 51;have hS:=hHeld.1;have hnc:=Below.size hS;have hgc:=block_lt hZ;((with_reducible refine Calls.mono (CALL.out _ hS) ?_);rintro e wn ⟨x,a2,n2,cap2,ok,rfl,hbn,hans⟩;have HANS:=Lib.hid hans;have hhn:=kept_call hS hbn;have hZ:=keep_block hbn (block_lt hZ) hZ;obtain⟨⟨g0,g1,g2,g3,g4⟩,v0,v1,v2,v3,v4⟩:=And.intro (five_cells hZ) (five_free hZ);clear hans hbn hS))
          refine hK.out _ _ ?_ (fun hHeld=>?_)
          ·(try dsimp only)
           (((with_reducible refine put_and ?_ HTC.out HUC.out HXC.out);repeat (first | with_reducible assumption | with_reducible exact hk0 | with_reducible refine kept_drew ?_ | with_reducible refine kept_alloc ?_ _ | ((with_reducible refine kept_setP ?_ ?hh _);(case hh=>first | exact Nat.le_refl _ | exact hszp)))))
          clear hK K
          (try simp only [Act.put,List.setIfInBounds_toArray,List.set_cons_zero,List.set_cons_succ])
          refine wpAnyH_take (i:=19) (oi:={dst:=some 53,op:=Go.Op.move (Go.Operand.tmp 72),type:=69,pos := "ref.go:284",after:=#[{on:=18,ground:=Go.Ground.data}],guard:=none}) (v:=?_) rfl (by kernel_rfl) (by kernel_rfl) (by kernel_rfl) (fun _ _ _ h=>h) (Or.inl ⟨by rfl,?_⟩) (by assumption) ?_
          rotate_left 1
          ·((intro w hSw;(try dsimp only at hSw);go_simp)<;>with_reducible rfl)
          (try simp only [Act.put,List.setIfInBounds_toArray,List.set_cons_zero,List.set_cons_succ])
          refine wpAnyH_take (i:=20) (oi:={dst:=some 73,op:=Go.Op.extract (Go.Operand.tmp 53) 0,type:=24,pos := "ref.go:284",after:=#[{on:=19,ground:=Go.Ground.data}],guard:=none}) (v:=?_) rfl (by kernel_rfl) (by kernel_rfl) (by kernel_rfl) (fun _ _ _ h=>h) (Or.inl ⟨by rfl,?_⟩) (by assumption) ?_
          rotate_left 1
          ·((intro w hSw;(try dsimp only at hSw);go_simp)<;>with_reducible rfl)
          (try simp only [Act.put,List.setIfInBounds_toArray,List.set_cons_zero,List.set_cons_succ])
          refine wpAnyH_take (i:=21) (oi:={dst:=some 74,op:=Go.Op.extract (Go.Operand.tmp 53) 1,type:=4,pos := "ref.go:284",after:=#[{on:=19,ground:=Go.Ground.data},{on:=23,ground:=Go.Ground.gcOnly Go.Departure.lateStores}],guard:=none}) (v:=?_) rfl (by kernel_rfl) (by kernel_rfl) (by kernel_rfl) (fun _ _ _ h=>h) (Or.inl ⟨by rfl,?_⟩) (by assumption) ?_
          rotate_left 1
          ·((intro w hSw;(try dsimp only at hSw);go_simp)<;>with_reducible rfl)
          (try simp only [Act.put,List.setIfInBounds_toArray,List.set_cons_zero,List.set_cons_succ])
          refine wpAnyH_ready (rs:=[23]) (by kernel_rfl) (by simp) ?_
          refine AllReadyH.cons (o:={dst:=none,op:=Go.Op.store 24 (Go.Operand.tmp 13) (Go.Operand.tmp 73),type:=0,pos := "ref.go:284",after:=#[{on:=22,ground:=Go.Ground.data},{on:=20,ground:=Go.Ground.data},{on:=18,ground:=Go.Ground.chain},{on:=0,ground:=Go.Ground.phase},{on:=1,ground:=Go.Ground.phase},{on:=2,ground:=Go.Ground.phase},{on:=3,ground:=Go.Ground.phase},{on:=4,ground:=Go.Ground.phase},{on:=5,ground:=Go.Ground.phase},{on:=6,ground:=Go.Ground.phase},{on:=7,ground:=Go.Ground.phase},{on:=8,ground:=Go.Ground.phase},{on:=9,ground:=Go.Ground.phase},{on:=10,ground:=Go.Ground.phase},{on:=11,ground:=Go.Ground.phase},{on:=12,ground:=Go.Ground.phase},{on:=13,ground:=Go.Ground.phase},{on:=14,ground:=Go.Ground.phase},{on:=15,ground:=Go.Ground.phase},{on:=16,ground:=Go.Ground.phase},{on:=17,ground:=Go.Ground.phase},{on:=18,ground:=Go.Ground.phase},{on:=19,ground:=Go.Ground.phase},{on:=20,ground:=Go.Ground.phase},{on:=21,ground:=Go.Ground.textOnly Go.Departure.lateStores},{on:=22,ground:=Go.Ground.phase}],guard:=none}) rfl (fun K hK=>?_) ?_
          ·go_simp
           refine hK.out _ _ ?_ (fun hHeld=>?_)
           ·(try dsimp only)
            (((with_reducible refine put_and ?_ HTC.out HUC.out HXC.out);repeat (first | with_reducible assumption | with_reducible exact hk0 | with_reducible refine kept_drew ?_ | with_reducible refine kept_alloc ?_ _ | ((with_reducible refine kept_setP ?_ ?hh _);(case hh=>first | exact Nat.le_refl _ | exact hszp)))))
           clear hK K
           (try simp only [Act.put,List.setIfInBounds_toArray,List.set_cons_zero,List.set_cons_succ])
           refine wpAnyH_take (i:=24) (oi:={dst:=some 14,op:=Go.Op.assign (Go.Operand.tmp 74),type:=4,pos := "ref.go:284",after:=#[{on:=21,ground:=Go.Ground.data},{on:=23,ground:=Go.Ground.chain},{on:=0,ground:=Go.Ground.phase},{on:=1,ground:=Go.Ground.phase},{on:=2,ground:=Go.Ground.phase},{on:=3,ground:=Go.Ground.phase},{on:=4,ground:=Go.Ground.phase},{on:=5,ground:=Go.Ground.phase},{on:=6,ground:=Go.Ground.phase},{on:=7,ground:=Go.Ground.phase},{on:=8,ground:=Go.Ground.phase},{on:=9,ground:=Go.Ground.phase},{on:=10,ground:=Go.Ground.phase},{on:=11,ground:=Go.Ground.phase},{on:=12,ground:=Go.Ground.phase},{on:=13,ground:=Go.Ground.phase},{on:=14,ground:=Go.Ground.phase},{on:=15,ground:=Go.Ground.phase},{on:=16,ground:=Go.Ground.phase},{on:=17,ground:=Go.Ground.phase},{on:=18,ground:=Go.Ground.phase},{on:=19,ground:=Go.Ground.phase},{on:=20,ground:=Go.Ground.phase},{on:=21,ground:=Go.Ground.phase},{on:=22,ground:=Go.Ground.phase},{on:=23,ground:=Go.Ground.phase}],guard:=none}) (v:=?_) rfl (by kernel_rfl) (by kernel_rfl) (by kernel_rfl) (fun _ _ _ h=>h) (Or.inl ⟨by rfl,?_⟩) (by assumption) ?_
           rotate_left 1
           ·((intro w hSw;(try dsimp only at hSw);go_simp)<;>with_reducible rfl)
           (try simp only [Act.put,List.setIfInBounds_toArray,List.set_cons_zero,List.set_cons_succ])
           refine wpAnyH_done (by kernel_rfl) ?_ _
           have hHold:=True.intro
           clear hHold
           rcases HANS.out with ⟨rfl,hr,rfl,hl2⟩ | ⟨rfl,hr⟩
           ·have HKW:=Lib.hid hHeld.1
            have hN:(((((wn.setCell ⟨wr.heap.size,0,none⟩ (.int .i64 x.k)).setCell ⟨wr.heap.size,1,none⟩ (.int .i64 x.i)).setCell ⟨wr.heap.size,2,none⟩ (.int .i64 x.j)).setCell ⟨wr.heap.size,3,none⟩ (.int .i64 x.n)).setCell ⟨wr.heap.size,4,none⟩ (.slice a2 x.kids.length cap2)).heap[wr.heap.size]? =some (boxOf x (.slice a2 x.kids.length cap2)):=five_set hZ
            have hLW:LiesP (((((wn.setCell ⟨wr.heap.size,0,none⟩ (.int .i64 x.k)).setCell ⟨wr.heap.size,1,none⟩ (.int .i64 x.i)).setCell ⟨wr.heap.size,2,none⟩ (.int .i64 x.j)).setCell ⟨wr.heap.size,3,none⟩ (.int .i64 x.n)).setCell ⟨wr.heap.size,4,none⟩ (.slice a2 x.kids.length cap2)) (Own wr.heap.size (((((wn.setCell ⟨wr.heap.size,0,none⟩ (.int .i64 x.k)).setCell ⟨wr.heap.size,1,none⟩ (.int .i64 x.i)).setCell ⟨wr.heap.size,2,none⟩ (.int .i64 x.j)).setCell ⟨wr.heap.size,3,none⟩ (.int .i64 x.n)).setCell ⟨wr.heap.size,4,none⟩ (.slice a2 x.kids.length cap2))) x.kids (.slice a2 x.kids.length cap2):=liesP_fives hl2 hgc hnc _ _ _ _ _
            generalize ((((wn.setCell ⟨wr.heap.size,0,none⟩ (.int .i64 x.k)).setCell ⟨wr.heap.size,1,none⟩ (.int .i64 x.i)).setCell ⟨wr.heap.size,2,none⟩ (.int .i64 x.j)).setCell ⟨wr.heap.size,3,none⟩ (.int .i64 x.n)).setCell ⟨wr.heap.size,4,none⟩ (.slice a2 x.kids.length cap2)=W at HKW hN hLW ⊢
            have HFX:=Lib.hid (putG_fine (gPut_fine HUR.out) (HRK.out _ HM.out) (by omega) hr)
            have HRS:=Lib.hid hr
            obtain⟨p0,p1,p2,p3,p4⟩:=five_cells hN
            have HLW:=Lib.hid hLW
            clear hN hLW hr
            go_wp2_with (at_builtin;refine wpList_append_lies _ rfl _ _ 22 rfl (w.heap.size+3) 24 i0 _ 5 56 (by kernel_rfl) HI.out.1 HI.out.2.1 HI.out.2.2.1 HI.out.2.2.2 rfl (by decide) _ ps.length (cells5 ps) rfl (made_later (made_later HMD.out HKW.out) ((Below.refl _ _).alloc (Nat.le_refl _) _)).own ⟨W.heap.size,0,none⟩ 1 1 (cells5 [(x,.slice a2 x.kids.length cap2)]) rfl rfl ?news ?one (by decide) ?max ?bytes ?base _ rfl ?next)
            case news=>first | exact news_new _ _ _ _ | exact fun j u h=>h
            case one=>exact one5 _ _
            case max=>have:=HPL.out;unfold maxLen;omega
            case bytes=>have:=HPL.out;omega
            case base=>have:=Below.size HKW.out;simp;omega
            case next =>
             intro g3 cap3 w3 hown hgrow hat _
             have hpb:=push_once HDK.out HMD.out HFX.out HKW.out HLW.out _ hown hgrow (by simpa using hat)
             clear hown hgrow hat
             go_wp2_with fail
             go_roundw
             case rel=>exact⟨q+1,ps++[(x,.slice a2 x.kids.length cap2)],_,rfl,hlt,by go_num,by rw [Hid,optK_next hlt HPS.out HRS.out];simp,hpb.1,hpb.2⟩
             case measure=>simp [intOf];omega
           ·have HKW:=Lib.hid hHeld.1
            generalize ((((wn.setCell ⟨wr.heap.size,0,none⟩ (.int .i64 x.k)).setCell ⟨wr.heap.size,1,none⟩ (.int .i64 x.i)).setCell ⟨wr.heap.size,2,none⟩ (.int .i64 x.j)).setCell ⟨wr.heap.size,3,none⟩ (.int .i64 x.n)).setCell ⟨wr.heap.size,4,none⟩ (.slice a2 n2 cap2)=W at HKW ⊢
            have hdW:=desk_trans HDK.out (below_from HKW.out hsz)
            obtain⟨-,q1,-⟩:=desk_blocks hdW
            obtain⟨z0,z1,z2,z3,z4⟩:=five_cells q1
            obtain⟨f0,f1,f2,f3,f4⟩:=five_free q1
            go_wp2
            (try simp only [Exit.inBlock,Exit.then])
            refine bodyPost_ret (results_cell_tmp rfl _ _ (w.heap.size+1) _ _ _ du rfl (five_set q1) hu1 (by cases du<;>first | rfl | exact hu2) size_term) rfl ?_
            exact⟨Tm.zero,none,0,0,false,rfl,HBP.out.trans ((below_five (desk_under hdW) (by omega) _ _ _ _ _).mono HBP.out.size),Or.inr ⟨rfl,by rw [HEQ.out,optK_stop hlt hr];rfl⟩⟩
          exact AllReadyH.nil
         exact AllReadyH.nil
        exact AllReadyH.nil
       exact AllReadyH.nil
      refine AllReadyH.cons (o:={dst:=some 13,op:=Go.Op.alloc 24,type:=0,pos := "ref.go:284",after:=#[],guard:=none}) rfl (fun K hK=>?_) ?_
      ·go_simp
       refine hK.out _ _ ?_ (fun hHeld=>?_)
       ·(try dsimp only)
        (((with_reducible refine put_and ?_ HTC.out HUC.out HXC.out);repeat (first | with_reducible assumption | with_reducible exact hk0 | with_reducible refine kept_drew ?_ | with_reducible refine kept_alloc ?_ _ | ((with_reducible refine kept_setP ?_ ?hh _);(case hh=>first | exact Nat.le_refl _ | exact hszp)))))
       clear hK K
       (try simp only [Act.put,List.setIfInBounds_toArray,List.set_cons_zero,List.set_cons_succ])
       have hZ:(wr.drew.alloc zeroObj).heap[wr.heap.size]? =some zeroObj:=alloc_new _ _
       refine wpAnyH_ready (rs:=[10]) (by kernel_rfl) (by simp) ?_
       refine AllReadyH.cons (o:={dst:=some 64,op:=Go.Op.call {callee:=Go.Callee.value (Go.Operand.func 63),args:=#[Go.Operand.tmp 62,Go.Operand.tmp 63],argTypes:=#[3,3] },type:=3,pos := "ref.go:284",after:=#[{on:=8,ground:=Go.Ground.data},{on:=9,ground:=Go.Ground.data}],guard:=none}) rfl (fun K hK=>?_) ?_
       ·go_simp
        (go_at_call 63;refine(refbinds_any _ _ _).mono ?_;rintro e w' ⟨rfl,rfl⟩)
        refine hK.out _ _ ?_ (fun hHeld=>?_)
        ·(try dsimp only)
         (((with_reducible refine put_and ?_ HTC.out HUC.out HXC.out);repeat (first | with_reducible assumption | with_reducible exact hk0 | with_reducible refine kept_drew ?_ | with_reducible refine kept_alloc ?_ _ | ((with_reducible refine kept_setP ?_ ?hh _);(case hh=>first | exact Nat.le_refl _ | exact hszp)))))
        clear hK K
        (try simp only [Act.put,List.setIfInBounds_toArray,List.set_cons_zero,List.set_cons_succ])
        refine wpAnyH_take (i:=11) (oi:={dst:=some 65,op:=Go.Op.binOp Go.BinOp.add 3 (Go.Operand.tmp 60) (Go.Operand.tmp 64) 3,type:=3,pos := "ref.go:284",after:=#[{on:=6,ground:=Go.Ground.data},{on:=10,ground:=Go.Ground.data}],guard:=none}) (v:=?_) rfl (by kernel_rfl) (by kernel_rfl) (by kernel_rfl) (fun _ _ _ h=>h) (Or.inl ⟨by rfl,?_⟩) (by assumption) ?_
        rotate_left 1
        ·((intro w hSw;(try dsimp only at hSw);go_simp)<;>with_reducible rfl)
        (try simp only [Act.put,List.setIfInBounds_toArray,List.set_cons_zero,List.set_cons_succ])
        refine wpAnyH_take (i:=13) (oi:={dst:=some 67,op:=Go.Op.move (Go.Operand.tmp 66),type:=4,pos := "ref.go:284",after:=#[{on:=12,ground:=Go.Ground.data},{on:=10,ground:=Go.Ground.chain}],guard:=none}) (v:=?_) rfl (by kernel_rfl) (by kernel_rfl) (by kernel_rfl) (fun _ _ _ h=>h) (Or.inl ⟨by rfl,?_⟩) (by assumption) ?_
        rotate_left 1
        ·((intro w hSw;(try dsimp only at hSw);go_simp)<;>with_reducible rfl)
        (try simp only [Act.put,List.setIfInBounds_toArray,List.set_cons_zero,List.set_cons_succ])
        refine wpAnyH_take (i:=14) (oi:={dst:=some 68,op:=Go.Op.load 24 (Go.Operand.tmp 4),type:=24,pos := "ref.go:284",after:=#[{on:=13,ground:=Go.Ground.guard}],guard:=some (13,false) }) (v:=?_) rfl (by kernel_rfl) (by kernel_rfl) (by kernel_rfl) (fun _ _ _ h=>h) (Or.inl ⟨by rfl,?_⟩) (by assumption) ?_
        rotate_left 1
        ·((intro w hSw;(try dsimp only at hSw);go_simp)<;>with_reducible rfl)
        (try simp only [Act.put,List.setIfInBounds_toArray,List.set_cons_zero,List.set_cons_succ])
        refine wpAnyH_take (i:=15) (oi:={dst:=some 69,op:=Go.Op.move (Go.Operand.tmp 12),type:=3,pos := "ref.go:284",after:=#[{on:=13,ground:=Go.Ground.guard}],guard:=some (13,false) }) (v:=?_) rfl (by kernel_rfl) (by kernel_rfl) (by kernel_rfl) (fun _ _ _ h=>h) (Or.inl ⟨by rfl,?_⟩) (by assumption) ?_
        rotate_left 1
        ·((intro w hSw;(try dsimp only at hSw);go_simp)<;>with_reducible rfl)
        (try simp only [Act.put,List.setIfInBounds_toArray,List.set_cons_zero,List.set_cons_succ])
        refine wpAnyH_ready (rs:=[16]) (by kernel_rfl) (by simp) ?_
        refine AllReadyH.cons (o:={dst:=some 70,op:=Go.Op.call {callee:=Go.Callee.value (Go.Operand.func 64),args:=#[Go.Operand.tmp 68,Go.Operand.tmp 69],argTypes:=#[24,3] },type:=4,pos := "ref.go:284",after:=#[{on:=14,ground:=Go.Ground.data},{on:=15,ground:=Go.Ground.data},{on:=13,ground:=Go.Ground.chain},{on:=13,ground:=Go.Ground.guard}],guard:=some (13,false) }) rfl (fun K hK=>?_) ?_
        ·go_simp
         (go_at_call 64;have hS:=hHeld.1;refine(refplainly_any t q _ _ _ _).mono ?_;rintro e wp ⟨rfl,hbn⟩;have hhp:=kept_call hS hbn;have hszp:wr.heap.size≤wp.heap.size:=Below.size hhp;have hZ:=keep_block hbn (block_lt hZ) hZ;clear hbn hS)
         refine hK.out _ _ ?_ (fun hHeld=>?_)
         ·(try dsimp only)
          (((with_reducible refine put_and ?_ HTC.out HUC.out HXC.out);repeat (first | with_reducible assumption | with_reducible exact hk0 | with_reducible refine kept_drew ?_ | with_reducible refine kept_alloc ?_ _ | ((with_reducible refine kept_setP ?_ ?hh _);(case hh=>first | exact Nat.le_refl _ | exact hszp)))))
         clear hK K
         (try simp only [Act.put,List.setIfInBounds_toArray,List.set_cons_zero,List.set_cons_succ])
         refine wpAnyH_take (i:=17) (oi:={dst:=some 71,op:=Go.Op.pick (Go.Operand.tmp 67) (Go.Operand.const (Go.Value.bool true)) (Go.Operand.tmp 70),type:=4,pos := "ref.go:284",after:=#[{on:=13,ground:=Go.Ground.data},{on:=16,ground:=Go.Ground.data}],guard:=none}) (v:=?_) rfl (by kernel_rfl) (by kernel_rfl) (by kernel_rfl) (fun _ _ _ h=>h) (Or.inl ⟨by rfl,?_⟩) (by assumption) ?_
         rotate_left 1
         ·((intro w hSw;(try dsimp only at hSw);go_simp)<;>with_reducible rfl)
         (try simp only [Act.put,List.setIfInBounds_toArray,List.set_cons_zero,List.set_cons_succ])
         refine wpAnyH_ready (rs:=[18]) (by kernel_rfl) (by simp) ?_
         refine AllReadyH.cons (o:={dst:=some 72,op:=Go.Op.call {callee:=Go.Callee.value (Go.Operand.func 51),args:=#[Go.Operand.tmp 58,Go.Operand.tmp 59,Go.Operand.tmp 65,Go.Operand.tmp 71],argTypes:=#[24,24,3,4] },type:=69,pos := "ref.go:284",after:=#[{on:=4,ground:=Go.Ground.data},{on:=5,ground:=Go.Ground.data},{on:=11,ground:=Go.Ground.data},{on:=17,ground:=Go.Ground.data},{on:=16,ground:=Go.Ground.chain}],guard:=none}) rfl (fun K hK=>?_) ?_
         ·go_simp
          (go_at_call 51;have hS:=hHeld.1;have hnc:=Below.size hS;have hgc:=block_lt hZ;((with_reducible refine Calls.mono (CALL.out _ hS) ?_);rintro e wn ⟨x,a2,n2,cap2,ok,rfl,hbn,hans⟩;have HANS:=Lib.hid hans;have hhn:=kept_call hS hbn;have hZ:=keep_block hbn (block_lt hZ) hZ;obtain⟨⟨g0,g1,g2,g3,g4⟩,v0,v1,v2,v3,v4⟩:=And.intro (five_cells hZ) (five_free hZ);clear hans hbn hS))
          refine hK.out _ _ ?_ (fun hHeld=>?_)
          ·(try dsimp only)
           (((with_reducible refine put_and ?_ HTC.out HUC.out HXC.out);repeat (first | with_reducible assumption | with_reducible exact hk0 | with_reducible refine kept_drew ?_ | with_reducible refine kept_alloc ?_ _ | ((with_reducible refine kept_setP ?_ ?hh _);(case hh=>first | exact Nat.le_refl _ | exact hszp)))))
          clear hK K
          (try simp only [Act.put,List.setIfInBounds_toArray,List.set_cons_zero,List.set_cons_succ])
          refine wpAnyH_take (i:=19) (oi:={dst:=some 53,op:=Go.Op.move (Go.Operand.tmp 72),type:=69,pos := "ref.go:284",after:=#[{on:=18,ground:=Go.Ground.data}],guard:=none}) (v:=?_) rfl (by kernel_rfl) (by kernel_rfl) (by kernel_rfl) (fun _ _ _ h=>h) (Or.inl ⟨by rfl,?_⟩) (by assumption) ?_
          rotate_left 1
          ·((intro w hSw;(try dsimp only at hSw);go_simp)<;>with_reducible rfl)
          (try simp only [Act.put,List.setIfInBounds_toArray,List.set_cons_zero,List.set_cons_succ])
          refine wpAnyH_take (i:=20) (oi:={dst:=some 73,op:=Go.Op.extract (Go.Operand.tmp 53) 0,type:=24,pos := "ref.go:284",after:=#[{on:=19,ground:=Go.Ground.data}],guard:=none}) (v:=?_) rfl (by kernel_rfl) (by kernel_rfl) (by kernel_rfl) (fun _ _ _ h=>h) (Or.inl ⟨by rfl,?_⟩) (by assumption) ?_
          rotate_left 1
          ·((intro w hSw;(try dsimp only at hSw);go_simp)<;>with_reducible rfl)
          (try simp only [Act.put,List.setIfInBounds_toArray,List.set_cons_zero,List.set_cons_succ])
          refine wpAnyH_take (i:=21) (oi:={dst:=some 74,op:=Go.Op.extract (Go.Operand.tmp 53) 1,type:=4,pos := "ref.go:284",after:=#[{on:=19,ground:=Go.Ground.data},{on:=23,ground:=Go.Ground.gcOnly Go.Departure.lateStores}],guard:=none}) (v:=?_) rfl (by kernel_rfl) (by kernel_rfl) (by kernel_rfl) (fun _ _ _ h=>h) (Or.inl ⟨by rfl,?_⟩) (by assumption) ?_
          rotate_left 1
          ·((intro w hSw;(try dsimp only at hSw);go_simp)<;>with_reducible rfl)
          (try simp only [Act.put,List.setIfInBounds_toArray,List.set_cons_zero,List.set_cons_succ])
          refine wpAnyH_ready (rs:=[23]) (by kernel_rfl) (by simp) ?_
          refine AllReadyH.cons (o:={dst:=none,op:=Go.Op.store 24 (Go.Operand.tmp 13) (Go.Operand.tmp 73),type:=0,pos := "ref.go:284",after:=#[{on:=22,ground:=Go.Ground.data},{on:=20,ground:=Go.Ground.data},{on:=18,ground:=Go.Ground.chain},{on:=0,ground:=Go.Ground.phase},{on:=1,ground:=Go.Ground.phase},{on:=2,ground:=Go.Ground.phase},{on:=3,ground:=Go.Ground.phase},{on:=4,ground:=Go.Ground.phase},{on:=5,ground:=Go.Ground.phase},{on:=6,ground:=Go.Ground.phase},{on:=7,ground:=Go.Ground.phase},{on:=8,ground:=Go.Ground.phase},{on:=9,ground:=Go.Ground.phase},{on:=10,ground:=Go.Ground.phase},{on:=11,ground:=Go.Ground.phase},{on:=12,ground:=Go.Ground.phase},{on:=13,ground:=Go.Ground.phase},{on:=14,ground:=Go.Ground.phase},{on:=15,ground:=Go.Ground.phase},{on:=16,ground:=Go.Ground.phase},{on:=17,ground:=Go.Ground.phase},{on:=18,ground:=Go.Ground.phase},{on:=19,ground:=Go.Ground.phase},{on:=20,ground:=Go.Ground.phase},{on:=21,ground:=Go.Ground.textOnly Go.Departure.lateStores},{on:=22,ground:=Go.Ground.phase}],guard:=none}) rfl (fun K hK=>?_) ?_
          ·go_simp
           refine hK.out _ _ ?_ (fun hHeld=>?_)
           ·(try dsimp only)
            (((with_reducible refine put_and ?_ HTC.out HUC.out HXC.out);repeat (first | with_reducible assumption | with_reducible exact hk0 | with_reducible refine kept_drew ?_ | with_reducible refine kept_alloc ?_ _ | ((with_reducible refine kept_setP ?_ ?hh _);(case hh=>first | exact Nat.le_refl _ | exact hszp)))))
           clear hK K
           (try simp only [Act.put,List.setIfInBounds_toArray,List.set_cons_zero,List.set_cons_succ])
           refine wpAnyH_take (i:=24) (oi:={dst:=some 14,op:=Go.Op.assign (Go.Operand.tmp 74),type:=4,pos := "ref.go:284",after:=#[{on:=21,ground:=Go.Ground.data},{on:=23,ground:=Go.Ground.chain},{on:=0,ground:=Go.Ground.phase},{on:=1,ground:=Go.Ground.phase},{on:=2,ground:=Go.Ground.phase},{on:=3,ground:=Go.Ground.phase},{on:=4,ground:=Go.Ground.phase},{on:=5,ground:=Go.Ground.phase},{on:=6,ground:=Go.Ground.phase},{on:=7,ground:=Go.Ground.phase},{on:=8,ground:=Go.Ground.phase},{on:=9,ground:=Go.Ground.phase},{on:=10,ground:=Go.Ground.phase},{on:=11,ground:=Go.Ground.phase},{on:=12,ground:=Go.Ground.phase},{on:=13,ground:=Go.Ground.phase},{on:=14,ground:=Go.Ground.phase},{on:=15,ground:=Go.Ground.phase},{on:=16,ground:=Go.Ground.phase},{on:=17,ground:=Go.Ground.phase},{on:=18,ground:=Go.Ground.phase},{on:=19,ground:=Go.Ground.phase},{on:=20,ground:=Go.Ground.phase},{on:=21,ground:=Go.Ground.phase},{on:=22,ground:=Go.Ground.phase},{on:=23,ground:=Go.Ground.phase}],guard:=none}) (v:=?_) rfl (by kernel_rfl) (by kernel_rfl) (by kernel_rfl) (fun _ _ _ h=>h) (Or.inl ⟨by rfl,?_⟩) (by assumption) ?_
           rotate_left 1
           ·((intro w hSw;(try dsimp only at hSw);go_simp)<;>with_reducible rfl)
           (try simp only [Act.put,List.setIfInBounds_toArray,List.set_cons_zero,List.set_cons_succ])
           refine wpAnyH_done (by kernel_rfl) ?_ _
           have hHold:=True.intro
           clear hHold
           rcases HANS.out with ⟨rfl,hr,rfl,hl2⟩ | ⟨rfl,hr⟩
           ·have HKW:=Lib.hid hHeld.1
            have hN:(((((wn.setCell ⟨wr.heap.size,0,none⟩ (.int .i64 x.k)).setCell ⟨wr.heap.size,1,none⟩ (.int .i64 x.i)).setCell ⟨wr.heap.size,2,none⟩ (.int .i64 x.j)).setCell ⟨wr.heap.size,3,none⟩ (.int .i64 x.n)).setCell ⟨wr.heap.size,4,none⟩ (.slice a2 x.kids.length cap2)).heap[wr.heap.size]? =some (boxOf x (.slice a2 x.kids.length cap2)):=five_set hZ
            have hLW:LiesP (((((wn.setCell ⟨wr.heap.size,0,none⟩ (.int .i64 x.k)).setCell ⟨wr.heap.size,1,none⟩ (.int .i64 x.i)).setCell ⟨wr.heap.size,2,none⟩ (.int .i64 x.j)).setCell ⟨wr.heap.size,3,none⟩ (.int .i64 x.n)).setCell ⟨wr.heap.size,4,none⟩ (.slice a2 x.kids.length cap2)) (Own wr.heap.size (((((wn.setCell ⟨wr.heap.size,0,none⟩ (.int .i64 x.k)).setCell ⟨wr.heap.size,1,none⟩ (.int .i64 x.i)).setCell ⟨wr.heap.size,2,none⟩ (.int .i64 x.j)).setCell ⟨wr.heap.size,3,none⟩ (.int .i64 x.n)).setCell ⟨wr.heap.size,4,none⟩ (.slice a2 x.kids.length cap2))) x.kids (.slice a2 x.kids.length cap2):=liesP_fives hl2 hgc hnc _ _ _ _ _
            generalize ((((wn.setCell ⟨wr.heap.size,0,none⟩ (.int .i64 x.k)).setCell ⟨wr.heap.size,1,none⟩ (.int .i64 x.i)).setCell ⟨wr.heap.size,2,none⟩ (.int .i64 x.j)).setCell ⟨wr.heap.size,3,none⟩ (.int .i64 x.n)).setCell ⟨wr.heap.size,4,none⟩ (.slice a2 x.kids.length cap2)=W at HKW hN hLW ⊢
            have HFX:=Lib.hid (putG_fine (gPut_fine HUR.out) (HRK.out _ HM.out) (by omega) hr)
            have HRS:=Lib.hid hr
            obtain⟨p0,p1,p2,p3,p4⟩:=five_cells hN
            have HLW:=Lib.hid hLW
            clear hN hLW hr
            go_wp2_with (at_builtin;refine wpList_append_lies _ rfl _ _ 22 rfl (w.heap.size+3) 24 i0 _ 5 56 (by kernel_rfl) HI.out.1 HI.out.2.1 HI.out.2.2.1 HI.out.2.2.2 rfl (by decide) _ ps.length (cells5 ps) rfl (made_later (made_later HMD.out HKW.out) ((Below.refl _ _).alloc (Nat.le_refl _) _)).own ⟨W.heap.size,0,none⟩ 1 1 (cells5 [(x,.slice a2 x.kids.length cap2)]) rfl rfl ?news ?one (by decide) ?max ?bytes ?base _ rfl ?next)
            case news=>first | exact news_new _ _ _ _ | exact fun j u h=>h
            case one=>exact one5 _ _
            case max=>have:=HPL.out;unfold maxLen;omega
            case bytes=>have:=HPL.out;omega
            case base=>have:=Below.size HKW.out;simp;omega
            case next =>
             intro g3 cap3 w3 hown hgrow hat _
             have hpb:=push_once HDK.out HMD.out HFX.out HKW.out HLW.out _ hown hgrow (by simpa using hat)
             clear hown hgrow hat
             go_wp2_with fail
             go_roundw
             case rel=>exact⟨q+1,ps++[(x,.slice a2 x.kids.length cap2)],_,rfl,hlt,by go_num,by rw [Hid,optK_next hlt HPS.out HRS.out];simp,hpb.1,hpb.2⟩
             case measure=>simp [intOf];omega
           ·have HKW:=Lib.hid hHeld.1
            generalize ((((wn.setCell ⟨wr.heap.size,0,none⟩ (.int .i64 x.k)).setCell ⟨wr.heap.size,1,none⟩ (.int .i64 x.i)).setCell ⟨wr.heap.size,2,none⟩ (.int .i64 x.j)).setCell ⟨wr.heap.size,3,none⟩ (.int .i64 x.n)).setCell ⟨wr.heap.size,4,none⟩ (.slice a2 n2 cap2)=W at HKW ⊢
            have hdW:=desk_trans HDK.out (below_from HKW.out hsz)
            obtain⟨-,q1,-⟩:=desk_blocks hdW
            obtain⟨z0,z1,z2,z3,z4⟩:=five_cells q1
            obtain⟨f0,f1,f2,f3,f4⟩:=five_free q1
            go_wp2
            (try simp only [Exit.inBlock,Exit.then])
            refine bodyPost_ret (results_cell_tmp rfl _ _ (w.heap.size+1) _ _ _ du rfl (five_set q1) hu1 (by cases du<;>first | rfl | exact hu2) size_term) rfl ?_
            exact⟨Tm.zero,none,0,0,false,rfl,HBP.out.trans ((below_five (desk_under hdW) (by omega) _ _ _ _ _).mono HBP.out.size),Or.inr ⟨rfl,by rw [HEQ.out,optK_stop hlt hr];rfl⟩⟩
          exact AllReadyH.nil
         exact AllReadyH.nil
        exact AllReadyH.nil
       exact AllReadyH.nil
      exact AllReadyH.nil
    ·have:q=t.kids.length:=by omega
     subst this
     have hd2:=desk_set (v':=vv) hdk
     have hres:t.putG (gPut u) b F=some (.mk t.k t.i t.j t.n (ps.map (·.1))):=by
      have:=HPS.out
      rw [List.take_length] at this
      rw [HEQ.out,this];rfl
     obtain⟨-,q1',-⟩:=desk_blocks hd2
     have hll:=made_lies hmade
     obtain⟨a2,cap2,rfl,-,-⟩:=hll.out
     simp only [List.length_map] at hd2 q1' hll
     obtain⟨y0,y1,y2,y3,y4⟩:=five_cells q2
     obtain⟨f0,f1,f2,f3,f4⟩:=five_free q2
     obtain⟨z0,z1,z2,z3,z4⟩:=five_cells q1
     obtain⟨g0,g1,g2,g3,g4⟩:=five_free q1
     go_wp2
     (try simp only [Exit.inBlock,Exit.then])
     refine bodyPost_ret (results_cell_tmp rfl _ _ (w.heap.size+1) _ _ _ du rfl (five_set q1') hu1 (by cases du<;>first | rfl | exact hu2) size_term) rfl ?_
     exact⟨.mk t.k t.i t.j t.n (ps.map (·.1)),a2,ps.length,cap2,true,rfl,HBP.out.trans ((below_five (desk_under hd2) (by omega) _ _ _ _ _).mono HBP.out.size),Or.inl ⟨rfl,hres,by simp [Tm.kids],by show LiesP _ _ (ps.map (·.1)) _;exact liesP_fives (liesP_set hll (by omega) (Nat.le_refl _) _) (by omega) (by omega) _ _ _ _ _⟩⟩
end Go.Proofs.Ytpdinlejmlbbeaa

namespace Go.Proofs.Ytpdinlejmlbbeaa
open Go.RowKit
set_option maxHeartbeats 2000000 in
theorem refmay_any (t u:Tm) (w:World) (s r:Value) (hl:Lies w t.kids s) (hm:Lies w u.kids r):Calls Try.prog 50 #[tv t s,tv u r] w fun e w'=>e=.returned (.bool (mayB t u))∧Below w.heap.size w w':=by
 obtain⟨a,cap,S,rfl,-⟩:=hl.out
 obtain⟨a2,cap2,S2,rfl,-⟩:=hm.out
 have HL:=Lib.hid hl
 have HM:=Lib.hid hm
 have H0:=held2_start w t (.slice a t.kids.length cap) u (.slice a2 u.kids.length cap2)
 clear hl hm
 unfold tv
 go_enter Try.func50,Try.ntmps50
 go_wp2_with fail
 refine(refright_any u _ _ (held2_lies H0 HM.out)).mono ?_
 cases hu:u.rightB
 ·rintro e w1 ⟨rfl,hb1⟩
  have H1:=held2_call H0 hb1
  go_wp2
  go_ret
  exact⟨ret_bool (by unfold mayB;rw [hu];rfl),held2_below H1⟩
 rintro e w1 ⟨rfl,hb1⟩
 have H1:=held2_call H0 hb1
 obtain⟨d0,d1,d2,d3,d4,e0,e1,e2,e3,e4⟩:=held2_cells H1
 have HU:=Lib.hid hu
 clear hb1 H0 hu
 by_cases k1:t.k=1
 ·have f1:(t.k==1)=true:=by simpa using k1
  have HB:=Lib.hid (show mayB t u=true by unfold mayB;rw [HU.out,f1];rfl)
  clear k1
  go_wp2
  go_ret
  exact⟨ret_bool HB.out.symm,held2_below H1⟩
 have f1:(t.k==1)=false:=by simpa using k1
 by_cases k2:t.k=2
 ·have f2:(t.k==2)=true:=by simpa using k2
  have HB:=Lib.hid (show mayB t u=true by unfold mayB;rw [HU.out,f1,f2];rfl)
  clear k1 k2
  go_wp2
  go_ret
  exact⟨ret_bool HB.out.symm,held2_below H1⟩
 have f2:(t.k==2)=false:=by simpa using k2
 clear k1 k2
 go_wp2_with fail
 refine(refplain_any t _ _ (held2_lies H1 HL.out)).mono ?_
 cases hp:t.plainB
 ·rintro e w2 ⟨rfl,hb2⟩
  have H2:=held2_call H1 hb2
  have HB:=Lib.hid (show mayB t u=u.markedB by unfold mayB;rw [HU.out,f1,f2,hp];rfl)
  clear hb2 H1 d0 d1 d2 d3 d4 e0 e1 e2 e3 e4 hp
  obtain⟨d0,d1,d2,d3,d4,e0,e1,e2,e3,e4⟩:=held2_cells H2
  go_wp2_with fail
  refine(refmarked_any u _ _ (held2_lies H2 HM.out)).mono ?_
  obtain⟨M,hM⟩:∃ M,u.markedB=M:=⟨_,rfl⟩
  rw [hM] at HB ⊢
  clear hM
  rintro e w3 ⟨rfl,hb3⟩
  have H3:=held2_call H2 hb3
  go_wp2
  go_ret
  exact⟨ret_bool HB.out.symm,held2_below H3⟩
 ·rintro e w2 ⟨rfl,hb2⟩
  have H2:=held2_call H1 hb2
  have HB:=Lib.hid (show mayB t u=true by unfold mayB;rw [HU.out,f1,f2,hp];rfl)
  clear hp
  go_wp2
  go_ret
  exact⟨ret_bool HB.out.symm,held2_below H2⟩
set_option maxRecDepth 20000 in
set_option maxHeartbeats 2000000 in
theorem refPutT_any (t u:Tm) (w:World) (s r:Value) (hl:Lies w t.kids s) (hm:Lies w u.kids r) (hdt:t.deep≤100000) (hdu:u.deep≤100000):Calls Try.prog 27 #[tv t s,tv u r] w (Makes (t.putB u) w):=by
 obtain⟨a,cap,S,rfl,-⟩:=hl.out
 obtain⟨a2,cap2,S2,rfl,-⟩:=hm.out
 obtain⟨du,hu1,hu2⟩:=under_term
 have hB:=below_three w (.cells #[.int .i64 t.k,.int .i64 t.i,.int .i64 t.j,.int .i64 t.n,.slice a t.kids.length cap] 24) (.cells #[.int .i64 u.k,.int .i64 u.i,.int .i64 u.j,.int .i64 u.n,.slice a2 u.kids.length cap2] 24) (.cells #[.int .i64 0,.int .i64 0,.int .i64 0,.int .i64 0,.slice none 0 0] 24)
 obtain⟨q0,q1,q2,-⟩:=heap_three w (.cells #[.int .i64 t.k,.int .i64 t.i,.int .i64 t.j,.int .i64 t.n,.slice a t.kids.length cap] 24) (.cells #[.int .i64 u.k,.int .i64 u.i,.int .i64 u.j,.int .i64 u.n,.slice a2 u.kids.length cap2] 24) (.cells #[.int .i64 0,.int .i64 0,.int .i64 0,.int .i64 0,.slice none 0 0] 24)
 have HL:=Lib.hid (hl.keep hB)
 have HM:=Lib.hid (hm.keep hB)
 have hs3:w.heap.size+1+1<(((w.alloc (.cells #[.int .i64 t.k,.int .i64 t.i,.int .i64 t.j,.int .i64 t.n,.slice a t.kids.length cap] 24)).alloc (.cells #[.int .i64 u.k,.int .i64 u.i,.int .i64 u.j,.int .i64 u.n,.slice a2 u.kids.length cap2] 24)).alloc (.cells #[.int .i64 0,.int .i64 0,.int .i64 0,.int .i64 0,.slice none 0 0] 24)).heap.size:=by simp
 clear hl hm
 unfold tv
 have hput:t.putB u=if t.rightB=true∧mayB t u=true then(t.putG (gPut u) 0 (decide (12<t.k))).getD .zero else .zero:=rfl
 cases hr:t.rightB with
 | false =>
  rw [if_neg (by rw [hr];simp)] at hput
  rw [hput]
  clear hput
  go_enter Try.func27,Try.ntmps27
  go_upto_region 1 with fail
  generalize ((w.alloc (.cells #[.int .i64 t.k,.int .i64 t.i,.int .i64 t.j,.int .i64 t.n,.slice a t.kids.length cap] 24)).alloc (.cells #[.int .i64 u.k,.int .i64 u.i,.int .i64 u.j,.int .i64 u.n,.slice a2 u.kids.length cap2] 24)).alloc (.cells #[.int .i64 0,.int .i64 0,.int .i64 0,.int .i64 0,.slice none 0 0] 24)=w2 at hB q0 q1 q2 HL HM hs3 ⊢
  obtain⟨d0,d1,d2,d3,d4⟩:=five_cells q0
  have Q2:=Lib.hid q2
  clear q0 q1 q2
  go_wp2_with fail
  refine(refright_any t _ _ HL.out).mono ?_
  rw [hr]
  rintro e w3 ⟨rfl,hb3⟩
  have q3:=(hb3.block _ hs3).trans Q2.out
  obtain⟨z0,z1,z2,z3,z4⟩:=five_cells q3
  obtain⟨f0,f1,f2,f3,f4⟩:=five_free q3
  have hb:=hB.trans (hb3.mono hB.size)
  clear hb3 d0 d1 d2 d3 d4
  go_wp2
  (try simp only [Exit.inBlock,Exit.then])
  refine bodyPost_ret (results_cell_row rfl _ _ (w.heap.size+1+1) _ _ _ du rfl (five_set q3) hu1 (by cases du<;>first | rfl | exact hu2) size_term) rfl ?_
  exact⟨.slice none 0 0,rfl,liesP_nil _ _,below_five hb (by omega) _ _ _ _ _⟩
 | true =>
  cases hmay:mayB t u with
  | false =>
   rw [if_neg (by rw [hmay];simp)] at hput
   rw [hput]
   clear hput
   go_enter Try.func27,Try.ntmps27
   go_upto_region 1 with fail
   generalize ((w.alloc (.cells #[.int .i64 t.k,.int .i64 t.i,.int .i64 t.j,.int .i64 t.n,.slice a t.kids.length cap] 24)).alloc (.cells #[.int .i64 u.k,.int .i64 u.i,.int .i64 u.j,.int .i64 u.n,.slice a2 u.kids.length cap2] 24)).alloc (.cells #[.int .i64 0,.int .i64 0,.int .i64 0,.int .i64 0,.slice none 0 0] 24)=w2 at hB q0 q1 q2 HL HM hs3 ⊢
   obtain⟨d0,d1,d2,d3,d4⟩:=five_cells q0
   have Q0:=Lib.hid q0
   have Q1:=Lib.hid q1
   have Q2:=Lib.hid q2
   clear q0 q1 q2
   go_wp2_with fail
   refine(refright_any t _ _ HL.out).mono ?_
   rw [hr]
   rintro e w3 ⟨rfl,hb3⟩
   have HB3:=Lib.hid hb3
   have q3:=(hb3.block _ hs3).trans Q2.out
   clear d0 d1 d2 d3 d4
   obtain⟨d0,d1,d2,d3,d4⟩:=five_cells ((hb3.block _ (block_lt Q0.out)).trans Q0.out)
   obtain⟨e0,e1,e2,e3,e4⟩:=five_cells ((hb3.block _ (block_lt Q1.out)).trans Q1.out)
   have Q3:=Lib.hid q3
   have HBB:=Lib.hid (hB.trans (hb3.mono hB.size))
   clear hb3 q3
   go_wp2_with fail
   refine(refmay_any t u _ _ _ (HL.out.keep HB3.out) (HM.out.keep HB3.out)).mono ?_
   rw [hmay]
   rintro e w4 ⟨rfl,hb4⟩
   have q4:=(hb4.block _ (block_lt Q3.out)).trans Q3.out
   obtain⟨z0,z1,z2,z3,z4⟩:=five_cells q4
   obtain⟨f0,f1,f2,f3,f4⟩:=five_free q4
   have hb:=HBB.out.trans (hb4.mono HBB.out.size)
   clear hb4 d0 d1 d2 d3 d4 e0 e1 e2 e3 e4
   go_wp2
   (try simp only [Exit.inBlock,Exit.then])
   refine bodyPost_ret (results_cell_row rfl _ _ (w.heap.size+1+1) _ _ _ du rfl (five_set q4) hu1 (by cases du<;>first | rfl | exact hu2) size_term) rfl ?_
   exact⟨.slice none 0 0,rfl,liesP_nil _ _,below_five hb (by omega) _ _ _ _ _⟩
  | true =>
   rw [if_pos ⟨hr,hmay⟩] at hput
   have hur:u.rightB=true:=by unfold mayB at hmay;simp only [Bool.and_eq_true] at hmay;exact hmay.1
   have CP:=refput_any u hur hdu t 0 false
   obtain⟨R,hR⟩:∃ R,t.putG (gPut u) 0 (decide (12<t.k))=R:=⟨_,rfl⟩
   rw [Bool.false_or] at CP
   rw [hR] at hput CP
   rw [hput]
   have HCP:=Lib.hid CP
   clear hput CP hur hR
   go_enter Try.func27,Try.ntmps27
   go_upto_region 1 with fail
   generalize ((w.alloc (.cells #[.int .i64 t.k,.int .i64 t.i,.int .i64 t.j,.int .i64 t.n,.slice a t.kids.length cap] 24)).alloc (.cells #[.int .i64 u.k,.int .i64 u.i,.int .i64 u.j,.int .i64 u.n,.slice a2 u.kids.length cap2] 24)).alloc (.cells #[.int .i64 0,.int .i64 0,.int .i64 0,.int .i64 0,.slice none 0 0] 24)=w2 at hB q0 q1 q2 HL HM hs3 ⊢
   obtain⟨d0,d1,d2,d3,d4⟩:=five_cells q0
   have Q0:=Lib.hid q0
   have Q1:=Lib.hid q1
   have Q2:=Lib.hid q2
   clear q0 q1 q2
   go_wp2_with fail
   refine(refright_any t _ _ HL.out).mono ?_
   rw [hr]
   have HR:=Lib.hid hr
   clear hr
   rintro e w3 ⟨rfl,hb3⟩
   have HB3:=Lib.hid hb3
   have HQ0:=Lib.hid ((hb3.block _ (block_lt Q0.out)).trans Q0.out)
   have HQ1:=Lib.hid ((hb3.block _ (block_lt Q1.out)).trans Q1.out)
   have HQ2:=Lib.hid ((hb3.block _ hs3).trans Q2.out)
   clear d0 d1 d2 d3 d4
   obtain⟨d0,d1,d2,d3,d4⟩:=five_cells HQ0.out
   obtain⟨e0,e1,e2,e3,e4⟩:=five_cells HQ1.out
   have HBB:=Lib.hid (hB.trans (hb3.mono hB.size))
   clear hb3 Q0 Q1 Q2
   go_wp2_with fail
   refine(refmay_any t u _ _ _ (HL.out.keep HB3.out) (HM.out.keep HB3.out)).mono ?_
   rw [hmay]
   clear hmay
   rintro e w4 ⟨rfl,hb4⟩
   have HB4:=Lib.hid hb4
   have q4:=(hb4.block _ (block_lt HQ2.out)).trans HQ2.out
   have Q4:=Lib.hid q4
   have hbb4:=Lib.hid (HBB.out.trans (hb4.mono HBB.out.size))
   clear d0 d1 d2 d3 d4 e0 e1 e2 e3 e4
   obtain⟨d0,d1,d2,d3,d4⟩:=five_cells ((hb4.block _ (block_lt HQ0.out)).trans HQ0.out)
   obtain⟨e0,e1,e2,e3,e4⟩:=five_cells ((hb4.block _ (block_lt HQ1.out)).trans HQ1.out)
   clear hb4 q4
   go_wp2_with fail
   refine(HCP.out _ _ _ ((HL.out.keep HB3.out).keep HB4.out) ((HM.out.keep HB3.out).keep HB4.out) HR.out (Int.le_refl 0) (by omega)).mono ?_
   rintro e w5 ⟨x,xa,xn,xc,ok,rfl,hb5,hans⟩
   have HANS:=Lib.hid hans
   have q5:=(hb5.block _ (block_lt Q4.out)).trans Q4.out
   have hs5:w.heap.size+1+1<w5.heap.size:=block_lt q5
   have hs4:w.heap.size+1+1<w4.heap.size:=block_lt Q4.out
   obtain⟨z0,z1,z2,z3,z4⟩:=five_cells q5
   obtain⟨f0,f1,f2,f3,f4⟩:=five_free q5
   have hb:=hbb4.out.trans (hb5.mono hbb4.out.size)
   have hs0:=hbb4.out.size
   clear hans hb5 d0 d1 d2 d3 d4 e0 e1 e2 e3 e4
   rcases HANS.out with ⟨rfl,rfl,rfl,h3⟩ | ⟨rfl,rfl⟩
   ·go_wp2
    (try simp only [Exit.inBlock,Exit.then])
    refine bodyPost_ret (results_cell_row rfl _ _ (w.heap.size+1+1) _ _ _ du rfl (five_alloc q5 _ _ _ _ _ _) hu1 (by cases du<;>first | rfl | exact hu2) size_term) rfl ?_
    exact⟨_,rfl,liesP_fives_alloc h3 hs4 (by omega) _ _ _ _ _ _,below_five_alloc hb hb.size (by omega) _ _ _ _ _ _⟩
   ·go_wp2
    (try simp only [Exit.inBlock,Exit.then])
    refine bodyPost_ret (results_cell_row rfl _ _ (w.heap.size+1+1) _ _ _ du rfl (five_alloc q5 _ _ _ _ _ _) hu1 (by cases du<;>first | rfl | exact hu2) size_term) rfl ?_
    exact⟨.slice none 0 0,rfl,liesP_nil _ _,below_five_alloc hb hb.size (by omega) _ _ _ _ _ _⟩
end Go.Proofs.Ytpdinlejmlbbeaa

namespace Go.Proofs.Ytpdinlejmlbbeaa.Sd
open Go Go.RowKit Se
theorem on_some {α:Type} {o:Option α} {k:α→Option R15} {r:R15} (h:on o k=some r):∃ x,o=some x∧k x=some r:=by
 cases o with
 | none=>cases h
 | some x=>exact⟨x,rfl,h⟩
theorem on4_some {α β:Type} {o:Option α} {k:α→Option β} {r:β} (h:on4 o k=some r):∃ x,o=some x∧k x=some r:=by
 cases o with
 | none=>cases h
 | some x=>exact⟨x,rfl,h⟩
theorem putB_fine (t u:Tm):(t.putB u).fine:=by
 unfold Tm.putB
 split
 ·rename_i h
  cases hx:t.putG (gPut u) 0 (decide (12<t.k)) with
  | none=>exact zero_fine
  | some y=>exact right_fine (put_sorts h.1 h.2 hx).1
 ·exact zero_fine
theorem ret_T {w w':World} {A:Nat→Prop} {t:Tm} {e:Ending} (hf:t.fine) (h:GivesP A t w e w'):Se.Gives A [(true,tmF t)] false w e w':=by
 obtain⟨s,rfl,hk,hb⟩:=h
 exact⟨_,rfl,⟨_,rfl,_,rfl,tmF_den hf hk⟩,hb⟩
theorem ret_B {w w':World} {A:Nat→Prop} {b:Bool} {e:Ending} (h:e=.returned (.bool b)∧Below w.heap.size w w'):Se.Gives (D:=D15) A [(false,[.obool b])] false w e w':=by
 obtain⟨rfl,hb⟩:=h
 exact⟨_,rfl,⟨_,rfl,_,rfl,rfl⟩,hb⟩
theorem arg_T {w:World} {A:Nat→Prop} {a:List F15} {v:Value} {t:Tm} (h:ArgDen w A (true,a) v) (ht:tmOf a=some t):∃ s,v=tv t s∧t.fine∧LiesQ w A t.kids s:=by
 obtain⟨vs,rfl,hv⟩:=h
 obtain⟨s,rfl,hf,hk⟩:=tmOf_den ht hv
 exact⟨s,rfl,hf,hk⟩
theorem int_den {w:World} {A:Nat→Prop} {a:F15} {v:Value} {n:Int} (h:FLDen w A a v) (ht:intOf a=some n):v=.int .i64 n∧I64 n:=by
 cases a<;>simp only [Se.intOf] at ht<;>first | (cases ht;done) | (obtain rfl:=Option.some.inj ht;exact h)
theorem arg_I {w:World} {A:Nat→Prop} {a:F15} {v:Value} {n:Int} (h:ArgDen w A (false,[a]) v) (ht:intOf a=some n):v=.int .i64 n∧I64 n:=by
 obtain⟨x,hx,hv⟩:=h
 cases hx
 exact int_den hv ht
theorem arg_R {w:World} {A:Nat→Prop} {a:F15} {v:Value} {l:List Tm} (h:ArgDen w A (false,[a]) v) (ht:tmsOf a=some l):LiesQ w A l v:=by
 obtain⟨x,hx,hv⟩:=h
 cases hx
 cases a with
 | nil=>obtain rfl:=Option.some.inj ht;obtain rfl:v=.slice none 0 0:=hv;exact liesQ_nil w A
 | dat d=>cases d<;>simp only [tmsOf] at ht<;>first | (cases ht;done) | (obtain rfl:=Option.some.inj ht;exact hv)
 | _=>cases ht
theorem arg_F {w:World} {A:Nat→Prop} {l:List F15} {v:Value} {g:Fm} (h:ArgDen w A (true,l) v) (hg:fmOf l=some g):∃ sa sc sb sd se sf,v=fv g sa sc sb sd se sf∧g.fine∧FQ w A g sa sc sb sd se sf:=by
 obtain⟨vs,rfl,hv⟩:=h
 unfold fmOf at hg
 split at hg
 ·rename_i fi fj fa1 fa2 fa3 fa4 fa5 fc1 fc2 fc3 fc4 fc5 fb1 fb2 fb3 fb4 fb5 fd1 fd2 fd3 fd4 fd5 fe1 fe2 fe3 fe4 fe5 ff1 ff2 ff3 ff4 ff5
  obtain⟨i',ei,hg⟩:=on4_some hg
  obtain⟨j',ej,hg⟩:=on4_some hg
  obtain⟨ta,ea,hg⟩:=on4_some hg
  obtain⟨tc,ec,hg⟩:=on4_some hg
  obtain⟨tb,eb,hg⟩:=on4_some hg
  obtain⟨td,ed,hg⟩:=on4_some hg
  obtain⟨te,ee,hg⟩:=on4_some hg
  obtain⟨tf,ef,hg⟩:=on4_some hg
  cases hg
  match vs,hv with
  | [vi,vj,va1,va2,va3,va4,va5,vc1,vc2,vc3,vc4,vc5,vb1,vb2,vb3,vb4,vb5,vd1,vd2,vd3,vd4,vd5,ve1,ve2,ve3,ve4,ve5,vf1,vf2,vf3,vf4,vf5],hv =>
   obtain⟨di,dj,da1,da2,da3,da4,da5,dc1,dc2,dc3,dc4,dc5,db1,db2,db3,db4,db5,dd1,dd2,dd3,dd4,dd5,de1,de2,de3,de4,de5,df1,df2,df3,df4,df5,-⟩:=hv
   obtain⟨rfl,r1⟩:=int_den di ei
   obtain⟨rfl,r2⟩:=int_den dj ej
   obtain⟨sa,qa,fa,la⟩:=tmOf_den (vs:=[va1,va2,va3,va4,va5]) ea ⟨da1,da2,da3,da4,da5,trivial⟩
   cases qa
   obtain⟨sc,qc,fc,lc⟩:=tmOf_den (vs:=[vc1,vc2,vc3,vc4,vc5]) ec ⟨dc1,dc2,dc3,dc4,dc5,trivial⟩
   cases qc
   obtain⟨sb,qb,fb,lb⟩:=tmOf_den (vs:=[vb1,vb2,vb3,vb4,vb5]) eb ⟨db1,db2,db3,db4,db5,trivial⟩
   cases qb
   obtain⟨sd,qd,fd,ld⟩:=tmOf_den (vs:=[vd1,vd2,vd3,vd4,vd5]) ed ⟨dd1,dd2,dd3,dd4,dd5,trivial⟩
   cases qd
   obtain⟨se,qe,fe,le⟩:=tmOf_den (vs:=[ve1,ve2,ve3,ve4,ve5]) ee ⟨de1,de2,de3,de4,de5,trivial⟩
   cases qe
   obtain⟨sf,qf,ff,lf⟩:=tmOf_den (vs:=[vf1,vf2,vf3,vf4,vf5]) ef ⟨df1,df2,df3,df4,df5,trivial⟩
   cases qf
   exact⟨_,_,_,_,_,_,rfl,⟨r1,r2,fa,fc,fb,fd,fe,ff⟩,⟨la,lc,lb,ld,le,lf⟩⟩
 ·cases hg
theorem baseC_ok:SpecOk Try.prog baseC:=by
 intro f args orc ret tup pre orc' h
 unfold baseC at h
 cases hb:Nat.beq f 38 with
 | true =>
  obtain rfl:=Nat.eq_of_beq_eq_true hb
  simp only [hb,cond_true] at h
  split at h
  ·rename_i a1
   obtain⟨x1,e1,h⟩:=on_some h
   cases h
   refine⟨⟨_,_,Try.func38,by kernel_rfl,rfl⟩,fun hp w A vs hv=>?_⟩
   obtain⟨v1,rfl,h1⟩:=hv.at1
   have l1:=arg_R h1 e1
   exact(cplain_any x1 w v1 l1.lies).mono fun e w' he=>ret_B he
  ·cases h
 | false =>
 simp only [hb,cond_false] at h
 clear hb
 cases hb:Nat.beq f 48 with
 | true =>
  obtain rfl:=Nat.eq_of_beq_eq_true hb
  simp only [hb,cond_true] at h
  split at h
  ·rename_i a1
   obtain⟨x1,e1,h⟩:=on_some h
   cases h
   refine⟨⟨_,_,Try.func48,by kernel_rfl,rfl⟩,fun hp w A vs hv=>?_⟩
   obtain⟨v1,rfl,h1⟩:=hv.at1
   have l1:=arg_R h1 e1
   exact(rplain_any x1 w v1 l1.lies).mono fun e w' he=>ret_B he
  ·cases h
 | false =>
 simp only [hb,cond_false] at h
 clear hb
 cases hb:Nat.beq f 19 with
 | true =>
  obtain rfl:=Nat.eq_of_beq_eq_true hb
  simp only [hb,cond_true] at h
  split at h
  ·rename_i a1
   obtain⟨x1,e1,h⟩:=on_some h
   cases h
   refine⟨⟨_,_,Try.func19,by kernel_rfl,rfl⟩,fun hp w A vs hv=>?_⟩
   obtain⟨v1,rfl,h1⟩:=hv.at1
   obtain⟨S1a,S1c,S1b,S1d,S1e,S1f,rfl,f1,l1⟩:=arg_F h1 e1
   exact(cright_any x1 A w S1a S1c S1b S1d S1e S1f f1 l1).mono fun e w' he=>ret_B he
  ·cases h
 | false =>
 simp only [hb,cond_false] at h
 clear hb
 cases hb:Nat.beq f 25 with
 | true =>
  obtain rfl:=Nat.eq_of_beq_eq_true hb
  simp only [hb,cond_true] at h
  split at h
  ·rename_i a1
   obtain⟨x1,e1,h⟩:=on_some h
   cases h
   refine⟨⟨_,_,Try.func25,by kernel_rfl,rfl⟩,fun hp w A vs hv=>?_⟩
   obtain⟨v1,rfl,h1⟩:=hv.at1
   obtain⟨S1a,S1c,S1b,S1d,S1e,S1f,rfl,f1,l1⟩:=arg_F h1 e1
   exact(rfright_any x1 A w S1a S1c S1b S1d S1e S1f f1 l1).mono fun e w' he=>ret_B he
  ·cases h
 | false =>
 simp only [hb,cond_false] at h
 clear hb
 cases hb:Nat.beq f 23 with
 | true =>
  obtain rfl:=Nat.eq_of_beq_eq_true hb
  simp only [hb,cond_true] at h
  split at h
  ·rename_i a1 a2 a3
   obtain⟨x1,e1,h⟩:=on_some h
   obtain⟨x2,e2,h⟩:=on_some h
   obtain⟨x3,e3,h⟩:=on_some h
   cases h
   refine⟨⟨_,_,Try.func23,by kernel_rfl,rfl⟩,fun hp w A vs hv=>?_⟩
   obtain⟨v1,v2,v3,rfl,h1,h2,h3⟩:=hv.at3
   obtain⟨S1a,S1c,S1b,S1d,S1e,S1f,rfl,f1,l1⟩:=arg_F h1 e1
   obtain⟨rfl,r2⟩:=arg_I h2 e2
   have l3:=arg_R h3 e3
   exact(cfuse_any x2 x1 x3 A w S1a S1c S1b S1d S1e S1f v3 f1 l1 r2 l3 hp.1.1 hp.2.1 hp.2.2.1).mono fun e w' he=>ret_T (six_fine r2 f1) he
  ·cases h
 | false =>
 simp only [hb,cond_false] at h
 clear hb
 cases hb:Nat.beq f 29 with
 | true =>
  obtain rfl:=Nat.eq_of_beq_eq_true hb
  simp only [hb,cond_true] at h
  split at h
  ·rename_i a1 a2 a3
   obtain⟨x1,e1,h⟩:=on_some h
   obtain⟨x2,e2,h⟩:=on_some h
   obtain⟨x3,e3,h⟩:=on_some h
   cases h
   refine⟨⟨_,_,Try.func29,by kernel_rfl,rfl⟩,fun hp w A vs hv=>?_⟩
   obtain⟨v1,v2,v3,rfl,h1,h2,h3⟩:=hv.at3
   obtain⟨rfl,r1⟩:=arg_I h1 e1
   obtain⟨S2a,S2c,S2b,S2d,S2e,S2f,rfl,f2,l2⟩:=arg_F h2 e2
   have l3:=arg_R h3 e3
   exact(rsix_any x1 x2 x3 A w S2a S2c S2b S2d S2e S2f v3 r1 f2 l2 l3 hp.1).mono fun e w' he=>ret_T (six_fine r1 f2) he
  ·cases h
 | false =>
 simp only [hb,cond_false] at h
 clear hb
 cases hb:Nat.beq f 28 with
 | true =>
  obtain rfl:=Nat.eq_of_beq_eq_true hb
  simp only [hb,cond_true] at h
  split at h
  ·rename_i a1 a2
   obtain⟨x1,e1,h⟩:=on_some h
   obtain⟨x2,e2,h⟩:=on_some h
   cases h
   refine⟨⟨_,_,Try.func28,by kernel_rfl,rfl⟩,fun hp w A vs hv=>?_⟩
   obtain⟨v1,v2,rfl,h1,h2⟩:=hv.at2
   obtain⟨rfl,r1⟩:=arg_I h1 e1
   have l2:=arg_R h2 e2
   exact(rnode_any x1 x2 A w v2 r1 l2 hp.1).mono fun e w' he=>ret_T (node_fine r1) he
  ·cases h
 | false =>
 simp only [hb,cond_false] at h
 clear hb
 cases hb:Nat.beq f 21 with
 | true =>
  obtain rfl:=Nat.eq_of_beq_eq_true hb
  simp only [hb,cond_true] at h
  split at h
  ·rename_i a1 a2
   obtain⟨x1,e1,h⟩:=on_some h
   obtain⟨x2,e2,h⟩:=on_some h
   cases h
   refine⟨⟨_,_,Try.func21,by kernel_rfl,rfl⟩,fun hp w A vs hv=>?_⟩
   obtain⟨v1,v2,rfl,h1,h2⟩:=hv.at2
   obtain⟨s1,rfl,f1,l1⟩:=arg_T h1 e1
   obtain⟨s2,rfl,f2,l2⟩:=arg_T h2 e2
   exact(put_any x1 x2 w s1 s2 l1.lies l2.lies hp.1 hp.2.1).mono fun e w' he=>ret_T (putB_fine x1 x2) he.givesP
  ·cases h
 | false =>
 simp only [hb,cond_false] at h
 clear hb
 cases hb:Nat.beq f 27 with
 | true =>
  obtain rfl:=Nat.eq_of_beq_eq_true hb
  simp only [hb,cond_true] at h
  split at h
  ·rename_i a1 a2
   obtain⟨x1,e1,h⟩:=on_some h
   obtain⟨x2,e2,h⟩:=on_some h
   cases h
   refine⟨⟨_,_,Try.func27,by kernel_rfl,rfl⟩,fun hp w A vs hv=>?_⟩
   obtain⟨v1,v2,rfl,h1,h2⟩:=hv.at2
   obtain⟨s1,rfl,f1,l1⟩:=arg_T h1 e1
   obtain⟨s2,rfl,f2,l2⟩:=arg_T h2 e2
   exact(refPutT_any x1 x2 w s1 s2 l1.lies l2.lies hp.1 hp.2.1).mono fun e w' he=>ret_T (putB_fine x1 x2) he.givesP
  ·cases h
 | false =>
 simp only [hb,cond_false] at h
 clear hb
 cases hb:Nat.beq f 46 with
 | true =>
  obtain rfl:=Nat.eq_of_beq_eq_true hb
  simp only [hb,cond_true] at h
  split at h
  ·rename_i a1
   obtain⟨x1,e1,h⟩:=on_some h
   cases h
   refine⟨⟨_,_,Try.func46,by kernel_rfl,rfl⟩,fun hp w A vs hv=>?_⟩
   obtain⟨v1,rfl,h1⟩:=hv.at1
   obtain⟨s1,rfl,f1,l1⟩:=arg_T h1 e1
   exact(copyPZ_any x1 w s1 l1.lies hp.1).mono fun e w' he=>ret_T (f1) he.givesP
  ·cases h
 | false =>
 simp only [hb,cond_false] at h
 clear hb
 cases hb:Nat.beq f 18 with
 | true =>
  obtain rfl:=Nat.eq_of_beq_eq_true hb
  simp only [hb,cond_true] at h
  split at h
  ·rename_i a1 a2
   obtain⟨x1,e1,h⟩:=on_some h
   obtain⟨x2,e2,h⟩:=on_some h
   cases h
   refine⟨⟨_,_,Try.func18,by kernel_rfl,rfl⟩,fun hp w A vs hv=>?_⟩
   obtain⟨v1,v2,rfl,h1,h2⟩:=hv.at2
   obtain⟨s1,rfl,f1,l1⟩:=arg_T h1 e1
   obtain⟨s2,rfl,f2,l2⟩:=arg_T h2 e2
   exact(keepsame_any x1 x2 w s1 s2 l1.lies l2.lies).mono fun e w' he=>ret_B he
  ·cases h
 | false =>
 simp only [hb,cond_false] at h
 clear hb
 cases hb:Nat.beq f 17 with
 | true =>
  obtain rfl:=Nat.eq_of_beq_eq_true hb
  simp only [hb,cond_true] at h
  split at h
  ·rename_i a1
   obtain⟨x1,e1,h⟩:=on_some h
   cases h
   refine⟨⟨_,_,Try.func17,by kernel_rfl,rfl⟩,fun hp w A vs hv=>?_⟩
   obtain⟨v1,v2,rfl,h1,h2⟩:=hv.at2
   obtain⟨rfl,-⟩:=arg_I (n:=120) h2 rfl
   have l1:=arg_R h1 e1
   exact(greatsX_any x1 120 (by decide) w v1 l1.lies).mono fun e w' he=>ret_B he
  ·cases h
 | false =>
 simp only [hb,cond_false] at h
 clear hb
 cases h
end Go.Proofs.Ytpdinlejmlbbeaa.Sd

namespace Go.Proofs.Ytpdinlejmlbbeaa.Sd
open Go Go.RowKit Se
theorem mixedCC:Try.prog.follows .mixedOrders=true:=by kernel_rfl
theorem S24_ok:SpecOk Try.prog S24:=inl_ok (liftS_ok baseC_ok) mixedCC (by kernel_rfl) 60 9
theorem fCC_at:Try.prog.funcs[3]? =some fCC:=by kernel_rfl
theorem fCC_one:(!Nat.beq fCC.results.size 1)=false:=by kernel_rfl
abbrev aCC (g:Fm) (a b:He):List (Bool × List (FL D24)):=[(true,fU g),(true,hU a),(true,hU b)]
abbrev CCok (vs:List Value) (w:World):Prop:=Calls Try.prog 3 vs.toArray w fun e w'=>e=.returned (.bool true)∧Kept w w'
abbrev I:=true
abbrev O:=false
theorem al {p:Prop} {l:List Prop} (h:p) (hl:AllP l):AllP (p::l):=⟨h,hl⟩
theorem an:AllP []:=trivial
theorem tt:true=true:=rfl
theorem ff:false=false:=rfl
theorem L (n m:Nat) (h:Nat.ble n m=true:=by rfl):n≤m:=Nat.le_of_ble_eq_true h
theorem p0:∀ x ∈ ([]:List Tm),x.plainB=true:=fun _ h=>by cases h
theorem p3:∀ x ∈ [Tm.mk 2 2 0 0 [],Tm.mk 2 3 0 0 [],Tm.mk 2 4 0 0 []],x.plainB=true:=plainL_iff.1 (by kernel_rfl)
theorem lf {g:Fm} {a b:He} (orc:List Bool) {cs:List Prop} {w:World} {A:Nat→Prop} {vs:List Value} (hv:F2 (ArgDen w A) (aCC g a b) vs) (hc:AllP cs) (h:call S24 Try.prog 60 fCC (aCC g a b) orc=some ([(false,[.bool true])],cs,[]):=by kernel_rfl):CCok vs w:=by
 have H:=call_ok S24_ok mixedCC fCC_at h hc hv
 rw [fCC_one] at H
 refine H.mono fun e w' he=>?_
 obtain⟨v,rfl,⟨r,hr,hd⟩,hb⟩:=he
 cases hr
 obtain⟨l,hl,hd⟩:=hd
 cases hl
 obtain rfl:=hd
 exact⟨rfl,hb⟩
theorem dsm {l:List Tm} {t:Tm} (h:grtB l 120=false) (ht:t ∈ l):t.deep≤100000:=by have:=((grtB_no h).2 t ht).2;omega
theorem dsn {l:List Tm} {t:Tm} (h:grtB l 120=false) (ht:t ∈ l):(nodeT 18 [t]).deep≤100000:=by
 have:=((grtB_no h).2 t ht).2
 have e:=(nodeT 18 [t]).deep_eq
 rw [e]
 simp only [nodeT,mk_kids,deeps]
 omega
set_option maxRecDepth 20000 in
set_option maxHeartbeats 4000000 in
theorem cc0 (g:Fm) (a b:He) {w:World} {A:Nat→Prop} {vs:List Value} (hv:F2 (ArgDen w A) (aCC g a b) vs) (h0:grtB [re g.a,re g.c,re g.b,re g.d,re g.e,re g.f] 120=false) (h1:grtB [re a.a,re a.b,re a.x,re a.y,re a.h] 120=false) (h2:grtB [re b.a,re b.b,re b.x,re b.y,re b.h] 120=false) (kF:fmR (⟨g.i,g.j,re g.a,re g.c,re g.b,re g.d,re g.e,re g.f⟩:Fm)=false):CCok vs w:=by
 exact lf [O,O,O,O,O,I,I,I,I,I,O,O,I,I,I,I,I,O,O,I,I,I,I,I,O,O,I,I,I,I,I,I,I,I,I,I,I,I,O] hv (al h0<|al h1<|al h2<|al kF<|al kF<|al tt<|al tt<|al tt<|al tt<|al tt<|al kF<|al kF<|al tt<|al tt<|al tt<|al tt<|al tt<|al kF<|al kF<|al tt<|al tt<|al tt<|al tt<|al tt<|al kF<|al kF<|al tt<|al tt<|al tt<|al tt<|al tt<|al tt<|al tt<|al (And.intro tt trivial)<|al p3<|al (L 3 900)<|al (Or.inl tt:(Tm.mk 1 0 0 0 []).plainB=true∨Tm.mk 1 0 0 0 []=.zero)<|al (Or.inl tt:(Tm.mk 1 0 0 0 []).plainB=true∨Tm.mk 1 0 0 0 []=.zero)<|al (Or.inl tt:(Tm.mk 18 0 0 0 [Tm.mk 2 2 0 0 []]).plainB=true∨Tm.mk 18 0 0 0 [Tm.mk 2 2 0 0 []]=.zero)<|al (Or.inl tt:(Tm.mk 18 0 0 0 [Tm.mk 2 3 0 0 []]).plainB=true∨Tm.mk 18 0 0 0 [Tm.mk 2 3 0 0 []]=.zero)<|al tt<|al tt<|al tt<|al tt<|al (And.intro tt trivial)<|al p0<|al (L 0 900)<|al tt<|al ff<|an)
set_option maxRecDepth 20000 in
set_option maxHeartbeats 4000000 in
theorem cctt (g:Fm) (a b:He) {w:World} {A:Nat→Prop} {vs:List Value} (hv:F2 (ArgDen w A) (aCC g a b) vs) (h0:grtB [re g.a,re g.c,re g.b,re g.d,re g.e,re g.f] 120=false) (h1:grtB [re a.a,re a.b,re a.x,re a.y,re a.h] 120=false) (h2:grtB [re b.a,re b.b,re b.x,re b.y,re b.h] 120=false) (kF:fmR (⟨g.i,g.j,re g.a,re g.c,re g.b,re g.d,re g.e,re g.f⟩:Fm)=true) (kA:plainL [re a.x,re a.y,re a.h]=true) (kB:plainL [re b.x,re b.y,re b.h]=true):CCok vs w:=by
 have pg:∀ x ∈ [re g.a,re g.c,re g.b,re g.d,re g.e,re g.f],x.plainB=true:=fmR_pl (g:=⟨g.i,g.j,re g.a,re g.c,re g.b,re g.d,re g.e,re g.f⟩) kF
 have pA:∀ x ∈ [re a.x,re a.y,re a.h],x.plainB=true:=plainL_iff.1 kA
 have pB:∀ x ∈ [re b.x,re b.y,re b.h],x.plainB=true:=plainL_iff.1 kB
 have pAB:∀ x ∈ [re a.x,re a.y,re a.h,re b.x,re b.y,re b.h],x.plainB=true:=plain_app (l1:=[re a.x,re a.y,re a.h]) pA pB
 have db:(re g.b).deep≤100000:=dsm h0 (by simp)
 have dd:(re g.d).deep≤100000:=dsm h0 (by simp)
 have dbx:(re b.x).deep≤100000:=dsm h2 (by simp)
 have dby:(re b.y).deep≤100000:=dsm h2 (by simp)
 have dnx:(nodeT 18 [re a.x]).deep≤100000:=dsn h1 (by simp)
 have dny:(nodeT 18 [re a.y]).deep≤100000:=dsn h1 (by simp)
 have za:(re g.a).plainB=true∨re g.a=.zero:=Or.inl (pg _ (by simp))
 have zc:(re g.c).plainB=true∨re g.c=.zero:=Or.inl (pg _ (by simp))
 have z15x:(nodeT 15 [re a.x,re b.x]).plainB=true∨nodeT 15 [re a.x,re b.x]=.zero:=Or.inl (node_plain rfl rfl rfl (by intro x hx;simp only [List.mem_cons,List.not_mem_nil,or_false] at hx;rcases hx with rfl | rfl;exact pA _ (by simp);exact pB _ (by simp)))
 have z15y:(nodeT 15 [re a.y,re b.y]).plainB=true∨nodeT 15 [re a.y,re b.y]=.zero:=Or.inl (node_plain rfl rfl rfl (by intro x hx;simp only [List.mem_cons,List.not_mem_nil,or_false] at hx;rcases hx with rfl | rfl;exact pA _ (by simp);exact pB _ (by simp)))
 have z16a:(nodeT 16 [re g.a,re g.b]).plainB=true∨nodeT 16 [re g.a,re g.b]=.zero:=Or.inl (node_plain rfl rfl rfl (by intro x hx;simp only [List.mem_cons,List.not_mem_nil,or_false] at hx;rcases hx with rfl | rfl;exact pg _ (by simp);exact pg _ (by simp)))
 have z16c:(nodeT 16 [re g.c,re g.d]).plainB=true∨nodeT 16 [re g.c,re g.d]=.zero:=Or.inl (node_plain rfl rfl rfl (by intro x hx;simp only [List.mem_cons,List.not_mem_nil,or_false] at hx;rcases hx with rfl | rfl;exact pg _ (by simp);exact pg _ (by simp)))
 have z17a:(nodeT 17 [re g.a,re g.b,re a.x,re b.x]).plainB=true∨nodeT 17 [re g.a,re g.b,re a.x,re b.x]=.zero:=Or.inl (node_plain rfl rfl rfl (by intro x hx;simp only [List.mem_cons,List.not_mem_nil,or_false] at hx;rcases hx with rfl | rfl | rfl | rfl;exact pg _ (by simp);exact pg _ (by simp);exact pA _ (by simp);exact pB _ (by simp)))
 have z17c:(nodeT 17 [re g.c,re g.d,re a.y,re b.y]).plainB=true∨nodeT 17 [re g.c,re g.d,re a.y,re b.y]=.zero:=Or.inl (node_plain rfl rfl rfl (by intro x hx;simp only [List.mem_cons,List.not_mem_nil,or_false] at hx;rcases hx with rfl | rfl | rfl | rfl;exact pg _ (by simp);exact pg _ (by simp);exact pA _ (by simp);exact pB _ (by simp)))
 have z18x:(nodeT 18 [re a.x]).plainB=true∨nodeT 18 [re a.x]=.zero:=Or.inl (node_plain rfl rfl rfl (by intro x hx;simp only [List.mem_cons,List.not_mem_nil,or_false] at hx;obtain rfl:=hx;exact pA _ (by simp)))
 have z18y:(nodeT 18 [re a.y]).plainB=true∨nodeT 18 [re a.y]=.zero:=Or.inl (node_plain rfl rfl rfl (by intro x hx;simp only [List.mem_cons,List.not_mem_nil,or_false] at hx;obtain rfl:=hx;exact pA _ (by simp)))
 have z19x:(nodeT 19 [re a.x]).plainB=true∨nodeT 19 [re a.x]=.zero:=Or.inl (node_plain rfl rfl rfl (by intro x hx;simp only [List.mem_cons,List.not_mem_nil,or_false] at hx;obtain rfl:=hx;exact pA _ (by simp)))
 have z19y:(nodeT 19 [re a.y]).plainB=true∨nodeT 19 [re a.y]=.zero:=Or.inl (node_plain rfl rfl rfl (by intro x hx;simp only [List.mem_cons,List.not_mem_nil,or_false] at hx;obtain rfl:=hx;exact pA _ (by simp)))
 have qb:(re ((re g.b).putB (re b.x))).plainB=true∨re ((re g.b).putB (re b.x))=.zero:=by rw [re_eq];exact put_plain (pg _ (by simp)) (pB _ (by simp))
 have qd:(re ((re g.d).putB (re b.y))).plainB=true∨re ((re g.d).putB (re b.y))=.zero:=by rw [re_eq];exact put_plain (pg _ (by simp)) (pB _ (by simp))
 have qbn:(re ((re g.b).putB (nodeT 18 [re a.x]))).plainB=true∨re ((re g.b).putB (nodeT 18 [re a.x]))=.zero:=by rw [re_eq];exact put_plain (pg _ (by simp)) (node_plain rfl rfl rfl (by intro x hx;simp only [List.mem_cons,List.not_mem_nil,or_false] at hx;obtain rfl:=hx;exact pA _ (by simp)))
 have qdn:(re ((re g.d).putB (nodeT 18 [re a.y]))).plainB=true∨re ((re g.d).putB (nodeT 18 [re a.y]))=.zero:=by rw [re_eq];exact put_plain (pg _ (by simp)) (node_plain rfl rfl rfl (by intro x hx;simp only [List.mem_cons,List.not_mem_nil,or_false] at hx;obtain rfl:=hx;exact pA _ (by simp)))
 have eI:(g.i==g.i)=true:=by simp
 have eJ:(g.j==g.j)=true:=by simp
 have eM:(max g.i g.j==max g.i g.j)=true:=by simp
 exact lf [O,O,O,I,I,I,I,I,I,I,I,I,I,I,I,I,I,I,I,I,I,I,I,I,I,I,I,I,I,I,I,I,I,I,I,I,I,I,I,I,I,I,I,I,I,I,I,I,I,I,I,I,I,I,O] hv (al h0<|al h1<|al h2<|al kF<|al kA<|al kB<|al db<|al dbx<|al dd<|al dby<|al (And.intro kF trivial)<|al pAB<|al (L 6 900)<|al qb<|al qd<|al z15x<|al z15y<|al kF<|al kA<|al kB<|al db<|al dbx<|al dd<|al dby<|al (L 2 1000)<|al (L 2 1000)<|al (L 6 900)<|al eJ<|al (sameB_self (re ((re g.b).putB (re b.x))))<|al (sameB_self (re ((re g.d).putB (re b.y))))<|al (sameB_self (Tm.mk 15 0 0 0 [re a.x,re b.x]))<|al (sameB_self (Tm.mk 15 0 0 0 [re a.y,re b.y]))<|al (sameB_self (sixT 16 (⟨g.i,g.j,re g.a,re g.c,re g.b,re g.d,re g.e,re g.f⟩:Fm) [re a.x,re a.y,re a.h,re b.x,re b.y,re b.h]))<|al kF<|al kA<|al kB<|al (And.intro kF trivial)<|al pAB<|al (L 6 900)<|al z16a<|al z16c<|al z17a<|al z17c<|al kF<|al kB<|al kA<|al (L 2 1000)<|al (L 2 1000)<|al (L 4 1000)<|al (L 4 1000)<|al (L 6 900)<|al eM<|al (sameB_self (Tm.mk 16 0 0 0 [re g.a,re g.b]))<|al (sameB_self (Tm.mk 16 0 0 0 [re g.c,re g.d]))<|al (sameB_self (Tm.mk 17 0 0 0 [re g.a,re g.b,re a.x,re b.x]))<|al (sameB_self (Tm.mk 17 0 0 0 [re g.c,re g.d,re a.y,re b.y]))<|al (sameB_self (sixT 17 (⟨g.i,g.j,re g.a,re g.c,re g.b,re g.d,re g.e,re g.f⟩:Fm) [re a.x,re a.y,re a.h,re b.x,re b.y,re b.h]))<|al kF<|al kA<|al (And.intro kF trivial)<|al pA<|al (L 3 900)<|al za<|al zc<|al z18x<|al z18y<|al kF<|al kA<|al (L 1 1000)<|al (L 1 1000)<|al (L 3 900)<|al eI<|al (sameB_self (re g.a))<|al (sameB_self (re g.c))<|al (sameB_self (Tm.mk 18 0 0 0 [re a.x]))<|al (sameB_self (Tm.mk 18 0 0 0 [re a.y]))<|al (sameB_self (sixT 18 (⟨g.i,g.j,re g.a,re g.c,re g.b,re g.d,re g.e,re g.f⟩:Fm) [re a.x,re a.y,re a.h]))<|al kF<|al kA<|al db<|al dnx<|al dd<|al dny<|al (And.intro kF trivial)<|al pA<|al (L 3 900)<|al qbn<|al qdn<|al z19x<|al z19y<|al kF<|al kA<|al (L 1 1000)<|al db<|al dnx<|al (L 1 1000)<|al dd<|al dny<|al (L 1 1000)<|al (L 1 1000)<|al (L 3 900)<|al eJ<|al (sameB_self (re ((re g.b).putB (Tm.mk 18 0 0 0 [re a.x]))))<|al (sameB_self (re ((re g.d).putB (Tm.mk 18 0 0 0 [re a.y]))))<|al (sameB_self (Tm.mk 19 0 0 0 [re a.x]))<|al (sameB_self (Tm.mk 19 0 0 0 [re a.y]))<|al (sameB_self (sixT 19 (⟨g.i,g.j,re g.a,re g.c,re g.b,re g.d,re g.e,re g.f⟩:Fm) [re a.x,re a.y,re a.h]))<|al tt<|al tt<|al (And.intro tt trivial)<|al p3<|al (L 3 900)<|al (Or.inl tt:(Tm.mk 1 0 0 0 []).plainB=true∨Tm.mk 1 0 0 0 []=.zero)<|al (Or.inl tt:(Tm.mk 1 0 0 0 []).plainB=true∨Tm.mk 1 0 0 0 []=.zero)<|al (Or.inl tt:(Tm.mk 18 0 0 0 [Tm.mk 2 2 0 0 []]).plainB=true∨Tm.mk 18 0 0 0 [Tm.mk 2 2 0 0 []]=.zero)<|al (Or.inl tt:(Tm.mk 18 0 0 0 [Tm.mk 2 3 0 0 []]).plainB=true∨Tm.mk 18 0 0 0 [Tm.mk 2 3 0 0 []]=.zero)<|al tt<|al tt<|al tt<|al tt<|al (And.intro tt trivial)<|al p0<|al (L 0 900)<|al tt<|al ff<|an)
set_option maxRecDepth 20000 in
set_option maxHeartbeats 4000000 in
theorem cctf (g:Fm) (a b:He) {w:World} {A:Nat→Prop} {vs:List Value} (hv:F2 (ArgDen w A) (aCC g a b) vs) (h0:grtB [re g.a,re g.c,re g.b,re g.d,re g.e,re g.f] 120=false) (h1:grtB [re a.a,re a.b,re a.x,re a.y,re a.h] 120=false) (h2:grtB [re b.a,re b.b,re b.x,re b.y,re b.h] 120=false) (kF:fmR (⟨g.i,g.j,re g.a,re g.c,re g.b,re g.d,re g.e,re g.f⟩:Fm)=true) (kA:plainL [re a.x,re a.y,re a.h]=true) (kB:plainL [re b.x,re b.y,re b.h]=false):CCok vs w:=by
 have pg:∀ x ∈ [re g.a,re g.c,re g.b,re g.d,re g.e,re g.f],x.plainB=true:=fmR_pl (g:=⟨g.i,g.j,re g.a,re g.c,re g.b,re g.d,re g.e,re g.f⟩) kF
 have pA:∀ x ∈ [re a.x,re a.y,re a.h],x.plainB=true:=plainL_iff.1 kA
 have db:(re g.b).deep≤100000:=dsm h0 (by simp)
 have dd:(re g.d).deep≤100000:=dsm h0 (by simp)
 have dnx:(nodeT 18 [re a.x]).deep≤100000:=dsn h1 (by simp)
 have dny:(nodeT 18 [re a.y]).deep≤100000:=dsn h1 (by simp)
 have za:(re g.a).plainB=true∨re g.a=.zero:=Or.inl (pg _ (by simp))
 have zc:(re g.c).plainB=true∨re g.c=.zero:=Or.inl (pg _ (by simp))
 have z18x:(nodeT 18 [re a.x]).plainB=true∨nodeT 18 [re a.x]=.zero:=Or.inl (node_plain rfl rfl rfl (by intro x hx;simp only [List.mem_cons,List.not_mem_nil,or_false] at hx;obtain rfl:=hx;exact pA _ (by simp)))
 have z18y:(nodeT 18 [re a.y]).plainB=true∨nodeT 18 [re a.y]=.zero:=Or.inl (node_plain rfl rfl rfl (by intro x hx;simp only [List.mem_cons,List.not_mem_nil,or_false] at hx;obtain rfl:=hx;exact pA _ (by simp)))
 have z19x:(nodeT 19 [re a.x]).plainB=true∨nodeT 19 [re a.x]=.zero:=Or.inl (node_plain rfl rfl rfl (by intro x hx;simp only [List.mem_cons,List.not_mem_nil,or_false] at hx;obtain rfl:=hx;exact pA _ (by simp)))
 have z19y:(nodeT 19 [re a.y]).plainB=true∨nodeT 19 [re a.y]=.zero:=Or.inl (node_plain rfl rfl rfl (by intro x hx;simp only [List.mem_cons,List.not_mem_nil,or_false] at hx;obtain rfl:=hx;exact pA _ (by simp)))
 have qbn:(re ((re g.b).putB (nodeT 18 [re a.x]))).plainB=true∨re ((re g.b).putB (nodeT 18 [re a.x]))=.zero:=by rw [re_eq];exact put_plain (pg _ (by simp)) (node_plain rfl rfl rfl (by intro x hx;simp only [List.mem_cons,List.not_mem_nil,or_false] at hx;obtain rfl:=hx;exact pA _ (by simp)))
 have qdn:(re ((re g.d).putB (nodeT 18 [re a.y]))).plainB=true∨re ((re g.d).putB (nodeT 18 [re a.y]))=.zero:=by rw [re_eq];exact put_plain (pg _ (by simp)) (node_plain rfl rfl rfl (by intro x hx;simp only [List.mem_cons,List.not_mem_nil,or_false] at hx;obtain rfl:=hx;exact pA _ (by simp)))
 have eI:(g.i==g.i)=true:=by simp
 have eJ:(g.j==g.j)=true:=by simp
 exact lf [O,O,O,I,I,O,I,I,O,I,I,I,I,I,I,I,O,I,O,I,I,I,I,I,I,I,I,I,I,I,I,I,I,I,I,I,I,I,I,I,I,I,I,I,I,I,I,I,I,I,I,O] hv (al h0<|al h1<|al h2<|al kF<|al kA<|al kB<|al kF<|al kA<|al kB<|al tt<|al tt<|al tt<|al tt<|al tt<|al kF<|al kA<|al kB<|al kF<|al kB<|al tt<|al tt<|al tt<|al tt<|al tt<|al kF<|al kA<|al (And.intro kF trivial)<|al pA<|al (L 3 900)<|al za<|al zc<|al z18x<|al z18y<|al kF<|al kA<|al (L 1 1000)<|al (L 1 1000)<|al (L 3 900)<|al eI<|al (sameB_self (re g.a))<|al (sameB_self (re g.c))<|al (sameB_self (Tm.mk 18 0 0 0 [re a.x]))<|al (sameB_self (Tm.mk 18 0 0 0 [re a.y]))<|al (sameB_self (sixT 18 (⟨g.i,g.j,re g.a,re g.c,re g.b,re g.d,re g.e,re g.f⟩:Fm) [re a.x,re a.y,re a.h]))<|al kF<|al kA<|al db<|al dnx<|al dd<|al dny<|al (And.intro kF trivial)<|al pA<|al (L 3 900)<|al qbn<|al qdn<|al z19x<|al z19y<|al kF<|al kA<|al (L 1 1000)<|al db<|al dnx<|al (L 1 1000)<|al dd<|al dny<|al (L 1 1000)<|al (L 1 1000)<|al (L 3 900)<|al eJ<|al (sameB_self (re ((re g.b).putB (Tm.mk 18 0 0 0 [re a.x]))))<|al (sameB_self (re ((re g.d).putB (Tm.mk 18 0 0 0 [re a.y]))))<|al (sameB_self (Tm.mk 19 0 0 0 [re a.x]))<|al (sameB_self (Tm.mk 19 0 0 0 [re a.y]))<|al (sameB_self (sixT 19 (⟨g.i,g.j,re g.a,re g.c,re g.b,re g.d,re g.e,re g.f⟩:Fm) [re a.x,re a.y,re a.h]))<|al tt<|al tt<|al (And.intro tt trivial)<|al p3<|al (L 3 900)<|al (Or.inl tt:(Tm.mk 1 0 0 0 []).plainB=true∨Tm.mk 1 0 0 0 []=.zero)<|al (Or.inl tt:(Tm.mk 1 0 0 0 []).plainB=true∨Tm.mk 1 0 0 0 []=.zero)<|al (Or.inl tt:(Tm.mk 18 0 0 0 [Tm.mk 2 2 0 0 []]).plainB=true∨Tm.mk 18 0 0 0 [Tm.mk 2 2 0 0 []]=.zero)<|al (Or.inl tt:(Tm.mk 18 0 0 0 [Tm.mk 2 3 0 0 []]).plainB=true∨Tm.mk 18 0 0 0 [Tm.mk 2 3 0 0 []]=.zero)<|al tt<|al tt<|al tt<|al tt<|al (And.intro tt trivial)<|al p0<|al (L 0 900)<|al tt<|al ff<|an)
set_option maxRecDepth 20000 in
set_option maxHeartbeats 4000000 in
theorem ccft (g:Fm) (a b:He) {w:World} {A:Nat→Prop} {vs:List Value} (hv:F2 (ArgDen w A) (aCC g a b) vs) (h0:grtB [re g.a,re g.c,re g.b,re g.d,re g.e,re g.f] 120=false) (h1:grtB [re a.a,re a.b,re a.x,re a.y,re a.h] 120=false) (h2:grtB [re b.a,re b.b,re b.x,re b.y,re b.h] 120=false) (kF:fmR (⟨g.i,g.j,re g.a,re g.c,re g.b,re g.d,re g.e,re g.f⟩:Fm)=true) (kA:plainL [re a.x,re a.y,re a.h]=false) (kB:plainL [re b.x,re b.y,re b.h]=true):CCok vs w:=by
 exact lf [O,O,O,I,O,I,O,I,I,I,I,I,I,O,I,I,O,I,I,I,I,I,I,O,I,O,I,I,I,I,I,I,O,I,O,I,I,I,I,I,I,I,I,I,I,I,I,O] hv (al h0<|al h1<|al h2<|al kF<|al kA<|al kF<|al kA<|al tt<|al tt<|al tt<|al tt<|al tt<|al kF<|al kA<|al kF<|al kB<|al kA<|al tt<|al tt<|al tt<|al tt<|al tt<|al kF<|al kA<|al kF<|al kA<|al tt<|al tt<|al tt<|al tt<|al tt<|al kF<|al kA<|al kF<|al kA<|al tt<|al tt<|al tt<|al tt<|al tt<|al tt<|al tt<|al (And.intro tt trivial)<|al p3<|al (L 3 900)<|al (Or.inl tt:(Tm.mk 1 0 0 0 []).plainB=true∨Tm.mk 1 0 0 0 []=.zero)<|al (Or.inl tt:(Tm.mk 1 0 0 0 []).plainB=true∨Tm.mk 1 0 0 0 []=.zero)<|al (Or.inl tt:(Tm.mk 18 0 0 0 [Tm.mk 2 2 0 0 []]).plainB=true∨Tm.mk 18 0 0 0 [Tm.mk 2 2 0 0 []]=.zero)<|al (Or.inl tt:(Tm.mk 18 0 0 0 [Tm.mk 2 3 0 0 []]).plainB=true∨Tm.mk 18 0 0 0 [Tm.mk 2 3 0 0 []]=.zero)<|al tt<|al tt<|al tt<|al tt<|al (And.intro tt trivial)<|al p0<|al (L 0 900)<|al tt<|al ff<|an)
set_option maxRecDepth 20000 in
set_option maxHeartbeats 4000000 in
theorem ccff (g:Fm) (a b:He) {w:World} {A:Nat→Prop} {vs:List Value} (hv:F2 (ArgDen w A) (aCC g a b) vs) (h0:grtB [re g.a,re g.c,re g.b,re g.d,re g.e,re g.f] 120=false) (h1:grtB [re a.a,re a.b,re a.x,re a.y,re a.h] 120=false) (h2:grtB [re b.a,re b.b,re b.x,re b.y,re b.h] 120=false) (kF:fmR (⟨g.i,g.j,re g.a,re g.c,re g.b,re g.d,re g.e,re g.f⟩:Fm)=true) (kA:plainL [re a.x,re a.y,re a.h]=false) (kB:plainL [re b.x,re b.y,re b.h]=false):CCok vs w:=by
 exact lf [O,O,O,I,O,I,O,I,I,I,I,I,I,O,I,O,I,I,I,I,I,I,O,I,O,I,I,I,I,I,I,O,I,O,I,I,I,I,I,I,I,I,I,I,I,I,O] hv (al h0<|al h1<|al h2<|al kF<|al kA<|al kF<|al kA<|al tt<|al tt<|al tt<|al tt<|al tt<|al kF<|al kA<|al kF<|al kB<|al tt<|al tt<|al tt<|al tt<|al tt<|al kF<|al kA<|al kF<|al kA<|al tt<|al tt<|al tt<|al tt<|al tt<|al kF<|al kA<|al kF<|al kA<|al tt<|al tt<|al tt<|al tt<|al tt<|al tt<|al tt<|al (And.intro tt trivial)<|al p3<|al (L 3 900)<|al (Or.inl tt:(Tm.mk 1 0 0 0 []).plainB=true∨Tm.mk 1 0 0 0 []=.zero)<|al (Or.inl tt:(Tm.mk 1 0 0 0 []).plainB=true∨Tm.mk 1 0 0 0 []=.zero)<|al (Or.inl tt:(Tm.mk 18 0 0 0 [Tm.mk 2 2 0 0 []]).plainB=true∨Tm.mk 18 0 0 0 [Tm.mk 2 2 0 0 []]=.zero)<|al (Or.inl tt:(Tm.mk 18 0 0 0 [Tm.mk 2 3 0 0 []]).plainB=true∨Tm.mk 18 0 0 0 [Tm.mk 2 3 0 0 []]=.zero)<|al tt<|al tt<|al tt<|al tt<|al (And.intro tt trivial)<|al p0<|al (L 0 900)<|al tt<|al ff<|an)
theorem den_T {w:World} {P:Nat→Prop} {t:Tm} {s:Value} (hf:t.fine) (hk:LiesQ w P t.kids s):F2 (FLDen w P) (tU t) [.int .i64 t.k,.int .i64 t.i,.int .i64 t.j,.int .i64 t.n,s]:=ups_den (tmF_den hf hk)
theorem den_F {w:World} {P:Nat→Prop} {g:Fm} {sa sc sb sd se sf:Value} (hf:g.fine) (h:FQ w P g sa sc sb sd se sf):ArgDen w P (true,fU g) (fv g sa sc sb sd se sf) :=
 ⟨.int .i64 g.i:: .int .i64 g.j::([.int .i64 g.a.k,.int .i64 g.a.i,.int .i64 g.a.j,.int .i64 g.a.n,sa]++([.int .i64 g.c.k,.int .i64 g.c.i,.int .i64 g.c.j,.int .i64 g.c.n,sc]++([.int .i64 g.b.k,.int .i64 g.b.i,.int .i64 g.b.j,.int .i64 g.b.n,sb]++([.int .i64 g.d.k,.int .i64 g.d.i,.int .i64 g.d.j,.int .i64 g.d.n,sd]++([.int .i64 g.e.k,.int .i64 g.e.i,.int .i64 g.e.j,.int .i64 g.e.n,se]++[.int .i64 g.f.k,.int .i64 g.f.i,.int .i64 g.f.j,.int .i64 g.f.n,sf]))))),rfl,
   ⟨rfl,hf.1⟩,⟨rfl,hf.2.1⟩,(den_T hf.2.2.1 h.1).append ((den_T hf.2.2.2.1 h.2.1).append ((den_T hf.2.2.2.2.1 h.2.2.1).append ((den_T hf.2.2.2.2.2.1 h.2.2.2.1).append ((den_T hf.2.2.2.2.2.2.1 h.2.2.2.2.1).append (den_T hf.2.2.2.2.2.2.2 h.2.2.2.2.2)))))⟩
theorem den_H {w:World} {P:Nat→Prop} {h:He} {sa sb sx sy sh:Value} (hf:h.fine) (l:HQ w P h sa sb sx sy sh):ArgDen w P (true,hU h) (hv h sa sb sx sy sh) :=
 ⟨.int .i64 h.i::([.int .i64 h.a.k,.int .i64 h.a.i,.int .i64 h.a.j,.int .i64 h.a.n,sa]++([.int .i64 h.b.k,.int .i64 h.b.i,.int .i64 h.b.j,.int .i64 h.b.n,sb]++([.int .i64 h.x.k,.int .i64 h.x.i,.int .i64 h.x.j,.int .i64 h.x.n,sx]++([.int .i64 h.y.k,.int .i64 h.y.i,.int .i64 h.y.j,.int .i64 h.y.n,sy]++[.int .i64 h.h.k,.int .i64 h.h.i,.int .i64 h.h.j,.int .i64 h.h.n,sh])))),rfl,
   ⟨rfl,hf.1⟩,(den_T hf.2.1 l.1).append ((den_T hf.2.2.1 l.2.1).append ((den_T hf.2.2.2.1 l.2.2.1).append ((den_T hf.2.2.2.2.1 l.2.2.2.1).append (den_T hf.2.2.2.2.2 l.2.2.2.2))))⟩
set_option maxRecDepth 20000 in
theorem cc_any (g:Fm) (a b:He) {w:World} {A:Nat→Prop} {vs:List Value} (hv:F2 (ArgDen w A) (aCC g a b) vs):CCok vs w:=by
 cases h0:grtB [re g.a,re g.c,re g.b,re g.d,re g.e,re g.f] 120 with
 | true=>exact lf [I] hv (al h0 an)
 | false =>
  cases h1:grtB [re a.a,re a.b,re a.x,re a.y,re a.h] 120 with
  | true=>exact lf [O,I] hv (al h0<|al h1 an)
  | false =>
   cases h2:grtB [re b.a,re b.b,re b.x,re b.y,re b.h] 120 with
   | true=>exact lf [O,O,I] hv (al h0<|al h1<|al h2 an)
   | false =>
    cases kF:fmR (⟨g.i,g.j,re g.a,re g.c,re g.b,re g.d,re g.e,re g.f⟩:Fm) with
    | false=>exact cc0 g a b hv h0 h1 h2 kF
    | true =>
     cases kA:plainL [re a.x,re a.y,re a.h] with
     | true =>
      cases kB:plainL [re b.x,re b.y,re b.h] with
      | true=>exact cctt g a b hv h0 h1 h2 kF kA kB
      | false=>exact cctf g a b hv h0 h1 h2 kF kA kB
     | false =>
      cases kB:plainL [re b.x,re b.y,re b.h] with
      | true=>exact ccft g a b hv h0 h1 h2 kF kA kB
      | false=>exact ccff g a b hv h0 h1 h2 kF kA kB
end Go.Proofs.Ytpdinlejmlbbeaa.Sd
namespace Go.Proofs.Ytpdinlejmlbbeaa
open Go Go.RowKit
theorem congCalls_any (r:He) (s:He) (g:Fm) (P:Nat→Prop) (w:World) (sga:Value) (sgc:Value) (sgb:Value) (sgd:Value) (sge:Value) (sgf:Value) (sra:Value) (srb:Value) (srx:Value) (sry:Value) (srh:Value) (ssa:Value) (ssb:Value) (ssx:Value) (ssy:Value) (ssh:Value) (hfg:g.fine) (hlg:FQ w P g sga sgc sgb sgd sge sgf) (hfr:r.fine) (hlr:HQ w P r sra srb srx sry srh) (hfs:s.fine) (hls:HQ w P s ssa ssb ssx ssy ssh):Calls Try.prog 3 #[fv g sga sgc sgb sgd sge sgf,hv r sra srb srx sry srh,hv s ssa ssb ssx ssy ssh] w fun e w'=>e=.returned (.bool true)∧Kept w w' :=
 Sd.cc_any g r s (A:=P) (vs:=[fv g sga sgc sgb sgd sge sgf,hv r sra srb srx sry srh,hv s ssa ssb ssx ssy ssh]) ⟨Sd.den_F hfg hlg,Sd.den_H hfr hlr,Sd.den_H hfs hls,trivial⟩
end Go.Proofs.Ytpdinlejmlbbeaa

namespace Go.Proofs.Ytpdinlejmlbbeaa
open Go.ChangeShapes Go.WideShapes Go.ChangeAt Go.RowKit
theorem own:ownKnob Try.prog.godebug=none:=by kernel_rfl
theorem cells_int:Try.prog.cellsOf 3=1:=by kernel_rfl
theorem cells_kids:Try.prog.cellsOf 22=1:=by kernel_rfl
theorem cells_term:Try.prog.cellsOf 24=5:=by kernel_rfl
theorem laidOut:laidOutB Try.prog=true:=by kernel_rfl
instance instOpenTm:Inhabited (Tm × Value):=⟨(.mk 0 0 0 0 [],.nilIface)⟩
theorem list5 {α:Type} {l:List α} (h:l.length=5):∃ a b c d e,l=[a,b,c,d,e]:=by
 match l,h with
 | [a,b,c,d,e],_=>exact⟨a,b,c,d,e,rfl⟩
theorem wf_I64 {x:Int} (h:(Lit.int .i64 x).wf=true):I64 x:=by
 simp [Lit.wf] at h
 have hm:IntKind.i64.min=-9223372036854775808:=by decide
 rw [hm] at h
 exact h
set_option maxRecDepth 100000 in
theorem open_term {H:Type} {enc:TypeId × Value→H} {w:World} {base:Nat} {sp:Nat→Bool} {hd:Bool}:∀ (fuel:Nat) (cs:List Value) (x:DataW H × List MemPlace),
 DataW.trod enc Try.prog w base sp hd fuel 24 cs=some x→∃ (t:Tm) (s:Value),cs=[.int .i64 t.k,.int .i64 t.i,.int .i64 t.j,.int .i64 t.n,s]∧t.fine∧Lies w t.kids s:=by
 intro fuel
 induction fuel using Nat.strongRecOn with
 | _ fuel ih =>
  intro cs x h
  obtain⟨xs,n,rfl,rfl,hl,hlen,hf⟩:=DataW.trod_struct Try.underlying24 h
  rw [cells_term] at hl
  obtain⟨v0,v1,v2,v3,v4,rfl⟩:=list5 hl
  obtain⟨y0,y1,y2,y3,y4,rfl⟩:=list5 hlen
  have g0:=hf 0 _ rfl
  have g1:=hf 1 _ rfl
  have g2:=hf 2 _ rfl
  have g3:=hf 3 _ rfl
  have g4:=hf 4 _ rfl
  simp [cells_int,cells_kids] at g0 g1 g2 g3 g4
  obtain⟨k,e0,-,w0⟩:=DataW.trod_int Try.underlying3 g0
  obtain⟨i,e1,-,w1⟩:=DataW.trod_int Try.underlying3 g1
  obtain⟨j,e2,-,w2⟩:=DataW.trod_int Try.underlying3 g2
  obtain⟨m,e3,-,w3⟩:=DataW.trod_int Try.underlying3 g3
  simp at e0 e1 e2 e3
  subst e0 e1 e2 e3
  rcases DataW.trod_slice Try.underlying22 g4 with ⟨e4,-⟩ | ⟨a,len,cap,elems,rest,n',rfl,e4,-,hb,hlc,hm,hlen',hel,-,-⟩
  ·simp at e4
   subst e4
   exact⟨.mk k i j m [],_,rfl,⟨wf_I64 w0,wf_I64 w1,wf_I64 w2,wf_I64 w3⟩,.mk [] none 0 (fun _=>.nilIface) (Nat.le_refl _) (by decide) (fun _ h=>by cases h) (fun _ h=>by cases h) (fun _ h=>by cases h)⟩
  ·simp at e4
   subst e4
   have key:∀ i,i<len→∃ p:Tm × Value,p.1.fine∧Lies w p.1.kids p.2∧∃ b o,a=⟨b,o,none⟩∧Node w b (o+i * 5) p.1 p.2:=by
    intro i hi
    have h1:=hel i hi
    rw [cells_term,List.getElem?_eq_getElem (by omega)] at h1
    obtain⟨cs',h2,h3⟩:=Option.bind_eq_some_iff.1 h1
    obtain⟨t,s,rfl,hfine,hlies⟩:=ih n' (by omega) _ _ h3
    obtain⟨-,-,hcell⟩:=World.cells?_some h2
    have hs0:a.spot=none:=by
     have h1:=hel 0 (by omega)
     rw [cells_term,List.getElem?_eq_getElem (by omega)] at h1
     obtain⟨cs0,h2,-⟩:=Option.bind_eq_some_iff.1 h1
     obtain⟨-,hl0,hc0⟩:=World.cells?_some h2
     have c0:=hc0 0 (by omega)
     rw [List.getElem?_eq_getElem (by omega)] at c0
     simpa [Addr.add] using World.cell?_spot c0
    obtain⟨b,o,spot⟩:=a
    simp only at hs0
    subst hs0
    refine⟨(t,s),hfine,hlies,b,o,rfl,?_⟩
    have hc:∀ q,q<5→w.cell? ⟨b,o+i * 5+q,none⟩=[Value.int .i64 t.k,.int .i64 t.i,.int .i64 t.j,.int .i64 t.n,s][q]?:=fun q hq=>by
     have:=hcell q hq
     rwa [add_plain,add_plain] at this
    exact⟨hc 0 (by omega),hc 1 (by omega),hc 2 (by omega),hc 3 (by omega),hc 4 (by omega)⟩
   obtain⟨f,hf'⟩:=Go.Deep.choose_lt (α:=Tm × Value) (p:=fun i p=>p.1.fine∧Lies w p.1.kids p.2∧∃ b o,a=⟨b,o,none⟩∧Node w b (o+i * 5) p.1 p.2) key
   have hl5:((List.range len).map fun i=>(f i).1).length=len:=by simp
   refine⟨.mk k i j m ((List.range len).map fun i=>(f i).1),_,rfl,⟨wf_I64 w0,wf_I64 w1,wf_I64 w2,wf_I64 w3⟩,?_⟩
   have:=Lies.mk (w:=w) ((List.range len).map fun i=>(f i).1) (some a) cap (fun i=>(f i).2) (by simpa using hlc) hm
    (fun x hx=>by
      obtain⟨i,hi,rfl⟩:=List.mem_map.1 hx
      exact(hf' i (List.mem_range.1 hi)).1)
    (fun i hi=>by
      obtain⟨b,o,ha,hn⟩:=(hf' i (by simpa using hi)).2.2
      exact⟨b,o,by rw [ha],by simpa using hn⟩)
    (fun i hi=>by simpa using (hf' i (by simpa using hi)).2.1)
   rwa [hl5] at this
end Go.Proofs.Ytpdinlejmlbbeaa

namespace Go.Proofs.Ytpdinlejmlbbeaa
open Go.ChangeShapes Go.WideShapes Go.ChangeAt Go.RowKit
instance instOpenEn:Inhabited (En × Value):=⟨(⟨.mk 0 0 0 0 [],0⟩,.nilIface)⟩
end Go.Proofs.Ytpdinlejmlbbeaa

namespace Go.Proofs.Ytpdinlejmlbbeaa
open Go.ChangeShapes Go.WideShapes Go.ChangeAt Go.RowKit
theorem cells_het:Try.prog.cellsOf 28=26:=by kernel_rfl
theorem list26 {α:Type} {l:List α} (h:l.length=26):∃ v0 v1 v2 v3 v4 v5 v6 v7 v8 v9 v10 v11 v12 v13 v14 v15 v16 v17 v18 v19 v20 v21 v22 v23 v24 v25,l=[v0,v1,v2,v3,v4,v5,v6,v7,v8,v9,v10,v11,v12,v13,v14,v15,v16,v17,v18,v19,v20,v21,v22,v23,v24,v25]:=by
 match l,h with
 | [v0,v1,v2,v3,v4,v5,v6,v7,v8,v9,v10,v11,v12,v13,v14,v15,v16,v17,v18,v19,v20,v21,v22,v23,v24,v25],_=>exact⟨v0,v1,v2,v3,v4,v5,v6,v7,v8,v9,v10,v11,v12,v13,v14,v15,v16,v17,v18,v19,v20,v21,v22,v23,v24,v25,rfl⟩
theorem flds6 {α:Type} {l:List α} (h:l.length=6):∃ y0 y1 y2 y3 y4 y5,l=[y0,y1,y2,y3,y4,y5]:=by
 match l,h with
 | [y0,y1,y2,y3,y4,y5],_=>exact⟨y0,y1,y2,y3,y4,y5,rfl⟩
set_option maxRecDepth 100000 in
theorem open_het {H:Type} {enc:TypeId × Value→H} {w:World} {base:Nat} {sp:Nat→Bool} {hd:Bool} (fuel:Nat) (cs:List Value) (x:DataW H × List MemPlace)
 (h:DataW.trod enc Try.prog w base sp hd fuel 28 cs=some x):∃ (j:He) (sa sb sx sy sh:Value),cs=[.int .i64 j.i,.int .i64 j.a.k,.int .i64 j.a.i,.int .i64 j.a.j,.int .i64 j.a.n,sa,.int .i64 j.b.k,.int .i64 j.b.i,.int .i64 j.b.j,.int .i64 j.b.n,sb,.int .i64 j.x.k,.int .i64 j.x.i,.int .i64 j.x.j,.int .i64 j.x.n,sx,.int .i64 j.y.k,.int .i64 j.y.i,.int .i64 j.y.j,.int .i64 j.y.n,sy,.int .i64 j.h.k,.int .i64 j.h.i,.int .i64 j.h.j,.int .i64 j.h.n,sh]∧j.fine∧HLies w j sa sb sx sy sh:=by
 obtain⟨xs,n,rfl,rfl,hl,hlen,hf⟩:=DataW.trod_struct Try.underlying28 h
 rw [cells_het] at hl
 obtain⟨v0,v1,v2,v3,v4,v5,v6,v7,v8,v9,v10,v11,v12,v13,v14,v15,v16,v17,v18,v19,v20,v21,v22,v23,v24,v25,rfl⟩:=list26 hl
 obtain⟨y0,y1,y2,y3,y4,y5,rfl⟩:=flds6 hlen
 have g0:=hf 0 _ rfl
 have g1:=hf 1 _ rfl
 have g2:=hf 2 _ rfl
 have g3:=hf 3 _ rfl
 have g4:=hf 4 _ rfl
 have g5:=hf 5 _ rfl
 simp [cells_int,cells_term] at g0 g1 g2 g3 g4 g5
 obtain⟨ii,ei,-,wi⟩:=DataW.trod_int Try.underlying3 g0
 simp at ei
 subst ei
 obtain⟨ta,sa,hca,hfa,hla⟩:=open_term n _ _ g1
 simp at hca
 obtain⟨rfl,rfl,rfl,rfl,rfl⟩:=hca
 obtain⟨tb,sb,hcb,hfb,hlb⟩:=open_term n _ _ g2
 simp at hcb
 obtain⟨rfl,rfl,rfl,rfl,rfl⟩:=hcb
 obtain⟨tx,sx,hcx,hfx,hlx⟩:=open_term n _ _ g3
 simp at hcx
 obtain⟨rfl,rfl,rfl,rfl,rfl⟩:=hcx
 obtain⟨ty,sy,hcy,hfy,hly⟩:=open_term n _ _ g4
 simp at hcy
 obtain⟨rfl,rfl,rfl,rfl,rfl⟩:=hcy
 obtain⟨th,sh,hch,hfh,hlh⟩:=open_term n _ _ g5
 simp at hch
 obtain⟨rfl,rfl,rfl,rfl,rfl⟩:=hch
 exact⟨⟨ii,ta,tb,tx,ty,th⟩,_,_,_,_,_,rfl,⟨wf_I64 wi,hfa,hfb,hfx,hfy,hfh⟩,hla,hlb,hlx,hly,hlh⟩
set_option maxRecDepth 100000 in
theorem open_argH {H:Type} {enc:TypeId × Value→H} {W:World} {r:Reach} {b0 base:Nat} {sp:Nat→Bool} {hd:Bool} {v:Value} {d:DataW H} {p:List MemPlace} (hv':Value.okWide Try.prog W r b0 28 v)
 (h:DataW.Trod enc Try.prog W base sp hd 28 v d p):∃ (j:He) (sa sb sx sy sh:Value),HLies W j sa sb sx sy sh∧j.fine∧v=hv j sa sb sx sy sh:=by
 obtain⟨cs,rfl,hsz⟩:=okWide_struct Try.underlying28 hv'
 obtain⟨fuel,hf⟩:=h
 obtain⟨j,sa,sb,sx,sy,sh,hcs,hfj,hl⟩:=open_het fuel _ _ hf
 refine⟨j,sa,sb,sx,sy,sh,hl,hfj,?_⟩
 have:cs.toList=[.int .i64 j.i,.int .i64 j.a.k,.int .i64 j.a.i,.int .i64 j.a.j,.int .i64 j.a.n,sa,.int .i64 j.b.k,.int .i64 j.b.i,.int .i64 j.b.j,.int .i64 j.b.n,sb,.int .i64 j.x.k,.int .i64 j.x.i,.int .i64 j.x.j,.int .i64 j.x.n,sx,.int .i64 j.y.k,.int .i64 j.y.i,.int .i64 j.y.j,.int .i64 j.y.n,sy,.int .i64 j.h.k,.int .i64 j.h.i,.int .i64 j.h.j,.int .i64 j.h.n,sh]:=by simpa [Value.cells] using hcs
 rw [show cs=#[.int .i64 j.i,.int .i64 j.a.k,.int .i64 j.a.i,.int .i64 j.a.j,.int .i64 j.a.n,sa,.int .i64 j.b.k,.int .i64 j.b.i,.int .i64 j.b.j,.int .i64 j.b.n,sb,.int .i64 j.x.k,.int .i64 j.x.i,.int .i64 j.x.j,.int .i64 j.x.n,sx,.int .i64 j.y.k,.int .i64 j.y.i,.int .i64 j.y.j,.int .i64 j.y.n,sy,.int .i64 j.h.k,.int .i64 j.h.i,.int .i64 j.h.j,.int .i64 j.h.n,sh] from by cases cs;simp_all]
end Go.Proofs.Ytpdinlejmlbbeaa
