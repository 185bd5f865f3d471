/-
  CongCalls holds: for every input the call returns true, and the arguments read as before. No condition.
-/
import Derived.OrdersHeld
import Derived.Below
import Derived.Laws.Rows
import Derived.Laws.CopyRow
import Derived.KernelRfl
import Derived.WalkKit
import Derived.Lib.Hide
import Derived.Lib.MinMax
import Derived.Deep.RegionHeld3
import Derived.Test.YtpdinlejmlbbeaaRows
import Derived.Deep.RegionWith
import Derived.Deep.AppendLies
import Derived.Laws.IdiomCopy
import Derived.Deep.Slices
import Derived.Deep.QuietTactic
import Derived.BigQuiet
import Derived.Lib.QuietBelow
import Derived.StillTailTactics
import Derived.IntWalk
import Derived.OwnWalk
import Derived.Deep.DeepCutAuto
import Derived.Deep.RegionLaw
import Derived.Deep.LoopGhost
import Derived.Deep.MidRow
import Derived.Laws.Tables
import Derived.Laws.CopyOwn
import Derived.Deep.Upon
import Derived.ArgAppend
import Derived.Deep.RegionHeld
import Derived.Laws.EntriesVeiled
import Derived.ProofKit
import Derived.OpenShut
import Derived.Carry
import Derived.ChangeSlices
import Derived.JoinedOf
import Derived.Test.YtpdinlejmlbbeaaCongCallsQ6
namespace Go.Proofs.Ytpdinlejmlbbeaa
open Go.ChangeShapes Go.WideShapes Go.ChangeAt Go.RowKit
theorem cells_fam:Try.prog.cellsOf 26=32:=by kernel_rfl
theorem list32 {α:Type} {l:List α} (h:l.length=32):∃ v0 v1 v2 v3 v4 v5 v6 v7 v8 v9 v10 v11 v12 v13 v14 v15 v16 v17 v18 v19 v20 v21 v22 v23 v24 v25 v26 v27 v28 v29 v30 v31,l=[v0,v1,v2,v3,v4,v5,v6,v7,v8,v9,v10,v11,v12,v13,v14,v15,v16,v17,v18,v19,v20,v21,v22,v23,v24,v25,v26,v27,v28,v29,v30,v31]:=by
 match l,h with
 | [v0,v1,v2,v3,v4,v5,v6,v7,v8,v9,v10,v11,v12,v13,v14,v15,v16,v17,v18,v19,v20,v21,v22,v23,v24,v25,v26,v27,v28,v29,v30,v31],_=>exact⟨v0,v1,v2,v3,v4,v5,v6,v7,v8,v9,v10,v11,v12,v13,v14,v15,v16,v17,v18,v19,v20,v21,v22,v23,v24,v25,v26,v27,v28,v29,v30,v31,rfl⟩
theorem flds8 {α:Type} {l:List α} (h:l.length=8):∃ y0 y1 y2 y3 y4 y5 y6 y7,l=[y0,y1,y2,y3,y4,y5,y6,y7]:=by
 match l,h with
 | [y0,y1,y2,y3,y4,y5,y6,y7],_=>exact⟨y0,y1,y2,y3,y4,y5,y6,y7,rfl⟩
set_option maxRecDepth 100000 in
theorem open_fam {H:Type} {enc:TypeId × Value→H} {w:World} {base:Nat} {sp:Nat→Bool} {hd:Bool} (fuel:Nat) (cs:List Value) (x:DataW H × List MemPlace)
 (h:DataW.trod enc Try.prog w base sp hd fuel 26 cs=some x):∃ (j:Fm) (sa sc sb sd se sf:Value),cs=[.int .i64 j.i,.int .i64 j.j,.int .i64 j.a.k,.int .i64 j.a.i,.int .i64 j.a.j,.int .i64 j.a.n,sa,.int .i64 j.c.k,.int .i64 j.c.i,.int .i64 j.c.j,.int .i64 j.c.n,sc,.int .i64 j.b.k,.int .i64 j.b.i,.int .i64 j.b.j,.int .i64 j.b.n,sb,.int .i64 j.d.k,.int .i64 j.d.i,.int .i64 j.d.j,.int .i64 j.d.n,sd,.int .i64 j.e.k,.int .i64 j.e.i,.int .i64 j.e.j,.int .i64 j.e.n,se,.int .i64 j.f.k,.int .i64 j.f.i,.int .i64 j.f.j,.int .i64 j.f.n,sf]∧j.fine∧FLies w j sa sc sb sd se sf:=by
 obtain⟨xs,n,rfl,rfl,hl,hlen,hf⟩:=DataW.trod_struct Try.underlying26 h
 rw [cells_fam] at hl
 obtain⟨v0,v1,v2,v3,v4,v5,v6,v7,v8,v9,v10,v11,v12,v13,v14,v15,v16,v17,v18,v19,v20,v21,v22,v23,v24,v25,v26,v27,v28,v29,v30,v31,rfl⟩:=list32 hl
 obtain⟨y0,y1,y2,y3,y4,y5,y6,y7,rfl⟩:=flds8 hlen
 have g0:=hf 0 _ rfl
 have g1:=hf 1 _ rfl
 have g2:=hf 2 _ rfl
 have g3:=hf 3 _ rfl
 have g4:=hf 4 _ rfl
 have g5:=hf 5 _ rfl
 have g6:=hf 6 _ rfl
 have g7:=hf 7 _ rfl
 simp [cells_int,cells_term] at g0 g1 g2 g3 g4 g5 g6 g7
 obtain⟨ii,ei,-,wi⟩:=DataW.trod_int Try.underlying3 g0
 simp at ei
 subst ei
 obtain⟨ij,ej,-,wj⟩:=DataW.trod_int Try.underlying3 g1
 simp at ej
 subst ej
 obtain⟨ta,sa,hca,hfa,hla⟩:=open_term n _ _ g2
 simp at hca
 obtain⟨rfl,rfl,rfl,rfl,rfl⟩:=hca
 obtain⟨tc,sc,hcc,hfc,hlc⟩:=open_term n _ _ g3
 simp at hcc
 obtain⟨rfl,rfl,rfl,rfl,rfl⟩:=hcc
 obtain⟨tb,sb,hcb,hfb,hlb⟩:=open_term n _ _ g4
 simp at hcb
 obtain⟨rfl,rfl,rfl,rfl,rfl⟩:=hcb
 obtain⟨td,sd,hcd,hfd,hld⟩:=open_term n _ _ g5
 simp at hcd
 obtain⟨rfl,rfl,rfl,rfl,rfl⟩:=hcd
 obtain⟨te,se,hce,hfe,hle⟩:=open_term n _ _ g6
 simp at hce
 obtain⟨rfl,rfl,rfl,rfl,rfl⟩:=hce
 obtain⟨tf,sf,hcf,hff,hlf⟩:=open_term n _ _ g7
 simp at hcf
 obtain⟨rfl,rfl,rfl,rfl,rfl⟩:=hcf
 exact⟨⟨ii,ij,ta,tc,tb,td,te,tf⟩,_,_,_,_,_,_,rfl,⟨wf_I64 wi,wf_I64 wj,hfa,hfc,hfb,hfd,hfe,hff⟩,hla,hlc,hlb,hld,hle,hlf⟩
set_option maxRecDepth 100000 in
theorem open_argG {H:Type} {enc:TypeId × Value→H} {W:World} {r:Reach} {b0 base:Nat} {sp:Nat→Bool} {hd:Bool} {v:Value} {d:DataW H} {p:List MemPlace} (hv':Value.okWide Try.prog W r b0 26 v)
 (h:DataW.Trod enc Try.prog W base sp hd 26 v d p):∃ (j:Fm) (sa sc sb sd se sf:Value),FLies W j sa sc sb sd se sf∧j.fine∧v=fv j sa sc sb sd se sf:=by
 obtain⟨cs,rfl,hsz⟩:=okWide_struct Try.underlying26 hv'
 obtain⟨fuel,hf⟩:=h
 obtain⟨j,sa,sc,sb,sd,se,sf,hcs,hfj,hl⟩:=open_fam fuel _ _ hf
 refine⟨j,sa,sc,sb,sd,se,sf,hl,hfj,?_⟩
 have:cs.toList=[.int .i64 j.i,.int .i64 j.j,.int .i64 j.a.k,.int .i64 j.a.i,.int .i64 j.a.j,.int .i64 j.a.n,sa,.int .i64 j.c.k,.int .i64 j.c.i,.int .i64 j.c.j,.int .i64 j.c.n,sc,.int .i64 j.b.k,.int .i64 j.b.i,.int .i64 j.b.j,.int .i64 j.b.n,sb,.int .i64 j.d.k,.int .i64 j.d.i,.int .i64 j.d.j,.int .i64 j.d.n,sd,.int .i64 j.e.k,.int .i64 j.e.i,.int .i64 j.e.j,.int .i64 j.e.n,se,.int .i64 j.f.k,.int .i64 j.f.i,.int .i64 j.f.j,.int .i64 j.f.n,sf]:=by simpa [Value.cells] using hcs
 rw [show cs=#[.int .i64 j.i,.int .i64 j.j,.int .i64 j.a.k,.int .i64 j.a.i,.int .i64 j.a.j,.int .i64 j.a.n,sa,.int .i64 j.c.k,.int .i64 j.c.i,.int .i64 j.c.j,.int .i64 j.c.n,sc,.int .i64 j.b.k,.int .i64 j.b.i,.int .i64 j.b.j,.int .i64 j.b.n,sb,.int .i64 j.d.k,.int .i64 j.d.i,.int .i64 j.d.j,.int .i64 j.d.n,sd,.int .i64 j.e.k,.int .i64 j.e.i,.int .i64 j.e.j,.int .i64 j.e.n,se,.int .i64 j.f.k,.int .i64 j.f.i,.int .i64 j.f.j,.int .i64 j.f.n,sf] from by cases cs;simp_all]
end Go.Proofs.Ytpdinlejmlbbeaa

namespace Go.Proofs.Ytpdinlejmlbbeaa
open Go.ChangeShapes Go.WideShapes
def code (l:List Nat):List Char:=l.map Char.ofNat
def joinN:List (List Nat)→List Nat
 | []=>[]
 | [a]=>a
 | a::b::r=>a++32::joinN (b::r)
theorem words_one:∀ a:List Nat,(a.all fun n=>Char.ofNat n != Char.ofNat 32)=true→wordsSigns (code a)=[code a]
 | [],_=>rfl
 | n::a,h=>by
  simp only [List.all_cons,Bool.and_eq_true,bne_iff_ne] at h
  have ih:=words_one a h.2
  show wordsSigns (Char.ofNat n::code a)=_
  rw [wordsSigns]
  ·rw [ih];rfl
  ·exact h.1
theorem words_more:∀ (a:List Nat) (r:List Char),(a.all fun n=>Char.ofNat n != Char.ofNat 32)=true→wordsSigns (code a++Char.ofNat 32::r)=code a::wordsSigns r
 | [],r,_=>by
  show wordsSigns (Char.ofNat 32::r)=_
  rw [show Char.ofNat 32=_ from rfl,wordsSigns];rfl
 | n::a,r,h=>by
  simp only [List.all_cons,Bool.and_eq_true,bne_iff_ne] at h
  have ih:=words_more a r h.2
  show wordsSigns (Char.ofNat n::(code a++Char.ofNat 32::r))=_
  rw [wordsSigns]
  ·rw [ih];rfl
  ·exact h.1
theorem words_join:∀ ws:List (List Nat),ws≠[]→(ws.all fun w=>w.all fun n=>Char.ofNat n != Char.ofNat 32)=true→wordsSigns (code (joinN ws))=ws.map code
 | [],h,_=>absurd rfl h
 | [a],_,h=>by simp only [List.all_cons,List.all_nil,Bool.and_true] at h;exact words_one a h
 | a::b::r,_,h=>by
  have h':=h
  rw [List.all_cons,Bool.and_eq_true] at h'
  have ih:=words_join (b::r) (by simp) h'.2
  show wordsSigns (code (a++32::joinN (b::r)))=_
  rw [show code (a++32::joinN (b::r))=code a++Char.ofNat 32::code (joinN (b::r)) from by simp [code],words_more a _ h'.1,ih];rfl
def cutWords:List (List Nat):=[[104,97,114,110,101,115,115],
 [49,99,56,57,102,55,52,97,57,52,57,54,56,52,99,49,100,54,97,97,100,101,100,99,56,97,57,98,57,98,52,101,54,50,56,49,99,99,48,51,102,54,55,53,100,102,57,98,57,49,100,98,54,57,53,99,100,54,101,101,57,51,99,98],
 [99,117,116],
 [97,116],
 [116,114,97,110,115,104,105,112,47,116,114,97,110,115,104,105,112,108,97,119,50,52,46,67,111,110,103,67,97,108,108,115]]
set_option maxRecDepth 100000 in
theorem cut_words:wordsSigns Try.prog.initOrder.toList=cutWords.map code:=by
 have h:Try.prog.initOrder.toList=code (joinN cutWords):=by
  show(String.ofList (code (joinN cutWords))).toList=_
  exact String.toList_ofList
 rw [h]
 exact words_join cutWords (by simp [cutWords]) (by decide +kernel)
theorem cut_behind:behindMainWord (cutWords.map code)=code [99,117,116]::cutWords.tail.tail.tail.map code:=by kernel_rfl
theorem cut_lifts:stripLifts liftWords (code [99,117,116]::cutWords.tail.tail.tail.map code)=([],code [99,117,116]::cutWords.tail.tail.tail.map code):=by kernel_rfl
theorem cut1:(code [99,117,116] == "gc".toList)=false:=by kernel_rfl
theorem cut2:(code [99,117,116] == "spec".toList)=false:=by kernel_rfl
theorem cut3:(code [99,117,116] == "cut".toList)=true:=by kernel_rfl
theorem cut_all:behindMainWord (wordsSigns Try.prog.initOrder.toList)=code [99,117,116]::cutWords.tail.tail.tail.map code:=by rw [cut_words,cut_behind]
theorem make_of (P:Program) {c:List Char} {rest:List (List Char)} (h:behindMainWord (wordsSigns P.initOrder.toList)=c::rest) (h1:(c == "gc".toList)=false) (h2:(c == "spec".toList)=false) (h3:(c == "cut".toList)=true):P.make=some .cut:=by
 unfold Program.make;rw [h]
 simp only [h1,h2,h3,Bool.or_self,Bool.false_eq_true,if_false,Bool.true_or,if_true]
theorem mayEnter_of (P:Program) {c:List Char} {rest:List (List Char)} (h:behindMainWord (wordsSigns P.initOrder.toList)=c::rest) (h3:((stripLifts liftWords (c::rest)).2.head? ==some "cut".toList)=true)
 (h4:(stripLifts liftWords (c::rest)).1=[]) (h5:P.laysLater=false) (h6:P.bearsReflect=false) (h7:P.doorFits []=true):P.mayEnter=true:=by
 unfold Program.mayEnter;rw [h]
 refine Bool.or_eq_true_iff.2 (Or.inr ?_)
 rw [h3,h4,h5,h6,h7];rfl
theorem row_make:Try.prog.make=some .cut:=make_of Try.prog cut_all cut1 cut2 cut3
theorem row_mayEnter:Try.prog.mayEnter=true:=mayEnter_of Try.prog cut_all (by rw [cut_lifts];kernel_rfl) (by rw [cut_lifts]) (by kernel_rfl) (by kernel_rfl) (by kernel_rfl)
theorem row_lifts:Try.prog.liftsFinal=false:=by unfold Program.liftsFinal Program.headLifts;rw [cut_all,cut_lifts];kernel_rfl
end Go.Proofs.Ytpdinlejmlbbeaa

namespace Go.Proofs.Ytpdinlejmlbbeaa.lawCongCalls
open Go.ChangeShapes Go.WideShapes Go.ChangeAt Go.RowKit
set_option maxRecDepth 100000 in
theorem lifted (os:Os) (started:os.Started) (H:Type) (enc:TypeId × Value→H) :
 ReturnsInHanded {} Try.checked os 3 .any (Rows.congCallsSpec.pre6 enc Try.prog Try.f3 Rows.congCallsRow.domain false) (Rows.congCallsSpec.post enc Try.prog Try.f3 false true false false):=by
 refine returnsInHanded_of_change (C:=Try.checked) own started (by kernel_rfl) Try.func3
  (ChangeSpec.witness6 (enc:=enc) (C:=Try.checked) false ⟨#[],#[.agg #[.int .i64 0,.int .i64 0,.int .i64 0,.int .i64 0,.int .i64 0,.int .i64 0,.slice none 0 0,.int .i64 0,.int .i64 0,.int .i64 0,.int .i64 0,.slice none 0 0,.int .i64 0,.int .i64 0,.int .i64 0,.int .i64 0,.slice none 0 0,.int .i64 0,.int .i64 0,.int .i64 0,.int .i64 0,.slice none 0 0,.int .i64 0,.int .i64 0,.int .i64 0,.int .i64 0,.slice none 0 0,.int .i64 0,.int .i64 0,.int .i64 0,.int .i64 0,.slice none 0 0],.agg #[.int .i64 0,.int .i64 0,.int .i64 0,.int .i64 0,.int .i64 0,.slice none 0 0,.int .i64 0,.int .i64 0,.int .i64 0,.int .i64 0,.slice none 0 0,.int .i64 0,.int .i64 0,.int .i64 0,.int .i64 0,.slice none 0 0,.int .i64 0,.int .i64 0,.int .i64 0,.int .i64 0,.slice none 0 0,.int .i64 0,.int .i64 0,.int .i64 0,.int .i64 0,.slice none 0 0],.agg #[.int .i64 0,.int .i64 0,.int .i64 0,.int .i64 0,.int .i64 0,.slice none 0 0,.int .i64 0,.int .i64 0,.int .i64 0,.int .i64 0,.slice none 0 0,.int .i64 0,.int .i64 0,.int .i64 0,.int .i64 0,.slice none 0 0,.int .i64 0,.int .i64 0,.int .i64 0,.int .i64 0,.slice none 0 0,.int .i64 0,.int .i64 0,.int .i64 0,.int .i64 0,.slice none 0 0]],[]⟩ 8 (by kernel_rfl) (by kernel_rfl) (by kernel_rfl) (by kernel_rfl)) ?_
 intro W base args ds gs before hval0 hW hcnd _
 have hval:∀ (j:Nat) t v,Try.f3.params[j]? =some t→args[j]? =some v→Value.okWide Try.prog W .any base t v:=hval0
 have hW':=hW
 obtain⟨p,q,hA0,hV,rfl,hfz,hnd⟩:=hW
 have hA:DataW.TrodAll enc Try.prog W 0 (fun _=>true) true Try.f3.params.toList args.toList ds p:=hA0
 rw [Try.params3] at hA hval
 obtain⟨v0,vs0,d0,ds0,p0,q0,hargs0,rfl,rfl,h0,r0⟩:=trodAll_cons hA
 obtain⟨v1,vs1,d1,ds1,p1,q1,hargs1,rfl,rfl,h1,r1⟩:=trodAll_cons r0
 obtain⟨v2,vs2,d2,ds2,p2,q2,hargs2,rfl,rfl,h2,r2⟩:=trodAll_cons r1
 obtain⟨rfl,rfl,rfl⟩:=trodAll_nil r2
 obtain rfl:args=#[v0,v1,v2]:=by cases args;simp_all
 obtain⟨rfl,rfl⟩:=trodVars_none hV
 have h0k:=h0
 have hlt0:∀ x ∈ p0,x.block<W.heap.size:=fun x hx=>by have:=hW'.lt x (by simp [hx]);simpa using this
 obtain⟨t0,sa0,sc0,sb0,sd0,se0,sf0,hl0,hf0,hv0⟩:=open_argG (hval 0 26 v0 rfl rfl) h0
 subst hv0
 have h1k:=h1
 have hlt1:∀ x ∈ p1,x.block<W.heap.size:=fun x hx=>by have:=hW'.lt x (by simp [hx]);simpa using this
 obtain⟨t1,sa1,sb1,sx1,sy1,sh1,hl1,hf1,hv1⟩:=open_argH (hval 1 28 v1 rfl rfl) h1
 subst hv1
 have h2k:=h2
 have hlt2:∀ x ∈ p2,x.block<W.heap.size:=fun x hx=>by have:=hW'.lt x (by simp [hx]);simpa using this
 obtain⟨t2,sa2,sb2,sx2,sy2,sh2,hl2,hf2,hv2⟩:=open_argH (hval 2 28 v2 rfl rfl) h2
 subst hv2
 clear hA0 hval0
 simp only [List.append_nil] at hW'
 refine(congCalls_any t1 t2 t0 (fun b=>b<W.heap.size) W sa0 sc0 sb0 sd0 se0 sf0 sa1 sb1 sx1 sy1 sh1 sa2 sb2 sx2 sy2 sh2 hf0 hl0.q hf1 hl1.q hf2 hl2.q).mono fun e W' ⟨he,hb⟩=>?_
 subst he
 exact⟨_,rfl,_,_,_,[],_,[],hW',trodAll_cons_mk (shut_bool Try.underlying4 _) trodAll_mk0,(trodAll_cons_mk (Below.trod laidOut (by kernel_rfl) (of_decide_eq_true (by kernel_rfl)) h0k hb hlt0) (trodAll_cons_mk (Below.trod laidOut (by kernel_rfl) (of_decide_eq_true (by kernel_rfl)) h1k hb hlt1) (trodAll_cons_mk (Below.trod laidOut (by kernel_rfl) (of_decide_eq_true (by kernel_rfl)) h2k hb hlt2) trodAll_mk0))),rfl,hb.frame _,fun h=>by cases h⟩
theorem closed:joinedFacts Try.prog 3 Try.f3 Rows.congCallsSpec Rows.congCallsRow=true:=by
 unfold joinedFacts
 rw [row_mayEnter,row_lifts,row_make]
 kernel_rfl
theorem proved:Rows.CongCallsSaid :=
 OpenClaim.holds_of_wide 3 Try.f3 rfl rfl rfl rfl rfl rfl rfl ⟨rfl,rfl,rfl,rfl,rfl⟩ rfl rfl rfl rfl rfl (by kernel_rfl) Try.func3 closed
  (of_decide_eq_true (by kernel_rfl)) (by unfold Func.isWrapper;first | (rw [if_pos (by decide +kernel)];kernel_rfl) | (rw [if_neg (by decide +kernel)];exact⟨rfl,rfl⟩))
  (fun os started H enc _=>lifted os started H enc)
#print axioms proved
end Go.Proofs.Ytpdinlejmlbbeaa.lawCongCalls
