/-
  ParseExact holds: for every input the call returns true, and the arguments read as before. No condition.
-/
import Derived.Lib.ItoaNum
import Derived.Lib.ItoaLen
import Derived.Test.YtdhfbphliejcdaaRows
import Derived.WalkKit
import Derived.Lib.Hide
import Derived.ProofKit
import Derived.LoopTactic
import Derived.Below
import Derived.IntWalk
import Derived.Lib.Strings
import Derived.Laws.Strings2
import Derived.Deep.AppendLies
import Derived.Laws.Rows
import Derived.OwnWalk
import Derived.KernelRfl
import Derived.Deep.RegionHeld3
import Derived.Lib.Builder
import Derived.WalkSmall
import Derived.Maps.GroupsBeside
import Derived.Maps.StringElems
import Derived.Laws.OwnMore
import Derived.Deep.RegionLaw
import Derived.Maps.AppendAt
import Derived.Deep.Cut
import Derived.Deep.DeepCutAuto
import Derived.Maps.OwnOps
import Derived.Maps.OwnSet
import Derived.Lib.MinMax
import Derived.Laws.IdiomCopy
import Derived.Deep.Slices
import Derived.Lib.QuietBelow
import Derived.StillTailTactics
import Derived.BigQuiet
import Derived.Deep.RegionWith
import Derived.OrdersHeld
import Derived.Laws.StructEq
import GoSem.Core.Float
import Derived.Laws.Cover2
import Derived.Laws.FloatArith
import Derived.Laws.Externs
import Derived.Deep.QuietTactic
import Derived.Laws.AppendOwn
import Derived.Recover
import Derived.RegionTactic
import Derived.Deep.LoopGhost
import Derived.Deep.CutBlock
import Derived.OpenShut
import Derived.Carry
import Derived.JoinedOf
import Derived.ChangeMaps5
import Derived.Test.YtdhfbphliejcdaaParseExactQ4
namespace Go.Proofs.Ytdhfbphliejcdaa.Dv
open Go.RowKit

set_option maxHeartbeats 4000000 in
set_option maxRecDepth 20000 in
theorem parseExact_any (s : ByteArray) (deep nodes : Nat) (w : World) : Calls Try.prog 3 #[.string s, .float .f64 deep, .float .f64 nodes] w fun e w' => e = .returned (.bool true) ∧ Below w.heap.size w w' := by
  by_cases hbig : 3000 < s.size
  · have hbig' : 3000 < (s.size : Int) := by omega
    go_enter Try.func3, Try.ntmps3
    go_wp2
    go_ret
    exact ⟨rfl, Below.refl _ _⟩
  have hs' : ¬ 3000 < (s.size : Int) := by omega
  have HP := Lib.hid (parse_any s deep nodes w (by omega))
  have HQ := Lib.hid (fun w => refparse_any s deep nodes w (by omega))
  go_enter Try.func3, Try.ntmps3
  go_wp2_with fail
  refine HP.out.mono ?_
  intro e w1 hg
  cases hx : parseB s.data.toList deep nodes with
  | error p =>
    rw [hx] at hg
    obtain ⟨hb1, hg⟩ := hg
    replace hg : e = .returned (.tuple #[.agg #[.slice none 0 0, .int .i64 0, .int .i64 0, .slice none 0 0], .int .i64 (errK p), .int .i64 (p.2 : Nat), .string (errW p)]) := by rw [hg, errV_eq]
    subst hg
    have hba := (Below.refl w1.heap.size w1).alloc (Nat.le_refl _) (.cells #[.slice none 0 0, .int .i64 0, .int .i64 0, .slice none 0 0] 27)
    have hn := alloc_new w1 (.cells #[.slice none 0 0, .int .i64 0, .int .i64 0, .slice none 0 0] 27)
    have HB2 := Lib.hid (hb1.trans (hba.mono hb1.size))
    clear hb1 hba HP
    go_upto_region 4 with fail
    obtain ⟨W, hW⟩ : ∃ W, W = w1.alloc (.cells #[.slice none 0 0, .int .i64 0, .int .i64 0, .slice none 0 0] 27) := ⟨_, rfl⟩
    rw [← hW] at HB2 hn
    rw [← hW]
    clear hW
    have HN := Lib.hid hn
    have hlt1 := hltD hn
    clear hn
    go_wp2_with fail
    refine (HQ.out W).mono ?_
    intro e w3 hg
    rw [hx] at hg
    obtain ⟨hb3, hg⟩ := hg
    replace hg : e = .returned (.tuple #[.agg #[.slice none 0 0, .int .i64 0, .int .i64 0, .slice none 0 0], .int .i64 (errK p), .int .i64 (p.2 : Nat), .string (errW p)]) := by rw [hg, errV_eq]
    subst hg
    have hba := (Below.refl w3.heap.size w3).alloc (Nat.le_refl _) (.cells #[.slice none 0 0, .int .i64 0, .int .i64 0, .slice none 0 0] 27)
    have hbb := hb3.trans (hba.mono hb3.size)
    have hn2 := alloc_new w3 (.cells #[.slice none 0 0, .int .i64 0, .int .i64 0, .slice none 0 0] 27)
    have hn1 := (hbb.block _ hlt1).trans HN.out
    have HB4 := Lib.hid (HB2.out.trans (hbb.mono HB2.out.size))
    clear hb3 hba hbb hx HQ
    go_upto_region 5 with fail
    obtain ⟨V, hV⟩ : ∃ V, V = w3.alloc (.cells #[.slice none 0 0, .int .i64 0, .int .i64 0, .slice none 0 0] 27) := ⟨_, rfl⟩
    rw [← hV] at HB4 hn1 hn2
    rw [← hV]
    clear hV
    obtain ⟨y0, y1, y2, y3⟩ := four_cells hn1
    obtain ⟨z0, z1, z2, z3⟩ := four_cells hn2
    clear hn1 hn2
    obtain ⟨ek, hek⟩ : ∃ ek, errK p = ek := ⟨_, rfl⟩
    obtain ⟨ea, hea⟩ : ∃ ea : Nat, p.2 = ea := ⟨_, rfl⟩
    obtain ⟨ew, hew⟩ : ∃ ew, errW p = ew := ⟨_, rfl⟩
    rw [hek, hea, hew]
    clear hek hea hew
    go_wp2_with fail
    refine (keepfile_any [] [] (.mk 0 0 []) (.mk 0 0 []) V _ _ _ _ (nil_lies _) (nil_lies _) (nil_lies _) (nil_lies _)).mono ?_
    rintro e w5 ⟨rfl, hb5⟩
    rw [fileB_self]
    have HB5 := Lib.hid (HB4.out.trans (hb5.mono HB4.out.size))
    clear hb5 y0 y1 y2 y3 z0 z1 z2 z3
    go_wp2_with fail
    refine (wakes13_any _).mono ?_
    rintro e w6 ⟨rfl, hb6⟩
    have HB6 := Lib.hid (HB5.out.trans (hb6.mono HB5.out.size))
    clear hb6
    go_wp2
    go_ret
    exact ⟨rfl, HB6.out⟩
  | ok p =>
    obtain ⟨l, t⟩ := p
    rw [hx] at hg
    obtain ⟨hb1, cv, sv, rfl, hl, hlt, hfi⟩ := hg
    obtain ⟨a1, c1, rfl, -, -⟩ := hl.out
    obtain ⟨a2, c2, rfl, -, -⟩ := hlt.out
    have hba := (Below.refl w1.heap.size w1).alloc (Nat.le_refl _) (.cells #[.slice a1 l.length c1, .int .i64 t.k, .int .i64 t.i, .slice a2 t.kids.length c2] 27)
    have hn := alloc_new w1 (.cells #[.slice a1 l.length c1, .int .i64 t.k, .int .i64 t.i, .slice a2 t.kids.length c2] 27)
    have HB2 := Lib.hid (hb1.trans (hba.mono hb1.size))
    have HL := Lib.hid (hl.later hba).lies
    have HT := Lib.hid (hlt.later hba).lies
    have hy := hx
    clear hl hlt hfi hb1 hba hx HP
    unfold fv
    go_upto_region 4 with fail
    obtain ⟨W, hW⟩ : ∃ W, W = w1.alloc (.cells #[.slice a1 l.length c1, .int .i64 t.k, .int .i64 t.i, .slice a2 t.kids.length c2] 27) := ⟨_, rfl⟩
    rw [← hW] at HB2 hn HL HT
    rw [← hW]
    clear hW
    have HN := Lib.hid hn
    have hlt1 := hltD hn
    clear hn
    go_wp2_with fail
    refine (HQ.out W).mono ?_
    intro e w3 hg
    rw [hy] at hg
    obtain ⟨hb3, cv, sv, rfl, hl, hlt, hfi⟩ := hg
    obtain ⟨a3, c3, rfl, -, -⟩ := hl.out
    obtain ⟨a4, c4, rfl, -, -⟩ := hlt.out
    have hba := (Below.refl w3.heap.size w3).alloc (Nat.le_refl _) (.cells #[.slice a3 l.length c3, .int .i64 t.k, .int .i64 t.i, .slice a4 t.kids.length c4] 27)
    have hbb := hb3.trans (hba.mono hb3.size)
    have hn2 := alloc_new w3 (.cells #[.slice a3 l.length c3, .int .i64 t.k, .int .i64 t.i, .slice a4 t.kids.length c4] 27)
    have hn1 := (hbb.block _ hlt1).trans HN.out
    have HB4 := Lib.hid (HB2.out.trans (hbb.mono HB2.out.size))
    have HL2 := Lib.hid (hl.later hba).lies
    have HT2 := Lib.hid (hlt.later hba).lies
    have HL1 := Lib.hid (HL.out.keep hbb)
    have HT1 := Lib.hid (HT.out.keep hbb)
    clear hb3 hba hbb hl hlt hfi hy HQ HL HT
    unfold fv
    go_upto_region 5 with fail
    obtain ⟨V, hV⟩ : ∃ V, V = w3.alloc (.cells #[.slice a3 l.length c3, .int .i64 t.k, .int .i64 t.i, .slice a4 t.kids.length c4] 27) := ⟨_, rfl⟩
    rw [← hV] at HB4 hn1 hn2 HL1 HL2 HT1 HT2
    rw [← hV]
    clear hV
    obtain ⟨y0, y1, y2, y3⟩ := four_cells hn1
    obtain ⟨z0, z1, z2, z3⟩ := four_cells hn2
    clear hn1 hn2
    go_wp2_with fail
    refine (keepfile_any l l t t V _ _ _ _ HL1.out HL2.out HT1.out HT2.out).mono ?_
    rintro e w5 ⟨rfl, hb5⟩
    rw [fileB_self]
    have HB5 := Lib.hid (HB4.out.trans (hb5.mono HB4.out.size))
    clear hb5 y0 y1 y2 y3 z0 z1 z2 z3
    go_wp2_with fail
    refine (wakes13_any _).mono ?_
    rintro e w6 ⟨rfl, hb6⟩
    have HB6 := Lib.hid (HB5.out.trans (hb6.mono HB5.out.size))
    clear hb6
    go_wp2
    go_ret
    exact ⟨rfl, HB6.out⟩
end Go.Proofs.Ytdhfbphliejcdaa.Dv

namespace Go.Proofs.Ytdhfbphliejcdaa
open Go.RowKit Go.ChangeShapes Go.WideShapes Go.ChangeAt
theorem own : ownKnob Try.prog.godebug = none := by kernel_rfl
end Go.Proofs.Ytdhfbphliejcdaa

namespace Go.Proofs.Ytdhfbphliejcdaa
open Go.ChangeShapes Go.WideShapes

def code (l : List Nat) : List Char := l.map Char.ofNat
def joinN : List (List Nat) → List Nat
  | [] => []
  | [a] => a
  | a :: b :: r => a ++ 32 :: joinN (b :: r)

theorem words_one : ∀ a : List Nat, (a.all fun n => Char.ofNat n != Char.ofNat 32) = true → wordsSigns (code a) = [code a]
  | [], _ => rfl
  | n :: a, h => by
    simp only [List.all_cons, Bool.and_eq_true, bne_iff_ne] at h
    have ih := words_one a h.2
    show wordsSigns (Char.ofNat n :: code a) = _
    rw [wordsSigns]
    · rw [ih]; rfl
    · exact h.1
theorem words_more : ∀ (a : List Nat) (r : List Char), (a.all fun n => Char.ofNat n != Char.ofNat 32) = true → wordsSigns (code a ++ Char.ofNat 32 :: r) = code a :: wordsSigns r
  | [], r, _ => by
    show wordsSigns (Char.ofNat 32 :: r) = _
    rw [show Char.ofNat 32 = _ from rfl, wordsSigns]; rfl
  | n :: a, r, h => by
    simp only [List.all_cons, Bool.and_eq_true, bne_iff_ne] at h
    have ih := words_more a r h.2
    show wordsSigns (Char.ofNat n :: (code a ++ Char.ofNat 32 :: r)) = _
    rw [wordsSigns]
    · rw [ih]; rfl
    · exact h.1
theorem words_join : ∀ ws : List (List Nat), ws ≠ [] → (ws.all fun w => w.all fun n => Char.ofNat n != Char.ofNat 32) = true → wordsSigns (code (joinN ws)) = ws.map code
  | [], h, _ => absurd rfl h
  | [a], _, h => by simp only [List.all_cons, List.all_nil, Bool.and_true] at h; exact words_one a h
  | a :: b :: r, _, h => by
    have h' := h
    rw [List.all_cons, Bool.and_eq_true] at h'
    have ih := words_join (b :: r) (by simp) h'.2
    show wordsSigns (code (a ++ 32 :: joinN (b :: r))) = _
    rw [show code (a ++ 32 :: joinN (b :: r)) = code a ++ Char.ofNat 32 :: code (joinN (b :: r)) from by simp [code], words_more a _ h'.1, ih]; rfl

def cutWords : List (List Nat) := [[104, 97, 114, 110, 101, 115, 115],
  [99, 51, 56, 48, 55, 57, 100, 52, 57, 56, 52, 101, 53, 48, 51, 101, 56, 56, 102, 56, 101, 48, 50, 53, 54, 57, 54, 57, 98, 100, 48, 54, 49, 102, 99, 51, 49, 50, 98, 55, 49, 102, 57, 53, 54, 102, 56, 48, 102, 57, 50, 52, 56, 99, 98, 53, 50, 55, 50, 50, 57, 49, 99, 98],
  [99, 117, 116],
  [97, 116],
  [116, 114, 97, 110, 115, 104, 105, 112, 47, 116, 114, 97, 110, 115, 104, 105, 112, 108, 97, 119, 49, 51, 46, 80, 97, 114, 115, 101, 69, 120, 97, 99, 116],
  [116, 114, 97, 110, 115, 104, 105, 112, 47, 116, 114, 97, 110, 115, 104, 105, 112, 108, 97, 119, 49, 51, 46, 80, 97, 114, 115, 101, 77, 111, 114, 101],
  [116, 114, 97, 110, 115, 104, 105, 112, 47, 116, 114, 97, 110, 115, 104, 105, 112, 108, 97, 119, 49, 51, 46, 80, 97, 114, 115, 101, 76, 105, 109, 105, 116, 115],
  [116, 114, 97, 110, 115, 104, 105, 112, 47, 116, 114, 97, 110, 115, 104, 105, 112, 108, 97, 119, 49, 51, 46, 80, 97, 114, 115, 101, 66, 101, 116, 119, 101, 101, 110],
  [116, 114, 97, 110, 115, 104, 105, 112, 47, 116, 114, 97, 110, 115, 104, 105, 112, 108, 97, 119, 49, 51, 46, 80, 97, 114, 115, 101, 82, 105, 103, 104, 116]]

set_option maxRecDepth 100000 in
theorem cut_words : wordsSigns Try.prog.initOrder.toList = cutWords.map code := by
  have h : Try.prog.initOrder.toList = code (joinN cutWords) := by
    show (String.ofList (code (joinN cutWords))).toList = _
    exact String.toList_ofList
  rw [h]
  exact words_join cutWords (by simp [cutWords]) (by decide +kernel)

theorem cut_behind : behindMainWord (cutWords.map code) = code [99, 117, 116] :: cutWords.tail.tail.tail.map code := by kernel_rfl
theorem cut_lifts : stripLifts liftWords (code [99, 117, 116] :: cutWords.tail.tail.tail.map code) = ([], code [99, 117, 116] :: cutWords.tail.tail.tail.map code) := by kernel_rfl
theorem cut1 : (code [99, 117, 116] == "gc".toList) = false := by kernel_rfl
theorem cut2 : (code [99, 117, 116] == "spec".toList) = false := by kernel_rfl
theorem cut3 : (code [99, 117, 116] == "cut".toList) = true := by kernel_rfl
theorem cut_all : behindMainWord (wordsSigns Try.prog.initOrder.toList) = code [99, 117, 116] :: cutWords.tail.tail.tail.map code := by rw [cut_words, cut_behind]
theorem make_of (P : Program) {c : List Char} {rest : List (List Char)} (h : behindMainWord (wordsSigns P.initOrder.toList) = c :: rest) (h1 : (c == "gc".toList) = false) (h2 : (c == "spec".toList) = false) (h3 : (c == "cut".toList) = true) : P.make = some .cut := by
  unfold Program.make; rw [h]
  simp only [h1, h2, h3, Bool.or_self, Bool.false_eq_true, if_false, Bool.true_or, if_true]
theorem mayEnter_of (P : Program) {c : List Char} {rest : List (List Char)} (h : behindMainWord (wordsSigns P.initOrder.toList) = c :: rest) (h3 : ((stripLifts liftWords (c :: rest)).2.head? == some "cut".toList) = true)
    (h4 : (stripLifts liftWords (c :: rest)).1 = []) (h5 : P.laysLater = false) (h6 : P.bearsReflect = false) (h7 : P.doorFits [] = true) : P.mayEnter = true := by
  unfold Program.mayEnter; rw [h]
  refine Bool.or_eq_true_iff.2 (Or.inr ?_)
  rw [h3, h4, h5, h6, h7]; rfl
theorem row_make : Try.prog.make = some .cut := make_of Try.prog cut_all cut1 cut2 cut3
theorem row_mayEnter : Try.prog.mayEnter = true := mayEnter_of Try.prog cut_all (by rw [cut_lifts]; kernel_rfl) (by rw [cut_lifts]) (by kernel_rfl) (by kernel_rfl) (by kernel_rfl)
theorem row_lifts : Try.prog.liftsFinal = false := by unfold Program.liftsFinal Program.headLifts; rw [cut_all, cut_lifts]; kernel_rfl
end Go.Proofs.Ytdhfbphliejcdaa

namespace Go.Proofs.Ytdhfbphliejcdaa.lawParseExact
open Go.ChangeShapes Go.WideShapes Go.ChangeAt Go.RowKit Go.ChangeMaps

set_option maxRecDepth 100000 in
theorem lifted (os : Os) (started : os.Started) (H : Type) (enc : TypeId × Value → H) :
    ReturnsInHanded {} Try.checked os 3 .any (Rows.parseExactSpec.pre6 enc Try.prog Try.f3 Rows.parseExactRow.domain false) (Rows.parseExactSpec.post enc Try.prog Try.f3 false true false false) := by
  refine returnsInHanded_of_change (C := Try.checked) own started (by kernel_rfl) Try.func3
    (ChangeSpec.witness6 (enc := enc) (C := Try.checked) false ⟨#[], #[.string ⟨#[]⟩, .float .f64 0, .float .f64 0], []⟩ 8 (by kernel_rfl) (by kernel_rfl) (by kernel_rfl) (by kernel_rfl)) ?_
  intro W base args ds gs before hval0 hW hcnd _
  have hval : ∀ (j : Nat) t v, Try.f3.params[j]? = some t → args[j]? = some v → Value.okWide Try.prog W .any base t v := hval0
  have hW' := hW
  obtain ⟨p, q, hA0, hV, rfl, hfz, hnd⟩ := hW
  have hA : DataW.TrodAll enc Try.prog W 0 (fun _ => true) true Try.f3.params.toList args.toList ds p := hA0
  rw [Try.params3] at hA hval
  obtain ⟨v0, vs0, d0, ds0, p0, q0, hargs0, rfl, rfl, h0, r0⟩ := trodAll_cons hA
  obtain ⟨v1, vs1, d1, ds1, p1, q1, hargs1, rfl, rfl, h1, r1⟩ := trodAll_cons r0
  obtain ⟨v2, vs2, d2, ds2, p2, q2, hargs2, rfl, rfl, h2, r2⟩ := trodAll_cons r1
  obtain ⟨rfl, rfl, rfl⟩ := trodAll_nil r2
  obtain rfl : args = #[v0, v1, v2] := by cases args; simp_all
  obtain ⟨rfl, rfl⟩ := trodVars_none hV
  obtain ⟨a0, rfl, rfl, rfl, w0⟩ := open_string Try.underlying9 (hval 0 9 v0 rfl rfl) h0
  obtain ⟨a1, rfl, rfl, rfl, w1⟩ := open_float Try.underlying22 (hval 1 22 v1 rfl rfl) h1
  obtain ⟨a2, rfl, rfl, rfl, w2⟩ := open_float Try.underlying22 (hval 2 22 v2 rfl rfl) h2
  clear hA0 hval0
  simp only [List.append_nil] at hW'
  refine (Dv.parseExact_any a0 a1 a2 W).mono fun e W' ⟨he, hb⟩ => ?_
  subst he
  exact ⟨_, rfl, _, _, _, [], _, [], hW', trodAll_cons_mk (shut_bool Try.underlying4 _) trodAll_mk0, (trodAll_cons_mk (shut_string Try.underlying9 w0) (trodAll_cons_mk (shut_float Try.underlying22 w1) (trodAll_cons_mk (shut_float Try.underlying22 w2) trodAll_mk0))), rfl, hb.frame _, fun h => by cases h⟩

theorem closed : joinedFacts Try.prog 3 Try.f3 Rows.parseExactSpec Rows.parseExactRow = true := by
  unfold joinedFacts
  rw [row_mayEnter, row_lifts, row_make]
  kernel_rfl

theorem proved : Rows.ParseExactSaid :=
  OpenClaim.holds_of_wide 3 Try.f3 rfl rfl rfl rfl rfl rfl rfl ⟨rfl, rfl, rfl, rfl, rfl⟩ rfl rfl rfl rfl rfl (by kernel_rfl) Try.func3 closed
    (of_decide_eq_true (by kernel_rfl)) (by unfold Func.isWrapper; first | (rw [if_pos (by decide +kernel)]; kernel_rfl) | (rw [if_neg (by decide +kernel)]; exact ⟨rfl, rfl⟩))
    (fun os started H enc _ => lifted os started H enc)
#print axioms proved
end Go.Proofs.Ytdhfbphliejcdaa.lawParseExact
