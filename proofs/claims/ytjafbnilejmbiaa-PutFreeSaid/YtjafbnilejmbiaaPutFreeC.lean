/-
  PutFree holds: for every input the call returns true, and the arguments read as before. No condition.
-/
import Derived.Test.YtjafbnilejmbiaaBox
import Derived.Test.YtjafbnilejmbiaaRows
import Derived.ProofKit
import Derived.OpenShut
import Derived.Carry
import Derived.Deep.Slices
import Derived.JoinedOf
import Derived.Test.YtjafbnilejmbiaaPutLaws
import Derived.Test.YtjafbnilejmbiaaRefMore
import Derived.Test.YtjafbnilejmbiaaPut
import Derived.Test.YtjafbnilejmbiaaWakes5
import Derived.Test.YtjafbnilejmbiaaLawKit
/-! A term that is handed in, opened: it is a tree that lies in the world. -/
namespace Go.Proofs.Ytjafbnilejmbiaa
open Go.ChangeShapes Go.WideShapes Go.ChangeAt Go.RowKit

theorem own : ownKnob Try.prog.godebug = none := by kernel_rfl
theorem cells_int : Try.prog.cellsOf 3 = 1 := by kernel_rfl
theorem cells_kids : Try.prog.cellsOf 22 = 1 := by kernel_rfl
theorem cells_term : Try.prog.cellsOf 24 = 5 := by kernel_rfl
theorem laidOut : laidOutB Try.prog = true := by kernel_rfl

instance instOpenTm : Inhabited (Tm × Value) := ⟨(.mk 0 0 0 0 [], .nilIface)⟩

theorem list5 {α : Type} {l : List α} (h : l.length = 5) : ∃ a b c d e, l = [a, b, c, d, e] := by
  match l, h with
  | [a, b, c, d, e], _ => exact ⟨a, b, c, d, e, rfl⟩

theorem wf_I64 {x : Int} (h : (Lit.int .i64 x).wf = true) : I64 x := by
  simp [Lit.wf] at h
  have hm : IntKind.i64.min = -9223372036854775808 := by decide
  rw [hm] at h
  exact h

theorem open_term {H : Type} {enc : TypeId × Value → H} {w : World} {base : Nat} {sp : Nat → Bool} {hd : Bool} : ∀ (fuel : Nat) (cs : List Value) (x : DataW H × List MemPlace),
    DataW.trod enc Try.prog w base sp hd fuel 24 cs = some x → ∃ (t : Tm) (s : Value), cs = [.int .i64 t.k, .int .i64 t.i, .int .i64 t.j, .int .i64 t.n, s] ∧ t.fine ∧ Lies w t.kids s := by
  intro fuel
  induction fuel using Nat.strongRecOn with
  | _ fuel ih =>
    intro cs x h
    obtain ⟨xs, n, rfl, rfl, hl, hlen, hf⟩ := DataW.trod_struct Try.underlying24 h
    rw [cells_term] at hl
    obtain ⟨v0, v1, v2, v3, v4, rfl⟩ := list5 hl
    obtain ⟨y0, y1, y2, y3, y4, rfl⟩ := list5 hlen
    have g0 := hf 0 _ rfl
    have g1 := hf 1 _ rfl
    have g2 := hf 2 _ rfl
    have g3 := hf 3 _ rfl
    have g4 := hf 4 _ rfl
    simp [cells_int, cells_kids] at g0 g1 g2 g3 g4
    obtain ⟨k, e0, -, w0⟩ := DataW.trod_int Try.underlying3 g0
    obtain ⟨i, e1, -, w1⟩ := DataW.trod_int Try.underlying3 g1
    obtain ⟨j, e2, -, w2⟩ := DataW.trod_int Try.underlying3 g2
    obtain ⟨m, e3, -, w3⟩ := DataW.trod_int Try.underlying3 g3
    simp at e0 e1 e2 e3
    subst e0 e1 e2 e3
    rcases DataW.trod_slice Try.underlying22 g4 with ⟨e4, -⟩ | ⟨a, len, cap, elems, rest, n', rfl, e4, -, hb, hlc, hm, hlen', hel, -, -⟩
    · simp at e4
      subst e4
      exact ⟨.mk k i j m [], _, rfl, ⟨wf_I64 w0, wf_I64 w1, wf_I64 w2, wf_I64 w3⟩, .mk [] none 0 (fun _ => .nilIface) (Nat.le_refl _) (by decide) (fun _ h => by cases h) (fun _ h => by cases h) (fun _ h => by cases h)⟩
    · simp at e4
      subst e4
      have key : ∀ i, i < len → ∃ p : Tm × Value, p.1.fine ∧ Lies w p.1.kids p.2 ∧ ∃ b o, a = ⟨b, o, none⟩ ∧ Node w b (o + i * 5) p.1 p.2 := by
        intro i hi
        have h1 := hel i hi
        rw [cells_term, List.getElem?_eq_getElem (by omega)] at h1
        obtain ⟨cs', h2, h3⟩ := Option.bind_eq_some_iff.1 h1
        obtain ⟨t, s, rfl, hfine, hlies⟩ := ih n' (by omega) _ _ h3
        obtain ⟨-, -, hcell⟩ := World.cells?_some h2
        have hs0 : a.spot = none := by
          have h1 := hel 0 (by omega)
          rw [cells_term, List.getElem?_eq_getElem (by omega)] at h1
          obtain ⟨cs0, h2, -⟩ := Option.bind_eq_some_iff.1 h1
          obtain ⟨-, hl0, hc0⟩ := World.cells?_some h2
          have c0 := hc0 0 (by omega)
          rw [List.getElem?_eq_getElem (by omega)] at c0
          simpa [Addr.add] using World.cell?_spot c0
        obtain ⟨b, o, spot⟩ := a
        simp only at hs0
        subst hs0
        refine ⟨(t, s), hfine, hlies, b, o, rfl, ?_⟩
        have hc : ∀ q, q < 5 → w.cell? ⟨b, o + i * 5 + q, none⟩ = [Value.int .i64 t.k, .int .i64 t.i, .int .i64 t.j, .int .i64 t.n, s][q]? := fun q hq => by
          have := hcell q hq
          rwa [add_plain, add_plain] at this
        exact ⟨hc 0 (by omega), hc 1 (by omega), hc 2 (by omega), hc 3 (by omega), hc 4 (by omega)⟩
      obtain ⟨f, hf'⟩ := Go.Deep.choose_lt (α := Tm × Value) (p := fun i p => p.1.fine ∧ Lies w p.1.kids p.2 ∧ ∃ b o, a = ⟨b, o, none⟩ ∧ Node w b (o + i * 5) p.1 p.2) key
      have hl5 : ((List.range len).map fun i => (f i).1).length = len := by simp
      refine ⟨.mk k i j m ((List.range len).map fun i => (f i).1), _, rfl, ⟨wf_I64 w0, wf_I64 w1, wf_I64 w2, wf_I64 w3⟩, ?_⟩
      have := Lies.mk (w := w) ((List.range len).map fun i => (f i).1) (some a) cap (fun i => (f i).2) (by simpa using hlc) hm
        (fun x hx => by
          obtain ⟨i, hi, rfl⟩ := List.mem_map.1 hx
          exact (hf' i (List.mem_range.1 hi)).1)
        (fun i hi => by
          obtain ⟨b, o, ha, hn⟩ := (hf' i (by simpa using hi)).2.2
          exact ⟨b, o, by rw [ha], by simpa using hn⟩)
        (fun i hi => by simpa using (hf' i (by simpa using hi)).2.1)
      rwa [hl5] at this
/-- The same for an argument. -/
theorem open_arg {H : Type} {enc : TypeId × Value → H} {W : World} {r : Reach} {b0 base : Nat} {sp : Nat → Bool} {hd : Bool} {v : Value} {d : DataW H} {p : List MemPlace} (hv : Value.okWide Try.prog W r b0 24 v)
    (h : DataW.Trod enc Try.prog W base sp hd 24 v d p) : ∃ (t : Tm) (s : Value), Lies W t.kids s ∧ v = tv t s := by
  obtain ⟨cs, rfl, hsz⟩ := okWide_struct Try.underlying24 hv
  obtain ⟨fuel, hf⟩ := h
  obtain ⟨t, s, hcs, -, hl⟩ := open_term fuel _ _ hf
  refine ⟨t, s, hl, ?_⟩
  have : cs.toList = [.int .i64 t.k, .int .i64 t.i, .int .i64 t.j, .int .i64 t.n, s] := by simpa [Value.cells] using hcs
  rw [show cs = #[.int .i64 t.k, .int .i64 t.i, .int .i64 t.j, .int .i64 t.n, s] from by cases cs; simp_all]

end Go.Proofs.Ytjafbnilejmbiaa

/-! The words of the cut's first line: the facts of a row that ask for them, each made once for all rows of the seat. -/
namespace Go.Proofs.Ytjafbnilejmbiaa
open Go.ChangeShapes Go.WideShapes

def code (l : List Nat) : List Char := l.map Char.ofNat
def joinN : List (List Nat) → List Nat
  | [] => []
  | [a] => a
  | a :: b :: r => a ++ 32 :: joinN (b :: r)

theorem words_one : ∀ a : List Nat, (a.all fun n => Char.ofNat n != Char.ofNat 32) = true → wordsSigns (code a) = [code a]
  | [], _ => rfl
  | n :: a, h => by
    simp only [List.all_cons, Bool.and_eq_true, bne_iff_ne] at h
    have ih := words_one a h.2
    show wordsSigns (Char.ofNat n :: code a) = _
    rw [wordsSigns]
    · rw [ih]; rfl
    · exact h.1
theorem words_more : ∀ (a : List Nat) (r : List Char), (a.all fun n => Char.ofNat n != Char.ofNat 32) = true → wordsSigns (code a ++ Char.ofNat 32 :: r) = code a :: wordsSigns r
  | [], r, _ => by
    show wordsSigns (Char.ofNat 32 :: r) = _
    rw [show Char.ofNat 32 = _ from rfl, wordsSigns]; rfl
  | n :: a, r, h => by
    simp only [List.all_cons, Bool.and_eq_true, bne_iff_ne] at h
    have ih := words_more a r h.2
    show wordsSigns (Char.ofNat n :: (code a ++ Char.ofNat 32 :: r)) = _
    rw [wordsSigns]
    · rw [ih]; rfl
    · exact h.1
theorem words_join : ∀ ws : List (List Nat), ws ≠ [] → (ws.all fun w => w.all fun n => Char.ofNat n != Char.ofNat 32) = true → wordsSigns (code (joinN ws)) = ws.map code
  | [], h, _ => absurd rfl h
  | [a], _, h => by simp only [List.all_cons, List.all_nil, Bool.and_true] at h; exact words_one a h
  | a :: b :: r, _, h => by
    have h' := h
    rw [List.all_cons, Bool.and_eq_true] at h'
    have ih := words_join (b :: r) (by simp) h'.2
    show wordsSigns (code (a ++ 32 :: joinN (b :: r))) = _
    rw [show code (a ++ 32 :: joinN (b :: r)) = code a ++ Char.ofNat 32 :: code (joinN (b :: r)) from by simp [code], words_more a _ h'.1, ih]; rfl

def cutWords : List (List Nat) := [[104, 97, 114, 110, 101, 115, 115],
  [52, 57, 50, 52, 98, 98, 98, 55, 50, 53, 49, 53, 49, 48, 53, 101, 97, 54, 98, 98, 55, 52, 50, 57, 97, 100, 51, 49, 98, 53, 49, 100, 57, 102, 102, 50, 100, 99, 55, 100, 55, 98, 51, 57, 49, 57, 97, 57, 53, 49, 51, 48, 101, 97, 48, 53, 49, 97, 102, 97, 55, 54, 53, 48],
  [99, 117, 116],
  [97, 116],
  [116, 114, 97, 110, 115, 104, 105, 112, 47, 116, 114, 97, 110, 115, 104, 105, 112, 108, 97, 119, 48, 52, 46, 84, 101, 114, 109, 69, 120, 97, 99, 116],
  [116, 114, 97, 110, 115, 104, 105, 112, 47, 116, 114, 97, 110, 115, 104, 105, 112, 108, 97, 119, 48, 52, 46, 84, 101, 114, 109, 84, 97, 98, 108, 101],
  [116, 114, 97, 110, 115, 104, 105, 112, 47, 116, 114, 97, 110, 115, 104, 105, 112, 108, 97, 119, 48, 52, 46, 84, 101, 114, 109, 83, 97, 109, 101],
  [116, 114, 97, 110, 115, 104, 105, 112, 47, 116, 114, 97, 110, 115, 104, 105, 112, 108, 97, 119, 48, 52, 46, 84, 101, 114, 109, 83, 111, 114, 116, 115],
  [116, 114, 97, 110, 115, 104, 105, 112, 47, 116, 114, 97, 110, 115, 104, 105, 112, 108, 97, 119, 48, 52, 46, 84, 101, 114, 109, 83, 117, 109, 115],
  [116, 114, 97, 110, 115, 104, 105, 112, 47, 116, 114, 97, 110, 115, 104, 105, 112, 108, 97, 119, 48, 53, 46, 76, 105, 102, 116, 69, 120, 97, 99, 116],
  [116, 114, 97, 110, 115, 104, 105, 112, 47, 116, 114, 97, 110, 115, 104, 105, 112, 108, 97, 119, 48, 53, 46, 76, 105, 102, 116, 84, 119, 105, 99, 101],
  [116, 114, 97, 110, 115, 104, 105, 112, 47, 116, 114, 97, 110, 115, 104, 105, 112, 108, 97, 119, 48, 53, 46, 76, 105, 102, 116, 83, 116, 97, 121, 115],
  [116, 114, 97, 110, 115, 104, 105, 112, 47, 116, 114, 97, 110, 115, 104, 105, 112, 108, 97, 119, 48, 53, 46, 76, 105, 102, 116, 70, 114, 101, 101],
  [116, 114, 97, 110, 115, 104, 105, 112, 47, 116, 114, 97, 110, 115, 104, 105, 112, 108, 97, 119, 48, 53, 46, 82, 101, 110, 97, 109, 101, 69, 120, 97, 99, 116],
  [116, 114, 97, 110, 115, 104, 105, 112, 47, 116, 114, 97, 110, 115, 104, 105, 112, 108, 97, 119, 48, 53, 46, 82, 101, 110, 97, 109, 101, 76, 105, 102, 116, 115],
  [116, 114, 97, 110, 115, 104, 105, 112, 47, 116, 114, 97, 110, 115, 104, 105, 112, 108, 97, 119, 48, 54, 46, 83, 116, 114, 105, 112, 69, 120, 97, 99, 116],
  [116, 114, 97, 110, 115, 104, 105, 112, 47, 116, 114, 97, 110, 115, 104, 105, 112, 108, 97, 119, 48, 54, 46, 83, 116, 114, 105, 112, 80, 108, 97, 105, 110],
  [116, 114, 97, 110, 115, 104, 105, 112, 47, 116, 114, 97, 110, 115, 104, 105, 112, 108, 97, 119, 48, 54, 46, 83, 116, 114, 105, 112, 76, 105, 102, 116],
  [116, 114, 97, 110, 115, 104, 105, 112, 47, 116, 114, 97, 110, 115, 104, 105, 112, 108, 97, 119, 48, 54, 46, 83, 116, 114, 105, 112, 77, 97, 114, 107, 115],
  [116, 114, 97, 110, 115, 104, 105, 112, 47, 116, 114, 97, 110, 115, 104, 105, 112, 108, 97, 119, 48, 55, 46, 80, 117, 116, 69, 120, 97, 99, 116],
  [116, 114, 97, 110, 115, 104, 105, 112, 47, 116, 114, 97, 110, 115, 104, 105, 112, 108, 97, 119, 48, 55, 46, 65, 108, 108, 69, 120, 97, 99, 116],
  [116, 114, 97, 110, 115, 104, 105, 112, 47, 116, 114, 97, 110, 115, 104, 105, 112, 108, 97, 119, 48, 55, 46, 80, 117, 116, 76, 105, 102, 116],
  [116, 114, 97, 110, 115, 104, 105, 112, 47, 116, 114, 97, 110, 115, 104, 105, 112, 108, 97, 119, 48, 55, 46, 80, 117, 116, 65, 108, 108],
  [116, 114, 97, 110, 115, 104, 105, 112, 47, 116, 114, 97, 110, 115, 104, 105, 112, 108, 97, 119, 48, 55, 46, 80, 117, 116, 83, 116, 114, 105, 112],
  [116, 114, 97, 110, 115, 104, 105, 112, 47, 116, 114, 97, 110, 115, 104, 105, 112, 108, 97, 119, 48, 55, 46, 80, 117, 116, 84, 119, 105, 99, 101],
  [116, 114, 97, 110, 115, 104, 105, 112, 47, 116, 114, 97, 110, 115, 104, 105, 112, 108, 97, 119, 48, 55, 46, 80, 117, 116, 70, 114, 101, 101],
  [116, 114, 97, 110, 115, 104, 105, 112, 47, 116, 114, 97, 110, 115, 104, 105, 112, 108, 97, 119, 48, 56, 46, 69, 114, 97, 115, 101, 69, 120, 97, 99, 116],
  [116, 114, 97, 110, 115, 104, 105, 112, 47, 116, 114, 97, 110, 115, 104, 105, 112, 108, 97, 119, 48, 56, 46, 69, 114, 97, 115, 101, 80, 117, 114, 101],
  [116, 114, 97, 110, 115, 104, 105, 112, 47, 116, 114, 97, 110, 115, 104, 105, 112, 108, 97, 119, 48, 56, 46, 69, 114, 97, 115, 101, 71, 111, 101, 115],
  [116, 114, 97, 110, 115, 104, 105, 112, 47, 116, 114, 97, 110, 115, 104, 105, 112, 108, 97, 119, 48, 56, 46, 82, 101, 108, 97, 116, 101, 100, 69, 120, 97, 99, 116],
  [116, 114, 97, 110, 115, 104, 105, 112, 47, 116, 114, 97, 110, 115, 104, 105, 112, 108, 97, 119, 48, 56, 46, 82, 101, 108, 97, 116, 101, 100, 77, 111, 118, 101, 100]]

set_option maxRecDepth 100000 in
theorem cut_words : wordsSigns Try.prog.initOrder.toList = cutWords.map code := by
  have h : Try.prog.initOrder.toList = code (joinN cutWords) := by
    show (String.ofList (code (joinN cutWords))).toList = _
    exact String.toList_ofList
  rw [h]
  exact words_join cutWords (by simp [cutWords]) (by decide +kernel)

theorem cut_behind : behindMainWord (cutWords.map code) = code [99, 117, 116] :: cutWords.tail.tail.tail.map code := by kernel_rfl
theorem cut_lifts : stripLifts liftWords (code [99, 117, 116] :: cutWords.tail.tail.tail.map code) = ([], code [99, 117, 116] :: cutWords.tail.tail.tail.map code) := by kernel_rfl
theorem cut1 : (code [99, 117, 116] == "gc".toList) = false := by kernel_rfl
theorem cut2 : (code [99, 117, 116] == "spec".toList) = false := by kernel_rfl
theorem cut3 : (code [99, 117, 116] == "cut".toList) = true := by kernel_rfl
theorem cut_all : behindMainWord (wordsSigns Try.prog.initOrder.toList) = code [99, 117, 116] :: cutWords.tail.tail.tail.map code := by rw [cut_words, cut_behind]
theorem make_of (P : Program) {c : List Char} {rest : List (List Char)} (h : behindMainWord (wordsSigns P.initOrder.toList) = c :: rest) (h1 : (c == "gc".toList) = false) (h2 : (c == "spec".toList) = false) (h3 : (c == "cut".toList) = true) : P.make = some .cut := by
  unfold Program.make; rw [h]
  simp only [h1, h2, h3, Bool.or_self, Bool.false_eq_true, if_false, Bool.true_or, if_true]
theorem mayEnter_of (P : Program) {c : List Char} {rest : List (List Char)} (h : behindMainWord (wordsSigns P.initOrder.toList) = c :: rest) (h3 : ((stripLifts liftWords (c :: rest)).2.head? == some "cut".toList) = true)
    (h4 : (stripLifts liftWords (c :: rest)).1 = []) (h5 : P.laysLater = false) (h6 : P.bearsReflect = false) (h7 : P.doorFits [] = true) : P.mayEnter = true := by
  unfold Program.mayEnter; rw [h]
  refine Bool.or_eq_true_iff.2 (Or.inr ?_)
  rw [h3, h4, h5, h6, h7]; rfl
theorem row_make : Try.prog.make = some .cut := make_of Try.prog cut_all cut1 cut2 cut3
theorem row_mayEnter : Try.prog.mayEnter = true := mayEnter_of Try.prog cut_all (by rw [cut_lifts]; kernel_rfl) (by rw [cut_lifts]) (by kernel_rfl) (by kernel_rfl) (by kernel_rfl)
theorem row_lifts : Try.prog.liftsFinal = false := by unfold Program.liftsFinal Program.headLifts; rw [cut_all, cut_lifts]; kernel_rfl
end Go.Proofs.Ytjafbnilejmbiaa

/-! transhiplaw07.stands. -/
namespace Go.Proofs.Ytjafbnilejmbiaa
open Go.RowKit
/-- The two terms may stand so. -/
def StandsB (t u : Tm) : Prop := t.rightB = true ∧ u.rightB = true ∧ t.deep ≤ 100000 ∧ u.deep ≤ 100000 ∧ t.freeN ≤ 1000 ∧ u.freeN ≤ 1000 ∧ mayB t u = true
def Stands (t u : Tm) (w : World) (e : Ending) (w' : World) : Prop := ∃ b : Bool, e = .returned (.bool b) ∧ Below w.heap.size w w' ∧ (b = true → StandsB t u)

set_option maxRecDepth 20000 in
set_option maxHeartbeats 2000000 in
theorem stands_any (t u : Tm) (w : World) (s r : Value) (hl : Lies w t.kids s) (hm : Lies w u.kids r) : Calls Try.prog 68 #[tv t s, tv u r] w (Stands t u w) := by
  obtain ⟨a, cap, S, rfl, -⟩ := hl.out
  obtain ⟨a2, cap2, S2, rfl, -⟩ := hm.out
  have HL := Lib.hid hl
  have HM := Lib.hid hm
  have H0 := held2_start w t (.slice a t.kids.length cap) u (.slice a2 u.kids.length cap2)
  clear hl hm
  unfold tv
  go_enter Try.func68, Try.ntmps68
  go_wp2_with fail
  refine (great_any t _ _ 120 (held2_lies H0 HL.out) (by omega) (by omega)).mono ?_
  rintro e w1 ⟨g, rfl, hg, hb'⟩
  have H1 := held2_call H0 hb'
  obtain ⟨d0, d1, d2, d3, d4, c0, c1, c2, c3, c4⟩ := held2_cells H1
  have HG := Lib.hid hg
  clear hg hb' H0
  cases g with
  | true =>
    go_wp2
    go_ret
    exact ⟨false, rfl, held2_below H1, fun h => by cases h⟩
  | false =>
  have hz_t := (HG.out rfl).1
  have hd_t := (HG.out rfl).2
  clear HG
  go_wp2_with fail
  refine (great_any u _ _ 120 (held2_lies H1 HM.out) (by omega) (by omega)).mono ?_
  rintro e w2 ⟨g, rfl, hg, hb'⟩
  have H2 := held2_call H1 hb'
  obtain ⟨d0, d1, d2, d3, d4, c0, c1, c2, c3, c4⟩ := held2_cells H2
  have HG := Lib.hid hg
  clear hg hb' H1
  cases g with
  | true =>
    go_wp2
    go_ret
    exact ⟨false, rfl, held2_below H2, fun h => by cases h⟩
  | false =>
  have hz_u := (HG.out rfl).1
  have hd_u := (HG.out rfl).2
  clear HG
  go_wp2_with fail
  refine (refright_any t _ _ (held2_lies H2 HL.out)).mono ?_
  rintro e w3 ⟨rfl, hb'⟩
  have H3 := held2_call H2 hb'
  obtain ⟨d0, d1, d2, d3, d4, c0, c1, c2, c3, c4⟩ := held2_cells H3
  clear hb' H2
  cases hr_rt : t.rightB with
  | false =>
    go_wp2
    go_ret
    exact ⟨false, rfl, held2_below H3, fun h => by cases h⟩
  | true =>
  have HRrt := Lib.hid hr_rt
  clear hr_rt
  go_wp2_with fail
  refine (refright_any u _ _ (held2_lies H3 HM.out)).mono ?_
  rintro e w4 ⟨rfl, hb'⟩
  have H4 := held2_call H3 hb'
  obtain ⟨d0, d1, d2, d3, d4, c0, c1, c2, c3, c4⟩ := held2_cells H4
  clear hb' H3
  cases hr_ru : u.rightB with
  | false =>
    go_wp2
    go_ret
    exact ⟨false, rfl, held2_below H4, fun h => by cases h⟩
  | true =>
  have HRru := Lib.hid hr_ru
  clear hr_ru
  go_wp2_with fail
  refine (refFree_any t _ _ (held2_lies H4 HL.out)).mono ?_
  rintro e w5 ⟨rfl, hb'⟩
  have H5 := held2_call H4 hb'
  obtain ⟨d0, d1, d2, d3, d4, c0, c1, c2, c3, c4⟩ := held2_cells H5
  clear hb' H4
  by_cases hp1 : 1000 < t.freeB
  · have ep1 : decide (1000 < t.freeB) = true := by simpa using hp1
    go_wp2
    go_ret
    exact ⟨false, rfl, held2_below H5, fun h => by cases h⟩
  have ep1 : decide (1000 < t.freeB) = false := by simpa using hp1
  go_wp2_with fail
  refine (refFree_any u _ _ (held2_lies H5 HM.out)).mono ?_
  rintro e w6 ⟨rfl, hb'⟩
  have H6 := held2_call H5 hb'
  obtain ⟨d0, d1, d2, d3, d4, c0, c1, c2, c3, c4⟩ := held2_cells H6
  clear hb' H5
  by_cases hp2 : 1000 < u.freeB
  · have ep2 : decide (1000 < u.freeB) = true := by simpa using hp2
    go_wp2
    go_ret
    exact ⟨false, rfl, held2_below H6, fun h => by cases h⟩
  have ep2 : decide (1000 < u.freeB) = false := by simpa using hp2
  have hrt : t.rightB = true := HRrt.out
  have hru : u.rightB = true := HRru.out
  have hft := free_of hrt
  have hfu := free_of hru
  have HS : Hid (mayB t u = true → StandsB t u) := fun h => ⟨hrt, hru, by omega, by omega, by omega, by omega, h⟩
  have HRU := Lib.hid hru
  clear hz_t hd_t hz_u hd_u hrt hru hft hfu HRrt HRru
  by_cases h1 : t.k = 1
  · have e1 : (t.k == 1) = true := by simpa using h1
    have HY := Lib.hid (show mayB t u = true by unfold mayB; rw [HRU.out, e1]; rfl)
    clear h1
    go_wp2
    go_ret
    exact ⟨true, rfl, held2_below H6, fun _ => HS.out HY.out⟩
  have e1 : (t.k == 1) = false := by simpa using h1
  by_cases h2 : t.k = 2
  · have e2 : (t.k == 2) = true := by simpa using h2
    have HY := Lib.hid (show mayB t u = true by unfold mayB; rw [HRU.out, e1, e2]; rfl)
    clear h1 h2
    go_wp2
    go_ret
    exact ⟨true, rfl, held2_below H6, fun _ => HS.out HY.out⟩
  have e2 : (t.k == 2) = false := by simpa using h2
  clear h1 h2
  go_wp2_with fail
  refine (refplain_any t _ _ (held2_lies H6 HL.out)).mono ?_
  rintro e w9 ⟨rfl, hb9⟩
  have H9 := held2_call H6 hb9
  obtain ⟨d0, d1, d2, d3, d4, c0, c1, c2, c3, c4⟩ := held2_cells H9
  clear hb9
  cases hp : t.plainB with
  | true =>
    have HY := Lib.hid (show mayB t u = true by unfold mayB; rw [HRU.out, e1, e2, hp]; rfl)
    go_wp2
    go_ret
    exact ⟨true, rfl, held2_below H9, fun _ => HS.out HY.out⟩
  | false =>
    have HY := Lib.hid (show mayB t u = u.markedB by unfold mayB; rw [HRU.out, e1, e2, hp]; rfl)
    go_wp2_with fail
    refine (refmarked_any u _ _ (held2_lies H9 HM.out)).mono ?_
    rintro e w10 ⟨rfl, hb10⟩
    have H10 := held2_call H9 hb10
    clear hb10
    go_wp2
    go_ret
    exact ⟨u.markedB, rfl, held2_below H10, fun h => HS.out (HY.out.trans h)⟩
end Go.Proofs.Ytjafbnilejmbiaa

/-! The layer's own sentence, transhiplaw07.wakes, is true; stands. -/
namespace Go.Proofs.Ytjafbnilejmbiaa
open Go.RowKit

theorem v7_any (i : Int) (w : World) : Calls Try.prog 69 #[.int .i64 i] w fun e w' => e = .returned (.agg #[.int .i64 2, .int .i64 i, .int .i64 0, .int .i64 0, .slice none 0 0]) ∧ Below w.heap.size w w' := by
  obtain ⟨du, hu1, hu2⟩ := under_term
  go_enter Try.func69, Try.ntmps69
  go_wp2
  refine bodyPost_ret (results_cell_row rfl _ _ w.heap.size _ _ _ du rfl (alloc_new _ _) hu1 (by cases du <;> first | rfl | exact hu2) size_term) rfl ?_
  exact ⟨rfl, (Below.refl _ _).alloc (Nat.le_refl _) _⟩

def wake7 : Tm := .mk 15 0 0 0 [varT 0, varT 1]
def wake7s : Tm := .mk 1 3 0 0 []
theorem wake7_lies (w : World) : Lies (w.alloc (.cells #[.int .i64 2, .int .i64 0, .int .i64 0, .int .i64 0, .slice none 0 0, .int .i64 2, .int .i64 1, .int .i64 0, .int .i64 0, .slice none 0 0] 24)) wake7.kids (.slice (some ⟨w.heap.size, 0, none⟩) 2 2) := by
  have c0 := fun q => cell_of_row (w.alloc (.cells #[.int .i64 2, .int .i64 0, .int .i64 0, .int .i64 0, .slice none 0 0, .int .i64 2, .int .i64 1, .int .i64 0, .int .i64 0, .slice none 0 0] 24)) w.heap.size q _ _ _ (alloc_new _ _)
  exact Row.lies (ps := [(.mk 2 0 0 0 [], .slice none 0 0), (.mk 2 1 0 0 [], .slice none 0 0)]) ⟨⟨by rw [c0]; rfl, by rw [c0]; rfl, by rw [c0]; rfl, by rw [c0]; rfl, by rw [c0]; rfl⟩, small_fine _ _ _ (small_I64 2 (by decide)) (small_I64 0 (by decide)), lies_nil _, ⟨by rw [c0]; rfl, by rw [c0]; rfl, by rw [c0]; rfl, by rw [c0]; rfl, by rw [c0]; rfl⟩, small_fine _ _ _ (small_I64 2 (by decide)) (small_I64 1 (by decide)), lies_nil _, trivial⟩ (by decide) (by decide)

theorem two_kids {w : World} {P : Nat → Prop} {x y : Tm} {s : Value} (h : LiesP w P [x, y] s) : ∃ (a : Option Addr) (cap b : Nat), s = .slice a 2 cap ∧ a = some ⟨b, 0, none⟩ ∧ w.cell? ⟨b, 0, none⟩ = some (.int .i64 x.k) ∧ w.cell? ⟨b, 1, none⟩ = some (.int .i64 x.i) ∧ w.cell? ⟨b, 5, none⟩ = some (.int .i64 y.k) ∧ w.cell? ⟨b, 6, none⟩ = some (.int .i64 y.i) := by
  cases h with
  | mk l a cap S hc hm hf hn hk =>
    obtain ⟨b, ha, -, n0⟩ := hn 0 (by simp)
    subst ha
    obtain ⟨b', ha', -, n1⟩ := hn 1 (by simp)
    cases ha'
    exact ⟨_, cap, b, rfl, rfl, n0.c0, n0.c1, n1.c0, n1.c1⟩

set_option maxRecDepth 20000 in
set_option maxHeartbeats 2000000 in
theorem wakes7_any (w : World) : Calls Try.prog 64 #[] w fun e w' => e = .returned (.bool true) ∧ Below w.heap.size w w' := by
  go_enter Try.func64, Try.ntmps64
  go_wp2_with fail
  refine (v7_any _ _).mono ?_
  rintro e wa ⟨rfl, hba⟩
  go_wp2_with fail
  refine (v7_any _ _).mono ?_
  rintro e wb ⟨rfl, hbb⟩
  have hB := hba.trans (hbb.mono hba.size)
  have hL := wake7_lies wb
  have hBw : Below wb.heap.size wb (wb.alloc (.cells #[.int .i64 2, .int .i64 0, .int .i64 0, .int .i64 0, .slice none 0 0, .int .i64 2, .int .i64 1, .int .i64 0, .int .i64 0, .slice none 0 0] 24)) := (Below.refl _ _).alloc (Nat.le_refl _) _
  clear hba hbb
  have hc := put_any wake7 wake7s _ _ (.slice none 0 0) hL (lies_nil _) (by decide) (by decide)
  rw [show wake7.putB wake7s = .mk 15 0 0 0 [.mk 1 3 0 0 [], varT 0] from by kernel_rfl] at hc
  go_wp2_with fail
  refine hc.mono ?_
  clear hc
  rintro e w3 ⟨s3, he, hl3, hb3⟩
  obtain ⟨a3, cap3, b3, hs3, ha3, p0, p1, p5, p6⟩ := two_kids hl3
  subst ha3
  subst hs3
  replace he : e = .returned (.agg #[.int .i64 15, .int .i64 0, .int .i64 0, .int .i64 0, .slice (some ⟨b3, 0, none⟩) 2 cap3]) := he
  subst he
  have hb4 : Below w3.heap.size w3 (w3.alloc (.cells #[.int .i64 15, .int .i64 0, .int .i64 0, .int .i64 0, .slice (some ⟨b3, 0, none⟩) 2 cap3] 24)) := (Below.refl _ _).alloc (Nat.le_refl _) _
  have hlt3 : b3 < w3.heap.size := World.block_lt_of_cell? _ _ p0
  have hB4 := hB.trans (((hBw.trans (hb3.mono hBw.size)).trans (hb4.mono (by have := hb3.size; have := hBw.size; omega))).mono hB.size)
  have HB4 := Lib.hid hB4
  clear hl3 hb3 hb4 hB hBw hL hB4
  go_wp2_with fail
  go_ret
  exact ⟨rfl, HB4.out⟩
end Go.Proofs.Ytjafbnilejmbiaa

/-! The walk of transhiplaw07.PutFree. -/
namespace Go.Proofs.Ytjafbnilejmbiaa
open Go.RowKit

set_option maxRecDepth 20000 in
set_option maxHeartbeats 4000000 in
theorem putFree_any (t u : Tm) (w : World) (s r : Value) (hl : Lies w t.kids s) (hm : Lies w u.kids r) : Calls Try.prog 24 #[tv t s, tv u r] w fun e w' => e = .returned (.bool true) ∧ Below w.heap.size w w' := by
  obtain ⟨a, cap, S, rfl, -⟩ := hl.out
  obtain ⟨a2, cap2, S2, rfl, -⟩ := hm.out
  have HL := Lib.hid hl
  have HM := Lib.hid hm
  have H0 := held2_start w t (.slice a t.kids.length cap) u (.slice a2 u.kids.length cap2)
  clear hl hm
  unfold tv
  go_enter Try.func24, Try.ntmps24
  go_wp2_with fail
  refine (stands_any t u _ _ _ (held2_lies H0 HL.out) (held2_lies H0 HM.out)).mono ?_
  rintro e w1 ⟨b, rfl, hb1, hst⟩
  have H1 := held2_call H0 hb1
  have HST := Lib.hid hst
  clear hb1 hst H0
  cases b with
  | false =>
    go_wp2
    go_ret
    exact ⟨rfl, held2_below H1⟩
  | true =>
  obtain ⟨hrt, hru, hdt, hdu, hft, hfu, hmy⟩ := HST.out rfl
  clear HST
  obtain ⟨d0, d1, d2, d3, d4, c0, c1, c2, c3, c4⟩ := held2_cells H1
  obtain ⟨X, hX⟩ : ∃ X, t.putB u = X := ⟨_, rfl⟩
  obtain ⟨k1, k2, k3⟩ := putB_keeps hrt hmy (by omega) hdt hdu
  rw [hX] at k1 k2 k3
  have HX := Lib.hid hX
  have HX1 := Lib.hid k1
  have HX2 := Lib.hid k2
  have hle := k3
  have fX := X.free_range k1
  have fT := t.free_range hrt
  have fU := u.free_range hru
  rw [← free_of k1] at fX
  rw [← free_of hrt] at fT hft
  rw [← free_of hru] at fU hfu
  have hsub : IntKind.i64.wrap (t.freeB - 1) = t.freeB - 1 := IntWalk.i64_in _ (by omega)
  clear k1 k2 k3 hX hrt hru hmy
  go_wp2_with fail
  refine (put_any t u _ _ _ (held2_lies H1 HL.out) (held2_lies H1 HM.out) hdt hdu).mono ?_
  rw [HX.out]
  rintro e wl ⟨s8, rfl, hl8, hb8⟩
  obtain ⟨a8, cap8, rfl, -, -⟩ := hl8.out
  have H2 := held2_call H1 hb8
  have HLX0 := hl8.lies
  clear hb8 hl8 H1 d0 d1 d2 d3 d4 c0 c1 c2 c3 c4
  have H3 := held2_alloc H2 (.cells #[.int .i64 X.k, .int .i64 X.i, .int .i64 X.j, .int .i64 X.n, .slice a8 X.kids.length cap8] 24)
  have q3 := alloc_new wl (.cells #[.int .i64 X.k, .int .i64 X.i, .int .i64 X.j, .int .i64 X.n, .slice a8 X.kids.length cap8] 24)
  have HLX1 := HLX0.keep ((Below.refl _ _).alloc (Nat.le_refl _) (.cells #[.int .i64 X.k, .int .i64 X.i, .int .i64 X.j, .int .i64 X.n, .slice a8 X.kids.length cap8] 24))
  go_upto_region 4 with fail
  generalize wl.alloc (.cells #[.int .i64 X.k, .int .i64 X.i, .int .i64 X.j, .int .i64 X.n, .slice a8 X.kids.length cap8] 24) = wl2 at H3 q3 HLX1 ⊢
  have hc10 := held2_cells H3
  have HC := Lib.hid (And.intro hc10.1 (And.intro hc10.2.1 (And.intro hc10.2.2.1 (And.intro hc10.2.2.2.1 (And.intro hc10.2.2.2.2.1 (and_five hc10.2.2.2.2.2 (five_cells q3)))))))
  have HLT := Lib.hid (held2_lies H3 HL.out)
  have HLU := Lib.hid (held2_lies H3 HM.out)
  have HLX := Lib.hid HLX1
  have HB0 := Lib.hid (held2_below H3)
  have hk0 := kept_start wl2
  clear H2 H3 q3 HLX0 HLX1 hc10 hdt hdu
  obtain ⟨x00, x01, x02, x03, x04, x10, x11, x12, x13, x14, x20, x21, x22, x23, x24⟩ := HC.out
  go_wp2_with fail
  have hcall := refright_any X _ _ (kept_lies hk0 HLX.out)
  rw [HX1.out] at hcall
  refine hcall.mono ?_
  rintro e w1 ⟨rfl, hb'⟩
  have hk1 := kept_call hk0 hb'
  clear hcall hb'
  obtain ⟨-, x00, x01, x02, x03, x04, x10, x11, x12, x13, x14, x20, x21, x22, x23, x24⟩ := kept_boxes3 hk1 HC.out
  go_wp2_with fail
  have hcall := refmarked_any t _ _ (kept_lies hk1 HLT.out)
  refine hcall.mono ?_
  rintro e w2 ⟨rfl, hb'⟩
  have hk2 := kept_call hk1 hb'
  clear hcall hb'
  obtain ⟨-, x00, x01, x02, x03, x04, x10, x11, x12, x13, x14, x20, x21, x22, x23, x24⟩ := kept_boxes3 hk2 HC.out
  cases hmt : t.markedB with
  | false =>
    by_cases hmx : t.freeB ≤ u.freeB
    · have hmx2 : t.freeB - 1 < u.freeB := by omega
      have hA : X.freeB ≤ u.freeB := by omega
      have hA2 : decide (X.freeB ≤ u.freeB) = true := decide_eq_true hA
      go_wp2_with fail
      go_region_held3 (fun w' => Kept wl2 w' ∧ w'.cell? ⟨w.heap.size, 0, none⟩ = some (.int .i64 t.k) ∧ w'.cell? ⟨w.heap.size, 1, none⟩ = some (.int .i64 t.i) ∧ w'.cell? ⟨w.heap.size, 2, none⟩ = some (.int .i64 t.j) ∧ w'.cell? ⟨w.heap.size, 3, none⟩ = some (.int .i64 t.n) ∧ w'.cell? ⟨w.heap.size, 4, none⟩ = some (.slice a t.kids.length cap) ∧ w'.cell? ⟨w.heap.size + 1, 0, none⟩ = some (.int .i64 u.k) ∧ w'.cell? ⟨w.heap.size + 1, 1, none⟩ = some (.int .i64 u.i) ∧ w'.cell? ⟨w.heap.size + 1, 2, none⟩ = some (.int .i64 u.j) ∧ w'.cell? ⟨w.heap.size + 1, 3, none⟩ = some (.int .i64 u.n) ∧ w'.cell? ⟨w.heap.size + 1, 4, none⟩ = some (.slice a2 u.kids.length cap2) ∧ w'.cell? ⟨wl.heap.size, 0, none⟩ = some (.int .i64 X.k) ∧ w'.cell? ⟨wl.heap.size, 1, none⟩ = some (.int .i64 X.i) ∧ w'.cell? ⟨wl.heap.size, 2, none⟩ = some (.int .i64 X.j) ∧ w'.cell? ⟨wl.heap.size, 3, none⟩ = some (.int .i64 X.n) ∧ w'.cell? ⟨wl.heap.size, 4, none⟩ = some (.slice a8 X.kids.length cap8))
        (((with_reducible refine kept_boxes3 ?_ HC.out); repeat (first | with_reducible assumption | with_reducible exact hk2 | with_reducible refine kept_drew ?_ | with_reducible refine kept_alloc ?_ _)))
        (first | (go_at_call 64; have hS := (‹Kept wl2 _ ∧ _›).1; ((refine (wakes7_any _).mono ?_); rintro e wn ⟨rfl, hbn⟩; have hh := kept_call hS hbn; obtain ⟨-, x00, x01, x02, x03, x04, x10, x11, x12, x13, x14, x20, x21, x22, x23, x24⟩ := kept_boxes3 hh HC.out)) | (go_at_call 44; have hS := (‹Kept wl2 _ ∧ _›).1; have hcall := refFree_any X _ _ (kept_lies hS HLX.out); ((with_reducible refine Calls.mono hcall ?_); rintro e wn ⟨rfl, hbn⟩; clear hcall; have hh := kept_call hS hbn; obtain ⟨-, x00, x01, x02, x03, x04, x10, x11, x12, x13, x14, x20, x21, x22, x23, x24⟩ := kept_boxes3 hh HC.out)) | (go_at_call 44; have hS := (‹Kept wl2 _ ∧ _›).1; have hcall := refFree_any t _ _ (kept_lies hS HLT.out); ((with_reducible refine Calls.mono hcall ?_); rintro e wn ⟨rfl, hbn⟩; clear hcall; have hh := kept_call hS hbn; obtain ⟨-, x00, x01, x02, x03, x04, x10, x11, x12, x13, x14, x20, x21, x22, x23, x24⟩ := kept_boxes3 hh HC.out)) | (go_at_call 44; have hS := (‹Kept wl2 _ ∧ _›).1; have hcall := refFree_any u _ _ (kept_lies hS HLU.out); ((with_reducible refine Calls.mono hcall ?_); rintro e wn ⟨rfl, hbn⟩; clear hcall; have hh := kept_call hS hbn; obtain ⟨-, x00, x01, x02, x03, x04, x10, x11, x12, x13, x14, x20, x21, x22, x23, x24⟩ := kept_boxes3 hh HC.out)))
      go_wp2
      go_ret
      exact ⟨rfl, HB0.out.trans (hh.mono HB0.out.size)⟩
    · have hmx2 : u.freeB < t.freeB := by omega
      have hmx3 : ¬ (t.freeB - 1 < u.freeB) := by omega
      have hA : X.freeB ≤ t.freeB - 1 := by omega
      have hA3 : X.freeB < t.freeB := by omega
      have hA2 : decide (X.freeB ≤ t.freeB - 1) = true := decide_eq_true hA
      go_wp2_with fail
      go_region_held3 (fun w' => Kept wl2 w' ∧ w'.cell? ⟨w.heap.size, 0, none⟩ = some (.int .i64 t.k) ∧ w'.cell? ⟨w.heap.size, 1, none⟩ = some (.int .i64 t.i) ∧ w'.cell? ⟨w.heap.size, 2, none⟩ = some (.int .i64 t.j) ∧ w'.cell? ⟨w.heap.size, 3, none⟩ = some (.int .i64 t.n) ∧ w'.cell? ⟨w.heap.size, 4, none⟩ = some (.slice a t.kids.length cap) ∧ w'.cell? ⟨w.heap.size + 1, 0, none⟩ = some (.int .i64 u.k) ∧ w'.cell? ⟨w.heap.size + 1, 1, none⟩ = some (.int .i64 u.i) ∧ w'.cell? ⟨w.heap.size + 1, 2, none⟩ = some (.int .i64 u.j) ∧ w'.cell? ⟨w.heap.size + 1, 3, none⟩ = some (.int .i64 u.n) ∧ w'.cell? ⟨w.heap.size + 1, 4, none⟩ = some (.slice a2 u.kids.length cap2) ∧ w'.cell? ⟨wl.heap.size, 0, none⟩ = some (.int .i64 X.k) ∧ w'.cell? ⟨wl.heap.size, 1, none⟩ = some (.int .i64 X.i) ∧ w'.cell? ⟨wl.heap.size, 2, none⟩ = some (.int .i64 X.j) ∧ w'.cell? ⟨wl.heap.size, 3, none⟩ = some (.int .i64 X.n) ∧ w'.cell? ⟨wl.heap.size, 4, none⟩ = some (.slice a8 X.kids.length cap8))
        (((with_reducible refine kept_boxes3 ?_ HC.out); repeat (first | with_reducible assumption | with_reducible exact hk2 | with_reducible refine kept_drew ?_ | with_reducible refine kept_alloc ?_ _)))
        (first | (go_at_call 64; have hS := (‹Kept wl2 _ ∧ _›).1; ((refine (wakes7_any _).mono ?_); rintro e wn ⟨rfl, hbn⟩; have hh := kept_call hS hbn; obtain ⟨-, x00, x01, x02, x03, x04, x10, x11, x12, x13, x14, x20, x21, x22, x23, x24⟩ := kept_boxes3 hh HC.out)) | (go_at_call 44; have hS := (‹Kept wl2 _ ∧ _›).1; have hcall := refFree_any X _ _ (kept_lies hS HLX.out); ((with_reducible refine Calls.mono hcall ?_); rintro e wn ⟨rfl, hbn⟩; clear hcall; have hh := kept_call hS hbn; obtain ⟨-, x00, x01, x02, x03, x04, x10, x11, x12, x13, x14, x20, x21, x22, x23, x24⟩ := kept_boxes3 hh HC.out)) | (go_at_call 44; have hS := (‹Kept wl2 _ ∧ _›).1; have hcall := refFree_any t _ _ (kept_lies hS HLT.out); ((with_reducible refine Calls.mono hcall ?_); rintro e wn ⟨rfl, hbn⟩; clear hcall; have hh := kept_call hS hbn; obtain ⟨-, x00, x01, x02, x03, x04, x10, x11, x12, x13, x14, x20, x21, x22, x23, x24⟩ := kept_boxes3 hh HC.out)) | (go_at_call 44; have hS := (‹Kept wl2 _ ∧ _›).1; have hcall := refFree_any u _ _ (kept_lies hS HLU.out); ((with_reducible refine Calls.mono hcall ?_); rintro e wn ⟨rfl, hbn⟩; clear hcall; have hh := kept_call hS hbn; obtain ⟨-, x00, x01, x02, x03, x04, x10, x11, x12, x13, x14, x20, x21, x22, x23, x24⟩ := kept_boxes3 hh HC.out)))
      go_wp2
      go_ret
      exact ⟨rfl, HB0.out.trans (hh.mono HB0.out.size)⟩
  | true =>
    go_wp2_with fail
    have hcall := refmarked_any u _ _ (kept_lies hk2 HLU.out)
    refine hcall.mono ?_
    rintro e w3 ⟨rfl, hb'⟩
    have hk3 := kept_call hk2 hb'
    clear hcall hb'
    obtain ⟨-, x00, x01, x02, x03, x04, x10, x11, x12, x13, x14, x20, x21, x22, x23, x24⟩ := kept_boxes3 hk3 HC.out
    cases hmu : u.markedB with
    | false =>
      by_cases hmx : t.freeB ≤ u.freeB
      · have hmx2 : t.freeB - 1 < u.freeB := by omega
        have hA : X.freeB ≤ u.freeB := by omega
        have hA2 : decide (X.freeB ≤ u.freeB) = true := decide_eq_true hA
        go_wp2_with fail
        go_region_held3 (fun w' => Kept wl2 w' ∧ w'.cell? ⟨w.heap.size, 0, none⟩ = some (.int .i64 t.k) ∧ w'.cell? ⟨w.heap.size, 1, none⟩ = some (.int .i64 t.i) ∧ w'.cell? ⟨w.heap.size, 2, none⟩ = some (.int .i64 t.j) ∧ w'.cell? ⟨w.heap.size, 3, none⟩ = some (.int .i64 t.n) ∧ w'.cell? ⟨w.heap.size, 4, none⟩ = some (.slice a t.kids.length cap) ∧ w'.cell? ⟨w.heap.size + 1, 0, none⟩ = some (.int .i64 u.k) ∧ w'.cell? ⟨w.heap.size + 1, 1, none⟩ = some (.int .i64 u.i) ∧ w'.cell? ⟨w.heap.size + 1, 2, none⟩ = some (.int .i64 u.j) ∧ w'.cell? ⟨w.heap.size + 1, 3, none⟩ = some (.int .i64 u.n) ∧ w'.cell? ⟨w.heap.size + 1, 4, none⟩ = some (.slice a2 u.kids.length cap2) ∧ w'.cell? ⟨wl.heap.size, 0, none⟩ = some (.int .i64 X.k) ∧ w'.cell? ⟨wl.heap.size, 1, none⟩ = some (.int .i64 X.i) ∧ w'.cell? ⟨wl.heap.size, 2, none⟩ = some (.int .i64 X.j) ∧ w'.cell? ⟨wl.heap.size, 3, none⟩ = some (.int .i64 X.n) ∧ w'.cell? ⟨wl.heap.size, 4, none⟩ = some (.slice a8 X.kids.length cap8))
          (((with_reducible refine kept_boxes3 ?_ HC.out); repeat (first | with_reducible assumption | with_reducible exact hk3 | with_reducible refine kept_drew ?_ | with_reducible refine kept_alloc ?_ _)))
          (first | (go_at_call 64; have hS := (‹Kept wl2 _ ∧ _›).1; ((refine (wakes7_any _).mono ?_); rintro e wn ⟨rfl, hbn⟩; have hh := kept_call hS hbn; obtain ⟨-, x00, x01, x02, x03, x04, x10, x11, x12, x13, x14, x20, x21, x22, x23, x24⟩ := kept_boxes3 hh HC.out)) | (go_at_call 44; have hS := (‹Kept wl2 _ ∧ _›).1; have hcall := refFree_any X _ _ (kept_lies hS HLX.out); ((with_reducible refine Calls.mono hcall ?_); rintro e wn ⟨rfl, hbn⟩; clear hcall; have hh := kept_call hS hbn; obtain ⟨-, x00, x01, x02, x03, x04, x10, x11, x12, x13, x14, x20, x21, x22, x23, x24⟩ := kept_boxes3 hh HC.out)) | (go_at_call 44; have hS := (‹Kept wl2 _ ∧ _›).1; have hcall := refFree_any t _ _ (kept_lies hS HLT.out); ((with_reducible refine Calls.mono hcall ?_); rintro e wn ⟨rfl, hbn⟩; clear hcall; have hh := kept_call hS hbn; obtain ⟨-, x00, x01, x02, x03, x04, x10, x11, x12, x13, x14, x20, x21, x22, x23, x24⟩ := kept_boxes3 hh HC.out)) | (go_at_call 44; have hS := (‹Kept wl2 _ ∧ _›).1; have hcall := refFree_any u _ _ (kept_lies hS HLU.out); ((with_reducible refine Calls.mono hcall ?_); rintro e wn ⟨rfl, hbn⟩; clear hcall; have hh := kept_call hS hbn; obtain ⟨-, x00, x01, x02, x03, x04, x10, x11, x12, x13, x14, x20, x21, x22, x23, x24⟩ := kept_boxes3 hh HC.out)))
        go_wp2
        go_ret
        exact ⟨rfl, HB0.out.trans (hh.mono HB0.out.size)⟩
      · have hmx2 : u.freeB < t.freeB := by omega
        have hmx3 : ¬ (t.freeB - 1 < u.freeB) := by omega
        have hA : X.freeB ≤ t.freeB - 1 := by omega
        have hA3 : X.freeB < t.freeB := by omega
        have hA2 : decide (X.freeB ≤ t.freeB - 1) = true := decide_eq_true hA
        go_wp2_with fail
        go_region_held3 (fun w' => Kept wl2 w' ∧ w'.cell? ⟨w.heap.size, 0, none⟩ = some (.int .i64 t.k) ∧ w'.cell? ⟨w.heap.size, 1, none⟩ = some (.int .i64 t.i) ∧ w'.cell? ⟨w.heap.size, 2, none⟩ = some (.int .i64 t.j) ∧ w'.cell? ⟨w.heap.size, 3, none⟩ = some (.int .i64 t.n) ∧ w'.cell? ⟨w.heap.size, 4, none⟩ = some (.slice a t.kids.length cap) ∧ w'.cell? ⟨w.heap.size + 1, 0, none⟩ = some (.int .i64 u.k) ∧ w'.cell? ⟨w.heap.size + 1, 1, none⟩ = some (.int .i64 u.i) ∧ w'.cell? ⟨w.heap.size + 1, 2, none⟩ = some (.int .i64 u.j) ∧ w'.cell? ⟨w.heap.size + 1, 3, none⟩ = some (.int .i64 u.n) ∧ w'.cell? ⟨w.heap.size + 1, 4, none⟩ = some (.slice a2 u.kids.length cap2) ∧ w'.cell? ⟨wl.heap.size, 0, none⟩ = some (.int .i64 X.k) ∧ w'.cell? ⟨wl.heap.size, 1, none⟩ = some (.int .i64 X.i) ∧ w'.cell? ⟨wl.heap.size, 2, none⟩ = some (.int .i64 X.j) ∧ w'.cell? ⟨wl.heap.size, 3, none⟩ = some (.int .i64 X.n) ∧ w'.cell? ⟨wl.heap.size, 4, none⟩ = some (.slice a8 X.kids.length cap8))
          (((with_reducible refine kept_boxes3 ?_ HC.out); repeat (first | with_reducible assumption | with_reducible exact hk3 | with_reducible refine kept_drew ?_ | with_reducible refine kept_alloc ?_ _)))
          (first | (go_at_call 64; have hS := (‹Kept wl2 _ ∧ _›).1; ((refine (wakes7_any _).mono ?_); rintro e wn ⟨rfl, hbn⟩; have hh := kept_call hS hbn; obtain ⟨-, x00, x01, x02, x03, x04, x10, x11, x12, x13, x14, x20, x21, x22, x23, x24⟩ := kept_boxes3 hh HC.out)) | (go_at_call 44; have hS := (‹Kept wl2 _ ∧ _›).1; have hcall := refFree_any X _ _ (kept_lies hS HLX.out); ((with_reducible refine Calls.mono hcall ?_); rintro e wn ⟨rfl, hbn⟩; clear hcall; have hh := kept_call hS hbn; obtain ⟨-, x00, x01, x02, x03, x04, x10, x11, x12, x13, x14, x20, x21, x22, x23, x24⟩ := kept_boxes3 hh HC.out)) | (go_at_call 44; have hS := (‹Kept wl2 _ ∧ _›).1; have hcall := refFree_any t _ _ (kept_lies hS HLT.out); ((with_reducible refine Calls.mono hcall ?_); rintro e wn ⟨rfl, hbn⟩; clear hcall; have hh := kept_call hS hbn; obtain ⟨-, x00, x01, x02, x03, x04, x10, x11, x12, x13, x14, x20, x21, x22, x23, x24⟩ := kept_boxes3 hh HC.out)) | (go_at_call 44; have hS := (‹Kept wl2 _ ∧ _›).1; have hcall := refFree_any u _ _ (kept_lies hS HLU.out); ((with_reducible refine Calls.mono hcall ?_); rintro e wn ⟨rfl, hbn⟩; clear hcall; have hh := kept_call hS hbn; obtain ⟨-, x00, x01, x02, x03, x04, x10, x11, x12, x13, x14, x20, x21, x22, x23, x24⟩ := kept_boxes3 hh HC.out)))
        go_wp2
        go_ret
        exact ⟨rfl, HB0.out.trans (hh.mono HB0.out.size)⟩
    | true =>
      go_wp2_with fail
      have hcall := refmarked_any X _ _ (kept_lies hk3 HLX.out)
      rw [HX2.out hmt hmu] at hcall
      refine hcall.mono ?_
      rintro e w4 ⟨rfl, hb'⟩
      have hk4 := kept_call hk3 hb'
      clear hcall hb'
      obtain ⟨-, x00, x01, x02, x03, x04, x10, x11, x12, x13, x14, x20, x21, x22, x23, x24⟩ := kept_boxes3 hk4 HC.out
      by_cases hmx : t.freeB ≤ u.freeB
      · have hmx2 : t.freeB - 1 < u.freeB := by omega
        have hA : X.freeB ≤ u.freeB := by omega
        have hA2 : decide (X.freeB ≤ u.freeB) = true := decide_eq_true hA
        go_wp2_with fail
        go_region_held3 (fun w' => Kept wl2 w' ∧ w'.cell? ⟨w.heap.size, 0, none⟩ = some (.int .i64 t.k) ∧ w'.cell? ⟨w.heap.size, 1, none⟩ = some (.int .i64 t.i) ∧ w'.cell? ⟨w.heap.size, 2, none⟩ = some (.int .i64 t.j) ∧ w'.cell? ⟨w.heap.size, 3, none⟩ = some (.int .i64 t.n) ∧ w'.cell? ⟨w.heap.size, 4, none⟩ = some (.slice a t.kids.length cap) ∧ w'.cell? ⟨w.heap.size + 1, 0, none⟩ = some (.int .i64 u.k) ∧ w'.cell? ⟨w.heap.size + 1, 1, none⟩ = some (.int .i64 u.i) ∧ w'.cell? ⟨w.heap.size + 1, 2, none⟩ = some (.int .i64 u.j) ∧ w'.cell? ⟨w.heap.size + 1, 3, none⟩ = some (.int .i64 u.n) ∧ w'.cell? ⟨w.heap.size + 1, 4, none⟩ = some (.slice a2 u.kids.length cap2) ∧ w'.cell? ⟨wl.heap.size, 0, none⟩ = some (.int .i64 X.k) ∧ w'.cell? ⟨wl.heap.size, 1, none⟩ = some (.int .i64 X.i) ∧ w'.cell? ⟨wl.heap.size, 2, none⟩ = some (.int .i64 X.j) ∧ w'.cell? ⟨wl.heap.size, 3, none⟩ = some (.int .i64 X.n) ∧ w'.cell? ⟨wl.heap.size, 4, none⟩ = some (.slice a8 X.kids.length cap8))
          (((with_reducible refine kept_boxes3 ?_ HC.out); repeat (first | with_reducible assumption | with_reducible exact hk4 | with_reducible refine kept_drew ?_ | with_reducible refine kept_alloc ?_ _)))
          (first | (go_at_call 64; have hS := (‹Kept wl2 _ ∧ _›).1; ((refine (wakes7_any _).mono ?_); rintro e wn ⟨rfl, hbn⟩; have hh := kept_call hS hbn; obtain ⟨-, x00, x01, x02, x03, x04, x10, x11, x12, x13, x14, x20, x21, x22, x23, x24⟩ := kept_boxes3 hh HC.out)) | (go_at_call 44; have hS := (‹Kept wl2 _ ∧ _›).1; have hcall := refFree_any X _ _ (kept_lies hS HLX.out); ((with_reducible refine Calls.mono hcall ?_); rintro e wn ⟨rfl, hbn⟩; clear hcall; have hh := kept_call hS hbn; obtain ⟨-, x00, x01, x02, x03, x04, x10, x11, x12, x13, x14, x20, x21, x22, x23, x24⟩ := kept_boxes3 hh HC.out)) | (go_at_call 44; have hS := (‹Kept wl2 _ ∧ _›).1; have hcall := refFree_any t _ _ (kept_lies hS HLT.out); ((with_reducible refine Calls.mono hcall ?_); rintro e wn ⟨rfl, hbn⟩; clear hcall; have hh := kept_call hS hbn; obtain ⟨-, x00, x01, x02, x03, x04, x10, x11, x12, x13, x14, x20, x21, x22, x23, x24⟩ := kept_boxes3 hh HC.out)) | (go_at_call 44; have hS := (‹Kept wl2 _ ∧ _›).1; have hcall := refFree_any u _ _ (kept_lies hS HLU.out); ((with_reducible refine Calls.mono hcall ?_); rintro e wn ⟨rfl, hbn⟩; clear hcall; have hh := kept_call hS hbn; obtain ⟨-, x00, x01, x02, x03, x04, x10, x11, x12, x13, x14, x20, x21, x22, x23, x24⟩ := kept_boxes3 hh HC.out)))
        go_wp2
        go_ret
        exact ⟨rfl, HB0.out.trans (hh.mono HB0.out.size)⟩
      · have hmx2 : u.freeB < t.freeB := by omega
        have hmx3 : ¬ (t.freeB - 1 < u.freeB) := by omega
        have hA : X.freeB ≤ t.freeB - 1 := by omega
        have hA3 : X.freeB < t.freeB := by omega
        have hA2 : decide (X.freeB ≤ t.freeB - 1) = true := decide_eq_true hA
        go_wp2_with fail
        go_region_held3 (fun w' => Kept wl2 w' ∧ w'.cell? ⟨w.heap.size, 0, none⟩ = some (.int .i64 t.k) ∧ w'.cell? ⟨w.heap.size, 1, none⟩ = some (.int .i64 t.i) ∧ w'.cell? ⟨w.heap.size, 2, none⟩ = some (.int .i64 t.j) ∧ w'.cell? ⟨w.heap.size, 3, none⟩ = some (.int .i64 t.n) ∧ w'.cell? ⟨w.heap.size, 4, none⟩ = some (.slice a t.kids.length cap) ∧ w'.cell? ⟨w.heap.size + 1, 0, none⟩ = some (.int .i64 u.k) ∧ w'.cell? ⟨w.heap.size + 1, 1, none⟩ = some (.int .i64 u.i) ∧ w'.cell? ⟨w.heap.size + 1, 2, none⟩ = some (.int .i64 u.j) ∧ w'.cell? ⟨w.heap.size + 1, 3, none⟩ = some (.int .i64 u.n) ∧ w'.cell? ⟨w.heap.size + 1, 4, none⟩ = some (.slice a2 u.kids.length cap2) ∧ w'.cell? ⟨wl.heap.size, 0, none⟩ = some (.int .i64 X.k) ∧ w'.cell? ⟨wl.heap.size, 1, none⟩ = some (.int .i64 X.i) ∧ w'.cell? ⟨wl.heap.size, 2, none⟩ = some (.int .i64 X.j) ∧ w'.cell? ⟨wl.heap.size, 3, none⟩ = some (.int .i64 X.n) ∧ w'.cell? ⟨wl.heap.size, 4, none⟩ = some (.slice a8 X.kids.length cap8))
          (((with_reducible refine kept_boxes3 ?_ HC.out); repeat (first | with_reducible assumption | with_reducible exact hk4 | with_reducible refine kept_drew ?_ | with_reducible refine kept_alloc ?_ _)))
          (first | (go_at_call 64; have hS := (‹Kept wl2 _ ∧ _›).1; ((refine (wakes7_any _).mono ?_); rintro e wn ⟨rfl, hbn⟩; have hh := kept_call hS hbn; obtain ⟨-, x00, x01, x02, x03, x04, x10, x11, x12, x13, x14, x20, x21, x22, x23, x24⟩ := kept_boxes3 hh HC.out)) | (go_at_call 44; have hS := (‹Kept wl2 _ ∧ _›).1; have hcall := refFree_any X _ _ (kept_lies hS HLX.out); ((with_reducible refine Calls.mono hcall ?_); rintro e wn ⟨rfl, hbn⟩; clear hcall; have hh := kept_call hS hbn; obtain ⟨-, x00, x01, x02, x03, x04, x10, x11, x12, x13, x14, x20, x21, x22, x23, x24⟩ := kept_boxes3 hh HC.out)) | (go_at_call 44; have hS := (‹Kept wl2 _ ∧ _›).1; have hcall := refFree_any t _ _ (kept_lies hS HLT.out); ((with_reducible refine Calls.mono hcall ?_); rintro e wn ⟨rfl, hbn⟩; clear hcall; have hh := kept_call hS hbn; obtain ⟨-, x00, x01, x02, x03, x04, x10, x11, x12, x13, x14, x20, x21, x22, x23, x24⟩ := kept_boxes3 hh HC.out)) | (go_at_call 44; have hS := (‹Kept wl2 _ ∧ _›).1; have hcall := refFree_any u _ _ (kept_lies hS HLU.out); ((with_reducible refine Calls.mono hcall ?_); rintro e wn ⟨rfl, hbn⟩; clear hcall; have hh := kept_call hS hbn; obtain ⟨-, x00, x01, x02, x03, x04, x10, x11, x12, x13, x14, x20, x21, x22, x23, x24⟩ := kept_boxes3 hh HC.out)))
        go_wp2
        go_ret
        exact ⟨rfl, HB0.out.trans (hh.mono HB0.out.size)⟩
end Go.Proofs.Ytjafbnilejmbiaa

/-! PutFree holds: for every input the call returns true, and the arguments read as before. The walk of the Go text is in the texts that this one imports; no condition. -/
namespace Go.Proofs.Ytjafbnilejmbiaa.lawPutFree
open Go.ChangeShapes Go.WideShapes Go.ChangeAt Go.RowKit

set_option maxRecDepth 100000 in
theorem lifted (os : Os) (started : os.Started) (H : Type) (enc : TypeId × Value → H) :
    ReturnsInHanded {} Try.checked os 24 .any (Rows.putFreeSpec.pre6 enc Try.prog Try.f24 Rows.putFreeRow.domain false) (Rows.putFreeSpec.post enc Try.prog Try.f24 false true false false) := by
  refine returnsInHanded_of_change (C := Try.checked) own started (by kernel_rfl) Try.func24
    (ChangeSpec.witness6 (enc := enc) (C := Try.checked) false ⟨#[], #[.agg #[.int .i64 0, .int .i64 0, .int .i64 0, .int .i64 0, .slice none 0 0], .agg #[.int .i64 0, .int .i64 0, .int .i64 0, .int .i64 0, .slice none 0 0]], []⟩ 8 (by kernel_rfl) (by kernel_rfl) (by kernel_rfl) (by kernel_rfl)) ?_
  intro W base args ds gs before hval0 hW hcnd _
  have hval : ∀ (j : Nat) t v, Try.f24.params[j]? = some t → args[j]? = some v → Value.okWide Try.prog W .any base t v := hval0
  have hW' := hW
  obtain ⟨p, q, hA0, hV, rfl, hfz, hnd⟩ := hW
  have hA : DataW.TrodAll enc Try.prog W 0 (fun _ => true) true Try.f24.params.toList args.toList ds p := hA0
  rw [Try.params24] at hA hval
  obtain ⟨v0, vs0, d0, ds0, p0, q0, hargs0, rfl, rfl, h0, r0⟩ := trodAll_cons hA
  obtain ⟨v1, vs1, d1, ds1, p1, q1, hargs1, rfl, rfl, h1, r1⟩ := trodAll_cons r0
  obtain ⟨rfl, rfl, rfl⟩ := trodAll_nil r1
  obtain rfl : args = #[v0, v1] := by cases args; simp_all
  obtain ⟨rfl, rfl⟩ := trodVars_none hV
  have h0k := h0
  have hlt0 : ∀ x ∈ p0, x.block < W.heap.size := fun x hx => by have := hW'.lt x (by simp [hx]); simpa using this
  obtain ⟨t0, s0, hl0, hv0⟩ := open_arg (hval 0 24 v0 rfl rfl) h0
  subst hv0
  have h1k := h1
  have hlt1 : ∀ x ∈ p1, x.block < W.heap.size := fun x hx => by have := hW'.lt x (by simp [hx]); simpa using this
  obtain ⟨t1, s1, hl1, hv1⟩ := open_arg (hval 1 24 v1 rfl rfl) h1
  subst hv1
  clear hA0 hval0
  simp only [List.append_nil] at hW'
  refine (putFree_any t0 t1 W s0 s1 hl0 hl1).mono fun e W' ⟨he, hb⟩ => ?_
  subst he
  exact ⟨_, rfl, _, _, _, [], _, [], hW', trodAll_cons_mk (shut_bool Try.underlying4 _) trodAll_mk0, (trodAll_cons_mk (Below.trod laidOut (by kernel_rfl) (of_decide_eq_true (by kernel_rfl)) h0k hb hlt0) (trodAll_cons_mk (Below.trod laidOut (by kernel_rfl) (of_decide_eq_true (by kernel_rfl)) h1k hb hlt1) trodAll_mk0)), rfl, hb.frame _, fun h => by cases h⟩

theorem closed : joinedFacts Try.prog 24 Try.f24 Rows.putFreeSpec Rows.putFreeRow = true := by
  unfold joinedFacts
  rw [row_mayEnter, row_lifts, row_make]
  kernel_rfl

theorem proved : Rows.PutFreeSaid :=
  OpenClaim.holds_of_wide 24 Try.f24 rfl rfl rfl rfl rfl rfl rfl ⟨rfl, rfl, rfl, rfl, rfl⟩ rfl rfl rfl rfl rfl (by kernel_rfl) Try.func24 closed
    (of_decide_eq_true (by kernel_rfl)) (by unfold Func.isWrapper; first | (rw [if_pos (by decide +kernel)]; kernel_rfl) | (rw [if_neg (by decide +kernel)]; exact ⟨rfl, rfl⟩))
    (fun os started H enc _ => lifted os started H enc)
#print axioms proved
end Go.Proofs.Ytjafbnilejmbiaa.lawPutFree
