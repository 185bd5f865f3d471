/-
  Facts and contracts that the proof of ParseExact uses.
-/
import Derived.Lib.ItoaNum
import Derived.Lib.ItoaLen
import Derived.Test.YtdhfbphliejcdaaRows
import Derived.WalkKit
import Derived.Lib.Hide
import Derived.ProofKit
import Derived.LoopTactic
import Derived.Below
import Derived.IntWalk
import Derived.Lib.Strings
import Derived.Laws.Strings2
import Derived.Deep.AppendLies
import Derived.Laws.Rows
import Derived.OwnWalk
import Derived.KernelRfl
import Derived.Deep.RegionHeld3
import Derived.Lib.Builder
import Derived.WalkSmall
import Derived.Maps.GroupsBeside
import Derived.Maps.StringElems
import Derived.Laws.OwnMore
import Derived.Deep.RegionLaw
import Derived.Maps.AppendAt
import Derived.Deep.Cut
import Derived.Deep.DeepCutAuto
import Derived.Maps.OwnOps
import Derived.Maps.OwnSet
import Derived.Lib.MinMax
import Derived.Laws.IdiomCopy
import Derived.Deep.Slices
import Derived.Lib.QuietBelow
import Derived.StillTailTactics
import Derived.BigQuiet
import Derived.Deep.RegionWith
import Derived.OrdersHeld
import Derived.Laws.StructEq
import GoSem.Core.Float
import Derived.Laws.Cover2
import Derived.Laws.FloatArith
import Derived.Laws.Externs
import Derived.Deep.QuietTactic
import Derived.Laws.AppendOwn
import Derived.Recover
import Derived.RegionTactic
import Derived.Deep.LoopGhost
import Derived.Deep.CutBlock
import Derived.OpenShut
import Derived.Carry
import Derived.JoinedOf
import Derived.ChangeMaps5
import Derived.Test.YtdhfbphliejcdaaParseExactQ3
namespace Go.Proofs.Ytdhfbphliejcdaa.Dv
open Go.RowKit

def DerXG (c : PX) (w : World) (x : Tm × XS) (e : Ending) (w' : World) : Prop := ∃ sv, e = .returned (tv x.1 sv) ∧ LiesP w' (Own w.heap.size w') x.1.kids sv ∧ x.1.fine ∧ XSt c x.2 w' ∧ Fx c w w'
structure DerCX (c : PX) (f : Nat) (dx : DX) : Prop where
  use : ∀ (d : Nat) (s : XS) (w : World), InvX c.L s → c.L.length + 2 ≤ s.p + f → d + f ≤ 1000000000 → XSt c s w → Calls Try.prog 27 #[.pointer (some ⟨c.P, 0, none⟩), .int .i64 d] w (DerXG c w (dx d s))
theorem fail_p (s : XS) : s.fail.p = s.p := s.fail_n.2.2
theorem want_p (L : List Tok) (k : Nat) (s : XS) : s.p ≤ (wantX L k s).2.p := by
  unfold wantX
  cases s.bad with
  | some b => exact Nat.le_refl _
  | none =>
    simp only
    split
    · exact Nat.le_succ _
    · rw [fail_p]; exact Nat.le_refl _
theorem InvX.node {L : List Tok} {s : XS} (h : InvX L s) (hb : s.bad = none) (hp : s.p < L.length) : InvX L ⟨s.p + 1, none, s.n + 1, s.word⟩ :=
  ⟨fun e => absurd (h.word0 hb) e, fun _ => (by have := h.n0 hb; show s.n + 1 ≤ s.p + 1; omega), (by have := h.n0 hb; show s.n + 1 ≤ s.p + 1 + 1; omega), (show s.p + 1 ≤ L.length + 1 by omega), fun b e => (by cases e)⟩
theorem word_at {L : List Tok} (h : ∀ t ∈ L, t.s.length ≤ 10000000) (p : Nat) : (wordAt L p).length ≤ 10000000 := by
  unfold wordAt
  cases e : L[p]? with
  | none => simp
  | some t => exact h t (List.mem_of_getElem? e)
theorem want_at {L : List Tok} (h : ∀ t ∈ L, t.s.length ≤ 10000000) (k : Nat) (s : XS) : (wantX L k s).1.length ≤ 10000000 := by
  unfold wantX
  cases s.bad with
  | some b => simp
  | none =>
    simp only
    split
    · exact word_at h _
    · simp
/-- What a parsing by the page has made stays while it goes on. -/
theorem own_fx {c : PX} {w w' : World} {B : Nat} (h : Fx c w w') {b : Nat} (ho : Own B w b) : w'.heap[b]? = w.heap[b]? := by
  obtain ⟨_, cs, hb⟩ := ho
  rw [hb]
  exact h.kept b cs _ _ hb (by decide) (by decide)
theorem liesP_fx {c : PX} {w w' : World} {B : Nat} {l : List Tm} {s : Value} (h : LiesP w (Own B w) l s) (hf : Fx c w w') : LiesP w' (Own B w') l s := h.keep (fun _ hb _ => own_fx hf hb) (fun _ hb _ => hb.same (own_fx hf hb))
theorem made_fx {c : PX} {w w' : World} {B : Nat} {v : Value} {ps : List (Tm × Value)} (h : Made B w v ps) (hf : Fx c w w') : Made B w' v ps := by
  refine ⟨?_, h.fine, fun p hp => (h.kids p hp).keep (fun b hb _ => own_fx hf hb.1) (fun b hb _ => ⟨hb.1.same (own_fx hf hb.1), hb.2⟩)⟩
  obtain ⟨h1, h2⟩ := h.own
  refine ⟨h1, ?_⟩
  rcases h2 with h2 | ⟨g, cap, cur, hv, hg, hh, r⟩
  · exact Or.inl h2
  · exact Or.inr ⟨g, cap, cur, hv, hg, hf.kept _ _ _ _ hh (by decide) (by decide), r⟩
theorem made_push_fx {c : PX} {B : Nat} {wr wn w3 : World} {v : Value} {ps : List (Tm × Value)} {t : Tm} {s : Value} {g cap : Nat} (h : Made B wr v ps) (hB : B ≤ wr.heap.size) (hf : Fx c wr wn) (ht : t.fine) (hk : LiesP wn (Own wr.heap.size wn) t.kids s) (o : Obj)
    (hown : w3.ownsRow B 25 3 (.slice (some ⟨g, 0, none⟩) (ps.length + 1) cap) (ps.length + 1) (cells5 ps ++ cells5 [(t, s)])) (hgrow : (wn.alloc o).grownBy w3 v.ownBlock) (hat : v.ownBlock = some g ∨ g = wn.heap.size + 1) :
    Made B w3 (.slice (some ⟨g, 0, none⟩) (ps.length + 1) cap) (ps ++ [(t, s)]) :=
  made_step (made_later (made_fx h hf) ((Below.refl _ _).alloc (Nat.le_refl _) _)) ht
    (hk.keep (fun b _ hlt => Below.heap_alloc _ _ _ hlt) (fun b hb hlt => ⟨(hb.same (Below.heap_alloc _ _ _ hlt)).from hB, made_block h hb.1⟩)) hown hgrow (by simpa using hat)
def UpX (dx : DX) : Prop := ∀ d s, s.p ≤ (dx d s).2.p
theorem kidsX_up {dx : DX} (h : UpX dx) {d : Nat} : ∀ {c : Nat} {s : XS}, s.p ≤ (kidsX dx d c s).2.p
  | 0, s => Nat.le_refl _
  | c + 1, s => by
    show s.p ≤ (kidsX dx d c (dx d s).2).2.p
    exact Nat.le_trans (h d s) (kidsX_up h)
theorem numX_up {L : List Tok} {r : Int} {s : XS} : s.p ≤ (numX L r s).2.p := by
  unfold numX
  split
  · exact want_p _ _ _
  · exact Nat.le_refl _
theorem restX_up {L : List Tok} {dx : DX} (h : UpX dx) {d : Nat} {r : Int} {s : XS} : s.p ≤ (restX L dx d r s).2.p := by
  show s.p ≤ (wantX L 2 (kidsX dx (d + 1) (dkidsN r).toNat (numX L r s).2).2).2.p
  exact Nat.le_trans numX_up (Nat.le_trans (kidsX_up h) (want_p _ _ _))
theorem ruleX_up {L : List Tok} {dx : DX} (h : UpX dx) {d : Nat} {s : XS} : s.p ≤ (ruleX L dx d s).2.p := by
  unfold ruleX
  split
  · exact Nat.le_trans (Nat.le_succ _) (restX_up h (s := s.next))
  · show s.p ≤ s.fail.p; rw [fail_p]; exact Nat.le_refl _
theorem derX_up (deep nodes : Nat) (L : List Tok) : ∀ f, UpX (derX deep nodes L f)
  | 0 => fun d s => by show s.p ≤ s.fail.p; rw [fail_p]; exact Nat.le_refl _
  | f + 1 => fun d s => by
    unfold derX
    cases hb : s.bad with
    | some b => exact Nat.le_refl _
    | none =>
      dsimp only
      split
      · rw [fail_p]; exact Nat.le_refl _
      · split
        · exact Nat.le_refl _
        · split
          · exact Nat.le_refl _
          · exact Nat.le_trans (Nat.le_succ _) (ruleX_up (derX_up deep nodes L f) (s := (⟨s.p, none, s.n + 1, s.word⟩ : XS).next))
/-- The premises, some of them read. -/
structure KXInv (dx : DX) (d n : Nat) (s0 : XS) (l : List Tm) (m : Nat) (s : XS) : Prop where
  eq : kidsX dx d n s0 = (l ++ (kidsX dx d m s).1, (kidsX dx d m s).2)
theorem KXInv.start (dx : DX) (d n : Nat) (s0 : XS) : KXInv dx d n s0 [] n s0 := ⟨by simp⟩
theorem KXInv.step {dx : DX} {d n m : Nat} {s0 s : XS} {l : List Tm} (h : KXInv dx d n s0 l (m + 1) s) : KXInv dx d n s0 (l ++ [(dx d s).1]) m (dx d s).2 := ⟨by rw [h.eq]; simp [kidsX]⟩
theorem KXInv.done {dx : DX} {d n : Nat} {s0 s : XS} {l : List Tm} (h : KXInv dx d n s0 l 0 s) : kidsX dx d n s0 = (l, s) := by rw [h.eq]; simp [kidsX]
/-- The end: the derivation is stored as the result. -/
theorem xsd_end {c : PX} {w w' : World} {x : Tm} {sv : Value} {s : XS} {D : Nat} (hr : w'.heap[w.heap.size]? = some zeroObj) (hs : XSt c s w') (hf : Fx c w w') (hlo : c.B ≤ w.heap.size) (hD : w.heap.size < D) (hl : LiesP w' (Own D w') x.kids sv) (hfi : x.fine) :
    DerXG c w (x, s) (.returned (tv x sv)) (five w' w.heap.size (.int .i64 x.k) (.int .i64 x.i) sv) := by
  have hg : w'.grownBy (five w' w.heap.size (.int .i64 x.k) (.int .i64 x.i) sv) (some w.heap.size) := ((setD_grown _ _ _ _).trans (setD_grown _ _ _ _)).trans (setD_grown _ _ _ _)
  exact ⟨sv, rfl, liesP_fives hl hD (by omega) _ _ _, hfi, hs.other hg (fun b e => by obtain rfl := Option.some.inj e; exact ⟨hlo, _, _, _, hr, by decide, by decide, by decide⟩), hf.row hg (fun b e => by obtain rfl := Option.some.inj e; exact Nat.le_refl _) hlo⟩
theorem wordV1 : wordV 1 = ⟨#[100, 101, 101, 112]⟩ := rfl
theorem wordV2 : wordV 2 = ⟨#[110, 111, 100, 101, 115]⟩ := rfl
/-- What stands by when the premises are read: the result's block, the derivation's block. -/
structure StandX (c : PX) (w : World) (D : Nat) (t : Tm) (v : Value) (s : XS) (w' : World) : Prop where
  box : w'.heap[D]? = some (boxOf t v)
  res : w'.heap[w.heap.size]? = some zeroObj
  st : XSt c s w'
  fr : Fx c w w'
theorem StandX.size {c : PX} {w w' : World} {D : Nat} {s : XS} {t : Tm} {v : Value} (h : StandX c w D t v s w') : D < w'.heap.size := hltD h.box
theorem StandX.drew {c : PX} {w w' : World} {D : Nat} {s : XS} {t : Tm} {v : Value} (h : StandX c w D t v s w') : StandX c w D t v s w'.drew := ⟨h.box, h.res, h.st.drew, h.fr.drew⟩
theorem StandX.call {c : PX} {w w' wn : World} {D : Nat} {s s1 : XS} {t : Tm} {v : Value} (h : StandX c w D t v s w') (hf : Fx c w' wn) (hs : XSt c s1 wn) : StandX c w D t v s1 wn :=
  ⟨hf.kept _ _ _ _ h.box (by decide) (by decide), hf.kept _ _ _ _ h.res (by decide) (by decide), hs, h.fr.trans hf⟩
theorem StandX.later {c : PX} {w w' wn : World} {D : Nat} {s : XS} {t : Tm} {v : Value} (h : StandX c w D t v s w') (hb : Below w'.heap.size w' wn) : StandX c w D t v s wn :=
  h.call (Fx.later hb h.st.lo) (h.st.later hb)
theorem StandX.grow {c : PX} {w w' wn : World} {D : Nat} {s : XS} {t : Tm} {v : Value} (h : StandX c w D t v s w') {row : Option Nat} (hg : w'.grownBy wn row) (hlo : c.B ≤ w.heap.size) (hD : w.heap.size < D) (hb : ∀ b, row = some b → D + 1 ≤ b ∧ ∃ cs fz, w'.heap[b]? = some (Obj.cells cs 25 fz)) : StandX c w D t v s wn :=
  ⟨by rw [hg.block _ h.size (fun e => by have := (hb D e.symm).1; omega)]; exact h.box, by rw [hg.block _ (hltD h.res) (fun e => by have := (hb _ e.symm).1; omega)]; exact h.res,
    h.st.other hg (fun b e => ⟨by have := (hb b e).1; omega, by obtain ⟨cs, fz, h2⟩ := (hb b e).2; exact ⟨cs, _, fz, h2, by decide, by decide, by decide⟩⟩), h.fr.row hg (fun b e => by have := (hb b e).1; omega) hlo⟩
theorem StandX.put {c : PX} {w w' : World} {D : Nat} {s : XS} {t : Tm} {v : Value} (h : StandX c w D t v s w') (hlo : c.B ≤ w.heap.size) (hD : w.heap.size < D) (v' : Value) : StandX c w D t v' s (w'.setCell ⟨D, 2, none⟩ v') :=
  ⟨by exact heap_setCell_same _ _ 2 _ _ v' h.box, (Below.heap_setCell _ _ _ _ (by show w.heap.size ≠ D; omega)).trans h.res,
    h.st.other (setD_grown w' D 2 v') (fun b e => by obtain rfl := Option.some.inj e; exact ⟨by omega, _, _, _, h.box, by decide, by decide, by decide⟩), h.fr.row (setD_grown w' D 2 v') (fun b e => by obtain rfl := Option.some.inj e; omega) hlo⟩
theorem StandX.num {c : PX} {w w' : World} {D : Nat} {s : XS} {k : Int} {v : Value} {m : Int} (h : StandX c w D (.mk k m []) v s w') (hlo : c.B ≤ w.heap.size) (hD : w.heap.size < D) (n : Int) : StandX c w D (.mk k n []) v s (w'.setCell ⟨D, 1, none⟩ (.int .i64 n)) :=
  ⟨by exact heap_setCell_same _ _ 1 _ _ (.int .i64 n) h.box, (Below.heap_setCell _ _ _ _ (by show w.heap.size ≠ D; omega)).trans h.res,
    h.st.other (setD_grown w' D 1 _) (fun b e => by obtain rfl := Option.some.inj e; exact ⟨by omega, _, _, _, h.box, by decide, by decide, by decide⟩), h.fr.row (setD_grown w' D 1 _) (fun b e => by obtain rfl := Option.some.inj e; omega) hlo⟩
theorem zeroX_fine : zeroX.fine := ⟨by show (-9223372036854775808 : Int) ≤ 0 ∧ (0 : Int) ≤ 9223372036854775807; decide, by show (-9223372036854775808 : Int) ≤ 0 ∧ (0 : Int) ≤ 9223372036854775807; decide⟩
/-- Nothing was read: the result's block as it was made. -/
theorem xsd_zero {c : PX} {w w' : World} {s : XS} (hs : XSt c s w') (hf : Fx c w w') : DerXG c w (zeroX, s) (.returned (tv zeroX (.slice none 0 0))) w' := ⟨_, rfl, liesP_nil _ _, zeroX_fine, hs, hf⟩
theorem xsd_zero5 {c : PX} {w w' : World} {s : XS} (hr : w'.heap[w.heap.size]? = some zeroObj) (hs : XSt c s w') (hf : Fx c w w') (hlo : c.B ≤ w.heap.size) : DerXG c w (zeroX, s) (.returned (tv zeroX (.slice none 0 0))) (five w' w.heap.size (.int .i64 0) (.int .i64 0) (.slice none 0 0)) :=
  xsd_end (D := w.heap.size + 1) (x := zeroX) hr hs hf hlo (by omega) (liesP_nil _ _) zeroX_fine
def rx4_0 : Oper := { dst := some 17, op := Go.Op.move (Go.Operand.tmp 0), type := 63, pos := "file.go:27", after := #[], guard := none }
def rx4_1 : Oper := { dst := some 18, op := Go.Op.nilCheck (Go.Operand.tmp 17), type := 0, pos := "file.go:27", after := #[{ on := 0, ground := Go.Ground.data }], guard := none }
def rx4_2 : Oper := { dst := some 19, op := Go.Op.fieldAddr 65 (Go.Operand.tmp 18) 0, type := 0, pos := "file.go:27", after := #[{ on := 1, ground := Go.Ground.data }], guard := none }
def rx4_3 : Oper := { dst := some 20, op := Go.Op.load 60 (Go.Operand.tmp 19), type := 60, pos := "file.go:27", after := #[{ on := 2, ground := Go.Ground.data }], guard := none }
def rx4_4 : Oper := { dst := some 21, op := Go.Op.move (Go.Operand.tmp 0), type := 63, pos := "file.go:27", after := #[], guard := none }
def rx4_5 : Oper := { dst := some 22, op := Go.Op.nilCheck (Go.Operand.tmp 21), type := 0, pos := "file.go:27", after := #[{ on := 4, ground := Go.Ground.data }], guard := none }
def rx4_6 : Oper := { dst := some 23, op := Go.Op.fieldAddr 65 (Go.Operand.tmp 22) 0, type := 0, pos := "file.go:27", after := #[{ on := 5, ground := Go.Ground.data }], guard := none }
def rx4_7 : Oper := { dst := some 24, op := Go.Op.load 60 (Go.Operand.tmp 23), type := 60, pos := "file.go:27", after := #[{ on := 6, ground := Go.Ground.data }], guard := none }
def rx4_8 : Oper := { dst := some 25, op := Go.Op.nilCheck (Go.Operand.tmp 24), type := 0, pos := "file.go:27", after := #[{ on := 7, ground := Go.Ground.data }], guard := none }
def rx4_9 : Oper := { dst := some 26, op := Go.Op.fieldAddr 62 (Go.Operand.tmp 25) 1, type := 0, pos := "file.go:27", after := #[{ on := 8, ground := Go.Ground.data }], guard := none }
def rx4_10 : Oper := { dst := some 27, op := Go.Op.load 3 (Go.Operand.tmp 26), type := 3, pos := "file.go:27", after := #[{ on := 9, ground := Go.Ground.data }], guard := none }
def rx4_11 : Oper := { dst := some 28, op := Go.Op.call { callee := Go.Callee.value (Go.Operand.func 26), args := #[Go.Operand.tmp 20, Go.Operand.tmp 27], argTypes := #[60, 3] }, type := 0, pos := "file.go:27", after := #[{ on := 3, ground := Go.Ground.data }, { on := 10, ground := Go.Ground.data }], guard := none }
def rx9_0 : Oper := { dst := some 47, op := Go.Op.move (Go.Operand.tmp 0), type := 63, pos := "file.go:33", after := #[], guard := none }
def rx9_1 : Oper := { dst := some 48, op := Go.Op.nilCheck (Go.Operand.tmp 47), type := 0, pos := "file.go:33", after := #[{ on := 0, ground := Go.Ground.data }], guard := none }
def rx9_2 : Oper := { dst := some 49, op := Go.Op.fieldAddr 65 (Go.Operand.tmp 48) 3, type := 0, pos := "file.go:33", after := #[{ on := 1, ground := Go.Ground.data }], guard := none }
def rx9_3 : Oper := { dst := some 50, op := Go.Op.load 3 (Go.Operand.tmp 49), type := 3, pos := "file.go:33", after := #[{ on := 2, ground := Go.Ground.data }], guard := none }
def rx9_4 : Oper := { dst := some 51, op := Go.Op.move (Go.Operand.tmp 0), type := 63, pos := "file.go:33", after := #[], guard := none }
def rx9_5 : Oper := { dst := some 52, op := Go.Op.nilCheck (Go.Operand.tmp 51), type := 0, pos := "file.go:33", after := #[{ on := 4, ground := Go.Ground.data }], guard := none }
def rx9_6 : Oper := { dst := some 53, op := Go.Op.fieldAddr 65 (Go.Operand.tmp 52) 2, type := 0, pos := "file.go:33", after := #[{ on := 5, ground := Go.Ground.data }], guard := none }
def rx9_7 : Oper := { dst := some 54, op := Go.Op.load 22 (Go.Operand.tmp 53), type := 22, pos := "file.go:33", after := #[{ on := 6, ground := Go.Ground.data }], guard := none }
def rx9_8 : Oper := { dst := some 55, op := Go.Op.call { callee := Go.Callee.value (Go.Operand.func 42), args := #[Go.Operand.tmp 50, Go.Operand.tmp 54], argTypes := #[3, 22] }, type := 4, pos := "file.go:33", after := #[{ on := 3, ground := Go.Ground.data }, { on := 7, ground := Go.Ground.data }], guard := none }
def rx9_9 : Oper := { dst := some 56, op := Go.Op.unOp Go.UnOp.not 4 (Go.Operand.tmp 55), type := 4, pos := "file.go:33", after := #[{ on := 8, ground := Go.Ground.data }], guard := none }
def rx12_0 : Oper := { dst := some 65, op := Go.Op.move (Go.Operand.tmp 0), type := 63, pos := "file.go:37", after := #[], guard := none }
def rx12_1 : Oper := { dst := some 66, op := Go.Op.nilCheck (Go.Operand.tmp 65), type := 0, pos := "file.go:37", after := #[{ on := 0, ground := Go.Ground.data }], guard := none }
def rx12_2 : Oper := { dst := some 67, op := Go.Op.fieldAddr 65 (Go.Operand.tmp 66) 0, type := 0, pos := "file.go:37", after := #[{ on := 1, ground := Go.Ground.data }], guard := none }
def rx12_3 : Oper := { dst := some 68, op := Go.Op.load 60 (Go.Operand.tmp 67), type := 60, pos := "file.go:37", after := #[{ on := 2, ground := Go.Ground.data }], guard := none }
def rx12_4 : Oper := { dst := some 69, op := Go.Op.move (Go.Operand.tmp 0), type := 63, pos := "file.go:37", after := #[], guard := none }
def rx12_5 : Oper := { dst := some 70, op := Go.Op.nilCheck (Go.Operand.tmp 69), type := 0, pos := "file.go:37", after := #[{ on := 4, ground := Go.Ground.data }], guard := none }
def rx12_6 : Oper := { dst := some 71, op := Go.Op.fieldAddr 65 (Go.Operand.tmp 70) 0, type := 0, pos := "file.go:37", after := #[{ on := 5, ground := Go.Ground.data }], guard := none }
def rx12_7 : Oper := { dst := some 72, op := Go.Op.load 60 (Go.Operand.tmp 71), type := 60, pos := "file.go:37", after := #[{ on := 6, ground := Go.Ground.data }], guard := none }
def rx12_8 : Oper := { dst := some 73, op := Go.Op.nilCheck (Go.Operand.tmp 72), type := 0, pos := "file.go:37", after := #[{ on := 7, ground := Go.Ground.data }], guard := none }
def rx12_9 : Oper := { dst := some 74, op := Go.Op.fieldAddr 62 (Go.Operand.tmp 73) 1, type := 0, pos := "file.go:37", after := #[{ on := 8, ground := Go.Ground.data }], guard := none }
def rx12_10 : Oper := { dst := some 75, op := Go.Op.load 3 (Go.Operand.tmp 74), type := 3, pos := "file.go:37", after := #[{ on := 9, ground := Go.Ground.data }], guard := none }
def rx12_11 : Oper := { dst := some 76, op := Go.Op.call { callee := Go.Callee.value (Go.Operand.func 26), args := #[Go.Operand.tmp 68, Go.Operand.tmp 75], argTypes := #[60, 3] }, type := 0, pos := "file.go:37", after := #[{ on := 3, ground := Go.Ground.data }, { on := 10, ground := Go.Ground.data }], guard := none }
def rx17_0 : Oper := { dst := some 106, op := Go.Op.move (Go.Operand.tmp 0), type := 63, pos := "file.go:43", after := #[], guard := none }
def rx17_1 : Oper := { dst := some 107, op := Go.Op.nilCheck (Go.Operand.tmp 106), type := 0, pos := "file.go:43", after := #[{ on := 0, ground := Go.Ground.data }], guard := none }
def rx17_2 : Oper := { dst := some 108, op := Go.Op.fieldAddr 65 (Go.Operand.tmp 107) 0, type := 0, pos := "file.go:43", after := #[{ on := 1, ground := Go.Ground.data }], guard := none }
def rx17_3 : Oper := { dst := some 109, op := Go.Op.load 60 (Go.Operand.tmp 108), type := 60, pos := "file.go:43", after := #[{ on := 2, ground := Go.Ground.data }], guard := none }
def rx17_4 : Oper := { dst := some 110, op := Go.Op.move (Go.Operand.tmp 0), type := 63, pos := "file.go:43", after := #[], guard := none }
def rx17_5 : Oper := { dst := some 111, op := Go.Op.nilCheck (Go.Operand.tmp 110), type := 0, pos := "file.go:43", after := #[{ on := 4, ground := Go.Ground.data }], guard := none }
def rx17_6 : Oper := { dst := some 112, op := Go.Op.fieldAddr 65 (Go.Operand.tmp 111) 0, type := 0, pos := "file.go:43", after := #[{ on := 5, ground := Go.Ground.data }], guard := none }
def rx17_7 : Oper := { dst := some 113, op := Go.Op.load 60 (Go.Operand.tmp 112), type := 60, pos := "file.go:43", after := #[{ on := 6, ground := Go.Ground.data }], guard := none }
def rx17_8 : Oper := { dst := some 114, op := Go.Op.nilCheck (Go.Operand.tmp 113), type := 0, pos := "file.go:43", after := #[{ on := 7, ground := Go.Ground.data }], guard := none }
def rx17_9 : Oper := { dst := some 115, op := Go.Op.fieldAddr 62 (Go.Operand.tmp 114) 1, type := 0, pos := "file.go:43", after := #[{ on := 8, ground := Go.Ground.data }], guard := none }
def rx17_10 : Oper := { dst := some 116, op := Go.Op.load 3 (Go.Operand.tmp 115), type := 3, pos := "file.go:43", after := #[{ on := 9, ground := Go.Ground.data }], guard := none }
def rx17_11 : Oper := { dst := some 117, op := Go.Op.call { callee := Go.Callee.value (Go.Operand.func 26), args := #[Go.Operand.tmp 109, Go.Operand.tmp 116], argTypes := #[60, 3] }, type := 0, pos := "file.go:43", after := #[{ on := 3, ground := Go.Ground.data }, { on := 10, ground := Go.Ground.data }], guard := none }
set_option maxHeartbeats 8000000 in
set_option maxRecDepth 20000 in
theorem rderiv_step (c : PX) (f : Nat) (hlen : c.L.length ≤ 1000000) (htl : ∀ t ∈ c.L, t.s.length ≤ 10000000) (hL : DerCX c f (derX c.deep c.nodes c.L f)) : DerCX c (f + 1) (derX c.deep c.nodes c.L (f + 1)) := by
  refine ⟨?_⟩
  intro d s w hi hf hd h
  obtain ⟨du, hu1, hu2⟩ := under_term
  obtain ⟨i0, hi0, hz0, hz1, hz2⟩ := info_parts info_term
  have HIF := Lib.hid (And.intro hi0 (And.intro hz0 (And.intro hz1 hz2)))
  clear hi0 hz0 hz1 hz2
  have hlo := h.lo
  have HS0 := Lib.hid (h.alloc zeroObj)
  have HF0 := Lib.hid (Fx.later ((Below.refl w.heap.size w).alloc (Nat.le_refl _) zeroObj) hlo)
  have HR0 := Lib.hid (show (w.alloc zeroObj).heap[w.heap.size]? = some zeroObj from alloc_new _ _)
  have HI := Lib.hid hi
  cases hb : s.bad with
  | some b =>
    have hX : derX c.deep c.nodes c.L (f + 1) d s = (zeroX, s) := derX_sticks _ _ _ _ _ _ _ hb
    rw [hX]
    have HE := Lib.hid (xsd_zero HS0.out HF0.out)
    obtain ⟨z0, z1, z2⟩ := five_cells HR0.out
    obtain ⟨g0, g1, g2⟩ := five_free HR0.out
    have hz := HR0.out
    have HST := Lib.hid (HS0.out.stop)
    rw [hb] at HST
    clear hL h hi
    go_enter Try.func27, Try.ntmps27
    go_wp2_with fail
    refine HST.out.mono ?_
    rintro e w' ⟨rfl, rfl⟩
    go_wp2
    refine bodyPost_ret (results_cell_row rfl _ _ w.heap.size _ _ _ du rfl hz hu1 (by cases du <;> first | rfl | exact hu2) size_term) rfl ?_
    exact HE.out
  | none =>
    have hp1 := hi.p1
    have hn0 := hi.n0 hb
    have hw0 := hi.word0 hb
    obtain ⟨X, hX⟩ : ∃ X, derX c.deep c.nodes c.L (f + 1) d s = X := ⟨_, rfl⟩
    rw [hX]
    unfold derX at hX
    rw [hb] at hX
    dsimp only at hX
    have HX := Lib.hid hX
    have HST := Lib.hid (HS0.out.stop)
    rw [hb] at HST
    have hfail : ∀ s : XS, s.bad = none → s.fail = { s with bad := some s.p } := fun s h => by unfold XS.fail; rw [h]
    have HL := Lib.hid hL
    clear hL h hi hX
    go_enter Try.func27, Try.ntmps27
    go_wp2_with fail
    refine HST.out.mono ?_
    rintro e w' ⟨rfl, rfl⟩
    obtain ⟨⟨p0, p1, p2, p3, p4⟩, q1, q2⟩ := HS0.out.cells
    go_wp2_with fail
    refine HS0.out.kind.mono ?_
    rintro e w1 ⟨rfl, hs, hf1⟩
    have HS1 := Lib.hid hs
    have HF1 := Lib.hid (HF0.out.trans hf1)
    have HR1 := Lib.hid (hf1.kept _ _ _ _ HR0.out (by decide) (by decide))
    clear hs hf1 p0 p1 p2 p3 p4 q1 q2
    obtain ⟨⟨p0, p1, p2, p3, p4⟩, q1, q2⟩ := HS1.out.cells
    by_cases hk : kindAt c.L s.p = 1
    case neg =>
      have hki : ¬ ((kindAt c.L s.p : Nat) : Int) = 1 := by omega
      have HXX := Lib.hid (show (zeroX, s.fail) = X by rw [← HX.out, if_pos hk])
      go_wp2_with fail
      have HFL := Lib.hid (HS1.out.drew.failed)
      refine wp_region_held_drew (S := fun w' => w'.cell? ⟨c.P, 0, none⟩ = some (.pointer (some ⟨c.R, 0, none⟩)) ∧ w'.cell? ⟨c.R, 1, none⟩ = some (.int .i64 s.p)) (by kernel_rfl) ?_ (fun hHeld => ?_)
      · (try dsimp only)
        (first | exact ⟨p0, q1⟩ | exact ⟨HSZ.out.cells.1.1, by have h := HSZ.out.cells.2.1; rw [fail_p] at h; exact h⟩)
      refine take_at 0 17 rx4_0 (v := ?_) (Or.inl ⟨by rfl, ?_⟩) ?_
      rotate_left 1
      · ((intro w hSw; (try dsimp only at hSw); unfold rx4_0; go_simp) <;> with_reducible rfl)
      (try simp only [Act.put, List.setIfInBounds_toArray, List.set_cons_zero, List.set_cons_succ])
      refine take_at 1 18 rx4_1 (v := ?_) (Or.inl ⟨by rfl, ?_⟩) ?_
      rotate_left 1
      · ((intro w hSw; (try dsimp only at hSw); unfold rx4_1; go_simp) <;> with_reducible rfl)
      (try simp only [Act.put, List.setIfInBounds_toArray, List.set_cons_zero, List.set_cons_succ])
      refine take_at 2 19 rx4_2 (v := ?_) (Or.inl ⟨by rfl, ?_⟩) ?_
      rotate_left 1
      · ((intro w hSw; (try dsimp only at hSw); unfold rx4_2; go_simp) <;> with_reducible rfl)
      (try simp only [Act.put, List.setIfInBounds_toArray, List.set_cons_zero, List.set_cons_succ])
      refine take_at 3 20 rx4_3 (v := ?_) (Or.inl ⟨by rfl, ?_⟩) ?_
      rotate_left 1
      · ((intro w hSw; (try dsimp only at hSw); unfold rx4_3; go_simp) <;> with_reducible rfl)
      (try simp only [Act.put, List.setIfInBounds_toArray, List.set_cons_zero, List.set_cons_succ])
      refine take_at 4 21 rx4_4 (v := ?_) (Or.inl ⟨by rfl, ?_⟩) ?_
      rotate_left 1
      · ((intro w hSw; (try dsimp only at hSw); unfold rx4_4; go_simp) <;> with_reducible rfl)
      (try simp only [Act.put, List.setIfInBounds_toArray, List.set_cons_zero, List.set_cons_succ])
      refine take_at 5 22 rx4_5 (v := ?_) (Or.inl ⟨by rfl, ?_⟩) ?_
      rotate_left 1
      · ((intro w hSw; (try dsimp only at hSw); unfold rx4_5; go_simp) <;> with_reducible rfl)
      (try simp only [Act.put, List.setIfInBounds_toArray, List.set_cons_zero, List.set_cons_succ])
      refine take_at 6 23 rx4_6 (v := ?_) (Or.inl ⟨by rfl, ?_⟩) ?_
      rotate_left 1
      · ((intro w hSw; (try dsimp only at hSw); unfold rx4_6; go_simp) <;> with_reducible rfl)
      (try simp only [Act.put, List.setIfInBounds_toArray, List.set_cons_zero, List.set_cons_succ])
      refine take_at 7 24 rx4_7 (v := ?_) (Or.inl ⟨by rfl, ?_⟩) ?_
      rotate_left 1
      · ((intro w hSw; (try dsimp only at hSw); unfold rx4_7; go_simp) <;> with_reducible rfl)
      (try simp only [Act.put, List.setIfInBounds_toArray, List.set_cons_zero, List.set_cons_succ])
      refine take_at 8 25 rx4_8 (v := ?_) (Or.inl ⟨by rfl, ?_⟩) ?_
      rotate_left 1
      · ((intro w hSw; (try dsimp only at hSw); unfold rx4_8; go_simp) <;> with_reducible rfl)
      (try simp only [Act.put, List.setIfInBounds_toArray, List.set_cons_zero, List.set_cons_succ])
      refine take_at 9 26 rx4_9 (v := ?_) (Or.inl ⟨by rfl, ?_⟩) ?_
      rotate_left 1
      · ((intro w hSw; (try dsimp only at hSw); unfold rx4_9; go_simp) <;> with_reducible rfl)
      (try simp only [Act.put, List.setIfInBounds_toArray, List.set_cons_zero, List.set_cons_succ])
      refine take_at 10 27 rx4_10 (v := ?_) (Or.inl ⟨by rfl, ?_⟩) ?_
      rotate_left 1
      · ((intro w hSw; (try dsimp only at hSw); unfold rx4_10; go_simp) <;> with_reducible rfl)
      (try simp only [Act.put, List.setIfInBounds_toArray, List.set_cons_zero, List.set_cons_succ])
      refine wpAnyH_ready (rs := [11]) (by kernel_rfl) (by simp) ?_
      refine AllReadyH.cons (o := rx4_11) rfl (fun K hK => ?_) ?_
      · unfold rx4_11
        go_simp
        (go_at_call 26; with_reducible refine Calls.mono HFL.out ?_)
        rintro e wn ⟨rfl, hs2, hf2⟩
        have HSZ := Lib.hid hs2
        have HFZ := Lib.hid (HF1.out.drew.trans hf2)
        have HRZ := Lib.hid (hf2.kept _ _ _ _ (show w1.drew.heap[w.heap.size]? = some zeroObj from HR1.out) (by decide) (by decide))
        clear hs2 hf2
        refine hK.out _ _ ?_ (fun hHeld => ?_)
        · (try dsimp only)
          (first | exact ⟨p0, q1⟩ | exact ⟨HSZ.out.cells.1.1, by have h := HSZ.out.cells.2.1; rw [fail_p] at h; exact h⟩)
        clear hK K
        (try simp only [Act.put, List.setIfInBounds_toArray, List.set_cons_zero, List.set_cons_succ])
        refine wpAnyH_done (by kernel_rfl) ?_ _
        clear hHeld
        obtain ⟨z0, z1, z2⟩ := five_cells HRZ.out
        obtain ⟨g0, g1, g2⟩ := five_free HRZ.out
        have hz := HRZ.out
        have HE := Lib.hid (xsd_zero5 HRZ.out HSZ.out HFZ.out hlo)
        go_wp2
        (try simp only [Exit.inBlock, Exit.then])
        refine bodyPost_ret (results_cell_row rfl _ _ w.heap.size _ _ _ du rfl (five_set hz) hu1 (by cases du <;> first | rfl | exact hu2) size_term) rfl ?_
        rw [← HXX.out]
        exact HE.out
      exact AllReadyH.nil
    obtain ⟨fP, fR⟩ := HS1.out.free
    have f3 := fP 3
    have HS2 := Lib.hid (show XSt c { s with n := s.n + 1 } (w1.setCell ⟨c.P, 3, none⟩ (.int .i64 ((s.n : Int) + 1))) from (HS1.out.setn (s.n + 1)).1)
    have HF2 := Lib.hid (show Fx c w (w1.setCell ⟨c.P, 3, none⟩ (.int .i64 ((s.n : Int) + 1))) from HF1.out.trans (HS1.out.setn (s.n + 1)).2)
    have HR2 := Lib.hid (show (w1.setCell ⟨c.P, 3, none⟩ (.int .i64 ((s.n : Int) + 1))).heap[w.heap.size]? = some zeroObj from (HS1.out.setn (s.n + 1)).2.kept _ _ _ _ HR1.out (by decide) (by decide))
    have hki : ((kindAt c.L s.p : Nat) : Int) = 1 := by rw [hk]; rfl
    have hpL := kind_in (L := c.L) (p := s.p) (by rw [hk]; decide)
    have hw1 : IntKind.i64.wrap ((s.n : Int) + 1) = (s.n : Int) + 1 := IntWalk.i64_in _ (by omega)
    clear fP fR
    go_upto_region 7 with fail
    obtain ⟨U, hU⟩ : ∃ U, U = w1.setCell ⟨c.P, 3, none⟩ (.int .i64 ((s.n : Int) + 1)) := ⟨_, rfl⟩
    rw [← hU] at HS2 HF2 HR2
    rw [← hU]
    clear hU f3 p0 p1 p2 p3 p4 q1 q2 HS1 HF1 HR1 HS0 HF0 HR0
    obtain ⟨⟨p0, p1, p2, p3, p4⟩, q1, q2⟩ := HS2.out.cells
    obtain ⟨fP, fR⟩ := HS2.out.free
    have f4 := fP 4
    have f1 := fR 1
    clear fP fR
    go_wp2_with fail
    refine (pwithin_any d c.deep U).mono ?_
    rintro e U ⟨rfl, rfl⟩
    cases hwd : withinB d c.deep with
    | false =>
      have HXX := Lib.hid (show (zeroX, ({ s with n := s.n + 1, word := 1 } : XS).fail) = X by rw [← HX.out, if_neg (by rw [hk]; simp), if_pos hwd, hb])
      have HS3 := Lib.hid (HS2.out.setw 1).1
      have HF3 := Lib.hid (HF2.out.trans (HS2.out.setw 1).2)
      have HR3 := Lib.hid ((HS2.out.setw 1).2.kept _ _ _ _ HR2.out (by decide) (by decide))
      go_upto_region 11 with fail
      obtain ⟨V, hV⟩ : ∃ V, V = U.setCell ⟨c.P, 4, none⟩ (.string (wordV 1)) := ⟨_, rfl⟩
      have hV' := hV
      rw [wordV1] at hV'
      rw [← hV] at HS3 HF3 HR3
      rw [← hV']
      clear hV hV' p0 p1 p2 p3 p4 q1 q2
      obtain ⟨⟨p0, p1, p2, p3, p4⟩, q1, q2⟩ := HS3.out.cells
      change V.cell? ⟨c.P, 4, none⟩ = some (.string (wordV 1)) at p4
      rw [wordV1] at p4
      go_wp2_with fail
      have HFL := Lib.hid (HS3.out.drew.failed)
      refine wp_region_held_drew (S := fun w' => w'.cell? ⟨c.P, 0, none⟩ = some (.pointer (some ⟨c.R, 0, none⟩)) ∧ w'.cell? ⟨c.R, 1, none⟩ = some (.int .i64 s.p)) (by kernel_rfl) ?_ (fun hHeld => ?_)
      · (try dsimp only)
        (first | exact ⟨p0, q1⟩ | exact ⟨HSZ.out.cells.1.1, by have h := HSZ.out.cells.2.1; rw [fail_p] at h; exact h⟩)
      refine take_at 0 65 rx12_0 (v := ?_) (Or.inl ⟨by rfl, ?_⟩) ?_
      rotate_left 1
      · ((intro w hSw; (try dsimp only at hSw); unfold rx12_0; go_simp) <;> with_reducible rfl)
      (try simp only [Act.put, List.setIfInBounds_toArray, List.set_cons_zero, List.set_cons_succ])
      refine take_at 1 66 rx12_1 (v := ?_) (Or.inl ⟨by rfl, ?_⟩) ?_
      rotate_left 1
      · ((intro w hSw; (try dsimp only at hSw); unfold rx12_1; go_simp) <;> with_reducible rfl)
      (try simp only [Act.put, List.setIfInBounds_toArray, List.set_cons_zero, List.set_cons_succ])
      refine take_at 2 67 rx12_2 (v := ?_) (Or.inl ⟨by rfl, ?_⟩) ?_
      rotate_left 1
      · ((intro w hSw; (try dsimp only at hSw); unfold rx12_2; go_simp) <;> with_reducible rfl)
      (try simp only [Act.put, List.setIfInBounds_toArray, List.set_cons_zero, List.set_cons_succ])
      refine take_at 3 68 rx12_3 (v := ?_) (Or.inl ⟨by rfl, ?_⟩) ?_
      rotate_left 1
      · ((intro w hSw; (try dsimp only at hSw); unfold rx12_3; go_simp) <;> with_reducible rfl)
      (try simp only [Act.put, List.setIfInBounds_toArray, List.set_cons_zero, List.set_cons_succ])
      refine take_at 4 69 rx12_4 (v := ?_) (Or.inl ⟨by rfl, ?_⟩) ?_
      rotate_left 1
      · ((intro w hSw; (try dsimp only at hSw); unfold rx12_4; go_simp) <;> with_reducible rfl)
      (try simp only [Act.put, List.setIfInBounds_toArray, List.set_cons_zero, List.set_cons_succ])
      refine take_at 5 70 rx12_5 (v := ?_) (Or.inl ⟨by rfl, ?_⟩) ?_
      rotate_left 1
      · ((intro w hSw; (try dsimp only at hSw); unfold rx12_5; go_simp) <;> with_reducible rfl)
      (try simp only [Act.put, List.setIfInBounds_toArray, List.set_cons_zero, List.set_cons_succ])
      refine take_at 6 71 rx12_6 (v := ?_) (Or.inl ⟨by rfl, ?_⟩) ?_
      rotate_left 1
      · ((intro w hSw; (try dsimp only at hSw); unfold rx12_6; go_simp) <;> with_reducible rfl)
      (try simp only [Act.put, List.setIfInBounds_toArray, List.set_cons_zero, List.set_cons_succ])
      refine take_at 7 72 rx12_7 (v := ?_) (Or.inl ⟨by rfl, ?_⟩) ?_
      rotate_left 1
      · ((intro w hSw; (try dsimp only at hSw); unfold rx12_7; go_simp) <;> with_reducible rfl)
      (try simp only [Act.put, List.setIfInBounds_toArray, List.set_cons_zero, List.set_cons_succ])
      refine take_at 8 73 rx12_8 (v := ?_) (Or.inl ⟨by rfl, ?_⟩) ?_
      rotate_left 1
      · ((intro w hSw; (try dsimp only at hSw); unfold rx12_8; go_simp) <;> with_reducible rfl)
      (try simp only [Act.put, List.setIfInBounds_toArray, List.set_cons_zero, List.set_cons_succ])
      refine take_at 9 74 rx12_9 (v := ?_) (Or.inl ⟨by rfl, ?_⟩) ?_
      rotate_left 1
      · ((intro w hSw; (try dsimp only at hSw); unfold rx12_9; go_simp) <;> with_reducible rfl)
      (try simp only [Act.put, List.setIfInBounds_toArray, List.set_cons_zero, List.set_cons_succ])
      refine take_at 10 75 rx12_10 (v := ?_) (Or.inl ⟨by rfl, ?_⟩) ?_
      rotate_left 1
      · ((intro w hSw; (try dsimp only at hSw); unfold rx12_10; go_simp) <;> with_reducible rfl)
      (try simp only [Act.put, List.setIfInBounds_toArray, List.set_cons_zero, List.set_cons_succ])
      refine wpAnyH_ready (rs := [11]) (by kernel_rfl) (by simp) ?_
      refine AllReadyH.cons (o := rx12_11) rfl (fun K hK => ?_) ?_
      · unfold rx12_11
        go_simp
        (go_at_call 26; with_reducible refine Calls.mono HFL.out ?_)
        rintro e wn ⟨rfl, hs2, hf2⟩
        have HSZ := Lib.hid hs2
        have HFZ := Lib.hid (HF3.out.drew.trans hf2)
        have HRZ := Lib.hid (hf2.kept _ _ _ _ (show V.drew.heap[w.heap.size]? = some zeroObj from HR3.out) (by decide) (by decide))
        clear hs2 hf2
        refine hK.out _ _ ?_ (fun hHeld => ?_)
        · (try dsimp only)
          (first | exact ⟨p0, q1⟩ | exact ⟨HSZ.out.cells.1.1, by have h := HSZ.out.cells.2.1; rw [fail_p] at h; exact h⟩)
        clear hK K
        (try simp only [Act.put, List.setIfInBounds_toArray, List.set_cons_zero, List.set_cons_succ])
        refine wpAnyH_done (by kernel_rfl) ?_ _
        clear hHeld
        obtain ⟨z0, z1, z2⟩ := five_cells HRZ.out
        obtain ⟨g0, g1, g2⟩ := five_free HRZ.out
        have hz := HRZ.out
        have HE := Lib.hid (xsd_zero5 HRZ.out HSZ.out HFZ.out hlo)
        go_wp2
        (try simp only [Exit.inBlock, Exit.then])
        refine bodyPost_ret (results_cell_row rfl _ _ w.heap.size _ _ _ du rfl (five_set hz) hu1 (by cases du <;> first | rfl | exact hu2) size_term) rfl ?_
        rw [← HXX.out]
        exact HE.out
      exact AllReadyH.nil
    | true =>
      have HWI := Lib.hid (pwithin_any ((s.n : Int) + 1) c.nodes U.drew)
      cases hwn : withinB (s.n + 1 : Nat) c.nodes with
      | false =>
        have HXX := Lib.hid (show (zeroX, ({ s with n := s.n + 1, word := 2 } : XS).fail) = X by rw [← HX.out, if_neg (by rw [hk]; simp), if_neg (by rw [hwd]; simp), if_pos hwn, hb])
        have hwn' : withinB ((s.n : Int) + 1) c.nodes = false := hwn
        rw [hwn'] at HWI
        have HS3 := Lib.hid (HS2.out.setw 2).1.drew
        have HF3 := Lib.hid (HF2.out.trans (HS2.out.setw 2).2).drew
        have HR3 := Lib.hid (show (U.setCell ⟨c.P, 4, none⟩ (.string (wordV 2))).drew.heap[w.heap.size]? = some zeroObj from (HS2.out.setw 2).2.kept _ _ _ _ HR2.out (by decide) (by decide))
        go_wp2_with fail
        have p3' : U.cell? ⟨c.P, 3, none⟩ = some (.int .i64 ((s.n : Int) + 1)) := p3
        refine wp_region_held_drew (S := fun w' => w'.cell? ⟨c.P, 3, none⟩ = some (.int .i64 ((s.n : Int) + 1)) ∧ w'.cell? ⟨c.P, 2, none⟩ = some (.float .f64 c.nodes)) (by kernel_rfl) ?_ (fun hHeld => ?_)
        · (try dsimp only)
          exact ⟨p3', p2⟩
        refine take_at 0 47 rx9_0 (v := ?_) (Or.inl ⟨by rfl, ?_⟩) ?_
        rotate_left 1
        · ((intro w hSw; (try dsimp only at hSw); unfold rx9_0; go_simp) <;> with_reducible rfl)
        (try simp only [Act.put, List.setIfInBounds_toArray, List.set_cons_zero, List.set_cons_succ])
        refine take_at 1 48 rx9_1 (v := ?_) (Or.inl ⟨by rfl, ?_⟩) ?_
        rotate_left 1
        · ((intro w hSw; (try dsimp only at hSw); unfold rx9_1; go_simp) <;> with_reducible rfl)
        (try simp only [Act.put, List.setIfInBounds_toArray, List.set_cons_zero, List.set_cons_succ])
        refine take_at 2 49 rx9_2 (v := ?_) (Or.inl ⟨by rfl, ?_⟩) ?_
        rotate_left 1
        · ((intro w hSw; (try dsimp only at hSw); unfold rx9_2; go_simp) <;> with_reducible rfl)
        (try simp only [Act.put, List.setIfInBounds_toArray, List.set_cons_zero, List.set_cons_succ])
        refine take_at 3 50 rx9_3 (v := ?_) (Or.inl ⟨by rfl, ?_⟩) ?_
        rotate_left 1
        · ((intro w hSw; (try dsimp only at hSw); unfold rx9_3; go_simp) <;> with_reducible rfl)
        (try simp only [Act.put, List.setIfInBounds_toArray, List.set_cons_zero, List.set_cons_succ])
        refine take_at 4 51 rx9_4 (v := ?_) (Or.inl ⟨by rfl, ?_⟩) ?_
        rotate_left 1
        · ((intro w hSw; (try dsimp only at hSw); unfold rx9_4; go_simp) <;> with_reducible rfl)
        (try simp only [Act.put, List.setIfInBounds_toArray, List.set_cons_zero, List.set_cons_succ])
        refine take_at 5 52 rx9_5 (v := ?_) (Or.inl ⟨by rfl, ?_⟩) ?_
        rotate_left 1
        · ((intro w hSw; (try dsimp only at hSw); unfold rx9_5; go_simp) <;> with_reducible rfl)
        (try simp only [Act.put, List.setIfInBounds_toArray, List.set_cons_zero, List.set_cons_succ])
        refine take_at 6 53 rx9_6 (v := ?_) (Or.inl ⟨by rfl, ?_⟩) ?_
        rotate_left 1
        · ((intro w hSw; (try dsimp only at hSw); unfold rx9_6; go_simp) <;> with_reducible rfl)
        (try simp only [Act.put, List.setIfInBounds_toArray, List.set_cons_zero, List.set_cons_succ])
        refine take_at 7 54 rx9_7 (v := ?_) (Or.inl ⟨by rfl, ?_⟩) ?_
        rotate_left 1
        · ((intro w hSw; (try dsimp only at hSw); unfold rx9_7; go_simp) <;> with_reducible rfl)
        (try simp only [Act.put, List.setIfInBounds_toArray, List.set_cons_zero, List.set_cons_succ])
        refine wpAnyH_ready (rs := [8]) (by kernel_rfl) (by simp) ?_
        refine AllReadyH.cons (o := rx9_8) rfl (fun K hK => ?_) ?_
        · unfold rx9_8
          go_simp
          (go_at_call 42; with_reducible refine Calls.mono HWI.out ?_)
          rintro e wn ⟨rfl, rfl⟩
          refine hK.out _ _ ?_ (fun hHeld => ?_)
          · (try dsimp only)
            exact ⟨p3', p2⟩
          clear hK K
          (try simp only [Act.put, List.setIfInBounds_toArray, List.set_cons_zero, List.set_cons_succ])
          refine take_at 9 56 rx9_9 (v := ?_) (Or.inl ⟨by rfl, ?_⟩) ?_
          rotate_left 1
          · ((intro w hSw; (try dsimp only at hSw); unfold rx9_9; go_simp) <;> with_reducible rfl)
          (try simp only [Act.put, List.setIfInBounds_toArray, List.set_cons_zero, List.set_cons_succ])
          refine wpAnyH_done (by kernel_rfl) ?_ _
          clear hHeld
          go_upto_region 11 with fail
          obtain ⟨V, hV⟩ : ∃ V, V = (U.setCell ⟨c.P, 4, none⟩ (.string (wordV 2))).drew := ⟨_, rfl⟩
          have hV' := hV
          rw [wordV2] at hV'
          rw [← hV] at HS3 HF3 HR3
          rw [← hV']
          clear hV hV' p0 p1 p2 p3 p4 q1 q2
          obtain ⟨⟨p0, p1, p2, p3, p4⟩, q1, q2⟩ := HS3.out.cells
          change V.cell? ⟨c.P, 4, none⟩ = some (.string (wordV 2)) at p4
          rw [wordV2] at p4
          go_wp2_with fail
          have HFL := Lib.hid (HS3.out.drew.failed)
          refine wp_region_held_drew (S := fun w' => w'.cell? ⟨c.P, 0, none⟩ = some (.pointer (some ⟨c.R, 0, none⟩)) ∧ w'.cell? ⟨c.R, 1, none⟩ = some (.int .i64 s.p)) (by kernel_rfl) ?_ (fun hHeld => ?_)
          · (try dsimp only)
            (first | exact ⟨p0, q1⟩ | exact ⟨HSZ.out.cells.1.1, by have h := HSZ.out.cells.2.1; rw [fail_p] at h; exact h⟩)
          refine take_at 0 65 rx12_0 (v := ?_) (Or.inl ⟨by rfl, ?_⟩) ?_
          rotate_left 1
          · ((intro w hSw; (try dsimp only at hSw); unfold rx12_0; go_simp) <;> with_reducible rfl)
          (try simp only [Act.put, List.setIfInBounds_toArray, List.set_cons_zero, List.set_cons_succ])
          refine take_at 1 66 rx12_1 (v := ?_) (Or.inl ⟨by rfl, ?_⟩) ?_
          rotate_left 1
          · ((intro w hSw; (try dsimp only at hSw); unfold rx12_1; go_simp) <;> with_reducible rfl)
          (try simp only [Act.put, List.setIfInBounds_toArray, List.set_cons_zero, List.set_cons_succ])
          refine take_at 2 67 rx12_2 (v := ?_) (Or.inl ⟨by rfl, ?_⟩) ?_
          rotate_left 1
          · ((intro w hSw; (try dsimp only at hSw); unfold rx12_2; go_simp) <;> with_reducible rfl)
          (try simp only [Act.put, List.setIfInBounds_toArray, List.set_cons_zero, List.set_cons_succ])
          refine take_at 3 68 rx12_3 (v := ?_) (Or.inl ⟨by rfl, ?_⟩) ?_
          rotate_left 1
          · ((intro w hSw; (try dsimp only at hSw); unfold rx12_3; go_simp) <;> with_reducible rfl)
          (try simp only [Act.put, List.setIfInBounds_toArray, List.set_cons_zero, List.set_cons_succ])
          refine take_at 4 69 rx12_4 (v := ?_) (Or.inl ⟨by rfl, ?_⟩) ?_
          rotate_left 1
          · ((intro w hSw; (try dsimp only at hSw); unfold rx12_4; go_simp) <;> with_reducible rfl)
          (try simp only [Act.put, List.setIfInBounds_toArray, List.set_cons_zero, List.set_cons_succ])
          refine take_at 5 70 rx12_5 (v := ?_) (Or.inl ⟨by rfl, ?_⟩) ?_
          rotate_left 1
          · ((intro w hSw; (try dsimp only at hSw); unfold rx12_5; go_simp) <;> with_reducible rfl)
          (try simp only [Act.put, List.setIfInBounds_toArray, List.set_cons_zero, List.set_cons_succ])
          refine take_at 6 71 rx12_6 (v := ?_) (Or.inl ⟨by rfl, ?_⟩) ?_
          rotate_left 1
          · ((intro w hSw; (try dsimp only at hSw); unfold rx12_6; go_simp) <;> with_reducible rfl)
          (try simp only [Act.put, List.setIfInBounds_toArray, List.set_cons_zero, List.set_cons_succ])
          refine take_at 7 72 rx12_7 (v := ?_) (Or.inl ⟨by rfl, ?_⟩) ?_
          rotate_left 1
          · ((intro w hSw; (try dsimp only at hSw); unfold rx12_7; go_simp) <;> with_reducible rfl)
          (try simp only [Act.put, List.setIfInBounds_toArray, List.set_cons_zero, List.set_cons_succ])
          refine take_at 8 73 rx12_8 (v := ?_) (Or.inl ⟨by rfl, ?_⟩) ?_
          rotate_left 1
          · ((intro w hSw; (try dsimp only at hSw); unfold rx12_8; go_simp) <;> with_reducible rfl)
          (try simp only [Act.put, List.setIfInBounds_toArray, List.set_cons_zero, List.set_cons_succ])
          refine take_at 9 74 rx12_9 (v := ?_) (Or.inl ⟨by rfl, ?_⟩) ?_
          rotate_left 1
          · ((intro w hSw; (try dsimp only at hSw); unfold rx12_9; go_simp) <;> with_reducible rfl)
          (try simp only [Act.put, List.setIfInBounds_toArray, List.set_cons_zero, List.set_cons_succ])
          refine take_at 10 75 rx12_10 (v := ?_) (Or.inl ⟨by rfl, ?_⟩) ?_
          rotate_left 1
          · ((intro w hSw; (try dsimp only at hSw); unfold rx12_10; go_simp) <;> with_reducible rfl)
          (try simp only [Act.put, List.setIfInBounds_toArray, List.set_cons_zero, List.set_cons_succ])
          refine wpAnyH_ready (rs := [11]) (by kernel_rfl) (by simp) ?_
          refine AllReadyH.cons (o := rx12_11) rfl (fun K hK => ?_) ?_
          · unfold rx12_11
            go_simp
            (go_at_call 26; with_reducible refine Calls.mono HFL.out ?_)
            rintro e wn ⟨rfl, hs2, hf2⟩
            have HSZ := Lib.hid hs2
            have HFZ := Lib.hid (HF3.out.drew.trans hf2)
            have HRZ := Lib.hid (hf2.kept _ _ _ _ (show V.drew.heap[w.heap.size]? = some zeroObj from HR3.out) (by decide) (by decide))
            clear hs2 hf2
            refine hK.out _ _ ?_ (fun hHeld => ?_)
            · (try dsimp only)
              (first | exact ⟨p0, q1⟩ | exact ⟨HSZ.out.cells.1.1, by have h := HSZ.out.cells.2.1; rw [fail_p] at h; exact h⟩)
            clear hK K
            (try simp only [Act.put, List.setIfInBounds_toArray, List.set_cons_zero, List.set_cons_succ])
            refine wpAnyH_done (by kernel_rfl) ?_ _
            clear hHeld
            obtain ⟨z0, z1, z2⟩ := five_cells HRZ.out
            obtain ⟨g0, g1, g2⟩ := five_free HRZ.out
            have hz := HRZ.out
            have HE := Lib.hid (xsd_zero5 HRZ.out HSZ.out HFZ.out hlo)
            go_wp2
            (try simp only [Exit.inBlock, Exit.then])
            refine bodyPost_ret (results_cell_row rfl _ _ w.heap.size _ _ _ du rfl (five_set hz) hu1 (by cases du <;> first | rfl | exact hu2) size_term) rfl ?_
            rw [← HXX.out]
            exact HE.out
          exact AllReadyH.nil
        exact AllReadyH.nil
      | true =>
        have hwn' : withinB ((s.n : Int) + 1) c.nodes = true := hwn
        rw [hwn'] at HWI
        have HXX := Lib.hid (show ruleX c.L (derX c.deep c.nodes c.L f) d (⟨s.p + 1, none, s.n + 1, s.word⟩ : XS) = X by rw [← HX.out, if_neg (by rw [hk]; simp), if_neg (by rw [hwd]; simp), if_neg (by rw [hwn]; simp)]; rfl)
        rw [hw0] at p4
        unfold wordV at p4
        obtain ⟨s2, hs2⟩ : ∃ s2 : XS, s2 = ⟨s.p + 1, none, s.n + 1, s.word⟩ := ⟨_, rfl⟩
        have HS2P := Lib.hid (show s2.p = s.p + 1 by rw [hs2])
        have HS2B := Lib.hid (show s2.bad = none by rw [hs2])
        have e3 : (⟨s.p + 1, s.bad, s.n + 1, s.word⟩ : XS) = s2 := by rw [hs2, hb]
        have h3 : XSt c ⟨s.p + 1, s.bad, s.n + 1, s.word⟩ (U.setCell ⟨c.R, 1, none⟩ (.int .i64 ((s.p : Int) + 1))).drew := (HS2.out.step (s.p + 1)).1.drew
        rw [e3] at h3
        have HS3 := Lib.hid h3
        clear e3 h3
        have HF3 := Lib.hid (show Fx c w (U.setCell ⟨c.R, 1, none⟩ (.int .i64 ((s.p : Int) + 1))).drew from (HF2.out.trans (HS2.out.step (s.p + 1)).2).drew)
        have HR3 := Lib.hid (show (U.setCell ⟨c.R, 1, none⟩ (.int .i64 ((s.p : Int) + 1))).drew.heap[w.heap.size]? = some zeroObj from (HS2.out.step (s.p + 1)).2.kept _ _ _ _ HR2.out (by decide) (by decide))
        have hw2 : IntKind.i64.wrap ((s.p : Int) + 1) = (s.p : Int) + 1 := IntWalk.i64_in _ (by omega)
        have HI2 := Lib.hid (show InvX c.L s2 by rw [hs2]; exact HI.out.node hb hpL)
        rw [← hs2] at HXX
        clear hs2
        have HRX := Lib.hid (show X = ruleX c.L (derX c.deep c.nodes c.L f) d s2 from HXX.out.symm)
        obtain ⟨R, hRe⟩ : ∃ R, ruleN (wordAt c.L s2.p) = R := ⟨_, rfl⟩
        have HRE := Lib.hid hRe
        have hRg := ruleN_range (wordAt c.L s2.p)
        have HRI := Lib.hid (ruleN_is (wordAt c.L s2.p))
        rw [hRe] at HRI hRg
        clear HXX hRe
        go_wp2_with fail
        have p3' : U.cell? ⟨c.P, 3, none⟩ = some (.int .i64 ((s.n : Int) + 1)) := p3
        refine wp_region_held_drew (S := fun w' => w'.cell? ⟨c.P, 3, none⟩ = some (.int .i64 ((s.n : Int) + 1)) ∧ w'.cell? ⟨c.P, 2, none⟩ = some (.float .f64 c.nodes)) (by kernel_rfl) ?_ (fun hHeld => ?_)
        · (try dsimp only)
          exact ⟨p3', p2⟩
        refine take_at 0 47 rx9_0 (v := ?_) (Or.inl ⟨by rfl, ?_⟩) ?_
        rotate_left 1
        · ((intro w hSw; (try dsimp only at hSw); unfold rx9_0; go_simp) <;> with_reducible rfl)
        (try simp only [Act.put, List.setIfInBounds_toArray, List.set_cons_zero, List.set_cons_succ])
        refine take_at 1 48 rx9_1 (v := ?_) (Or.inl ⟨by rfl, ?_⟩) ?_
        rotate_left 1
        · ((intro w hSw; (try dsimp only at hSw); unfold rx9_1; go_simp) <;> with_reducible rfl)
        (try simp only [Act.put, List.setIfInBounds_toArray, List.set_cons_zero, List.set_cons_succ])
        refine take_at 2 49 rx9_2 (v := ?_) (Or.inl ⟨by rfl, ?_⟩) ?_
        rotate_left 1
        · ((intro w hSw; (try dsimp only at hSw); unfold rx9_2; go_simp) <;> with_reducible rfl)
        (try simp only [Act.put, List.setIfInBounds_toArray, List.set_cons_zero, List.set_cons_succ])
        refine take_at 3 50 rx9_3 (v := ?_) (Or.inl ⟨by rfl, ?_⟩) ?_
        rotate_left 1
        · ((intro w hSw; (try dsimp only at hSw); unfold rx9_3; go_simp) <;> with_reducible rfl)
        (try simp only [Act.put, List.setIfInBounds_toArray, List.set_cons_zero, List.set_cons_succ])
        refine take_at 4 51 rx9_4 (v := ?_) (Or.inl ⟨by rfl, ?_⟩) ?_
        rotate_left 1
        · ((intro w hSw; (try dsimp only at hSw); unfold rx9_4; go_simp) <;> with_reducible rfl)
        (try simp only [Act.put, List.setIfInBounds_toArray, List.set_cons_zero, List.set_cons_succ])
        refine take_at 5 52 rx9_5 (v := ?_) (Or.inl ⟨by rfl, ?_⟩) ?_
        rotate_left 1
        · ((intro w hSw; (try dsimp only at hSw); unfold rx9_5; go_simp) <;> with_reducible rfl)
        (try simp only [Act.put, List.setIfInBounds_toArray, List.set_cons_zero, List.set_cons_succ])
        refine take_at 6 53 rx9_6 (v := ?_) (Or.inl ⟨by rfl, ?_⟩) ?_
        rotate_left 1
        · ((intro w hSw; (try dsimp only at hSw); unfold rx9_6; go_simp) <;> with_reducible rfl)
        (try simp only [Act.put, List.setIfInBounds_toArray, List.set_cons_zero, List.set_cons_succ])
        refine take_at 7 54 rx9_7 (v := ?_) (Or.inl ⟨by rfl, ?_⟩) ?_
        rotate_left 1
        · ((intro w hSw; (try dsimp only at hSw); unfold rx9_7; go_simp) <;> with_reducible rfl)
        (try simp only [Act.put, List.setIfInBounds_toArray, List.set_cons_zero, List.set_cons_succ])
        refine wpAnyH_ready (rs := [8]) (by kernel_rfl) (by simp) ?_
        refine AllReadyH.cons (o := rx9_8) rfl (fun K hK => ?_) ?_
        · unfold rx9_8
          go_simp
          (go_at_call 42; with_reducible refine Calls.mono HWI.out ?_)
          rintro e wn ⟨rfl, rfl⟩
          refine hK.out _ _ ?_ (fun hHeld => ?_)
          · (try dsimp only)
            exact ⟨p3', p2⟩
          clear hK K
          (try simp only [Act.put, List.setIfInBounds_toArray, List.set_cons_zero, List.set_cons_succ])
          refine take_at 9 56 rx9_9 (v := ?_) (Or.inl ⟨by rfl, ?_⟩) ?_
          rotate_left 1
          · ((intro w hSw; (try dsimp only at hSw); unfold rx9_9; go_simp) <;> with_reducible rfl)
          (try simp only [Act.put, List.setIfInBounds_toArray, List.set_cons_zero, List.set_cons_succ])
          refine wpAnyH_done (by kernel_rfl) ?_ _
          clear hHeld
          go_upto_region 15 with fail
          obtain ⟨V, hV⟩ : ∃ V, V = (U.setCell ⟨c.R, 1, none⟩ (.int .i64 ((s.p : Int) + 1))).drew := ⟨_, rfl⟩
          rw [← hV] at HS3 HF3 HR3
          rw [← hV]
          clear hV p0 p1 p2 p3 p4 q1 q2
          obtain ⟨⟨p0, p1, p2, p3, p4⟩, q1, q2⟩ := HS3.out.cells
          go_wp2_with fail
          refine HS3.out.word.mono ?_
          rintro e w4 ⟨rfl, hs4, hf4⟩
          obtain ⟨bw, hbw⟩ : ∃ b : ByteArray, (⟨(wordAt c.L s2.p).toArray⟩ : ByteArray) = b := ⟨_, rfl⟩
          have HB := Lib.hid (show RuleIs bw R by rw [← hbw]; exact HRI.out)
          rw [hbw]
          have HS4 := Lib.hid hs4
          have HF4 := Lib.hid hf4
          clear hbw hs4 hf4 p0 p1 p2 p3 p4 q1 q2
          go_wp2_with fail
          have hs4 := HS4.out
          have hf4 := HF4.out
          refine (drefrule_any bw R HB.out _).mono ?_
          rintro e w5 ⟨rfl, hb5⟩
          have hal := (Below.refl w5.heap.size w5).alloc (Nat.le_refl _) (.cells #[.int .i64 R, .int .i64 0, .slice none 0 0] 25)
          have hb6 := hb5.trans (hal.mono hb5.size)
          have hr4 := hf4.kept _ _ _ _ HR3.out (by decide) (by decide)
          have HS := Lib.hid (show StandX c w w5.heap.size (.mk R 0 []) (.slice none 0 0) s2 (w5.alloc (.cells #[.int .i64 R, .int .i64 0, .slice none 0 0] 25)) from ⟨alloc_new _ _, (hb6.block _ (hltD hr4)).trans hr4, hs4.later hb6, (HF3.out.trans hf4).trans (Fx.later hb6 hs4.lo)⟩)
          have hDR : w.heap.size < w5.heap.size := by have := hltD hr4; have := hb5.size; omega
          clear hs4 hf4 hb5 hal hb6 hr4 HR3 HF3 HS3 HR2 HF2 HS2 HS4 HF4
          go_upto_region 16 with fail
          obtain ⟨W, hW⟩ : ∃ W, W = w5.alloc (.cells #[.int .i64 R, .int .i64 0, .slice none 0 0] 25) := ⟨_, rfl⟩
          rw [← hW] at HS
          rw [← hW]
          clear hW
          obtain ⟨⟨p0, p1, p2, p3, p4⟩, q1, q2⟩ := HS.out.st.cells
          go_wp2_with fail
          refine HS.out.st.kind.mono ?_
          rintro e w6 ⟨rfl, hs6, hf6⟩
          have HS6 := Lib.hid (HS.out.call hf6 hs6)
          clear hs6 hf6 p0 p1 p2 p3 p4 q1 q2
          obtain ⟨⟨p0, p1, p2, p3, p4⟩, q1, q2⟩ := HS6.out.st.cells
          obtain ⟨y0, y1, y2⟩ := five_cells HS6.out.box
          change w6.cell? ⟨w5.heap.size, 0, none⟩ = some (.int .i64 R) at y0
          by_cases hgo : kindAt c.L s2.p = 3 ∧ R ≠ 0
          case neg =>
            have HXX := Lib.hid (show (zeroX, s2.fail) = X by rw [HRX.out]; unfold ruleX; rw [HRE.out, if_neg hgo])
            have HFS := Lib.hid HS6.out.st
            have HFF := Lib.hid HS6.out.fr
            have HRR := Lib.hid HS6.out.res
            by_cases hk3 : kindAt c.L s2.p = 3
            · have hR0 : R = 0 := by
                by_cases h : R = 0
                · exact h
                · exact absurd ⟨hk3, h⟩ hgo
              have hk3i : ((kindAt c.L s2.p : Nat) : Int) = 3 := by omega
              rw [hR0] at y0
              go_wp2_with fail
              have HFL := Lib.hid (HFS.out.drew.failed)
              refine wp_region_held_drew (S := fun w' => w'.cell? ⟨c.P, 0, none⟩ = some (.pointer (some ⟨c.R, 0, none⟩)) ∧ w'.cell? ⟨c.R, 1, none⟩ = some (.int .i64 s2.p)) (by kernel_rfl) ?_ (fun hHeld => ?_)
              · (try dsimp only)
                (first | exact ⟨p0, q1⟩ | exact ⟨HSZ.out.cells.1.1, by have h := HSZ.out.cells.2.1; rw [fail_p] at h; exact h⟩)
              refine take_at 0 106 rx17_0 (v := ?_) (Or.inl ⟨by rfl, ?_⟩) ?_
              rotate_left 1
              · ((intro w hSw; (try dsimp only at hSw); unfold rx17_0; go_simp) <;> with_reducible rfl)
              (try simp only [Act.put, List.setIfInBounds_toArray, List.set_cons_zero, List.set_cons_succ])
              refine take_at 1 107 rx17_1 (v := ?_) (Or.inl ⟨by rfl, ?_⟩) ?_
              rotate_left 1
              · ((intro w hSw; (try dsimp only at hSw); unfold rx17_1; go_simp) <;> with_reducible rfl)
              (try simp only [Act.put, List.setIfInBounds_toArray, List.set_cons_zero, List.set_cons_succ])
              refine take_at 2 108 rx17_2 (v := ?_) (Or.inl ⟨by rfl, ?_⟩) ?_
              rotate_left 1
              · ((intro w hSw; (try dsimp only at hSw); unfold rx17_2; go_simp) <;> with_reducible rfl)
              (try simp only [Act.put, List.setIfInBounds_toArray, List.set_cons_zero, List.set_cons_succ])
              refine take_at 3 109 rx17_3 (v := ?_) (Or.inl ⟨by rfl, ?_⟩) ?_
              rotate_left 1
              · ((intro w hSw; (try dsimp only at hSw); unfold rx17_3; go_simp) <;> with_reducible rfl)
              (try simp only [Act.put, List.setIfInBounds_toArray, List.set_cons_zero, List.set_cons_succ])
              refine take_at 4 110 rx17_4 (v := ?_) (Or.inl ⟨by rfl, ?_⟩) ?_
              rotate_left 1
              · ((intro w hSw; (try dsimp only at hSw); unfold rx17_4; go_simp) <;> with_reducible rfl)
              (try simp only [Act.put, List.setIfInBounds_toArray, List.set_cons_zero, List.set_cons_succ])
              refine take_at 5 111 rx17_5 (v := ?_) (Or.inl ⟨by rfl, ?_⟩) ?_
              rotate_left 1
              · ((intro w hSw; (try dsimp only at hSw); unfold rx17_5; go_simp) <;> with_reducible rfl)
              (try simp only [Act.put, List.setIfInBounds_toArray, List.set_cons_zero, List.set_cons_succ])
              refine take_at 6 112 rx17_6 (v := ?_) (Or.inl ⟨by rfl, ?_⟩) ?_
              rotate_left 1
              · ((intro w hSw; (try dsimp only at hSw); unfold rx17_6; go_simp) <;> with_reducible rfl)
              (try simp only [Act.put, List.setIfInBounds_toArray, List.set_cons_zero, List.set_cons_succ])
              refine take_at 7 113 rx17_7 (v := ?_) (Or.inl ⟨by rfl, ?_⟩) ?_
              rotate_left 1
              · ((intro w hSw; (try dsimp only at hSw); unfold rx17_7; go_simp) <;> with_reducible rfl)
              (try simp only [Act.put, List.setIfInBounds_toArray, List.set_cons_zero, List.set_cons_succ])
              refine take_at 8 114 rx17_8 (v := ?_) (Or.inl ⟨by rfl, ?_⟩) ?_
              rotate_left 1
              · ((intro w hSw; (try dsimp only at hSw); unfold rx17_8; go_simp) <;> with_reducible rfl)
              (try simp only [Act.put, List.setIfInBounds_toArray, List.set_cons_zero, List.set_cons_succ])
              refine take_at 9 115 rx17_9 (v := ?_) (Or.inl ⟨by rfl, ?_⟩) ?_
              rotate_left 1
              · ((intro w hSw; (try dsimp only at hSw); unfold rx17_9; go_simp) <;> with_reducible rfl)
              (try simp only [Act.put, List.setIfInBounds_toArray, List.set_cons_zero, List.set_cons_succ])
              refine take_at 10 116 rx17_10 (v := ?_) (Or.inl ⟨by rfl, ?_⟩) ?_
              rotate_left 1
              · ((intro w hSw; (try dsimp only at hSw); unfold rx17_10; go_simp) <;> with_reducible rfl)
              (try simp only [Act.put, List.setIfInBounds_toArray, List.set_cons_zero, List.set_cons_succ])
              refine wpAnyH_ready (rs := [11]) (by kernel_rfl) (by simp) ?_
              refine AllReadyH.cons (o := rx17_11) rfl (fun K hK => ?_) ?_
              · unfold rx17_11
                go_simp
                (go_at_call 26; with_reducible refine Calls.mono HFL.out ?_)
                rintro e wn ⟨rfl, hs2, hf2⟩
                have HSZ := Lib.hid hs2
                have HFZ := Lib.hid (HFF.out.drew.trans hf2)
                have HRZ := Lib.hid (hf2.kept _ _ _ _ (show w6.drew.heap[w.heap.size]? = some zeroObj from HRR.out) (by decide) (by decide))
                clear hs2 hf2
                refine hK.out _ _ ?_ (fun hHeld => ?_)
                · (try dsimp only)
                  (first | exact ⟨p0, q1⟩ | exact ⟨HSZ.out.cells.1.1, by have h := HSZ.out.cells.2.1; rw [fail_p] at h; exact h⟩)
                clear hK K
                (try simp only [Act.put, List.setIfInBounds_toArray, List.set_cons_zero, List.set_cons_succ])
                refine wpAnyH_done (by kernel_rfl) ?_ _
                clear hHeld
                obtain ⟨z0, z1, z2⟩ := five_cells HRZ.out
                obtain ⟨g0, g1, g2⟩ := five_free HRZ.out
                have hz := HRZ.out
                have HE := Lib.hid (xsd_zero5 HRZ.out HSZ.out HFZ.out hlo)
                go_wp2
                (try simp only [Exit.inBlock, Exit.then])
                refine bodyPost_ret (results_cell_row rfl _ _ w.heap.size _ _ _ du rfl (five_set hz) hu1 (by cases du <;> first | rfl | exact hu2) size_term) rfl ?_
                rw [← HXX.out]
                exact HE.out
              exact AllReadyH.nil
            · have hk3i : ¬ ((kindAt c.L s2.p : Nat) : Int) = 3 := by omega
              go_wp2_with fail
              have HFL := Lib.hid (HFS.out.drew.failed)
              refine wp_region_held_drew (S := fun w' => w'.cell? ⟨c.P, 0, none⟩ = some (.pointer (some ⟨c.R, 0, none⟩)) ∧ w'.cell? ⟨c.R, 1, none⟩ = some (.int .i64 s2.p)) (by kernel_rfl) ?_ (fun hHeld => ?_)
              · (try dsimp only)
                (first | exact ⟨p0, q1⟩ | exact ⟨HSZ.out.cells.1.1, by have h := HSZ.out.cells.2.1; rw [fail_p] at h; exact h⟩)
              refine take_at 0 106 rx17_0 (v := ?_) (Or.inl ⟨by rfl, ?_⟩) ?_
              rotate_left 1
              · ((intro w hSw; (try dsimp only at hSw); unfold rx17_0; go_simp) <;> with_reducible rfl)
              (try simp only [Act.put, List.setIfInBounds_toArray, List.set_cons_zero, List.set_cons_succ])
              refine take_at 1 107 rx17_1 (v := ?_) (Or.inl ⟨by rfl, ?_⟩) ?_
              rotate_left 1
              · ((intro w hSw; (try dsimp only at hSw); unfold rx17_1; go_simp) <;> with_reducible rfl)
              (try simp only [Act.put, List.setIfInBounds_toArray, List.set_cons_zero, List.set_cons_succ])
              refine take_at 2 108 rx17_2 (v := ?_) (Or.inl ⟨by rfl, ?_⟩) ?_
              rotate_left 1
              · ((intro w hSw; (try dsimp only at hSw); unfold rx17_2; go_simp) <;> with_reducible rfl)
              (try simp only [Act.put, List.setIfInBounds_toArray, List.set_cons_zero, List.set_cons_succ])
              refine take_at 3 109 rx17_3 (v := ?_) (Or.inl ⟨by rfl, ?_⟩) ?_
              rotate_left 1
              · ((intro w hSw; (try dsimp only at hSw); unfold rx17_3; go_simp) <;> with_reducible rfl)
              (try simp only [Act.put, List.setIfInBounds_toArray, List.set_cons_zero, List.set_cons_succ])
              refine take_at 4 110 rx17_4 (v := ?_) (Or.inl ⟨by rfl, ?_⟩) ?_
              rotate_left 1
              · ((intro w hSw; (try dsimp only at hSw); unfold rx17_4; go_simp) <;> with_reducible rfl)
              (try simp only [Act.put, List.setIfInBounds_toArray, List.set_cons_zero, List.set_cons_succ])
              refine take_at 5 111 rx17_5 (v := ?_) (Or.inl ⟨by rfl, ?_⟩) ?_
              rotate_left 1
              · ((intro w hSw; (try dsimp only at hSw); unfold rx17_5; go_simp) <;> with_reducible rfl)
              (try simp only [Act.put, List.setIfInBounds_toArray, List.set_cons_zero, List.set_cons_succ])
              refine take_at 6 112 rx17_6 (v := ?_) (Or.inl ⟨by rfl, ?_⟩) ?_
              rotate_left 1
              · ((intro w hSw; (try dsimp only at hSw); unfold rx17_6; go_simp) <;> with_reducible rfl)
              (try simp only [Act.put, List.setIfInBounds_toArray, List.set_cons_zero, List.set_cons_succ])
              refine take_at 7 113 rx17_7 (v := ?_) (Or.inl ⟨by rfl, ?_⟩) ?_
              rotate_left 1
              · ((intro w hSw; (try dsimp only at hSw); unfold rx17_7; go_simp) <;> with_reducible rfl)
              (try simp only [Act.put, List.setIfInBounds_toArray, List.set_cons_zero, List.set_cons_succ])
              refine take_at 8 114 rx17_8 (v := ?_) (Or.inl ⟨by rfl, ?_⟩) ?_
              rotate_left 1
              · ((intro w hSw; (try dsimp only at hSw); unfold rx17_8; go_simp) <;> with_reducible rfl)
              (try simp only [Act.put, List.setIfInBounds_toArray, List.set_cons_zero, List.set_cons_succ])
              refine take_at 9 115 rx17_9 (v := ?_) (Or.inl ⟨by rfl, ?_⟩) ?_
              rotate_left 1
              · ((intro w hSw; (try dsimp only at hSw); unfold rx17_9; go_simp) <;> with_reducible rfl)
              (try simp only [Act.put, List.setIfInBounds_toArray, List.set_cons_zero, List.set_cons_succ])
              refine take_at 10 116 rx17_10 (v := ?_) (Or.inl ⟨by rfl, ?_⟩) ?_
              rotate_left 1
              · ((intro w hSw; (try dsimp only at hSw); unfold rx17_10; go_simp) <;> with_reducible rfl)
              (try simp only [Act.put, List.setIfInBounds_toArray, List.set_cons_zero, List.set_cons_succ])
              refine wpAnyH_ready (rs := [11]) (by kernel_rfl) (by simp) ?_
              refine AllReadyH.cons (o := rx17_11) rfl (fun K hK => ?_) ?_
              · unfold rx17_11
                go_simp
                (go_at_call 26; with_reducible refine Calls.mono HFL.out ?_)
                rintro e wn ⟨rfl, hs2, hf2⟩
                have HSZ := Lib.hid hs2
                have HFZ := Lib.hid (HFF.out.drew.trans hf2)
                have HRZ := Lib.hid (hf2.kept _ _ _ _ (show w6.drew.heap[w.heap.size]? = some zeroObj from HRR.out) (by decide) (by decide))
                clear hs2 hf2
                refine hK.out _ _ ?_ (fun hHeld => ?_)
                · (try dsimp only)
                  (first | exact ⟨p0, q1⟩ | exact ⟨HSZ.out.cells.1.1, by have h := HSZ.out.cells.2.1; rw [fail_p] at h; exact h⟩)
                clear hK K
                (try simp only [Act.put, List.setIfInBounds_toArray, List.set_cons_zero, List.set_cons_succ])
                refine wpAnyH_done (by kernel_rfl) ?_ _
                clear hHeld
                obtain ⟨z0, z1, z2⟩ := five_cells HRZ.out
                obtain ⟨g0, g1, g2⟩ := five_free HRZ.out
                have hz := HRZ.out
                have HE := Lib.hid (xsd_zero5 HRZ.out HSZ.out HFZ.out hlo)
                go_wp2
                (try simp only [Exit.inBlock, Exit.then])
                refine bodyPost_ret (results_cell_row rfl _ _ w.heap.size _ _ _ du rfl (five_set hz) hu1 (by cases du <;> first | rfl | exact hu2) size_term) rfl ?_
                rw [← HXX.out]
                exact HE.out
              exact AllReadyH.nil
          obtain ⟨hk3, hR0⟩ := hgo
          have HRX2 := Lib.hid (show X = restX c.L (derX c.deep c.nodes c.L f) d R s2.next by rw [HRX.out]; unfold ruleX; rw [HRE.out, if_pos ⟨hk3, hR0⟩])
          have HUP := Lib.hid (derX_up c.deep c.nodes c.L f)
          have HKP := Lib.hid (derX_keep (deep := c.deep) (nodes := c.nodes) (L := c.L) f)
          generalize derX c.deep c.nodes c.L f = dx at HL HRX2 HUP HKP
          have hk3i : ((kindAt c.L s2.p : Nat) : Int) = 3 := by omega
          have hpL3 := kind_in (L := c.L) (p := s2.p) (by omega)
          have f1 := HS6.out.st.free.2 1
          have hw3 : IntKind.i64.wrap ((s2.p : Int) + 1) = (s2.p : Int) + 1 := by have h := HS2P.out; exact IntWalk.i64_in _ (by omega)
          obtain ⟨s3, hs3⟩ : ∃ s3 : XS, s3 = s2.next := ⟨_, rfl⟩
          have HS3P := Lib.hid (show s3.p = s2.p + 1 by rw [hs3]; rfl)
          have HI3 := Lib.hid (show InvX c.L s3 by rw [hs3]; exact HI2.out.next HS2B.out (by omega))
          have hs7 : StandX c w w5.heap.size (.mk R 0 []) (.slice none 0 0) s2.next (w6.setCell ⟨c.R, 1, none⟩ (.int .i64 ((s2.p : Int) + 1))) := HS6.out.call (HS6.out.st.step (s2.p + 1)).2 (HS6.out.st.step (s2.p + 1)).1
          rw [← hs3] at HRX2 hs7
          have HS7 := Lib.hid hs7
          clear hs3 hs7 HRX HB HRI HI2 HS2B
          go_upto_region 20 with fail
          clear p0 p1 p2 p3 p4 q1 q2 y0 y1 y2 f1 HS6 HS
          obtain ⟨V, hV⟩ : ∃ V, V = w6.setCell ⟨c.R, 1, none⟩ (.int .i64 ((s2.p : Int) + 1)) := ⟨_, rfl⟩
          rw [← hV] at HS7
          rw [← hV]
          clear hV
          obtain ⟨⟨p0, p1, p2, p3, p4⟩, q1, q2⟩ := HS7.out.st.cells
          obtain ⟨y0, y1, y2⟩ := five_cells HS7.out.box
          change V.cell? ⟨w5.heap.size, 0, none⟩ = some (.int .i64 R) at y0
          go_wp2_with fail
          refine (numbered_any R V).mono ?_
          rintro e w' ⟨rfl, hw'⟩
          obtain rfl := hw'.symm
          cases hnb : numberedB R with
          | true =>
            have hR12 : R = 1 ∨ R = 2 := by unfold numberedB at hnb; simpa using hnb
            have hln := want_at htl 4 s3
            obtain ⟨a4, s4, hx⟩ : ∃ a4 s4, wantX c.L 4 s3 = (a4, s4) := ⟨_, _, rfl⟩
            have HWT := HS7.out.st.want 4 (by have := HS3P.out; have := HS2P.out; omega)
            have HI4 := HI3.out.want (k := 4) (by decide)
            have hup := want_p c.L 4 s3
            rw [hx] at HWT HI4 hup hln
            dsimp only at HWT HI4 hup hln
            have HI4' := Lib.hid HI4
            have HUQ := Lib.hid (show s3.p ≤ s4.p from hup)
            have HNX := Lib.hid (show numX c.L R s3 = ((((getB a4).getD 0 : Nat) : Int), s4) by unfold numX; rw [if_pos hR12, hx])
            have HWT' := Lib.hid HWT
            have hgb := getB_d a4
            have HGE := Lib.hid (getV_eq a4)
            obtain ⟨z, hz⟩ : ∃ z, (getB a4).getD 0 = z := ⟨_, rfl⟩
            rw [hz] at hgb HGE HNX
            clear hx HWT HI4 hup hz hnb hR12
            go_wp2_with fail
            refine HWT'.out.mono ?_
            rintro e w7 ⟨rfl, hs, hf⟩
            have HS4 := Lib.hid (HS7.out.call hf hs)
            clear hs hf p0 p1 p2 p3 p4 q1 q2 y0 y1 y2 HWT'
            obtain ⟨y0, y1, y2⟩ := five_cells HS4.out.box
            obtain ⟨f0, f1, f2⟩ := five_free HS4.out.box
            go_wp2_with fail
            refine (refget_any ⟨a4.toArray⟩ w7 (by show a4.toArray.size ≤ maxLen; unfold maxLen; rw [List.size_toArray]; omega)).mono ?_
            rintro e w' ⟨rfl, hww⟩
            rw [hww]
            clear hww
            obtain ⟨bb, hbb⟩ := HGE.out
            rw [show (⟨a4.toArray⟩ : ByteArray).data.toList = a4 from rfl, hbb]
            obtain ⟨nm, hnm⟩ : ∃ nm : Int, nm = (z : Int) := ⟨_, rfl⟩
            have hnmR : 0 ≤ nm ∧ nm ≤ 1000000 := by omega
            rw [← hnm] at HNX
            rw [← hnm]
            have HSV := Lib.hid (HS4.out.num hlo hDR nm)
            clear hnm
            go_upto_region 22 with fail
            clear y0 y1 y2 f0 f1 f2 HS7
            obtain ⟨U2, hU2⟩ : ∃ U2, U2 = w7.setCell ⟨w5.heap.size, 1, none⟩ (.int .i64 nm) := ⟨_, rfl⟩
            rw [← hU2] at HSV
            rw [← hU2]
            clear hU2 HS4 HGE hbb hgb hln
            obtain ⟨n, hn⟩ : ∃ n : Nat, dkidsN R = (n : Int) := ⟨(dkidsN R).toNat, by have := dkids_nn (r := R) (by omega); omega⟩
            have hn4 : n ≤ 4 := by have := (dkids_nn (r := R) (by omega)).2; omega
            have HN := Lib.hid hn
            have HRR := Lib.hid (show X = (.mk R nm (kidsX dx (d + 1) n s4).1, (wantX c.L 2 (kidsX dx (d + 1) n s4).2).2) by rw [HRX2.out]; unfold restX; rw [HNX.out]; dsimp only; rw [hn, Int.toNat_natCast])
            have hp4 : s.p + 2 ≤ s4.p := by have := HUQ.out; have := HS3P.out; have := HS2P.out; omega
            clear hn HRX2 HNX HI3
            go_wp2_with fail
            go_loopw [6, 7] (fun kv i wr => ∃ (j : Nat) (q : XS) (ps : List (Tm × Value)) (vv : Value), vv = kv ∧ j ≤ n ∧ i = .int .i64 j ∧ Hid (KXInv dx (d + 1) n s4 (ps.map (·.1)) (n - j) q) ∧ Hid (ps.length = j) ∧ s4.p ≤ q.p ∧ Hid (InvX c.L q) ∧ Hid (Made (w5.heap.size + 1) wr vv ps) ∧ Hid (StandX c w w5.heap.size (.mk R nm []) (.slice none 0 0) q wr)) (fun _ i _ => n - (intOf i).toNat)
            case atStart => exact ⟨0, s4, [], _, rfl, Nat.zero_le _, rfl, KXInv.start _ _ _ _, rfl, Nat.le_refl _, HI4'.out, made_nil _ _, HSV.out⟩
            case round =>
              clear HSV
              obtain ⟨j, q, ps, vv, rfl, hj, rfl, hki, hpl, hup, hiv, hmd, hsd⟩ := hrel
              obtain ⟨y0, y1, y2⟩ := five_cells hsd.out.box
              change wr.cell? ⟨w5.heap.size, 0, none⟩ = some (.int .i64 R) at y0
              have hq1 := hiv.out.p1
              by_cases hlt : j < n
              · have hlt' : (j : Int) < (n : Int) := by omega
                obtain ⟨m, hm⟩ : ∃ m, n - j = m + 1 := ⟨n - j - 1, by omega⟩
                have HKI := Lib.hid (show KXInv dx (d + 1) n s4 (ps.map (·.1)) (m + 1) q by rw [← hm]; exact hki.out)
                have HM := Lib.hid hm
                have HPL := Lib.hid hpl.out
                have HIV := Lib.hid hiv.out
                have HSD0 := Lib.hid hsd.out
                have HMD0 := Lib.hid hmd.out
                clear hki hpl hmd hsd hm hiv
                go_wp2_with fail
                refine (drefkids_any R wr).mono ?_
                rintro e wk ⟨rfl, hbk⟩
                rw [HN.out]
                have HSD := Lib.hid (HSD0.out.later hbk)
                have HMD := Lib.hid (made_later HMD0.out hbk)
                have hdsz := HSD.out.size
                clear hbk HSD0 HMD0 y0 y1 y2
                obtain ⟨t1, s1, hx⟩ : ∃ t1 s1, dx (d + 1) q = (t1, s1) := ⟨_, _, rfl⟩
                have HCALL := Lib.hid (show Calls Try.prog 27 #[.pointer (some ⟨c.P, 0, none⟩), .int .i64 ((d : Int) + 1)] wk (fun e w' => ∃ sv, e = .returned (tv t1 sv) ∧ LiesP w' (Own wk.heap.size w') t1.kids sv ∧ t1.fine ∧ XSt c s1 w' ∧ Fx c wk w') from by
                  rw [show (d : Int) + 1 = ((d + 1 : Nat) : Int) by omega]
                  have h := HL.out.use (d + 1) q wk HIV.out (by omega) (by omega) HSD.out.st
                  rw [hx] at h
                  exact h)
                have HXN := Lib.hid hx
                have HIN := Lib.hid (show InvX c.L s1 by have h := HKP.out (d + 1) q HIV.out; rw [hx] at h; exact h)
                have hupn : q.p ≤ s1.p := by have h := HUP.out (d + 1) q; rw [hx] at h; exact h
                have hwd1 : IntKind.i64.wrap ((d : Int) + 1) = (d : Int) + 1 := IntWalk.i64_in _ (by omega)
                have hwj1 : IntKind.i64.wrap ((j : Int) + 1) = (j : Int) + 1 := IntWalk.i64_in _ (by omega)
                clear hx HIV
                go_wp2_with fail
                refine HCALL.out.mono ?_
                rintro e wn ⟨sv, rfl, hl1, hfi, hs1, hf1⟩
                obtain ⟨a2, cap2, rfl, -, -⟩ := hl1.out
                have HSN := Lib.hid (HSD.out.call hf1 hs1)
                have HMN := Lib.hid (made_fx HMD.out hf1)
                have HM3 := Lib.hid (made_later HMN.out ((Below.refl _ _).alloc (Nat.le_refl _) (.cells #[.int .i64 t1.k, .int .i64 t1.i, .slice a2 t1.kids.length cap2] 25)))
                have hsn := HSN.out.size
                have HFN := Lib.hid hf1
                have HLN := Lib.hid hl1
                have HFI := Lib.hid hfi
                clear hl1 hfi hs1 hf1 HCALL
                go_wp2_with (at_builtin; refine wpList_append_lies _ rfl (.tmp 149) (.tmp 154) 23 rfl (w5.heap.size + 1) 25 i0 _ 3 40 (by kernel_rfl) HIF.out.1 HIF.out.2.1 HIF.out.2.2.1 HIF.out.2.2.2 rfl (by decide) _ ps.length (cells5 ps) rfl HM3.out.own ⟨wn.heap.size, 0, none⟩ 1 1 (cells5 [(t1, .slice a2 t1.kids.length cap2)]) rfl rfl ?news ?one (by decide) ?max ?bytes ?base _ rfl ?next)
                case news => exact news_new _ _ _ _
                case one => intro u hu; simp [cells5] at hu; rcases hu with rfl | rfl | rfl <;> rfl
                case max => have := HPL.out; unfold maxLen; omega
                case bytes => have := HPL.out; omega
                case base => simp; omega
                case next =>
                  intro g cap3 w9 hown hgrow hat _
                  have HPB := Lib.hid (made_push_fx HMD.out hdsz HFN.out HFI.out HLN.out _ hown hgrow (by rcases hat with h | h; exact Or.inl h; exact Or.inr (h.trans (by simp))))
                  have HS9 := Lib.hid ((HSN.out.later ((Below.refl _ _).alloc (Nat.le_refl _) (.cells #[.int .i64 t1.k, .int .i64 t1.i, .slice a2 t1.kids.length cap2] 25))).grow hgrow hlo hDR (made_row HM3.out))
                  clear hown hgrow hat
                  go_wp2_with fail
                  go_roundw
                  case rel => exact ⟨j + 1, s1, ps ++ [(t1, .slice a2 t1.kids.length cap2)], _, rfl, hlt, by go_num, by rw [show n - (j + 1) = m by have := HM.out; omega, List.map_append]; have h := HKI.out.step; rw [HXN.out] at h; exact h, by have := HPL.out; simp [Hid]; omega, by omega, HIN, HPB, HS9⟩
                  case measure => simp [intOf]; omega
              · obtain rfl : j = n := by omega
                have hkd := hki.out
                rw [Nat.sub_self] at hkd
                have HKD := Lib.hid hkd.done
                have HSD0 := Lib.hid hsd.out
                have HMD0 := Lib.hid hmd.out
                clear hki hpl hmd hsd hkd hiv
                go_wp2_with fail
                refine (drefkids_any R wr).mono ?_
                rintro e wk ⟨rfl, hbk⟩
                rw [HN.out]
                have HSD := Lib.hid (HSD0.out.later hbk)
                have HML := Lib.hid (made_lies (made_later HMD0.out hbk))
                clear hbk HSD0 HMD0 y0 y1 y2
                obtain ⟨⟨p0, p1, p2, p3, p4⟩, q1, q2⟩ := HSD.out.st.cells
                have HWT := Lib.hid (HSD.out.st.want 2 (by omega))
                go_wp2_with fail
                refine HWT.out.mono ?_
                rintro e w8 ⟨rfl, hs8, hf8⟩
                have hl8 := liesP_fx HML.out hf8
                obtain ⟨al, cl, hvv, -, -⟩ := hl8.out
                rw [List.length_map] at hvv
                subst hvv
                have HS8 := Lib.hid (HSD.out.call hf8 hs8)
                have hsz8 := HS8.out.size
                have hl9 : LiesP (w8.setCell ⟨w5.heap.size, 2, none⟩ (.slice al ps.length cl)) (Own (w5.heap.size + 1) (w8.setCell ⟨w5.heap.size, 2, none⟩ (.slice al ps.length cl))) (ps.map fun p : Tm × Value => p.1) (.slice al ps.length cl) :=
                  hl8.keep (fun b hb _ => Below.heap_setCell _ _ _ _ (by have := hb.1; show b ≠ w5.heap.size; omega)) (fun b hb _ => hb.same (Below.heap_setCell _ _ _ _ (by have := hb.1; show b ≠ w5.heap.size; omega)))
                have HS9 := Lib.hid (HS8.out.put hlo hDR (.slice al ps.length cl))
                obtain ⟨x0, x1, x2⟩ := five_cells HS8.out.box
                obtain ⟨f0, f1, f2⟩ := five_free HS8.out.box
                have HL9 := Lib.hid hl9
                clear hs8 hf8 hl8 hl9 HWT HML p0 p1 p2 p3 p4 q1 q2
                go_upto_region 29 with fail
                obtain ⟨W9, hW9⟩ : ∃ W9, W9 = w8.setCell ⟨w5.heap.size, 2, none⟩ (.slice al ps.length cl) := ⟨_, rfl⟩
                rw [← hW9] at HS9 HL9
                rw [← hW9]
                clear hW9 x0 x1 x2 f0 f1 f2 HS8 HSD
                have HE := Lib.hid (xsd_end (D := w5.heap.size + 1) (x := Tm.mk R nm (ps.map fun p : Tm × Value => p.1)) HS9.out.res HS9.out.st HS9.out.fr hlo (by omega) HL9.out ⟨by unfold I64; show -9223372036854775808 ≤ R ∧ R ≤ 9223372036854775807; omega, by unfold I64; show -9223372036854775808 ≤ nm ∧ nm ≤ 9223372036854775807; omega⟩)
                obtain ⟨x0, x1, x2⟩ := five_cells HS9.out.box
                change W9.cell? ⟨w5.heap.size, 0, none⟩ = some (.int .i64 R) at x0
                change W9.cell? ⟨w5.heap.size, 1, none⟩ = some (.int .i64 nm) at x1
                obtain ⟨z0, z1, z2⟩ := five_cells HS9.out.res
                obtain ⟨g0, g1, g2⟩ := five_free HS9.out.res
                have hz9 := HS9.out.res
                go_wp2
                (try simp only [Exit.inBlock, Exit.then])
                refine bodyPost_ret (results_cell_row rfl _ _ w.heap.size _ _ _ du rfl (five_set hz9) hu1 (by cases du <;> first | rfl | exact hu2) size_term) rfl ?_
                rw [HRR.out, HKD.out]
                exact HE.out
          | false =>
            have hR12 : ¬ (R = 1 ∨ R = 2) := by unfold numberedB at hnb; simpa using hnb
            obtain ⟨nm, hnm⟩ : ∃ nm : Int, nm = 0 := ⟨_, rfl⟩
            have hnmR : 0 ≤ nm ∧ nm ≤ 1000000 := by omega
            obtain ⟨s4, hs4⟩ : ∃ s4, s4 = s3 := ⟨_, rfl⟩
            have HNX := Lib.hid (show numX c.L R s3 = (nm, s4) by unfold numX; rw [if_neg hR12, hnm, hs4])
            have HUQ := Lib.hid (show s3.p ≤ s4.p by rw [hs4]; exact Nat.le_refl _)
            have HI4' := Lib.hid (show InvX c.L s4 by rw [hs4]; exact HI3.out)
            have HSV := HS7
            rw [← hnm, ← hs4] at HSV
            clear hnm hs4 hnb hR12 HS7
            go_upto_region 22 with fail
            clear p0 p1 p2 p3 p4 q1 q2 y0 y1 y2
            obtain ⟨U2, hU2⟩ : ∃ U2, U2 = V := ⟨_, rfl⟩
            rw [← hU2] at HSV
            rw [← hU2]
            clear hU2
            obtain ⟨n, hn⟩ : ∃ n : Nat, dkidsN R = (n : Int) := ⟨(dkidsN R).toNat, by have := dkids_nn (r := R) (by omega); omega⟩
            have hn4 : n ≤ 4 := by have := (dkids_nn (r := R) (by omega)).2; omega
            have HN := Lib.hid hn
            have HRR := Lib.hid (show X = (.mk R nm (kidsX dx (d + 1) n s4).1, (wantX c.L 2 (kidsX dx (d + 1) n s4).2).2) by rw [HRX2.out]; unfold restX; rw [HNX.out]; dsimp only; rw [hn, Int.toNat_natCast])
            have hp4 : s.p + 2 ≤ s4.p := by have := HUQ.out; have := HS3P.out; have := HS2P.out; omega
            clear hn HRX2 HNX HI3
            go_wp2_with fail
            go_loopw [6, 7] (fun kv i wr => ∃ (j : Nat) (q : XS) (ps : List (Tm × Value)) (vv : Value), vv = kv ∧ j ≤ n ∧ i = .int .i64 j ∧ Hid (KXInv dx (d + 1) n s4 (ps.map (·.1)) (n - j) q) ∧ Hid (ps.length = j) ∧ s4.p ≤ q.p ∧ Hid (InvX c.L q) ∧ Hid (Made (w5.heap.size + 1) wr vv ps) ∧ Hid (StandX c w w5.heap.size (.mk R nm []) (.slice none 0 0) q wr)) (fun _ i _ => n - (intOf i).toNat)
            case atStart => exact ⟨0, s4, [], _, rfl, Nat.zero_le _, rfl, KXInv.start _ _ _ _, rfl, Nat.le_refl _, HI4'.out, made_nil _ _, HSV.out⟩
            case round =>
              clear HSV
              obtain ⟨j, q, ps, vv, rfl, hj, rfl, hki, hpl, hup, hiv, hmd, hsd⟩ := hrel
              obtain ⟨y0, y1, y2⟩ := five_cells hsd.out.box
              change wr.cell? ⟨w5.heap.size, 0, none⟩ = some (.int .i64 R) at y0
              have hq1 := hiv.out.p1
              by_cases hlt : j < n
              · have hlt' : (j : Int) < (n : Int) := by omega
                obtain ⟨m, hm⟩ : ∃ m, n - j = m + 1 := ⟨n - j - 1, by omega⟩
                have HKI := Lib.hid (show KXInv dx (d + 1) n s4 (ps.map (·.1)) (m + 1) q by rw [← hm]; exact hki.out)
                have HM := Lib.hid hm
                have HPL := Lib.hid hpl.out
                have HIV := Lib.hid hiv.out
                have HSD0 := Lib.hid hsd.out
                have HMD0 := Lib.hid hmd.out
                clear hki hpl hmd hsd hm hiv
                go_wp2_with fail
                refine (drefkids_any R wr).mono ?_
                rintro e wk ⟨rfl, hbk⟩
                rw [HN.out]
                have HSD := Lib.hid (HSD0.out.later hbk)
                have HMD := Lib.hid (made_later HMD0.out hbk)
                have hdsz := HSD.out.size
                clear hbk HSD0 HMD0 y0 y1 y2
                obtain ⟨t1, s1, hx⟩ : ∃ t1 s1, dx (d + 1) q = (t1, s1) := ⟨_, _, rfl⟩
                have HCALL := Lib.hid (show Calls Try.prog 27 #[.pointer (some ⟨c.P, 0, none⟩), .int .i64 ((d : Int) + 1)] wk (fun e w' => ∃ sv, e = .returned (tv t1 sv) ∧ LiesP w' (Own wk.heap.size w') t1.kids sv ∧ t1.fine ∧ XSt c s1 w' ∧ Fx c wk w') from by
                  rw [show (d : Int) + 1 = ((d + 1 : Nat) : Int) by omega]
                  have h := HL.out.use (d + 1) q wk HIV.out (by omega) (by omega) HSD.out.st
                  rw [hx] at h
                  exact h)
                have HXN := Lib.hid hx
                have HIN := Lib.hid (show InvX c.L s1 by have h := HKP.out (d + 1) q HIV.out; rw [hx] at h; exact h)
                have hupn : q.p ≤ s1.p := by have h := HUP.out (d + 1) q; rw [hx] at h; exact h
                have hwd1 : IntKind.i64.wrap ((d : Int) + 1) = (d : Int) + 1 := IntWalk.i64_in _ (by omega)
                have hwj1 : IntKind.i64.wrap ((j : Int) + 1) = (j : Int) + 1 := IntWalk.i64_in _ (by omega)
                clear hx HIV
                go_wp2_with fail
                refine HCALL.out.mono ?_
                rintro e wn ⟨sv, rfl, hl1, hfi, hs1, hf1⟩
                obtain ⟨a2, cap2, rfl, -, -⟩ := hl1.out
                have HSN := Lib.hid (HSD.out.call hf1 hs1)
                have HMN := Lib.hid (made_fx HMD.out hf1)
                have HM3 := Lib.hid (made_later HMN.out ((Below.refl _ _).alloc (Nat.le_refl _) (.cells #[.int .i64 t1.k, .int .i64 t1.i, .slice a2 t1.kids.length cap2] 25)))
                have hsn := HSN.out.size
                have HFN := Lib.hid hf1
                have HLN := Lib.hid hl1
                have HFI := Lib.hid hfi
                clear hl1 hfi hs1 hf1 HCALL
                go_wp2_with (at_builtin; refine wpList_append_lies _ rfl (.tmp 149) (.tmp 154) 23 rfl (w5.heap.size + 1) 25 i0 _ 3 40 (by kernel_rfl) HIF.out.1 HIF.out.2.1 HIF.out.2.2.1 HIF.out.2.2.2 rfl (by decide) _ ps.length (cells5 ps) rfl HM3.out.own ⟨wn.heap.size, 0, none⟩ 1 1 (cells5 [(t1, .slice a2 t1.kids.length cap2)]) rfl rfl ?news ?one (by decide) ?max ?bytes ?base _ rfl ?next)
                case news => exact news_new _ _ _ _
                case one => intro u hu; simp [cells5] at hu; rcases hu with rfl | rfl | rfl <;> rfl
                case max => have := HPL.out; unfold maxLen; omega
                case bytes => have := HPL.out; omega
                case base => simp; omega
                case next =>
                  intro g cap3 w9 hown hgrow hat _
                  have HPB := Lib.hid (made_push_fx HMD.out hdsz HFN.out HFI.out HLN.out _ hown hgrow (by rcases hat with h | h; exact Or.inl h; exact Or.inr (h.trans (by simp))))
                  have HS9 := Lib.hid ((HSN.out.later ((Below.refl _ _).alloc (Nat.le_refl _) (.cells #[.int .i64 t1.k, .int .i64 t1.i, .slice a2 t1.kids.length cap2] 25))).grow hgrow hlo hDR (made_row HM3.out))
                  clear hown hgrow hat
                  go_wp2_with fail
                  go_roundw
                  case rel => exact ⟨j + 1, s1, ps ++ [(t1, .slice a2 t1.kids.length cap2)], _, rfl, hlt, by go_num, by rw [show n - (j + 1) = m by have := HM.out; omega, List.map_append]; have h := HKI.out.step; rw [HXN.out] at h; exact h, by have := HPL.out; simp [Hid]; omega, by omega, HIN, HPB, HS9⟩
                  case measure => simp [intOf]; omega
              · obtain rfl : j = n := by omega
                have hkd := hki.out
                rw [Nat.sub_self] at hkd
                have HKD := Lib.hid hkd.done
                have HSD0 := Lib.hid hsd.out
                have HMD0 := Lib.hid hmd.out
                clear hki hpl hmd hsd hkd hiv
                go_wp2_with fail
                refine (drefkids_any R wr).mono ?_
                rintro e wk ⟨rfl, hbk⟩
                rw [HN.out]
                have HSD := Lib.hid (HSD0.out.later hbk)
                have HML := Lib.hid (made_lies (made_later HMD0.out hbk))
                clear hbk HSD0 HMD0 y0 y1 y2
                obtain ⟨⟨p0, p1, p2, p3, p4⟩, q1, q2⟩ := HSD.out.st.cells
                have HWT := Lib.hid (HSD.out.st.want 2 (by omega))
                go_wp2_with fail
                refine HWT.out.mono ?_
                rintro e w8 ⟨rfl, hs8, hf8⟩
                have hl8 := liesP_fx HML.out hf8
                obtain ⟨al, cl, hvv, -, -⟩ := hl8.out
                rw [List.length_map] at hvv
                subst hvv
                have HS8 := Lib.hid (HSD.out.call hf8 hs8)
                have hsz8 := HS8.out.size
                have hl9 : LiesP (w8.setCell ⟨w5.heap.size, 2, none⟩ (.slice al ps.length cl)) (Own (w5.heap.size + 1) (w8.setCell ⟨w5.heap.size, 2, none⟩ (.slice al ps.length cl))) (ps.map fun p : Tm × Value => p.1) (.slice al ps.length cl) :=
                  hl8.keep (fun b hb _ => Below.heap_setCell _ _ _ _ (by have := hb.1; show b ≠ w5.heap.size; omega)) (fun b hb _ => hb.same (Below.heap_setCell _ _ _ _ (by have := hb.1; show b ≠ w5.heap.size; omega)))
                have HS9 := Lib.hid (HS8.out.put hlo hDR (.slice al ps.length cl))
                obtain ⟨x0, x1, x2⟩ := five_cells HS8.out.box
                obtain ⟨f0, f1, f2⟩ := five_free HS8.out.box
                have HL9 := Lib.hid hl9
                clear hs8 hf8 hl8 hl9 HWT HML p0 p1 p2 p3 p4 q1 q2
                go_upto_region 29 with fail
                obtain ⟨W9, hW9⟩ : ∃ W9, W9 = w8.setCell ⟨w5.heap.size, 2, none⟩ (.slice al ps.length cl) := ⟨_, rfl⟩
                rw [← hW9] at HS9 HL9
                rw [← hW9]
                clear hW9 x0 x1 x2 f0 f1 f2 HS8 HSD
                have HE := Lib.hid (xsd_end (D := w5.heap.size + 1) (x := Tm.mk R nm (ps.map fun p : Tm × Value => p.1)) HS9.out.res HS9.out.st HS9.out.fr hlo (by omega) HL9.out ⟨by unfold I64; show -9223372036854775808 ≤ R ∧ R ≤ 9223372036854775807; omega, by unfold I64; show -9223372036854775808 ≤ nm ∧ nm ≤ 9223372036854775807; omega⟩)
                obtain ⟨x0, x1, x2⟩ := five_cells HS9.out.box
                change W9.cell? ⟨w5.heap.size, 0, none⟩ = some (.int .i64 R) at x0
                change W9.cell? ⟨w5.heap.size, 1, none⟩ = some (.int .i64 nm) at x1
                obtain ⟨z0, z1, z2⟩ := five_cells HS9.out.res
                obtain ⟨g0, g1, g2⟩ := five_free HS9.out.res
                have hz9 := HS9.out.res
                go_wp2
                (try simp only [Exit.inBlock, Exit.then])
                refine bodyPost_ret (results_cell_row rfl _ _ w.heap.size _ _ _ du rfl (five_set hz9) hu1 (by cases du <;> first | rfl | exact hu2) size_term) rfl ?_
                rw [HRR.out, HKD.out]
                exact HE.out
        exact AllReadyH.nil
theorem rderiv_any (c : PX) (hlen : c.L.length ≤ 1000000) (htl : ∀ t ∈ c.L, t.s.length ≤ 10000000) : ∀ f, DerCX c f (derX c.deep c.nodes c.L f)
  | 0 => ⟨fun d s w hi hf _ _ => by have := hi.p1; omega⟩
  | f + 1 => rderiv_step c f hlen htl (rderiv_any c hlen htl f)
end Go.Proofs.Ytdhfbphliejcdaa.Dv

namespace Go.Proofs.Ytdhfbphliejcdaa.Dv
open Go.RowKit

theorem ptok_of {B : Nat} {w : World} {v : Value} {ts : List Tok} (h : Toks 44 B w v ts) : PTok w ts v := by
  obtain ⟨-, ⟨rfl, hn⟩ | ⟨g, cap, cur, rfl, hg, hh, hnc, hcm, hsz, htk⟩⟩ := h
  · obtain rfl : ts = [] := List.eq_nil_of_length_eq_zero hn
    exact ⟨none, 0, rfl, Nat.le_refl _, by decide, Or.inl rfl⟩
  · exact ⟨_, cap, rfl, hnc, hcm, Or.inr ⟨g, cur, _, rfl, hh, by first | exact htk | simpa using htk⟩⟩
/-- The place of a token, or of what stands behind all of them. -/
def placeV (L : List Tok) (fa : Int) (n p : Nat) : Int := match L[p]? with
  | some t => t.at_
  | none => if 0 ≤ fa then fa else n
theorem place_any (s : ByteArray) (L : List Tok) (v : Value) (fa : Int) (p : Nat) (w : World) (h : PTok w L v) : Calls Try.prog 28 #[.string s, v, .int .i64 fa, .int .i64 p] w fun e w' => e = .returned (.int .i64 (placeV L fa s.size p)) ∧ w' = w := by
  obtain ⟨a, cap, rfl, hc⟩ := h.cell
  have HLN := Lib.hid (show L.length ≤ cap ∧ cap ≤ maxLen by obtain ⟨a', cap', e, h1, h2, -⟩ := h; cases e; exact ⟨h1, h2⟩)
  clear h
  by_cases hlt : p < L.length
  · obtain ⟨g, rfl, -, -, k0⟩ := hc p L[p] (List.getElem?_eq_getElem hlt)
    have hk : placeV L fa s.size p = L[p].at_ := by simp [placeV, List.getElem?_eq_getElem hlt]
    rw [hk]
    generalize L[p].at_ = kk at k0
    clear hc hk
    go_enter Try.func28, Try.ntmps28
    go_wp2
    go_ret
    exact ⟨rfl, rfl⟩
  · have hk : placeV L fa s.size p = if 0 ≤ fa then fa else (s.size : Int) := by simp [placeV, List.getElem?_eq_none (by omega : L.length ≤ p)]
    rw [hk]
    clear hc hk
    by_cases hf : 0 ≤ fa
    · rw [if_pos hf]
      go_enter Try.func28, Try.ntmps28
      go_wp2
      go_ret
      exact ⟨rfl, rfl⟩
    · rw [if_neg hf]
      go_enter Try.func28, Try.ntmps28
      go_wp2
      go_ret
      exact ⟨rfl, rfl⟩
def endO (n : Nat) : Option Nat → Nat
  | none => n
  | some p => p
def fauO : Option Nat → Int
  | none => -1
  | some p => p
theorem fau_facts {L : List Tok} {n : Nat} {o : Option Nat} (hb : ∀ q, o = some q → q < n) (hn : n ≤ 1000000) : (o.isSome = true ↔ 0 ≤ fauO o) ∧ -1 ≤ fauO o ∧ fauO o ≤ 1000000 ∧ ∀ p, placeV L (fauO o) n p = (placeAt L (endO n o) p : Nat) := by
  cases o with
  | none => exact ⟨by simp [fauO], by simp [fauO], by simp [fauO], fun p => by unfold placeV placeAt; cases L[p]? <;> simp [fauO, endO]⟩
  | some q =>
    have := hb q rfl
    exact ⟨by simp [fauO], by simp only [fauO]; omega, by simp only [fauO]; omega, fun p => by unfold placeV placeAt; cases L[p]? <;> simp [fauO, endO]⟩
theorem pg_same (s : List UInt8) (deep nodes : Nat) : FileSame (lexL s 0).1 (endO s.length (lexL s 0).2) (parseB s deep nodes) (pgX s deep nodes) := by
  unfold endO
  exact pgX_same s deep nodes
/-- Where a derivation was read the place went on. -/
theorem derX_adv {deep nodes : Nat} {L : List Tok} : ∀ f d (s : XS), s.bad = none → (derX deep nodes L f d s).2.bad = none → s.p + 1 ≤ (derX deep nodes L f d s).2.p
  | 0, d, s, hb, h => by
    obtain ⟨b, e⟩ := fail_bad (s := s)
    have h' : s.fail.bad = none := h
    rw [e] at h'; cases h'
  | f + 1, d, s, hb, h => by
    unfold derX at h ⊢
    rw [hb] at h ⊢
    dsimp only at h ⊢
    split at h
    · obtain ⟨b, e⟩ := fail_bad (s := s)
      have h' : s.fail.bad = none := h
      rw [e] at h'; cases h'
    · rename_i hk
      rw [if_neg hk]
      split at h
      · cases h
      · rename_i hd
        rw [if_neg hd]
        split at h
        · cases h
        · rename_i hn
          rw [if_neg hn]
          exact ruleX_up (derX_up deep nodes L f) (s := (⟨s.p, none, s.n + 1, s.word⟩ : XS).next)
/-- The contexts, some of them read. -/
structure CXInv (L : List Tok) (dx : DX) (f : Nat) (s0 : XS) (l : List Tm) (m : Nat) (s : XS) : Prop where
  eq : ctxX L dx f s0 = (l ++ (ctxX L dx m s).1, (ctxX L dx m s).2)
  go : s.bad = none → f + s0.p ≤ m + s.p
theorem CXInv.start (L : List Tok) (dx : DX) (f : Nat) (s0 : XS) : CXInv L dx f s0 [] f s0 := ⟨by simp, fun _ => Nat.le_refl _⟩
theorem CXInv.step {L : List Tok} {dx : DX} {f m : Nat} {s0 s : XS} {l : List Tm} (h : CXInv L dx f s0 l (m + 1) s) (hb : s.bad = none) (hk : kindAt L s.p = 1) (ha : (dx 1 s).2.bad = none → s.p + 1 ≤ (dx 1 s).2.p) : CXInv L dx f s0 (l ++ [(dx 1 s).1]) m (dx 1 s).2 :=
  ⟨by rw [h.eq, ctxX, if_pos ⟨hb, hk⟩]; simp, fun e => by have := h.go hb; have := ha e; omega⟩
theorem CXInv.done {L : List Tok} {dx : DX} {f m : Nat} {s0 s : XS} {l : List Tm} (h : CXInv L dx f s0 l m s) (hm : s.bad = none → 1 ≤ m) (hx : ¬ (s.bad = none ∧ kindAt L s.p = 1)) : ctxX L dx f s0 = (l, s) := by
  rw [h.eq]
  cases m with
  | zero =>
    cases hb : s.bad with
    | none => have := hm hb; omega
    | some b => simp [ctxX, XS.fail, hb]
  | succ m => rw [ctxX, if_neg hx]; simp
theorem preX_up (L : List Tok) : 1 ≤ (preX L).p := by
  have h := want_p L 1 (headX L (wantX L 1 startX).2).next
  have e : (headX L (wantX L 1 startX).2).next.p = (headX L (wantX L 1 startX).2).p + 1 := rfl
  unfold preX
  omega
theorem XSt.setbad {c : PX} {s : XS} {w : World} (h : XSt c s w) (q : Nat) : XSt c { s with bad := some q } (w.setCell ⟨c.R, 2, none⟩ (.int .i64 q)) ∧ Fx c w (w.setCell ⟨c.R, 2, none⟩ (.int .i64 q)) :=
  h.reader (s' := { s with bad := some q }) (grown_at ⟨rfl, rfl, rfl, Nat.le_refl _, fun _ _ _ => rfl⟩ 2 _) (by have := h.rd; unfold rrX at this ⊢; exact rr_set this q) rfl rfl
set_option maxRecDepth 20000 in
theorem reffile_results (tmps : Array Value) (w : World) (n : Nat) (v0 v1 v2 v3 u1 u2 u3 : Value) (h8 : tmps.getD 6 undef = .pointer (some ⟨n, 0, none⟩)) (h9 : tmps.getD 7 undef = u1) (h10 : tmps.getD 8 undef = u2) (h11 : tmps.getD 9 undef = u3) (k0 : w.heap[n]? = some (.cells #[v0, v1, v2, v3] 27 (0, 0))) :
    (results Try.f9 tmps).run Try.prog w = .ok (.tuple #[.agg #[v0, v1, v2, v3], u1, u2, u3]) w := by
  have h8' : tmps[6]?.getD undef = .pointer (some ⟨n, 0, none⟩) := by simpa using h8
  have h9' : tmps[7]?.getD undef = u1 := by simpa using h9
  have h10' : tmps[8]?.getD undef = u2 := by simpa using h10
  have h11' : tmps[9]?.getD undef = u3 := by simpa using h11
  obtain ⟨y0, y1, y2, y3⟩ := four_cells k0
  simp [results, Try.results9, h8', h9', h10', h11', asAddr, y0, y1, y2, y3, go_sem]
theorem four_below {B b : Nat} {w w' : World} (h : Below B w w') (hb : B ≤ b) (v0 v1 v2 v3 : Value) : Below B w (four w' b v0 v1 v2 v3) :=
  (((h.setCell (p := ⟨b, 0, none⟩) hb v0).setCell (p := ⟨b, 1, none⟩) hb v1).setCell (p := ⟨b, 2, none⟩) hb v2).setCell (p := ⟨b, 3, none⟩) hb v3
theorem four_other {w : World} {b j : Nat} {v0 v1 v2 v3 : Value} (h : j ≠ b) : (four w b v0 v1 v2 v3).heap[j]? = w.heap[j]? := by
  have hg : w.grownBy (four w b v0 v1 v2 v3) (some b) := (((setD_grown _ _ _ _).trans (setD_grown _ _ _ _)).trans (setD_grown _ _ _ _)).trans (setD_grown _ _ _ _)
  unfold four
  rw [Below.heap_setCell _ _ _ _ (by show j ≠ b; exact h), Below.heap_setCell _ _ _ _ (by show j ≠ b; exact h), Below.heap_setCell _ _ _ _ (by show j ≠ b; exact h), Below.heap_setCell _ _ _ _ (by show j ≠ b; exact h)]
/-- Between the parser's steps: its state; the world is as it was but for its own. -/
structure At (c : PX) (W : World) (s : XS) (w : World) : Prop where
  st : XSt c s w
  fr : Fx c W w
theorem At.call {c : PX} {W w w' : World} {s s' : XS} (h : At c W s w) (hs : XSt c s' w') (hf : Fx c w w') : At c W s' w' := ⟨hs, h.fr.trans hf⟩
theorem At.later {c : PX} {W w w' : World} {s : XS} (h : At c W s w) (hb : Below w.heap.size w w') : At c W s w' := ⟨h.st.later hb, h.fr.trans (Fx.later hb h.st.lo)⟩
theorem At.grow {c : PX} {W w wn : World} {s : XS} (h : At c W s w) {row : Option Nat} (hg : w.grownBy wn row) (hlo : c.B ≤ W.heap.size) (hb : ∀ b, row = some b → W.heap.size ≤ b ∧ ∃ cs fz, w.heap[b]? = some (Obj.cells cs 25 fz)) : At c W s wn :=
  ⟨h.st.other hg (fun b e => ⟨by have := (hb b e).1; omega, by obtain ⟨cs, fz, h2⟩ := (hb b e).2; exact ⟨cs, _, fz, h2, by decide, by decide, by decide⟩⟩), h.fr.row hg (fun b e => (hb b e).1) hlo⟩
/-- The file read, beside the parser. -/
structure EndF (c : PX) (W : World) (D : Nat) (cv : Value) (l : List Tm) (t : Tm) (sv : Value) (s : XS) (w : World) : Prop where
  at_ : At c W s w
  box : w.heap[D]? = some (fileO cv t.k t.i sv)
  lc : LiesP w (Own W.heap.size w) l cv
  lt : LiesP w (Own W.heap.size w) t.kids sv
theorem EndF.call {c : PX} {W w w' : World} {D : Nat} {cv sv : Value} {l : List Tm} {t : Tm} {s s' : XS} (h : EndF c W D cv l t sv s w) (hs : XSt c s' w') (hf : Fx c w w') : EndF c W D cv l t sv s' w' :=
  ⟨h.at_.call hs hf, hf.kept _ _ _ _ h.box (by decide) (by decide), liesP_fx h.lc hf, liesP_fx h.lt hf⟩
theorem lies_four {B : Nat} {w : World} {l : List Tm} {s : Value} {b : Nat} (h : LiesP w (Own B w) l s) (hb : b < B) (v0 v1 v2 v3 : Value) : LiesP (four w b v0 v1 v2 v3) (Own b (four w b v0 v1 v2 v3)) l s :=
  h.keep (fun j hj _ => four_other (by have := hj.1; omega)) (fun j hj _ => (hj.from (by omega)).same (four_other (by have := hj.1; omega)))
theorem At.drew {c : PX} {W w : World} {s : XS} (h : At c W s w) : At c W s w.drew := ⟨h.st.drew, h.fr.drew⟩
def rf20_0 : Oper := { dst := some 112, op := Go.Op.build 27 #[], type := 27, pos := "file.go:84", after := #[], guard := none }
def rf20_1 : Oper := { dst := some 113, op := Go.Op.move (Go.Operand.tmp 10), type := 38, pos := "file.go:84", after := #[{ on := 14, ground := Go.Ground.gcOnly Go.Departure.lateStores }], guard := none }
def rf20_2 : Oper := { dst := some 114, op := Go.Op.move (Go.Operand.tmp 12), type := 60, pos := "file.go:84", after := #[{ on := 14, ground := Go.Ground.gcOnly Go.Departure.lateStores }], guard := none }
def rf20_3 : Oper := { dst := some 115, op := Go.Op.nilCheck (Go.Operand.tmp 114), type := 0, pos := "file.go:84", after := #[{ on := 2, ground := Go.Ground.data }, { on := 14, ground := Go.Ground.gcOnly Go.Departure.lateStores }], guard := none }
def rf20_4 : Oper := { dst := some 116, op := Go.Op.fieldAddr 62 (Go.Operand.tmp 115) 2, type := 0, pos := "file.go:84", after := #[{ on := 3, ground := Go.Ground.data }, { on := 14, ground := Go.Ground.gcOnly Go.Departure.lateStores }], guard := none }
def rf20_5 : Oper := { dst := some 117, op := Go.Op.load 3 (Go.Operand.tmp 116), type := 3, pos := "file.go:84", after := #[{ on := 4, ground := Go.Ground.data }, { on := 14, ground := Go.Ground.gcOnly Go.Departure.lateStores }], guard := none }
def rf20_6 : Oper := { dst := some 118, op := Go.Op.indexAddr 38 (Go.Operand.tmp 113) (Go.Operand.tmp 117), type := 0, pos := "file.go:84", after := #[{ on := 1, ground := Go.Ground.data }, { on := 5, ground := Go.Ground.data }, { on := 14, ground := Go.Ground.gcOnly Go.Departure.lateStores }], guard := none }
def rf20_7 : Oper := { dst := some 119, op := Go.Op.fieldAddr 44 (Go.Operand.tmp 118) 2, type := 0, pos := "file.go:84", after := #[{ on := 6, ground := Go.Ground.data }, { on := 14, ground := Go.Ground.gcOnly Go.Departure.lateStores }], guard := none }
def rf20_8 : Oper := { dst := some 120, op := Go.Op.load 3 (Go.Operand.tmp 119), type := 3, pos := "file.go:84", after := #[{ on := 7, ground := Go.Ground.data }, { on := 14, ground := Go.Ground.gcOnly Go.Departure.lateStores }], guard := none }
def rf20_9 : Oper := { dst := some 121, op := Go.Op.move (Go.Operand.tmp 13), type := 63, pos := "file.go:84", after := #[{ on := 15, ground := Go.Ground.gcOnly Go.Departure.lateStores }], guard := none }
def rf20_10 : Oper := { dst := some 122, op := Go.Op.nilCheck (Go.Operand.tmp 121), type := 0, pos := "file.go:84", after := #[{ on := 9, ground := Go.Ground.data }, { on := 15, ground := Go.Ground.gcOnly Go.Departure.lateStores }], guard := none }
def rf20_11 : Oper := { dst := some 123, op := Go.Op.fieldAddr 65 (Go.Operand.tmp 122) 4, type := 0, pos := "file.go:84", after := #[{ on := 10, ground := Go.Ground.data }, { on := 15, ground := Go.Ground.gcOnly Go.Departure.lateStores }], guard := none }
def rf20_12 : Oper := { dst := some 124, op := Go.Op.load 9 (Go.Operand.tmp 123), type := 9, pos := "file.go:84", after := #[{ on := 11, ground := Go.Ground.data }, { on := 15, ground := Go.Ground.gcOnly Go.Departure.lateStores }], guard := none }
def rf20_13 : Oper := { dst := none, op := Go.Op.store 27 (Go.Operand.tmp 6) (Go.Operand.tmp 112), type := 0, pos := "file.go:84", after := #[{ on := 0, ground := Go.Ground.data }, { on := 0, ground := Go.Ground.phase }, { on := 1, ground := Go.Ground.textOnly Go.Departure.lateStores }, { on := 2, ground := Go.Ground.textOnly Go.Departure.lateStores }, { on := 3, ground := Go.Ground.textOnly Go.Departure.lateStores }, { on := 4, ground := Go.Ground.textOnly Go.Departure.lateStores }, { on := 5, ground := Go.Ground.textOnly Go.Departure.lateStores }, { on := 6, ground := Go.Ground.textOnly Go.Departure.lateStores }, { on := 7, ground := Go.Ground.textOnly Go.Departure.lateStores }, { on := 8, ground := Go.Ground.textOnly Go.Departure.lateStores }, { on := 9, ground := Go.Ground.textOnly Go.Departure.lateStores }, { on := 10, ground := Go.Ground.textOnly Go.Departure.lateStores }, { on := 11, ground := Go.Ground.textOnly Go.Departure.lateStores }, { on := 12, ground := Go.Ground.textOnly Go.Departure.lateStores }], guard := none }
def rf20_14 : Oper := { dst := some 7, op := Go.Op.assign (Go.Operand.const (Go.Value.int Go.IntKind.i64 4)), type := 28, pos := "file.go:84", after := #[{ on := 13, ground := Go.Ground.chain }, { on := 0, ground := Go.Ground.phase }, { on := 1, ground := Go.Ground.textOnly Go.Departure.lateStores }, { on := 2, ground := Go.Ground.textOnly Go.Departure.lateStores }, { on := 3, ground := Go.Ground.textOnly Go.Departure.lateStores }, { on := 4, ground := Go.Ground.textOnly Go.Departure.lateStores }, { on := 5, ground := Go.Ground.textOnly Go.Departure.lateStores }, { on := 6, ground := Go.Ground.textOnly Go.Departure.lateStores }, { on := 7, ground := Go.Ground.textOnly Go.Departure.lateStores }, { on := 8, ground := Go.Ground.textOnly Go.Departure.lateStores }, { on := 9, ground := Go.Ground.textOnly Go.Departure.lateStores }, { on := 10, ground := Go.Ground.textOnly Go.Departure.lateStores }, { on := 11, ground := Go.Ground.textOnly Go.Departure.lateStores }, { on := 12, ground := Go.Ground.textOnly Go.Departure.lateStores }, { on := 13, ground := Go.Ground.phase }], guard := none }
def rf20_15 : Oper := { dst := some 8, op := Go.Op.assign (Go.Operand.tmp 120), type := 3, pos := "file.go:84", after := #[{ on := 8, ground := Go.Ground.data }, { on := 14, ground := Go.Ground.chain }, { on := 0, ground := Go.Ground.phase }, { on := 1, ground := Go.Ground.phase }, { on := 2, ground := Go.Ground.phase }, { on := 3, ground := Go.Ground.phase }, { on := 4, ground := Go.Ground.phase }, { on := 5, ground := Go.Ground.phase }, { on := 6, ground := Go.Ground.phase }, { on := 7, ground := Go.Ground.phase }, { on := 8, ground := Go.Ground.phase }, { on := 9, ground := Go.Ground.textOnly Go.Departure.lateStores }, { on := 10, ground := Go.Ground.textOnly Go.Departure.lateStores }, { on := 11, ground := Go.Ground.textOnly Go.Departure.lateStores }, { on := 12, ground := Go.Ground.textOnly Go.Departure.lateStores }, { on := 13, ground := Go.Ground.phase }, { on := 14, ground := Go.Ground.phase }], guard := none }
def rf20_16 : Oper := { dst := some 9, op := Go.Op.assign (Go.Operand.tmp 124), type := 9, pos := "file.go:84", after := #[{ on := 12, ground := Go.Ground.data }, { on := 15, ground := Go.Ground.chain }, { on := 0, ground := Go.Ground.phase }, { on := 1, ground := Go.Ground.phase }, { on := 2, ground := Go.Ground.phase }, { on := 3, ground := Go.Ground.phase }, { on := 4, ground := Go.Ground.phase }, { on := 5, ground := Go.Ground.phase }, { on := 6, ground := Go.Ground.phase }, { on := 7, ground := Go.Ground.phase }, { on := 8, ground := Go.Ground.phase }, { on := 9, ground := Go.Ground.phase }, { on := 10, ground := Go.Ground.phase }, { on := 11, ground := Go.Ground.phase }, { on := 12, ground := Go.Ground.phase }, { on := 13, ground := Go.Ground.phase }, { on := 14, ground := Go.Ground.phase }, { on := 15, ground := Go.Ground.phase }], guard := none }
set_option maxHeartbeats 8000000 in
set_option maxRecDepth 20000 in
theorem refparse_any (s : ByteArray) (deep nodes : Nat) (w : World) (hs : s.size ≤ 1000000) : Calls Try.prog 9 #[.string s, .float .f64 deep, .float .f64 nodes] w (ParseG w (parseB s.data.toList deep nodes)) := by
  obtain ⟨df, hu1, hu2⟩ := under_file
  obtain ⟨i0, hi0, hz0, hz1, hz2⟩ := info_parts info_term
  have HIF := Lib.hid (And.intro hi0 (And.intro hz0 (And.intro hz1 hz2)))
  have hls : s.data.toList.length = s.size := by simp
  have HBD := Lib.hid (lexL_bound (l := s.data.toList) s.data.toList.length 0 (by omega))
  obtain ⟨XP, hXP⟩ : ∃ XP, parseB s.data.toList deep nodes = XP := ⟨_, rfl⟩
  obtain ⟨Y, hY⟩ : ∃ Y, pgX s.data.toList deep nodes = Y := ⟨_, rfl⟩
  have HSM := pg_same s.data.toList deep nodes
  have HPW := pgX_word s.data.toList deep nodes
  rw [hXP, hY] at HSM
  rw [hY] at HPW
  rw [hXP]
  unfold pgX at hY
  obtain ⟨L, o, hR⟩ : ∃ L o, lexL s.data.toList 0 = (L, o) := ⟨_, _, rfl⟩
  rw [hR] at HSM HPW hY HBD
  dsimp only at HSM HPW hY HBD
  have HFA := Lib.hid (fau_facts (L := L) (n := s.data.toList.length) HBD.out.1 (by omega))
  have HLL := Lib.hid (show L.length ≤ 1000000 ∧ (∀ t ∈ L, t.s.length ≤ 10000000) from by
    have hb := HBD.out
    exact ⟨by have := hb.2.2; omega, fun t ht => by have := (hb.2.1 t ht).1; omega⟩)
  have HE := Lib.hid HSM
  have HW := Lib.hid HPW
  have HYE := Lib.hid hY
  have HR := Lib.hid hR
  have hsz : s.size ≤ 1000000 := hs
  clear hi0 hz0 hz1 hz2 HSM HPW hY hR hXP HBD
  go_enter Try.func9, Try.ntmps9
  go_wp2_with fail
  refine (plex_any s _ hs).mono ?_
  intro e w1 hg
  rw [HR.out] at hg
  obtain ⟨hb1, v, htk, rfl⟩ := (show Below (w.alloc (fileO (.slice none 0 0) 0 0 (.slice none 0 0))).heap.size (w.alloc (fileO (.slice none 0 0) 0 0 (.slice none 0 0))) w1 ∧ ∃ v, Toks 44 (w.alloc (fileO (.slice none 0 0) 0 0 (.slice none 0 0))).heap.size w1 v L ∧ e = .returned (.tuple #[v, .int .i64 (fauO o)]) from hg)
  obtain ⟨fa, hfa⟩ : ∃ fa, fauO o = fa := ⟨_, rfl⟩
  rw [hfa] at HFA
  rw [hfa]
  have hpt := ptok_of htk
  obtain ⟨a, cap, hv, hlc, hcm, -⟩ := id hpt
  have HB1 := Lib.hid (((Below.refl w.heap.size w).alloc (Nat.le_refl _) (fileO (.slice none 0 0) 0 0 (.slice none 0 0))).trans (hb1.mono (by simp)))
  have HF1 := Lib.hid (show w1.heap[w.heap.size]? = some (fileO (.slice none 0 0) 0 0 (.slice none 0 0)) from (hb1.block _ (by simp)).trans (alloc_new _ _))
  have hs1 : w.heap.size < w1.heap.size := by have := hb1.size; simp at this; omega
  have HPT := Lib.hid hpt
  clear hb1 htk hfa hpt
  subst hv
  go_upto_region 4 with fail
  obtain ⟨c, hcR, hcP, hcv, hcL, hcd, hcn, hcB⟩ : ∃ c : PX, c.R = w1.heap.size ∧ c.P = w1.heap.size + 1 ∧ c.v = .slice a L.length cap ∧ c.L = L ∧ c.deep = deep ∧ c.nodes = nodes ∧ c.B = w1.heap.size := ⟨⟨_, _, _, _, _, _, _⟩, rfl, rfl, rfl, rfl, rfl, rfl, rfl⟩
  have hST : XSt c startX ((w1.alloc (.cells #[.slice a L.length cap, .int .i64 0, .int .i64 (-1), .int .i64 0, .int .i64 0, .slice none 0 0] 62)).alloc (.cells #[.pointer (some ⟨w1.heap.size, 0, none⟩), .float .f64 deep, .float .f64 nodes, .int .i64 0, .string ⟨#[]⟩] 65)) := by
    have hb1 := (Below.refl w1.heap.size w1).alloc (Nat.le_refl _) (.cells #[.slice a L.length cap, .int .i64 0, .int .i64 (-1), .int .i64 0, .int .i64 0, .slice none 0 0] 62)
    have hb2 := (Below.refl (w1.alloc (.cells #[.slice a L.length cap, .int .i64 0, .int .i64 (-1), .int .i64 0, .int .i64 0, .slice none 0 0] 62)).heap.size (w1.alloc (.cells #[.slice a L.length cap, .int .i64 0, .int .i64 (-1), .int .i64 0, .int .i64 0, .slice none 0 0] 62))).alloc (Nat.le_refl _) (.cells #[.pointer (some ⟨w1.heap.size, 0, none⟩), .float .f64 deep, .float .f64 nodes, .int .i64 0, .string ⟨#[]⟩] 65)
    refine ⟨by omega, by omega, by rw [hcB]; simp; omega, ?_, ?_, ?_⟩
    · rw [hcR, hcv]; exact (hb2.block _ (by simp)).trans (alloc_new _ _)
    · have h := alloc_new (w1.alloc (.cells #[.slice a L.length cap, .int .i64 0, .int .i64 (-1), .int .i64 0, .int .i64 0, .slice none 0 0] 62)) (.cells #[.pointer (some ⟨w1.heap.size, 0, none⟩), .float .f64 deep, .float .f64 nodes, .int .i64 0, .string ⟨#[]⟩] 65)
      rw [World.size_alloc] at h
      rw [hcP, h]
      unfold prO
      rw [hcR, hcd, hcn]
      rfl
    · rw [hcL, hcv]
      exact HPT.out.keep fun g cs fz e => ((hb1.trans (hb2.mono hb1.size)).block _ (hltD e)).trans e
  have hBW : Below w.heap.size w ((w1.alloc (.cells #[.slice a L.length cap, .int .i64 0, .int .i64 (-1), .int .i64 0, .int .i64 0, .slice none 0 0] 62)).alloc (.cells #[.pointer (some ⟨w1.heap.size, 0, none⟩), .float .f64 deep, .float .f64 nodes, .int .i64 0, .string ⟨#[]⟩] 65)) := (HB1.out.alloc (by omega) _).alloc (by simp; omega) _
  have hFW : ((w1.alloc (.cells #[.slice a L.length cap, .int .i64 0, .int .i64 (-1), .int .i64 0, .int .i64 0, .slice none 0 0] 62)).alloc (.cells #[.pointer (some ⟨w1.heap.size, 0, none⟩), .float .f64 deep, .float .f64 nodes, .int .i64 0, .string ⟨#[]⟩] 65)).heap[w.heap.size]? = some (fileO (.slice none 0 0) 0 0 (.slice none 0 0)) := by
    rw [Lib.alloc_old _ _ _ (by simp; omega), Lib.alloc_old _ _ _ hs1]; exact HF1.out
  obtain ⟨W, hW⟩ : ∃ W, W = (w1.alloc (.cells #[.slice a L.length cap, .int .i64 0, .int .i64 (-1), .int .i64 0, .int .i64 0, .slice none 0 0] 62)).alloc (.cells #[.pointer (some ⟨w1.heap.size, 0, none⟩), .float .f64 deep, .float .f64 nodes, .int .i64 0, .string ⟨#[]⟩] 65) := ⟨_, rfl⟩
  rw [← hW] at hST hBW hFW
  rw [← hW]
  have hBc : w.heap.size < c.B := by omega
  have HST0 := Lib.hid (show c.B ≤ W.heap.size from hST.lo)
  rw [← hcP, ← hcR]
  subst hcL hcd hcn
  have HBW := Lib.hid hBW
  have HFW := Lib.hid hFW
  have HST := Lib.hid (At.mk hST (Fx.refl c W))
  have HCV := Lib.hid hcv
  clear hW hcR hcP hcB hST hBW hFW HB1 HF1 HPT hs1 hcv
  have hL := HLL.out.1
  have HDX := Lib.hid (rderiv_any c HLL.out.1 HLL.out.2 (c.L.length + 1))
  have HUP := Lib.hid (derX_up c.deep c.nodes c.L (c.L.length + 1))
  have HKP := Lib.hid (derX_keep (deep := c.deep) (nodes := c.nodes) (L := c.L) (c.L.length + 1))
  have HAD := Lib.hid (derX_adv (deep := c.deep) (nodes := c.nodes) (L := c.L) (c.L.length + 1))
  obtain ⟨dx, hdx⟩ : ∃ dx, derX c.deep c.nodes c.L (c.L.length + 1) = dx := ⟨_, rfl⟩
  unfold fileX at HYE
  rw [hdx] at HYE HDX HUP HKP HAD
  clear hdx
  -- the first bracket
  go_cut [30] (fun s30 wx => ∃ v, s30 = .string v ∧ Hid (At c W (wantX c.L 1 startX).2 wx))
  case first =>
    go_wp2_with fail
    refine (HST.out.st.want 1 (by decide)).mono ?_
    rintro e w2 ⟨rfl, hs2, hf2⟩
    have h2 := Lib.hid (HST.out.call hs2 hf2)
    go_wp2_with fail
    go_meet
    case rel => exact ⟨_, rfl, h2⟩
  case rest =>
  obtain ⟨v30, rfl, hcut⟩ := hcut
  have HS1 := hcut
  have HP1 := Lib.hid (show (wantX c.L 1 startX).2.p ≤ 1 by
    unfold wantX startX
    simp only
    split
    · exact Nat.le_refl _
    · simp [XS.fail])
  clear HST hcut
  obtain ⟨s1, hs1⟩ : ∃ s1, (wantX c.L 1 startX).2 = s1 := ⟨_, rfl⟩
  have HPRE := Lib.hid (show preX c.L = (wantX c.L 1 (headX c.L s1).next).2 by unfold preX; rw [hs1])
  rw [hs1] at HS1 HP1
  clear hs1
  go_step
  go_step
  -- the word
  go_cut [43] (fun s43 wx => ∃ b, s43 = .bool b ∧ Hid (At c W (headX c.L s1) wx))
  case first =>
    have HSP := Lib.hid HS1.out.st.stop
    cases hb : s1.bad with
    | some b =>
      have HX := Lib.hid (show headX c.L s1 = s1 by unfold headX; rw [if_neg (by rw [hb]; simp)])
      rw [hb] at HSP
      go_wp2_with fail
      refine HSP.out.mono ?_
      rintro e w2 ⟨rfl, rfl⟩
      go_wp2_with fail
      go_meet
      case rel => exact ⟨_, rfl, by rw [HX.out]; exact HS1⟩
    | none =>
      rw [hb] at HSP
      go_wp2_with fail
      refine HSP.out.mono ?_
      rintro e w2 ⟨rfl, hw2⟩
      obtain rfl := hw2.symm
      go_wp2_with fail
      refine HS1.out.st.kind.mono ?_
      rintro e w3 ⟨rfl, hs3, hf3⟩
      have HS3 := Lib.hid (HS1.out.call hs3 hf3)
      clear hs3 hf3 HSP
      obtain ⟨⟨p0, p1, p2, p3, p4⟩, q1, q2⟩ := HS3.out.st.cells
      by_cases hk : kindAt c.L s1.p = 3
      · have hki : ((kindAt c.L s1.p : Nat) : Int) = 3 := by omega
        go_wp2_with fail
        refine HS3.out.st.word.mono ?_
        rintro e w4 ⟨rfl, hs4, hf4⟩
        have HS4 := Lib.hid (HS3.out.call hs4 hf4)
        clear hs4 hf4 p0 p1 p2 p3 p4 q1 q2
        obtain ⟨⟨p0, p1, p2, p3, p4⟩, q1, q2⟩ := HS4.out.st.cells
        by_cases hw : wordAt c.L s1.p = fileW
        · have HX := Lib.hid (show headX c.L s1 = s1 by unfold headX; rw [if_neg (by rintro ⟨-, h⟩; exact h ⟨hk, hw⟩)])
          rw [hw]
          go_wp2_with fail
          go_meet
          case rel => exact ⟨_, rfl, by rw [HX.out]; exact HS4⟩
        · have HX := Lib.hid (show headX c.L s1 = s1.fail by unfold headX; rw [if_pos ⟨hb, fun h => hw h.2⟩])
          obtain ⟨bw, hbw⟩ : ∃ bw : List UInt8, wordAt c.L s1.p = bw := ⟨_, rfl⟩
          rw [hbw] at hw
          rw [hbw]
          have hwb : (bw == [102, 105, 108, 101]) = false := by simpa [fileW] using hw
          have HFL := Lib.hid HS4.out.st.failed
          clear hw hbw
          go_wp2_with fail
          refine HFL.out.mono ?_
          rintro e w5 ⟨rfl, hs5, hf5⟩
          have HS5 := Lib.hid (HS4.out.call hs5 hf5)
          go_wp2_with fail
          go_meet
          case rel => exact ⟨_, rfl, by rw [HX.out]; exact HS5⟩
      · have hki : ¬ ((kindAt c.L s1.p : Nat) : Int) = 3 := by omega
        have HX := Lib.hid (show headX c.L s1 = s1.fail by unfold headX; rw [if_pos ⟨hb, fun h => hk h.1⟩])
        have HFL := Lib.hid HS3.out.st.failed
        go_wp2_with fail
        refine HFL.out.mono ?_
        rintro e w5 ⟨rfl, hs5, hf5⟩
        have HS5 := Lib.hid (HS3.out.call hs5 hf5)
        go_wp2_with fail
        go_meet
        case rel => exact ⟨_, rfl, by rw [HX.out]; exact HS5⟩
  case rest =>
  obtain ⟨b43, rfl, hcut⟩ := hcut
  have HS2 := hcut
  have hpx : (headX c.L s1).p ≤ 1 := by
    unfold headX
    have := HP1.out
    split
    · rw [fail_p]; exact this
    · exact this
  have HPX := Lib.hid hpx
  clear HS1 hcut HP1 hpx
  obtain ⟨s2, hs2⟩ : ∃ s2, headX c.L s1 = s2 := ⟨_, rfl⟩
  rw [hs2] at HS2 HPRE HPX
  clear hs2
  obtain ⟨⟨p0, p1, p2, p3, p4⟩, q1, q2⟩ := HS2.out.st.cells
  have f1 := HS2.out.st.free.2 1
  have hw1 : IntKind.i64.wrap ((s2.p : Int) + 1) = (s2.p : Int) + 1 := by have := HPX.out; exact IntWalk.i64_in _ (by omega)
  have hs3 : At c W s2.next (wc.setCell ⟨c.R, 1, none⟩ (.int .i64 ((s2.p : Int) + 1))) := HS2.out.call (HS2.out.st.step (s2.p + 1)).1 (HS2.out.st.step (s2.p + 1)).2
  have HS3 := Lib.hid hs3
  have HP3 := Lib.hid (show s2.next.p ≤ 1000000000 by have := HPX.out; show s2.p + 1 ≤ _; omega)
  obtain ⟨s3, hs3e⟩ : ∃ s3, s2.next = s3 := ⟨_, rfl⟩
  rw [hs3e] at HS3 HPRE HP3
  clear hs3 hs3e
  go_upto_region 8 with fail
  obtain ⟨V, hV⟩ : ∃ V, V = wc.setCell ⟨c.R, 1, none⟩ (.int .i64 ((s2.p : Int) + 1)) := ⟨_, rfl⟩
  rw [← hV] at HS3
  rw [← hV]
  clear hV p0 p1 p2 p3 p4 q1 q2 f1 HS2 HPX
  have HWT := Lib.hid (HS3.out.st.want 1 HP3.out)
  rw [← HPRE.out] at HWT
  have HUX := Lib.hid (preX_up c.L)
  have HKX := Lib.hid (preX_keep c.L)
  go_wp2_with fail
  refine HWT.out.mono ?_
  rintro e w4 ⟨rfl, hs4, hf4⟩
  have HS4 := Lib.hid (HS3.out.call hs4 hf4)
  clear hs4 hf4 HWT HS3 HP3
  obtain ⟨sp, hsp⟩ : ∃ sp, preX c.L = sp := ⟨_, rfl⟩
  rw [hsp] at HS4 HUX HKX HYE
  clear hsp HPRE
  go_upto_block 0 with fail
  have hBW : c.B ≤ W.heap.size := by have := HS4.out.fr.size; have := HST0.out; omega
  go_cut [14] (fun s14 wx => ∃ (q : XS) (ps : List (Tm × Value)) (vv : Value), s14 = vv ∧ Hid (ctxX c.L dx (c.L.length + 1) sp = (ps.map (·.1), q) ∧ InvX c.L q ∧ sp.p ≤ q.p ∧ Made W.heap.size wx vv ps ∧ At c W q wx))
  case first =>
    go_wp2_with fail
    go_loopg [14] (c.L.length + 1) (fun m kv wr => ∃ (q : XS) (ps : List (Tm × Value)) (vv : Value), vv = kv ∧ Hid (CXInv c.L dx (c.L.length + 1) sp (ps.map (·.1)) m q) ∧ Hid (ps.length + m = c.L.length + 1) ∧ Hid (sp.p ≤ q.p) ∧ Hid (InvX c.L q) ∧ Hid (Made W.heap.size wr vv ps) ∧ Hid (At c W q wr))
    case atStart => exact ⟨sp, [], _, rfl, CXInv.start _ _ _ _, by simp [Hid], Nat.le_refl _, HKX.out, made_nil _ _, HS4.out⟩
    case round =>
      clear HS4
      obtain ⟨q, ps, vv, rfl, hci, hpl, hup, hiv, hmd, hat⟩ := hrel
      have HCI := Lib.hid hci.out
      have HPL := Lib.hid hpl.out
      have HUQ := Lib.hid hup.out
      have HIV := Lib.hid hiv.out
      have HMD := Lib.hid hmd.out
      have HAT := Lib.hid hat.out
      have HSP := Lib.hid hat.out.st.stop
      have HM1 := Lib.hid (show q.bad = none → 1 ≤ gk from fun hb => by have := hci.out.go hb; have := hiv.out.p1; have := HUX.out; omega)
      have hq1 : q.p ≤ c.L.length + 1 := hiv.out.p1
      clear hci hpl hup hiv hmd hat
      by_cases hgo : q.bad = none ∧ kindAt c.L q.p = 1
      · obtain ⟨hb, hk⟩ := hgo
        obtain ⟨m, hm⟩ : ∃ m, gk = m + 1 := ⟨gk - 1, by have := HM1.out hb; omega⟩
        subst hm
        rw [hb] at HSP
        have hki : ((kindAt c.L q.p : Nat) : Int) = 1 := by omega
        have HBK := Lib.hid (And.intro hb hk)
        clear hb hk
        go_wp2_with fail
        refine HSP.out.mono ?_
        rintro e w2 ⟨rfl, hw2⟩
        obtain rfl := hw2.symm
        go_wp2_with fail
        refine HAT.out.st.kind.mono ?_
        rintro e wk ⟨rfl, hsk, hfk⟩
        have HATK := Lib.hid (HAT.out.call hsk hfk)
        have HMDK := Lib.hid (made_fx HMD.out hfk)
        have hszk : W.heap.size ≤ wk.heap.size := HATK.out.fr.size
        clear hsk hfk HSP
        obtain ⟨t1, s1', hx⟩ : ∃ t1 s1', dx 1 q = (t1, s1') := ⟨_, _, rfl⟩
        have HCALL := Lib.hid (show Calls Try.prog 27 #[.pointer (some ⟨c.P, 0, none⟩), .int .i64 1] wk (fun e w' => ∃ sv, e = .returned (tv t1 sv) ∧ LiesP w' (Own wk.heap.size w') t1.kids sv ∧ t1.fine ∧ XSt c s1' w' ∧ Fx c wk w') from by
          have h := HDX.out.use 1 q wk HIV.out (by have := HUX.out; have := HUQ.out; omega) (by omega) HATK.out.st
          rw [hx] at h
          exact h)
        have HXN := Lib.hid hx
        have HIN := Lib.hid (show InvX c.L s1' by have h := HKP.out 1 q HIV.out; rw [hx] at h; exact h)
        have HUN := Lib.hid (show sp.p ≤ s1'.p by have h := HUP.out 1 q; rw [hx] at h; have := HUQ.out; have h' : q.p ≤ s1'.p := h; omega)
        have HCN := Lib.hid (show CXInv c.L dx (c.L.length + 1) sp (ps.map (·.1) ++ [t1]) m s1' by
          have h := HCI.out.step HBK.out.1 HBK.out.2 (HAD.out 1 q HBK.out.1)
          rw [hx] at h
          exact h)
        clear hx HIV HCI HUQ HM1
        go_wp2_with fail
        refine HCALL.out.mono ?_
        rintro e wn ⟨sv, rfl, hl1, hfi, hs1, hf1⟩
        obtain ⟨a2, cap2, rfl, -, -⟩ := hl1.out
        have HSN := Lib.hid (HATK.out.call hs1 hf1)
        have HM3 := Lib.hid (made_later (made_fx HMDK.out hf1) ((Below.refl _ _).alloc (Nat.le_refl _) (.cells #[.int .i64 t1.k, .int .i64 t1.i, .slice a2 t1.kids.length cap2] 25)))
        have HFN := Lib.hid hf1
        have HLN := Lib.hid hl1
        have HFI := Lib.hid hfi
        have hwn := hf1.size
        clear hl1 hfi hs1 hf1 HCALL HATK
        go_wp2_with (at_builtin; refine wpList_append_lies _ rfl (.tmp 67) (.tmp 70) 23 rfl W.heap.size 25 i0 _ 3 40 (by kernel_rfl) HIF.out.1 HIF.out.2.1 HIF.out.2.2.1 HIF.out.2.2.2 rfl (by decide) _ ps.length (cells5 ps) rfl HM3.out.own ⟨wn.heap.size, 0, none⟩ 1 1 (cells5 [(t1, .slice a2 t1.kids.length cap2)]) rfl rfl ?news ?one (by decide) ?max ?bytes ?base _ rfl ?next)
        case news => exact news_new _ _ _ _
        case one => intro u hu; simp [cells5] at hu; rcases hu with rfl | rfl | rfl <;> rfl
        case max => have := HPL.out; unfold maxLen; omega
        case bytes => have := HPL.out; omega
        case base => simp; omega
        case next =>
          intro g cap3 w9 hown hgrow hat _
          have HPB := Lib.hid (made_push_fx HMDK.out hszk HFN.out HFI.out HLN.out _ hown hgrow (by rcases hat with h | h; exact Or.inl h; exact Or.inr (h.trans (by simp))))
          have HS9 := Lib.hid ((HSN.out.later ((Below.refl _ _).alloc (Nat.le_refl _) (.cells #[.int .i64 t1.k, .int .i64 t1.i, .slice a2 t1.kids.length cap2] 25))).grow hgrow hBW (made_row HM3.out))
          clear hown hgrow hat
          go_wp2_with fail
          go_roundg m
          case measure => omega
          case rel => exact ⟨s1', ps ++ [(t1, .slice a2 t1.kids.length cap2)], _, rfl, by rw [List.map_append]; exact HCN, by have := HPL.out; simp [Hid]; omega, HUN, HIN, HPB, HS9⟩
      · have HDN := Lib.hid (HCI.out.done HM1.out hgo)
        have HGO := Lib.hid hgo
        cases hb : q.bad with
        | some b =>
          rw [hb] at HSP
          go_wp2_with fail
          refine HSP.out.mono ?_
          rintro e w2 ⟨rfl, rfl⟩
          go_wp2_with fail
          go_meet
          case rel => exact ⟨q, ps, _, rfl, HDN.out, HIV.out, HUQ.out, HMD.out, HAT.out⟩
        | none =>
          have hk : ¬ ((kindAt c.L q.p : Nat) : Int) = 1 := fun h => HGO.out ⟨hb, by omega⟩
          rw [hb] at HSP
          go_wp2_with fail
          refine HSP.out.mono ?_
          rintro e w2 ⟨rfl, hw2⟩
          obtain rfl := hw2.symm
          go_wp2_with fail
          refine HAT.out.st.kind.mono ?_
          rintro e wk ⟨rfl, hsk, hfk⟩
          have HATK := Lib.hid (HAT.out.call hsk hfk)
          have HMDK := Lib.hid (made_fx HMD.out hfk)
          go_wp2_with fail
          go_meet
          case rel => exact ⟨q, ps, _, rfl, HDN.out, HIV.out, HUQ.out, HMDK.out, HATK.out⟩
  case rest =>
  obtain ⟨q, ps, vv, rfl, hcut⟩ := hcut
  obtain ⟨hce, hiv, hup, hmd, hat⟩ := hcut.out
  have HCE := Lib.hid hce
  have HAT := Lib.hid hat
  have hml := made_lies hmd
  obtain ⟨al, cl, hvv, -, -⟩ := hml.out
  rw [List.length_map] at hvv
  subst hvv
  have HML := Lib.hid hml
  have hq1 := hiv.p1
  have HIV := Lib.hid (hiv.want (k := 2) (by decide))
  have HUQ := Lib.hid (Nat.le_trans hup (want_p c.L 2 q))
  have HWT := Lib.hid (hat.st.want 2 (by omega))
  obtain ⟨l, hl⟩ : ∃ l, ps.map (·.1) = l := ⟨_, rfl⟩
  obtain ⟨n, hn⟩ : ∃ n, ps.length = n := ⟨_, rfl⟩
  rw [hl] at HCE HML
  rw [hn] at HML
  rw [hn]
  clear hcut hce hat hmd hml hiv hup HS4 hl hn
  obtain ⟨s5, hs5⟩ : ∃ s5, (wantX c.L 2 q).2 = s5 := ⟨_, rfl⟩
  rw [hs5] at HWT HIV HUQ
  have HS5 := Lib.hid hs5
  clear hs5
  go_wp2_with fail
  refine HWT.out.mono ?_
  rintro e w5 ⟨rfl, hs5, hf5⟩
  have HA5 := Lib.hid (HAT.out.call hs5 hf5)
  have HM5 := Lib.hid (liesP_fx HML.out hf5)
  clear hs5 hf5 HWT HAT HML
  obtain ⟨t, s6, hx⟩ : ∃ t s6, dx 1 s5 = (t, s6) := ⟨_, _, rfl⟩
  have HCALL := Lib.hid (show Calls Try.prog 27 #[.pointer (some ⟨c.P, 0, none⟩), .int .i64 1] w5 (fun e w' => ∃ sv, e = .returned (tv t sv) ∧ LiesP w' (Own w5.heap.size w') t.kids sv ∧ t.fine ∧ XSt c s6 w' ∧ Fx c w5 w') from by
    have h := HDX.out.use 1 s5 w5 HIV.out (by have := HUX.out; have := HUQ.out; omega) (by omega) HA5.out.st
    rw [hx] at h
    exact h)
  have HX6 := Lib.hid hx
  have HI6 := Lib.hid (show InvX c.L s6 by have h := HKP.out 1 s5 HIV.out; rw [hx] at h; exact h)
  clear hx HIV HUQ
  go_wp2_with fail
  refine HCALL.out.mono ?_
  rintro e w6 ⟨sv, rfl, hl1, hfi, hs6, hf6⟩
  obtain ⟨a2, cap2, rfl, -, -⟩ := hl1.out
  have HFI := Lib.hid hfi
  have HA6 := Lib.hid (HA5.out.call hs6 hf6)
  have h56 : W.heap.size ≤ w5.heap.size := HA5.out.fr.size
  have hbF := (Below.refl w6.heap.size w6).alloc (Nat.le_refl _) (fileO (.slice al n cl) t.k t.i (.slice a2 t.kids.length cap2))
  have HEF := Lib.hid (show EndF c W w6.heap.size (.slice al n cl) l t (.slice a2 t.kids.length cap2) s6 (w6.alloc (fileO (.slice al n cl) t.k t.i (.slice a2 t.kids.length cap2))) from
    ⟨HA6.out.later hbF, alloc_new _ _, liesP_fx (liesP_fx HM5.out hf6) (Fx.later hbF hs6.lo), liesP_fx (hl1.from h56) (Fx.later hbF hs6.lo)⟩)
  clear hl1 hfi hs6 hf6 HCALL HA5 HM5 HA6 hbF
  go_upto_region 14 with fail
  obtain ⟨V, hV⟩ : ∃ V, V = w6.alloc (fileO (.slice al n cl) t.k t.i (.slice a2 t.kids.length cap2)) := ⟨_, rfl⟩
  rw [← hV] at HEF
  rw [← hV]
  clear hV
  have HWT := Lib.hid (HEF.out.at_.st.want 2 (by have := HI6.out.p1; omega))
  go_cut [79] (fun s79 wx => ∃ v, s79 = .string v ∧ Hid (EndF c W w6.heap.size (.slice al n cl) l t (.slice a2 t.kids.length cap2) (wantX c.L 2 s6).2 wx))
  case first =>
    go_wp2_with fail
    refine HWT.out.mono ?_
    rintro e w7 ⟨rfl, hs7, hf7⟩
    have h7 := Lib.hid (HEF.out.call hs7 hf7)
    go_wp2_with fail
    go_meet
    case rel => exact ⟨_, rfl, h7⟩
  case rest =>
  obtain ⟨v79, rfl, hcut⟩ := hcut
  have HS7 := hcut
  clear HEF hcut HWT
  have HI7 := Lib.hid (HI6.out.want (k := 2) (by decide))
  obtain ⟨s7, hs7⟩ : ∃ s7, (wantX c.L 2 s6).2 = s7 := ⟨_, rfl⟩
  rw [hs7] at HS7 HI7
  have HYF := Lib.hid (show Y = ((l, t), endX c.L o.isSome s7) from by
    rw [← HYE.out]
    rw [HCE.out]
    (try dsimp only)
    rw [HS5.out, HX6.out]
    (try dsimp only)
    rw [hs7])
  clear hs7 HYE HCE HS5 HX6 HI6
  go_step
  go_step
  go_cut [95] (fun s95 wx => ∃ b, s95 = .bool b ∧ Hid (EndF c W w6.heap.size (.slice al n cl) l t (.slice a2 t.kids.length cap2) (endX c.L o.isSome s7) wx))
  case first =>
    have HSP := Lib.hid HS7.out.at_.st.stop
    cases hb : s7.bad with
    | some b =>
      have HX := Lib.hid (show endX c.L o.isSome s7 = s7 from endX_bad hb)
      rw [hb] at HSP
      go_wp2_with fail
      refine HSP.out.mono ?_
      rintro e w8 ⟨rfl, rfl⟩
      go_wp2_with fail
      go_meet
      case rel => exact ⟨_, rfl, by rw [HX.out]; exact HS7⟩
    | none =>
      rw [hb] at HSP
      obtain ⟨⟨p0, p1, p2, p3, p4⟩, q1, q2⟩ := HS7.out.at_.st.cells
      have f2 := HS7.out.at_.st.free.2 2
      have HSB := Lib.hid (HS7.out.call (HS7.out.at_.st.setbad s7.p).1 (HS7.out.at_.st.setbad s7.p).2)
      by_cases hlt : s7.p < c.L.length
      · have HX := Lib.hid (show endX c.L o.isSome s7 = { s7 with bad := some s7.p } by unfold endX; rw [if_pos ⟨hb, Or.inl hlt⟩])
        have hlti : (s7.p : Int) < (c.L.length : Int) := by omega
        go_wp2_with fail
        refine HSP.out.mono ?_
        rintro e w8 ⟨rfl, hw8⟩
        obtain rfl := hw8.symm
        go_wp2_with fail
        go_meet
        case rel => exact ⟨_, rfl, by rw [HX.out]; exact HSB⟩
      · have hlti : ¬ (s7.p : Int) < (c.L.length : Int) := by omega
        by_cases hf0 : 0 ≤ fa
        · have HX := Lib.hid (show endX c.L o.isSome s7 = { s7 with bad := some s7.p } by unfold endX; rw [if_pos ⟨hb, Or.inr (HFA.out.1.2 hf0)⟩])
          go_wp2_with fail
          refine HSP.out.mono ?_
          rintro e w8 ⟨rfl, hw8⟩
          obtain rfl := hw8.symm
          go_wp2_with fail
          go_meet
          case rel => exact ⟨_, rfl, by rw [HX.out]; exact HSB⟩
        · have HX := Lib.hid (show endX c.L o.isSome s7 = s7 by
            unfold endX
            rw [if_neg]
            rintro ⟨-, h | h⟩
            · exact hlt h
            · exact hf0 (HFA.out.1.1 h))
          go_wp2_with fail
          refine HSP.out.mono ?_
          rintro e w8 ⟨rfl, hw8⟩
          obtain rfl := hw8.symm
          go_wp2_with fail
          go_meet
          case rel => exact ⟨_, rfl, by rw [HX.out]; exact HS7⟩
  case rest =>
  obtain ⟨b95, rfl, hcut⟩ := hcut
  have HS8 := hcut
  clear HS7 hcut HI7
  obtain ⟨s8, hs8⟩ : ∃ s8, endX c.L o.isSome s7 = s8 := ⟨_, rfl⟩
  rw [hs8] at HS8 HYF
  clear hs8
  rw [HYF.out] at HE HW
  have HBE := Lib.hid (show Below w.heap.size w wc from HBW.out.trans (HS8.out.at_.fr.below.mono (Nat.le_of_lt hBc)))
  have hwW : w.heap.size < W.heap.size := hltD HFW.out
  have hrs : wc.heap[w.heap.size]? = some (fileO (.slice none 0 0) 0 0 (.slice none 0 0)) := HS8.out.at_.fr.kept _ _ _ _ HFW.out (by decide) (by decide)
  obtain ⟨z0, z1, z2, z3⟩ := four_cells hrs
  obtain ⟨g0, g1, g2, g3⟩ := four_free hrs
  have HRS := Lib.hid hrs
  have HSP := Lib.hid HS8.out.at_.st.stop
  clear hrs
  cases hb : s8.bad with
  | none =>
    rw [hb] at HSP
    have HXP := Lib.hid (show XP = .ok (l, t) from by
      have h := HE.out
      unfold FileSame at h
      cases XP with
      | ok v => dsimp only at h; rw [h.1]
      | error p =>
        obtain ⟨k, a⟩ := p
        obtain ⟨b, h1, -⟩ := h
        dsimp only at h1
        rw [hb] at h1
        cases h1)
    obtain ⟨y0, y1, y2, y3⟩ := four_cells HS8.out.box
    have HEND := Lib.hid (And.intro (lies_four HS8.out.lc hwW (.slice al n cl) (.int .i64 t.k) (.int .i64 t.i) (.slice a2 t.kids.length cap2)) (lies_four HS8.out.lt hwW (.slice al n cl) (.int .i64 t.k) (.int .i64 t.i) (.slice a2 t.kids.length cap2)))
    go_wp2_with fail
    refine HSP.out.mono ?_
    rintro e w9 ⟨rfl, hw9⟩
    obtain rfl := hw9.symm
    go_wp2
    (try simp only [Exit.inBlock, Exit.then])
    refine bodyPost_ret (reffile_results _ _ w.heap.size _ _ _ _ _ _ _ rfl rfl rfl rfl (four_set HRS.out)) rfl ?_
    rw [HXP.out]
    exact ⟨four_below HBE.out (Nat.le_refl _) _ _ _ _, _, _, rfl, HEND.out.1, HEND.out.2, HFI.out⟩
  | some b =>
    rw [hb] at HSP
    obtain ⟨kk, aa, HXP, HWD, HPL⟩ : ∃ kk aa, Hid (XP = .error (kk, aa)) ∧ Hid (s8.word = kk) ∧ Hid (placeAt c.L (endO s.data.toList.length o) b = aa) := by
      have h := HE.out
      unfold FileSame at h
      cases XP with
      | ok v => dsimp only at h; rw [hb] at h; cases h.2.1
      | error p =>
        obtain ⟨k, a⟩ := p
        obtain ⟨b', h1, h2, h3⟩ := h
        dsimp only at h1 h3
        rw [hb] at h1
        cases h1
        exact ⟨k, a, rfl, h3, h2⟩
    obtain ⟨⟨p0, p1, p2, p3, p4⟩, q1, q2⟩ := HS8.out.at_.st.cells
    rw [hb] at q2
    unfold badV at q2
    have HZF := Lib.hid (four_set (v0 := .slice none 0 0) (v1 := .int .i64 0) (v2 := .int .i64 0) (v3 := .slice none 0 0) HRS.out)
    rw [HWD.out] at p4
    cases kk with
    | zero =>
      have hpl : placeV c.L fa s.size b = (aa : Int) := by rw [← HPL.out, ← hls]; exact HFA.out.2.2.2 b
      have hptk := HS8.out.at_.st.tok
      rw [HCV.out] at hptk
      have HPC := Lib.hid (place_any s c.L (.slice a c.L.length cap) fa b wc hptk)
      rw [hpl] at HPC
      clear hpl hptk
      unfold wordV at p4
      go_wp2_with fail
      refine HSP.out.mono ?_
      rintro e w9 ⟨rfl, hw9⟩
      obtain rfl := hw9.symm
      go_wp2_with fail
      refine HPC.out.mono ?_
      rintro e w9 ⟨rfl, hw9⟩
      obtain rfl := hw9.symm
      go_wp2
      (try simp only [Exit.inBlock, Exit.then])
      refine bodyPost_ret (reffile_results _ _ w.heap.size _ _ _ _ _ _ _ rfl rfl rfl rfl HZF.out) rfl ?_
      rw [HXP.out]
      exact ⟨four_below HBE.out (Nat.le_refl _) _ _ _ _, rfl⟩
    | succ kk =>
      have hbl : b < c.L.length := by
        obtain ⟨b', h1, h2⟩ := HW.out (by dsimp only; rw [HWD.out]; exact Nat.succ_ne_zero _)
        dsimp only at h1
        rw [hb] at h1
        cases h1
        exact h2
      have hptk := HS8.out.at_.st.tok
      rw [HCV.out] at hptk
      obtain ⟨a', cap', hv', hcc⟩ := hptk.cell
      obtain ⟨rfl, -⟩ : a = a' ∧ cap = cap' := by cases hv'; exact ⟨rfl, rfl⟩
      obtain ⟨g, rfl, -, -, k2⟩ := hcc b c.L[b] (List.getElem?_eq_getElem hbl)
      have hat : c.L[b].at_ = aa := by rw [← HPL.out]; simp [placeAt, List.getElem?_eq_getElem hbl]
      rw [hat] at k2
      have hbi : (b : Int) < (c.L.length : Int) := by omega
      have HGN := Lib.hid (show g ≠ w.heap.size ∧ c.R ≠ w.heap.size ∧ c.P ≠ w.heap.size from by
        have r := HS8.out.at_.st.rd
        have q := HS8.out.at_.st.par
        unfold rrX rrO at r
        unfold prO at q
        refine ⟨fun e => ?_, fun e => ?_, fun e => ?_⟩
        · obtain ⟨a2, cap2, e2, -, -, h3⟩ := hptk
          rcases h3 with h3 | ⟨g2, cs, fz, h4, h5, -⟩
          · rw [h3] at hbl; simp at hbl
          · cases e2
            cases h4
            rw [e] at h5
            exact absurd (typeD h5 HRS.out) (by decide)
        · rw [e] at r; exact absurd (typeD r HRS.out) (by decide)
        · rw [e] at q; exact absurd (typeD q HRS.out) (by decide))
      obtain ⟨hg1, hg2, hg3⟩ := HGN.out
      clear hptk hcc hat hv' HGN
      cases kk with
      | zero =>
        unfold wordV at p4
        go_wp2_with fail
        refine HSP.out.mono ?_
        rintro e w9 ⟨rfl, hw9⟩
        obtain rfl := hw9.symm
        go_wp2_with fail
        refine wp_region_held_drew (S := fun w' => w'.cell? ⟨c.R, 2, none⟩ = some (.int .i64 b) ∧ w'.cell? ⟨g, b * 3 + 2, none⟩ = some (.int .i64 aa) ∧ w'.cell? ⟨c.P, 4, none⟩ = some (.string ⟨#[100, 101, 101, 112]⟩)) (by kernel_rfl) ?_ (fun hHeld => ?_)
        · (try dsimp only)
          (refine ⟨?_, ?_, ?_⟩ <;> repeat (first | with_reducible exact q2 | with_reducible exact k2 | with_reducible exact p4 | with_reducible refine catch_drew ?_ | with_reducible refine catch_keep ?_ (by assumption)))
        refine take_at 0 112 rf20_0 (v := ?_) (Or.inl ⟨by rfl, ?_⟩) ?_
        rotate_left 1
        · ((intro w hSw; (try dsimp only at hSw); unfold rf20_0; go_simp) <;> with_reducible rfl)
        (try simp only [Act.put, List.setIfInBounds_toArray, List.set_cons_zero, List.set_cons_succ])
        refine take_at 1 113 rf20_1 (v := ?_) (Or.inl ⟨by rfl, ?_⟩) ?_
        rotate_left 1
        · ((intro w hSw; (try dsimp only at hSw); unfold rf20_1; go_simp) <;> with_reducible rfl)
        (try simp only [Act.put, List.setIfInBounds_toArray, List.set_cons_zero, List.set_cons_succ])
        refine take_at 2 114 rf20_2 (v := ?_) (Or.inl ⟨by rfl, ?_⟩) ?_
        rotate_left 1
        · ((intro w hSw; (try dsimp only at hSw); unfold rf20_2; go_simp) <;> with_reducible rfl)
        (try simp only [Act.put, List.setIfInBounds_toArray, List.set_cons_zero, List.set_cons_succ])
        refine take_at 3 115 rf20_3 (v := ?_) (Or.inl ⟨by rfl, ?_⟩) ?_
        rotate_left 1
        · ((intro w hSw; (try dsimp only at hSw); unfold rf20_3; go_simp) <;> with_reducible rfl)
        (try simp only [Act.put, List.setIfInBounds_toArray, List.set_cons_zero, List.set_cons_succ])
        refine take_at 4 116 rf20_4 (v := ?_) (Or.inl ⟨by rfl, ?_⟩) ?_
        rotate_left 1
        · ((intro w hSw; (try dsimp only at hSw); unfold rf20_4; go_simp) <;> with_reducible rfl)
        (try simp only [Act.put, List.setIfInBounds_toArray, List.set_cons_zero, List.set_cons_succ])
        refine take_at 5 117 rf20_5 (v := ?_) (Or.inl ⟨by rfl, ?_⟩) ?_
        rotate_left 1
        · ((intro w hSw; (try dsimp only at hSw); unfold rf20_5; go_simp) <;> with_reducible rfl)
        (try simp only [Act.put, List.setIfInBounds_toArray, List.set_cons_zero, List.set_cons_succ])
        refine take_at 6 118 rf20_6 (v := ?_) (Or.inl ⟨by rfl, ?_⟩) ?_
        rotate_left 1
        · ((intro w hSw; (try dsimp only at hSw); unfold rf20_6; go_simp) <;> with_reducible rfl)
        (try simp only [Act.put, List.setIfInBounds_toArray, List.set_cons_zero, List.set_cons_succ])
        refine take_at 7 119 rf20_7 (v := ?_) (Or.inl ⟨by rfl, ?_⟩) ?_
        rotate_left 1
        · ((intro w hSw; (try dsimp only at hSw); unfold rf20_7; go_simp) <;> with_reducible rfl)
        (try simp only [Act.put, List.setIfInBounds_toArray, List.set_cons_zero, List.set_cons_succ])
        refine take_at 8 120 rf20_8 (v := ?_) (Or.inl ⟨by rfl, ?_⟩) ?_
        rotate_left 1
        · ((intro w hSw; (try dsimp only at hSw); unfold rf20_8; go_simp) <;> with_reducible rfl)
        (try simp only [Act.put, List.setIfInBounds_toArray, List.set_cons_zero, List.set_cons_succ])
        refine take_at 9 121 rf20_9 (v := ?_) (Or.inl ⟨by rfl, ?_⟩) ?_
        rotate_left 1
        · ((intro w hSw; (try dsimp only at hSw); unfold rf20_9; go_simp) <;> with_reducible rfl)
        (try simp only [Act.put, List.setIfInBounds_toArray, List.set_cons_zero, List.set_cons_succ])
        refine take_at 10 122 rf20_10 (v := ?_) (Or.inl ⟨by rfl, ?_⟩) ?_
        rotate_left 1
        · ((intro w hSw; (try dsimp only at hSw); unfold rf20_10; go_simp) <;> with_reducible rfl)
        (try simp only [Act.put, List.setIfInBounds_toArray, List.set_cons_zero, List.set_cons_succ])
        refine take_at 11 123 rf20_11 (v := ?_) (Or.inl ⟨by rfl, ?_⟩) ?_
        rotate_left 1
        · ((intro w hSw; (try dsimp only at hSw); unfold rf20_11; go_simp) <;> with_reducible rfl)
        (try simp only [Act.put, List.setIfInBounds_toArray, List.set_cons_zero, List.set_cons_succ])
        refine take_at 12 124 rf20_12 (v := ?_) (Or.inl ⟨by rfl, ?_⟩) ?_
        rotate_left 1
        · ((intro w hSw; (try dsimp only at hSw); unfold rf20_12; go_simp) <;> with_reducible rfl)
        (try simp only [Act.put, List.setIfInBounds_toArray, List.set_cons_zero, List.set_cons_succ])
        refine wpAnyH_ready (rs := [13]) (by kernel_rfl) (by simp) ?_
        refine AllReadyH.cons (o := rf20_13) rfl (fun K hK => ?_) ?_
        · unfold rf20_13
          go_simp
          clear hHeld
          refine hK.out _ _ ?_ (fun hHeld => ?_)
          · (try dsimp only)
            (refine ⟨?_, ?_, ?_⟩ <;> repeat (first | with_reducible exact q2 | with_reducible exact k2 | with_reducible exact p4 | with_reducible refine catch_drew ?_ | with_reducible refine catch_keep ?_ (by assumption)))
          clear hK K
          (try simp only [Act.put, List.setIfInBounds_toArray, List.set_cons_zero, List.set_cons_succ])
          refine take_at 14 7 rf20_14 (v := ?_) (Or.inl ⟨by rfl, ?_⟩) ?_
          rotate_left 1
          · ((intro w hSw; (try dsimp only at hSw); unfold rf20_14; go_simp) <;> with_reducible rfl)
          (try simp only [Act.put, List.setIfInBounds_toArray, List.set_cons_zero, List.set_cons_succ])
          refine take_at 15 8 rf20_15 (v := ?_) (Or.inl ⟨by rfl, ?_⟩) ?_
          rotate_left 1
          · ((intro w hSw; (try dsimp only at hSw); unfold rf20_15; go_simp) <;> with_reducible rfl)
          (try simp only [Act.put, List.setIfInBounds_toArray, List.set_cons_zero, List.set_cons_succ])
          refine take_at 16 9 rf20_16 (v := ?_) (Or.inl ⟨by rfl, ?_⟩) ?_
          rotate_left 1
          · ((intro w hSw; (try dsimp only at hSw); unfold rf20_16; go_simp) <;> with_reducible rfl)
          (try simp only [Act.put, List.setIfInBounds_toArray, List.set_cons_zero, List.set_cons_succ])
          refine wpAnyH_done (by kernel_rfl) ?_ _
          go_wp2
          (try simp only [Exit.inBlock, Exit.then])
          refine bodyPost_ret (reffile_results _ _ w.heap.size _ _ _ _ _ _ _ rfl rfl rfl rfl HZF.out) rfl ?_
          rw [HXP.out]
          exact ⟨(four_below HBE.out (Nat.le_refl _) _ _ _ _).drew, rfl⟩
        exact AllReadyH.nil
      | succ kk =>
        unfold wordV at p4
        go_wp2_with fail
        refine HSP.out.mono ?_
        rintro e w9 ⟨rfl, hw9⟩
        obtain rfl := hw9.symm
        go_wp2_with fail
        refine wp_region_held_drew (S := fun w' => w'.cell? ⟨c.R, 2, none⟩ = some (.int .i64 b) ∧ w'.cell? ⟨g, b * 3 + 2, none⟩ = some (.int .i64 aa) ∧ w'.cell? ⟨c.P, 4, none⟩ = some (.string ⟨#[110, 111, 100, 101, 115]⟩)) (by kernel_rfl) ?_ (fun hHeld => ?_)
        · (try dsimp only)
          (refine ⟨?_, ?_, ?_⟩ <;> repeat (first | with_reducible exact q2 | with_reducible exact k2 | with_reducible exact p4 | with_reducible refine catch_drew ?_ | with_reducible refine catch_keep ?_ (by assumption)))
        refine take_at 0 112 rf20_0 (v := ?_) (Or.inl ⟨by rfl, ?_⟩) ?_
        rotate_left 1
        · ((intro w hSw; (try dsimp only at hSw); unfold rf20_0; go_simp) <;> with_reducible rfl)
        (try simp only [Act.put, List.setIfInBounds_toArray, List.set_cons_zero, List.set_cons_succ])
        refine take_at 1 113 rf20_1 (v := ?_) (Or.inl ⟨by rfl, ?_⟩) ?_
        rotate_left 1
        · ((intro w hSw; (try dsimp only at hSw); unfold rf20_1; go_simp) <;> with_reducible rfl)
        (try simp only [Act.put, List.setIfInBounds_toArray, List.set_cons_zero, List.set_cons_succ])
        refine take_at 2 114 rf20_2 (v := ?_) (Or.inl ⟨by rfl, ?_⟩) ?_
        rotate_left 1
        · ((intro w hSw; (try dsimp only at hSw); unfold rf20_2; go_simp) <;> with_reducible rfl)
        (try simp only [Act.put, List.setIfInBounds_toArray, List.set_cons_zero, List.set_cons_succ])
        refine take_at 3 115 rf20_3 (v := ?_) (Or.inl ⟨by rfl, ?_⟩) ?_
        rotate_left 1
        · ((intro w hSw; (try dsimp only at hSw); unfold rf20_3; go_simp) <;> with_reducible rfl)
        (try simp only [Act.put, List.setIfInBounds_toArray, List.set_cons_zero, List.set_cons_succ])
        refine take_at 4 116 rf20_4 (v := ?_) (Or.inl ⟨by rfl, ?_⟩) ?_
        rotate_left 1
        · ((intro w hSw; (try dsimp only at hSw); unfold rf20_4; go_simp) <;> with_reducible rfl)
        (try simp only [Act.put, List.setIfInBounds_toArray, List.set_cons_zero, List.set_cons_succ])
        refine take_at 5 117 rf20_5 (v := ?_) (Or.inl ⟨by rfl, ?_⟩) ?_
        rotate_left 1
        · ((intro w hSw; (try dsimp only at hSw); unfold rf20_5; go_simp) <;> with_reducible rfl)
        (try simp only [Act.put, List.setIfInBounds_toArray, List.set_cons_zero, List.set_cons_succ])
        refine take_at 6 118 rf20_6 (v := ?_) (Or.inl ⟨by rfl, ?_⟩) ?_
        rotate_left 1
        · ((intro w hSw; (try dsimp only at hSw); unfold rf20_6; go_simp) <;> with_reducible rfl)
        (try simp only [Act.put, List.setIfInBounds_toArray, List.set_cons_zero, List.set_cons_succ])
        refine take_at 7 119 rf20_7 (v := ?_) (Or.inl ⟨by rfl, ?_⟩) ?_
        rotate_left 1
        · ((intro w hSw; (try dsimp only at hSw); unfold rf20_7; go_simp) <;> with_reducible rfl)
        (try simp only [Act.put, List.setIfInBounds_toArray, List.set_cons_zero, List.set_cons_succ])
        refine take_at 8 120 rf20_8 (v := ?_) (Or.inl ⟨by rfl, ?_⟩) ?_
        rotate_left 1
        · ((intro w hSw; (try dsimp only at hSw); unfold rf20_8; go_simp) <;> with_reducible rfl)
        (try simp only [Act.put, List.setIfInBounds_toArray, List.set_cons_zero, List.set_cons_succ])
        refine take_at 9 121 rf20_9 (v := ?_) (Or.inl ⟨by rfl, ?_⟩) ?_
        rotate_left 1
        · ((intro w hSw; (try dsimp only at hSw); unfold rf20_9; go_simp) <;> with_reducible rfl)
        (try simp only [Act.put, List.setIfInBounds_toArray, List.set_cons_zero, List.set_cons_succ])
        refine take_at 10 122 rf20_10 (v := ?_) (Or.inl ⟨by rfl, ?_⟩) ?_
        rotate_left 1
        · ((intro w hSw; (try dsimp only at hSw); unfold rf20_10; go_simp) <;> with_reducible rfl)
        (try simp only [Act.put, List.setIfInBounds_toArray, List.set_cons_zero, List.set_cons_succ])
        refine take_at 11 123 rf20_11 (v := ?_) (Or.inl ⟨by rfl, ?_⟩) ?_
        rotate_left 1
        · ((intro w hSw; (try dsimp only at hSw); unfold rf20_11; go_simp) <;> with_reducible rfl)
        (try simp only [Act.put, List.setIfInBounds_toArray, List.set_cons_zero, List.set_cons_succ])
        refine take_at 12 124 rf20_12 (v := ?_) (Or.inl ⟨by rfl, ?_⟩) ?_
        rotate_left 1
        · ((intro w hSw; (try dsimp only at hSw); unfold rf20_12; go_simp) <;> with_reducible rfl)
        (try simp only [Act.put, List.setIfInBounds_toArray, List.set_cons_zero, List.set_cons_succ])
        refine wpAnyH_ready (rs := [13]) (by kernel_rfl) (by simp) ?_
        refine AllReadyH.cons (o := rf20_13) rfl (fun K hK => ?_) ?_
        · unfold rf20_13
          go_simp
          clear hHeld
          refine hK.out _ _ ?_ (fun hHeld => ?_)
          · (try dsimp only)
            (refine ⟨?_, ?_, ?_⟩ <;> repeat (first | with_reducible exact q2 | with_reducible exact k2 | with_reducible exact p4 | with_reducible refine catch_drew ?_ | with_reducible refine catch_keep ?_ (by assumption)))
          clear hK K
          (try simp only [Act.put, List.setIfInBounds_toArray, List.set_cons_zero, List.set_cons_succ])
          refine take_at 14 7 rf20_14 (v := ?_) (Or.inl ⟨by rfl, ?_⟩) ?_
          rotate_left 1
          · ((intro w hSw; (try dsimp only at hSw); unfold rf20_14; go_simp) <;> with_reducible rfl)
          (try simp only [Act.put, List.setIfInBounds_toArray, List.set_cons_zero, List.set_cons_succ])
          refine take_at 15 8 rf20_15 (v := ?_) (Or.inl ⟨by rfl, ?_⟩) ?_
          rotate_left 1
          · ((intro w hSw; (try dsimp only at hSw); unfold rf20_15; go_simp) <;> with_reducible rfl)
          (try simp only [Act.put, List.setIfInBounds_toArray, List.set_cons_zero, List.set_cons_succ])
          refine take_at 16 9 rf20_16 (v := ?_) (Or.inl ⟨by rfl, ?_⟩) ?_
          rotate_left 1
          · ((intro w hSw; (try dsimp only at hSw); unfold rf20_16; go_simp) <;> with_reducible rfl)
          (try simp only [Act.put, List.setIfInBounds_toArray, List.set_cons_zero, List.set_cons_succ])
          refine wpAnyH_done (by kernel_rfl) ?_ _
          go_wp2
          (try simp only [Exit.inBlock, Exit.then])
          refine bodyPost_ret (reffile_results _ _ w.heap.size _ _ _ _ _ _ _ rfl rfl rfl rfl HZF.out) rfl ?_
          rw [HXP.out]
          exact ⟨(four_below HBE.out (Nat.le_refl _) _ _ _ _).drew, rfl⟩
        exact AllReadyH.nil
end Go.Proofs.Ytdhfbphliejcdaa.Dv
