/-
  Facts and contracts that the proof of SigExact uses.
-/
import Derived.Lib.ItoaNum
import Derived.Lib.ItoaLen
import Derived.Test.YtpekceadjcbphaaDoorRows
import Derived.WalkKit
import Derived.Lib.Hide
import Derived.ProofKit
import Derived.LoopTactic
import Derived.Below
import Derived.IntWalk
import Derived.Lib.Strings
import Derived.Laws.Strings2
import Derived.Deep.AppendLies
import Derived.Laws.Rows
import Derived.OwnWalk
import Derived.KernelRfl
import Derived.Deep.RegionHeld3
import Derived.Lib.Builder
import Derived.WalkSmall
import Derived.Maps.GroupsBeside
import Derived.Maps.StringElems
import Derived.Laws.OwnMore
import Derived.Deep.RegionLaw
import Derived.Maps.AppendAt
import Derived.Deep.Cut
import Derived.Deep.DeepCutAuto
import Derived.Maps.OwnOps
import Derived.Maps.OwnSet
import Derived.Lib.MinMax
import Derived.Laws.IdiomCopy
import Derived.Deep.Slices
import Derived.Lib.QuietBelow
import Derived.StillTailTactics
import Derived.BigQuiet
import Derived.Deep.RegionWith
import Derived.OrdersHeld
import Derived.Recover
import Derived.RegionTactic
import Derived.Defers
import Derived.Laws.StructEq
import GoSem.Core.Float
import Derived.Laws.Cover2
import Derived.Laws.FloatArith
import Derived.Laws.Externs
import Derived.Deep.QuietTactic
import Derived.Deep.CutBlock
import Derived.Deep.LoopGhost
import Derived.Test.YtpekceadjcbphaaDoorShelf
import Derived.Lib.AppendIntMem
import Derived.Lib.LaidTab
import Derived.OpenShut
import Derived.Carry
import Derived.LaidMore
import Derived.LaidSub
import Derived.LaidHandle
import Derived.Stop.Joined
import Derived.JoinedOf
import Derived.Test.YtpekceadjcbphaaDoorCards
import Derived.Test.YtpekceadjcbphaaDoorTie
import Derived.SevenTiedAt
import Derived.ChangeMaps5
import Derived.Test.YtpekceadjcbphaaDoorSigExactQ5
namespace Go.Proofs.YtpekceadjcbphaaDoor.Sg
open Go.RowKit Go.Maps Go.ChangeShapes
open Rt (strV below_gr below_of cell_gr cell_lt)
open Dv (hltD typeD)

def outT (x : Except (Nat × Nat) Tm) : Tm := match x with
  | .error _ => Tm.zero
  | .ok t => t
theorem readG_out {w w' : World} {x : Except (Nat × Nat) Tm} {e : Ending} (h : ReadG w x e w') : ∃ s k a, e = .returned (.tuple #[tv (outT x) s, .int .i64 (k : Nat), .int .i64 (a : Nat)]) ∧ LiesP w' (Own w.heap.size w') (outT x).kids s ∧ (outT x).fine ∧ Below w.heap.size w w' := by
  obtain ⟨hb, h⟩ := h
  cases x with
  | error p =>
    obtain ⟨k, a⟩ := p
    exact ⟨_, k, a, h, liesP_nil _ _, zero_fine, hb⟩
  | ok t =>
    obtain ⟨s, h1, h2, h3⟩ := h
    exact ⟨s, 0, 0, h1, h2, h3, hb⟩
theorem own_txl {w : World} {nv : Value} {N : Names} (h : w.ownsRow 0 9 1 nv N.length (N.map strV)) : TxLies w.heap.size w N nv := by
  obtain ⟨-, ⟨rfl, hn⟩ | ⟨g, cap, cur, rfl, -, hh, h1, h2, h3, h4⟩⟩ := h
  · obtain rfl : N = [] := List.eq_nil_of_length_eq_zero hn
    exact ⟨none, 0, rfl, Nat.le_refl _, by unfold maxLen; omega, fun q hq => absurd hq (by simp)⟩
  · refine ⟨_, cap, rfl, h1, h2, fun q hq => ⟨g, 0, rfl, hltD hh, ?_⟩⟩
    have hc : (N.map strV)[q]? = some (strV (N[q]'hq)) := by simp [hq]
    rw [← h4, List.getElem?_take, if_pos (by omega)] at hc
    rw [Lib.cell_of_heap hh, Nat.zero_add]
    simpa [strV] using hc
/-- What stands by while a term's end is looked for. -/
structure StL (c : LC) (w : World) (n1 : Nat) (tv nv : Value) (t0 la : Tok) (ts : List Tok) (N : Names) (w' : World) : Prop where
  res : w'.heap[w.heap.size]? = some zeroObj
  fst : w'.heap[n1]? = some (tokB t0)
  lst : w'.heap[n1 + 1]? = some (tokB la)
  st : LS c tv nv ts N w'
  tk : TLies w ts tv
  st0 : ∃ tv0 ts0, LS c tv0 nv ts0 N w
  fr : Gr c w w'
  h1 : w.heap.size < n1
theorem StL.hR {c : LC} {w w' : World} {n1 : Nat} {tv nv : Value} {t0 la : Tok} {ts : List Tok} {N : Names} (h : StL c w n1 tv nv t0 la ts N w') : c.R < w.heap.size := by obtain ⟨_, _, h0⟩ := h.st0; exact h0.lt
theorem StL.take {c : LC} {w w' wn : World} {n1 : Nat} {tv tl nv : Value} {t0 la t : Tok} {r : List Tok} {N : Names} (h : StL c w n1 tv nv t0 la (t :: r) N w') (hs : LS c tl nv r N wn) (htl : ∀ w0, TLies w0 (t :: r) tv → TLies w0 r tl) (hg : Gr c w' wn) : StL c w n1 tl nv t0 la r N wn :=
  ⟨(hg.block _ (hltD h.res) (fun e => by have e2 : w.heap.size = c.R := Option.some.inj e; have := h.hR; omega)).trans h.res, (hg.block _ (hltD h.fst) (fun e => by have e2 : n1 = c.R := Option.some.inj e; have := h.hR; have := h.h1; omega)).trans h.fst, (hg.block _ (hltD h.lst) (fun e => by have e2 : n1 + 1 = c.R := Option.some.inj e; have := h.hR; have := h.h1; omega)).trans h.lst, hs, htl _ h.tk, h.st0, h.fr.trans hg, h.h1⟩
theorem StL.put {c : LC} {w w' : World} {n1 : Nat} {tv nv : Value} {t0 la : Tok} (t : Tok) {ts : List Tok} {N : Names} (h : StL c w n1 tv nv t0 la ts N w') : StL c w n1 tv nv t0 t ts N (thr w' (n1 + 1) (.int .i64 t.k) (.string ⟨t.s.toArray⟩) (.int .i64 t.at_)) := by
  have hne := h.h1
  have hr := h.hR
  have o := fun (b : Nat) (hb : b ≠ n1 + 1) => thr_other (w := w') hb (.int .i64 t.k) (.string ⟨t.s.toArray⟩) (.int .i64 t.at_)
  have hg : Gr c w (thr w' (n1 + 1) (.int .i64 t.k) (.string ⟨t.s.toArray⟩) (.int .i64 t.at_)) := thr_gr h.fr (by omega) _ _ _
  obtain ⟨tv0, ts0, h0⟩ := h.st0
  exact ⟨(o _ (by omega)).trans h.res, (o _ (by omega)).trans h.fst, thr_set h.lst _ _ _, h0.of hg h.tk ((o _ (by omega)).trans h.st.rd), h.tk, ⟨tv0, ts0, h0⟩, hg, hne⟩
theorem StL.same {c : LC} {w w' wn : World} {n1 : Nat} {tv nv : Value} {t0 la : Tok} {ts : List Tok} {N : Names} (h : StL c w n1 tv nv t0 la ts N w') (hg : w'.grownBy wn none) : StL c w n1 tv nv t0 la ts N wn :=
  ⟨(hg.block _ (hltD h.res) (by simp)).trans h.res, (hg.block _ (hltD h.fst) (by simp)).trans h.fst, (hg.block _ (hltD h.lst) (by simp)).trans h.lst, h.st.same hg, h.tk, h.st0, gr_same h.fr hg, h.h1⟩
theorem gr_below {c : LC} {w w' : World} {B : Nat} (h : Gr c w w') (hB : B ≤ c.R ∧ B ≤ w.heap.size) : Below B w w' := ⟨h.os, h.tape, h.output, h.size, fun k hk => h.block k (by omega) (fun e => by have e2 : k = c.R := Option.some.inj e; omega)⟩
theorem StL.fiv {c : LC} {w w' : World} {n1 : Nat} {tv nv : Value} {t0 la : Tok} {ts : List Tok} {N : Names} (h : StL c w n1 tv nv t0 la ts N w') {n3 : Nat} (h3 : w.heap.size ≤ n3) (h4 : n1 + 1 < n3) (v0 v1 v2 v3 v4 : Value) : StL c w n1 tv nv t0 la ts N (five w' n3 v0 v1 v2 v3 v4) := by
  have hne := h.h1
  have hr := h.hR
  have o := fun (b : Nat) (hb : b ≠ n3) => five_other w' n3 v0 v1 v2 v3 v4 hb
  have hg : Gr c w (five w' n3 v0 v1 v2 v3 v4) := grown_new (grown_new (grown_new (grown_new (grown_new h.fr h3 0 v0) h3 1 v1) h3 2 v2) h3 3 v3) h3 4 v4
  obtain ⟨tv0, ts0, h0⟩ := h.st0
  exact ⟨(o _ (by omega)).trans h.res, (o _ (by omega)).trans h.fst, (o _ (by omega)).trans h.lst, h0.of hg h.tk ((o _ (by omega)).trans h.st.rd), h.tk, ⟨tv0, ts0, h0⟩, hg, hne⟩
theorem StL.done {c : LC} {w w' : World} {n1 : Nat} {tv nv : Value} {t0 la : Tok} {ts : List Tok} {N : Names} (h : StL c w n1 tv nv t0 la ts N w') (v0 v1 v2 v3 v4 : Value) : LS c tv nv ts N (five w' w.heap.size v0 v1 v2 v3 v4) ∧ Gr c w (five w' w.heap.size v0 v1 v2 v3 v4) := by
  have hr := h.hR
  have hg : Gr c w (five w' w.heap.size v0 v1 v2 v3 v4) := grown_new (grown_new (grown_new (grown_new (grown_new h.fr (Nat.le_refl _) 0 v0) (Nat.le_refl _) 1 v1) (Nat.le_refl _) 2 v2) (Nat.le_refl _) 3 v3) (Nat.le_refl _) 4 v4
  obtain ⟨tv0, ts0, h0⟩ := h.st0
  exact ⟨h0.of hg h.tk ((five_other w' w.heap.size v0 v1 v2 v3 v4 (by omega)).trans h.st.rd), hg⟩
/-- What a term's reading gives. -/
def LtG (c : LC) (p : List UInt8) (N : Names) (nv : Value) (r : List Tok) (w : World) (e : Ending) (w' : World) : Prop := ∃ sv tl, e = .returned (tv (outT (readB p N c.i c.j)) sv) ∧ LiesP w' (Own w.heap.size w') (outT (readB p N c.i c.j)).kids sv ∧ (outT (readB p N c.i c.j)).fine ∧ LS c tl nv r N w' ∧ TLies w r tl ∧ Gr c w w'
theorem clos_cons {t la : Tok} {r : List Tok} {d : Nat} : clos (t :: r) (d + 1) la = if t.k = 1 then clos r (d + 2) t else if t.k = 2 then clos r d t else clos r (d + 1) t := by
  rw [clos]
  simp
def os12_0 : Oper := { dst := some 30, op := Go.Op.move (Go.Operand.tmp 0), type := 89, pos := "sig.go:78", after := #[], guard := none }
def os12_1 : Oper := { dst := some 31, op := Go.Op.nilCheck (Go.Operand.tmp 30), type := 0, pos := "sig.go:78", after := #[{ on := 0, ground := Go.Ground.data }], guard := none }
def os12_2 : Oper := { dst := some 32, op := Go.Op.fieldAddr 61 (Go.Operand.tmp 31) 0, type := 0, pos := "sig.go:78", after := #[{ on := 1, ground := Go.Ground.data }], guard := none }
def os12_3 : Oper := { dst := some 33, op := Go.Op.load 9 (Go.Operand.tmp 32), type := 9, pos := "sig.go:78", after := #[{ on := 2, ground := Go.Ground.data }], guard := none }
def os12_4 : Oper := { dst := some 34, op := Go.Op.fieldAddr 63 (Go.Operand.tmp 3) 2, type := 0, pos := "sig.go:78", after := #[], guard := none }
def os12_5 : Oper := { dst := some 35, op := Go.Op.load 3 (Go.Operand.tmp 34), type := 3, pos := "sig.go:78", after := #[{ on := 4, ground := Go.Ground.data }], guard := none }
def os12_6 : Oper := { dst := some 36, op := Go.Op.fieldAddr 63 (Go.Operand.tmp 4) 2, type := 0, pos := "sig.go:78", after := #[], guard := none }
def os12_7 : Oper := { dst := some 37, op := Go.Op.load 3 (Go.Operand.tmp 36), type := 3, pos := "sig.go:78", after := #[{ on := 6, ground := Go.Ground.data }], guard := none }
def os12_8 : Oper := { dst := some 38, op := Go.Op.fieldAddr 63 (Go.Operand.tmp 4) 1, type := 0, pos := "sig.go:78", after := #[], guard := none }
def os12_9 : Oper := { dst := some 39, op := Go.Op.load 9 (Go.Operand.tmp 38), type := 9, pos := "sig.go:78", after := #[{ on := 8, ground := Go.Ground.data }], guard := none }
def os12_10 : Oper := { dst := some 40, op := Go.Op.call { callee := Go.Callee.builtin Go.Builtin.len, args := #[Go.Operand.tmp 39], argTypes := #[9] }, type := 3, pos := "sig.go:78", after := #[{ on := 9, ground := Go.Ground.data }], guard := none }
def os12_11 : Oper := { dst := some 41, op := Go.Op.binOp Go.BinOp.add 3 (Go.Operand.tmp 37) (Go.Operand.tmp 40) 3, type := 3, pos := "sig.go:78", after := #[{ on := 7, ground := Go.Ground.data }, { on := 10, ground := Go.Ground.data }], guard := none }
def os12_12 : Oper := { dst := some 42, op := Go.Op.slice 9 (Go.Operand.tmp 33) (some (Go.Operand.tmp 35)) (some (Go.Operand.tmp 41)) none, type := 9, pos := "sig.go:78", after := #[{ on := 3, ground := Go.Ground.data }, { on := 5, ground := Go.Ground.data }, { on := 11, ground := Go.Ground.data }], guard := none }
def os12_13 : Oper := { dst := some 43, op := Go.Op.move (Go.Operand.tmp 0), type := 89, pos := "sig.go:78", after := #[], guard := none }
def os12_14 : Oper := { dst := some 44, op := Go.Op.nilCheck (Go.Operand.tmp 43), type := 0, pos := "sig.go:78", after := #[{ on := 13, ground := Go.Ground.data }], guard := none }
def os12_15 : Oper := { dst := some 45, op := Go.Op.fieldAddr 61 (Go.Operand.tmp 44) 2, type := 0, pos := "sig.go:78", after := #[{ on := 14, ground := Go.Ground.data }], guard := none }
def os12_16 : Oper := { dst := some 46, op := Go.Op.load 22 (Go.Operand.tmp 45), type := 22, pos := "sig.go:78", after := #[{ on := 15, ground := Go.Ground.data }], guard := none }
def os12_17 : Oper := { dst := some 47, op := Go.Op.move (Go.Operand.tmp 0), type := 89, pos := "sig.go:78", after := #[], guard := none }
def os12_18 : Oper := { dst := some 48, op := Go.Op.nilCheck (Go.Operand.tmp 47), type := 0, pos := "sig.go:78", after := #[{ on := 17, ground := Go.Ground.data }], guard := none }
def os12_19 : Oper := { dst := some 49, op := Go.Op.fieldAddr 61 (Go.Operand.tmp 48) 3, type := 0, pos := "sig.go:78", after := #[{ on := 18, ground := Go.Ground.data }], guard := none }
def os12_20 : Oper := { dst := some 50, op := Go.Op.load 3 (Go.Operand.tmp 49), type := 3, pos := "sig.go:78", after := #[{ on := 19, ground := Go.Ground.data }], guard := none }
def os12_21 : Oper := { dst := some 51, op := Go.Op.move (Go.Operand.tmp 0), type := 89, pos := "sig.go:78", after := #[], guard := none }
def os12_22 : Oper := { dst := some 52, op := Go.Op.nilCheck (Go.Operand.tmp 51), type := 0, pos := "sig.go:78", after := #[{ on := 21, ground := Go.Ground.data }], guard := none }
def os12_23 : Oper := { dst := some 53, op := Go.Op.fieldAddr 61 (Go.Operand.tmp 52) 4, type := 0, pos := "sig.go:78", after := #[{ on := 22, ground := Go.Ground.data }], guard := none }
def os12_24 : Oper := { dst := some 54, op := Go.Op.load 3 (Go.Operand.tmp 53), type := 3, pos := "sig.go:78", after := #[{ on := 23, ground := Go.Ground.data }], guard := none }
def os12_25 : Oper := { dst := some 55, op := Go.Op.call { callee := Go.Callee.value (Go.Operand.func 8), args := #[Go.Operand.tmp 42, Go.Operand.tmp 46, Go.Operand.tmp 50, Go.Operand.tmp 54], argTypes := #[9, 22, 3, 3] }, type := 28, pos := "sig.go:78", after := #[{ on := 12, ground := Go.Ground.data }, { on := 16, ground := Go.Ground.data }, { on := 20, ground := Go.Ground.data }, { on := 24, ground := Go.Ground.data }], guard := none }
def os12_26 : Oper := { dst := some 29, op := Go.Op.move (Go.Operand.tmp 55), type := 28, pos := "sig.go:78", after := #[{ on := 25, ground := Go.Ground.data }], guard := none }
def os12_27 : Oper := { dst := some 56, op := Go.Op.extract (Go.Operand.tmp 29) 0, type := 26, pos := "sig.go:78", after := #[{ on := 26, ground := Go.Ground.data }], guard := none }
def os12_28 : Oper := { dst := some 57, op := Go.Op.extract (Go.Operand.tmp 29) 1, type := 27, pos := "sig.go:78", after := #[{ on := 26, ground := Go.Ground.data }, { on := 31, ground := Go.Ground.gcOnly Go.Departure.lateStores }], guard := none }
def os12_29 : Oper := { dst := some 58, op := Go.Op.extract (Go.Operand.tmp 29) 2, type := 3, pos := "sig.go:78", after := #[{ on := 26, ground := Go.Ground.data }, { on := 32, ground := Go.Ground.gcOnly Go.Departure.lateStores }], guard := none }
def os12_30 : Oper := { dst := some 6, op := Go.Op.alloc 26, type := 0, pos := "sig.go:78", after := #[], guard := none }
def os12_31 : Oper := { dst := none, op := Go.Op.store 26 (Go.Operand.tmp 6) (Go.Operand.tmp 56), type := 0, pos := "sig.go:78", after := #[{ on := 30, ground := Go.Ground.data }, { on := 27, ground := Go.Ground.data }, { on := 25, ground := Go.Ground.chain }, { on := 0, ground := Go.Ground.phase }, { on := 1, ground := Go.Ground.phase }, { on := 2, ground := Go.Ground.phase }, { on := 3, ground := Go.Ground.phase }, { on := 4, ground := Go.Ground.phase }, { on := 5, ground := Go.Ground.phase }, { on := 6, ground := Go.Ground.phase }, { on := 7, ground := Go.Ground.phase }, { on := 8, ground := Go.Ground.phase }, { on := 9, ground := Go.Ground.phase }, { on := 10, ground := Go.Ground.phase }, { on := 11, ground := Go.Ground.phase }, { on := 12, ground := Go.Ground.phase }, { on := 13, ground := Go.Ground.phase }, { on := 14, ground := Go.Ground.phase }, { on := 15, ground := Go.Ground.phase }, { on := 16, ground := Go.Ground.phase }, { on := 17, ground := Go.Ground.phase }, { on := 18, ground := Go.Ground.phase }, { on := 19, ground := Go.Ground.phase }, { on := 20, ground := Go.Ground.phase }, { on := 21, ground := Go.Ground.phase }, { on := 22, ground := Go.Ground.phase }, { on := 23, ground := Go.Ground.phase }, { on := 24, ground := Go.Ground.phase }, { on := 25, ground := Go.Ground.phase }, { on := 26, ground := Go.Ground.phase }, { on := 27, ground := Go.Ground.phase }, { on := 28, ground := Go.Ground.textOnly Go.Departure.lateStores }, { on := 29, ground := Go.Ground.textOnly Go.Departure.lateStores }, { on := 30, ground := Go.Ground.phase }], guard := none }
def os12_32 : Oper := { dst := some 7, op := Go.Op.assign (Go.Operand.tmp 57), type := 27, pos := "sig.go:78", after := #[{ on := 28, ground := Go.Ground.data }, { on := 31, ground := Go.Ground.chain }, { on := 0, ground := Go.Ground.phase }, { on := 1, ground := Go.Ground.phase }, { on := 2, ground := Go.Ground.phase }, { on := 3, ground := Go.Ground.phase }, { on := 4, ground := Go.Ground.phase }, { on := 5, ground := Go.Ground.phase }, { on := 6, ground := Go.Ground.phase }, { on := 7, ground := Go.Ground.phase }, { on := 8, ground := Go.Ground.phase }, { on := 9, ground := Go.Ground.phase }, { on := 10, ground := Go.Ground.phase }, { on := 11, ground := Go.Ground.phase }, { on := 12, ground := Go.Ground.phase }, { on := 13, ground := Go.Ground.phase }, { on := 14, ground := Go.Ground.phase }, { on := 15, ground := Go.Ground.phase }, { on := 16, ground := Go.Ground.phase }, { on := 17, ground := Go.Ground.phase }, { on := 18, ground := Go.Ground.phase }, { on := 19, ground := Go.Ground.phase }, { on := 20, ground := Go.Ground.phase }, { on := 21, ground := Go.Ground.phase }, { on := 22, ground := Go.Ground.phase }, { on := 23, ground := Go.Ground.phase }, { on := 24, ground := Go.Ground.phase }, { on := 25, ground := Go.Ground.phase }, { on := 26, ground := Go.Ground.phase }, { on := 27, ground := Go.Ground.phase }, { on := 28, ground := Go.Ground.phase }, { on := 29, ground := Go.Ground.textOnly Go.Departure.lateStores }, { on := 30, ground := Go.Ground.phase }, { on := 31, ground := Go.Ground.phase }], guard := none }
def os12_33 : Oper := { dst := some 8, op := Go.Op.assign (Go.Operand.tmp 58), type := 3, pos := "sig.go:78", after := #[{ on := 29, ground := Go.Ground.data }, { on := 32, ground := Go.Ground.chain }, { on := 0, ground := Go.Ground.phase }, { on := 1, ground := Go.Ground.phase }, { on := 2, ground := Go.Ground.phase }, { on := 3, ground := Go.Ground.phase }, { on := 4, ground := Go.Ground.phase }, { on := 5, ground := Go.Ground.phase }, { on := 6, ground := Go.Ground.phase }, { on := 7, ground := Go.Ground.phase }, { on := 8, ground := Go.Ground.phase }, { on := 9, ground := Go.Ground.phase }, { on := 10, ground := Go.Ground.phase }, { on := 11, ground := Go.Ground.phase }, { on := 12, ground := Go.Ground.phase }, { on := 13, ground := Go.Ground.phase }, { on := 14, ground := Go.Ground.phase }, { on := 15, ground := Go.Ground.phase }, { on := 16, ground := Go.Ground.phase }, { on := 17, ground := Go.Ground.phase }, { on := 18, ground := Go.Ground.phase }, { on := 19, ground := Go.Ground.phase }, { on := 20, ground := Go.Ground.phase }, { on := 21, ground := Go.Ground.phase }, { on := 22, ground := Go.Ground.phase }, { on := 23, ground := Go.Ground.phase }, { on := 24, ground := Go.Ground.phase }, { on := 25, ground := Go.Ground.phase }, { on := 26, ground := Go.Ground.phase }, { on := 27, ground := Go.Ground.phase }, { on := 28, ground := Go.Ground.phase }, { on := 29, ground := Go.Ground.phase }, { on := 30, ground := Go.Ground.phase }, { on := 31, ground := Go.Ground.phase }, { on := 32, ground := Go.Ground.phase }], guard := none }
theorem drew_grw (w : World) : w.grownBy w.drew none := Rt.drewN_gr w 1
set_option maxHeartbeats 4000000 in
set_option maxRecDepth 20000 in
theorem lterm_any (c : LC) (tv0 nv : Value) (t0 laF : Tok) (r0 rF : List Tok) (N : Names) (w : World) (h : LS c tv0 nv (t0 :: r0) N w) (hcl : clos r0 (if t0.k = 1 then 1 else 0) t0 = some (laF, rF)) (hlen : r0.length ≤ 1000000) {B : Nat} (hB : B ≤ c.R ∧ B ≤ w.heap.size) (hT : TabsR B w) (hsz : c.txt.size ≤ 1000000) (hN : N.length ≤ 1000000 ∧ ∀ y ∈ N, y.length ≤ 1000000) (h1 : t0.at_ ≤ laF.at_ + laF.s.length) (h2 : laF.at_ + laF.s.length ≤ c.txt.size) : Calls Tryd.prog 29 #[.pointer (some ⟨c.R, 0, none⟩)] w (LtG c ((c.txt.data.toList.take (laF.at_ + laF.s.length)).drop t0.at_) N nv rF w) := by
  obtain ⟨du, hu1, hu2⟩ := under_term
  have HA := Lib.hid (below_gr ((Below.refl w.heap.size w).alloc (Nat.le_refl _) zeroObj))
  have HZ := Lib.hid (show (w.alloc zeroObj).heap[w.heap.size]? = some zeroObj from alloc_new _ _)
  have HS0 := Lib.hid h
  have HTK := Lib.hid (ltake_any c tv0 nv t0 r0 N _ (h.same HA.out))
  have hlt := h.lt
  have HCL := Lib.hid hcl
  have HTT := Lib.hid hT
  have HB0 := Lib.hid hB
  clear h hcl hT hB
  go_enter Tryd.func29, Tryd.ntmps29
  go_wp2_with fail
  refine HTK.out.mono ?_
  rintro e w1 ⟨rfl, ⟨tl, hs, htl⟩, hg⟩
  unfold agT
  have hz1 := (hg.block _ (hltD HZ.out) (fun e => by have e2 : w.heap.size = c.R := Option.some.inj e; omega)).trans HZ.out
  have hw1 : w.heap.size < w1.heap.size := hltD hz1
  have hb2 := ((Below.refl w1.heap.size w1).alloc (Nat.le_refl _) (tokB t0)).alloc (by simp) (tokB t0)
  have hst : StL c w w1.heap.size tl nv t0 t0 r0 N ((w1.alloc (tokB t0)).alloc (tokB t0)) := by
    refine ⟨(hb2.block _ hw1).trans hz1, (Below.heap_alloc _ _ _ (by simp)).trans (alloc_new _ _), ?_, hs.same (below_gr hb2), htl _ HS0.out.tok, ⟨tv0, t0 :: r0, HS0.out⟩, gr_same ((gr_same ⟨rfl, rfl, rfl, Nat.le_refl _, fun _ _ _ => rfl⟩ HA.out).trans hg) (below_gr hb2), hw1⟩
    have := alloc_new (w1.alloc (tokB t0)) (tokB t0)
    rw [show (w1.alloc (tokB t0)).heap.size = w1.heap.size + 1 by simp] at this
    exact this
  unfold tokB at hst
  have HST := Lib.hid hst
  clear hs htl hg hz1 hb2 hst HTK HA HZ
  go_upto_region 3 with fail
  obtain ⟨W, hW⟩ : ∃ W, W = (w1.alloc (.cells #[.int .i64 t0.k, .string ⟨t0.s.toArray⟩, .int .i64 t0.at_] 63)).alloc (.cells #[.int .i64 t0.k, .string ⟨t0.s.toArray⟩, .int .i64 t0.at_] 63) := ⟨_, rfl⟩
  rw [← hW] at HST
  rw [← hW]
  clear hW
  obtain ⟨n1, hn1⟩ : ∃ n1, n1 = w1.heap.size := ⟨_, rfl⟩
  rw [← hn1] at HST hw1
  rw [← hn1]
  clear hn1
  obtain ⟨⟨y0, y1, y2⟩, -⟩ := tok3 HST.out.fst
  go_upto_if 14 with fail
  go_cut [5] (fun s5 wx => s5 = .int .i64 (if t0.k = 1 then 1 else 0 : Nat) ∧ Hid (StL c w n1 tl nv t0 t0 r0 N wx))
  case first =>
    cases hk : ((t0.k : Int) == 1)
    · have HK := Lib.hid (show (if t0.k = 1 then 1 else 0 : Nat) = 0 from if_neg (by have h : ¬ (t0.k : Int) = 1 := by simpa using hk
                                                                                     omega))
      go_wp2_with fail
      go_meet
      case rel => exact ⟨by rw [HK.out]; rfl, HST⟩
    · have HK := Lib.hid (show (if t0.k = 1 then 1 else 0 : Nat) = 1 from if_pos (by have h : (t0.k : Int) = 1 := by simpa using hk
                                                                                     omega))
      go_wp2_with fail
      go_meet
      case rel => exact ⟨by rw [HK.out]; rfl, HST⟩
  case rest =>
  obtain ⟨rfl, HSX⟩ := hcut
  clear HST y0 y1 y2
  have hd0 : (if t0.k = 1 then 1 else 0 : Nat) ≤ 1 := by split <;> omega
  generalize (if t0.k = 1 then 1 else 0 : Nat) = d0 at HCL hd0
  go_wp2_with fail
  go_loopg [5] (r0.length + 1) (fun m ov wr => ∃ (d : Nat) (la : Tok) (ts : List Tok) (tl : Value), ov = .int .i64 d ∧ Hid (clos ts d la = some (laF, rF)) ∧ Hid (ts.length + 1 = m) ∧ Hid (d + ts.length ≤ d0 + r0.length) ∧ Hid (StL c w n1 tl nv t0 la ts N wr))
  case atStart => exact ⟨d0, t0, r0, tl, rfl, HCL, Lib.hid rfl, Lib.hid (Nat.le_refl _), HSX⟩
  case round =>
    clear HSX HCL
    obtain ⟨d, la, ts, tl1, rfl, hc, hm, hb, HSL⟩ := hrel
    cases d with
    | zero =>
      have hcz : la = laF ∧ ts = rF := by
        have h := hc.out
        cases ts with
        | nil => simp only [clos] at h; cases h; exact ⟨rfl, rfl⟩
        | cons t r => simp only [clos] at h; cases h; exact ⟨rfl, rfl⟩
      obtain ⟨rfl, rfl⟩ := hcz
      have hls : la.s.toArray.size = la.s.length := by simp
      have hwl : IntKind.i64.wrap ((la.at_ : Int) + (la.s.length : Int)) = ((la.at_ + la.s.length : Nat) : Int) := by rw [IntWalk.i64_in _ (by omega)]; omega
      have HK0 := Lib.hid (HSL.out.same (drew_grw _))
      obtain ⟨pb, hpb⟩ : ∃ pb, c.txt.extract t0.at_ (la.at_ + la.s.length) = pb := ⟨_, rfl⟩
      have HPB := Lib.hid (show pb.data.toList = (c.txt.data.toList.take (la.at_ + la.s.length)).drop t0.at_ by rw [← hpb, Lib.extract_data, List.drop_take])
      have hsl : ∀ w' : World, (Instr.slice 9 (.string c.txt) (some (.int .i64 (t0.at_ : Int))) (some (.int .i64 ((la.at_ : Int) + (la.s.length : Int)))) none).run Tryd.prog w' = .ok (.string pb) w' := by
        intro w'
        rw [← hpb, ← Int.natCast_add]
        exact slice_two w' c.txt t0.at_ (la.at_ + la.s.length) Tryd.underlying9 h1 h2
      have HPS := Lib.hid (show pb.size ≤ 10000000 from by
        have h := congrArg List.length HPB.out
        simp only [List.length_drop, List.length_take] at h
        have e : pb.data.toList.length = pb.size := by simp
        omega)
      have HRA := Lib.hid (fun (w' : World) (hs : StL c w n1 tl1 nv t0 la ts N w') => read_any pb N nv c.i c.j w' HPS.out (((HTT.out.keep (gr_below hs.fr HB0.out)).up (by have := hs.fr.size; have := HB0.out; omega))) (own_txl hs.st.nm) (by omega) (fun y hy => by have := hN.2 y hy; omega))
      clear hpb
      go_wp2_with fail
      refine wp_region_held_drew (S := fun w' => StL c w n1 tl1 nv t0 la ts N w') (by kernel_rfl) ?_ (fun hHeld => ?_)
      · (try dsimp only)
        (first | exact HK0.out | exact HK31.out | exact HK30.out | exact HK25.out)
      refine take_at 0 30 os12_0 (v := ?_) (Or.inl ⟨by rfl, ?_⟩) ?_
      rotate_left 1
      · ((intro w hSw; (try dsimp only at hSw); unfold os12_0; go_simp) <;> with_reducible rfl)
      (try simp only [Act.put, List.setIfInBounds_toArray, List.set_cons_zero, List.set_cons_succ])
      refine take_at 1 31 os12_1 (v := ?_) (Or.inl ⟨by rfl, ?_⟩) ?_
      rotate_left 1
      · ((intro w hSw; (try dsimp only at hSw); unfold os12_1; go_simp) <;> with_reducible rfl)
      (try simp only [Act.put, List.setIfInBounds_toArray, List.set_cons_zero, List.set_cons_succ])
      refine take_at 2 32 os12_2 (v := ?_) (Or.inl ⟨by rfl, ?_⟩) ?_
      rotate_left 1
      · ((intro w hSw; (try dsimp only at hSw); unfold os12_2; go_simp) <;> with_reducible rfl)
      (try simp only [Act.put, List.setIfInBounds_toArray, List.set_cons_zero, List.set_cons_succ])
      refine take_at 3 33 os12_3 (v := ?_) (Or.inl ⟨by rfl, ?_⟩) ?_
      rotate_left 1
      · ((intro w hSw; (try dsimp only at hSw); obtain ⟨c0, c1, c2, c3, c4⟩ := hSw.st.cells; obtain ⟨⟨y0, y1, y2⟩, -⟩ := tok3 hSw.fst; obtain ⟨⟨x0, x1, x2⟩, -⟩ := tok3 hSw.lst; unfold os12_3; go_simp) <;> with_reducible rfl)
      (try simp only [Act.put, List.setIfInBounds_toArray, List.set_cons_zero, List.set_cons_succ])
      refine take_at 4 34 os12_4 (v := ?_) (Or.inl ⟨by rfl, ?_⟩) ?_
      rotate_left 1
      · ((intro w hSw; (try dsimp only at hSw); unfold os12_4; go_simp) <;> with_reducible rfl)
      (try simp only [Act.put, List.setIfInBounds_toArray, List.set_cons_zero, List.set_cons_succ])
      refine take_at 5 35 os12_5 (v := ?_) (Or.inl ⟨by rfl, ?_⟩) ?_
      rotate_left 1
      · ((intro w hSw; (try dsimp only at hSw); obtain ⟨c0, c1, c2, c3, c4⟩ := hSw.st.cells; obtain ⟨⟨y0, y1, y2⟩, -⟩ := tok3 hSw.fst; obtain ⟨⟨x0, x1, x2⟩, -⟩ := tok3 hSw.lst; unfold os12_5; go_simp) <;> with_reducible rfl)
      (try simp only [Act.put, List.setIfInBounds_toArray, List.set_cons_zero, List.set_cons_succ])
      refine take_at 6 36 os12_6 (v := ?_) (Or.inl ⟨by rfl, ?_⟩) ?_
      rotate_left 1
      · ((intro w hSw; (try dsimp only at hSw); unfold os12_6; go_simp) <;> with_reducible rfl)
      (try simp only [Act.put, List.setIfInBounds_toArray, List.set_cons_zero, List.set_cons_succ])
      refine take_at 7 37 os12_7 (v := ?_) (Or.inl ⟨by rfl, ?_⟩) ?_
      rotate_left 1
      · ((intro w hSw; (try dsimp only at hSw); obtain ⟨c0, c1, c2, c3, c4⟩ := hSw.st.cells; obtain ⟨⟨y0, y1, y2⟩, -⟩ := tok3 hSw.fst; obtain ⟨⟨x0, x1, x2⟩, -⟩ := tok3 hSw.lst; unfold os12_7; go_simp) <;> with_reducible rfl)
      (try simp only [Act.put, List.setIfInBounds_toArray, List.set_cons_zero, List.set_cons_succ])
      refine take_at 8 38 os12_8 (v := ?_) (Or.inl ⟨by rfl, ?_⟩) ?_
      rotate_left 1
      · ((intro w hSw; (try dsimp only at hSw); unfold os12_8; go_simp) <;> with_reducible rfl)
      (try simp only [Act.put, List.setIfInBounds_toArray, List.set_cons_zero, List.set_cons_succ])
      refine take_at 9 39 os12_9 (v := ?_) (Or.inl ⟨by rfl, ?_⟩) ?_
      rotate_left 1
      · ((intro w hSw; (try dsimp only at hSw); obtain ⟨c0, c1, c2, c3, c4⟩ := hSw.st.cells; obtain ⟨⟨y0, y1, y2⟩, -⟩ := tok3 hSw.fst; obtain ⟨⟨x0, x1, x2⟩, -⟩ := tok3 hSw.lst; unfold os12_9; go_simp) <;> with_reducible rfl)
      (try simp only [Act.put, List.setIfInBounds_toArray, List.set_cons_zero, List.set_cons_succ])
      refine take_at 10 40 os12_10 (v := ?_) (Or.inl ⟨by rfl, ?_⟩) ?_
      rotate_left 1
      · ((intro w hSw; (try dsimp only at hSw); unfold os12_10; go_simp) <;> with_reducible rfl)
      (try simp only [Act.put, List.setIfInBounds_toArray, List.set_cons_zero, List.set_cons_succ])
      refine take_at 11 41 os12_11 (v := ?_) (Or.inl ⟨by rfl, ?_⟩) ?_
      rotate_left 1
      · ((intro w hSw; (try dsimp only at hSw); unfold os12_11; go_simp) <;> with_reducible rfl)
      (try simp only [Act.put, List.setIfInBounds_toArray, List.set_cons_zero, List.set_cons_succ])
      refine take_at 12 42 os12_12 (v := ?_) (Or.inl ⟨by rfl, ?_⟩) ?_
      rotate_left 1
      · ((intro w hSw; (try dsimp only at hSw); unfold os12_12; go_simp) <;> with_reducible rfl)
      (try simp only [Act.put, List.setIfInBounds_toArray, List.set_cons_zero, List.set_cons_succ])
      refine take_at 13 43 os12_13 (v := ?_) (Or.inl ⟨by rfl, ?_⟩) ?_
      rotate_left 1
      · ((intro w hSw; (try dsimp only at hSw); unfold os12_13; go_simp) <;> with_reducible rfl)
      (try simp only [Act.put, List.setIfInBounds_toArray, List.set_cons_zero, List.set_cons_succ])
      refine take_at 14 44 os12_14 (v := ?_) (Or.inl ⟨by rfl, ?_⟩) ?_
      rotate_left 1
      · ((intro w hSw; (try dsimp only at hSw); unfold os12_14; go_simp) <;> with_reducible rfl)
      (try simp only [Act.put, List.setIfInBounds_toArray, List.set_cons_zero, List.set_cons_succ])
      refine take_at 15 45 os12_15 (v := ?_) (Or.inl ⟨by rfl, ?_⟩) ?_
      rotate_left 1
      · ((intro w hSw; (try dsimp only at hSw); unfold os12_15; go_simp) <;> with_reducible rfl)
      (try simp only [Act.put, List.setIfInBounds_toArray, List.set_cons_zero, List.set_cons_succ])
      refine take_at 16 46 os12_16 (v := ?_) (Or.inl ⟨by rfl, ?_⟩) ?_
      rotate_left 1
      · ((intro w hSw; (try dsimp only at hSw); obtain ⟨c0, c1, c2, c3, c4⟩ := hSw.st.cells; obtain ⟨⟨y0, y1, y2⟩, -⟩ := tok3 hSw.fst; obtain ⟨⟨x0, x1, x2⟩, -⟩ := tok3 hSw.lst; unfold os12_16; go_simp) <;> with_reducible rfl)
      (try simp only [Act.put, List.setIfInBounds_toArray, List.set_cons_zero, List.set_cons_succ])
      refine take_at 17 47 os12_17 (v := ?_) (Or.inl ⟨by rfl, ?_⟩) ?_
      rotate_left 1
      · ((intro w hSw; (try dsimp only at hSw); unfold os12_17; go_simp) <;> with_reducible rfl)
      (try simp only [Act.put, List.setIfInBounds_toArray, List.set_cons_zero, List.set_cons_succ])
      refine take_at 18 48 os12_18 (v := ?_) (Or.inl ⟨by rfl, ?_⟩) ?_
      rotate_left 1
      · ((intro w hSw; (try dsimp only at hSw); unfold os12_18; go_simp) <;> with_reducible rfl)
      (try simp only [Act.put, List.setIfInBounds_toArray, List.set_cons_zero, List.set_cons_succ])
      refine take_at 19 49 os12_19 (v := ?_) (Or.inl ⟨by rfl, ?_⟩) ?_
      rotate_left 1
      · ((intro w hSw; (try dsimp only at hSw); unfold os12_19; go_simp) <;> with_reducible rfl)
      (try simp only [Act.put, List.setIfInBounds_toArray, List.set_cons_zero, List.set_cons_succ])
      refine take_at 20 50 os12_20 (v := ?_) (Or.inl ⟨by rfl, ?_⟩) ?_
      rotate_left 1
      · ((intro w hSw; (try dsimp only at hSw); obtain ⟨c0, c1, c2, c3, c4⟩ := hSw.st.cells; obtain ⟨⟨y0, y1, y2⟩, -⟩ := tok3 hSw.fst; obtain ⟨⟨x0, x1, x2⟩, -⟩ := tok3 hSw.lst; unfold os12_20; go_simp) <;> with_reducible rfl)
      (try simp only [Act.put, List.setIfInBounds_toArray, List.set_cons_zero, List.set_cons_succ])
      refine take_at 21 51 os12_21 (v := ?_) (Or.inl ⟨by rfl, ?_⟩) ?_
      rotate_left 1
      · ((intro w hSw; (try dsimp only at hSw); unfold os12_21; go_simp) <;> with_reducible rfl)
      (try simp only [Act.put, List.setIfInBounds_toArray, List.set_cons_zero, List.set_cons_succ])
      refine take_at 22 52 os12_22 (v := ?_) (Or.inl ⟨by rfl, ?_⟩) ?_
      rotate_left 1
      · ((intro w hSw; (try dsimp only at hSw); unfold os12_22; go_simp) <;> with_reducible rfl)
      (try simp only [Act.put, List.setIfInBounds_toArray, List.set_cons_zero, List.set_cons_succ])
      refine take_at 23 53 os12_23 (v := ?_) (Or.inl ⟨by rfl, ?_⟩) ?_
      rotate_left 1
      · ((intro w hSw; (try dsimp only at hSw); unfold os12_23; go_simp) <;> with_reducible rfl)
      (try simp only [Act.put, List.setIfInBounds_toArray, List.set_cons_zero, List.set_cons_succ])
      refine take_at 24 54 os12_24 (v := ?_) (Or.inl ⟨by rfl, ?_⟩) ?_
      rotate_left 1
      · ((intro w hSw; (try dsimp only at hSw); obtain ⟨c0, c1, c2, c3, c4⟩ := hSw.st.cells; obtain ⟨⟨y0, y1, y2⟩, -⟩ := tok3 hSw.fst; obtain ⟨⟨x0, x1, x2⟩, -⟩ := tok3 hSw.lst; unfold os12_24; go_simp) <;> with_reducible rfl)
      (try simp only [Act.put, List.setIfInBounds_toArray, List.set_cons_zero, List.set_cons_succ])
      refine wpAnyH_ready (rs := [25, 30]) (by kernel_rfl) (by simp) ?_
      refine AllReadyH.cons (o := os12_25) rfl (fun K hK => ?_) ?_
      · unfold os12_25
        have HRD := Lib.hid (HRA.out _ HK0.out)
        go_simp
        (go_at_call 8; with_reducible refine Calls.mono HRD.out ?_)
        intro e wn hg
        obtain ⟨sv, kk, aa, rfl, hl, hfi, hbn⟩ := readG_out hg
        have HK25 := Lib.hid (HK0.out.same (below_gr hbn))
        have HBN := Lib.hid hbn
        have HL := Lib.hid hl
        have HFI := Lib.hid hfi
        obtain ⟨t, ht⟩ : ∃ t, outT (readB pb.data.toList N c.i c.j) = t := ⟨_, rfl⟩
        rw [ht] at HL HFI
        rw [ht]
        have HT := Lib.hid ht
        clear hg hl hfi hbn ht
        obtain ⟨au, cu, rfl, -, -⟩ := HL.out.out
        refine hK.out _ _ ?_ (fun hHeld => ?_)
        · (try dsimp only)
          (first | exact HK0.out | exact HK31.out | exact HK30.out | exact HK25.out)
        clear hK K
        (try simp only [Act.put, List.setIfInBounds_toArray, List.set_cons_zero, List.set_cons_succ])
        refine take_at 26 29 os12_26 (v := ?_) (Or.inl ⟨by rfl, ?_⟩) ?_
        rotate_left 1
        · ((intro w hSw; (try dsimp only at hSw); unfold os12_26; go_simp) <;> with_reducible rfl)
        (try simp only [Act.put, List.setIfInBounds_toArray, List.set_cons_zero, List.set_cons_succ])
        refine take_at 27 56 os12_27 (v := ?_) (Or.inl ⟨by rfl, ?_⟩) ?_
        rotate_left 1
        · ((intro w hSw; (try dsimp only at hSw); unfold os12_27; go_simp) <;> with_reducible rfl)
        (try simp only [Act.put, List.setIfInBounds_toArray, List.set_cons_zero, List.set_cons_succ])
        refine take_at 28 57 os12_28 (v := ?_) (Or.inl ⟨by rfl, ?_⟩) ?_
        rotate_left 1
        · ((intro w hSw; (try dsimp only at hSw); unfold os12_28; go_simp) <;> with_reducible rfl)
        (try simp only [Act.put, List.setIfInBounds_toArray, List.set_cons_zero, List.set_cons_succ])
        refine take_at 29 58 os12_29 (v := ?_) (Or.inl ⟨by rfl, ?_⟩) ?_
        rotate_left 1
        · ((intro w hSw; (try dsimp only at hSw); unfold os12_29; go_simp) <;> with_reducible rfl)
        (try simp only [Act.put, List.setIfInBounds_toArray, List.set_cons_zero, List.set_cons_succ])
        refine wpAnyH_ready (rs := [30]) (by kernel_rfl) (by simp) ?_
        refine AllReadyH.cons (o := os12_30) rfl (fun K hK => ?_) ?_
        · unfold os12_30
          go_simp
          have HK30 := Lib.hid (HK25.out.same (below_gr ((Below.refl wn.heap.size wn).alloc (Nat.le_refl _) (.cells #[.int .i64 0, .int .i64 0, .int .i64 0, .int .i64 0, .slice none 0 0] 26))))
          refine hK.out _ _ ?_ (fun hHeld => ?_)
          · (try dsimp only)
            (first | exact HK0.out | exact HK31.out | exact HK30.out | exact HK25.out)
          clear hK K
          (try simp only [Act.put, List.setIfInBounds_toArray, List.set_cons_zero, List.set_cons_succ])
          refine wpAnyH_ready (rs := [31]) (by kernel_rfl) (by simp) ?_
          refine AllReadyH.cons (o := os12_31) rfl (fun K hK => ?_) ?_
          · unfold os12_31
            unfold tv
            go_simp
            have HK31 := Lib.hid (HK25.out.same (below_gr ((Below.refl wn.heap.size wn).alloc (Nat.le_refl _) (.cells #[.int .i64 t.k, .int .i64 t.i, .int .i64 t.j, .int .i64 t.n, .slice au t.kids.length cu] 26))))
            refine hK.out _ _ ?_ (fun hHeld => ?_)
            · (try dsimp only)
              (first | exact HK0.out | exact HK31.out | exact HK30.out | exact HK25.out)
            clear hK K
            (try simp only [Act.put, List.setIfInBounds_toArray, List.set_cons_zero, List.set_cons_succ])
            refine take_at 32 7 os12_32 (v := ?_) (Or.inl ⟨by rfl, ?_⟩) ?_
            rotate_left 1
            · ((intro w hSw; (try dsimp only at hSw); unfold os12_32; go_simp) <;> with_reducible rfl)
            (try simp only [Act.put, List.setIfInBounds_toArray, List.set_cons_zero, List.set_cons_succ])
            refine take_at 33 8 os12_33 (v := ?_) (Or.inl ⟨by rfl, ?_⟩) ?_
            rotate_left 1
            · ((intro w hSw; (try dsimp only at hSw); unfold os12_33; go_simp) <;> with_reducible rfl)
            (try simp only [Act.put, List.setIfInBounds_toArray, List.set_cons_zero, List.set_cons_succ])
            refine wpAnyH_done (by kernel_rfl) ?_ _
            clear hHeld
            have HVB := Lib.hid (show (wn.alloc (.cells #[.int .i64 t.k, .int .i64 t.i, .int .i64 t.j, .int .i64 t.n, .slice au t.kids.length cu] 26)).heap[wn.heap.size]? = some (boxOf t (.slice au t.kids.length cu)) from alloc_new _ _)
            have HVL := Lib.hid (show LiesP (wn.alloc (.cells #[.int .i64 t.k, .int .i64 t.i, .int .i64 t.j, .int .i64 t.n, .slice au t.kids.length cu] 26)) (Own (w.heap.size + 1) (wn.alloc (.cells #[.int .i64 t.k, .int .i64 t.i, .int .i64 t.j, .int .i64 t.n, .slice au t.kids.length cu] 26))) t.kids (.slice au t.kids.length cu) from HL.out.later ((Below.refl wn.heap.size wn).alloc (Nat.le_refl _) _) |>.from (B' := w.heap.size + 1) (by have := hltD HSL.out.res; show w.heap.size + 1 ≤ wr.heap.size; omega))
            go_upto_region 13 with fail
            obtain ⟨V, hV⟩ : ∃ V, V = wn.alloc (.cells #[.int .i64 t.k, .int .i64 t.i, .int .i64 t.j, .int .i64 t.n, .slice au t.kids.length cu] 26) := ⟨_, rfl⟩
            rw [← hV] at HVB HVL HK31
            (try unfold five at hV)
            rw [← hV]
            clear hV
            obtain ⟨b0, b1, b2, b3, b4⟩ := five_cells (show V.heap[wn.heap.size]? = some (.cells #[.int .i64 t.k, .int .i64 t.i, .int .i64 t.j, .int .i64 t.n, .slice au t.kids.length cu] 26 (0, 0)) from HVB.out)
            obtain ⟨z0, z1, z2, z3, z4⟩ := five_cells HK31.out.res
            obtain ⟨e0, e1, e2, e3, e4⟩ := five_free HK31.out.res
            have hz := HK31.out.res
            have hdn := HK31.out.done (.int .i64 t.k) (.int .i64 t.i) (.int .i64 t.j) (.int .i64 t.n) (.slice au t.kids.length cu)
            have HE := Lib.hid (show LtG c pb.data.toList N nv ts w (.returned (tv t (.slice au t.kids.length cu))) (five V w.heap.size (.int .i64 t.k) (.int .i64 t.i) (.int .i64 t.j) (.int .i64 t.n) (.slice au t.kids.length cu)) from ⟨_, _, by rw [HT.out], by rw [HT.out]; exact liesP_fives HVL.out (Nat.lt_succ_self _) (Nat.le_succ _) _ _ _ _ _, by rw [HT.out]; exact HFI.out, hdn.1, HK31.out.tk, hdn.2⟩)
            clear hdn
            go_wp2
            (try simp only [Exit.inBlock, Exit.then])
            refine bodyPost_ret (results_cell_row rfl _ _ w.heap.size _ _ _ du rfl (five_set hz) hu1 (by cases du <;> first | rfl | exact hu2) size_term) rfl ?_
            rw [← HPB.out]
            exact HE.out
          exact AllReadyH.nil
        exact AllReadyH.nil
      refine AllReadyH.cons (o := os12_30) rfl (fun K hK => ?_) ?_
      · unfold os12_30
        go_simp
        have HK30 := Lib.hid (show StL c w n1 tl1 nv t0 la ts N (wr.alloc (.cells #[.int .i64 0, .int .i64 0, .int .i64 0, .int .i64 0, .slice none 0 0] 26)).drew from (HSL.out.same (below_gr ((Below.refl wr.heap.size wr).alloc (Nat.le_refl _) zeroObj))).same (drew_grw _))
        refine hK.out _ _ ?_ (fun hHeld => ?_)
        · (try dsimp only)
          (first | exact HK0.out | exact HK31.out | exact HK30.out | exact HK25.out)
        clear hK K
        (try simp only [Act.put, List.setIfInBounds_toArray, List.set_cons_zero, List.set_cons_succ])
        refine wpAnyH_ready (rs := [25]) (by kernel_rfl) (by simp) ?_
        refine AllReadyH.cons (o := os12_25) rfl (fun K hK => ?_) ?_
        · unfold os12_25
          have HRD := Lib.hid (HRA.out _ HK30.out)
          go_simp
          (go_at_call 8; with_reducible refine Calls.mono HRD.out ?_)
          intro e wn hg
          obtain ⟨sv, kk, aa, rfl, hl, hfi, hbn⟩ := readG_out hg
          have HK25 := Lib.hid (HK30.out.same (below_gr hbn))
          have HBN := Lib.hid hbn
          have HL := Lib.hid hl
          have HFI := Lib.hid hfi
          obtain ⟨t, ht⟩ : ∃ t, outT (readB pb.data.toList N c.i c.j) = t := ⟨_, rfl⟩
          rw [ht] at HL HFI
          rw [ht]
          have HT := Lib.hid ht
          clear hg hl hfi hbn ht
          obtain ⟨au, cu, rfl, -, -⟩ := HL.out.out
          refine hK.out _ _ ?_ (fun hHeld => ?_)
          · (try dsimp only)
            (first | exact HK0.out | exact HK31.out | exact HK30.out | exact HK25.out)
          clear hK K
          (try simp only [Act.put, List.setIfInBounds_toArray, List.set_cons_zero, List.set_cons_succ])
          refine take_at 26 29 os12_26 (v := ?_) (Or.inl ⟨by rfl, ?_⟩) ?_
          rotate_left 1
          · ((intro w hSw; (try dsimp only at hSw); unfold os12_26; go_simp) <;> with_reducible rfl)
          (try simp only [Act.put, List.setIfInBounds_toArray, List.set_cons_zero, List.set_cons_succ])
          refine take_at 27 56 os12_27 (v := ?_) (Or.inl ⟨by rfl, ?_⟩) ?_
          rotate_left 1
          · ((intro w hSw; (try dsimp only at hSw); unfold os12_27; go_simp) <;> with_reducible rfl)
          (try simp only [Act.put, List.setIfInBounds_toArray, List.set_cons_zero, List.set_cons_succ])
          refine take_at 28 57 os12_28 (v := ?_) (Or.inl ⟨by rfl, ?_⟩) ?_
          rotate_left 1
          · ((intro w hSw; (try dsimp only at hSw); unfold os12_28; go_simp) <;> with_reducible rfl)
          (try simp only [Act.put, List.setIfInBounds_toArray, List.set_cons_zero, List.set_cons_succ])
          refine take_at 29 58 os12_29 (v := ?_) (Or.inl ⟨by rfl, ?_⟩) ?_
          rotate_left 1
          · ((intro w hSw; (try dsimp only at hSw); unfold os12_29; go_simp) <;> with_reducible rfl)
          (try simp only [Act.put, List.setIfInBounds_toArray, List.set_cons_zero, List.set_cons_succ])
          refine wpAnyH_ready (rs := [31]) (by kernel_rfl) (by simp) ?_
          refine AllReadyH.cons (o := os12_31) rfl (fun K hK => ?_) ?_
          · unfold os12_31
            have hbx : wn.heap[wr.heap.size]? = some (.cells #[.int .i64 0, .int .i64 0, .int .i64 0, .int .i64 0, .slice none 0 0] 26 (0, 0)) := (HBN.out.block _ (by simp)).trans (show (wr.alloc (.cells #[.int .i64 0, .int .i64 0, .int .i64 0, .int .i64 0, .slice none 0 0] 26)).heap[wr.heap.size]? = _ from alloc_new _ _)
            have HBX := Lib.hid hbx
            obtain ⟨b0, b1, b2, b3, b4⟩ := five_cells hbx
            obtain ⟨e0, e1, e2, e3, e4⟩ := five_free hbx
            have HK31 := Lib.hid (HK25.out.fiv (by have := HSL.out.fr.size; omega) (hltD HSL.out.lst) (.int .i64 t.k) (.int .i64 t.i) (.int .i64 t.j) (.int .i64 t.n) (.slice au t.kids.length cu))
            clear hbx
            unfold tv
            go_simp
            refine hK.out _ _ ?_ (fun hHeld => ?_)
            · (try dsimp only)
              (first | exact HK0.out | exact HK31.out | exact HK30.out | exact HK25.out)
            clear hK K
            (try simp only [Act.put, List.setIfInBounds_toArray, List.set_cons_zero, List.set_cons_succ])
            refine take_at 32 7 os12_32 (v := ?_) (Or.inl ⟨by rfl, ?_⟩) ?_
            rotate_left 1
            · ((intro w hSw; (try dsimp only at hSw); unfold os12_32; go_simp) <;> with_reducible rfl)
            (try simp only [Act.put, List.setIfInBounds_toArray, List.set_cons_zero, List.set_cons_succ])
            refine take_at 33 8 os12_33 (v := ?_) (Or.inl ⟨by rfl, ?_⟩) ?_
            rotate_left 1
            · ((intro w hSw; (try dsimp only at hSw); unfold os12_33; go_simp) <;> with_reducible rfl)
            (try simp only [Act.put, List.setIfInBounds_toArray, List.set_cons_zero, List.set_cons_succ])
            refine wpAnyH_done (by kernel_rfl) ?_ _
            clear hHeld
            have HVB := Lib.hid (show (five wn wr.heap.size (.int .i64 t.k) (.int .i64 t.i) (.int .i64 t.j) (.int .i64 t.n) (.slice au t.kids.length cu)).heap[wr.heap.size]? = some (boxOf t (.slice au t.kids.length cu)) from five_set HBX.out)
            have HVL := Lib.hid (show LiesP (five wn wr.heap.size (.int .i64 t.k) (.int .i64 t.i) (.int .i64 t.j) (.int .i64 t.n) (.slice au t.kids.length cu)) (Own (w.heap.size + 1) (five wn wr.heap.size (.int .i64 t.k) (.int .i64 t.i) (.int .i64 t.j) (.int .i64 t.n) (.slice au t.kids.length cu))) t.kids (.slice au t.kids.length cu) from liesP_fives (N := w.heap.size + 1) HL.out (by simp) (by have := hltD HSL.out.res; simp; omega) _ _ _ _ _)
            go_upto_region 13 with fail
            obtain ⟨V, hV⟩ : ∃ V, V = five wn wr.heap.size (.int .i64 t.k) (.int .i64 t.i) (.int .i64 t.j) (.int .i64 t.n) (.slice au t.kids.length cu) := ⟨_, rfl⟩
            rw [← hV] at HVB HVL HK31
            (try unfold five at hV)
            rw [← hV]
            clear hV
            obtain ⟨b0, b1, b2, b3, b4⟩ := five_cells (show V.heap[wr.heap.size]? = some (.cells #[.int .i64 t.k, .int .i64 t.i, .int .i64 t.j, .int .i64 t.n, .slice au t.kids.length cu] 26 (0, 0)) from HVB.out)
            obtain ⟨z0, z1, z2, z3, z4⟩ := five_cells HK31.out.res
            obtain ⟨e0, e1, e2, e3, e4⟩ := five_free HK31.out.res
            have hz := HK31.out.res
            have hdn := HK31.out.done (.int .i64 t.k) (.int .i64 t.i) (.int .i64 t.j) (.int .i64 t.n) (.slice au t.kids.length cu)
            have HE := Lib.hid (show LtG c pb.data.toList N nv ts w (.returned (tv t (.slice au t.kids.length cu))) (five V w.heap.size (.int .i64 t.k) (.int .i64 t.i) (.int .i64 t.j) (.int .i64 t.n) (.slice au t.kids.length cu)) from ⟨_, _, by rw [HT.out], by rw [HT.out]; exact liesP_fives HVL.out (Nat.lt_succ_self _) (Nat.le_succ _) _ _ _ _ _, by rw [HT.out]; exact HFI.out, hdn.1, HK31.out.tk, hdn.2⟩)
            clear hdn
            go_wp2
            (try simp only [Exit.inBlock, Exit.then])
            refine bodyPost_ret (results_cell_row rfl _ _ w.heap.size _ _ _ du rfl (five_set hz) hu1 (by cases du <;> first | rfl | exact hu2) size_term) rfl ?_
            rw [← HPB.out]
            exact HE.out
          exact AllReadyH.nil
        exact AllReadyH.nil
      exact AllReadyH.nil
    | succ d =>
      cases ts with
      | nil => have h := hc.out; simp only [clos] at h; cases h
      | cons t r =>
        have hcc := hc.out
        rw [clos_cons] at hcc
        have hmm := hm.out
        simp only [List.length_cons] at hmm
        have HB := Lib.hid (show d + 1 + (r.length + 1) ≤ d0 + r0.length from hb.out)
        have hbb := HB.out
        have HTK := Lib.hid (ltake_any c tl1 nv t r N _ HSL.out.st)
        have hdp : (0 : Int) < ((d + 1 : Nat) : Int) := by omega
        clear hc hm hb
        go_wp2_with fail
        refine HTK.out.mono ?_
        rintro e wn ⟨rfl, ⟨tl2, hs, htl⟩, hg⟩
        have hst := (HSL.out.take hs htl hg).put t
        have HSV := Lib.hid hst
        obtain ⟨-, g1⟩ := tok3 (HSL.out.take hs htl hg).lst
        have z0 := g1 0
        have z1 := g1 1
        have z2 := g1 2
        obtain ⟨⟨q0, q1, q2⟩, -⟩ := tok3 (HSL.out.take hs htl hg).lst
        clear hs htl hg hst HTK g1
        unfold agT
        go_upto_region 7 with fail
        obtain ⟨V, hV⟩ : ∃ V, V = thr wn (n1 + 1) (.int .i64 t.k) (.string ⟨t.s.toArray⟩) (.int .i64 t.at_) := ⟨_, rfl⟩
        rw [← hV] at HSV
        unfold thr at hV
        rw [← hV]
        clear hV z0 z1 z2 q0 q1 q2
        obtain ⟨⟨y0, y1, y2⟩, -⟩ := tok3 HSV.out.lst
        by_cases h1k : t.k = 1
        · have hk1 : ((t.k : Int) == 1) = true := by simp [h1k]
          rw [if_pos h1k] at hcc
          have HCC := Lib.hid hcc
          have hwd : IntKind.i64.wrap (((d + 1 : Nat) : Int) + 1) = ((d + 2 : Nat) : Int) := by rw [IntWalk.i64_in _ (by omega)]; omega
          clear hcc h1k
          go_wp2_with fail
          go_roundg (r.length + 1)
          case measure => omega
          case rel => exact ⟨d + 2, t, r, tl2, rfl, HCC, Lib.hid rfl, Lib.hid (by have := HB.out; omega), HSV⟩
        · by_cases h2k : t.k = 2
          · have hk1 : ((t.k : Int) == 1) = false := by simp; omega
            have hk2 : ((t.k : Int) == 2) = true := by simp [h2k]
            rw [if_neg h1k, if_pos h2k] at hcc
            have HCC := Lib.hid hcc
            have hwd : IntKind.i64.wrap (((d + 1 : Nat) : Int) - 1) = ((d : Nat) : Int) := by rw [IntWalk.i64_in _ (by omega)]; omega
            clear hcc h1k h2k
            go_wp2_with fail
            go_roundg (r.length + 1)
            case measure => omega
            case rel => exact ⟨d, t, r, tl2, rfl, HCC, Lib.hid rfl, Lib.hid (by have := HB.out; omega), HSV⟩
          · have hk1 : ((t.k : Int) == 1) = false := by simp; omega
            have hk2 : ((t.k : Int) == 2) = false := by simp; omega
            rw [if_neg h1k, if_neg h2k] at hcc
            have HCC := Lib.hid hcc
            clear hcc h1k h2k
            go_wp2_with fail
            go_roundg (r.length + 1)
            case measure => omega
            case rel => exact ⟨d + 1, t, r, tl2, rfl, HCC, Lib.hid rfl, Lib.hid (by have := HB.out; omega), HSV⟩
end Go.Proofs.YtpekceadjcbphaaDoor.Sg

namespace Go.Proofs.YtpekceadjcbphaaDoor.Sg

/-- The parameters' types. -/
def parsT (i j : Int) : Names → List (List UInt8 × List UInt8) → List Tm
  | _, [] => []
  | N, (x, p) :: r => outT (readB p N i j) :: parsT i j (N ++ [x]) r
def typeT (pl : Plan) (i j : Int) : Tm := outT (readB pl.type (pl.pars.map (·.1)) i j)
def bodyT (pl : Plan) (i j : Int) : Tm := match pl.body with
  | none => Tm.zero
  | some b => outT (readB b (pl.pars.map (·.1)) i j)
theorem parsT_length (i j : Int) : ∀ (ps : List (List UInt8 × List UInt8)) (N : Names), (parsT i j N ps).length = ps.length
  | [], _ => rfl
  | (x, p) :: r, N => by simp [parsT, parsT_length i j r]
/-- What a good line is at all levels. -/
theorem plan_good {pl : Plan} (h : planOk pl = true) : parsOk [] pl.pars = true ∧ goodF pl.type (pl.pars.map (·.1)) = true ∧ ∀ b, pl.body = some b → goodF b (pl.pars.map (·.1)) = true := by
  unfold planOk at h
  rw [Bool.and_eq_true, Bool.and_eq_true] at h
  refine ⟨h.1.1, h.1.2, fun b hb => ?_⟩
  have := h.2
  rw [hb] at this
  exact this
theorem lib_plan {l : List UInt8} (h : libOk l = true) : ∃ ts pl, lexL l 0 = (ts, none) ∧ planL l ts = some pl ∧ planOk pl = true := by
  unfold libOk at h
  rw [lexL_F]
  split at h
  · rename_i ts hx
    split at h
    · rename_i pl hp
      exact ⟨ts, pl, hx, hp, h⟩
    · cases h
  · cases h
end Go.Proofs.YtpekceadjcbphaaDoor.Sg

namespace Go.Proofs.YtpekceadjcbphaaDoor.Sg
open Go.RowKit

set_option maxRecDepth 100000
def lib1 : List UInt8 := [40, 97, 120, 105, 111, 109, 32, 117, 105, 112, 32, 40, 40, 65, 32, 40, 115, 111, 114, 116, 32, 105, 41, 41, 32, 40, 97, 32, 65, 41, 32, 40, 98, 32, 65, 41, 32, 40, 112, 32, 40, 69, 113, 32, 65, 32, 97, 32, 98, 41, 41, 32, 40, 113, 32, 40, 69, 113, 32, 65, 32, 97, 32, 98, 41, 41, 41, 32, 40, 69, 113, 32, 40, 69, 113, 32, 65, 32, 97, 32, 98, 41, 32, 112, 32, 113, 41, 41]
theorem libok1 : libOk lib1 = true := by kernel_rfl
def lib2 : List UInt8 := [40, 97, 120, 105, 111, 109, 32, 102, 117, 110, 101, 120, 116, 32, 40, 40, 65, 32, 40, 115, 111, 114, 116, 32, 105, 41, 41, 32, 40, 66, 32, 40, 80, 105, 32, 120, 32, 65, 32, 40, 115, 111, 114, 116, 32, 106, 41, 41, 41, 32, 40, 102, 32, 40, 80, 105, 32, 120, 32, 65, 32, 40, 65, 112, 112, 32, 66, 32, 120, 41, 41, 41, 32, 40, 103, 32, 40, 80, 105, 32, 120, 32, 65, 32, 40, 65, 112, 112, 32, 66, 32, 120, 41, 41, 41, 32, 40, 104, 32, 40, 80, 105, 32, 120, 32, 65, 32, 40, 69, 113, 32, 40, 65, 112, 112, 32, 66, 32, 120, 41, 32, 40, 65, 112, 112, 32, 102, 32, 120, 41, 32, 40, 65, 112, 112, 32, 103, 32, 120, 41, 41, 41, 41, 41, 32, 40, 69, 113, 32, 40, 80, 105, 32, 120, 32, 65, 32, 40, 65, 112, 112, 32, 66, 32, 120, 41, 41, 32, 102, 32, 103, 41, 41]
theorem libok2 : libOk lib2 = true := by kernel_rfl
def lib3 : List UInt8 := [40, 100, 101, 102, 32, 115, 121, 109, 32, 40, 40, 65, 32, 40, 115, 111, 114, 116, 32, 105, 41, 41, 32, 40, 97, 32, 65, 41, 32, 40, 98, 32, 65, 41, 32, 40, 112, 32, 40, 69, 113, 32, 65, 32, 97, 32, 98, 41, 41, 41, 32, 40, 69, 113, 32, 65, 32, 98, 32, 97, 41, 32, 40, 74, 32, 65, 32, 97, 32, 121, 32, 101, 32, 40, 69, 113, 32, 65, 32, 121, 32, 97, 41, 32, 40, 82, 101, 102, 108, 32, 65, 32, 97, 41, 32, 98, 32, 112, 41, 41]
theorem libok3 : libOk lib3 = true := by kernel_rfl
def lib4 : List UInt8 := [40, 100, 101, 102, 32, 116, 114, 97, 110, 115, 32, 40, 40, 65, 32, 40, 115, 111, 114, 116, 32, 105, 41, 41, 32, 40, 97, 32, 65, 41, 32, 40, 98, 32, 65, 41, 32, 40, 99, 32, 65, 41, 32, 40, 112, 32, 40, 69, 113, 32, 65, 32, 97, 32, 98, 41, 41, 32, 40, 113, 32, 40, 69, 113, 32, 65, 32, 98, 32, 99, 41, 41, 41, 32, 40, 69, 113, 32, 65, 32, 97, 32, 99, 41, 32, 40, 74, 32, 65, 32, 98, 32, 121, 32, 101, 32, 40, 69, 113, 32, 65, 32, 97, 32, 121, 41, 32, 112, 32, 99, 32, 113, 41, 41]
theorem libok4 : libOk lib4 = true := by kernel_rfl
def lib5 : List UInt8 := [40, 100, 101, 102, 32, 116, 114, 32, 40, 40, 65, 32, 40, 115, 111, 114, 116, 32, 105, 41, 41, 32, 40, 66, 32, 40, 115, 111, 114, 116, 32, 105, 41, 41, 32, 40, 112, 32, 40, 69, 113, 32, 40, 115, 111, 114, 116, 32, 105, 41, 32, 65, 32, 66, 41, 41, 32, 40, 120, 32, 65, 41, 41, 32, 66, 32, 40, 74, 32, 40, 115, 111, 114, 116, 32, 105, 41, 32, 65, 32, 89, 32, 101, 32, 89, 32, 120, 32, 66, 32, 112, 41, 41]
theorem libok5 : libOk lib5 = true := by kernel_rfl
def lib6 : List UInt8 := [40, 100, 101, 102, 32, 104, 101, 116, 32, 40, 40, 65, 32, 40, 115, 111, 114, 116, 32, 105, 41, 41, 32, 40, 66, 32, 40, 115, 111, 114, 116, 32, 105, 41, 41, 32, 40, 97, 32, 65, 41, 32, 40, 98, 32, 66, 41, 41, 32, 40, 115, 111, 114, 116, 32, 40, 115, 117, 99, 32, 105, 41, 41, 32, 40, 69, 113, 32, 40, 83, 105, 103, 32, 88, 32, 40, 115, 111, 114, 116, 32, 105, 41, 32, 88, 41, 32, 40, 80, 97, 105, 114, 32, 88, 32, 40, 115, 111, 114, 116, 32, 105, 41, 32, 88, 32, 65, 32, 97, 41, 32, 40, 80, 97, 105, 114, 32, 88, 32, 40, 115, 111, 114, 116, 32, 105, 41, 32, 88, 32, 66, 32, 98, 41, 41, 41]
theorem libok6 : libOk lib6 = true := by kernel_rfl
def lib7 : List UInt8 := [40, 100, 101, 102, 32, 116, 121, 112, 32, 40, 40, 65, 32, 40, 115, 111, 114, 116, 32, 105, 41, 41, 32, 40, 66, 32, 40, 115, 111, 114, 116, 32, 105, 41, 41, 32, 40, 97, 32, 65, 41, 32, 40, 98, 32, 66, 41, 32, 40, 104, 32, 40, 117, 115, 101, 32, 104, 101, 116, 32, 105, 32, 48, 32, 65, 32, 66, 32, 97, 32, 98, 41, 41, 41, 32, 40, 69, 113, 32, 40, 115, 111, 114, 116, 32, 105, 41, 32, 65, 32, 66, 41, 32, 40, 74, 32, 40, 83, 105, 103, 32, 88, 32, 40, 115, 111, 114, 116, 32, 105, 41, 32, 88, 41, 32, 40, 80, 97, 105, 114, 32, 88, 32, 40, 115, 111, 114, 116, 32, 105, 41, 32, 88, 32, 65, 32, 97, 41, 32, 121, 32, 101, 32, 40, 69, 113, 32, 40, 115, 111, 114, 116, 32, 105, 41, 32, 65, 32, 40, 70, 115, 116, 32, 121, 41, 41, 32, 40, 82, 101, 102, 108, 32, 40, 115, 111, 114, 116, 32, 105, 41, 32, 65, 41, 32, 40, 80, 97, 105, 114, 32, 88, 32, 40, 115, 111, 114, 116, 32, 105, 41, 32, 88, 32, 66, 32, 98, 41, 32, 104, 41, 41]
theorem libok7 : libOk lib7 = true := by kernel_rfl
def lib8 : List UInt8 := [40, 100, 101, 102, 32, 116, 114, 104, 32, 40, 40, 65, 32, 40, 115, 111, 114, 116, 32, 105, 41, 41, 32, 40, 66, 32, 40, 115, 111, 114, 116, 32, 105, 41, 41, 32, 40, 112, 32, 40, 69, 113, 32, 40, 115, 111, 114, 116, 32, 105, 41, 32, 65, 32, 66, 41, 41, 32, 40, 120, 32, 65, 41, 41, 32, 40, 117, 115, 101, 32, 104, 101, 116, 32, 105, 32, 48, 32, 65, 32, 66, 32, 120, 32, 40, 117, 115, 101, 32, 116, 114, 32, 105, 32, 48, 32, 65, 32, 66, 32, 112, 32, 120, 41, 41, 32, 40, 74, 32, 40, 115, 111, 114, 116, 32, 105, 41, 32, 65, 32, 89, 32, 101, 32, 40, 117, 115, 101, 32, 104, 101, 116, 32, 105, 32, 48, 32, 65, 32, 89, 32, 120, 32, 40, 117, 115, 101, 32, 116, 114, 32, 105, 32, 48, 32, 65, 32, 89, 32, 101, 32, 120, 41, 41, 32, 40, 82, 101, 102, 108, 32, 40, 83, 105, 103, 32, 88, 32, 40, 115, 111, 114, 116, 32, 105, 41, 32, 88, 41, 32, 40, 80, 97, 105, 114, 32, 88, 32, 40, 115, 111, 114, 116, 32, 105, 41, 32, 88, 32, 65, 32, 120, 41, 41, 32, 66, 32, 112, 41, 41]
theorem libok8 : libOk lib8 = true := by kernel_rfl
def lib9 : List UInt8 := [40, 100, 101, 102, 32, 104, 112, 32, 40, 40, 65, 32, 40, 115, 111, 114, 116, 32, 105, 41, 41, 32, 40, 66, 32, 40, 115, 111, 114, 116, 32, 105, 41, 41, 32, 40, 97, 32, 65, 41, 32, 40, 98, 32, 66, 41, 32, 40, 104, 32, 40, 117, 115, 101, 32, 104, 101, 116, 32, 105, 32, 48, 32, 65, 32, 66, 32, 97, 32, 98, 41, 41, 41, 32, 40, 69, 113, 32, 66, 32, 40, 117, 115, 101, 32, 116, 114, 32, 105, 32, 48, 32, 65, 32, 66, 32, 40, 117, 115, 101, 32, 116, 121, 112, 32, 105, 32, 48, 32, 65, 32, 66, 32, 97, 32, 98, 32, 104, 41, 32, 97, 41, 32, 98, 41, 32, 40, 74, 32, 40, 83, 105, 103, 32, 88, 32, 40, 115, 111, 114, 116, 32, 105, 41, 32, 88, 41, 32, 40, 80, 97, 105, 114, 32, 88, 32, 40, 115, 111, 114, 116, 32, 105, 41, 32, 88, 32, 65, 32, 97, 41, 32, 121, 32, 101, 32, 40, 69, 113, 32, 40, 70, 115, 116, 32, 121, 41, 32, 40, 117, 115, 101, 32, 116, 114, 32, 105, 32, 48, 32, 65, 32, 40, 70, 115, 116, 32, 121, 41, 32, 40, 117, 115, 101, 32, 116, 121, 112, 32, 105, 32, 48, 32, 65, 32, 40, 70, 115, 116, 32, 121, 41, 32, 97, 32, 40, 83, 110, 100, 32, 121, 41, 32, 101, 41, 32, 97, 41, 32, 40, 83, 110, 100, 32, 121, 41, 41, 32, 40, 82, 101, 102, 108, 32, 65, 32, 97, 41, 32, 40, 80, 97, 105, 114, 32, 88, 32, 40, 115, 111, 114, 116, 32, 105, 41, 32, 88, 32, 66, 32, 98, 41, 32, 104, 41, 41]
theorem libok9 : libOk lib9 = true := by kernel_rfl
def lib10 : List UInt8 := [40, 100, 101, 102, 32, 104, 50, 101, 32, 40, 40, 65, 32, 40, 115, 111, 114, 116, 32, 105, 41, 41, 32, 40, 97, 32, 65, 41, 32, 40, 98, 32, 65, 41, 32, 40, 104, 32, 40, 117, 115, 101, 32, 104, 101, 116, 32, 105, 32, 48, 32, 65, 32, 65, 32, 97, 32, 98, 41, 41, 41, 32, 40, 69, 113, 32, 65, 32, 97, 32, 98, 41, 32, 40, 117, 115, 101, 32, 116, 114, 97, 110, 115, 32, 105, 32, 48, 32, 65, 32, 97, 32, 40, 117, 115, 101, 32, 116, 114, 32, 105, 32, 48, 32, 65, 32, 65, 32, 40, 117, 115, 101, 32, 116, 121, 112, 32, 105, 32, 48, 32, 65, 32, 65, 32, 97, 32, 98, 32, 104, 41, 32, 97, 41, 32, 98, 32, 40, 74, 32, 40, 69, 113, 32, 40, 115, 111, 114, 116, 32, 105, 41, 32, 65, 32, 65, 41, 32, 40, 82, 101, 102, 108, 32, 40, 115, 111, 114, 116, 32, 105, 41, 32, 65, 41, 32, 113, 32, 114, 32, 40, 69, 113, 32, 65, 32, 97, 32, 40, 117, 115, 101, 32, 116, 114, 32, 105, 32, 48, 32, 65, 32, 65, 32, 113, 32, 97, 41, 41, 32, 40, 82, 101, 102, 108, 32, 65, 32, 97, 41, 32, 40, 117, 115, 101, 32, 116, 121, 112, 32, 105, 32, 48, 32, 65, 32, 65, 32, 97, 32, 98, 32, 104, 41, 32, 40, 117, 115, 101, 32, 117, 105, 112, 32, 40, 115, 117, 99, 32, 105, 41, 32, 48, 32, 40, 115, 111, 114, 116, 32, 105, 41, 32, 65, 32, 65, 32, 40, 82, 101, 102, 108, 32, 40, 115, 111, 114, 116, 32, 105, 41, 32, 65, 41, 32, 40, 117, 115, 101, 32, 116, 121, 112, 32, 105, 32, 48, 32, 65, 32, 65, 32, 97, 32, 98, 32, 104, 41, 41, 41, 32, 40, 117, 115, 101, 32, 104, 112, 32, 105, 32, 48, 32, 65, 32, 65, 32, 97, 32, 98, 32, 104, 41, 41, 41]
theorem libok10 : libOk lib10 = true := by kernel_rfl
def lib11 : List UInt8 := [40, 100, 101, 102, 32, 101, 50, 104, 32, 40, 40, 65, 32, 40, 115, 111, 114, 116, 32, 105, 41, 41, 32, 40, 97, 32, 65, 41, 32, 40, 98, 32, 65, 41, 32, 40, 101, 32, 40, 69, 113, 32, 65, 32, 97, 32, 98, 41, 41, 41, 32, 40, 117, 115, 101, 32, 104, 101, 116, 32, 105, 32, 48, 32, 65, 32, 65, 32, 97, 32, 98, 41, 32, 40, 74, 32, 65, 32, 97, 32, 121, 32, 113, 32, 40, 117, 115, 101, 32, 104, 101, 116, 32, 105, 32, 48, 32, 65, 32, 65, 32, 97, 32, 121, 41, 32, 40, 82, 101, 102, 108, 32, 40, 83, 105, 103, 32, 88, 32, 40, 115, 111, 114, 116, 32, 105, 41, 32, 88, 41, 32, 40, 80, 97, 105, 114, 32, 88, 32, 40, 115, 111, 114, 116, 32, 105, 41, 32, 88, 32, 65, 32, 97, 41, 41, 32, 98, 32, 101, 41, 41]
theorem libok11 : libOk lib11 = true := by kernel_rfl
def lib12 : List UInt8 := [40, 100, 101, 102, 32, 114, 112, 32, 40, 40, 65, 32, 40, 115, 111, 114, 116, 32, 105, 41, 41, 32, 40, 117, 32, 65, 41, 32, 40, 118, 32, 65, 41, 32, 40, 101, 32, 40, 69, 113, 32, 65, 32, 117, 32, 118, 41, 41, 32, 40, 84, 32, 40, 80, 105, 32, 120, 32, 65, 32, 40, 115, 111, 114, 116, 32, 106, 41, 41, 41, 32, 40, 116, 32, 40, 80, 105, 32, 120, 32, 65, 32, 40, 65, 112, 112, 32, 84, 32, 120, 41, 41, 41, 41, 32, 40, 117, 115, 101, 32, 104, 101, 116, 32, 106, 32, 48, 32, 40, 65, 112, 112, 32, 84, 32, 117, 41, 32, 40, 65, 112, 112, 32, 84, 32, 118, 41, 32, 40, 65, 112, 112, 32, 116, 32, 117, 41, 32, 40, 65, 112, 112, 32, 116, 32, 118, 41, 41, 32, 40, 74, 32, 65, 32, 117, 32, 121, 32, 113, 32, 40, 117, 115, 101, 32, 104, 101, 116, 32, 106, 32, 48, 32, 40, 65, 112, 112, 32, 84, 32, 117, 41, 32, 40, 65, 112, 112, 32, 84, 32, 121, 41, 32, 40, 65, 112, 112, 32, 116, 32, 117, 41, 32, 40, 65, 112, 112, 32, 116, 32, 121, 41, 41, 32, 40, 82, 101, 102, 108, 32, 40, 83, 105, 103, 32, 88, 32, 40, 115, 111, 114, 116, 32, 106, 41, 32, 88, 41, 32, 40, 80, 97, 105, 114, 32, 88, 32, 40, 115, 111, 114, 116, 32, 106, 41, 32, 88, 32, 40, 65, 112, 112, 32, 84, 32, 117, 41, 32, 40, 65, 112, 112, 32, 116, 32, 117, 41, 41, 41, 32, 118, 32, 101, 41, 41]
theorem libok12 : libOk lib12 = true := by kernel_rfl
def lib13 : List UInt8 := [40, 100, 101, 102, 32, 99, 112, 105, 32, 40, 40, 65, 32, 40, 115, 111, 114, 116, 32, 105, 41, 41, 32, 40, 67, 32, 40, 115, 111, 114, 116, 32, 105, 41, 41, 32, 40, 97, 32, 40, 69, 113, 32, 40, 115, 111, 114, 116, 32, 105, 41, 32, 65, 32, 67, 41, 41, 32, 40, 66, 32, 40, 80, 105, 32, 120, 32, 65, 32, 40, 115, 111, 114, 116, 32, 106, 41, 41, 41, 32, 40, 68, 32, 40, 80, 105, 32, 120, 32, 67, 32, 40, 115, 111, 114, 116, 32, 106, 41, 41, 41, 32, 40, 98, 32, 40, 80, 105, 32, 120, 32, 65, 32, 40, 80, 105, 32, 121, 32, 67, 32, 40, 80, 105, 32, 104, 32, 40, 117, 115, 101, 32, 104, 101, 116, 32, 105, 32, 48, 32, 65, 32, 67, 32, 120, 32, 121, 41, 32, 40, 69, 113, 32, 40, 115, 111, 114, 116, 32, 106, 41, 32, 40, 65, 112, 112, 32, 66, 32, 120, 41, 32, 40, 65, 112, 112, 32, 68, 32, 121, 41, 41, 41, 41, 41, 41, 41, 32, 40, 69, 113, 32, 40, 115, 111, 114, 116, 32, 40, 109, 97, 120, 32, 105, 32, 106, 41, 41, 32, 40, 80, 105, 32, 120, 32, 65, 32, 40, 65, 112, 112, 32, 66, 32, 120, 41, 41, 32, 40, 80, 105, 32, 120, 32, 67, 32, 40, 65, 112, 112, 32, 68, 32, 120, 41, 41, 41, 32, 40, 65, 112, 112, 32, 40, 65, 112, 112, 32, 40, 74, 32, 40, 115, 111, 114, 116, 32, 105, 41, 32, 65, 32, 89, 32, 101, 32, 40, 80, 105, 32, 68, 32, 40, 80, 105, 32, 120, 32, 89, 32, 40, 115, 111, 114, 116, 32, 106, 41, 41, 32, 40, 80, 105, 32, 98, 32, 40, 80, 105, 32, 120, 32, 65, 32, 40, 80, 105, 32, 121, 32, 89, 32, 40, 80, 105, 32, 104, 32, 40, 117, 115, 101, 32, 104, 101, 116, 32, 105, 32, 48, 32, 65, 32, 89, 32, 120, 32, 121, 41, 32, 40, 69, 113, 32, 40, 115, 111, 114, 116, 32, 106, 41, 32, 40, 65, 112, 112, 32, 66, 32, 120, 41, 32, 40, 65, 112, 112, 32, 68, 32, 121, 41, 41, 41, 41, 41, 32, 40, 69, 113, 32, 40, 115, 111, 114, 116, 32, 40, 109, 97, 120, 32, 105, 32, 106, 41, 41, 32, 40, 80, 105, 32, 120, 32, 65, 32, 40, 65, 112, 112, 32, 66, 32, 120, 41, 41, 32, 40, 80, 105, 32, 120, 32, 89, 32, 40, 65, 112, 112, 32, 68, 32, 120, 41, 41, 41, 41, 41, 32, 40, 76, 97, 109, 32, 68, 32, 40, 80, 105, 32, 120, 32, 65, 32, 40, 115, 111, 114, 116, 32, 106, 41, 41, 32, 40, 76, 97, 109, 32, 98, 32, 40, 80, 105, 32, 120, 32, 65, 32, 40, 80, 105, 32, 121, 32, 65, 32, 40, 80, 105, 32, 104, 32, 40, 117, 115, 101, 32, 104, 101, 116, 32, 105, 32, 48, 32, 65, 32, 65, 32, 120, 32, 121, 41, 32, 40, 69, 113, 32, 40, 115, 111, 114, 116, 32, 106, 41, 32, 40, 65, 112, 112, 32, 66, 32, 120, 41, 32, 40, 65, 112, 112, 32, 68, 32, 121, 41, 41, 41, 41, 41, 32, 40, 74, 32, 40, 80, 105, 32, 120, 32, 65, 32, 40, 115, 111, 114, 116, 32, 106, 41, 41, 32, 66, 32, 69, 32, 113, 32, 40, 69, 113, 32, 40, 115, 111, 114, 116, 32, 40, 109, 97, 120, 32, 105, 32, 106, 41, 41, 32, 40, 80, 105, 32, 120, 32, 65, 32, 40, 65, 112, 112, 32, 66, 32, 120, 41, 41, 32, 40, 80, 105, 32, 120, 32, 65, 32, 40, 65, 112, 112, 32, 69, 32, 120, 41, 41, 41, 32, 40, 82, 101, 102, 108, 32, 40, 115, 111, 114, 116, 32, 40, 109, 97, 120, 32, 105, 32, 106, 41, 41, 32, 40, 80, 105, 32, 120, 32, 65, 32, 40, 65, 112, 112, 32, 66, 32, 120, 41, 41, 41, 32, 68, 32, 40, 117, 115, 101, 32, 102, 117, 110, 101, 120, 116, 32, 105, 32, 40, 115, 117, 99, 32, 106, 41, 32, 65, 32, 40, 76, 97, 109, 32, 120, 32, 65, 32, 40, 115, 111, 114, 116, 32, 106, 41, 41, 32, 66, 32, 68, 32, 40, 76, 97, 109, 32, 120, 32, 65, 32, 40, 65, 112, 112, 32, 40, 65, 112, 112, 32, 40, 65, 112, 112, 32, 98, 32, 120, 41, 32, 120, 41, 32, 40, 82, 101, 102, 108, 32, 40, 83, 105, 103, 32, 88, 32, 40, 115, 111, 114, 116, 32, 105, 41, 32, 88, 41, 32, 40, 80, 97, 105, 114, 32, 88, 32, 40, 115, 111, 114, 116, 32, 105, 41, 32, 88, 32, 65, 32, 120, 41, 41, 41, 41, 41, 41, 41, 41, 32, 67, 32, 97, 41, 32, 68, 41, 32, 98, 41, 41]
theorem libok13 : libOk lib13 = true := by kernel_rfl
def lib14 : List UInt8 := [40, 100, 101, 102, 32, 99, 115, 105, 103, 32, 40, 40, 65, 32, 40, 115, 111, 114, 116, 32, 105, 41, 41, 32, 40, 67, 32, 40, 115, 111, 114, 116, 32, 105, 41, 41, 32, 40, 97, 32, 40, 69, 113, 32, 40, 115, 111, 114, 116, 32, 105, 41, 32, 65, 32, 67, 41, 41, 32, 40, 66, 32, 40, 80, 105, 32, 120, 32, 65, 32, 40, 115, 111, 114, 116, 32, 106, 41, 41, 41, 32, 40, 68, 32, 40, 80, 105, 32, 120, 32, 67, 32, 40, 115, 111, 114, 116, 32, 106, 41, 41, 41, 32, 40, 98, 32, 40, 80, 105, 32, 120, 32, 65, 32, 40, 80, 105, 32, 121, 32, 67, 32, 40, 80, 105, 32, 104, 32, 40, 117, 115, 101, 32, 104, 101, 116, 32, 105, 32, 48, 32, 65, 32, 67, 32, 120, 32, 121, 41, 32, 40, 69, 113, 32, 40, 115, 111, 114, 116, 32, 106, 41, 32, 40, 65, 112, 112, 32, 66, 32, 120, 41, 32, 40, 65, 112, 112, 32, 68, 32, 121, 41, 41, 41, 41, 41, 41, 41, 32, 40, 69, 113, 32, 40, 115, 111, 114, 116, 32, 40, 109, 97, 120, 32, 105, 32, 106, 41, 41, 32, 40, 83, 105, 103, 32, 120, 32, 65, 32, 40, 65, 112, 112, 32, 66, 32, 120, 41, 41, 32, 40, 83, 105, 103, 32, 120, 32, 67, 32, 40, 65, 112, 112, 32, 68, 32, 120, 41, 41, 41, 32, 40, 65, 112, 112, 32, 40, 65, 112, 112, 32, 40, 74, 32, 40, 115, 111, 114, 116, 32, 105, 41, 32, 65, 32, 89, 32, 101, 32, 40, 80, 105, 32, 68, 32, 40, 80, 105, 32, 120, 32, 89, 32, 40, 115, 111, 114, 116, 32, 106, 41, 41, 32, 40, 80, 105, 32, 98, 32, 40, 80, 105, 32, 120, 32, 65, 32, 40, 80, 105, 32, 121, 32, 89, 32, 40, 80, 105, 32, 104, 32, 40, 117, 115, 101, 32, 104, 101, 116, 32, 105, 32, 48, 32, 65, 32, 89, 32, 120, 32, 121, 41, 32, 40, 69, 113, 32, 40, 115, 111, 114, 116, 32, 106, 41, 32, 40, 65, 112, 112, 32, 66, 32, 120, 41, 32, 40, 65, 112, 112, 32, 68, 32, 121, 41, 41, 41, 41, 41, 32, 40, 69, 113, 32, 40, 115, 111, 114, 116, 32, 40, 109, 97, 120, 32, 105, 32, 106, 41, 41, 32, 40, 83, 105, 103, 32, 120, 32, 65, 32, 40, 65, 112, 112, 32, 66, 32, 120, 41, 41, 32, 40, 83, 105, 103, 32, 120, 32, 89, 32, 40, 65, 112, 112, 32, 68, 32, 120, 41, 41, 41, 41, 41, 32, 40, 76, 97, 109, 32, 68, 32, 40, 80, 105, 32, 120, 32, 65, 32, 40, 115, 111, 114, 116, 32, 106, 41, 41, 32, 40, 76, 97, 109, 32, 98, 32, 40, 80, 105, 32, 120, 32, 65, 32, 40, 80, 105, 32, 121, 32, 65, 32, 40, 80, 105, 32, 104, 32, 40, 117, 115, 101, 32, 104, 101, 116, 32, 105, 32, 48, 32, 65, 32, 65, 32, 120, 32, 121, 41, 32, 40, 69, 113, 32, 40, 115, 111, 114, 116, 32, 106, 41, 32, 40, 65, 112, 112, 32, 66, 32, 120, 41, 32, 40, 65, 112, 112, 32, 68, 32, 121, 41, 41, 41, 41, 41, 32, 40, 74, 32, 40, 80, 105, 32, 120, 32, 65, 32, 40, 115, 111, 114, 116, 32, 106, 41, 41, 32, 66, 32, 69, 32, 113, 32, 40, 69, 113, 32, 40, 115, 111, 114, 116, 32, 40, 109, 97, 120, 32, 105, 32, 106, 41, 41, 32, 40, 83, 105, 103, 32, 120, 32, 65, 32, 40, 65, 112, 112, 32, 66, 32, 120, 41, 41, 32, 40, 83, 105, 103, 32, 120, 32, 65, 32, 40, 65, 112, 112, 32, 69, 32, 120, 41, 41, 41, 32, 40, 82, 101, 102, 108, 32, 40, 115, 111, 114, 116, 32, 40, 109, 97, 120, 32, 105, 32, 106, 41, 41, 32, 40, 83, 105, 103, 32, 120, 32, 65, 32, 40, 65, 112, 112, 32, 66, 32, 120, 41, 41, 41, 32, 68, 32, 40, 117, 115, 101, 32, 102, 117, 110, 101, 120, 116, 32, 105, 32, 40, 115, 117, 99, 32, 106, 41, 32, 65, 32, 40, 76, 97, 109, 32, 120, 32, 65, 32, 40, 115, 111, 114, 116, 32, 106, 41, 41, 32, 66, 32, 68, 32, 40, 76, 97, 109, 32, 120, 32, 65, 32, 40, 65, 112, 112, 32, 40, 65, 112, 112, 32, 40, 65, 112, 112, 32, 98, 32, 120, 41, 32, 120, 41, 32, 40, 82, 101, 102, 108, 32, 40, 83, 105, 103, 32, 88, 32, 40, 115, 111, 114, 116, 32, 105, 41, 32, 88, 41, 32, 40, 80, 97, 105, 114, 32, 88, 32, 40, 115, 111, 114, 116, 32, 105, 41, 32, 88, 32, 65, 32, 120, 41, 41, 41, 41, 41, 41, 41, 41, 32, 67, 32, 97, 41, 32, 68, 41, 32, 98, 41, 41]
theorem libok14 : libOk lib14 = true := by kernel_rfl
def lib15 : List UInt8 := [40, 100, 101, 102, 32, 99, 108, 97, 109, 32, 40, 40, 65, 32, 40, 115, 111, 114, 116, 32, 105, 41, 41, 32, 40, 67, 32, 40, 115, 111, 114, 116, 32, 105, 41, 41, 32, 40, 97, 32, 40, 69, 113, 32, 40, 115, 111, 114, 116, 32, 105, 41, 32, 65, 32, 67, 41, 41, 32, 40, 66, 32, 40, 80, 105, 32, 120, 32, 65, 32, 40, 115, 111, 114, 116, 32, 106, 41, 41, 41, 32, 40, 68, 32, 40, 80, 105, 32, 120, 32, 67, 32, 40, 115, 111, 114, 116, 32, 106, 41, 41, 41, 32, 40, 98, 32, 40, 80, 105, 32, 120, 32, 65, 32, 40, 80, 105, 32, 121, 32, 67, 32, 40, 80, 105, 32, 104, 32, 40, 117, 115, 101, 32, 104, 101, 116, 32, 105, 32, 48, 32, 65, 32, 67, 32, 120, 32, 121, 41, 32, 40, 69, 113, 32, 40, 115, 111, 114, 116, 32, 106, 41, 32, 40, 65, 112, 112, 32, 66, 32, 120, 41, 32, 40, 65, 112, 112, 32, 68, 32, 121, 41, 41, 41, 41, 41, 41, 32, 40, 102, 32, 40, 80, 105, 32, 120, 32, 65, 32, 40, 65, 112, 112, 32, 66, 32, 120, 41, 41, 41, 32, 40, 103, 32, 40, 80, 105, 32, 120, 32, 67, 32, 40, 65, 112, 112, 32, 68, 32, 120, 41, 41, 41, 32, 40, 107, 32, 40, 80, 105, 32, 120, 32, 65, 32, 40, 80, 105, 32, 121, 32, 67, 32, 40, 80, 105, 32, 104, 32, 40, 117, 115, 101, 32, 104, 101, 116, 32, 105, 32, 48, 32, 65, 32, 67, 32, 120, 32, 121, 41, 32, 40, 117, 115, 101, 32, 104, 101, 116, 32, 106, 32, 48, 32, 40, 65, 112, 112, 32, 66, 32, 120, 41, 32, 40, 65, 112, 112, 32, 68, 32, 121, 41, 32, 40, 65, 112, 112, 32, 102, 32, 120, 41, 32, 40, 65, 112, 112, 32, 103, 32, 121, 41, 41, 41, 41, 41, 41, 41, 32, 40, 117, 115, 101, 32, 104, 101, 116, 32, 40, 109, 97, 120, 32, 105, 32, 106, 41, 32, 48, 32, 40, 80, 105, 32, 120, 32, 65, 32, 40, 65, 112, 112, 32, 66, 32, 120, 41, 41, 32, 40, 80, 105, 32, 120, 32, 67, 32, 40, 65, 112, 112, 32, 68, 32, 120, 41, 41, 32, 102, 32, 103, 41, 32, 40, 65, 112, 112, 32, 40, 65, 112, 112, 32, 40, 65, 112, 112, 32, 40, 65, 112, 112, 32, 40, 74, 32, 40, 115, 111, 114, 116, 32, 105, 41, 32, 65, 32, 89, 32, 101, 32, 40, 80, 105, 32, 68, 32, 40, 80, 105, 32, 120, 32, 89, 32, 40, 115, 111, 114, 116, 32, 106, 41, 41, 32, 40, 80, 105, 32, 98, 32, 40, 80, 105, 32, 120, 32, 65, 32, 40, 80, 105, 32, 121, 32, 89, 32, 40, 80, 105, 32, 104, 32, 40, 117, 115, 101, 32, 104, 101, 116, 32, 105, 32, 48, 32, 65, 32, 89, 32, 120, 32, 121, 41, 32, 40, 69, 113, 32, 40, 115, 111, 114, 116, 32, 106, 41, 32, 40, 65, 112, 112, 32, 66, 32, 120, 41, 32, 40, 65, 112, 112, 32, 68, 32, 121, 41, 41, 41, 41, 41, 32, 40, 80, 105, 32, 103, 32, 40, 80, 105, 32, 120, 32, 89, 32, 40, 65, 112, 112, 32, 68, 32, 120, 41, 41, 32, 40, 80, 105, 32, 107, 32, 40, 80, 105, 32, 120, 32, 65, 32, 40, 80, 105, 32, 121, 32, 89, 32, 40, 80, 105, 32, 104, 32, 40, 117, 115, 101, 32, 104, 101, 116, 32, 105, 32, 48, 32, 65, 32, 89, 32, 120, 32, 121, 41, 32, 40, 117, 115, 101, 32, 104, 101, 116, 32, 106, 32, 48, 32, 40, 65, 112, 112, 32, 66, 32, 120, 41, 32, 40, 65, 112, 112, 32, 68, 32, 121, 41, 32, 40, 65, 112, 112, 32, 102, 32, 120, 41, 32, 40, 65, 112, 112, 32, 103, 32, 121, 41, 41, 41, 41, 41, 32, 40, 117, 115, 101, 32, 104, 101, 116, 32, 40, 109, 97, 120, 32, 105, 32, 106, 41, 32, 48, 32, 40, 80, 105, 32, 120, 32, 65, 32, 40, 65, 112, 112, 32, 66, 32, 120, 41, 41, 32, 40, 80, 105, 32, 120, 32, 89, 32, 40, 65, 112, 112, 32, 68, 32, 120, 41, 41, 32, 102, 32, 103, 41, 41, 41, 41, 41, 32, 40, 76, 97, 109, 32, 68, 32, 40, 80, 105, 32, 120, 32, 65, 32, 40, 115, 111, 114, 116, 32, 106, 41, 41, 32, 40, 76, 97, 109, 32, 98, 32, 40, 80, 105, 32, 120, 32, 65, 32, 40, 80, 105, 32, 121, 32, 65, 32, 40, 80, 105, 32, 104, 32, 40, 117, 115, 101, 32, 104, 101, 116, 32, 105, 32, 48, 32, 65, 32, 65, 32, 120, 32, 121, 41, 32, 40, 69, 113, 32, 40, 115, 111, 114, 116, 32, 106, 41, 32, 40, 65, 112, 112, 32, 66, 32, 120, 41, 32, 40, 65, 112, 112, 32, 68, 32, 121, 41, 41, 41, 41, 41, 32, 40, 74, 32, 40, 80, 105, 32, 120, 32, 65, 32, 40, 115, 111, 114, 116, 32, 106, 41, 41, 32, 66, 32, 69, 32, 113, 32, 40, 80, 105, 32, 103, 32, 40, 80, 105, 32, 120, 32, 65, 32, 40, 65, 112, 112, 32, 69, 32, 120, 41, 41, 32, 40, 80, 105, 32, 107, 32, 40, 80, 105, 32, 120, 32, 65, 32, 40, 80, 105, 32, 121, 32, 65, 32, 40, 80, 105, 32, 104, 32, 40, 117, 115, 101, 32, 104, 101, 116, 32, 105, 32, 48, 32, 65, 32, 65, 32, 120, 32, 121, 41, 32, 40, 117, 115, 101, 32, 104, 101, 116, 32, 106, 32, 48, 32, 40, 65, 112, 112, 32, 66, 32, 120, 41, 32, 40, 65, 112, 112, 32, 69, 32, 121, 41, 32, 40, 65, 112, 112, 32, 102, 32, 120, 41, 32, 40, 65, 112, 112, 32, 103, 32, 121, 41, 41, 41, 41, 41, 32, 40, 117, 115, 101, 32, 104, 101, 116, 32, 40, 109, 97, 120, 32, 105, 32, 106, 41, 32, 48, 32, 40, 80, 105, 32, 120, 32, 65, 32, 40, 65, 112, 112, 32, 66, 32, 120, 41, 41, 32, 40, 80, 105, 32, 120, 32, 65, 32, 40, 65, 112, 112, 32, 69, 32, 120, 41, 41, 32, 102, 32, 103, 41, 41, 41, 32, 40, 76, 97, 109, 32, 103, 32, 40, 80, 105, 32, 120, 32, 65, 32, 40, 65, 112, 112, 32, 66, 32, 120, 41, 41, 32, 40, 76, 97, 109, 32, 107, 32, 40, 80, 105, 32, 120, 32, 65, 32, 40, 80, 105, 32, 121, 32, 65, 32, 40, 80, 105, 32, 104, 32, 40, 117, 115, 101, 32, 104, 101, 116, 32, 105, 32, 48, 32, 65, 32, 65, 32, 120, 32, 121, 41, 32, 40, 117, 115, 101, 32, 104, 101, 116, 32, 106, 32, 48, 32, 40, 65, 112, 112, 32, 66, 32, 120, 41, 32, 40, 65, 112, 112, 32, 66, 32, 121, 41, 32, 40, 65, 112, 112, 32, 102, 32, 120, 41, 32, 40, 65, 112, 112, 32, 103, 32, 121, 41, 41, 41, 41, 41, 32, 40, 117, 115, 101, 32, 101, 50, 104, 32, 40, 109, 97, 120, 32, 105, 32, 106, 41, 32, 48, 32, 40, 80, 105, 32, 120, 32, 65, 32, 40, 65, 112, 112, 32, 66, 32, 120, 41, 41, 32, 102, 32, 103, 32, 40, 117, 115, 101, 32, 102, 117, 110, 101, 120, 116, 32, 105, 32, 106, 32, 65, 32, 66, 32, 102, 32, 103, 32, 40, 76, 97, 109, 32, 120, 32, 65, 32, 40, 117, 115, 101, 32, 104, 50, 101, 32, 106, 32, 48, 32, 40, 65, 112, 112, 32, 66, 32, 120, 41, 32, 40, 65, 112, 112, 32, 102, 32, 120, 41, 32, 40, 65, 112, 112, 32, 103, 32, 120, 41, 32, 40, 65, 112, 112, 32, 40, 65, 112, 112, 32, 40, 65, 112, 112, 32, 107, 32, 120, 41, 32, 120, 41, 32, 40, 82, 101, 102, 108, 32, 40, 83, 105, 103, 32, 88, 32, 40, 115, 111, 114, 116, 32, 105, 41, 32, 88, 41, 32, 40, 80, 97, 105, 114, 32, 88, 32, 40, 115, 111, 114, 116, 32, 105, 41, 32, 88, 32, 65, 32, 120, 41, 41, 41, 41, 41, 41, 41, 41, 41, 32, 68, 32, 40, 117, 115, 101, 32, 102, 117, 110, 101, 120, 116, 32, 105, 32, 40, 115, 117, 99, 32, 106, 41, 32, 65, 32, 40, 76, 97, 109, 32, 120, 32, 65, 32, 40, 115, 111, 114, 116, 32, 106, 41, 41, 32, 66, 32, 68, 32, 40, 76, 97, 109, 32, 120, 32, 65, 32, 40, 65, 112, 112, 32, 40, 65, 112, 112, 32, 40, 65, 112, 112, 32, 98, 32, 120, 41, 32, 120, 41, 32, 40, 82, 101, 102, 108, 32, 40, 83, 105, 103, 32, 88, 32, 40, 115, 111, 114, 116, 32, 105, 41, 32, 88, 41, 32, 40, 80, 97, 105, 114, 32, 88, 32, 40, 115, 111, 114, 116, 32, 105, 41, 32, 88, 32, 65, 32, 120, 41, 41, 41, 41, 41, 41, 41, 41, 32, 67, 32, 97, 41, 32, 68, 41, 32, 98, 41, 32, 103, 41, 32, 107, 41, 41]
theorem libok15 : libOk lib15 = true := by kernel_rfl
def lib16 : List UInt8 := [40, 100, 101, 102, 32, 99, 97, 112, 112, 32, 40, 40, 65, 32, 40, 115, 111, 114, 116, 32, 105, 41, 41, 32, 40, 67, 32, 40, 115, 111, 114, 116, 32, 105, 41, 41, 32, 40, 97, 32, 40, 69, 113, 32, 40, 115, 111, 114, 116, 32, 105, 41, 32, 65, 32, 67, 41, 41, 32, 40, 66, 32, 40, 80, 105, 32, 120, 32, 65, 32, 40, 115, 111, 114, 116, 32, 106, 41, 41, 41, 32, 40, 68, 32, 40, 80, 105, 32, 120, 32, 67, 32, 40, 115, 111, 114, 116, 32, 106, 41, 41, 41, 32, 40, 98, 32, 40, 80, 105, 32, 120, 32, 65, 32, 40, 80, 105, 32, 121, 32, 67, 32, 40, 80, 105, 32, 104, 32, 40, 117, 115, 101, 32, 104, 101, 116, 32, 105, 32, 48, 32, 65, 32, 67, 32, 120, 32, 121, 41, 32, 40, 69, 113, 32, 40, 115, 111, 114, 116, 32, 106, 41, 32, 40, 65, 112, 112, 32, 66, 32, 120, 41, 32, 40, 65, 112, 112, 32, 68, 32, 121, 41, 41, 41, 41, 41, 41, 32, 40, 102, 32, 40, 80, 105, 32, 120, 32, 65, 32, 40, 65, 112, 112, 32, 66, 32, 120, 41, 41, 41, 32, 40, 103, 32, 40, 80, 105, 32, 120, 32, 67, 32, 40, 65, 112, 112, 32, 68, 32, 120, 41, 41, 41, 32, 40, 115, 32, 40, 117, 115, 101, 32, 104, 101, 116, 32, 40, 109, 97, 120, 32, 105, 32, 106, 41, 32, 48, 32, 40, 80, 105, 32, 120, 32, 65, 32, 40, 65, 112, 112, 32, 66, 32, 120, 41, 41, 32, 40, 80, 105, 32, 120, 32, 67, 32, 40, 65, 112, 112, 32, 68, 32, 120, 41, 41, 32, 102, 32, 103, 41, 41, 32, 40, 117, 32, 65, 41, 32, 40, 118, 32, 67, 41, 32, 40, 114, 32, 40, 117, 115, 101, 32, 104, 101, 116, 32, 105, 32, 48, 32, 65, 32, 67, 32, 117, 32, 118, 41, 41, 41, 32, 40, 117, 115, 101, 32, 104, 101, 116, 32, 106, 32, 48, 32, 40, 65, 112, 112, 32, 66, 32, 117, 41, 32, 40, 65, 112, 112, 32, 68, 32, 118, 41, 32, 40, 65, 112, 112, 32, 102, 32, 117, 41, 32, 40, 65, 112, 112, 32, 103, 32, 118, 41, 41, 32, 40, 65, 112, 112, 32, 40, 65, 112, 112, 32, 40, 65, 112, 112, 32, 40, 65, 112, 112, 32, 40, 65, 112, 112, 32, 40, 65, 112, 112, 32, 40, 74, 32, 40, 115, 111, 114, 116, 32, 105, 41, 32, 65, 32, 89, 32, 101, 32, 40, 80, 105, 32, 68, 32, 40, 80, 105, 32, 120, 32, 89, 32, 40, 115, 111, 114, 116, 32, 106, 41, 41, 32, 40, 80, 105, 32, 98, 32, 40, 80, 105, 32, 120, 32, 65, 32, 40, 80, 105, 32, 121, 32, 89, 32, 40, 80, 105, 32, 104, 32, 40, 117, 115, 101, 32, 104, 101, 116, 32, 105, 32, 48, 32, 65, 32, 89, 32, 120, 32, 121, 41, 32, 40, 69, 113, 32, 40, 115, 111, 114, 116, 32, 106, 41, 32, 40, 65, 112, 112, 32, 66, 32, 120, 41, 32, 40, 65, 112, 112, 32, 68, 32, 121, 41, 41, 41, 41, 41, 32, 40, 80, 105, 32, 103, 32, 40, 80, 105, 32, 120, 32, 89, 32, 40, 65, 112, 112, 32, 68, 32, 120, 41, 41, 32, 40, 80, 105, 32, 115, 32, 40, 117, 115, 101, 32, 104, 101, 116, 32, 40, 109, 97, 120, 32, 105, 32, 106, 41, 32, 48, 32, 40, 80, 105, 32, 120, 32, 65, 32, 40, 65, 112, 112, 32, 66, 32, 120, 41, 41, 32, 40, 80, 105, 32, 120, 32, 89, 32, 40, 65, 112, 112, 32, 68, 32, 120, 41, 41, 32, 102, 32, 103, 41, 32, 40, 80, 105, 32, 118, 32, 89, 32, 40, 80, 105, 32, 114, 32, 40, 117, 115, 101, 32, 104, 101, 116, 32, 105, 32, 48, 32, 65, 32, 89, 32, 117, 32, 118, 41, 32, 40, 117, 115, 101, 32, 104, 101, 116, 32, 106, 32, 48, 32, 40, 65, 112, 112, 32, 66, 32, 117, 41, 32, 40, 65, 112, 112, 32, 68, 32, 118, 41, 32, 40, 65, 112, 112, 32, 102, 32, 117, 41, 32, 40, 65, 112, 112, 32, 103, 32, 118, 41, 41, 41, 41, 41, 41, 41, 41, 32, 40, 76, 97, 109, 32, 68, 32, 40, 80, 105, 32, 120, 32, 65, 32, 40, 115, 111, 114, 116, 32, 106, 41, 41, 32, 40, 76, 97, 109, 32, 98, 32, 40, 80, 105, 32, 120, 32, 65, 32, 40, 80, 105, 32, 121, 32, 65, 32, 40, 80, 105, 32, 104, 32, 40, 117, 115, 101, 32, 104, 101, 116, 32, 105, 32, 48, 32, 65, 32, 65, 32, 120, 32, 121, 41, 32, 40, 69, 113, 32, 40, 115, 111, 114, 116, 32, 106, 41, 32, 40, 65, 112, 112, 32, 66, 32, 120, 41, 32, 40, 65, 112, 112, 32, 68, 32, 121, 41, 41, 41, 41, 41, 32, 40, 74, 32, 40, 80, 105, 32, 120, 32, 65, 32, 40, 115, 111, 114, 116, 32, 106, 41, 41, 32, 66, 32, 69, 32, 113, 32, 40, 80, 105, 32, 103, 32, 40, 80, 105, 32, 120, 32, 65, 32, 40, 65, 112, 112, 32, 69, 32, 120, 41, 41, 32, 40, 80, 105, 32, 115, 32, 40, 117, 115, 101, 32, 104, 101, 116, 32, 40, 109, 97, 120, 32, 105, 32, 106, 41, 32, 48, 32, 40, 80, 105, 32, 120, 32, 65, 32, 40, 65, 112, 112, 32, 66, 32, 120, 41, 41, 32, 40, 80, 105, 32, 120, 32, 65, 32, 40, 65, 112, 112, 32, 69, 32, 120, 41, 41, 32, 102, 32, 103, 41, 32, 40, 80, 105, 32, 118, 32, 65, 32, 40, 80, 105, 32, 114, 32, 40, 117, 115, 101, 32, 104, 101, 116, 32, 105, 32, 48, 32, 65, 32, 65, 32, 117, 32, 118, 41, 32, 40, 117, 115, 101, 32, 104, 101, 116, 32, 106, 32, 48, 32, 40, 65, 112, 112, 32, 66, 32, 117, 41, 32, 40, 65, 112, 112, 32, 69, 32, 118, 41, 32, 40, 65, 112, 112, 32, 102, 32, 117, 41, 32, 40, 65, 112, 112, 32, 103, 32, 118, 41, 41, 41, 41, 41, 41, 32, 40, 76, 97, 109, 32, 103, 32, 40, 80, 105, 32, 120, 32, 65, 32, 40, 65, 112, 112, 32, 66, 32, 120, 41, 41, 32, 40, 76, 97, 109, 32, 115, 32, 40, 117, 115, 101, 32, 104, 101, 116, 32, 40, 109, 97, 120, 32, 105, 32, 106, 41, 32, 48, 32, 40, 80, 105, 32, 120, 32, 65, 32, 40, 65, 112, 112, 32, 66, 32, 120, 41, 41, 32, 40, 80, 105, 32, 120, 32, 65, 32, 40, 65, 112, 112, 32, 66, 32, 120, 41, 41, 32, 102, 32, 103, 41, 32, 40, 76, 97, 109, 32, 118, 32, 65, 32, 40, 76, 97, 109, 32, 114, 32, 40, 117, 115, 101, 32, 104, 101, 116, 32, 105, 32, 48, 32, 65, 32, 65, 32, 117, 32, 118, 41, 32, 40, 74, 32, 40, 80, 105, 32, 120, 32, 65, 32, 40, 65, 112, 112, 32, 66, 32, 120, 41, 41, 32, 102, 32, 107, 32, 113, 32, 40, 117, 115, 101, 32, 104, 101, 116, 32, 106, 32, 48, 32, 40, 65, 112, 112, 32, 66, 32, 117, 41, 32, 40, 65, 112, 112, 32, 66, 32, 118, 41, 32, 40, 65, 112, 112, 32, 102, 32, 117, 41, 32, 40, 65, 112, 112, 32, 107, 32, 118, 41, 41, 32, 40, 74, 32, 65, 32, 117, 32, 122, 32, 113, 32, 40, 117, 115, 101, 32, 104, 101, 116, 32, 106, 32, 48, 32, 40, 65, 112, 112, 32, 66, 32, 117, 41, 32, 40, 65, 112, 112, 32, 66, 32, 122, 41, 32, 40, 65, 112, 112, 32, 102, 32, 117, 41, 32, 40, 65, 112, 112, 32, 102, 32, 122, 41, 41, 32, 40, 82, 101, 102, 108, 32, 40, 83, 105, 103, 32, 88, 32, 40, 115, 111, 114, 116, 32, 106, 41, 32, 88, 41, 32, 40, 80, 97, 105, 114, 32, 88, 32, 40, 115, 111, 114, 116, 32, 106, 41, 32, 88, 32, 40, 65, 112, 112, 32, 66, 32, 117, 41, 32, 40, 65, 112, 112, 32, 102, 32, 117, 41, 41, 41, 32, 118, 32, 40, 117, 115, 101, 32, 104, 50, 101, 32, 105, 32, 48, 32, 65, 32, 117, 32, 118, 32, 114, 41, 41, 32, 103, 32, 40, 117, 115, 101, 32, 104, 50, 101, 32, 40, 109, 97, 120, 32, 105, 32, 106, 41, 32, 48, 32, 40, 80, 105, 32, 120, 32, 65, 32, 40, 65, 112, 112, 32, 66, 32, 120, 41, 41, 32, 102, 32, 103, 32, 115, 41, 41, 41, 41, 41, 41, 32, 68, 32, 40, 117, 115, 101, 32, 102, 117, 110, 101, 120, 116, 32, 105, 32, 40, 115, 117, 99, 32, 106, 41, 32, 65, 32, 40, 76, 97, 109, 32, 120, 32, 65, 32, 40, 115, 111, 114, 116, 32, 106, 41, 41, 32, 66, 32, 68, 32, 40, 76, 97, 109, 32, 120, 32, 65, 32, 40, 65, 112, 112, 32, 40, 65, 112, 112, 32, 40, 65, 112, 112, 32, 98, 32, 120, 41, 32, 120, 41, 32, 40, 82, 101, 102, 108, 32, 40, 83, 105, 103, 32, 88, 32, 40, 115, 111, 114, 116, 32, 105, 41, 32, 88, 41, 32, 40, 80, 97, 105, 114, 32, 88, 32, 40, 115, 111, 114, 116, 32, 105, 41, 32, 88, 32, 65, 32, 120, 41, 41, 41, 41, 41, 41, 41, 41, 32, 67, 32, 97, 41, 32, 68, 41, 32, 98, 41, 32, 103, 41, 32, 115, 41, 32, 118, 41, 32, 114, 41, 41]
theorem libok16 : libOk lib16 = true := by kernel_rfl
def lib17 : List UInt8 := [40, 100, 101, 102, 32, 99, 112, 97, 105, 114, 32, 40, 40, 65, 32, 40, 115, 111, 114, 116, 32, 105, 41, 41, 32, 40, 67, 32, 40, 115, 111, 114, 116, 32, 105, 41, 41, 32, 40, 97, 32, 40, 69, 113, 32, 40, 115, 111, 114, 116, 32, 105, 41, 32, 65, 32, 67, 41, 41, 32, 40, 66, 32, 40, 80, 105, 32, 120, 32, 65, 32, 40, 115, 111, 114, 116, 32, 106, 41, 41, 41, 32, 40, 68, 32, 40, 80, 105, 32, 120, 32, 67, 32, 40, 115, 111, 114, 116, 32, 106, 41, 41, 41, 32, 40, 98, 32, 40, 80, 105, 32, 120, 32, 65, 32, 40, 80, 105, 32, 121, 32, 67, 32, 40, 80, 105, 32, 104, 32, 40, 117, 115, 101, 32, 104, 101, 116, 32, 105, 32, 48, 32, 65, 32, 67, 32, 120, 32, 121, 41, 32, 40, 69, 113, 32, 40, 115, 111, 114, 116, 32, 106, 41, 32, 40, 65, 112, 112, 32, 66, 32, 120, 41, 32, 40, 65, 112, 112, 32, 68, 32, 121, 41, 41, 41, 41, 41, 41, 32, 40, 117, 32, 65, 41, 32, 40, 118, 32, 67, 41, 32, 40, 114, 32, 40, 117, 115, 101, 32, 104, 101, 116, 32, 105, 32, 48, 32, 65, 32, 67, 32, 117, 32, 118, 41, 41, 32, 40, 112, 32, 40, 65, 112, 112, 32, 66, 32, 117, 41, 41, 32, 40, 113, 32, 40, 65, 112, 112, 32, 68, 32, 118, 41, 41, 32, 40, 115, 32, 40, 117, 115, 101, 32, 104, 101, 116, 32, 106, 32, 48, 32, 40, 65, 112, 112, 32, 66, 32, 117, 41, 32, 40, 65, 112, 112, 32, 68, 32, 118, 41, 32, 112, 32, 113, 41, 41, 41, 32, 40, 117, 115, 101, 32, 104, 101, 116, 32, 40, 109, 97, 120, 32, 105, 32, 106, 41, 32, 48, 32, 40, 83, 105, 103, 32, 120, 32, 65, 32, 40, 65, 112, 112, 32, 66, 32, 120, 41, 41, 32, 40, 83, 105, 103, 32, 120, 32, 67, 32, 40, 65, 112, 112, 32, 68, 32, 120, 41, 41, 32, 40, 80, 97, 105, 114, 32, 120, 32, 65, 32, 40, 65, 112, 112, 32, 66, 32, 120, 41, 32, 117, 32, 112, 41, 32, 40, 80, 97, 105, 114, 32, 120, 32, 67, 32, 40, 65, 112, 112, 32, 68, 32, 120, 41, 32, 118, 32, 113, 41, 41, 32, 40, 65, 112, 112, 32, 40, 65, 112, 112, 32, 40, 65, 112, 112, 32, 40, 65, 112, 112, 32, 40, 65, 112, 112, 32, 40, 65, 112, 112, 32, 40, 74, 32, 40, 115, 111, 114, 116, 32, 105, 41, 32, 65, 32, 89, 32, 101, 32, 40, 80, 105, 32, 68, 32, 40, 80, 105, 32, 120, 32, 89, 32, 40, 115, 111, 114, 116, 32, 106, 41, 41, 32, 40, 80, 105, 32, 98, 32, 40, 80, 105, 32, 120, 32, 65, 32, 40, 80, 105, 32, 121, 32, 89, 32, 40, 80, 105, 32, 104, 32, 40, 117, 115, 101, 32, 104, 101, 116, 32, 105, 32, 48, 32, 65, 32, 89, 32, 120, 32, 121, 41, 32, 40, 69, 113, 32, 40, 115, 111, 114, 116, 32, 106, 41, 32, 40, 65, 112, 112, 32, 66, 32, 120, 41, 32, 40, 65, 112, 112, 32, 68, 32, 121, 41, 41, 41, 41, 41, 32, 40, 80, 105, 32, 118, 32, 89, 32, 40, 80, 105, 32, 114, 32, 40, 117, 115, 101, 32, 104, 101, 116, 32, 105, 32, 48, 32, 65, 32, 89, 32, 117, 32, 118, 41, 32, 40, 80, 105, 32, 113, 32, 40, 65, 112, 112, 32, 68, 32, 118, 41, 32, 40, 80, 105, 32, 115, 32, 40, 117, 115, 101, 32, 104, 101, 116, 32, 106, 32, 48, 32, 40, 65, 112, 112, 32, 66, 32, 117, 41, 32, 40, 65, 112, 112, 32, 68, 32, 118, 41, 32, 112, 32, 113, 41, 32, 40, 117, 115, 101, 32, 104, 101, 116, 32, 40, 109, 97, 120, 32, 105, 32, 106, 41, 32, 48, 32, 40, 83, 105, 103, 32, 120, 32, 65, 32, 40, 65, 112, 112, 32, 66, 32, 120, 41, 41, 32, 40, 83, 105, 103, 32, 120, 32, 89, 32, 40, 65, 112, 112, 32, 68, 32, 120, 41, 41, 32, 40, 80, 97, 105, 114, 32, 120, 32, 65, 32, 40, 65, 112, 112, 32, 66, 32, 120, 41, 32, 117, 32, 112, 41, 32, 40, 80, 97, 105, 114, 32, 120, 32, 89, 32, 40, 65, 112, 112, 32, 68, 32, 120, 41, 32, 118, 32, 113, 41, 41, 41, 41, 41, 41, 41, 41, 32, 40, 76, 97, 109, 32, 68, 32, 40, 80, 105, 32, 120, 32, 65, 32, 40, 115, 111, 114, 116, 32, 106, 41, 41, 32, 40, 76, 97, 109, 32, 98, 32, 40, 80, 105, 32, 120, 32, 65, 32, 40, 80, 105, 32, 121, 32, 65, 32, 40, 80, 105, 32, 104, 32, 40, 117, 115, 101, 32, 104, 101, 116, 32, 105, 32, 48, 32, 65, 32, 65, 32, 120, 32, 121, 41, 32, 40, 69, 113, 32, 40, 115, 111, 114, 116, 32, 106, 41, 32, 40, 65, 112, 112, 32, 66, 32, 120, 41, 32, 40, 65, 112, 112, 32, 68, 32, 121, 41, 41, 41, 41, 41, 32, 40, 74, 32, 40, 80, 105, 32, 120, 32, 65, 32, 40, 115, 111, 114, 116, 32, 106, 41, 41, 32, 66, 32, 69, 32, 119, 32, 40, 80, 105, 32, 118, 32, 65, 32, 40, 80, 105, 32, 114, 32, 40, 117, 115, 101, 32, 104, 101, 116, 32, 105, 32, 48, 32, 65, 32, 65, 32, 117, 32, 118, 41, 32, 40, 80, 105, 32, 113, 32, 40, 65, 112, 112, 32, 69, 32, 118, 41, 32, 40, 80, 105, 32, 115, 32, 40, 117, 115, 101, 32, 104, 101, 116, 32, 106, 32, 48, 32, 40, 65, 112, 112, 32, 66, 32, 117, 41, 32, 40, 65, 112, 112, 32, 69, 32, 118, 41, 32, 112, 32, 113, 41, 32, 40, 117, 115, 101, 32, 104, 101, 116, 32, 40, 109, 97, 120, 32, 105, 32, 106, 41, 32, 48, 32, 40, 83, 105, 103, 32, 120, 32, 65, 32, 40, 65, 112, 112, 32, 66, 32, 120, 41, 41, 32, 40, 83, 105, 103, 32, 120, 32, 65, 32, 40, 65, 112, 112, 32, 69, 32, 120, 41, 41, 32, 40, 80, 97, 105, 114, 32, 120, 32, 65, 32, 40, 65, 112, 112, 32, 66, 32, 120, 41, 32, 117, 32, 112, 41, 32, 40, 80, 97, 105, 114, 32, 120, 32, 65, 32, 40, 65, 112, 112, 32, 69, 32, 120, 41, 32, 118, 32, 113, 41, 41, 41, 41, 41, 41, 32, 40, 76, 97, 109, 32, 118, 32, 65, 32, 40, 76, 97, 109, 32, 114, 32, 40, 117, 115, 101, 32, 104, 101, 116, 32, 105, 32, 48, 32, 65, 32, 65, 32, 117, 32, 118, 41, 32, 40, 74, 32, 65, 32, 117, 32, 122, 32, 119, 32, 40, 80, 105, 32, 113, 32, 40, 65, 112, 112, 32, 66, 32, 122, 41, 32, 40, 80, 105, 32, 115, 32, 40, 117, 115, 101, 32, 104, 101, 116, 32, 106, 32, 48, 32, 40, 65, 112, 112, 32, 66, 32, 117, 41, 32, 40, 65, 112, 112, 32, 66, 32, 122, 41, 32, 112, 32, 113, 41, 32, 40, 117, 115, 101, 32, 104, 101, 116, 32, 40, 109, 97, 120, 32, 105, 32, 106, 41, 32, 48, 32, 40, 83, 105, 103, 32, 120, 32, 65, 32, 40, 65, 112, 112, 32, 66, 32, 120, 41, 41, 32, 40, 83, 105, 103, 32, 120, 32, 65, 32, 40, 65, 112, 112, 32, 66, 32, 120, 41, 41, 32, 40, 80, 97, 105, 114, 32, 120, 32, 65, 32, 40, 65, 112, 112, 32, 66, 32, 120, 41, 32, 117, 32, 112, 41, 32, 40, 80, 97, 105, 114, 32, 120, 32, 65, 32, 40, 65, 112, 112, 32, 66, 32, 120, 41, 32, 122, 32, 113, 41, 41, 41, 41, 32, 40, 76, 97, 109, 32, 113, 32, 40, 65, 112, 112, 32, 66, 32, 117, 41, 32, 40, 76, 97, 109, 32, 115, 32, 40, 117, 115, 101, 32, 104, 101, 116, 32, 106, 32, 48, 32, 40, 65, 112, 112, 32, 66, 32, 117, 41, 32, 40, 65, 112, 112, 32, 66, 32, 117, 41, 32, 112, 32, 113, 41, 32, 40, 74, 32, 40, 65, 112, 112, 32, 66, 32, 117, 41, 32, 112, 32, 107, 32, 119, 32, 40, 117, 115, 101, 32, 104, 101, 116, 32, 40, 109, 97, 120, 32, 105, 32, 106, 41, 32, 48, 32, 40, 83, 105, 103, 32, 120, 32, 65, 32, 40, 65, 112, 112, 32, 66, 32, 120, 41, 41, 32, 40, 83, 105, 103, 32, 120, 32, 65, 32, 40, 65, 112, 112, 32, 66, 32, 120, 41, 41, 32, 40, 80, 97, 105, 114, 32, 120, 32, 65, 32, 40, 65, 112, 112, 32, 66, 32, 120, 41, 32, 117, 32, 112, 41, 32, 40, 80, 97, 105, 114, 32, 120, 32, 65, 32, 40, 65, 112, 112, 32, 66, 32, 120, 41, 32, 117, 32, 107, 41, 41, 32, 40, 82, 101, 102, 108, 32, 40, 83, 105, 103, 32, 88, 32, 40, 115, 111, 114, 116, 32, 40, 109, 97, 120, 32, 105, 32, 106, 41, 41, 32, 88, 41, 32, 40, 80, 97, 105, 114, 32, 88, 32, 40, 115, 111, 114, 116, 32, 40, 109, 97, 120, 32, 105, 32, 106, 41, 41, 32, 88, 32, 40, 83, 105, 103, 32, 120, 32, 65, 32, 40, 65, 112, 112, 32, 66, 32, 120, 41, 41, 32, 40, 80, 97, 105, 114, 32, 120, 32, 65, 32, 40, 65, 112, 112, 32, 66, 32, 120, 41, 32, 117, 32, 112, 41, 41, 41, 32, 113, 32, 40, 117, 115, 101, 32, 104, 50, 101, 32, 106, 32, 48, 32, 40, 65, 112, 112, 32, 66, 32, 117, 41, 32, 112, 32, 113, 32, 115, 41, 41, 41, 41, 32, 118, 32, 40, 117, 115, 101, 32, 104, 50, 101, 32, 105, 32, 48, 32, 65, 32, 117, 32, 118, 32, 114, 41, 41, 41, 41, 32, 68, 32, 40, 117, 115, 101, 32, 102, 117, 110, 101, 120, 116, 32, 105, 32, 40, 115, 117, 99, 32, 106, 41, 32, 65, 32, 40, 76, 97, 109, 32, 120, 32, 65, 32, 40, 115, 111, 114, 116, 32, 106, 41, 41, 32, 66, 32, 68, 32, 40, 76, 97, 109, 32, 120, 32, 65, 32, 40, 65, 112, 112, 32, 40, 65, 112, 112, 32, 40, 65, 112, 112, 32, 98, 32, 120, 41, 32, 120, 41, 32, 40, 82, 101, 102, 108, 32, 40, 83, 105, 103, 32, 88, 32, 40, 115, 111, 114, 116, 32, 105, 41, 32, 88, 41, 32, 40, 80, 97, 105, 114, 32, 88, 32, 40, 115, 111, 114, 116, 32, 105, 41, 32, 88, 32, 65, 32, 120, 41, 41, 41, 41, 41, 41, 41, 41, 32, 67, 32, 97, 41, 32, 68, 41, 32, 98, 41, 32, 118, 41, 32, 114, 41, 32, 113, 41, 32, 115, 41, 41]
theorem libok17 : libOk lib17 = true := by kernel_rfl
def lib18 : List UInt8 := [40, 100, 101, 102, 32, 99, 102, 115, 116, 32, 40, 40, 65, 32, 40, 115, 111, 114, 116, 32, 105, 41, 41, 32, 40, 67, 32, 40, 115, 111, 114, 116, 32, 105, 41, 41, 32, 40, 97, 32, 40, 69, 113, 32, 40, 115, 111, 114, 116, 32, 105, 41, 32, 65, 32, 67, 41, 41, 32, 40, 66, 32, 40, 80, 105, 32, 120, 32, 65, 32, 40, 115, 111, 114, 116, 32, 106, 41, 41, 41, 32, 40, 68, 32, 40, 80, 105, 32, 120, 32, 67, 32, 40, 115, 111, 114, 116, 32, 106, 41, 41, 41, 32, 40, 98, 32, 40, 80, 105, 32, 120, 32, 65, 32, 40, 80, 105, 32, 121, 32, 67, 32, 40, 80, 105, 32, 104, 32, 40, 117, 115, 101, 32, 104, 101, 116, 32, 105, 32, 48, 32, 65, 32, 67, 32, 120, 32, 121, 41, 32, 40, 69, 113, 32, 40, 115, 111, 114, 116, 32, 106, 41, 32, 40, 65, 112, 112, 32, 66, 32, 120, 41, 32, 40, 65, 112, 112, 32, 68, 32, 121, 41, 41, 41, 41, 41, 41, 32, 40, 112, 32, 40, 83, 105, 103, 32, 120, 32, 65, 32, 40, 65, 112, 112, 32, 66, 32, 120, 41, 41, 41, 32, 40, 113, 32, 40, 83, 105, 103, 32, 120, 32, 67, 32, 40, 65, 112, 112, 32, 68, 32, 120, 41, 41, 41, 32, 40, 115, 32, 40, 117, 115, 101, 32, 104, 101, 116, 32, 40, 109, 97, 120, 32, 105, 32, 106, 41, 32, 48, 32, 40, 83, 105, 103, 32, 120, 32, 65, 32, 40, 65, 112, 112, 32, 66, 32, 120, 41, 41, 32, 40, 83, 105, 103, 32, 120, 32, 67, 32, 40, 65, 112, 112, 32, 68, 32, 120, 41, 41, 32, 112, 32, 113, 41, 41, 41, 32, 40, 117, 115, 101, 32, 104, 101, 116, 32, 105, 32, 48, 32, 65, 32, 67, 32, 40, 70, 115, 116, 32, 112, 41, 32, 40, 70, 115, 116, 32, 113, 41, 41, 32, 40, 65, 112, 112, 32, 40, 65, 112, 112, 32, 40, 65, 112, 112, 32, 40, 65, 112, 112, 32, 40, 74, 32, 40, 115, 111, 114, 116, 32, 105, 41, 32, 65, 32, 89, 32, 101, 32, 40, 80, 105, 32, 68, 32, 40, 80, 105, 32, 120, 32, 89, 32, 40, 115, 111, 114, 116, 32, 106, 41, 41, 32, 40, 80, 105, 32, 98, 32, 40, 80, 105, 32, 120, 32, 65, 32, 40, 80, 105, 32, 121, 32, 89, 32, 40, 80, 105, 32, 104, 32, 40, 117, 115, 101, 32, 104, 101, 116, 32, 105, 32, 48, 32, 65, 32, 89, 32, 120, 32, 121, 41, 32, 40, 69, 113, 32, 40, 115, 111, 114, 116, 32, 106, 41, 32, 40, 65, 112, 112, 32, 66, 32, 120, 41, 32, 40, 65, 112, 112, 32, 68, 32, 121, 41, 41, 41, 41, 41, 32, 40, 80, 105, 32, 113, 32, 40, 83, 105, 103, 32, 120, 32, 89, 32, 40, 65, 112, 112, 32, 68, 32, 120, 41, 41, 32, 40, 80, 105, 32, 115, 32, 40, 117, 115, 101, 32, 104, 101, 116, 32, 40, 109, 97, 120, 32, 105, 32, 106, 41, 32, 48, 32, 40, 83, 105, 103, 32, 120, 32, 65, 32, 40, 65, 112, 112, 32, 66, 32, 120, 41, 41, 32, 40, 83, 105, 103, 32, 120, 32, 89, 32, 40, 65, 112, 112, 32, 68, 32, 120, 41, 41, 32, 112, 32, 113, 41, 32, 40, 117, 115, 101, 32, 104, 101, 116, 32, 105, 32, 48, 32, 65, 32, 89, 32, 40, 70, 115, 116, 32, 112, 41, 32, 40, 70, 115, 116, 32, 113, 41, 41, 41, 41, 41, 41, 32, 40, 76, 97, 109, 32, 68, 32, 40, 80, 105, 32, 120, 32, 65, 32, 40, 115, 111, 114, 116, 32, 106, 41, 41, 32, 40, 76, 97, 109, 32, 98, 32, 40, 80, 105, 32, 120, 32, 65, 32, 40, 80, 105, 32, 121, 32, 65, 32, 40, 80, 105, 32, 104, 32, 40, 117, 115, 101, 32, 104, 101, 116, 32, 105, 32, 48, 32, 65, 32, 65, 32, 120, 32, 121, 41, 32, 40, 69, 113, 32, 40, 115, 111, 114, 116, 32, 106, 41, 32, 40, 65, 112, 112, 32, 66, 32, 120, 41, 32, 40, 65, 112, 112, 32, 68, 32, 121, 41, 41, 41, 41, 41, 32, 40, 74, 32, 40, 80, 105, 32, 120, 32, 65, 32, 40, 115, 111, 114, 116, 32, 106, 41, 41, 32, 66, 32, 69, 32, 119, 32, 40, 80, 105, 32, 113, 32, 40, 83, 105, 103, 32, 120, 32, 65, 32, 40, 65, 112, 112, 32, 69, 32, 120, 41, 41, 32, 40, 80, 105, 32, 115, 32, 40, 117, 115, 101, 32, 104, 101, 116, 32, 40, 109, 97, 120, 32, 105, 32, 106, 41, 32, 48, 32, 40, 83, 105, 103, 32, 120, 32, 65, 32, 40, 65, 112, 112, 32, 66, 32, 120, 41, 41, 32, 40, 83, 105, 103, 32, 120, 32, 65, 32, 40, 65, 112, 112, 32, 69, 32, 120, 41, 41, 32, 112, 32, 113, 41, 32, 40, 117, 115, 101, 32, 104, 101, 116, 32, 105, 32, 48, 32, 65, 32, 65, 32, 40, 70, 115, 116, 32, 112, 41, 32, 40, 70, 115, 116, 32, 113, 41, 41, 41, 41, 32, 40, 76, 97, 109, 32, 113, 32, 40, 83, 105, 103, 32, 120, 32, 65, 32, 40, 65, 112, 112, 32, 66, 32, 120, 41, 41, 32, 40, 76, 97, 109, 32, 115, 32, 40, 117, 115, 101, 32, 104, 101, 116, 32, 40, 109, 97, 120, 32, 105, 32, 106, 41, 32, 48, 32, 40, 83, 105, 103, 32, 120, 32, 65, 32, 40, 65, 112, 112, 32, 66, 32, 120, 41, 41, 32, 40, 83, 105, 103, 32, 120, 32, 65, 32, 40, 65, 112, 112, 32, 66, 32, 120, 41, 41, 32, 112, 32, 113, 41, 32, 40, 74, 32, 40, 83, 105, 103, 32, 120, 32, 65, 32, 40, 65, 112, 112, 32, 66, 32, 120, 41, 41, 32, 112, 32, 107, 32, 119, 32, 40, 117, 115, 101, 32, 104, 101, 116, 32, 105, 32, 48, 32, 65, 32, 65, 32, 40, 70, 115, 116, 32, 112, 41, 32, 40, 70, 115, 116, 32, 107, 41, 41, 32, 40, 82, 101, 102, 108, 32, 40, 83, 105, 103, 32, 88, 32, 40, 115, 111, 114, 116, 32, 105, 41, 32, 88, 41, 32, 40, 80, 97, 105, 114, 32, 88, 32, 40, 115, 111, 114, 116, 32, 105, 41, 32, 88, 32, 65, 32, 40, 70, 115, 116, 32, 112, 41, 41, 41, 32, 113, 32, 40, 117, 115, 101, 32, 104, 50, 101, 32, 40, 109, 97, 120, 32, 105, 32, 106, 41, 32, 48, 32, 40, 83, 105, 103, 32, 120, 32, 65, 32, 40, 65, 112, 112, 32, 66, 32, 120, 41, 41, 32, 112, 32, 113, 32, 115, 41, 41, 41, 41, 32, 68, 32, 40, 117, 115, 101, 32, 102, 117, 110, 101, 120, 116, 32, 105, 32, 40, 115, 117, 99, 32, 106, 41, 32, 65, 32, 40, 76, 97, 109, 32, 120, 32, 65, 32, 40, 115, 111, 114, 116, 32, 106, 41, 41, 32, 66, 32, 68, 32, 40, 76, 97, 109, 32, 120, 32, 65, 32, 40, 65, 112, 112, 32, 40, 65, 112, 112, 32, 40, 65, 112, 112, 32, 98, 32, 120, 41, 32, 120, 41, 32, 40, 82, 101, 102, 108, 32, 40, 83, 105, 103, 32, 88, 32, 40, 115, 111, 114, 116, 32, 105, 41, 32, 88, 41, 32, 40, 80, 97, 105, 114, 32, 88, 32, 40, 115, 111, 114, 116, 32, 105, 41, 32, 88, 32, 65, 32, 120, 41, 41, 41, 41, 41, 41, 41, 41, 32, 67, 32, 97, 41, 32, 68, 41, 32, 98, 41, 32, 113, 41, 32, 115, 41, 41]
theorem libok18 : libOk lib18 = true := by kernel_rfl
def lib19 : List UInt8 := [40, 100, 101, 102, 32, 99, 115, 110, 100, 32, 40, 40, 65, 32, 40, 115, 111, 114, 116, 32, 105, 41, 41, 32, 40, 67, 32, 40, 115, 111, 114, 116, 32, 105, 41, 41, 32, 40, 97, 32, 40, 69, 113, 32, 40, 115, 111, 114, 116, 32, 105, 41, 32, 65, 32, 67, 41, 41, 32, 40, 66, 32, 40, 80, 105, 32, 120, 32, 65, 32, 40, 115, 111, 114, 116, 32, 106, 41, 41, 41, 32, 40, 68, 32, 40, 80, 105, 32, 120, 32, 67, 32, 40, 115, 111, 114, 116, 32, 106, 41, 41, 41, 32, 40, 98, 32, 40, 80, 105, 32, 120, 32, 65, 32, 40, 80, 105, 32, 121, 32, 67, 32, 40, 80, 105, 32, 104, 32, 40, 117, 115, 101, 32, 104, 101, 116, 32, 105, 32, 48, 32, 65, 32, 67, 32, 120, 32, 121, 41, 32, 40, 69, 113, 32, 40, 115, 111, 114, 116, 32, 106, 41, 32, 40, 65, 112, 112, 32, 66, 32, 120, 41, 32, 40, 65, 112, 112, 32, 68, 32, 121, 41, 41, 41, 41, 41, 41, 32, 40, 112, 32, 40, 83, 105, 103, 32, 120, 32, 65, 32, 40, 65, 112, 112, 32, 66, 32, 120, 41, 41, 41, 32, 40, 113, 32, 40, 83, 105, 103, 32, 120, 32, 67, 32, 40, 65, 112, 112, 32, 68, 32, 120, 41, 41, 41, 32, 40, 115, 32, 40, 117, 115, 101, 32, 104, 101, 116, 32, 40, 109, 97, 120, 32, 105, 32, 106, 41, 32, 48, 32, 40, 83, 105, 103, 32, 120, 32, 65, 32, 40, 65, 112, 112, 32, 66, 32, 120, 41, 41, 32, 40, 83, 105, 103, 32, 120, 32, 67, 32, 40, 65, 112, 112, 32, 68, 32, 120, 41, 41, 32, 112, 32, 113, 41, 41, 41, 32, 40, 117, 115, 101, 32, 104, 101, 116, 32, 106, 32, 48, 32, 40, 65, 112, 112, 32, 66, 32, 40, 70, 115, 116, 32, 112, 41, 41, 32, 40, 65, 112, 112, 32, 68, 32, 40, 70, 115, 116, 32, 113, 41, 41, 32, 40, 83, 110, 100, 32, 112, 41, 32, 40, 83, 110, 100, 32, 113, 41, 41, 32, 40, 65, 112, 112, 32, 40, 65, 112, 112, 32, 40, 65, 112, 112, 32, 40, 65, 112, 112, 32, 40, 74, 32, 40, 115, 111, 114, 116, 32, 105, 41, 32, 65, 32, 89, 32, 101, 32, 40, 80, 105, 32, 68, 32, 40, 80, 105, 32, 120, 32, 89, 32, 40, 115, 111, 114, 116, 32, 106, 41, 41, 32, 40, 80, 105, 32, 98, 32, 40, 80, 105, 32, 120, 32, 65, 32, 40, 80, 105, 32, 121, 32, 89, 32, 40, 80, 105, 32, 104, 32, 40, 117, 115, 101, 32, 104, 101, 116, 32, 105, 32, 48, 32, 65, 32, 89, 32, 120, 32, 121, 41, 32, 40, 69, 113, 32, 40, 115, 111, 114, 116, 32, 106, 41, 32, 40, 65, 112, 112, 32, 66, 32, 120, 41, 32, 40, 65, 112, 112, 32, 68, 32, 121, 41, 41, 41, 41, 41, 32, 40, 80, 105, 32, 113, 32, 40, 83, 105, 103, 32, 120, 32, 89, 32, 40, 65, 112, 112, 32, 68, 32, 120, 41, 41, 32, 40, 80, 105, 32, 115, 32, 40, 117, 115, 101, 32, 104, 101, 116, 32, 40, 109, 97, 120, 32, 105, 32, 106, 41, 32, 48, 32, 40, 83, 105, 103, 32, 120, 32, 65, 32, 40, 65, 112, 112, 32, 66, 32, 120, 41, 41, 32, 40, 83, 105, 103, 32, 120, 32, 89, 32, 40, 65, 112, 112, 32, 68, 32, 120, 41, 41, 32, 112, 32, 113, 41, 32, 40, 117, 115, 101, 32, 104, 101, 116, 32, 106, 32, 48, 32, 40, 65, 112, 112, 32, 66, 32, 40, 70, 115, 116, 32, 112, 41, 41, 32, 40, 65, 112, 112, 32, 68, 32, 40, 70, 115, 116, 32, 113, 41, 41, 32, 40, 83, 110, 100, 32, 112, 41, 32, 40, 83, 110, 100, 32, 113, 41, 41, 41, 41, 41, 41, 32, 40, 76, 97, 109, 32, 68, 32, 40, 80, 105, 32, 120, 32, 65, 32, 40, 115, 111, 114, 116, 32, 106, 41, 41, 32, 40, 76, 97, 109, 32, 98, 32, 40, 80, 105, 32, 120, 32, 65, 32, 40, 80, 105, 32, 121, 32, 65, 32, 40, 80, 105, 32, 104, 32, 40, 117, 115, 101, 32, 104, 101, 116, 32, 105, 32, 48, 32, 65, 32, 65, 32, 120, 32, 121, 41, 32, 40, 69, 113, 32, 40, 115, 111, 114, 116, 32, 106, 41, 32, 40, 65, 112, 112, 32, 66, 32, 120, 41, 32, 40, 65, 112, 112, 32, 68, 32, 121, 41, 41, 41, 41, 41, 32, 40, 74, 32, 40, 80, 105, 32, 120, 32, 65, 32, 40, 115, 111, 114, 116, 32, 106, 41, 41, 32, 66, 32, 69, 32, 119, 32, 40, 80, 105, 32, 113, 32, 40, 83, 105, 103, 32, 120, 32, 65, 32, 40, 65, 112, 112, 32, 69, 32, 120, 41, 41, 32, 40, 80, 105, 32, 115, 32, 40, 117, 115, 101, 32, 104, 101, 116, 32, 40, 109, 97, 120, 32, 105, 32, 106, 41, 32, 48, 32, 40, 83, 105, 103, 32, 120, 32, 65, 32, 40, 65, 112, 112, 32, 66, 32, 120, 41, 41, 32, 40, 83, 105, 103, 32, 120, 32, 65, 32, 40, 65, 112, 112, 32, 69, 32, 120, 41, 41, 32, 112, 32, 113, 41, 32, 40, 117, 115, 101, 32, 104, 101, 116, 32, 106, 32, 48, 32, 40, 65, 112, 112, 32, 66, 32, 40, 70, 115, 116, 32, 112, 41, 41, 32, 40, 65, 112, 112, 32, 69, 32, 40, 70, 115, 116, 32, 113, 41, 41, 32, 40, 83, 110, 100, 32, 112, 41, 32, 40, 83, 110, 100, 32, 113, 41, 41, 41, 41, 32, 40, 76, 97, 109, 32, 113, 32, 40, 83, 105, 103, 32, 120, 32, 65, 32, 40, 65, 112, 112, 32, 66, 32, 120, 41, 41, 32, 40, 76, 97, 109, 32, 115, 32, 40, 117, 115, 101, 32, 104, 101, 116, 32, 40, 109, 97, 120, 32, 105, 32, 106, 41, 32, 48, 32, 40, 83, 105, 103, 32, 120, 32, 65, 32, 40, 65, 112, 112, 32, 66, 32, 120, 41, 41, 32, 40, 83, 105, 103, 32, 120, 32, 65, 32, 40, 65, 112, 112, 32, 66, 32, 120, 41, 41, 32, 112, 32, 113, 41, 32, 40, 74, 32, 40, 83, 105, 103, 32, 120, 32, 65, 32, 40, 65, 112, 112, 32, 66, 32, 120, 41, 41, 32, 112, 32, 107, 32, 119, 32, 40, 117, 115, 101, 32, 104, 101, 116, 32, 106, 32, 48, 32, 40, 65, 112, 112, 32, 66, 32, 40, 70, 115, 116, 32, 112, 41, 41, 32, 40, 65, 112, 112, 32, 66, 32, 40, 70, 115, 116, 32, 107, 41, 41, 32, 40, 83, 110, 100, 32, 112, 41, 32, 40, 83, 110, 100, 32, 107, 41, 41, 32, 40, 82, 101, 102, 108, 32, 40, 83, 105, 103, 32, 88, 32, 40, 115, 111, 114, 116, 32, 106, 41, 32, 88, 41, 32, 40, 80, 97, 105, 114, 32, 88, 32, 40, 115, 111, 114, 116, 32, 106, 41, 32, 88, 32, 40, 65, 112, 112, 32, 66, 32, 40, 70, 115, 116, 32, 112, 41, 41, 32, 40, 83, 110, 100, 32, 112, 41, 41, 41, 32, 113, 32, 40, 117, 115, 101, 32, 104, 50, 101, 32, 40, 109, 97, 120, 32, 105, 32, 106, 41, 32, 48, 32, 40, 83, 105, 103, 32, 120, 32, 65, 32, 40, 65, 112, 112, 32, 66, 32, 120, 41, 41, 32, 112, 32, 113, 32, 115, 41, 41, 41, 41, 32, 68, 32, 40, 117, 115, 101, 32, 102, 117, 110, 101, 120, 116, 32, 105, 32, 40, 115, 117, 99, 32, 106, 41, 32, 65, 32, 40, 76, 97, 109, 32, 120, 32, 65, 32, 40, 115, 111, 114, 116, 32, 106, 41, 41, 32, 66, 32, 68, 32, 40, 76, 97, 109, 32, 120, 32, 65, 32, 40, 65, 112, 112, 32, 40, 65, 112, 112, 32, 40, 65, 112, 112, 32, 98, 32, 120, 41, 32, 120, 41, 32, 40, 82, 101, 102, 108, 32, 40, 83, 105, 103, 32, 88, 32, 40, 115, 111, 114, 116, 32, 105, 41, 32, 88, 41, 32, 40, 80, 97, 105, 114, 32, 88, 32, 40, 115, 111, 114, 116, 32, 105, 41, 32, 88, 32, 65, 32, 120, 41, 41, 41, 41, 41, 41, 41, 41, 32, 67, 32, 97, 41, 32, 68, 41, 32, 98, 41, 32, 113, 41, 32, 115, 41, 41]
theorem libok19 : libOk lib19 = true := by kernel_rfl
def lib20 : List UInt8 := [40, 100, 101, 102, 32, 99, 101, 113, 32, 40, 40, 65, 32, 40, 115, 111, 114, 116, 32, 105, 41, 41, 32, 40, 67, 32, 40, 115, 111, 114, 116, 32, 105, 41, 41, 32, 40, 97, 32, 40, 69, 113, 32, 40, 115, 111, 114, 116, 32, 105, 41, 32, 65, 32, 67, 41, 41, 32, 40, 117, 32, 65, 41, 32, 40, 118, 32, 67, 41, 32, 40, 114, 32, 40, 117, 115, 101, 32, 104, 101, 116, 32, 105, 32, 48, 32, 65, 32, 67, 32, 117, 32, 118, 41, 41, 32, 40, 112, 32, 65, 41, 32, 40, 113, 32, 67, 41, 32, 40, 115, 32, 40, 117, 115, 101, 32, 104, 101, 116, 32, 105, 32, 48, 32, 65, 32, 67, 32, 112, 32, 113, 41, 41, 41, 32, 40, 69, 113, 32, 40, 115, 111, 114, 116, 32, 105, 41, 32, 40, 69, 113, 32, 65, 32, 117, 32, 112, 41, 32, 40, 69, 113, 32, 67, 32, 118, 32, 113, 41, 41, 32, 40, 65, 112, 112, 32, 40, 65, 112, 112, 32, 40, 65, 112, 112, 32, 40, 65, 112, 112, 32, 40, 74, 32, 40, 115, 111, 114, 116, 32, 105, 41, 32, 65, 32, 89, 32, 101, 32, 40, 80, 105, 32, 118, 32, 89, 32, 40, 80, 105, 32, 114, 32, 40, 117, 115, 101, 32, 104, 101, 116, 32, 105, 32, 48, 32, 65, 32, 89, 32, 117, 32, 118, 41, 32, 40, 80, 105, 32, 113, 32, 89, 32, 40, 80, 105, 32, 115, 32, 40, 117, 115, 101, 32, 104, 101, 116, 32, 105, 32, 48, 32, 65, 32, 89, 32, 112, 32, 113, 41, 32, 40, 69, 113, 32, 40, 115, 111, 114, 116, 32, 105, 41, 32, 40, 69, 113, 32, 65, 32, 117, 32, 112, 41, 32, 40, 69, 113, 32, 89, 32, 118, 32, 113, 41, 41, 41, 41, 41, 41, 32, 40, 76, 97, 109, 32, 118, 32, 65, 32, 40, 76, 97, 109, 32, 114, 32, 40, 117, 115, 101, 32, 104, 101, 116, 32, 105, 32, 48, 32, 65, 32, 65, 32, 117, 32, 118, 41, 32, 40, 76, 97, 109, 32, 113, 32, 65, 32, 40, 76, 97, 109, 32, 115, 32, 40, 117, 115, 101, 32, 104, 101, 116, 32, 105, 32, 48, 32, 65, 32, 65, 32, 112, 32, 113, 41, 32, 40, 74, 32, 65, 32, 117, 32, 122, 32, 119, 32, 40, 69, 113, 32, 40, 115, 111, 114, 116, 32, 105, 41, 32, 40, 69, 113, 32, 65, 32, 117, 32, 112, 41, 32, 40, 69, 113, 32, 65, 32, 122, 32, 113, 41, 41, 32, 40, 74, 32, 65, 32, 112, 32, 107, 32, 119, 32, 40, 69, 113, 32, 40, 115, 111, 114, 116, 32, 105, 41, 32, 40, 69, 113, 32, 65, 32, 117, 32, 112, 41, 32, 40, 69, 113, 32, 65, 32, 117, 32, 107, 41, 41, 32, 40, 82, 101, 102, 108, 32, 40, 115, 111, 114, 116, 32, 105, 41, 32, 40, 69, 113, 32, 65, 32, 117, 32, 112, 41, 41, 32, 113, 32, 40, 117, 115, 101, 32, 104, 50, 101, 32, 105, 32, 48, 32, 65, 32, 112, 32, 113, 32, 115, 41, 41, 32, 118, 32, 40, 117, 115, 101, 32, 104, 50, 101, 32, 105, 32, 48, 32, 65, 32, 117, 32, 118, 32, 114, 41, 41, 41, 41, 41, 41, 32, 67, 32, 97, 41, 32, 118, 41, 32, 114, 41, 32, 113, 41, 32, 115, 41, 41]
theorem libok20 : libOk lib20 = true := by kernel_rfl
def lib21 : List UInt8 := [40, 100, 101, 102, 32, 99, 114, 101, 102, 108, 32, 40, 40, 65, 32, 40, 115, 111, 114, 116, 32, 105, 41, 41, 32, 40, 67, 32, 40, 115, 111, 114, 116, 32, 105, 41, 41, 32, 40, 97, 32, 40, 69, 113, 32, 40, 115, 111, 114, 116, 32, 105, 41, 32, 65, 32, 67, 41, 41, 32, 40, 117, 32, 65, 41, 32, 40, 118, 32, 67, 41, 32, 40, 114, 32, 40, 117, 115, 101, 32, 104, 101, 116, 32, 105, 32, 48, 32, 65, 32, 67, 32, 117, 32, 118, 41, 41, 41, 32, 40, 117, 115, 101, 32, 104, 101, 116, 32, 105, 32, 48, 32, 40, 69, 113, 32, 65, 32, 117, 32, 117, 41, 32, 40, 69, 113, 32, 67, 32, 118, 32, 118, 41, 32, 40, 82, 101, 102, 108, 32, 65, 32, 117, 41, 32, 40, 82, 101, 102, 108, 32, 67, 32, 118, 41, 41, 32, 40, 65, 112, 112, 32, 40, 65, 112, 112, 32, 40, 74, 32, 40, 115, 111, 114, 116, 32, 105, 41, 32, 65, 32, 89, 32, 101, 32, 40, 80, 105, 32, 118, 32, 89, 32, 40, 80, 105, 32, 114, 32, 40, 117, 115, 101, 32, 104, 101, 116, 32, 105, 32, 48, 32, 65, 32, 89, 32, 117, 32, 118, 41, 32, 40, 117, 115, 101, 32, 104, 101, 116, 32, 105, 32, 48, 32, 40, 69, 113, 32, 65, 32, 117, 32, 117, 41, 32, 40, 69, 113, 32, 89, 32, 118, 32, 118, 41, 32, 40, 82, 101, 102, 108, 32, 65, 32, 117, 41, 32, 40, 82, 101, 102, 108, 32, 89, 32, 118, 41, 41, 41, 41, 32, 40, 76, 97, 109, 32, 118, 32, 65, 32, 40, 76, 97, 109, 32, 114, 32, 40, 117, 115, 101, 32, 104, 101, 116, 32, 105, 32, 48, 32, 65, 32, 65, 32, 117, 32, 118, 41, 32, 40, 74, 32, 65, 32, 117, 32, 122, 32, 119, 32, 40, 117, 115, 101, 32, 104, 101, 116, 32, 105, 32, 48, 32, 40, 69, 113, 32, 65, 32, 117, 32, 117, 41, 32, 40, 69, 113, 32, 65, 32, 122, 32, 122, 41, 32, 40, 82, 101, 102, 108, 32, 65, 32, 117, 41, 32, 40, 82, 101, 102, 108, 32, 65, 32, 122, 41, 41, 32, 40, 82, 101, 102, 108, 32, 40, 83, 105, 103, 32, 88, 32, 40, 115, 111, 114, 116, 32, 105, 41, 32, 88, 41, 32, 40, 80, 97, 105, 114, 32, 88, 32, 40, 115, 111, 114, 116, 32, 105, 41, 32, 88, 32, 40, 69, 113, 32, 65, 32, 117, 32, 117, 41, 32, 40, 82, 101, 102, 108, 32, 65, 32, 117, 41, 41, 41, 32, 118, 32, 40, 117, 115, 101, 32, 104, 50, 101, 32, 105, 32, 48, 32, 65, 32, 117, 32, 118, 32, 114, 41, 41, 41, 41, 32, 67, 32, 97, 41, 32, 118, 41, 32, 114, 41, 41]
theorem libok21 : libOk lib21 = true := by kernel_rfl
def libL : List (List UInt8) := [lib1, lib2, lib3, lib4, lib5, lib6, lib7, lib8, lib9, lib10, lib11, lib12, lib13, lib14, lib15, lib16, lib17, lib18, lib19, lib20, lib21]
theorem build_wp {o : Oper} {a : Act} {w w' : World} {K : Act → World → Prop} {Q : Exit → Act → World → Prop} {v : Value} (h : (execOp a.eval o).run Tryd.prog w = .ok (.value v) w') (hk : K (a.put o.dst v) w') : o.wp Tryd.prog a w K Q := by
  unfold Oper.wp
  rw [h]
  exact hk
set_option maxHeartbeats 2000000 in
theorem lib_any (w : World) : Calls Tryd.prog 26 #[] w fun e w' => ∃ g, e = .returned (.slice (some ⟨g, 0, none⟩) 21 21) ∧ Rt.WRow w' g libL ∧ w.grownBy w' none := by
  go_enter Tryd.func26, Tryd.ntmps26
  go_wp2
  refine build_wp (v := .slice (some ⟨w.heap.size, 0, none⟩) 21 21) (w' := w.alloc (.cells (libL.map Rt.strV).toArray 9)) (by kernel_rfl) ?_
  go_wp2
  go_ret
  exact ⟨w.heap.size, rfl, Rt.wrow_lit w libL, Rt.below_gr ((Below.refl _ _).alloc (Nat.le_refl _) _)⟩
theorem lib_ok : ∀ l ∈ libL, libOk l = true := by
  intro l hl
  simp only [libL, List.mem_cons, List.not_mem_nil, or_false] at hl
  rcases hl with rfl | rfl | rfl | rfl | rfl | rfl | rfl | rfl | rfl | rfl | rfl | rfl | rfl | rfl | rfl | rfl | rfl | rfl | rfl | rfl | rfl
  · exact libok1
  · exact libok2
  · exact libok3
  · exact libok4
  · exact libok5
  · exact libok6
  · exact libok7
  · exact libok8
  · exact libok9
  · exact libok10
  · exact libok11
  · exact libok12
  · exact libok13
  · exact libok14
  · exact libok15
  · exact libok16
  · exact libok17
  · exact libok18
  · exact libok19
  · exact libok20
  · exact libok21
end Go.Proofs.YtpekceadjcbphaaDoor.Sg

namespace Go.Proofs.YtpekceadjcbphaaDoor.Sg

/-- The line of a symbol says what its number says. -/
def lineB (n : Nat) (l : List UInt8) : Bool := match planL l (lexF (l.length + 1) l 0).1 with
  | none => false
  | some pl => decide ((pl.pars.length : Int) = kidsN 23 n) && (pl.name == nameB n) && (pl.defn == decide (2 < n)) && (pl.body.isSome == decide (2 < n))
set_option maxRecDepth 100000
theorem line1 : lineB 1 lib1 = true := by kernel_rfl
theorem line2 : lineB 2 lib2 = true := by kernel_rfl
theorem line3 : lineB 3 lib3 = true := by kernel_rfl
theorem line4 : lineB 4 lib4 = true := by kernel_rfl
theorem line5 : lineB 5 lib5 = true := by kernel_rfl
theorem line6 : lineB 6 lib6 = true := by kernel_rfl
theorem line7 : lineB 7 lib7 = true := by kernel_rfl
theorem line8 : lineB 8 lib8 = true := by kernel_rfl
theorem line9 : lineB 9 lib9 = true := by kernel_rfl
theorem line10 : lineB 10 lib10 = true := by kernel_rfl
theorem line11 : lineB 11 lib11 = true := by kernel_rfl
theorem line12 : lineB 12 lib12 = true := by kernel_rfl
theorem line13 : lineB 13 lib13 = true := by kernel_rfl
theorem line14 : lineB 14 lib14 = true := by kernel_rfl
theorem line15 : lineB 15 lib15 = true := by kernel_rfl
theorem line16 : lineB 16 lib16 = true := by kernel_rfl
theorem line17 : lineB 17 lib17 = true := by kernel_rfl
theorem line18 : lineB 18 lib18 = true := by kernel_rfl
theorem line19 : lineB 19 lib19 = true := by kernel_rfl
theorem line20 : lineB 20 lib20 = true := by kernel_rfl
theorem line21 : lineB 21 lib21 = true := by kernel_rfl
theorem line_ok : ∀ n : Nat, ∀ l, libL[n]? = some l → lineB (n + 1) l = true
  | 0, l, h => by cases h; exact line1
  | 1, l, h => by cases h; exact line2
  | 2, l, h => by cases h; exact line3
  | 3, l, h => by cases h; exact line4
  | 4, l, h => by cases h; exact line5
  | 5, l, h => by cases h; exact line6
  | 6, l, h => by cases h; exact line7
  | 7, l, h => by cases h; exact line8
  | 8, l, h => by cases h; exact line9
  | 9, l, h => by cases h; exact line10
  | 10, l, h => by cases h; exact line11
  | 11, l, h => by cases h; exact line12
  | 12, l, h => by cases h; exact line13
  | 13, l, h => by cases h; exact line14
  | 14, l, h => by cases h; exact line15
  | 15, l, h => by cases h; exact line16
  | 16, l, h => by cases h; exact line17
  | 17, l, h => by cases h; exact line18
  | 18, l, h => by cases h; exact line19
  | 19, l, h => by cases h; exact line20
  | 20, l, h => by cases h; exact line21
  | n + 21, l, h => by
    have : libL.length = 21 := rfl
    have := (List.getElem?_eq_some_iff.1 h).1
    omega
end Go.Proofs.YtpekceadjcbphaaDoor.Sg

namespace Go.Proofs.YtpekceadjcbphaaDoor.Sg

set_option maxRecDepth 100000
theorem wk17 : (match planL lib6 (lexF (lib6.length + 1) lib6 0).1 with
    | none => false
    | some pl => (pl.name == [104, 101, 116]) && (pl.defn && ((pl.pars.length == 4) && (match readF pl.type (pl.pars.map (·.1)) 2 0 with
      | .error _ => false
      | .ok t => decide (t.k = 1) && decide (t.i = 3))))) = true := by kernel_rfl
theorem wk17_plan {pl : Plan} (h : planL lib6 (lexF (lib6.length + 1) lib6 0).1 = some pl) : pl.name = [104, 101, 116] ∧ pl.defn = true ∧ pl.pars.length = 4 ∧ (typeT pl 2 0).k = 1 ∧ (typeT pl 2 0).i = 3 := by
  have hw := wk17
  rw [h] at hw
  dsimp only at hw
  rw [Bool.and_eq_true, Bool.and_eq_true, Bool.and_eq_true] at hw
  obtain ⟨h1, h2, h3, h4⟩ := hw
  refine ⟨by simpa using h1, h2, by simpa using h3, ?_⟩
  unfold typeT
  cases hr : readF pl.type (pl.pars.map (·.1)) 2 0 with
  | error a => rw [hr] at h4; cases h4
  | ok t =>
    rw [hr] at h4
    have h0 : readB pl.type (pl.pars.map (·.1)) 2 0 = .ok t := ok_readB (by omega) (by rw [readF_eq, hr])
    rw [h0]
    have h5 : t.k = 1 ∧ t.i = 3 := by simpa using h4
    exact h5
/-- What a line's plan says of its symbol. -/
theorem line_says {n : Nat} {l : List UInt8} {pl : Plan} (h : lineB n l = true) (hp : planL l (lexF (l.length + 1) l 0).1 = some pl) : (pl.pars.length : Int) = kidsN 23 n ∧ pl.name = nameB n ∧ pl.defn = decide (2 < n) ∧ pl.body.isSome = decide (2 < n) := by
  unfold lineB at h
  rw [hp] at h
  dsimp only at h
  rw [Bool.and_eq_true, Bool.and_eq_true, Bool.and_eq_true] at h
  exact ⟨by simpa using h.1.1.1, by simpa using h.1.1.2, by simpa using h.1.2, by simpa using h.2⟩
end Go.Proofs.YtpekceadjcbphaaDoor.Sg

namespace Go.Proofs.YtpekceadjcbphaaDoor.Sg
open Go.RowKit

def symV (name : List UInt8) (ps ts bs : Value) (ty bo : Tm) (d : Bool) : Array Value := #[.string ⟨name.toArray⟩, ps, .int .i64 ty.k, .int .i64 ty.i, .int .i64 ty.j, .int .i64 ty.n, ts, .int .i64 bo.k, .int .i64 bo.i, .int .i64 bo.j, .int .i64 bo.n, bs, .bool d]
def noSym : Value := .agg (symV [] (.slice none 0 0) (.slice none 0 0) (.slice none 0 0) Tm.zero Tm.zero false)
theorem under_sym : ∃ d, Tryd.prog.underlying 34 = some d ∧ (match d with | .struct _ | .array _ _ => true | _ => false) = true := by
  refine ⟨(Tryd.prog.underlying 34).get (by kernel_rfl), ?_, by kernel_rfl⟩
  exact (Option.some_get _).symm
theorem size_sym : (Tryd.prog.info? 34).map (·.size) = some 13 := by kernel_rfl
set_option maxHeartbeats 1000000 in
set_option maxRecDepth 20000 in
theorem at_none (n i j : Int) (w : World) (h : n < 1 ∨ 21 < n ∨ i < 0 ∨ 1000 ≤ i ∨ j < 0 ∨ 1000 ≤ j) : Calls Tryd.prog 12 #[.int .i64 n, .int .i64 i, .int .i64 j] w fun e w' => e = .returned (.tuple #[noSym, .bool false]) ∧ Below w.heap.size w w' := by
  obtain ⟨du, hu1, hu2⟩ := under_sym
  have HB := Lib.hid ((Below.refl w.heap.size w).alloc (Nat.le_refl _) (.cells (symV [] (.slice none 0 0) (.slice none 0 0) (.slice none 0 0) Tm.zero Tm.zero false) 34))
  have HZ := Lib.hid (show (w.alloc (.cells (symV [] (.slice none 0 0) (.slice none 0 0) (.slice none 0 0) Tm.zero Tm.zero false) 34)).heap[w.heap.size]? = some _ from alloc_new _ _)
  by_cases c1 : n < 1
  · clear h
    go_enter Tryd.func12, Tryd.ntmps12
    go_wp2
    refine bodyPost_ret (results_cell_tmp rfl _ _ w.heap.size _ _ _ du rfl HZ.out hu1 (by cases du <;> first | rfl | exact hu2) size_sym) rfl ?_
    exact ⟨rfl, HB.out⟩
  by_cases c2 : 21 < n
  · clear h
    go_enter Tryd.func12, Tryd.ntmps12
    go_wp2
    refine bodyPost_ret (results_cell_tmp rfl _ _ w.heap.size _ _ _ du rfl HZ.out hu1 (by cases du <;> first | rfl | exact hu2) size_sym) rfl ?_
    exact ⟨rfl, HB.out⟩
  by_cases c3 : i < 0
  · clear h
    go_enter Tryd.func12, Tryd.ntmps12
    go_wp2
    refine bodyPost_ret (results_cell_tmp rfl _ _ w.heap.size _ _ _ du rfl HZ.out hu1 (by cases du <;> first | rfl | exact hu2) size_sym) rfl ?_
    exact ⟨rfl, HB.out⟩
  by_cases c4 : 1000 ≤ i
  · clear h
    go_enter Tryd.func12, Tryd.ntmps12
    go_wp2
    refine bodyPost_ret (results_cell_tmp rfl _ _ w.heap.size _ _ _ du rfl HZ.out hu1 (by cases du <;> first | rfl | exact hu2) size_sym) rfl ?_
    exact ⟨rfl, HB.out⟩
  by_cases c5 : j < 0
  · clear h
    go_enter Tryd.func12, Tryd.ntmps12
    go_wp2
    refine bodyPost_ret (results_cell_tmp rfl _ _ w.heap.size _ _ _ du rfl HZ.out hu1 (by cases du <;> first | rfl | exact hu2) size_sym) rfl ?_
    exact ⟨rfl, HB.out⟩
  by_cases c6 : 1000 ≤ j
  · clear h
    go_enter Tryd.func12, Tryd.ntmps12
    go_wp2
    refine bodyPost_ret (results_cell_tmp rfl _ _ w.heap.size _ _ _ du rfl HZ.out hu1 (by cases du <;> first | rfl | exact hu2) size_sym) rfl ?_
    exact ⟨rfl, HB.out⟩
  omega
end Go.Proofs.YtpekceadjcbphaaDoor.Sg

namespace Go.Proofs.YtpekceadjcbphaaDoor.Sg
open Go.RowKit Go.Maps Go.ChangeShapes
open Rt (strV below_gr below_of cell_gr cell_lt)
open Dv (hltD typeD)

/-- Blocks of one type stay as they are. -/
def KT (T : TypeId) (w w' : World) : Prop := ∀ (g : Nat) (cs : Array Value) (fz : Nat × Nat), w.heap[g]? = some (Obj.cells cs T fz) → w'.heap[g]? = w.heap[g]?
theorem KT.trans {T : TypeId} {w w' w2 : World} (h : KT T w w') (k : KT T w' w2) : KT T w w2 := fun g cs fz e => (k g cs fz ((h g cs fz e).trans e)).trans (h g cs fz e)
theorem kt_none {T : TypeId} {w w' : World} (hg : w.grownBy w' none) : KT T w w' := fun g cs fz e => hg.block g (hltD e) (by simp)
theorem kt_gr {T T0 : TypeId} {w w' : World} {b : Nat} {cs0 : Array Value} {fz0 : Nat × Nat} (hb : w.heap[b]? = some (Obj.cells cs0 T0 fz0)) (hT : T0 ≠ T) (hg : w.grownBy w' (some b)) : KT T w w' := fun g cs fz e => hg.block g (hltD e) (fun e2 => by
  obtain rfl := Option.some.inj e2
  exact absurd (typeD hb e) hT)
theorem kt_set {T T0 : TypeId} {w : World} {b o : Nat} {v : Value} {cs0 : Array Value} {fz0 : Nat × Nat} (hb : w.heap[b]? = some (Obj.cells cs0 T0 fz0)) (hT : T0 ≠ T) : KT T w (w.setCell ⟨b, o, none⟩ v) := fun g cs fz e => heap_setCell_other _ ⟨b, o, none⟩ _ v (by
  show g ≠ b
  rintro rfl
  exact absurd (typeD hb e) hT)
theorem kt_own {T T0 : TypeId} {w w' : World} {B q n : Nat} {v : Value} {xs : List Value} (ho : w.ownsRow B T0 q v n xs) (hT : T0 ≠ T) (hg : w.grownBy w' v.ownBlock) : KT T w w' := by
  obtain ⟨-, ⟨rfl, -⟩ | ⟨g, cap, cur, rfl, -, hh, -⟩⟩ := ho
  · exact kt_none hg
  · exact kt_gr hh hT hg
theorem made_kt {B : Nat} {w w' : World} {v : Value} {ps : List (Tm × Value)} (h : Made B w v ps) (hf : KT 26 w w') : Made B w' v ps := by
  refine ⟨?_, h.fine, fun p hp => (h.kids p hp).keep (fun b hb _ => ?_) (fun b hb _ => ⟨?_, hb.2⟩)⟩
  · obtain ⟨h1, h2⟩ := h.own
    refine ⟨h1, ?_⟩
    rcases h2 with h2 | ⟨g, cap, cur, hv, hg, hh, r⟩
    · exact Or.inl h2
    · exact Or.inr ⟨g, cap, cur, hv, hg, (hf g cur _ hh).trans hh, r⟩
  · obtain ⟨⟨-, cs, hc⟩, -⟩ := hb; exact hf b cs _ hc
  · obtain ⟨⟨h1, cs, hc⟩, -⟩ := hb; exact ⟨h1, cs, (hf b cs _ hc).trans hc⟩
theorem lies_kt {B : Nat} {w w' : World} {l : List Tm} {s : Value} (h : LiesP w (Own B w) l s) (hf : KT 26 w w') : LiesP w' (Own B w') l s :=
  h.keep (fun b hb _ => by obtain ⟨-, cs, hc⟩ := hb; exact hf b cs _ hc) (fun b hb _ => by obtain ⟨h1, cs, hc⟩ := hb; exact ⟨h1, cs, (hf b cs _ hc).trans hc⟩)
theorem LS.kt {c : LC} {tv nv : Value} {ts : List Tok} {N : Names} {w w' : World} (h : LS c tv nv ts N w) (h1 : KT 61 w w') (h2 : KT 63 w w') (h3 : KT 9 w w') : LS c tv nv ts N w' := by
  refine ⟨?_, h.tok.keep fun g cs fz e => (h2 g cs fz e).trans e, ?_⟩
  · have r := h.rd
    unfold lnO at r ⊢
    exact (h1 _ _ _ r).trans r
  · obtain ⟨k1, k2⟩ := h.nm
    refine ⟨k1, ?_⟩
    rcases k2 with k2 | ⟨g, cap, cur, hv, hgb, hh, r⟩
    · exact Or.inl k2
    · exact Or.inr ⟨g, cap, cur, hv, hgb, (h3 g _ _ hh).trans hh, r⟩
theorem kt_line {c : LC} {tv nv : Value} {ts : List Tok} {N : Names} {w w' : World} (h : LS c tv nv ts N w) (hg : Gr c w w') : KT 26 w w' := by
  have r := h.rd
  unfold lnO at r
  exact kt_gr r (by decide) hg

abbrev zSymA : Array Value := symV [] (.slice none 0 0) (.slice none 0 0) (.slice none 0 0) Tm.zero Tm.zero false
/-- Ahead of the symbol's block. -/
structure A0 (w0 : World) (c : LC) (tv nv : Value) (ts : List Tok) (N : Names) (w : World) : Prop where
  res : w.heap[w0.heap.size]? = some (.cells zSymA 34 (0, 0))
  st : LS c tv nv ts N w
  nmb : ∀ k, nv.ownBlock = some k → w0.heap.size < k
  bel : Below w0.heap.size w0 w
  h1 : w0.heap.size < c.R
theorem A0.gr {w0 w w' : World} {c : LC} {tv tl nv : Value} {ts r : List Tok} {N : Names} (h : A0 w0 c tv nv ts N w) (hs : LS c tl nv r N w') (hg : Gr c w w') : A0 w0 c tl nv r N w' :=
  ⟨(hg.block _ (hltD h.res) (fun e => by have e2 : w0.heap.size = c.R := Option.some.inj e; have := h.h1; omega)).trans h.res, hs, h.nmb, h.bel.trans (gr_below hg ⟨Nat.le_of_lt h.h1, h.bel.size⟩), h.h1⟩
theorem A0.same {w0 w w' : World} {c : LC} {tv nv : Value} {ts : List Tok} {N : Names} (h : A0 w0 c tv nv ts N w) (hg : w.grownBy w' none) : A0 w0 c tv nv ts N w' :=
  ⟨(hg.block _ (hltD h.res) (by simp)).trans h.res, h.st.same hg, h.nmb, h.bel.trans ((below_of hg).mono h.bel.size), h.h1⟩
structure AS (w0 : World) (c : LC) (nS : Nat) (sy : Array Value) (tv nv : Value) (ts : List Tok) (N : Names) (w : World) : Prop where
  a : A0 w0 c tv nv ts N w
  sym : w.heap[nS]? = some (.cells sy 34 (0, 0))
  h2 : w0.heap.size < nS
theorem AS.ne {w0 w : World} {c : LC} {nS : Nat} {sy : Array Value} {tv nv : Value} {ts : List Tok} {N : Names} (h : AS w0 c nS sy tv nv ts N w) : nS ≠ c.R := by
  intro e
  have r := h.a.st.rd
  rw [← e] at r
  unfold lnO at r
  exact absurd (typeD h.sym r) (by decide)
theorem AS.gr {w0 w w' : World} {c : LC} {nS : Nat} {sy : Array Value} {tv tl nv : Value} {ts r : List Tok} {N : Names} (h : AS w0 c nS sy tv nv ts N w) (hs : LS c tl nv r N w') (hg : Gr c w w') : AS w0 c nS sy tl nv r N w' :=
  ⟨h.a.gr hs hg, (hg.block _ (hltD h.sym) (fun e => h.ne (Option.some.inj e))).trans h.sym, h.h2⟩
theorem AS.same {w0 w w' : World} {c : LC} {nS : Nat} {sy : Array Value} {tv nv : Value} {ts : List Tok} {N : Names} (h : AS w0 c nS sy tv nv ts N w) (hg : w.grownBy w' none) : AS w0 c nS sy tv nv ts N w' :=
  ⟨h.a.same hg, (hg.block _ (hltD h.sym) (by simp)).trans h.sym, h.h2⟩
theorem AS.set {w0 w : World} {c : LC} {nS : Nat} {sy : Array Value} {tv nv : Value} {ts : List Tok} {N : Names} (h : AS w0 c nS sy tv nv ts N w) (o : Nat) (v : Value) : AS w0 c nS (sy.setIfInBounds o v) tv nv ts N (w.setCell ⟨nS, o, none⟩ v) ∧ KT 26 w (w.setCell ⟨nS, o, none⟩ v) := by
  have hs := h.sym
  have h2 := h.h2
  refine ⟨⟨⟨?_, h.a.st.kt (kt_set hs (by decide)) (kt_set hs (by decide)) (kt_set hs (by decide)), h.a.nmb, ?_, h.a.h1⟩, heap_setCell_same _ _ _ _ _ _ hs, h2⟩, kt_set hs (by decide)⟩
  · rw [heap_setCell_other _ ⟨nS, o, none⟩ _ v (by show w0.heap.size ≠ nS; omega)]; exact h.a.res
  · have hg : w.grownBy (w.setCell ⟨nS, o, none⟩ v) (some nS) := grown_at ⟨rfl, rfl, rfl, Nat.le_refl _, fun _ _ _ => rfl⟩ o v
    exact h.a.bel.trans ⟨hg.os, hg.tape, hg.output, hg.size, fun k hk => hg.block k (by have := h.a.bel.size; omega) (fun e => by have e2 : k = nS := Option.some.inj e; omega)⟩
/-- A parameter's row has grown. -/
theorem AS.row {w0 w w' : World} {c : LC} {nS : Nat} {sy : Array Value} {tv nv : Value} {ts : List Tok} {N : Names} {v : Value} {n : Nat} {xs : List Value} (h : AS w0 c nS sy tv nv ts N w) (ho : w.ownsRow (w0.heap.size + 1) 26 5 v n xs) (hg : w.grownBy w' v.ownBlock) : AS w0 c nS sy tv nv ts N w' := by
  have hk := fun (T : TypeId) (hT : 26 ≠ T) => kt_own ho hT hg
  have hB : ∀ k, v.ownBlock = some k → w0.heap.size + 1 ≤ k := by
    intro k e
    obtain ⟨-, ⟨rfl, -⟩ | ⟨g, cap, cur, rfl, h1, -⟩⟩ := ho
    · cases e
    · cases e; exact h1
  refine ⟨⟨(hk _ (by decide) _ _ _ h.a.res).trans h.a.res, h.a.st.kt (hk _ (by decide)) (hk _ (by decide)) (hk _ (by decide)), h.a.nmb, ?_, h.a.h1⟩, (hk _ (by decide) _ _ _ h.sym).trans h.sym, h.h2⟩
  exact h.a.bel.grown hg h.a.bel.size (fun k e => by have := hB k e; omega)
theorem AS.line {w0 w w' : World} {c : LC} {nS : Nat} {sy : Array Value} {tv nv : Value} {ts : List Tok} {N : Names} (h : AS w0 c nS sy tv nv ts N w) (hg : w.grownBy w' nv.ownBlock) : w'.cell? ⟨c.R, 2, none⟩ = some nv ∧ w'.frozen? ⟨c.R, 2, none⟩ = false := by
  have r := h.a.st.rd
  unfold lnO at r
  have hR := (kt_own h.a.st.nm (by decide) hg _ _ _ r).trans r
  exact ⟨by rw [Lib.cell_of_heap hR]; rfl, Lib.frozen_of_heap hR 2⟩
/-- A name has been appended and the row is stored. -/
theorem AS.name {w0 w w' : World} {c : LC} {nS : Nat} {sy : Array Value} {tv nv nv' : Value} {ts : List Tok} {N : Names} {x : List UInt8} (h : AS w0 c nS sy tv nv ts N w) (hg : w.grownBy w' nv.ownBlock) (hown : w'.ownsRow 0 9 1 nv' (N.length + 1) (N.map strV ++ [strV x])) (hat : nv'.ownBlock = nv.ownBlock ∨ nv'.ownBlock = some w.heap.size) : AS w0 c nS sy tv nv' ts (N ++ [x]) (w'.setCell ⟨c.R, 2, none⟩ nv') ∧ KT 26 w (w'.setCell ⟨c.R, 2, none⟩ nv') := by
  have hk := fun (T : TypeId) (hT : 9 ≠ T) => kt_own h.a.st.nm hT hg
  have hR : w'.heap[c.R]? = some (lnO c tv nv) := by
    have r := h.a.st.rd
    unfold lnO at r ⊢
    exact (hk _ (by decide) _ _ _ r).trans r
  have hres := (hk _ (by decide) _ _ _ h.a.res).trans h.a.res
  have hsym := (hk _ (by decide) _ _ _ h.sym).trans h.sym
  have hk2 := fun (T : TypeId) (hT : 61 ≠ T) => (show KT T w' (w'.setCell ⟨c.R, 2, none⟩ nv') from by unfold lnO at hR; exact kt_set hR hT)
  have hh1 := h.a.h1
  refine ⟨⟨⟨(hk2 _ (by decide) _ _ _ hres).trans hres, ⟨?_, ?_, ?_⟩, ?_, ?_, hh1⟩, (hk2 _ (by decide) _ _ _ hsym).trans hsym, h.h2⟩, (hk _ (by decide)).trans (hk2 _ (by decide))⟩
  · unfold lnO at hR ⊢
    exact heap_setCell_same _ c.R 2 _ _ _ hR
  · exact (h.a.st.tok.keep fun g cs fz e => (hk _ (by decide) g cs fz e).trans e).keep fun g cs fz e => (hk2 _ (by decide) g cs fz e).trans e
  · obtain ⟨k1, k2⟩ := hown
    refine ⟨by simp, ?_⟩
    rcases k2 with ⟨-, e⟩ | ⟨g, cap, cur, hv, hgb, hh, r1, r2, r3, r4⟩
    · omega
    · exact Or.inr ⟨g, cap, cur, by simpa using hv, hgb, (hk2 _ (by decide) _ _ _ hh).trans hh, by simpa using r1, r2, r3, by simpa using r4⟩
  · intro k e
    rcases hat with e2 | e2
    · rw [e2] at e; exact h.a.nmb k e
    · rw [e2] at e
      cases e
      have := hltD h.a.res
      exact this
  · have hb : Below w0.heap.size w0 w' := h.a.bel.grown hg h.a.bel.size (fun k e => Nat.le_of_lt (h.a.nmb k e))
    have hg2 : w'.grownBy (w'.setCell ⟨c.R, 2, none⟩ nv') (some c.R) := grown_at ⟨rfl, rfl, rfl, Nat.le_refl _, fun _ _ _ => rfl⟩ 2 nv'
    exact hb.trans ⟨hg2.os, hg2.tape, hg2.output, hg2.size, fun k hk => hg2.block k (by have := hb.size; omega) (fun e => by have e2 : k = c.R := Option.some.inj e; omega)⟩
/-- A line's plan taken apart. -/
theorem planL_some {l : List UInt8} {ts : List Tok} {pl : Plan} (h : planL l ts = some pl) : ∃ t0 t1 t2 t3 r te r2 r3, ts = t0 :: t1 :: t2 :: t3 :: r ∧ parsL l 30 r = some (pl.pars, te :: r2) ∧ pieceL l r2 = some (pl.type, r3) ∧ pl.name = t2.s ∧ pl.defn = decide (t1.s = [100, 101, 102]) ∧ (pl.defn = true → ∃ b r5, pieceL l r3 = some (b, r5) ∧ pl.body = some b) ∧ (pl.defn = false → pl.body = none) := by
  unfold planL at h
  split at h
  · rename_i t0 t1 t2 t3 r
    split at h
    · rename_i ps te r2 hps
      split at h
      · cases h
      · rename_i ty r3 hty
        by_cases hd : t1.s = [100, 101, 102]
        · rw [if_pos hd] at h
          split at h
          · cases h
          · rename_i b r5 hb
            cases h
            exact ⟨t0, t1, t2, t3, r, te, r2, r3, rfl, hps, hty, rfl, by simp [hd], (fun _ => ⟨b, r5, hb, rfl⟩), fun e => by cases e⟩
        · rw [if_neg hd] at h
          cases h
          exact ⟨t0, t1, t2, t3, r, te, r2, r3, rfl, hps, hty, rfl, by simp [hd], (fun e => by cases e), fun _ => rfl⟩
    · cases h
  · cases h
theorem lib_len : ∀ l ∈ libL, l.length ≤ 2000 := by
  have h : libL.all (fun l => decide (l.length ≤ 2000)) = true := by kernel_rfl
  intro l hl
  have := List.all_eq_true.1 h l hl
  simpa using this
theorem clos_sub {la : Tok} {r2 : List Tok} : ∀ {r : List Tok} {d : Nat} {t : Tok}, clos r d t = some (la, r2) → ∀ y ∈ r2, y ∈ r
  | [], d, t, h => by
    unfold clos at h
    split at h
    · cases h; exact fun y hy => hy
    · cases h
  | x :: r, d, t, h => by
    unfold clos at h
    split at h
    · cases h; exact fun y hy => hy
    · split at h
      · exact fun y hy => List.mem_cons_of_mem _ (clos_sub h y hy)
      · split at h
        · exact fun y hy => List.mem_cons_of_mem _ (clos_sub h y hy)
        · exact fun y hy => List.mem_cons_of_mem _ (clos_sub h y hy)
abbrev set13 (w : World) (b : Nat) (v0 v1 v2 v3 v4 v5 v6 v7 v8 v9 v10 v11 v12 : Value) : World := (((((((((((((w.setCell ⟨b, 0, none⟩ v0).setCell ⟨b, 1, none⟩ v1).setCell ⟨b, 2, none⟩ v2).setCell ⟨b, 3, none⟩ v3).setCell ⟨b, 4, none⟩ v4).setCell ⟨b, 5, none⟩ v5).setCell ⟨b, 6, none⟩ v6).setCell ⟨b, 7, none⟩ v7).setCell ⟨b, 8, none⟩ v8).setCell ⟨b, 9, none⟩ v9).setCell ⟨b, 10, none⟩ v10).setCell ⟨b, 11, none⟩ v11).setCell ⟨b, 12, none⟩ v12)
theorem set13_heap {w : World} {b : Nat} {T : TypeId} {z0 z1 z2 z3 z4 z5 z6 z7 z8 z9 z10 z11 z12 : Value} (h : w.heap[b]? = some (.cells #[z0, z1, z2, z3, z4, z5, z6, z7, z8, z9, z10, z11, z12] T (0, 0))) (v0 v1 v2 v3 v4 v5 v6 v7 v8 v9 v10 v11 v12 : Value) : (set13 w b v0 v1 v2 v3 v4 v5 v6 v7 v8 v9 v10 v11 v12).heap[b]? = some (.cells #[v0, v1, v2, v3, v4, v5, v6, v7, v8, v9, v10, v11, v12] T (0, 0)) := by
  have q0 : (w.setCell ⟨b, 0, none⟩ v0).heap[b]? = some (.cells #[v0, z1, z2, z3, z4, z5, z6, z7, z8, z9, z10, z11, z12] T (0, 0)) := heap_setCell_same _ _ _ _ _ _ h
  have q1 : ((w.setCell ⟨b, 0, none⟩ v0).setCell ⟨b, 1, none⟩ v1).heap[b]? = some (.cells #[v0, v1, z2, z3, z4, z5, z6, z7, z8, z9, z10, z11, z12] T (0, 0)) := heap_setCell_same _ _ _ _ _ _ q0
  have q2 : (((w.setCell ⟨b, 0, none⟩ v0).setCell ⟨b, 1, none⟩ v1).setCell ⟨b, 2, none⟩ v2).heap[b]? = some (.cells #[v0, v1, v2, z3, z4, z5, z6, z7, z8, z9, z10, z11, z12] T (0, 0)) := heap_setCell_same _ _ _ _ _ _ q1
  have q3 : ((((w.setCell ⟨b, 0, none⟩ v0).setCell ⟨b, 1, none⟩ v1).setCell ⟨b, 2, none⟩ v2).setCell ⟨b, 3, none⟩ v3).heap[b]? = some (.cells #[v0, v1, v2, v3, z4, z5, z6, z7, z8, z9, z10, z11, z12] T (0, 0)) := heap_setCell_same _ _ _ _ _ _ q2
  have q4 : (((((w.setCell ⟨b, 0, none⟩ v0).setCell ⟨b, 1, none⟩ v1).setCell ⟨b, 2, none⟩ v2).setCell ⟨b, 3, none⟩ v3).setCell ⟨b, 4, none⟩ v4).heap[b]? = some (.cells #[v0, v1, v2, v3, v4, z5, z6, z7, z8, z9, z10, z11, z12] T (0, 0)) := heap_setCell_same _ _ _ _ _ _ q3
  have q5 : ((((((w.setCell ⟨b, 0, none⟩ v0).setCell ⟨b, 1, none⟩ v1).setCell ⟨b, 2, none⟩ v2).setCell ⟨b, 3, none⟩ v3).setCell ⟨b, 4, none⟩ v4).setCell ⟨b, 5, none⟩ v5).heap[b]? = some (.cells #[v0, v1, v2, v3, v4, v5, z6, z7, z8, z9, z10, z11, z12] T (0, 0)) := heap_setCell_same _ _ _ _ _ _ q4
  have q6 : (((((((w.setCell ⟨b, 0, none⟩ v0).setCell ⟨b, 1, none⟩ v1).setCell ⟨b, 2, none⟩ v2).setCell ⟨b, 3, none⟩ v3).setCell ⟨b, 4, none⟩ v4).setCell ⟨b, 5, none⟩ v5).setCell ⟨b, 6, none⟩ v6).heap[b]? = some (.cells #[v0, v1, v2, v3, v4, v5, v6, z7, z8, z9, z10, z11, z12] T (0, 0)) := heap_setCell_same _ _ _ _ _ _ q5
  have q7 : ((((((((w.setCell ⟨b, 0, none⟩ v0).setCell ⟨b, 1, none⟩ v1).setCell ⟨b, 2, none⟩ v2).setCell ⟨b, 3, none⟩ v3).setCell ⟨b, 4, none⟩ v4).setCell ⟨b, 5, none⟩ v5).setCell ⟨b, 6, none⟩ v6).setCell ⟨b, 7, none⟩ v7).heap[b]? = some (.cells #[v0, v1, v2, v3, v4, v5, v6, v7, z8, z9, z10, z11, z12] T (0, 0)) := heap_setCell_same _ _ _ _ _ _ q6
  have q8 : (((((((((w.setCell ⟨b, 0, none⟩ v0).setCell ⟨b, 1, none⟩ v1).setCell ⟨b, 2, none⟩ v2).setCell ⟨b, 3, none⟩ v3).setCell ⟨b, 4, none⟩ v4).setCell ⟨b, 5, none⟩ v5).setCell ⟨b, 6, none⟩ v6).setCell ⟨b, 7, none⟩ v7).setCell ⟨b, 8, none⟩ v8).heap[b]? = some (.cells #[v0, v1, v2, v3, v4, v5, v6, v7, v8, z9, z10, z11, z12] T (0, 0)) := heap_setCell_same _ _ _ _ _ _ q7
  have q9 : ((((((((((w.setCell ⟨b, 0, none⟩ v0).setCell ⟨b, 1, none⟩ v1).setCell ⟨b, 2, none⟩ v2).setCell ⟨b, 3, none⟩ v3).setCell ⟨b, 4, none⟩ v4).setCell ⟨b, 5, none⟩ v5).setCell ⟨b, 6, none⟩ v6).setCell ⟨b, 7, none⟩ v7).setCell ⟨b, 8, none⟩ v8).setCell ⟨b, 9, none⟩ v9).heap[b]? = some (.cells #[v0, v1, v2, v3, v4, v5, v6, v7, v8, v9, z10, z11, z12] T (0, 0)) := heap_setCell_same _ _ _ _ _ _ q8
  have q10 : (((((((((((w.setCell ⟨b, 0, none⟩ v0).setCell ⟨b, 1, none⟩ v1).setCell ⟨b, 2, none⟩ v2).setCell ⟨b, 3, none⟩ v3).setCell ⟨b, 4, none⟩ v4).setCell ⟨b, 5, none⟩ v5).setCell ⟨b, 6, none⟩ v6).setCell ⟨b, 7, none⟩ v7).setCell ⟨b, 8, none⟩ v8).setCell ⟨b, 9, none⟩ v9).setCell ⟨b, 10, none⟩ v10).heap[b]? = some (.cells #[v0, v1, v2, v3, v4, v5, v6, v7, v8, v9, v10, z11, z12] T (0, 0)) := heap_setCell_same _ _ _ _ _ _ q9
  have q11 : ((((((((((((w.setCell ⟨b, 0, none⟩ v0).setCell ⟨b, 1, none⟩ v1).setCell ⟨b, 2, none⟩ v2).setCell ⟨b, 3, none⟩ v3).setCell ⟨b, 4, none⟩ v4).setCell ⟨b, 5, none⟩ v5).setCell ⟨b, 6, none⟩ v6).setCell ⟨b, 7, none⟩ v7).setCell ⟨b, 8, none⟩ v8).setCell ⟨b, 9, none⟩ v9).setCell ⟨b, 10, none⟩ v10).setCell ⟨b, 11, none⟩ v11).heap[b]? = some (.cells #[v0, v1, v2, v3, v4, v5, v6, v7, v8, v9, v10, v11, z12] T (0, 0)) := heap_setCell_same _ _ _ _ _ _ q10
  have q12 : (((((((((((((w.setCell ⟨b, 0, none⟩ v0).setCell ⟨b, 1, none⟩ v1).setCell ⟨b, 2, none⟩ v2).setCell ⟨b, 3, none⟩ v3).setCell ⟨b, 4, none⟩ v4).setCell ⟨b, 5, none⟩ v5).setCell ⟨b, 6, none⟩ v6).setCell ⟨b, 7, none⟩ v7).setCell ⟨b, 8, none⟩ v8).setCell ⟨b, 9, none⟩ v9).setCell ⟨b, 10, none⟩ v10).setCell ⟨b, 11, none⟩ v11).setCell ⟨b, 12, none⟩ v12).heap[b]? = some (.cells #[v0, v1, v2, v3, v4, v5, v6, v7, v8, v9, v10, v11, v12] T (0, 0)) := heap_setCell_same _ _ _ _ _ _ q11
  exact q12
theorem cells13 {w : World} {b : Nat} {T : TypeId} {z0 z1 z2 z3 z4 z5 z6 z7 z8 z9 z10 z11 z12 : Value} (h : w.heap[b]? = some (.cells #[z0, z1, z2, z3, z4, z5, z6, z7, z8, z9, z10, z11, z12] T (0, 0))) : (w.cell? ⟨b, 0, none⟩ = some z0 ∧ w.cell? ⟨b, 1, none⟩ = some z1 ∧ w.cell? ⟨b, 2, none⟩ = some z2 ∧ w.cell? ⟨b, 3, none⟩ = some z3 ∧ w.cell? ⟨b, 4, none⟩ = some z4 ∧ w.cell? ⟨b, 5, none⟩ = some z5 ∧ w.cell? ⟨b, 6, none⟩ = some z6 ∧ w.cell? ⟨b, 7, none⟩ = some z7 ∧ w.cell? ⟨b, 8, none⟩ = some z8 ∧ w.cell? ⟨b, 9, none⟩ = some z9 ∧ w.cell? ⟨b, 10, none⟩ = some z10 ∧ w.cell? ⟨b, 11, none⟩ = some z11 ∧ w.cell? ⟨b, 12, none⟩ = some z12) ∧ (w.frozen? ⟨b, 0, none⟩ = false ∧ w.frozen? ⟨b, 1, none⟩ = false ∧ w.frozen? ⟨b, 2, none⟩ = false ∧ w.frozen? ⟨b, 3, none⟩ = false ∧ w.frozen? ⟨b, 4, none⟩ = false ∧ w.frozen? ⟨b, 5, none⟩ = false ∧ w.frozen? ⟨b, 6, none⟩ = false ∧ w.frozen? ⟨b, 7, none⟩ = false ∧ w.frozen? ⟨b, 8, none⟩ = false ∧ w.frozen? ⟨b, 9, none⟩ = false ∧ w.frozen? ⟨b, 10, none⟩ = false ∧ w.frozen? ⟨b, 11, none⟩ = false ∧ w.frozen? ⟨b, 12, none⟩ = false) :=
  ⟨⟨by rw [Lib.cell_of_heap h]; rfl, by rw [Lib.cell_of_heap h]; rfl, by rw [Lib.cell_of_heap h]; rfl, by rw [Lib.cell_of_heap h]; rfl, by rw [Lib.cell_of_heap h]; rfl, by rw [Lib.cell_of_heap h]; rfl, by rw [Lib.cell_of_heap h]; rfl, by rw [Lib.cell_of_heap h]; rfl, by rw [Lib.cell_of_heap h]; rfl, by rw [Lib.cell_of_heap h]; rfl, by rw [Lib.cell_of_heap h]; rfl, by rw [Lib.cell_of_heap h]; rfl, by rw [Lib.cell_of_heap h]; rfl⟩, ⟨Lib.frozen_of_heap h 0, Lib.frozen_of_heap h 1, Lib.frozen_of_heap h 2, Lib.frozen_of_heap h 3, Lib.frozen_of_heap h 4, Lib.frozen_of_heap h 5, Lib.frozen_of_heap h 6, Lib.frozen_of_heap h 7, Lib.frozen_of_heap h 8, Lib.frozen_of_heap h 9, Lib.frozen_of_heap h 10, Lib.frozen_of_heap h 11, Lib.frozen_of_heap h 12⟩⟩
theorem kt_step {T T0 : TypeId} {w0 w : World} {b o : Nat} {v : Value} {cs0 : Array Value} (h : KT T w0 w) (hb : w.heap[b]? = some (Obj.cells cs0 T0 (0, 0))) (hT : T0 ≠ T) : KT T w0 (w.setCell ⟨b, o, none⟩ v) ∧ (w.setCell ⟨b, o, none⟩ v).heap[b]? = some (Obj.cells (cs0.setIfInBounds o v) T0 (0, 0)) := ⟨h.trans (kt_set hb hT), heap_setCell_same _ _ _ _ _ _ hb⟩
theorem set13_kt {w : World} {b : Nat} {T T0 : TypeId} {cs : Array Value} (h : w.heap[b]? = some (.cells cs T0 (0, 0))) (hT : T0 ≠ T) (v0 v1 v2 v3 v4 v5 v6 v7 v8 v9 v10 v11 v12 : Value) : KT T w (set13 w b v0 v1 v2 v3 v4 v5 v6 v7 v8 v9 v10 v11 v12) := by
  have q0 := kt_step (o := 0) (v := v0) (show KT T w w from fun _ _ _ _ => rfl) h hT
  have q1 := kt_step (o := 1) (v := v1) q0.1 q0.2 hT
  have q2 := kt_step (o := 2) (v := v2) q1.1 q1.2 hT
  have q3 := kt_step (o := 3) (v := v3) q2.1 q2.2 hT
  have q4 := kt_step (o := 4) (v := v4) q3.1 q3.2 hT
  have q5 := kt_step (o := 5) (v := v5) q4.1 q4.2 hT
  have q6 := kt_step (o := 6) (v := v6) q5.1 q5.2 hT
  have q7 := kt_step (o := 7) (v := v7) q6.1 q6.2 hT
  have q8 := kt_step (o := 8) (v := v8) q7.1 q7.2 hT
  have q9 := kt_step (o := 9) (v := v9) q8.1 q8.2 hT
  have q10 := kt_step (o := 10) (v := v10) q9.1 q9.2 hT
  have q11 := kt_step (o := 11) (v := v11) q10.1 q10.2 hT
  have q12 := kt_step (o := 12) (v := v12) q11.1 q11.2 hT
  exact q12.1
theorem below_cell {B : Nat} {w0 w : World} (h : Below B w0 w) {b : Nat} (hb : B ≤ b) (o : Nat) (v : Value) : Below B w0 (w.setCell ⟨b, o, none⟩ v) := h.trans ⟨rfl, rfl, rfl, by simp, fun k hk => heap_setCell_other w ⟨b, o, none⟩ k v (by show k ≠ b; omega)⟩
theorem set13_below {B : Nat} {w0 w : World} (h : Below B w0 w) {b : Nat} (hb : B ≤ b) (v0 v1 v2 v3 v4 v5 v6 v7 v8 v9 v10 v11 v12 : Value) : Below B w0 (set13 w b v0 v1 v2 v3 v4 v5 v6 v7 v8 v9 v10 v11 v12) := (below_cell (below_cell (below_cell (below_cell (below_cell (below_cell (below_cell (below_cell (below_cell (below_cell (below_cell (below_cell (below_cell h hb 0 v0) hb 1 v1) hb 2 v2) hb 3 v3) hb 4 v4) hb 5 v5) hb 6 v6) hb 7 v7) hb 8 v8) hb 9 v9) hb 10 v10) hb 11 v11) hb 12 v12)
theorem AS.set5 {w0 w : World} {c : LC} {nS : Nat} {sy : Array Value} {tv nv : Value} {ts : List Tok} {N : Names} (h : AS w0 c nS sy tv nv ts N w) (o0 o1 o2 o3 o4 : Nat) (v0 v1 v2 v3 v4 : Value) : AS w0 c nS (((((sy.setIfInBounds o0 v0).setIfInBounds o1 v1).setIfInBounds o2 v2).setIfInBounds o3 v3).setIfInBounds o4 v4) tv nv ts N (((((w.setCell ⟨nS, o0, none⟩ v0).setCell ⟨nS, o1, none⟩ v1).setCell ⟨nS, o2, none⟩ v2).setCell ⟨nS, o3, none⟩ v3).setCell ⟨nS, o4, none⟩ v4) ∧ KT 26 w (((((w.setCell ⟨nS, o0, none⟩ v0).setCell ⟨nS, o1, none⟩ v1).setCell ⟨nS, o2, none⟩ v2).setCell ⟨nS, o3, none⟩ v3).setCell ⟨nS, o4, none⟩ v4) := by
  have a := h.set o0 v0
  have b := a.1.set o1 v1
  have c := b.1.set o2 v2
  have d := c.1.set o3 v3
  have e := d.1.set o4 v4
  exact ⟨e.1, (((a.2.trans b.2).trans c.2).trans d.2).trans e.2⟩
theorem push_at {B : Nat} {wc w9 w10 : World} {v : Value} {ps : List (Tm × Value)} {t : Tm} {s2 : Value} {g cap : Nat} (h : Made B wc v ps) (hkt : KT 26 wc w9) (hf : t.fine) (hB : B ≤ wc.heap.size) (hk : LiesP w9 (Own wc.heap.size w9) t.kids s2) (o : Obj)
    (hown : w10.ownsRow B 26 5 (.slice (some ⟨g, 0, none⟩) (ps.length + 1) cap) (ps.length + 1) (cells5 ps ++ cells5 [(t, s2)])) (hgrow : (w9.alloc o).grownBy w10 v.ownBlock) (hat : v.ownBlock = some g ∨ g = (w9.alloc o).heap.size) : Made B w10 (.slice (some ⟨g, 0, none⟩) (ps.length + 1) cap) (ps ++ [(t, s2)]) :=
  made_step (made_kt (made_kt h hkt) (kt_none (below_gr ((Below.refl w9.heap.size w9).alloc (Nat.le_refl _) o)))) hf
    (hk.keep (fun _ _ hlt => Below.heap_alloc _ _ _ hlt) (fun _ hb hlt => ⟨(hb.same (Below.heap_alloc _ _ _ hlt)).from hB, made_block h hb.1⟩)) hown hgrow hat
theorem pieceL_len {l : List UInt8} {q r : List Tok} {p : List UInt8} (h : pieceL l q = some (p, r)) : r.length < q.length ∧ ∀ y ∈ r, y ∈ q := by
  cases q with
  | nil => cases h
  | cons t q =>
    obtain ⟨la, hcl, -, -, -⟩ := pieceL_some h
    exact ⟨Nat.lt_succ_of_le (clos_len hcl), fun y hy => List.mem_cons_of_mem _ (clos_sub hcl y hy)⟩
end Go.Proofs.YtpekceadjcbphaaDoor.Sg
