/-
  Facts and contracts that the proof of WriteExact uses.
-/
import Derived.Lib.ItoaNum
import Derived.Lib.ItoaLen
import Derived.Test.YtficmfiekibjgaaDoorRows
import Derived.WalkKit
import Derived.Lib.Hide
import Derived.KernelRfl
import Derived.Deep.RegionWith
import Derived.Deep.RegionHeld3
import Derived.Test.YtficmfiekibjgaaDoorShelf
import Derived.ProofKit
import Derived.Lib.AppendIntMem
import Derived.Lib.LaidTab
import Derived.Below
import Derived.Lib.Builder
import Derived.Lib.AppendStr
import Derived.Lib.UnsafeStr
import Derived.Lib.Strings
import Derived.Laws.Externs
import Derived.Laws.Rows
import Derived.Shelf.RegionOpenPlain
import Derived.OrdersHeld
import Derived.Laws.OwnMore
import Derived.OwnWalk
import Derived.Laws.BytesArg
import Derived.Laws.AppendOwnNone
import Derived.Deep.AppendLies
import Derived.Deep.DeepCutAuto
import Derived.Deep.Cut
import Derived.Lib.QuietBelow
import Derived.BigQuiet
import Derived.OpenShut
import Derived.Carry
import Derived.Deep.Slices
import Derived.LaidMore
import Derived.LaidSub
import Derived.LaidHandle
import Derived.Stop.Joined
import Derived.JoinedOf
import Derived.Test.YtficmfiekibjgaaDoorCards
import Derived.Test.YtficmfiekibjgaaDoorTie
import Derived.SevenTiedAt
import Derived.ChangeMaps5
import Derived.Test.YtficmfiekibjgaaDoorWriteExactQ2
namespace Go.Proofs.YtficmfiekibjgaaDoor
open Go.RowKit

theorem binds_one (k : Int) : bindsN k 1 = 0 ∨ bindsN k 1 = 1 := by unfold bindsN; (repeat' split) <;> simp_all
theorem right_sym {t : Tm} (h : t.rightB = true) (hk : t.k = 23) : 1 ≤ t.n ∧ t.n ≤ 21 := by
  have la := right_length h
  rw [hk] at la
  simp [kidsN] at la
  exact given_range (by omega)
theorem wpAnyH_weakerW {P : Program} {md : Region.Mode} {ops : Array Oper} {Q : Exit → Act → World → Prop} {S S' : World → Prop} (hs : ∀ w, S' w → S w) : ∀ (fuel : Nat) (listed : Array Bool) (a : Act) (w : World), wpAnyH P md ops Q S' fuel listed a w → wpAnyH P md ops Q S fuel listed a w
  | 0, _, _, _, h => h
  | fuel + 1, _, _, _, h => ⟨h.1, fun i hi => wpOp_mono (fun a' w' h' => ⟨hs _ h'.1, wpAnyH_weakerW hs fuel _ a' w' h'.2⟩) (h.2 i hi)⟩
def WRef (t : Tm) : Prop := ∀ (w : World) (s : Value) (m : Int), Lies w t.kids s → t.rightB = true → 0 ≤ m → t.freeN ≤ m → m + 2 * t.size ≤ 1000000000000000000 → 100 * t.size ≤ 1000000000000 →
    Calls Tryd.prog 21 #[tv t s, .int .i64 m] w fun e w' => e = .returned (.string ⟨(t.wr m).toArray⟩) ∧ Below w.heap.size w w'
theorem WRef.use {t : Tm} (h : WRef t) (w : World) (s : Value) (m : Int) (h1 : Lies w t.kids s) (h2 : t.rightB = true) (h3 : 0 ≤ m) (h4 : t.freeN ≤ m) (h5 : m + 2 * t.size ≤ 1000000000000000000) (h6 : 100 * t.size ≤ 1000000000000) :
    Calls Tryd.prog 21 #[tv t s, .int .i64 m] w fun e w' => e = .returned (.string ⟨(t.wr m).toArray⟩) ∧ Below w.heap.size w w' := h w s m h1 h2 h3 h4 h5 h6
def h5_0 : Oper := { dst := some 20, op := Go.Op.move (Go.Operand.tmp 5), type := 9, pos := "ref.go:275", after := #[], guard := none }
def h5_1 : Oper := { dst := some 21, op := Go.Op.call { callee := Go.Callee.value (Go.Operand.func 36), args := #[], argTypes := #[] }, type := 32, pos := "ref.go:275", after := #[], guard := none }
def h5_2 : Oper := { dst := some 22, op := Go.Op.fieldAddr 24 (Go.Operand.tmp 2) 0, type := 0, pos := "ref.go:275", after := #[], guard := none }
def h5_3 : Oper := { dst := some 23, op := Go.Op.load 3 (Go.Operand.tmp 22), type := 3, pos := "ref.go:275", after := #[{ on := 2, ground := Go.Ground.data }], guard := none }
def h5_4 : Oper := { dst := some 24, op := Go.Op.binOp Go.BinOp.sub 3 (Go.Operand.tmp 23) (Go.Operand.const (Go.Value.int Go.IntKind.i64 1)) 3, type := 3, pos := "ref.go:275", after := #[{ on := 3, ground := Go.Ground.data }], guard := none }
def h5_5 : Oper := { dst := some 25, op := Go.Op.indexAddr 32 (Go.Operand.tmp 21) (Go.Operand.tmp 24), type := 0, pos := "ref.go:275", after := #[{ on := 1, ground := Go.Ground.data }, { on := 4, ground := Go.Ground.data }], guard := none }
def h5_6 : Oper := { dst := some 26, op := Go.Op.load 9 (Go.Operand.tmp 25), type := 9, pos := "ref.go:275", after := #[{ on := 5, ground := Go.Ground.data }], guard := none }
def h5_7 : Oper := { dst := some 27, op := Go.Op.binOp Go.BinOp.add 9 (Go.Operand.tmp 20) (Go.Operand.tmp 26) 9, type := 9, pos := "ref.go:275", after := #[{ on := 0, ground := Go.Ground.data }, { on := 6, ground := Go.Ground.data }], guard := none }
def h5_8 : Oper := { dst := some 5, op := Go.Op.assign (Go.Operand.tmp 27), type := 9, pos := "ref.go:275", after := #[{ on := 7, ground := Go.Ground.data }, { on := 1, ground := Go.Ground.chain }, { on := 0, ground := Go.Ground.phase }, { on := 1, ground := Go.Ground.phase }, { on := 2, ground := Go.Ground.phase }, { on := 3, ground := Go.Ground.phase }, { on := 4, ground := Go.Ground.phase }, { on := 5, ground := Go.Ground.phase }, { on := 6, ground := Go.Ground.phase }, { on := 7, ground := Go.Ground.phase }], guard := none }
def h6_0 : Oper := { dst := some 28, op := Go.Op.move (Go.Operand.tmp 5), type := 9, pos := "ref.go:277", after := #[], guard := none }
def h6_1 : Oper := { dst := some 29, op := Go.Op.call { callee := Go.Callee.value (Go.Operand.func 37), args := #[], argTypes := #[] }, type := 32, pos := "ref.go:277", after := #[], guard := none }
def h6_2 : Oper := { dst := some 30, op := Go.Op.fieldAddr 24 (Go.Operand.tmp 2) 0, type := 0, pos := "ref.go:277", after := #[], guard := none }
def h6_3 : Oper := { dst := some 31, op := Go.Op.load 3 (Go.Operand.tmp 30), type := 3, pos := "ref.go:277", after := #[{ on := 2, ground := Go.Ground.data }], guard := none }
def h6_4 : Oper := { dst := some 32, op := Go.Op.binOp Go.BinOp.sub 3 (Go.Operand.tmp 31) (Go.Operand.const (Go.Value.int Go.IntKind.i64 13)) 3, type := 3, pos := "ref.go:277", after := #[{ on := 3, ground := Go.Ground.data }], guard := none }
def h6_5 : Oper := { dst := some 33, op := Go.Op.indexAddr 32 (Go.Operand.tmp 29) (Go.Operand.tmp 32), type := 0, pos := "ref.go:277", after := #[{ on := 1, ground := Go.Ground.data }, { on := 4, ground := Go.Ground.data }], guard := none }
def h6_6 : Oper := { dst := some 34, op := Go.Op.load 9 (Go.Operand.tmp 33), type := 9, pos := "ref.go:277", after := #[{ on := 5, ground := Go.Ground.data }], guard := none }
def h6_7 : Oper := { dst := some 35, op := Go.Op.binOp Go.BinOp.add 9 (Go.Operand.tmp 28) (Go.Operand.tmp 34) 9, type := 9, pos := "ref.go:277", after := #[{ on := 0, ground := Go.Ground.data }, { on := 6, ground := Go.Ground.data }], guard := none }
def h6_8 : Oper := { dst := some 5, op := Go.Op.assign (Go.Operand.tmp 35), type := 9, pos := "ref.go:277", after := #[{ on := 7, ground := Go.Ground.data }, { on := 1, ground := Go.Ground.chain }, { on := 0, ground := Go.Ground.phase }, { on := 1, ground := Go.Ground.phase }, { on := 2, ground := Go.Ground.phase }, { on := 3, ground := Go.Ground.phase }, { on := 4, ground := Go.Ground.phase }, { on := 5, ground := Go.Ground.phase }, { on := 6, ground := Go.Ground.phase }, { on := 7, ground := Go.Ground.phase }], guard := none }
def h9_0 : Oper := { dst := some 40, op := Go.Op.move (Go.Operand.tmp 5), type := 9, pos := "ref.go:281", after := #[], guard := none }
def h9_1 : Oper := { dst := some 41, op := Go.Op.binOp Go.BinOp.add 9 (Go.Operand.tmp 40) (Go.Operand.const (Go.Value.string { data := #[32] })) 9, type := 9, pos := "ref.go:281", after := #[{ on := 0, ground := Go.Ground.data }], guard := none }
def h9_2 : Oper := { dst := some 42, op := Go.Op.fieldAddr 24 (Go.Operand.tmp 2) 3, type := 0, pos := "ref.go:281", after := #[], guard := none }
def h9_3 : Oper := { dst := some 43, op := Go.Op.load 3 (Go.Operand.tmp 42), type := 3, pos := "ref.go:281", after := #[{ on := 2, ground := Go.Ground.data }], guard := none }
def h9_4 : Oper := { dst := some 44, op := Go.Op.call { callee := Go.Callee.value (Go.Operand.func 38), args := #[Go.Operand.tmp 43], argTypes := #[3] }, type := 9, pos := "ref.go:281", after := #[{ on := 3, ground := Go.Ground.data }], guard := none }
def h9_5 : Oper := { dst := some 45, op := Go.Op.binOp Go.BinOp.add 9 (Go.Operand.tmp 41) (Go.Operand.tmp 44) 9, type := 9, pos := "ref.go:281", after := #[{ on := 1, ground := Go.Ground.data }, { on := 4, ground := Go.Ground.data }], guard := none }
def h9_6 : Oper := { dst := some 46, op := Go.Op.binOp Go.BinOp.add 9 (Go.Operand.tmp 45) (Go.Operand.const (Go.Value.string { data := #[32] })) 9, type := 9, pos := "ref.go:281", after := #[{ on := 5, ground := Go.Ground.data }], guard := none }
def h9_7 : Oper := { dst := some 47, op := Go.Op.fieldAddr 24 (Go.Operand.tmp 2) 1, type := 0, pos := "ref.go:281", after := #[], guard := none }
def h9_8 : Oper := { dst := some 48, op := Go.Op.load 3 (Go.Operand.tmp 47), type := 3, pos := "ref.go:281", after := #[{ on := 7, ground := Go.Ground.data }], guard := none }
def h9_9 : Oper := { dst := some 49, op := Go.Op.call { callee := Go.Callee.value (Go.Operand.func 27), args := #[Go.Operand.tmp 48], argTypes := #[3] }, type := 9, pos := "ref.go:281", after := #[{ on := 8, ground := Go.Ground.data }, { on := 4, ground := Go.Ground.chain }], guard := none }
def h9_10 : Oper := { dst := some 50, op := Go.Op.binOp Go.BinOp.add 9 (Go.Operand.tmp 46) (Go.Operand.tmp 49) 9, type := 9, pos := "ref.go:281", after := #[{ on := 6, ground := Go.Ground.data }, { on := 9, ground := Go.Ground.data }], guard := none }
def h9_11 : Oper := { dst := some 51, op := Go.Op.binOp Go.BinOp.add 9 (Go.Operand.tmp 50) (Go.Operand.const (Go.Value.string { data := #[32] })) 9, type := 9, pos := "ref.go:281", after := #[{ on := 10, ground := Go.Ground.data }], guard := none }
def h9_12 : Oper := { dst := some 52, op := Go.Op.fieldAddr 24 (Go.Operand.tmp 2) 2, type := 0, pos := "ref.go:281", after := #[], guard := none }
def h9_13 : Oper := { dst := some 53, op := Go.Op.load 3 (Go.Operand.tmp 52), type := 3, pos := "ref.go:281", after := #[{ on := 12, ground := Go.Ground.data }], guard := none }
def h9_14 : Oper := { dst := some 54, op := Go.Op.call { callee := Go.Callee.value (Go.Operand.func 27), args := #[Go.Operand.tmp 53], argTypes := #[3] }, type := 9, pos := "ref.go:281", after := #[{ on := 13, ground := Go.Ground.data }, { on := 9, ground := Go.Ground.chain }], guard := none }
def h9_15 : Oper := { dst := some 55, op := Go.Op.binOp Go.BinOp.add 9 (Go.Operand.tmp 51) (Go.Operand.tmp 54) 9, type := 9, pos := "ref.go:281", after := #[{ on := 11, ground := Go.Ground.data }, { on := 14, ground := Go.Ground.data }], guard := none }
def h9_16 : Oper := { dst := some 5, op := Go.Op.assign (Go.Operand.tmp 55), type := 9, pos := "ref.go:281", after := #[{ on := 15, ground := Go.Ground.data }, { on := 14, ground := Go.Ground.chain }, { on := 0, ground := Go.Ground.phase }, { on := 1, ground := Go.Ground.phase }, { on := 2, ground := Go.Ground.phase }, { on := 3, ground := Go.Ground.phase }, { on := 4, ground := Go.Ground.phase }, { on := 5, ground := Go.Ground.phase }, { on := 6, ground := Go.Ground.phase }, { on := 7, ground := Go.Ground.phase }, { on := 8, ground := Go.Ground.phase }, { on := 9, ground := Go.Ground.phase }, { on := 10, ground := Go.Ground.phase }, { on := 11, ground := Go.Ground.phase }, { on := 12, ground := Go.Ground.phase }, { on := 13, ground := Go.Ground.phase }, { on := 14, ground := Go.Ground.phase }, { on := 15, ground := Go.Ground.phase }], guard := none }
def h17_0 : Oper := { dst := some 64, op := Go.Op.move (Go.Operand.tmp 5), type := 9, pos := "ref.go:283", after := #[], guard := none }
def h17_1 : Oper := { dst := some 65, op := Go.Op.binOp Go.BinOp.add 9 (Go.Operand.tmp 64) (Go.Operand.const (Go.Value.string { data := #[32] })) 9, type := 9, pos := "ref.go:283", after := #[{ on := 0, ground := Go.Ground.data }], guard := none }
def h17_2 : Oper := { dst := some 66, op := Go.Op.fieldAddr 24 (Go.Operand.tmp 2) 1, type := 0, pos := "ref.go:283", after := #[], guard := none }
def h17_3 : Oper := { dst := some 67, op := Go.Op.load 3 (Go.Operand.tmp 66), type := 3, pos := "ref.go:283", after := #[{ on := 2, ground := Go.Ground.data }], guard := none }
def h17_4 : Oper := { dst := some 68, op := Go.Op.call { callee := Go.Callee.value (Go.Operand.func 27), args := #[Go.Operand.tmp 67], argTypes := #[3] }, type := 9, pos := "ref.go:283", after := #[{ on := 3, ground := Go.Ground.data }], guard := none }
def h17_5 : Oper := { dst := some 69, op := Go.Op.binOp Go.BinOp.add 9 (Go.Operand.tmp 65) (Go.Operand.tmp 68) 9, type := 9, pos := "ref.go:283", after := #[{ on := 1, ground := Go.Ground.data }, { on := 4, ground := Go.Ground.data }], guard := none }
def h17_6 : Oper := { dst := some 70, op := Go.Op.binOp Go.BinOp.add 9 (Go.Operand.tmp 69) (Go.Operand.const (Go.Value.string { data := #[32] })) 9, type := 9, pos := "ref.go:283", after := #[{ on := 5, ground := Go.Ground.data }], guard := none }
def h17_7 : Oper := { dst := some 71, op := Go.Op.fieldAddr 24 (Go.Operand.tmp 2) 2, type := 0, pos := "ref.go:283", after := #[], guard := none }
def h17_8 : Oper := { dst := some 72, op := Go.Op.load 3 (Go.Operand.tmp 71), type := 3, pos := "ref.go:283", after := #[{ on := 7, ground := Go.Ground.data }], guard := none }
def h17_9 : Oper := { dst := some 73, op := Go.Op.call { callee := Go.Callee.value (Go.Operand.func 27), args := #[Go.Operand.tmp 72], argTypes := #[3] }, type := 9, pos := "ref.go:283", after := #[{ on := 8, ground := Go.Ground.data }, { on := 4, ground := Go.Ground.chain }], guard := none }
def h17_10 : Oper := { dst := some 74, op := Go.Op.binOp Go.BinOp.add 9 (Go.Operand.tmp 70) (Go.Operand.tmp 73) 9, type := 9, pos := "ref.go:283", after := #[{ on := 6, ground := Go.Ground.data }, { on := 9, ground := Go.Ground.data }], guard := none }
def h17_11 : Oper := { dst := some 5, op := Go.Op.assign (Go.Operand.tmp 74), type := 9, pos := "ref.go:283", after := #[{ on := 10, ground := Go.Ground.data }, { on := 9, ground := Go.Ground.chain }, { on := 0, ground := Go.Ground.phase }, { on := 1, ground := Go.Ground.phase }, { on := 2, ground := Go.Ground.phase }, { on := 3, ground := Go.Ground.phase }, { on := 4, ground := Go.Ground.phase }, { on := 5, ground := Go.Ground.phase }, { on := 6, ground := Go.Ground.phase }, { on := 7, ground := Go.Ground.phase }, { on := 8, ground := Go.Ground.phase }, { on := 9, ground := Go.Ground.phase }, { on := 10, ground := Go.Ground.phase }], guard := none }
def h30_0 : Oper := { dst := some 119, op := Go.Op.move (Go.Operand.tmp 5), type := 9, pos := "ref.go:294", after := #[], guard := none }
def h30_1 : Oper := { dst := some 120, op := Go.Op.binOp Go.BinOp.add 9 (Go.Operand.tmp 119) (Go.Operand.const (Go.Value.string { data := #[32] })) 9, type := 9, pos := "ref.go:294", after := #[{ on := 0, ground := Go.Ground.data }], guard := none }
def h30_2 : Oper := { dst := some 121, op := Go.Op.fieldAddr 24 (Go.Operand.tmp 2) 4, type := 0, pos := "ref.go:294", after := #[], guard := none }
def h30_3 : Oper := { dst := some 122, op := Go.Op.load 22 (Go.Operand.tmp 121), type := 22, pos := "ref.go:294", after := #[{ on := 2, ground := Go.Ground.data }], guard := none }
def h30_4 : Oper := { dst := some 123, op := Go.Op.move (Go.Operand.tmp 6), type := 3, pos := "ref.go:294", after := #[], guard := none }
def h30_5 : Oper := { dst := some 124, op := Go.Op.indexAddr 22 (Go.Operand.tmp 122) (Go.Operand.tmp 123), type := 0, pos := "ref.go:294", after := #[{ on := 3, ground := Go.Ground.data }, { on := 4, ground := Go.Ground.data }], guard := none }
def h30_6 : Oper := { dst := some 125, op := Go.Op.load 24 (Go.Operand.tmp 124), type := 24, pos := "ref.go:294", after := #[{ on := 5, ground := Go.Ground.data }], guard := none }
def h30_7 : Oper := { dst := some 126, op := Go.Op.move (Go.Operand.tmp 1), type := 3, pos := "ref.go:294", after := #[], guard := none }
def h30_8 : Oper := { dst := some 127, op := Go.Op.fieldAddr 24 (Go.Operand.tmp 2) 0, type := 0, pos := "ref.go:294", after := #[], guard := none }
def h30_9 : Oper := { dst := some 128, op := Go.Op.load 3 (Go.Operand.tmp 127), type := 3, pos := "ref.go:294", after := #[{ on := 8, ground := Go.Ground.data }], guard := none }
def h30_10 : Oper := { dst := some 129, op := Go.Op.move (Go.Operand.tmp 6), type := 3, pos := "ref.go:294", after := #[], guard := none }
def h30_11 : Oper := { dst := some 130, op := Go.Op.call { callee := Go.Callee.value (Go.Operand.func 39), args := #[Go.Operand.tmp 128, Go.Operand.tmp 129], argTypes := #[3, 3] }, type := 3, pos := "ref.go:294", after := #[{ on := 9, ground := Go.Ground.data }, { on := 10, ground := Go.Ground.data }], guard := none }
def h30_12 : Oper := { dst := some 131, op := Go.Op.binOp Go.BinOp.add 3 (Go.Operand.tmp 126) (Go.Operand.tmp 130) 3, type := 3, pos := "ref.go:294", after := #[{ on := 7, ground := Go.Ground.data }, { on := 11, ground := Go.Ground.data }], guard := none }
def h30_13 : Oper := { dst := some 132, op := Go.Op.call { callee := Go.Callee.value (Go.Operand.func 21), args := #[Go.Operand.tmp 125, Go.Operand.tmp 131], argTypes := #[24, 3] }, type := 9, pos := "ref.go:294", after := #[{ on := 6, ground := Go.Ground.data }, { on := 12, ground := Go.Ground.data }, { on := 11, ground := Go.Ground.chain }], guard := none }
def h30_14 : Oper := { dst := some 133, op := Go.Op.binOp Go.BinOp.add 9 (Go.Operand.tmp 120) (Go.Operand.tmp 132) 9, type := 9, pos := "ref.go:294", after := #[{ on := 1, ground := Go.Ground.data }, { on := 13, ground := Go.Ground.data }], guard := none }
def h30_15 : Oper := { dst := some 5, op := Go.Op.assign (Go.Operand.tmp 133), type := 9, pos := "ref.go:294", after := #[{ on := 14, ground := Go.Ground.data }, { on := 13, ground := Go.Ground.chain }, { on := 0, ground := Go.Ground.phase }, { on := 1, ground := Go.Ground.phase }, { on := 2, ground := Go.Ground.phase }, { on := 3, ground := Go.Ground.phase }, { on := 4, ground := Go.Ground.phase }, { on := 5, ground := Go.Ground.phase }, { on := 6, ground := Go.Ground.phase }, { on := 7, ground := Go.Ground.phase }, { on := 8, ground := Go.Ground.phase }, { on := 9, ground := Go.Ground.phase }, { on := 10, ground := Go.Ground.phase }, { on := 11, ground := Go.Ground.phase }, { on := 12, ground := Go.Ground.phase }, { on := 13, ground := Go.Ground.phase }, { on := 14, ground := Go.Ground.phase }], guard := none }

set_option maxHeartbeats 8000000 in
set_option maxRecDepth 100000 in
theorem refwr_any (t : Tm) : WRef t := by
  induction t using Tm.ind with
  | h t ih =>
    intro w s m hl hr h0 hf hm hz
    obtain ⟨a, cap, S, rfl, hc, hmx, hfi, hn, hk⟩ := hl.out
    unfold maxLen at hmx
    have hkr := t.node_kind (t.right_node hr)
    have hfit := right_fit hr
    have HI1 := Lib.hid (show I64 t.i from ⟨hfit.1.1, hfit.1.2⟩)
    have HI2 := Lib.hid (show I64 t.j from ⟨hfit.2.1, hfit.2.2⟩)
    have hH0 := held_start w t (.slice a t.kids.length cap)
    have HLEN := Lib.hid (wr_len t m hr h0 hf hm)
    have HRB := Lib.hid hr
    have HN := Lib.hid hn
    have HK := Lib.hid hk
    have HL := Lib.hid hl
    have IH := Lib.hid ih
    have HFM := Lib.hid (show Fit m from ⟨by omega, by omega⟩)
    have HFM1 := Lib.hid (show Fit (m + 1) from ⟨by omega, by omega⟩)
    obtain ⟨d0, d1, d2, d3, d4⟩ := held_cells hH0
    clear hn hk hl ih hfi
    unfold tv
    go_enter Tryd.func21, Tryd.ntmps21
    by_cases h2 : t.k = 2
    · have hv := t.right_var hr h2
      have e2 : (t.k == 2) = true := by simpa using h2
      have hf2 := hf
      rw [t.freeN_eq, if_pos h2] at hf2
      have HH := Lib.hid hH0
      have HLI := Lib.hid (Lib.itoa_length_le (m - 1 - t.i) (by omega) (by omega))
      have HE := Lib.hid (show t.wr m = nameW (m - 1 - t.i) by rw [t.wr_eq, if_pos h2])
      clear hH0 h2
      go_wp2_with fail
      refine (refput_any (m - 1 - t.i) _ ⟨by omega, by omega⟩).mono ?_
      rintro e w1 ⟨rfl, hb1⟩
      have HS := Lib.hid (held_call HH.out hb1)
      clear hb1
      go_wp2_with fail
      · exfalso; have := HLI.out; omega
      go_wp2
      go_ret
      exact ⟨by rw [HE.out]; unfold nameW; rw [show (⟨#[118]⟩ : ByteArray) = ⟨[(118 : UInt8)].toArray⟩ from rfl, str_add]; rfl, held_below HS.out⟩
    have e2 : (t.k == 2) = false := by simpa using h2
    have HS0 := Lib.hid hH0
    have HE := Lib.hid (show t.wr m = 40 :: (headL t.k ++ (frontL t.k t.i t.j t.n m ++ (wrs t.k 0 t.kids m ++ [41]))) by rw [t.wr_eq, if_neg h2])
    have HF := Lib.hid (by rw [t.freeN_eq, if_neg h2] at hf; exact hf : frees t.k 0 t.kids ≤ m)
    have hhl := head_len t.k
    clear hH0 hf
    go_upto_if 19 with fail
    go_cut [5] (fun s5 wx => s5 = .string ⟨(40 :: headL t.k).toArray⟩ ∧ Hid (Held w t (.slice a t.kids.length cap) wx))
    case first =>
      by_cases h12 : t.k ≤ 12
      · obtain ⟨q, hq⟩ : ∃ q : Nat, q = (t.k - 1).toNat := ⟨_, rfl⟩
        have hq12 : q < 12 := by omega
        have hqk : t.k = (q : Int) + 1 := by omega
        have hqi : (q : Int) < 12 := by omega
        have hwr : IntKind.i64.wrap (t.k - 1) = (q : Int) := by rw [IntWalk.i64_in _ (by omega)]; omega
        have hwq : IntKind.i64.wrap ((q : Int) + 1 - 1) = (q : Int) := by rw [IntWalk.i64_in _ (by omega)]; omega
        have HCAT := Lib.hid (str_add [40] (headL t.k))
        have HQK := Lib.hid hqk
        have hcap : ¬ 9223372036854775807 < 1 + (headL t.k).length := by omega
        clear hq hqk
        go_wp2_with fail
        refine wp_region_held_drew (S := fun w' => Held w t (.slice a t.kids.length cap) w' ∧ True) (by kernel_rfl) ?_ (fun hHeld => ?_)
        · (try dsimp only)
          (first | exact hS1 | exact ⟨held_drew HS0.out, True.intro⟩ | exact hHeld)
        refine take_at 0 20 h5_0 (v := ?_) (Or.inl ⟨by rfl, ?_⟩) ?_
        rotate_left 1
        · ((intro w hSw; (try dsimp only at hSw); unfold h5_0; go_simp) <;> with_reducible rfl)
        (try simp only [Act.put, List.setIfInBounds_toArray, List.set_cons_zero, List.set_cons_succ])
        refine take_at 2 22 h5_2 (v := ?_) (Or.inl ⟨by rfl, ?_⟩) ?_
        rotate_left 1
        · ((intro w hSw; (try dsimp only at hSw); unfold h5_2; go_simp) <;> with_reducible rfl)
        (try simp only [Act.put, List.setIfInBounds_toArray, List.set_cons_zero, List.set_cons_succ])
        refine take_at 3 23 h5_3 (v := ?_) (Or.inl ⟨by rfl, ?_⟩) ?_
        rotate_left 1
        · ((intro w hSw; (try dsimp only at hSw); (first | (have yy := held_cells hSw.1) | (have yy := held_cells hSw.1.1)); obtain ⟨y0, y1, y2, y3, y4⟩ := yy; have yc := hSw.2; unfold h5_3; go_simp) <;> with_reducible rfl)
        (try simp only [Act.put, List.setIfInBounds_toArray, List.set_cons_zero, List.set_cons_succ])
        refine take_at 4 24 h5_4 (v := ?_) (Or.inl ⟨by rfl, ?_⟩) ?_
        rotate_left 1
        · ((intro w hSw; (try dsimp only at hSw); unfold h5_4; go_simp) <;> with_reducible rfl)
        (try simp only [Act.put, List.setIfInBounds_toArray, List.set_cons_zero, List.set_cons_succ])
        refine wpAnyH_ready (rs := [1]) (by kernel_rfl) (by simp) ?_
        refine AllReadyH.cons (o := h5_1) rfl (fun K hK => ?_) ?_
        · unfold h5_1
          go_simp
          (go_at_call 36; with_reducible refine Calls.mono (pmarked_any _) ?_; rintro e v1 ⟨g, rfl, hrow, hb1⟩)
          have hS1 := And.intro (held_call hHeld.1 hb1) True.intro
          have hc := hrow.cell q (hq12)
          clear hrow
          rw [markedW_at q hq12, ← HQK.out] at hc
          unfold sv at hc
          clear hHeld hb1
          refine hK.out _ _ ?_ (fun hHeld => ?_)
          · (try dsimp only)
            (first | exact hS1 | exact ⟨held_drew HS0.out, True.intro⟩ | exact hHeld)
          clear hK K
          (try simp only [Act.put, List.setIfInBounds_toArray, List.set_cons_zero, List.set_cons_succ])
          refine wpAnyH_weakerW (S' := fun w' => (Held w t (.slice a t.kids.length cap) w' ∧ True) ∧ w'.cell? ⟨g, q, none⟩ = some (.string ⟨(headL t.k).toArray⟩)) (fun _ h => h.1) _ _ _ _ ?_
          have hHeld := And.intro hHeld hc
          refine take_at 5 25 h5_5 (v := ?_) (Or.inl ⟨by rfl, ?_⟩) ?_
          rotate_left 1
          · ((intro w hSw; (try dsimp only at hSw); unfold h5_5; go_simp) <;> with_reducible rfl)
          (try simp only [Act.put, List.setIfInBounds_toArray, List.set_cons_zero, List.set_cons_succ])
          refine take_at 6 26 h5_6 (v := ?_) (Or.inl ⟨by rfl, ?_⟩) ?_
          rotate_left 1
          · ((intro w hSw; (try dsimp only at hSw); (first | (have yy := held_cells hSw.1) | (have yy := held_cells hSw.1.1)); obtain ⟨y0, y1, y2, y3, y4⟩ := yy; have yc := hSw.2; unfold h5_6; go_simp) <;> with_reducible rfl)
          (try simp only [Act.put, List.setIfInBounds_toArray, List.set_cons_zero, List.set_cons_succ])
          refine take_at 7 27 h5_7 (v := ?_) (Or.inl ⟨by rfl, ?_⟩) ?_
          rotate_left 1
          · ((intro w hSw; (try dsimp only at hSw); unfold h5_7; go_simp) <;> with_reducible rfl)
          (try simp only [Act.put, List.setIfInBounds_toArray, List.set_cons_zero, List.set_cons_succ])
          refine take_at 8 5 h5_8 (v := ?_) (Or.inl ⟨by rfl, ?_⟩) ?_
          rotate_left 1
          · ((intro w hSw; (try dsimp only at hSw); unfold h5_8; go_simp) <;> with_reducible rfl)
          (try simp only [Act.put, List.setIfInBounds_toArray, List.set_cons_zero, List.set_cons_succ])
          refine wpAnyH_done (by kernel_rfl) ?_ _
          have HS := Lib.hid hHeld.1.1
          clear hHeld
          go_wp2_with fail
          go_meet
          case rel => exact ⟨by rw [HCAT.out]; rfl, HS⟩
        exact AllReadyH.nil
      · obtain ⟨q, hq⟩ : ∃ q : Nat, q = (t.k - 13).toNat := ⟨_, rfl⟩
        have hq11 : q < 11 := by omega
        have hqk : t.k = (q : Int) + 13 := by omega
        have hqi : (q : Int) < 11 := by omega
        have hwr : IntKind.i64.wrap (t.k - 13) = (q : Int) := by rw [IntWalk.i64_in _ (by omega)]; omega
        have hwq : IntKind.i64.wrap ((q : Int) + 13 - 13) = (q : Int) := by rw [IntWalk.i64_in _ (by omega)]; omega
        have HCAT := Lib.hid (str_add [40] (headL t.k))
        have HQK := Lib.hid hqk
        have hcap : ¬ 9223372036854775807 < 1 + (headL t.k).length := by omega
        clear hq hqk
        go_wp2_with fail
        refine wp_region_held_drew (S := fun w' => Held w t (.slice a t.kids.length cap) w' ∧ True) (by kernel_rfl) ?_ (fun hHeld => ?_)
        · (try dsimp only)
          (first | exact hS1 | exact ⟨held_drew HS0.out, True.intro⟩ | exact hHeld)
        refine take_at 0 28 h6_0 (v := ?_) (Or.inl ⟨by rfl, ?_⟩) ?_
        rotate_left 1
        · ((intro w hSw; (try dsimp only at hSw); unfold h6_0; go_simp) <;> with_reducible rfl)
        (try simp only [Act.put, List.setIfInBounds_toArray, List.set_cons_zero, List.set_cons_succ])
        refine take_at 2 30 h6_2 (v := ?_) (Or.inl ⟨by rfl, ?_⟩) ?_
        rotate_left 1
        · ((intro w hSw; (try dsimp only at hSw); unfold h6_2; go_simp) <;> with_reducible rfl)
        (try simp only [Act.put, List.setIfInBounds_toArray, List.set_cons_zero, List.set_cons_succ])
        refine take_at 3 31 h6_3 (v := ?_) (Or.inl ⟨by rfl, ?_⟩) ?_
        rotate_left 1
        · ((intro w hSw; (try dsimp only at hSw); (first | (have yy := held_cells hSw.1) | (have yy := held_cells hSw.1.1)); obtain ⟨y0, y1, y2, y3, y4⟩ := yy; have yc := hSw.2; unfold h6_3; go_simp) <;> with_reducible rfl)
        (try simp only [Act.put, List.setIfInBounds_toArray, List.set_cons_zero, List.set_cons_succ])
        refine take_at 4 32 h6_4 (v := ?_) (Or.inl ⟨by rfl, ?_⟩) ?_
        rotate_left 1
        · ((intro w hSw; (try dsimp only at hSw); unfold h6_4; go_simp) <;> with_reducible rfl)
        (try simp only [Act.put, List.setIfInBounds_toArray, List.set_cons_zero, List.set_cons_succ])
        refine wpAnyH_ready (rs := [1]) (by kernel_rfl) (by simp) ?_
        refine AllReadyH.cons (o := h6_1) rfl (fun K hK => ?_) ?_
        · unfold h6_1
          go_simp
          (go_at_call 37; with_reducible refine Calls.mono (pplain_any _) ?_; rintro e v1 ⟨g, rfl, hrow, hb1⟩)
          have hS1 := And.intro (held_call hHeld.1 hb1) True.intro
          have hc := hrow.cell q (hq11)
          clear hrow
          rw [plainW_at q hq11, ← HQK.out] at hc
          unfold sv at hc
          clear hHeld hb1
          refine hK.out _ _ ?_ (fun hHeld => ?_)
          · (try dsimp only)
            (first | exact hS1 | exact ⟨held_drew HS0.out, True.intro⟩ | exact hHeld)
          clear hK K
          (try simp only [Act.put, List.setIfInBounds_toArray, List.set_cons_zero, List.set_cons_succ])
          refine wpAnyH_weakerW (S' := fun w' => (Held w t (.slice a t.kids.length cap) w' ∧ True) ∧ w'.cell? ⟨g, q, none⟩ = some (.string ⟨(headL t.k).toArray⟩)) (fun _ h => h.1) _ _ _ _ ?_
          have hHeld := And.intro hHeld hc
          refine take_at 5 33 h6_5 (v := ?_) (Or.inl ⟨by rfl, ?_⟩) ?_
          rotate_left 1
          · ((intro w hSw; (try dsimp only at hSw); unfold h6_5; go_simp) <;> with_reducible rfl)
          (try simp only [Act.put, List.setIfInBounds_toArray, List.set_cons_zero, List.set_cons_succ])
          refine take_at 6 34 h6_6 (v := ?_) (Or.inl ⟨by rfl, ?_⟩) ?_
          rotate_left 1
          · ((intro w hSw; (try dsimp only at hSw); (first | (have yy := held_cells hSw.1) | (have yy := held_cells hSw.1.1)); obtain ⟨y0, y1, y2, y3, y4⟩ := yy; have yc := hSw.2; unfold h6_6; go_simp) <;> with_reducible rfl)
          (try simp only [Act.put, List.setIfInBounds_toArray, List.set_cons_zero, List.set_cons_succ])
          refine take_at 7 35 h6_7 (v := ?_) (Or.inl ⟨by rfl, ?_⟩) ?_
          rotate_left 1
          · ((intro w hSw; (try dsimp only at hSw); unfold h6_7; go_simp) <;> with_reducible rfl)
          (try simp only [Act.put, List.setIfInBounds_toArray, List.set_cons_zero, List.set_cons_succ])
          refine take_at 8 5 h6_8 (v := ?_) (Or.inl ⟨by rfl, ?_⟩) ?_
          rotate_left 1
          · ((intro w hSw; (try dsimp only at hSw); unfold h6_8; go_simp) <;> with_reducible rfl)
          (try simp only [Act.put, List.setIfInBounds_toArray, List.set_cons_zero, List.set_cons_succ])
          refine wpAnyH_done (by kernel_rfl) ?_ _
          have HS := Lib.hid hHeld.1.1
          clear hHeld
          go_wp2_with fail
          go_meet
          case rel => exact ⟨by rw [HCAT.out]; rfl, HS⟩
        exact AllReadyH.nil
    case rest =>
      obtain ⟨rfl, HSC⟩ := hcut
      obtain ⟨c1, hc1⟩ : ∃ c, 40 :: headL t.k = c := ⟨_, rfl⟩
      have hl1 : c1.length ≤ 5 := by rw [← hc1]; simp; omega
      rw [hc1]
      have HC1 := Lib.hid hc1
      clear hc1
      clear d0 d1 d2 d3 d4
      obtain ⟨d0, d1, d2, d3, d4⟩ := held_cells HSC.out
      have HSY := Lib.hid (sym_len t.n)
      have HLI := Lib.hid (Lib.itoa_length_le t.i hfit.1.1 hfit.1.2)
      have HLJ := Lib.hid (Lib.itoa_length_le t.j hfit.2.1 hfit.2.2)
      go_step
      go_step
      go_cut [5] (fun s5 wx => s5 = .string ⟨(c1 ++ ((if t.k = 23 then 32 :: symL t.n else []) ++ lvlL t.k t.i t.j)).toArray⟩ ∧ Hid (Held w t (.slice a t.kids.length cap) wx))
      case first =>
        by_cases h23 : t.k = 23
        · have HK23 := Lib.hid h23
          have e23 : (t.k == 23) = true := by simpa using h23
          have HLV := Lib.hid (show levelsN t.k = 2 by rw [h23]; decide)
          have HNR := Lib.hid (right_sym HRB.out h23)
          clear h23
          have hs0 : ¬ 9223372036854775807 < c1.length + 1 := by have := HSY.out; have := HLI.out; have := HLJ.out; omega
          have hs1 : ¬ 9223372036854775807 < c1.length + 1 + (symL t.n).length := by have := HSY.out; have := HLI.out; have := HLJ.out; omega
          have hs2 : ¬ 9223372036854775807 < c1.length + 1 + (symL t.n).length + 1 := by have := HSY.out; have := HLI.out; have := HLJ.out; omega
          have hs3 : ¬ 9223372036854775807 < c1.length + 1 + (symL t.n).length + 1 + (Lib.itoa t.i).length := by have := HSY.out; have := HLI.out; have := HLJ.out; omega
          have hs4 : ¬ 9223372036854775807 < c1.length + 1 + (symL t.n).length + 1 + (Lib.itoa t.i).length + 1 := by have := HSY.out; have := HLI.out; have := HLJ.out; omega
          have hs5 : ¬ 9223372036854775807 < c1.length + 1 + (symL t.n).length + 1 + (Lib.itoa t.i).length + 1 + (Lib.itoa t.j).length := by have := HSY.out; have := HLI.out; have := HLJ.out; omega
          go_wp2_with fail
          refine wp_region_held_drew (S := fun w' => Held w t (.slice a t.kids.length cap) w' ∧ True) (by kernel_rfl) ?_ (fun hHeld => ?_)
          · (try dsimp only)
            (first | exact hS14 | exact hS9 | exact hS4 | exact ⟨held_drew HSC.out, True.intro⟩ | exact hHeld)
          refine take_at 0 40 h9_0 (v := ?_) (Or.inl ⟨by rfl, ?_⟩) ?_
          rotate_left 1
          · ((intro w hSw; (try dsimp only at hSw); unfold h9_0; go_simp) <;> with_reducible rfl)
          (try simp only [Act.put, List.setIfInBounds_toArray, List.set_cons_zero, List.set_cons_succ])
          refine take_at 1 41 h9_1 (v := ?_) (Or.inl ⟨by rfl, ?_⟩) ?_
          rotate_left 1
          · ((intro w hSw; (try dsimp only at hSw); unfold h9_1; go_simp) <;> with_reducible rfl)
          (try simp only [Act.put, List.setIfInBounds_toArray, List.set_cons_zero, List.set_cons_succ])
          refine take_at 2 42 h9_2 (v := ?_) (Or.inl ⟨by rfl, ?_⟩) ?_
          rotate_left 1
          · ((intro w hSw; (try dsimp only at hSw); unfold h9_2; go_simp) <;> with_reducible rfl)
          (try simp only [Act.put, List.setIfInBounds_toArray, List.set_cons_zero, List.set_cons_succ])
          refine take_at 3 43 h9_3 (v := ?_) (Or.inl ⟨by rfl, ?_⟩) ?_
          rotate_left 1
          · ((intro w hSw; (try dsimp only at hSw); (first | (have yy := held_cells hSw.1) | (have yy := held_cells hSw.1)); obtain ⟨y0, y1, y2, y3, y4⟩ := yy; have yc := hSw.2; unfold h9_3; go_simp) <;> with_reducible rfl)
          (try simp only [Act.put, List.setIfInBounds_toArray, List.set_cons_zero, List.set_cons_succ])
          refine take_at 7 47 h9_7 (v := ?_) (Or.inl ⟨by rfl, ?_⟩) ?_
          rotate_left 1
          · ((intro w hSw; (try dsimp only at hSw); unfold h9_7; go_simp) <;> with_reducible rfl)
          (try simp only [Act.put, List.setIfInBounds_toArray, List.set_cons_zero, List.set_cons_succ])
          refine take_at 8 48 h9_8 (v := ?_) (Or.inl ⟨by rfl, ?_⟩) ?_
          rotate_left 1
          · ((intro w hSw; (try dsimp only at hSw); (first | (have yy := held_cells hSw.1) | (have yy := held_cells hSw.1)); obtain ⟨y0, y1, y2, y3, y4⟩ := yy; have yc := hSw.2; unfold h9_8; go_simp) <;> with_reducible rfl)
          (try simp only [Act.put, List.setIfInBounds_toArray, List.set_cons_zero, List.set_cons_succ])
          refine take_at 12 52 h9_12 (v := ?_) (Or.inl ⟨by rfl, ?_⟩) ?_
          rotate_left 1
          · ((intro w hSw; (try dsimp only at hSw); unfold h9_12; go_simp) <;> with_reducible rfl)
          (try simp only [Act.put, List.setIfInBounds_toArray, List.set_cons_zero, List.set_cons_succ])
          refine take_at 13 53 h9_13 (v := ?_) (Or.inl ⟨by rfl, ?_⟩) ?_
          rotate_left 1
          · ((intro w hSw; (try dsimp only at hSw); (first | (have yy := held_cells hSw.1) | (have yy := held_cells hSw.1)); obtain ⟨y0, y1, y2, y3, y4⟩ := yy; have yc := hSw.2; unfold h9_13; go_simp) <;> with_reducible rfl)
          (try simp only [Act.put, List.setIfInBounds_toArray, List.set_cons_zero, List.set_cons_succ])
          refine wpAnyH_ready (rs := [4]) (by kernel_rfl) (by simp) ?_
          refine AllReadyH.cons (o := h9_4) rfl (fun K hK => ?_) ?_
          · unfold h9_4
            go_simp
            (go_at_call 38; with_reducible refine Calls.mono (pname_any t.n _ HNR.out) ?_; rintro e v4 ⟨rfl, hb4⟩)
            have hS4 := And.intro (held_call hHeld.1 hb4) True.intro
            clear hHeld hb4
            refine hK.out _ _ ?_ (fun hHeld => ?_)
            · (try dsimp only)
              (first | exact hS14 | exact hS9 | exact hS4 | exact ⟨held_drew HSC.out, True.intro⟩ | exact hHeld)
            clear hK K
            (try simp only [Act.put, List.setIfInBounds_toArray, List.set_cons_zero, List.set_cons_succ])
            refine take_at 5 45 h9_5 (v := ?_) (Or.inl ⟨by rfl, ?_⟩) ?_
            rotate_left 1
            · ((intro w hSw; (try dsimp only at hSw); unfold h9_5; go_simp) <;> with_reducible rfl)
            (try simp only [Act.put, List.setIfInBounds_toArray, List.set_cons_zero, List.set_cons_succ])
            refine take_at 6 46 h9_6 (v := ?_) (Or.inl ⟨by rfl, ?_⟩) ?_
            rotate_left 1
            · ((intro w hSw; (try dsimp only at hSw); unfold h9_6; go_simp) <;> with_reducible rfl)
            (try simp only [Act.put, List.setIfInBounds_toArray, List.set_cons_zero, List.set_cons_succ])
            refine wpAnyH_ready (rs := [9]) (by kernel_rfl) (by simp) ?_
            refine AllReadyH.cons (o := h9_9) rfl (fun K hK => ?_) ?_
            · unfold h9_9
              go_simp
              (go_at_call 27; with_reducible refine Calls.mono (refput_any t.i _ HI1.out) ?_; rintro e v9 ⟨rfl, hb9⟩)
              have hS9 := And.intro (held_call hHeld.1 hb9) True.intro
              clear hHeld hb9
              refine hK.out _ _ ?_ (fun hHeld => ?_)
              · (try dsimp only)
                (first | exact hS14 | exact hS9 | exact hS4 | exact ⟨held_drew HSC.out, True.intro⟩ | exact hHeld)
              clear hK K
              (try simp only [Act.put, List.setIfInBounds_toArray, List.set_cons_zero, List.set_cons_succ])
              refine take_at 10 50 h9_10 (v := ?_) (Or.inl ⟨by rfl, ?_⟩) ?_
              rotate_left 1
              · ((intro w hSw; (try dsimp only at hSw); unfold h9_10; go_simp) <;> with_reducible rfl)
              (try simp only [Act.put, List.setIfInBounds_toArray, List.set_cons_zero, List.set_cons_succ])
              refine take_at 11 51 h9_11 (v := ?_) (Or.inl ⟨by rfl, ?_⟩) ?_
              rotate_left 1
              · ((intro w hSw; (try dsimp only at hSw); unfold h9_11; go_simp) <;> with_reducible rfl)
              (try simp only [Act.put, List.setIfInBounds_toArray, List.set_cons_zero, List.set_cons_succ])
              refine wpAnyH_ready (rs := [14]) (by kernel_rfl) (by simp) ?_
              refine AllReadyH.cons (o := h9_14) rfl (fun K hK => ?_) ?_
              · unfold h9_14
                go_simp
                (go_at_call 27; with_reducible refine Calls.mono (refput_any t.j _ HI2.out) ?_; rintro e v14 ⟨rfl, hb14⟩)
                have hS14 := And.intro (held_call hHeld.1 hb14) True.intro
                clear hHeld hb14
                refine hK.out _ _ ?_ (fun hHeld => ?_)
                · (try dsimp only)
                  (first | exact hS14 | exact hS9 | exact hS4 | exact ⟨held_drew HSC.out, True.intro⟩ | exact hHeld)
                clear hK K
                (try simp only [Act.put, List.setIfInBounds_toArray, List.set_cons_zero, List.set_cons_succ])
                refine take_at 15 55 h9_15 (v := ?_) (Or.inl ⟨by rfl, ?_⟩) ?_
                rotate_left 1
                · ((intro w hSw; (try dsimp only at hSw); unfold h9_15; go_simp) <;> with_reducible rfl)
                (try simp only [Act.put, List.setIfInBounds_toArray, List.set_cons_zero, List.set_cons_succ])
                refine take_at 16 5 h9_16 (v := ?_) (Or.inl ⟨by rfl, ?_⟩) ?_
                rotate_left 1
                · ((intro w hSw; (try dsimp only at hSw); unfold h9_16; go_simp) <;> with_reducible rfl)
                (try simp only [Act.put, List.setIfInBounds_toArray, List.set_cons_zero, List.set_cons_succ])
                refine wpAnyH_done (by kernel_rfl) ?_ _
                have HS := Lib.hid hHeld.1
                clear hHeld
                go_wp2_with fail
                go_meet
                case rel => exact ⟨by rw [(show (⟨#[32]⟩ : ByteArray) = ⟨[(32 : UInt8)].toArray⟩ from rfl)]; simp only [str_add]; rw [if_pos HK23.out]; unfold lvlL; rw [if_neg (by rw [HLV.out]; decide), if_pos HLV.out]; simp, HS⟩
              exact AllReadyH.nil
            exact AllReadyH.nil
          exact AllReadyH.nil
        by_cases ha : t.k = 3 ∨ t.k = 4 ∨ t.k = 5 ∨ t.k = 6 ∨ t.k = 7 ∨ t.k = 8 ∨ t.k = 9
        · rcases ha with h | h | h | h | h | h | h
          · have HKK := Lib.hid h
            have HLV := Lib.hid (show levelsN t.k = 2 by rw [h]; decide)
            have q23 : (t.k == 23) = false := by rw [h]; decide
            have q3 : (t.k == 3) = true := by rw [h]; decide
            clear h
            have hs0 : ¬ 9223372036854775807 < c1.length + 1 := by have := HSY.out; have := HLI.out; have := HLJ.out; omega
            have hs1 : ¬ 9223372036854775807 < c1.length + 1 + (Lib.itoa t.i).length := by have := HSY.out; have := HLI.out; have := HLJ.out; omega
            have hs2 : ¬ 9223372036854775807 < c1.length + 1 + (Lib.itoa t.i).length + 1 := by have := HSY.out; have := HLI.out; have := HLJ.out; omega
            have hs3 : ¬ 9223372036854775807 < c1.length + 1 + (Lib.itoa t.i).length + 1 + (Lib.itoa t.j).length := by have := HSY.out; have := HLI.out; have := HLJ.out; omega
            go_wp2_with fail
            refine wp_region_held_drew (S := fun w' => Held w t (.slice a t.kids.length cap) w' ∧ True) (by kernel_rfl) ?_ (fun hHeld => ?_)
            · (try dsimp only)
              (first | exact hS14 | exact hS9 | exact hS4 | exact ⟨held_drew HSC.out, True.intro⟩ | exact hHeld)
            refine take_at 0 64 h17_0 (v := ?_) (Or.inl ⟨by rfl, ?_⟩) ?_
            rotate_left 1
            · ((intro w hSw; (try dsimp only at hSw); unfold h17_0; go_simp) <;> with_reducible rfl)
            (try simp only [Act.put, List.setIfInBounds_toArray, List.set_cons_zero, List.set_cons_succ])
            refine take_at 1 65 h17_1 (v := ?_) (Or.inl ⟨by rfl, ?_⟩) ?_
            rotate_left 1
            · ((intro w hSw; (try dsimp only at hSw); unfold h17_1; go_simp) <;> with_reducible rfl)
            (try simp only [Act.put, List.setIfInBounds_toArray, List.set_cons_zero, List.set_cons_succ])
            refine take_at 2 66 h17_2 (v := ?_) (Or.inl ⟨by rfl, ?_⟩) ?_
            rotate_left 1
            · ((intro w hSw; (try dsimp only at hSw); unfold h17_2; go_simp) <;> with_reducible rfl)
            (try simp only [Act.put, List.setIfInBounds_toArray, List.set_cons_zero, List.set_cons_succ])
            refine take_at 3 67 h17_3 (v := ?_) (Or.inl ⟨by rfl, ?_⟩) ?_
            rotate_left 1
            · ((intro w hSw; (try dsimp only at hSw); (first | (have yy := held_cells hSw.1) | (have yy := held_cells hSw.1)); obtain ⟨y0, y1, y2, y3, y4⟩ := yy; have yc := hSw.2; unfold h17_3; go_simp) <;> with_reducible rfl)
            (try simp only [Act.put, List.setIfInBounds_toArray, List.set_cons_zero, List.set_cons_succ])
            refine take_at 7 71 h17_7 (v := ?_) (Or.inl ⟨by rfl, ?_⟩) ?_
            rotate_left 1
            · ((intro w hSw; (try dsimp only at hSw); unfold h17_7; go_simp) <;> with_reducible rfl)
            (try simp only [Act.put, List.setIfInBounds_toArray, List.set_cons_zero, List.set_cons_succ])
            refine take_at 8 72 h17_8 (v := ?_) (Or.inl ⟨by rfl, ?_⟩) ?_
            rotate_left 1
            · ((intro w hSw; (try dsimp only at hSw); (first | (have yy := held_cells hSw.1) | (have yy := held_cells hSw.1)); obtain ⟨y0, y1, y2, y3, y4⟩ := yy; have yc := hSw.2; unfold h17_8; go_simp) <;> with_reducible rfl)
            (try simp only [Act.put, List.setIfInBounds_toArray, List.set_cons_zero, List.set_cons_succ])
            refine wpAnyH_ready (rs := [4]) (by kernel_rfl) (by simp) ?_
            refine AllReadyH.cons (o := h17_4) rfl (fun K hK => ?_) ?_
            · unfold h17_4
              go_simp
              (go_at_call 27; with_reducible refine Calls.mono (refput_any t.i _ HI1.out) ?_; rintro e v4 ⟨rfl, hb4⟩)
              have hS4 := And.intro (held_call hHeld.1 hb4) True.intro
              clear hHeld hb4
              refine hK.out _ _ ?_ (fun hHeld => ?_)
              · (try dsimp only)
                (first | exact hS14 | exact hS9 | exact hS4 | exact ⟨held_drew HSC.out, True.intro⟩ | exact hHeld)
              clear hK K
              (try simp only [Act.put, List.setIfInBounds_toArray, List.set_cons_zero, List.set_cons_succ])
              refine take_at 5 69 h17_5 (v := ?_) (Or.inl ⟨by rfl, ?_⟩) ?_
              rotate_left 1
              · ((intro w hSw; (try dsimp only at hSw); unfold h17_5; go_simp) <;> with_reducible rfl)
              (try simp only [Act.put, List.setIfInBounds_toArray, List.set_cons_zero, List.set_cons_succ])
              refine take_at 6 70 h17_6 (v := ?_) (Or.inl ⟨by rfl, ?_⟩) ?_
              rotate_left 1
              · ((intro w hSw; (try dsimp only at hSw); unfold h17_6; go_simp) <;> with_reducible rfl)
              (try simp only [Act.put, List.setIfInBounds_toArray, List.set_cons_zero, List.set_cons_succ])
              refine wpAnyH_ready (rs := [9]) (by kernel_rfl) (by simp) ?_
              refine AllReadyH.cons (o := h17_9) rfl (fun K hK => ?_) ?_
              · unfold h17_9
                go_simp
                (go_at_call 27; with_reducible refine Calls.mono (refput_any t.j _ HI2.out) ?_; rintro e v9 ⟨rfl, hb9⟩)
                have hS9 := And.intro (held_call hHeld.1 hb9) True.intro
                clear hHeld hb9
                refine hK.out _ _ ?_ (fun hHeld => ?_)
                · (try dsimp only)
                  (first | exact hS14 | exact hS9 | exact hS4 | exact ⟨held_drew HSC.out, True.intro⟩ | exact hHeld)
                clear hK K
                (try simp only [Act.put, List.setIfInBounds_toArray, List.set_cons_zero, List.set_cons_succ])
                refine take_at 10 74 h17_10 (v := ?_) (Or.inl ⟨by rfl, ?_⟩) ?_
                rotate_left 1
                · ((intro w hSw; (try dsimp only at hSw); unfold h17_10; go_simp) <;> with_reducible rfl)
                (try simp only [Act.put, List.setIfInBounds_toArray, List.set_cons_zero, List.set_cons_succ])
                refine take_at 11 5 h17_11 (v := ?_) (Or.inl ⟨by rfl, ?_⟩) ?_
                rotate_left 1
                · ((intro w hSw; (try dsimp only at hSw); unfold h17_11; go_simp) <;> with_reducible rfl)
                (try simp only [Act.put, List.setIfInBounds_toArray, List.set_cons_zero, List.set_cons_succ])
                refine wpAnyH_done (by kernel_rfl) ?_ _
                have HS := Lib.hid hHeld.1
                clear hHeld
                go_wp2_with fail
                go_meet
                case rel => exact ⟨by rw [(show (⟨#[32]⟩ : ByteArray) = ⟨[(32 : UInt8)].toArray⟩ from rfl)]; simp only [str_add]; rw [if_neg (by rw [HKK.out]; decide)]; unfold lvlL; rw [if_neg (by rw [HLV.out]; decide), if_pos HLV.out]; simp, HS⟩
              exact AllReadyH.nil
            exact AllReadyH.nil
          · have HKK := Lib.hid h
            have HLV := Lib.hid (show levelsN t.k = 2 by rw [h]; decide)
            have q23 : (t.k == 23) = false := by rw [h]; decide
            have q3 : (t.k == 3) = false := by rw [h]; decide
            have q4 : (t.k == 4) = true := by rw [h]; decide
            clear h
            have hs0 : ¬ 9223372036854775807 < c1.length + 1 := by have := HSY.out; have := HLI.out; have := HLJ.out; omega
            have hs1 : ¬ 9223372036854775807 < c1.length + 1 + (Lib.itoa t.i).length := by have := HSY.out; have := HLI.out; have := HLJ.out; omega
            have hs2 : ¬ 9223372036854775807 < c1.length + 1 + (Lib.itoa t.i).length + 1 := by have := HSY.out; have := HLI.out; have := HLJ.out; omega
            have hs3 : ¬ 9223372036854775807 < c1.length + 1 + (Lib.itoa t.i).length + 1 + (Lib.itoa t.j).length := by have := HSY.out; have := HLI.out; have := HLJ.out; omega
            go_wp2_with fail
            refine wp_region_held_drew (S := fun w' => Held w t (.slice a t.kids.length cap) w' ∧ True) (by kernel_rfl) ?_ (fun hHeld => ?_)
            · (try dsimp only)
              (first | exact hS14 | exact hS9 | exact hS4 | exact ⟨held_drew HSC.out, True.intro⟩ | exact hHeld)
            refine take_at 0 64 h17_0 (v := ?_) (Or.inl ⟨by rfl, ?_⟩) ?_
            rotate_left 1
            · ((intro w hSw; (try dsimp only at hSw); unfold h17_0; go_simp) <;> with_reducible rfl)
            (try simp only [Act.put, List.setIfInBounds_toArray, List.set_cons_zero, List.set_cons_succ])
            refine take_at 1 65 h17_1 (v := ?_) (Or.inl ⟨by rfl, ?_⟩) ?_
            rotate_left 1
            · ((intro w hSw; (try dsimp only at hSw); unfold h17_1; go_simp) <;> with_reducible rfl)
            (try simp only [Act.put, List.setIfInBounds_toArray, List.set_cons_zero, List.set_cons_succ])
            refine take_at 2 66 h17_2 (v := ?_) (Or.inl ⟨by rfl, ?_⟩) ?_
            rotate_left 1
            · ((intro w hSw; (try dsimp only at hSw); unfold h17_2; go_simp) <;> with_reducible rfl)
            (try simp only [Act.put, List.setIfInBounds_toArray, List.set_cons_zero, List.set_cons_succ])
            refine take_at 3 67 h17_3 (v := ?_) (Or.inl ⟨by rfl, ?_⟩) ?_
            rotate_left 1
            · ((intro w hSw; (try dsimp only at hSw); (first | (have yy := held_cells hSw.1) | (have yy := held_cells hSw.1)); obtain ⟨y0, y1, y2, y3, y4⟩ := yy; have yc := hSw.2; unfold h17_3; go_simp) <;> with_reducible rfl)
            (try simp only [Act.put, List.setIfInBounds_toArray, List.set_cons_zero, List.set_cons_succ])
            refine take_at 7 71 h17_7 (v := ?_) (Or.inl ⟨by rfl, ?_⟩) ?_
            rotate_left 1
            · ((intro w hSw; (try dsimp only at hSw); unfold h17_7; go_simp) <;> with_reducible rfl)
            (try simp only [Act.put, List.setIfInBounds_toArray, List.set_cons_zero, List.set_cons_succ])
            refine take_at 8 72 h17_8 (v := ?_) (Or.inl ⟨by rfl, ?_⟩) ?_
            rotate_left 1
            · ((intro w hSw; (try dsimp only at hSw); (first | (have yy := held_cells hSw.1) | (have yy := held_cells hSw.1)); obtain ⟨y0, y1, y2, y3, y4⟩ := yy; have yc := hSw.2; unfold h17_8; go_simp) <;> with_reducible rfl)
            (try simp only [Act.put, List.setIfInBounds_toArray, List.set_cons_zero, List.set_cons_succ])
            refine wpAnyH_ready (rs := [4]) (by kernel_rfl) (by simp) ?_
            refine AllReadyH.cons (o := h17_4) rfl (fun K hK => ?_) ?_
            · unfold h17_4
              go_simp
              (go_at_call 27; with_reducible refine Calls.mono (refput_any t.i _ HI1.out) ?_; rintro e v4 ⟨rfl, hb4⟩)
              have hS4 := And.intro (held_call hHeld.1 hb4) True.intro
              clear hHeld hb4
              refine hK.out _ _ ?_ (fun hHeld => ?_)
              · (try dsimp only)
                (first | exact hS14 | exact hS9 | exact hS4 | exact ⟨held_drew HSC.out, True.intro⟩ | exact hHeld)
              clear hK K
              (try simp only [Act.put, List.setIfInBounds_toArray, List.set_cons_zero, List.set_cons_succ])
              refine take_at 5 69 h17_5 (v := ?_) (Or.inl ⟨by rfl, ?_⟩) ?_
              rotate_left 1
              · ((intro w hSw; (try dsimp only at hSw); unfold h17_5; go_simp) <;> with_reducible rfl)
              (try simp only [Act.put, List.setIfInBounds_toArray, List.set_cons_zero, List.set_cons_succ])
              refine take_at 6 70 h17_6 (v := ?_) (Or.inl ⟨by rfl, ?_⟩) ?_
              rotate_left 1
              · ((intro w hSw; (try dsimp only at hSw); unfold h17_6; go_simp) <;> with_reducible rfl)
              (try simp only [Act.put, List.setIfInBounds_toArray, List.set_cons_zero, List.set_cons_succ])
              refine wpAnyH_ready (rs := [9]) (by kernel_rfl) (by simp) ?_
              refine AllReadyH.cons (o := h17_9) rfl (fun K hK => ?_) ?_
              · unfold h17_9
                go_simp
                (go_at_call 27; with_reducible refine Calls.mono (refput_any t.j _ HI2.out) ?_; rintro e v9 ⟨rfl, hb9⟩)
                have hS9 := And.intro (held_call hHeld.1 hb9) True.intro
                clear hHeld hb9
                refine hK.out _ _ ?_ (fun hHeld => ?_)
                · (try dsimp only)
                  (first | exact hS14 | exact hS9 | exact hS4 | exact ⟨held_drew HSC.out, True.intro⟩ | exact hHeld)
                clear hK K
                (try simp only [Act.put, List.setIfInBounds_toArray, List.set_cons_zero, List.set_cons_succ])
                refine take_at 10 74 h17_10 (v := ?_) (Or.inl ⟨by rfl, ?_⟩) ?_
                rotate_left 1
                · ((intro w hSw; (try dsimp only at hSw); unfold h17_10; go_simp) <;> with_reducible rfl)
                (try simp only [Act.put, List.setIfInBounds_toArray, List.set_cons_zero, List.set_cons_succ])
                refine take_at 11 5 h17_11 (v := ?_) (Or.inl ⟨by rfl, ?_⟩) ?_
                rotate_left 1
                · ((intro w hSw; (try dsimp only at hSw); unfold h17_11; go_simp) <;> with_reducible rfl)
                (try simp only [Act.put, List.setIfInBounds_toArray, List.set_cons_zero, List.set_cons_succ])
                refine wpAnyH_done (by kernel_rfl) ?_ _
                have HS := Lib.hid hHeld.1
                clear hHeld
                go_wp2_with fail
                go_meet
                case rel => exact ⟨by rw [(show (⟨#[32]⟩ : ByteArray) = ⟨[(32 : UInt8)].toArray⟩ from rfl)]; simp only [str_add]; rw [if_neg (by rw [HKK.out]; decide)]; unfold lvlL; rw [if_neg (by rw [HLV.out]; decide), if_pos HLV.out]; simp, HS⟩
              exact AllReadyH.nil
            exact AllReadyH.nil
          · have HKK := Lib.hid h
            have HLV := Lib.hid (show levelsN t.k = 2 by rw [h]; decide)
            have q23 : (t.k == 23) = false := by rw [h]; decide
            have q3 : (t.k == 3) = false := by rw [h]; decide
            have q4 : (t.k == 4) = false := by rw [h]; decide
            have q5 : (t.k == 5) = true := by rw [h]; decide
            clear h
            have hs0 : ¬ 9223372036854775807 < c1.length + 1 := by have := HSY.out; have := HLI.out; have := HLJ.out; omega
            have hs1 : ¬ 9223372036854775807 < c1.length + 1 + (Lib.itoa t.i).length := by have := HSY.out; have := HLI.out; have := HLJ.out; omega
            have hs2 : ¬ 9223372036854775807 < c1.length + 1 + (Lib.itoa t.i).length + 1 := by have := HSY.out; have := HLI.out; have := HLJ.out; omega
            have hs3 : ¬ 9223372036854775807 < c1.length + 1 + (Lib.itoa t.i).length + 1 + (Lib.itoa t.j).length := by have := HSY.out; have := HLI.out; have := HLJ.out; omega
            go_wp2_with fail
            refine wp_region_held_drew (S := fun w' => Held w t (.slice a t.kids.length cap) w' ∧ True) (by kernel_rfl) ?_ (fun hHeld => ?_)
            · (try dsimp only)
              (first | exact hS14 | exact hS9 | exact hS4 | exact ⟨held_drew HSC.out, True.intro⟩ | exact hHeld)
            refine take_at 0 64 h17_0 (v := ?_) (Or.inl ⟨by rfl, ?_⟩) ?_
            rotate_left 1
            · ((intro w hSw; (try dsimp only at hSw); unfold h17_0; go_simp) <;> with_reducible rfl)
            (try simp only [Act.put, List.setIfInBounds_toArray, List.set_cons_zero, List.set_cons_succ])
            refine take_at 1 65 h17_1 (v := ?_) (Or.inl ⟨by rfl, ?_⟩) ?_
            rotate_left 1
            · ((intro w hSw; (try dsimp only at hSw); unfold h17_1; go_simp) <;> with_reducible rfl)
            (try simp only [Act.put, List.setIfInBounds_toArray, List.set_cons_zero, List.set_cons_succ])
            refine take_at 2 66 h17_2 (v := ?_) (Or.inl ⟨by rfl, ?_⟩) ?_
            rotate_left 1
            · ((intro w hSw; (try dsimp only at hSw); unfold h17_2; go_simp) <;> with_reducible rfl)
            (try simp only [Act.put, List.setIfInBounds_toArray, List.set_cons_zero, List.set_cons_succ])
            refine take_at 3 67 h17_3 (v := ?_) (Or.inl ⟨by rfl, ?_⟩) ?_
            rotate_left 1
            · ((intro w hSw; (try dsimp only at hSw); (first | (have yy := held_cells hSw.1) | (have yy := held_cells hSw.1)); obtain ⟨y0, y1, y2, y3, y4⟩ := yy; have yc := hSw.2; unfold h17_3; go_simp) <;> with_reducible rfl)
            (try simp only [Act.put, List.setIfInBounds_toArray, List.set_cons_zero, List.set_cons_succ])
            refine take_at 7 71 h17_7 (v := ?_) (Or.inl ⟨by rfl, ?_⟩) ?_
            rotate_left 1
            · ((intro w hSw; (try dsimp only at hSw); unfold h17_7; go_simp) <;> with_reducible rfl)
            (try simp only [Act.put, List.setIfInBounds_toArray, List.set_cons_zero, List.set_cons_succ])
            refine take_at 8 72 h17_8 (v := ?_) (Or.inl ⟨by rfl, ?_⟩) ?_
            rotate_left 1
            · ((intro w hSw; (try dsimp only at hSw); (first | (have yy := held_cells hSw.1) | (have yy := held_cells hSw.1)); obtain ⟨y0, y1, y2, y3, y4⟩ := yy; have yc := hSw.2; unfold h17_8; go_simp) <;> with_reducible rfl)
            (try simp only [Act.put, List.setIfInBounds_toArray, List.set_cons_zero, List.set_cons_succ])
            refine wpAnyH_ready (rs := [4]) (by kernel_rfl) (by simp) ?_
            refine AllReadyH.cons (o := h17_4) rfl (fun K hK => ?_) ?_
            · unfold h17_4
              go_simp
              (go_at_call 27; with_reducible refine Calls.mono (refput_any t.i _ HI1.out) ?_; rintro e v4 ⟨rfl, hb4⟩)
              have hS4 := And.intro (held_call hHeld.1 hb4) True.intro
              clear hHeld hb4
              refine hK.out _ _ ?_ (fun hHeld => ?_)
              · (try dsimp only)
                (first | exact hS14 | exact hS9 | exact hS4 | exact ⟨held_drew HSC.out, True.intro⟩ | exact hHeld)
              clear hK K
              (try simp only [Act.put, List.setIfInBounds_toArray, List.set_cons_zero, List.set_cons_succ])
              refine take_at 5 69 h17_5 (v := ?_) (Or.inl ⟨by rfl, ?_⟩) ?_
              rotate_left 1
              · ((intro w hSw; (try dsimp only at hSw); unfold h17_5; go_simp) <;> with_reducible rfl)
              (try simp only [Act.put, List.setIfInBounds_toArray, List.set_cons_zero, List.set_cons_succ])
              refine take_at 6 70 h17_6 (v := ?_) (Or.inl ⟨by rfl, ?_⟩) ?_
              rotate_left 1
              · ((intro w hSw; (try dsimp only at hSw); unfold h17_6; go_simp) <;> with_reducible rfl)
              (try simp only [Act.put, List.setIfInBounds_toArray, List.set_cons_zero, List.set_cons_succ])
              refine wpAnyH_ready (rs := [9]) (by kernel_rfl) (by simp) ?_
              refine AllReadyH.cons (o := h17_9) rfl (fun K hK => ?_) ?_
              · unfold h17_9
                go_simp
                (go_at_call 27; with_reducible refine Calls.mono (refput_any t.j _ HI2.out) ?_; rintro e v9 ⟨rfl, hb9⟩)
                have hS9 := And.intro (held_call hHeld.1 hb9) True.intro
                clear hHeld hb9
                refine hK.out _ _ ?_ (fun hHeld => ?_)
                · (try dsimp only)
                  (first | exact hS14 | exact hS9 | exact hS4 | exact ⟨held_drew HSC.out, True.intro⟩ | exact hHeld)
                clear hK K
                (try simp only [Act.put, List.setIfInBounds_toArray, List.set_cons_zero, List.set_cons_succ])
                refine take_at 10 74 h17_10 (v := ?_) (Or.inl ⟨by rfl, ?_⟩) ?_
                rotate_left 1
                · ((intro w hSw; (try dsimp only at hSw); unfold h17_10; go_simp) <;> with_reducible rfl)
                (try simp only [Act.put, List.setIfInBounds_toArray, List.set_cons_zero, List.set_cons_succ])
                refine take_at 11 5 h17_11 (v := ?_) (Or.inl ⟨by rfl, ?_⟩) ?_
                rotate_left 1
                · ((intro w hSw; (try dsimp only at hSw); unfold h17_11; go_simp) <;> with_reducible rfl)
                (try simp only [Act.put, List.setIfInBounds_toArray, List.set_cons_zero, List.set_cons_succ])
                refine wpAnyH_done (by kernel_rfl) ?_ _
                have HS := Lib.hid hHeld.1
                clear hHeld
                go_wp2_with fail
                go_meet
                case rel => exact ⟨by rw [(show (⟨#[32]⟩ : ByteArray) = ⟨[(32 : UInt8)].toArray⟩ from rfl)]; simp only [str_add]; rw [if_neg (by rw [HKK.out]; decide)]; unfold lvlL; rw [if_neg (by rw [HLV.out]; decide), if_pos HLV.out]; simp, HS⟩
              exact AllReadyH.nil
            exact AllReadyH.nil
          · have HKK := Lib.hid h
            have HLV := Lib.hid (show levelsN t.k = 2 by rw [h]; decide)
            have q23 : (t.k == 23) = false := by rw [h]; decide
            have q3 : (t.k == 3) = false := by rw [h]; decide
            have q4 : (t.k == 4) = false := by rw [h]; decide
            have q5 : (t.k == 5) = false := by rw [h]; decide
            have q6 : (t.k == 6) = true := by rw [h]; decide
            clear h
            have hs0 : ¬ 9223372036854775807 < c1.length + 1 := by have := HSY.out; have := HLI.out; have := HLJ.out; omega
            have hs1 : ¬ 9223372036854775807 < c1.length + 1 + (Lib.itoa t.i).length := by have := HSY.out; have := HLI.out; have := HLJ.out; omega
            have hs2 : ¬ 9223372036854775807 < c1.length + 1 + (Lib.itoa t.i).length + 1 := by have := HSY.out; have := HLI.out; have := HLJ.out; omega
            have hs3 : ¬ 9223372036854775807 < c1.length + 1 + (Lib.itoa t.i).length + 1 + (Lib.itoa t.j).length := by have := HSY.out; have := HLI.out; have := HLJ.out; omega
            go_wp2_with fail
            refine wp_region_held_drew (S := fun w' => Held w t (.slice a t.kids.length cap) w' ∧ True) (by kernel_rfl) ?_ (fun hHeld => ?_)
            · (try dsimp only)
              (first | exact hS14 | exact hS9 | exact hS4 | exact ⟨held_drew HSC.out, True.intro⟩ | exact hHeld)
            refine take_at 0 64 h17_0 (v := ?_) (Or.inl ⟨by rfl, ?_⟩) ?_
            rotate_left 1
            · ((intro w hSw; (try dsimp only at hSw); unfold h17_0; go_simp) <;> with_reducible rfl)
            (try simp only [Act.put, List.setIfInBounds_toArray, List.set_cons_zero, List.set_cons_succ])
            refine take_at 1 65 h17_1 (v := ?_) (Or.inl ⟨by rfl, ?_⟩) ?_
            rotate_left 1
            · ((intro w hSw; (try dsimp only at hSw); unfold h17_1; go_simp) <;> with_reducible rfl)
            (try simp only [Act.put, List.setIfInBounds_toArray, List.set_cons_zero, List.set_cons_succ])
            refine take_at 2 66 h17_2 (v := ?_) (Or.inl ⟨by rfl, ?_⟩) ?_
            rotate_left 1
            · ((intro w hSw; (try dsimp only at hSw); unfold h17_2; go_simp) <;> with_reducible rfl)
            (try simp only [Act.put, List.setIfInBounds_toArray, List.set_cons_zero, List.set_cons_succ])
            refine take_at 3 67 h17_3 (v := ?_) (Or.inl ⟨by rfl, ?_⟩) ?_
            rotate_left 1
            · ((intro w hSw; (try dsimp only at hSw); (first | (have yy := held_cells hSw.1) | (have yy := held_cells hSw.1)); obtain ⟨y0, y1, y2, y3, y4⟩ := yy; have yc := hSw.2; unfold h17_3; go_simp) <;> with_reducible rfl)
            (try simp only [Act.put, List.setIfInBounds_toArray, List.set_cons_zero, List.set_cons_succ])
            refine take_at 7 71 h17_7 (v := ?_) (Or.inl ⟨by rfl, ?_⟩) ?_
            rotate_left 1
            · ((intro w hSw; (try dsimp only at hSw); unfold h17_7; go_simp) <;> with_reducible rfl)
            (try simp only [Act.put, List.setIfInBounds_toArray, List.set_cons_zero, List.set_cons_succ])
            refine take_at 8 72 h17_8 (v := ?_) (Or.inl ⟨by rfl, ?_⟩) ?_
            rotate_left 1
            · ((intro w hSw; (try dsimp only at hSw); (first | (have yy := held_cells hSw.1) | (have yy := held_cells hSw.1)); obtain ⟨y0, y1, y2, y3, y4⟩ := yy; have yc := hSw.2; unfold h17_8; go_simp) <;> with_reducible rfl)
            (try simp only [Act.put, List.setIfInBounds_toArray, List.set_cons_zero, List.set_cons_succ])
            refine wpAnyH_ready (rs := [4]) (by kernel_rfl) (by simp) ?_
            refine AllReadyH.cons (o := h17_4) rfl (fun K hK => ?_) ?_
            · unfold h17_4
              go_simp
              (go_at_call 27; with_reducible refine Calls.mono (refput_any t.i _ HI1.out) ?_; rintro e v4 ⟨rfl, hb4⟩)
              have hS4 := And.intro (held_call hHeld.1 hb4) True.intro
              clear hHeld hb4
              refine hK.out _ _ ?_ (fun hHeld => ?_)
              · (try dsimp only)
                (first | exact hS14 | exact hS9 | exact hS4 | exact ⟨held_drew HSC.out, True.intro⟩ | exact hHeld)
              clear hK K
              (try simp only [Act.put, List.setIfInBounds_toArray, List.set_cons_zero, List.set_cons_succ])
              refine take_at 5 69 h17_5 (v := ?_) (Or.inl ⟨by rfl, ?_⟩) ?_
              rotate_left 1
              · ((intro w hSw; (try dsimp only at hSw); unfold h17_5; go_simp) <;> with_reducible rfl)
              (try simp only [Act.put, List.setIfInBounds_toArray, List.set_cons_zero, List.set_cons_succ])
              refine take_at 6 70 h17_6 (v := ?_) (Or.inl ⟨by rfl, ?_⟩) ?_
              rotate_left 1
              · ((intro w hSw; (try dsimp only at hSw); unfold h17_6; go_simp) <;> with_reducible rfl)
              (try simp only [Act.put, List.setIfInBounds_toArray, List.set_cons_zero, List.set_cons_succ])
              refine wpAnyH_ready (rs := [9]) (by kernel_rfl) (by simp) ?_
              refine AllReadyH.cons (o := h17_9) rfl (fun K hK => ?_) ?_
              · unfold h17_9
                go_simp
                (go_at_call 27; with_reducible refine Calls.mono (refput_any t.j _ HI2.out) ?_; rintro e v9 ⟨rfl, hb9⟩)
                have hS9 := And.intro (held_call hHeld.1 hb9) True.intro
                clear hHeld hb9
                refine hK.out _ _ ?_ (fun hHeld => ?_)
                · (try dsimp only)
                  (first | exact hS14 | exact hS9 | exact hS4 | exact ⟨held_drew HSC.out, True.intro⟩ | exact hHeld)
                clear hK K
                (try simp only [Act.put, List.setIfInBounds_toArray, List.set_cons_zero, List.set_cons_succ])
                refine take_at 10 74 h17_10 (v := ?_) (Or.inl ⟨by rfl, ?_⟩) ?_
                rotate_left 1
                · ((intro w hSw; (try dsimp only at hSw); unfold h17_10; go_simp) <;> with_reducible rfl)
                (try simp only [Act.put, List.setIfInBounds_toArray, List.set_cons_zero, List.set_cons_succ])
                refine take_at 11 5 h17_11 (v := ?_) (Or.inl ⟨by rfl, ?_⟩) ?_
                rotate_left 1
                · ((intro w hSw; (try dsimp only at hSw); unfold h17_11; go_simp) <;> with_reducible rfl)
                (try simp only [Act.put, List.setIfInBounds_toArray, List.set_cons_zero, List.set_cons_succ])
                refine wpAnyH_done (by kernel_rfl) ?_ _
                have HS := Lib.hid hHeld.1
                clear hHeld
                go_wp2_with fail
                go_meet
                case rel => exact ⟨by rw [(show (⟨#[32]⟩ : ByteArray) = ⟨[(32 : UInt8)].toArray⟩ from rfl)]; simp only [str_add]; rw [if_neg (by rw [HKK.out]; decide)]; unfold lvlL; rw [if_neg (by rw [HLV.out]; decide), if_pos HLV.out]; simp, HS⟩
              exact AllReadyH.nil
            exact AllReadyH.nil
          · have HKK := Lib.hid h
            have HLV := Lib.hid (show levelsN t.k = 2 by rw [h]; decide)
            have q23 : (t.k == 23) = false := by rw [h]; decide
            have q3 : (t.k == 3) = false := by rw [h]; decide
            have q4 : (t.k == 4) = false := by rw [h]; decide
            have q5 : (t.k == 5) = false := by rw [h]; decide
            have q6 : (t.k == 6) = false := by rw [h]; decide
            have q7 : (t.k == 7) = true := by rw [h]; decide
            clear h
            have hs0 : ¬ 9223372036854775807 < c1.length + 1 := by have := HSY.out; have := HLI.out; have := HLJ.out; omega
            have hs1 : ¬ 9223372036854775807 < c1.length + 1 + (Lib.itoa t.i).length := by have := HSY.out; have := HLI.out; have := HLJ.out; omega
            have hs2 : ¬ 9223372036854775807 < c1.length + 1 + (Lib.itoa t.i).length + 1 := by have := HSY.out; have := HLI.out; have := HLJ.out; omega
            have hs3 : ¬ 9223372036854775807 < c1.length + 1 + (Lib.itoa t.i).length + 1 + (Lib.itoa t.j).length := by have := HSY.out; have := HLI.out; have := HLJ.out; omega
            go_wp2_with fail
            refine wp_region_held_drew (S := fun w' => Held w t (.slice a t.kids.length cap) w' ∧ True) (by kernel_rfl) ?_ (fun hHeld => ?_)
            · (try dsimp only)
              (first | exact hS14 | exact hS9 | exact hS4 | exact ⟨held_drew HSC.out, True.intro⟩ | exact hHeld)
            refine take_at 0 64 h17_0 (v := ?_) (Or.inl ⟨by rfl, ?_⟩) ?_
            rotate_left 1
            · ((intro w hSw; (try dsimp only at hSw); unfold h17_0; go_simp) <;> with_reducible rfl)
            (try simp only [Act.put, List.setIfInBounds_toArray, List.set_cons_zero, List.set_cons_succ])
            refine take_at 1 65 h17_1 (v := ?_) (Or.inl ⟨by rfl, ?_⟩) ?_
            rotate_left 1
            · ((intro w hSw; (try dsimp only at hSw); unfold h17_1; go_simp) <;> with_reducible rfl)
            (try simp only [Act.put, List.setIfInBounds_toArray, List.set_cons_zero, List.set_cons_succ])
            refine take_at 2 66 h17_2 (v := ?_) (Or.inl ⟨by rfl, ?_⟩) ?_
            rotate_left 1
            · ((intro w hSw; (try dsimp only at hSw); unfold h17_2; go_simp) <;> with_reducible rfl)
            (try simp only [Act.put, List.setIfInBounds_toArray, List.set_cons_zero, List.set_cons_succ])
            refine take_at 3 67 h17_3 (v := ?_) (Or.inl ⟨by rfl, ?_⟩) ?_
            rotate_left 1
            · ((intro w hSw; (try dsimp only at hSw); (first | (have yy := held_cells hSw.1) | (have yy := held_cells hSw.1)); obtain ⟨y0, y1, y2, y3, y4⟩ := yy; have yc := hSw.2; unfold h17_3; go_simp) <;> with_reducible rfl)
            (try simp only [Act.put, List.setIfInBounds_toArray, List.set_cons_zero, List.set_cons_succ])
            refine take_at 7 71 h17_7 (v := ?_) (Or.inl ⟨by rfl, ?_⟩) ?_
            rotate_left 1
            · ((intro w hSw; (try dsimp only at hSw); unfold h17_7; go_simp) <;> with_reducible rfl)
            (try simp only [Act.put, List.setIfInBounds_toArray, List.set_cons_zero, List.set_cons_succ])
            refine take_at 8 72 h17_8 (v := ?_) (Or.inl ⟨by rfl, ?_⟩) ?_
            rotate_left 1
            · ((intro w hSw; (try dsimp only at hSw); (first | (have yy := held_cells hSw.1) | (have yy := held_cells hSw.1)); obtain ⟨y0, y1, y2, y3, y4⟩ := yy; have yc := hSw.2; unfold h17_8; go_simp) <;> with_reducible rfl)
            (try simp only [Act.put, List.setIfInBounds_toArray, List.set_cons_zero, List.set_cons_succ])
            refine wpAnyH_ready (rs := [4]) (by kernel_rfl) (by simp) ?_
            refine AllReadyH.cons (o := h17_4) rfl (fun K hK => ?_) ?_
            · unfold h17_4
              go_simp
              (go_at_call 27; with_reducible refine Calls.mono (refput_any t.i _ HI1.out) ?_; rintro e v4 ⟨rfl, hb4⟩)
              have hS4 := And.intro (held_call hHeld.1 hb4) True.intro
              clear hHeld hb4
              refine hK.out _ _ ?_ (fun hHeld => ?_)
              · (try dsimp only)
                (first | exact hS14 | exact hS9 | exact hS4 | exact ⟨held_drew HSC.out, True.intro⟩ | exact hHeld)
              clear hK K
              (try simp only [Act.put, List.setIfInBounds_toArray, List.set_cons_zero, List.set_cons_succ])
              refine take_at 5 69 h17_5 (v := ?_) (Or.inl ⟨by rfl, ?_⟩) ?_
              rotate_left 1
              · ((intro w hSw; (try dsimp only at hSw); unfold h17_5; go_simp) <;> with_reducible rfl)
              (try simp only [Act.put, List.setIfInBounds_toArray, List.set_cons_zero, List.set_cons_succ])
              refine take_at 6 70 h17_6 (v := ?_) (Or.inl ⟨by rfl, ?_⟩) ?_
              rotate_left 1
              · ((intro w hSw; (try dsimp only at hSw); unfold h17_6; go_simp) <;> with_reducible rfl)
              (try simp only [Act.put, List.setIfInBounds_toArray, List.set_cons_zero, List.set_cons_succ])
              refine wpAnyH_ready (rs := [9]) (by kernel_rfl) (by simp) ?_
              refine AllReadyH.cons (o := h17_9) rfl (fun K hK => ?_) ?_
              · unfold h17_9
                go_simp
                (go_at_call 27; with_reducible refine Calls.mono (refput_any t.j _ HI2.out) ?_; rintro e v9 ⟨rfl, hb9⟩)
                have hS9 := And.intro (held_call hHeld.1 hb9) True.intro
                clear hHeld hb9
                refine hK.out _ _ ?_ (fun hHeld => ?_)
                · (try dsimp only)
                  (first | exact hS14 | exact hS9 | exact hS4 | exact ⟨held_drew HSC.out, True.intro⟩ | exact hHeld)
                clear hK K
                (try simp only [Act.put, List.setIfInBounds_toArray, List.set_cons_zero, List.set_cons_succ])
                refine take_at 10 74 h17_10 (v := ?_) (Or.inl ⟨by rfl, ?_⟩) ?_
                rotate_left 1
                · ((intro w hSw; (try dsimp only at hSw); unfold h17_10; go_simp) <;> with_reducible rfl)
                (try simp only [Act.put, List.setIfInBounds_toArray, List.set_cons_zero, List.set_cons_succ])
                refine take_at 11 5 h17_11 (v := ?_) (Or.inl ⟨by rfl, ?_⟩) ?_
                rotate_left 1
                · ((intro w hSw; (try dsimp only at hSw); unfold h17_11; go_simp) <;> with_reducible rfl)
                (try simp only [Act.put, List.setIfInBounds_toArray, List.set_cons_zero, List.set_cons_succ])
                refine wpAnyH_done (by kernel_rfl) ?_ _
                have HS := Lib.hid hHeld.1
                clear hHeld
                go_wp2_with fail
                go_meet
                case rel => exact ⟨by rw [(show (⟨#[32]⟩ : ByteArray) = ⟨[(32 : UInt8)].toArray⟩ from rfl)]; simp only [str_add]; rw [if_neg (by rw [HKK.out]; decide)]; unfold lvlL; rw [if_neg (by rw [HLV.out]; decide), if_pos HLV.out]; simp, HS⟩
              exact AllReadyH.nil
            exact AllReadyH.nil
          · have HKK := Lib.hid h
            have HLV := Lib.hid (show levelsN t.k = 2 by rw [h]; decide)
            have q23 : (t.k == 23) = false := by rw [h]; decide
            have q3 : (t.k == 3) = false := by rw [h]; decide
            have q4 : (t.k == 4) = false := by rw [h]; decide
            have q5 : (t.k == 5) = false := by rw [h]; decide
            have q6 : (t.k == 6) = false := by rw [h]; decide
            have q7 : (t.k == 7) = false := by rw [h]; decide
            have q8 : (t.k == 8) = true := by rw [h]; decide
            clear h
            have hs0 : ¬ 9223372036854775807 < c1.length + 1 := by have := HSY.out; have := HLI.out; have := HLJ.out; omega
            have hs1 : ¬ 9223372036854775807 < c1.length + 1 + (Lib.itoa t.i).length := by have := HSY.out; have := HLI.out; have := HLJ.out; omega
            have hs2 : ¬ 9223372036854775807 < c1.length + 1 + (Lib.itoa t.i).length + 1 := by have := HSY.out; have := HLI.out; have := HLJ.out; omega
            have hs3 : ¬ 9223372036854775807 < c1.length + 1 + (Lib.itoa t.i).length + 1 + (Lib.itoa t.j).length := by have := HSY.out; have := HLI.out; have := HLJ.out; omega
            go_wp2_with fail
            refine wp_region_held_drew (S := fun w' => Held w t (.slice a t.kids.length cap) w' ∧ True) (by kernel_rfl) ?_ (fun hHeld => ?_)
            · (try dsimp only)
              (first | exact hS14 | exact hS9 | exact hS4 | exact ⟨held_drew HSC.out, True.intro⟩ | exact hHeld)
            refine take_at 0 64 h17_0 (v := ?_) (Or.inl ⟨by rfl, ?_⟩) ?_
            rotate_left 1
            · ((intro w hSw; (try dsimp only at hSw); unfold h17_0; go_simp) <;> with_reducible rfl)
            (try simp only [Act.put, List.setIfInBounds_toArray, List.set_cons_zero, List.set_cons_succ])
            refine take_at 1 65 h17_1 (v := ?_) (Or.inl ⟨by rfl, ?_⟩) ?_
            rotate_left 1
            · ((intro w hSw; (try dsimp only at hSw); unfold h17_1; go_simp) <;> with_reducible rfl)
            (try simp only [Act.put, List.setIfInBounds_toArray, List.set_cons_zero, List.set_cons_succ])
            refine take_at 2 66 h17_2 (v := ?_) (Or.inl ⟨by rfl, ?_⟩) ?_
            rotate_left 1
            · ((intro w hSw; (try dsimp only at hSw); unfold h17_2; go_simp) <;> with_reducible rfl)
            (try simp only [Act.put, List.setIfInBounds_toArray, List.set_cons_zero, List.set_cons_succ])
            refine take_at 3 67 h17_3 (v := ?_) (Or.inl ⟨by rfl, ?_⟩) ?_
            rotate_left 1
            · ((intro w hSw; (try dsimp only at hSw); (first | (have yy := held_cells hSw.1) | (have yy := held_cells hSw.1)); obtain ⟨y0, y1, y2, y3, y4⟩ := yy; have yc := hSw.2; unfold h17_3; go_simp) <;> with_reducible rfl)
            (try simp only [Act.put, List.setIfInBounds_toArray, List.set_cons_zero, List.set_cons_succ])
            refine take_at 7 71 h17_7 (v := ?_) (Or.inl ⟨by rfl, ?_⟩) ?_
            rotate_left 1
            · ((intro w hSw; (try dsimp only at hSw); unfold h17_7; go_simp) <;> with_reducible rfl)
            (try simp only [Act.put, List.setIfInBounds_toArray, List.set_cons_zero, List.set_cons_succ])
            refine take_at 8 72 h17_8 (v := ?_) (Or.inl ⟨by rfl, ?_⟩) ?_
            rotate_left 1
            · ((intro w hSw; (try dsimp only at hSw); (first | (have yy := held_cells hSw.1) | (have yy := held_cells hSw.1)); obtain ⟨y0, y1, y2, y3, y4⟩ := yy; have yc := hSw.2; unfold h17_8; go_simp) <;> with_reducible rfl)
            (try simp only [Act.put, List.setIfInBounds_toArray, List.set_cons_zero, List.set_cons_succ])
            refine wpAnyH_ready (rs := [4]) (by kernel_rfl) (by simp) ?_
            refine AllReadyH.cons (o := h17_4) rfl (fun K hK => ?_) ?_
            · unfold h17_4
              go_simp
              (go_at_call 27; with_reducible refine Calls.mono (refput_any t.i _ HI1.out) ?_; rintro e v4 ⟨rfl, hb4⟩)
              have hS4 := And.intro (held_call hHeld.1 hb4) True.intro
              clear hHeld hb4
              refine hK.out _ _ ?_ (fun hHeld => ?_)
              · (try dsimp only)
                (first | exact hS14 | exact hS9 | exact hS4 | exact ⟨held_drew HSC.out, True.intro⟩ | exact hHeld)
              clear hK K
              (try simp only [Act.put, List.setIfInBounds_toArray, List.set_cons_zero, List.set_cons_succ])
              refine take_at 5 69 h17_5 (v := ?_) (Or.inl ⟨by rfl, ?_⟩) ?_
              rotate_left 1
              · ((intro w hSw; (try dsimp only at hSw); unfold h17_5; go_simp) <;> with_reducible rfl)
              (try simp only [Act.put, List.setIfInBounds_toArray, List.set_cons_zero, List.set_cons_succ])
              refine take_at 6 70 h17_6 (v := ?_) (Or.inl ⟨by rfl, ?_⟩) ?_
              rotate_left 1
              · ((intro w hSw; (try dsimp only at hSw); unfold h17_6; go_simp) <;> with_reducible rfl)
              (try simp only [Act.put, List.setIfInBounds_toArray, List.set_cons_zero, List.set_cons_succ])
              refine wpAnyH_ready (rs := [9]) (by kernel_rfl) (by simp) ?_
              refine AllReadyH.cons (o := h17_9) rfl (fun K hK => ?_) ?_
              · unfold h17_9
                go_simp
                (go_at_call 27; with_reducible refine Calls.mono (refput_any t.j _ HI2.out) ?_; rintro e v9 ⟨rfl, hb9⟩)
                have hS9 := And.intro (held_call hHeld.1 hb9) True.intro
                clear hHeld hb9
                refine hK.out _ _ ?_ (fun hHeld => ?_)
                · (try dsimp only)
                  (first | exact hS14 | exact hS9 | exact hS4 | exact ⟨held_drew HSC.out, True.intro⟩ | exact hHeld)
                clear hK K
                (try simp only [Act.put, List.setIfInBounds_toArray, List.set_cons_zero, List.set_cons_succ])
                refine take_at 10 74 h17_10 (v := ?_) (Or.inl ⟨by rfl, ?_⟩) ?_
                rotate_left 1
                · ((intro w hSw; (try dsimp only at hSw); unfold h17_10; go_simp) <;> with_reducible rfl)
                (try simp only [Act.put, List.setIfInBounds_toArray, List.set_cons_zero, List.set_cons_succ])
                refine take_at 11 5 h17_11 (v := ?_) (Or.inl ⟨by rfl, ?_⟩) ?_
                rotate_left 1
                · ((intro w hSw; (try dsimp only at hSw); unfold h17_11; go_simp) <;> with_reducible rfl)
                (try simp only [Act.put, List.setIfInBounds_toArray, List.set_cons_zero, List.set_cons_succ])
                refine wpAnyH_done (by kernel_rfl) ?_ _
                have HS := Lib.hid hHeld.1
                clear hHeld
                go_wp2_with fail
                go_meet
                case rel => exact ⟨by rw [(show (⟨#[32]⟩ : ByteArray) = ⟨[(32 : UInt8)].toArray⟩ from rfl)]; simp only [str_add]; rw [if_neg (by rw [HKK.out]; decide)]; unfold lvlL; rw [if_neg (by rw [HLV.out]; decide), if_pos HLV.out]; simp, HS⟩
              exact AllReadyH.nil
            exact AllReadyH.nil
          · have HKK := Lib.hid h
            have HLV := Lib.hid (show levelsN t.k = 2 by rw [h]; decide)
            have q23 : (t.k == 23) = false := by rw [h]; decide
            have q3 : (t.k == 3) = false := by rw [h]; decide
            have q4 : (t.k == 4) = false := by rw [h]; decide
            have q5 : (t.k == 5) = false := by rw [h]; decide
            have q6 : (t.k == 6) = false := by rw [h]; decide
            have q7 : (t.k == 7) = false := by rw [h]; decide
            have q8 : (t.k == 8) = false := by rw [h]; decide
            have q9 : (t.k == 9) = true := by rw [h]; decide
            clear h
            have hs0 : ¬ 9223372036854775807 < c1.length + 1 := by have := HSY.out; have := HLI.out; have := HLJ.out; omega
            have hs1 : ¬ 9223372036854775807 < c1.length + 1 + (Lib.itoa t.i).length := by have := HSY.out; have := HLI.out; have := HLJ.out; omega
            have hs2 : ¬ 9223372036854775807 < c1.length + 1 + (Lib.itoa t.i).length + 1 := by have := HSY.out; have := HLI.out; have := HLJ.out; omega
            have hs3 : ¬ 9223372036854775807 < c1.length + 1 + (Lib.itoa t.i).length + 1 + (Lib.itoa t.j).length := by have := HSY.out; have := HLI.out; have := HLJ.out; omega
            go_wp2_with fail
            refine wp_region_held_drew (S := fun w' => Held w t (.slice a t.kids.length cap) w' ∧ True) (by kernel_rfl) ?_ (fun hHeld => ?_)
            · (try dsimp only)
              (first | exact hS14 | exact hS9 | exact hS4 | exact ⟨held_drew HSC.out, True.intro⟩ | exact hHeld)
            refine take_at 0 64 h17_0 (v := ?_) (Or.inl ⟨by rfl, ?_⟩) ?_
            rotate_left 1
            · ((intro w hSw; (try dsimp only at hSw); unfold h17_0; go_simp) <;> with_reducible rfl)
            (try simp only [Act.put, List.setIfInBounds_toArray, List.set_cons_zero, List.set_cons_succ])
            refine take_at 1 65 h17_1 (v := ?_) (Or.inl ⟨by rfl, ?_⟩) ?_
            rotate_left 1
            · ((intro w hSw; (try dsimp only at hSw); unfold h17_1; go_simp) <;> with_reducible rfl)
            (try simp only [Act.put, List.setIfInBounds_toArray, List.set_cons_zero, List.set_cons_succ])
            refine take_at 2 66 h17_2 (v := ?_) (Or.inl ⟨by rfl, ?_⟩) ?_
            rotate_left 1
            · ((intro w hSw; (try dsimp only at hSw); unfold h17_2; go_simp) <;> with_reducible rfl)
            (try simp only [Act.put, List.setIfInBounds_toArray, List.set_cons_zero, List.set_cons_succ])
            refine take_at 3 67 h17_3 (v := ?_) (Or.inl ⟨by rfl, ?_⟩) ?_
            rotate_left 1
            · ((intro w hSw; (try dsimp only at hSw); (first | (have yy := held_cells hSw.1) | (have yy := held_cells hSw.1)); obtain ⟨y0, y1, y2, y3, y4⟩ := yy; have yc := hSw.2; unfold h17_3; go_simp) <;> with_reducible rfl)
            (try simp only [Act.put, List.setIfInBounds_toArray, List.set_cons_zero, List.set_cons_succ])
            refine take_at 7 71 h17_7 (v := ?_) (Or.inl ⟨by rfl, ?_⟩) ?_
            rotate_left 1
            · ((intro w hSw; (try dsimp only at hSw); unfold h17_7; go_simp) <;> with_reducible rfl)
            (try simp only [Act.put, List.setIfInBounds_toArray, List.set_cons_zero, List.set_cons_succ])
            refine take_at 8 72 h17_8 (v := ?_) (Or.inl ⟨by rfl, ?_⟩) ?_
            rotate_left 1
            · ((intro w hSw; (try dsimp only at hSw); (first | (have yy := held_cells hSw.1) | (have yy := held_cells hSw.1)); obtain ⟨y0, y1, y2, y3, y4⟩ := yy; have yc := hSw.2; unfold h17_8; go_simp) <;> with_reducible rfl)
            (try simp only [Act.put, List.setIfInBounds_toArray, List.set_cons_zero, List.set_cons_succ])
            refine wpAnyH_ready (rs := [4]) (by kernel_rfl) (by simp) ?_
            refine AllReadyH.cons (o := h17_4) rfl (fun K hK => ?_) ?_
            · unfold h17_4
              go_simp
              (go_at_call 27; with_reducible refine Calls.mono (refput_any t.i _ HI1.out) ?_; rintro e v4 ⟨rfl, hb4⟩)
              have hS4 := And.intro (held_call hHeld.1 hb4) True.intro
              clear hHeld hb4
              refine hK.out _ _ ?_ (fun hHeld => ?_)
              · (try dsimp only)
                (first | exact hS14 | exact hS9 | exact hS4 | exact ⟨held_drew HSC.out, True.intro⟩ | exact hHeld)
              clear hK K
              (try simp only [Act.put, List.setIfInBounds_toArray, List.set_cons_zero, List.set_cons_succ])
              refine take_at 5 69 h17_5 (v := ?_) (Or.inl ⟨by rfl, ?_⟩) ?_
              rotate_left 1
              · ((intro w hSw; (try dsimp only at hSw); unfold h17_5; go_simp) <;> with_reducible rfl)
              (try simp only [Act.put, List.setIfInBounds_toArray, List.set_cons_zero, List.set_cons_succ])
              refine take_at 6 70 h17_6 (v := ?_) (Or.inl ⟨by rfl, ?_⟩) ?_
              rotate_left 1
              · ((intro w hSw; (try dsimp only at hSw); unfold h17_6; go_simp) <;> with_reducible rfl)
              (try simp only [Act.put, List.setIfInBounds_toArray, List.set_cons_zero, List.set_cons_succ])
              refine wpAnyH_ready (rs := [9]) (by kernel_rfl) (by simp) ?_
              refine AllReadyH.cons (o := h17_9) rfl (fun K hK => ?_) ?_
              · unfold h17_9
                go_simp
                (go_at_call 27; with_reducible refine Calls.mono (refput_any t.j _ HI2.out) ?_; rintro e v9 ⟨rfl, hb9⟩)
                have hS9 := And.intro (held_call hHeld.1 hb9) True.intro
                clear hHeld hb9
                refine hK.out _ _ ?_ (fun hHeld => ?_)
                · (try dsimp only)
                  (first | exact hS14 | exact hS9 | exact hS4 | exact ⟨held_drew HSC.out, True.intro⟩ | exact hHeld)
                clear hK K
                (try simp only [Act.put, List.setIfInBounds_toArray, List.set_cons_zero, List.set_cons_succ])
                refine take_at 10 74 h17_10 (v := ?_) (Or.inl ⟨by rfl, ?_⟩) ?_
                rotate_left 1
                · ((intro w hSw; (try dsimp only at hSw); unfold h17_10; go_simp) <;> with_reducible rfl)
                (try simp only [Act.put, List.setIfInBounds_toArray, List.set_cons_zero, List.set_cons_succ])
                refine take_at 11 5 h17_11 (v := ?_) (Or.inl ⟨by rfl, ?_⟩) ?_
                rotate_left 1
                · ((intro w hSw; (try dsimp only at hSw); unfold h17_11; go_simp) <;> with_reducible rfl)
                (try simp only [Act.put, List.setIfInBounds_toArray, List.set_cons_zero, List.set_cons_succ])
                refine wpAnyH_done (by kernel_rfl) ?_ _
                have HS := Lib.hid hHeld.1
                clear hHeld
                go_wp2_with fail
                go_meet
                case rel => exact ⟨by rw [(show (⟨#[32]⟩ : ByteArray) = ⟨[(32 : UInt8)].toArray⟩ from rfl)]; simp only [str_add]; rw [if_neg (by rw [HKK.out]; decide)]; unfold lvlL; rw [if_neg (by rw [HLV.out]; decide), if_pos HLV.out]; simp, HS⟩
              exact AllReadyH.nil
            exact AllReadyH.nil
        by_cases hb : t.k = 1 ∨ t.k = 10 ∨ t.k = 11 ∨ t.k = 12
        · rcases hb with h | h | h | h
          · have HKK := Lib.hid h
            have HLV := Lib.hid (show levelsN t.k = 1 by rw [h]; decide)
            have q23 : (t.k == 23) = false := by rw [h]; decide
            have q3 : (t.k == 3) = false := by rw [h]; decide
            have q4 : (t.k == 4) = false := by rw [h]; decide
            have q5 : (t.k == 5) = false := by rw [h]; decide
            have q6 : (t.k == 6) = false := by rw [h]; decide
            have q7 : (t.k == 7) = false := by rw [h]; decide
            have q8 : (t.k == 8) = false := by rw [h]; decide
            have q9 : (t.k == 9) = false := by rw [h]; decide
            have q1 : (t.k == 1) = true := by rw [h]; decide
            clear h
            go_wp2_with fail
            all_goals (try (exfalso; omega))
            refine (refput_any t.i _ hfit.1).mono ?_
            rintro e w4 ⟨rfl, hb4⟩
            have HS := Lib.hid (held_call HSC.out hb4)
            clear hb4
            go_wp2_with fail
            all_goals (try (exfalso; have := HLI.out; omega))
            go_meet
            case rel => exact ⟨by rw [(show (⟨#[32]⟩ : ByteArray) = ⟨[(32 : UInt8)].toArray⟩ from rfl)]; simp only [str_add]; rw [if_neg (by rw [HKK.out]; decide)]; unfold lvlL; rw [if_pos HLV.out]; simp, HS⟩
          · have HKK := Lib.hid h
            have HLV := Lib.hid (show levelsN t.k = 1 by rw [h]; decide)
            have q23 : (t.k == 23) = false := by rw [h]; decide
            have q3 : (t.k == 3) = false := by rw [h]; decide
            have q4 : (t.k == 4) = false := by rw [h]; decide
            have q5 : (t.k == 5) = false := by rw [h]; decide
            have q6 : (t.k == 6) = false := by rw [h]; decide
            have q7 : (t.k == 7) = false := by rw [h]; decide
            have q8 : (t.k == 8) = false := by rw [h]; decide
            have q9 : (t.k == 9) = false := by rw [h]; decide
            have q1 : (t.k == 1) = false := by rw [h]; decide
            have q10 : (t.k == 10) = true := by rw [h]; decide
            clear h
            go_wp2_with fail
            all_goals (try (exfalso; omega))
            refine (refput_any t.i _ hfit.1).mono ?_
            rintro e w4 ⟨rfl, hb4⟩
            have HS := Lib.hid (held_call HSC.out hb4)
            clear hb4
            go_wp2_with fail
            all_goals (try (exfalso; have := HLI.out; omega))
            go_meet
            case rel => exact ⟨by rw [(show (⟨#[32]⟩ : ByteArray) = ⟨[(32 : UInt8)].toArray⟩ from rfl)]; simp only [str_add]; rw [if_neg (by rw [HKK.out]; decide)]; unfold lvlL; rw [if_pos HLV.out]; simp, HS⟩
          · have HKK := Lib.hid h
            have HLV := Lib.hid (show levelsN t.k = 1 by rw [h]; decide)
            have q23 : (t.k == 23) = false := by rw [h]; decide
            have q3 : (t.k == 3) = false := by rw [h]; decide
            have q4 : (t.k == 4) = false := by rw [h]; decide
            have q5 : (t.k == 5) = false := by rw [h]; decide
            have q6 : (t.k == 6) = false := by rw [h]; decide
            have q7 : (t.k == 7) = false := by rw [h]; decide
            have q8 : (t.k == 8) = false := by rw [h]; decide
            have q9 : (t.k == 9) = false := by rw [h]; decide
            have q1 : (t.k == 1) = false := by rw [h]; decide
            have q10 : (t.k == 10) = false := by rw [h]; decide
            have q11 : (t.k == 11) = true := by rw [h]; decide
            clear h
            go_wp2_with fail
            all_goals (try (exfalso; omega))
            refine (refput_any t.i _ hfit.1).mono ?_
            rintro e w4 ⟨rfl, hb4⟩
            have HS := Lib.hid (held_call HSC.out hb4)
            clear hb4
            go_wp2_with fail
            all_goals (try (exfalso; have := HLI.out; omega))
            go_meet
            case rel => exact ⟨by rw [(show (⟨#[32]⟩ : ByteArray) = ⟨[(32 : UInt8)].toArray⟩ from rfl)]; simp only [str_add]; rw [if_neg (by rw [HKK.out]; decide)]; unfold lvlL; rw [if_pos HLV.out]; simp, HS⟩
          · have HKK := Lib.hid h
            have HLV := Lib.hid (show levelsN t.k = 1 by rw [h]; decide)
            have q23 : (t.k == 23) = false := by rw [h]; decide
            have q3 : (t.k == 3) = false := by rw [h]; decide
            have q4 : (t.k == 4) = false := by rw [h]; decide
            have q5 : (t.k == 5) = false := by rw [h]; decide
            have q6 : (t.k == 6) = false := by rw [h]; decide
            have q7 : (t.k == 7) = false := by rw [h]; decide
            have q8 : (t.k == 8) = false := by rw [h]; decide
            have q9 : (t.k == 9) = false := by rw [h]; decide
            have q1 : (t.k == 1) = false := by rw [h]; decide
            have q10 : (t.k == 10) = false := by rw [h]; decide
            have q11 : (t.k == 11) = false := by rw [h]; decide
            have q12 : (t.k == 12) = true := by rw [h]; decide
            clear h
            go_wp2_with fail
            all_goals (try (exfalso; omega))
            refine (refput_any t.i _ hfit.1).mono ?_
            rintro e w4 ⟨rfl, hb4⟩
            have HS := Lib.hid (held_call HSC.out hb4)
            clear hb4
            go_wp2_with fail
            all_goals (try (exfalso; have := HLI.out; omega))
            go_meet
            case rel => exact ⟨by rw [(show (⟨#[32]⟩ : ByteArray) = ⟨[(32 : UInt8)].toArray⟩ from rfl)]; simp only [str_add]; rw [if_neg (by rw [HKK.out]; decide)]; unfold lvlL; rw [if_pos HLV.out]; simp, HS⟩
        have h : 13 ≤ t.k ∧ t.k ≤ 22 := by omega
        have HKK := Lib.hid h
        have q23 : (t.k == 23) = false := by simp; omega
        have q3 : (t.k == 3) = false := by simp; omega
        have q4 : (t.k == 4) = false := by simp; omega
        have q5 : (t.k == 5) = false := by simp; omega
        have q6 : (t.k == 6) = false := by simp; omega
        have q7 : (t.k == 7) = false := by simp; omega
        have q8 : (t.k == 8) = false := by simp; omega
        have q9 : (t.k == 9) = false := by simp; omega
        have q1 : (t.k == 1) = false := by simp; omega
        have q10 : (t.k == 10) = false := by simp; omega
        have q11 : (t.k == 11) = false := by simp; omega
        have q12 : (t.k == 12) = false := by simp; omega
        clear h
        go_wp2_with fail
        go_meet
        case rel => exact ⟨by have := HKK.out; rw [if_neg (by omega)]; unfold lvlL levelsN; rw [if_neg (by rw [if_neg (by omega), if_neg (by omega)]; decide), if_neg (by rw [if_neg (by omega), if_neg (by omega)]; decide)]; simp, HSC⟩
      case rest =>
        obtain ⟨rfl, HSC⟩ := hcut
        obtain ⟨c2, hc2⟩ : ∃ c, c1 ++ ((if t.k = 23 then 32 :: symL t.n else []) ++ lvlL t.k t.i t.j) = c := ⟨_, rfl⟩
        have hl2 : c2.length ≤ 100 := by
          have hd : (lvlL t.k t.i t.j).length ≤ 44 := by
            have := HLI.out; have := HLJ.out
            unfold lvlL; (repeat' split) <;> simp <;> omega
          have he : (if t.k = 23 then 32 :: symL t.n else []).length ≤ 7 := by
            have := HSY.out
            split <;> simp <;> omega
          rw [← hc2]; simp only [List.length_append]; omega
        rw [hc2]
        have HC2 := Lib.hid hc2
        have HNL := Lib.hid (name_len HFM.out)
        have HNL1 := Lib.hid (name_len HFM1.out)
        have HLM := Lib.hid (Lib.itoa_length_le m HFM.out.1 HFM.out.2)
        have HLM1 := Lib.hid (Lib.itoa_length_le (m + 1) HFM1.out.1 HFM1.out.2)
        clear hc2 d0 d1 d2 d3 d4
        obtain ⟨d0, d1, d2, d3, d4⟩ := held_cells HSC.out
        go_step
        go_step
        go_cut [5] (fun s5 wx => s5 = .string ⟨(c2 ++ (if 0 < bindsN t.k 1 then 32 :: nameW m else [])).toArray⟩ ∧ Hid (Held w t (.slice a t.kids.length cap) wx))
        case first =>
          go_wp2_with fail
          refine (refbinds_any _ _ _).mono ?_
          rintro e w1 ⟨rfl, rfl⟩
          rcases binds_one t.k with hb | hb
          · have HB := Lib.hid hb
            rw [hb]
            clear hb
            go_wp2_with fail
            go_meet
            case rel => exact ⟨by rw [if_neg (by rw [HB.out]; decide)]; simp, HSC⟩
          · have HB := Lib.hid hb
            rw [hb]
            clear hb
            go_wp2_with fail
            all_goals (try (exfalso; omega))
            refine (refput_any m _ HFM.out).mono ?_
            rintro e w4 ⟨rfl, hb4⟩
            have HS := Lib.hid (held_call HSC.out hb4)
            clear hb4
            go_wp2_with fail
            all_goals (try (exfalso; have := HLM.out; omega))
            go_meet
            case rel => exact ⟨by rw [show (⟨#[32, 118]⟩ : ByteArray) = ⟨[(32 : UInt8), 118].toArray⟩ from rfl]; simp only [str_add]; rw [if_pos (by rw [HB.out]; decide)]; simp [nameW], HS⟩
        case rest =>
          obtain ⟨rfl, HSC⟩ := hcut
          obtain ⟨c3, hc3⟩ : ∃ c, c2 ++ (if 0 < bindsN t.k 1 then 32 :: nameW m else []) = c := ⟨_, rfl⟩
          have HC3 := Lib.hid (show c3 = 40 :: (headL t.k ++ frontL t.k t.i t.j t.n m) by rw [← hc3, ← HC2.out, ← HC1.out]; unfold frontL; simp)
          rw [hc3]
          clear hc3 d0 d1 d2 d3 d4
          go_wp2_with fail
          go_loopw [5, 6] (fun v i wr => ∃ q : Nat, q ≤ t.kids.length ∧ i = .int .i64 q ∧ v = .string ⟨(c3 ++ wrs t.k 0 (t.kids.take q) m).toArray⟩ ∧ Hid (Held w t (.slice a t.kids.length cap) wr)) (fun _ i _ => t.kids.length - (intOf i).toNat)
          case atStart => exact ⟨0, Nat.zero_le _, rfl, by simp [wrs], HSC⟩
          case round =>
            obtain ⟨q, hq, rfl, rfl, HSQ⟩ := hrel
            obtain ⟨d0, d1, d2, d3, d4⟩ := held_cells HSQ.out
            by_cases hlt : q < t.kids.length
            · have HROOM := Lib.hid (put_room HRB.out h0 HF.out hm hlt)
              have HTK := Lib.hid (wrs_take t.k m t.kids 0 q hlt)
              have HKF := Lib.hid (kid_free HF.out hlt)
              have HKS := Lib.hid (kid_size hlt)
              have HM := Lib.hid (List.getElem_mem hlt)
              have HLC := Lib.hid (show c3.length = 1 + (headL t.k).length + (frontL t.k t.i t.j t.n m).length by rw [HC3.out]; simp; omega)
              obtain ⟨c4, hc4⟩ : ∃ c, c3 ++ wrs t.k 0 (t.kids.take q) m = c := ⟨_, rfl⟩
              have hl4 : c4.length + (midL t.k q m).length + 1 + 100 * (t.kids[q]).size ≤ 100 * t.size := by
                have h1 := HROOM.out; have h2 := HLC.out
                rw [← hc4]; simp only [List.length_append]; omega
              rw [hc4]
              have HC4 := Lib.hid hc4
              clear hc4
              obtain ⟨bn, o, rfl, hx⟩ := HN.out q hlt
              have hq4 := HK.out q hlt
              obtain ⟨a', cap', S', hS, -⟩ := hq4.out
              rw [hS] at hq4 hx
              have HX := Lib.hid hx
              have HQ := Lib.hid hq4
              have hqi : (q : Int) < (t.kids.length : Int) := by omega
              have hwr : IntKind.i64.wrap (m + bindsN t.k (q : Int)) = m + bindsN t.k (q : Int) := IntWalk.i64_in _ (by have := binds_range t.k q; omega)
              have hbr := binds_range t.k q
              have HWL := Lib.hid (wr_len (t.kids[q]) (m + bindsN t.k q) (t.right_kids HRB.out _ HM.out) (by omega) HKF.out (by have := HKS.out; omega))
              have HHQ := Lib.hid HSQ.out
              clear hx hS hq4
              by_cases hj : t.k = 22 ∧ q = 2
              · have hmid : midL t.k q m = 32 :: (nameW m ++ 32 :: nameW (m + 1)) := if_pos hj
                have HMID := Lib.hid hmid
                have j1 : (t.k == 22) = true := by simpa using hj.1
                have j2 : ((q : Int) == 2) = true := by simp; omega
                obtain ⟨c5, hc5⟩ : ∃ c, c4 ++ midL t.k q m = c := ⟨_, rfl⟩
                have hl5 : c5.length + 1 + 100 * (t.kids[q]).size ≤ 100 * t.size := by rw [← hc5, List.length_append]; omega
                have HCC := Lib.hid (show ((c4 ++ [32, 118] ++ Lib.itoa m) ++ [32, 118]) ++ Lib.itoa (m + 1) = c5 by rw [← hc5, hmid]; simp [nameW])
                have HC5 := Lib.hid hc5
                have hl7 := hl4
                rw [hmid] at hl7
                simp [nameW] at hl7
                clear hmid hj hc5
                go_wp2_with fail
                all_goals (try (exfalso; omega))
                refine (refput_any m _ HFM.out).mono ?_
                rintro e w5 ⟨rfl, hb5⟩
                have HS5 := Lib.hid (held_call HSQ.out hb5)
                clear hb5
                go_wp2_with fail
                all_goals (try (exfalso; omega))
                refine (refput_any (m + 1) _ HFM1.out).mono ?_
                rintro e w6 ⟨rfl, hb6⟩
                have HS6 := Lib.hid (held_call HS5.out hb6)
                clear hb6 d0 d1 d2 d3 d4
                obtain ⟨d0, d1, d2, d3, d4⟩ := held_cells HS6.out
                go_wp2_with fail
                all_goals (try (exfalso; omega))
                rw [show (⟨#[32, 118]⟩ : ByteArray) = ⟨[(32 : UInt8), 118].toArray⟩ from rfl, str_add, str_add, str_add, str_add, HCC.out]
                have hsu1 : ¬ 9223372036854775807 < c5.length + 1 := by omega
                have hsu2 : ¬ 9223372036854775807 < c5.length + 1 + ((t.kids[q]).wr (m + bindsN t.k q)).length := by have := HWL.out; omega
                have hSS := And.intro (held_drew HS6.out) True.intro
                clear d0 d1 d2 d3 d4
                refine wp_region_held_drew (S := fun w' => Held w t (.slice (some ⟨bn, o, none⟩) t.kids.length cap) w' ∧ True) (by kernel_rfl) ?_ (fun hHeld => ?_)
                · (try dsimp only)
                  (first | exact hS13 | exact hHeld | exact hSS)
                refine take_at 0 119 h30_0 (v := ?_) (Or.inl ⟨by rfl, ?_⟩) ?_
                rotate_left 1
                · ((intro w hSw; (try dsimp only at hSw); unfold h30_0; go_simp) <;> with_reducible rfl)
                (try simp only [Act.put, List.setIfInBounds_toArray, List.set_cons_zero, List.set_cons_succ])
                refine take_at 1 120 h30_1 (v := ?_) (Or.inl ⟨by rfl, ?_⟩) ?_
                rotate_left 1
                · ((intro w hSw; (try dsimp only at hSw); unfold h30_1; go_simp) <;> with_reducible rfl)
                (try simp only [Act.put, List.setIfInBounds_toArray, List.set_cons_zero, List.set_cons_succ])
                refine take_at 2 121 h30_2 (v := ?_) (Or.inl ⟨by rfl, ?_⟩) ?_
                rotate_left 1
                · ((intro w hSw; (try dsimp only at hSw); unfold h30_2; go_simp) <;> with_reducible rfl)
                (try simp only [Act.put, List.setIfInBounds_toArray, List.set_cons_zero, List.set_cons_succ])
                refine take_at 3 122 h30_3 (v := ?_) (Or.inl ⟨by rfl, ?_⟩) ?_
                rotate_left 1
                · ((intro w hSw; (try dsimp only at hSw); have yy := held_cells hSw.1; obtain ⟨y0, y1, y2, y3, y4⟩ := yy; have xx := HX.out.below (held_below hSw.1) HX.out.lt; obtain ⟨x0, x1, x2, x3, x4⟩ := xx; unfold h30_3; go_simp) <;> with_reducible rfl)
                (try simp only [Act.put, List.setIfInBounds_toArray, List.set_cons_zero, List.set_cons_succ])
                refine take_at 4 123 h30_4 (v := ?_) (Or.inl ⟨by rfl, ?_⟩) ?_
                rotate_left 1
                · ((intro w hSw; (try dsimp only at hSw); unfold h30_4; go_simp) <;> with_reducible rfl)
                (try simp only [Act.put, List.setIfInBounds_toArray, List.set_cons_zero, List.set_cons_succ])
                refine take_at 5 124 h30_5 (v := ?_) (Or.inl ⟨by rfl, ?_⟩) ?_
                rotate_left 1
                · ((intro w hSw; (try dsimp only at hSw); unfold h30_5; go_simp) <;> with_reducible rfl)
                (try simp only [Act.put, List.setIfInBounds_toArray, List.set_cons_zero, List.set_cons_succ])
                refine take_at 6 125 h30_6 (v := ?_) (Or.inl ⟨by rfl, ?_⟩) ?_
                rotate_left 1
                · ((intro w hSw; (try dsimp only at hSw); have yy := held_cells hSw.1; obtain ⟨y0, y1, y2, y3, y4⟩ := yy; have xx := HX.out.below (held_below hSw.1) HX.out.lt; obtain ⟨x0, x1, x2, x3, x4⟩ := xx; unfold h30_6; go_simp) <;> with_reducible rfl)
                (try simp only [Act.put, List.setIfInBounds_toArray, List.set_cons_zero, List.set_cons_succ])
                refine take_at 7 126 h30_7 (v := ?_) (Or.inl ⟨by rfl, ?_⟩) ?_
                rotate_left 1
                · ((intro w hSw; (try dsimp only at hSw); unfold h30_7; go_simp) <;> with_reducible rfl)
                (try simp only [Act.put, List.setIfInBounds_toArray, List.set_cons_zero, List.set_cons_succ])
                refine take_at 8 127 h30_8 (v := ?_) (Or.inl ⟨by rfl, ?_⟩) ?_
                rotate_left 1
                · ((intro w hSw; (try dsimp only at hSw); unfold h30_8; go_simp) <;> with_reducible rfl)
                (try simp only [Act.put, List.setIfInBounds_toArray, List.set_cons_zero, List.set_cons_succ])
                refine take_at 9 128 h30_9 (v := ?_) (Or.inl ⟨by rfl, ?_⟩) ?_
                rotate_left 1
                · ((intro w hSw; (try dsimp only at hSw); have yy := held_cells hSw.1; obtain ⟨y0, y1, y2, y3, y4⟩ := yy; have xx := HX.out.below (held_below hSw.1) HX.out.lt; obtain ⟨x0, x1, x2, x3, x4⟩ := xx; unfold h30_9; go_simp) <;> with_reducible rfl)
                (try simp only [Act.put, List.setIfInBounds_toArray, List.set_cons_zero, List.set_cons_succ])
                refine take_at 10 129 h30_10 (v := ?_) (Or.inl ⟨by rfl, ?_⟩) ?_
                rotate_left 1
                · ((intro w hSw; (try dsimp only at hSw); unfold h30_10; go_simp) <;> with_reducible rfl)
                (try simp only [Act.put, List.setIfInBounds_toArray, List.set_cons_zero, List.set_cons_succ])
                refine wpAnyH_ready (rs := [11]) (by kernel_rfl) (by simp) ?_
                refine AllReadyH.cons (o := h30_11) rfl (fun K hK => ?_) ?_
                · unfold h30_11
                  go_simp
                  (go_at_call 39; refine (refbinds_any _ _ _).mono ?_; rintro e w7 ⟨rfl, rfl⟩)
                  refine hK.out _ _ ?_ (fun hHeld => ?_)
                  · (try dsimp only)
                    (first | exact hS13 | exact hHeld | exact hSS)
                  clear hK K
                  (try simp only [Act.put, List.setIfInBounds_toArray, List.set_cons_zero, List.set_cons_succ])
                  refine take_at 12 131 h30_12 (v := ?_) (Or.inl ⟨by rfl, ?_⟩) ?_
                  rotate_left 1
                  · ((intro w hSw; (try dsimp only at hSw); unfold h30_12; go_simp) <;> with_reducible rfl)
                  (try simp only [Act.put, List.setIfInBounds_toArray, List.set_cons_zero, List.set_cons_succ])
                  refine wpAnyH_ready (rs := [13]) (by kernel_rfl) (by simp) ?_
                  refine AllReadyH.cons (o := h30_13) rfl (fun K hK => ?_) ?_
                  · unfold h30_13
                    go_simp
                    (go_at_call 21; with_reducible refine Calls.mono ((IH.out _ HM.out).use _ _ _ (held_lies hHeld.1 HQ.out) (t.right_kids HRB.out _ HM.out) (by omega) HKF.out (by have := HKS.out; omega) (by have := HKS.out; omega)) ?_; rintro e v13 ⟨rfl, hb13⟩)
                    have hS13 := And.intro (held_call hHeld.1 hb13) True.intro
                    clear hHeld hb13
                    refine hK.out _ _ ?_ (fun hHeld => ?_)
                    · (try dsimp only)
                      (first | exact hS13 | exact hHeld | exact hSS)
                    clear hK K
                    (try simp only [Act.put, List.setIfInBounds_toArray, List.set_cons_zero, List.set_cons_succ])
                    refine take_at 14 133 h30_14 (v := ?_) (Or.inl ⟨by rfl, ?_⟩) ?_
                    rotate_left 1
                    · ((intro w hSw; (try dsimp only at hSw); unfold h30_14; go_simp) <;> with_reducible rfl)
                    (try simp only [Act.put, List.setIfInBounds_toArray, List.set_cons_zero, List.set_cons_succ])
                    refine take_at 15 5 h30_15 (v := ?_) (Or.inl ⟨by rfl, ?_⟩) ?_
                    rotate_left 1
                    · ((intro w hSw; (try dsimp only at hSw); unfold h30_15; go_simp) <;> with_reducible rfl)
                    (try simp only [Act.put, List.setIfInBounds_toArray, List.set_cons_zero, List.set_cons_succ])
                    refine wpAnyH_done (by kernel_rfl) ?_ _
                    have HS := Lib.hid hHeld.1
                    clear hHeld
                    go_wp2_with fail
                    go_roundw
                    case rel => exact ⟨q + 1, by omega, by go_num, by rw [(show (⟨#[32]⟩ : ByteArray) = ⟨[(32 : UInt8)].toArray⟩ from rfl)]; simp only [str_add]; rw [HTK.out, ← HC5.out, ← HC4.out]; simp, HS⟩
                    case measure => simp [intOf]; omega
                  exact AllReadyH.nil
                exact AllReadyH.nil
              · have hmid : midL t.k q m = [] := if_neg hj
                have HC5 := Lib.hid (show c4 ++ midL t.k q m = c4 by rw [hmid]; simp)
                have hl5 : c4.length + 1 + 100 * (t.kids[q]).size ≤ 100 * t.size := by omega
                by_cases h22 : t.k = 22
                · have j1 : (t.k == 22) = true := by simpa using h22
                  have j2 : ((q : Int) == 2) = false := by simp; omega
                  clear hmid hj h22
                  go_wp2_with fail
                  have hsu1 : ¬ 9223372036854775807 < c4.length + 1 := by omega
                  have hsu2 : ¬ 9223372036854775807 < c4.length + 1 + ((t.kids[q]).wr (m + bindsN t.k q)).length := by have := HWL.out; omega
                  have hSS := And.intro (held_drew HSQ.out) True.intro
                  clear d0 d1 d2 d3 d4
                  refine wp_region_held_drew (S := fun w' => Held w t (.slice (some ⟨bn, o, none⟩) t.kids.length cap) w' ∧ True) (by kernel_rfl) ?_ (fun hHeld => ?_)
                  · (try dsimp only)
                    (first | exact hS13 | exact hHeld | exact hSS)
                  refine take_at 0 119 h30_0 (v := ?_) (Or.inl ⟨by rfl, ?_⟩) ?_
                  rotate_left 1
                  · ((intro w hSw; (try dsimp only at hSw); unfold h30_0; go_simp) <;> with_reducible rfl)
                  (try simp only [Act.put, List.setIfInBounds_toArray, List.set_cons_zero, List.set_cons_succ])
                  refine take_at 1 120 h30_1 (v := ?_) (Or.inl ⟨by rfl, ?_⟩) ?_
                  rotate_left 1
                  · ((intro w hSw; (try dsimp only at hSw); unfold h30_1; go_simp) <;> with_reducible rfl)
                  (try simp only [Act.put, List.setIfInBounds_toArray, List.set_cons_zero, List.set_cons_succ])
                  refine take_at 2 121 h30_2 (v := ?_) (Or.inl ⟨by rfl, ?_⟩) ?_
                  rotate_left 1
                  · ((intro w hSw; (try dsimp only at hSw); unfold h30_2; go_simp) <;> with_reducible rfl)
                  (try simp only [Act.put, List.setIfInBounds_toArray, List.set_cons_zero, List.set_cons_succ])
                  refine take_at 3 122 h30_3 (v := ?_) (Or.inl ⟨by rfl, ?_⟩) ?_
                  rotate_left 1
                  · ((intro w hSw; (try dsimp only at hSw); have yy := held_cells hSw.1; obtain ⟨y0, y1, y2, y3, y4⟩ := yy; have xx := HX.out.below (held_below hSw.1) HX.out.lt; obtain ⟨x0, x1, x2, x3, x4⟩ := xx; unfold h30_3; go_simp) <;> with_reducible rfl)
                  (try simp only [Act.put, List.setIfInBounds_toArray, List.set_cons_zero, List.set_cons_succ])
                  refine take_at 4 123 h30_4 (v := ?_) (Or.inl ⟨by rfl, ?_⟩) ?_
                  rotate_left 1
                  · ((intro w hSw; (try dsimp only at hSw); unfold h30_4; go_simp) <;> with_reducible rfl)
                  (try simp only [Act.put, List.setIfInBounds_toArray, List.set_cons_zero, List.set_cons_succ])
                  refine take_at 5 124 h30_5 (v := ?_) (Or.inl ⟨by rfl, ?_⟩) ?_
                  rotate_left 1
                  · ((intro w hSw; (try dsimp only at hSw); unfold h30_5; go_simp) <;> with_reducible rfl)
                  (try simp only [Act.put, List.setIfInBounds_toArray, List.set_cons_zero, List.set_cons_succ])
                  refine take_at 6 125 h30_6 (v := ?_) (Or.inl ⟨by rfl, ?_⟩) ?_
                  rotate_left 1
                  · ((intro w hSw; (try dsimp only at hSw); have yy := held_cells hSw.1; obtain ⟨y0, y1, y2, y3, y4⟩ := yy; have xx := HX.out.below (held_below hSw.1) HX.out.lt; obtain ⟨x0, x1, x2, x3, x4⟩ := xx; unfold h30_6; go_simp) <;> with_reducible rfl)
                  (try simp only [Act.put, List.setIfInBounds_toArray, List.set_cons_zero, List.set_cons_succ])
                  refine take_at 7 126 h30_7 (v := ?_) (Or.inl ⟨by rfl, ?_⟩) ?_
                  rotate_left 1
                  · ((intro w hSw; (try dsimp only at hSw); unfold h30_7; go_simp) <;> with_reducible rfl)
                  (try simp only [Act.put, List.setIfInBounds_toArray, List.set_cons_zero, List.set_cons_succ])
                  refine take_at 8 127 h30_8 (v := ?_) (Or.inl ⟨by rfl, ?_⟩) ?_
                  rotate_left 1
                  · ((intro w hSw; (try dsimp only at hSw); unfold h30_8; go_simp) <;> with_reducible rfl)
                  (try simp only [Act.put, List.setIfInBounds_toArray, List.set_cons_zero, List.set_cons_succ])
                  refine take_at 9 128 h30_9 (v := ?_) (Or.inl ⟨by rfl, ?_⟩) ?_
                  rotate_left 1
                  · ((intro w hSw; (try dsimp only at hSw); have yy := held_cells hSw.1; obtain ⟨y0, y1, y2, y3, y4⟩ := yy; have xx := HX.out.below (held_below hSw.1) HX.out.lt; obtain ⟨x0, x1, x2, x3, x4⟩ := xx; unfold h30_9; go_simp) <;> with_reducible rfl)
                  (try simp only [Act.put, List.setIfInBounds_toArray, List.set_cons_zero, List.set_cons_succ])
                  refine take_at 10 129 h30_10 (v := ?_) (Or.inl ⟨by rfl, ?_⟩) ?_
                  rotate_left 1
                  · ((intro w hSw; (try dsimp only at hSw); unfold h30_10; go_simp) <;> with_reducible rfl)
                  (try simp only [Act.put, List.setIfInBounds_toArray, List.set_cons_zero, List.set_cons_succ])
                  refine wpAnyH_ready (rs := [11]) (by kernel_rfl) (by simp) ?_
                  refine AllReadyH.cons (o := h30_11) rfl (fun K hK => ?_) ?_
                  · unfold h30_11
                    go_simp
                    (go_at_call 39; refine (refbinds_any _ _ _).mono ?_; rintro e w7 ⟨rfl, rfl⟩)
                    refine hK.out _ _ ?_ (fun hHeld => ?_)
                    · (try dsimp only)
                      (first | exact hS13 | exact hHeld | exact hSS)
                    clear hK K
                    (try simp only [Act.put, List.setIfInBounds_toArray, List.set_cons_zero, List.set_cons_succ])
                    refine take_at 12 131 h30_12 (v := ?_) (Or.inl ⟨by rfl, ?_⟩) ?_
                    rotate_left 1
                    · ((intro w hSw; (try dsimp only at hSw); unfold h30_12; go_simp) <;> with_reducible rfl)
                    (try simp only [Act.put, List.setIfInBounds_toArray, List.set_cons_zero, List.set_cons_succ])
                    refine wpAnyH_ready (rs := [13]) (by kernel_rfl) (by simp) ?_
                    refine AllReadyH.cons (o := h30_13) rfl (fun K hK => ?_) ?_
                    · unfold h30_13
                      go_simp
                      (go_at_call 21; with_reducible refine Calls.mono ((IH.out _ HM.out).use _ _ _ (held_lies hHeld.1 HQ.out) (t.right_kids HRB.out _ HM.out) (by omega) HKF.out (by have := HKS.out; omega) (by have := HKS.out; omega)) ?_; rintro e v13 ⟨rfl, hb13⟩)
                      have hS13 := And.intro (held_call hHeld.1 hb13) True.intro
                      clear hHeld hb13
                      refine hK.out _ _ ?_ (fun hHeld => ?_)
                      · (try dsimp only)
                        (first | exact hS13 | exact hHeld | exact hSS)
                      clear hK K
                      (try simp only [Act.put, List.setIfInBounds_toArray, List.set_cons_zero, List.set_cons_succ])
                      refine take_at 14 133 h30_14 (v := ?_) (Or.inl ⟨by rfl, ?_⟩) ?_
                      rotate_left 1
                      · ((intro w hSw; (try dsimp only at hSw); unfold h30_14; go_simp) <;> with_reducible rfl)
                      (try simp only [Act.put, List.setIfInBounds_toArray, List.set_cons_zero, List.set_cons_succ])
                      refine take_at 15 5 h30_15 (v := ?_) (Or.inl ⟨by rfl, ?_⟩) ?_
                      rotate_left 1
                      · ((intro w hSw; (try dsimp only at hSw); unfold h30_15; go_simp) <;> with_reducible rfl)
                      (try simp only [Act.put, List.setIfInBounds_toArray, List.set_cons_zero, List.set_cons_succ])
                      refine wpAnyH_done (by kernel_rfl) ?_ _
                      have HS := Lib.hid hHeld.1
                      clear hHeld
                      go_wp2_with fail
                      go_roundw
                      case rel => exact ⟨q + 1, by omega, by go_num, by rw [(show (⟨#[32]⟩ : ByteArray) = ⟨[(32 : UInt8)].toArray⟩ from rfl)]; simp only [str_add]; rw [HTK.out, ← HC5.out, ← HC4.out]; simp, HS⟩
                      case measure => simp [intOf]; omega
                    exact AllReadyH.nil
                  exact AllReadyH.nil
                · have j1 : (t.k == 22) = false := by simpa using h22
                  clear hmid hj h22
                  go_wp2_with fail
                  have hsu1 : ¬ 9223372036854775807 < c4.length + 1 := by omega
                  have hsu2 : ¬ 9223372036854775807 < c4.length + 1 + ((t.kids[q]).wr (m + bindsN t.k q)).length := by have := HWL.out; omega
                  have hSS := And.intro (held_drew HSQ.out) True.intro
                  clear d0 d1 d2 d3 d4
                  refine wp_region_held_drew (S := fun w' => Held w t (.slice (some ⟨bn, o, none⟩) t.kids.length cap) w' ∧ True) (by kernel_rfl) ?_ (fun hHeld => ?_)
                  · (try dsimp only)
                    (first | exact hS13 | exact hHeld | exact hSS)
                  refine take_at 0 119 h30_0 (v := ?_) (Or.inl ⟨by rfl, ?_⟩) ?_
                  rotate_left 1
                  · ((intro w hSw; (try dsimp only at hSw); unfold h30_0; go_simp) <;> with_reducible rfl)
                  (try simp only [Act.put, List.setIfInBounds_toArray, List.set_cons_zero, List.set_cons_succ])
                  refine take_at 1 120 h30_1 (v := ?_) (Or.inl ⟨by rfl, ?_⟩) ?_
                  rotate_left 1
                  · ((intro w hSw; (try dsimp only at hSw); unfold h30_1; go_simp) <;> with_reducible rfl)
                  (try simp only [Act.put, List.setIfInBounds_toArray, List.set_cons_zero, List.set_cons_succ])
                  refine take_at 2 121 h30_2 (v := ?_) (Or.inl ⟨by rfl, ?_⟩) ?_
                  rotate_left 1
                  · ((intro w hSw; (try dsimp only at hSw); unfold h30_2; go_simp) <;> with_reducible rfl)
                  (try simp only [Act.put, List.setIfInBounds_toArray, List.set_cons_zero, List.set_cons_succ])
                  refine take_at 3 122 h30_3 (v := ?_) (Or.inl ⟨by rfl, ?_⟩) ?_
                  rotate_left 1
                  · ((intro w hSw; (try dsimp only at hSw); have yy := held_cells hSw.1; obtain ⟨y0, y1, y2, y3, y4⟩ := yy; have xx := HX.out.below (held_below hSw.1) HX.out.lt; obtain ⟨x0, x1, x2, x3, x4⟩ := xx; unfold h30_3; go_simp) <;> with_reducible rfl)
                  (try simp only [Act.put, List.setIfInBounds_toArray, List.set_cons_zero, List.set_cons_succ])
                  refine take_at 4 123 h30_4 (v := ?_) (Or.inl ⟨by rfl, ?_⟩) ?_
                  rotate_left 1
                  · ((intro w hSw; (try dsimp only at hSw); unfold h30_4; go_simp) <;> with_reducible rfl)
                  (try simp only [Act.put, List.setIfInBounds_toArray, List.set_cons_zero, List.set_cons_succ])
                  refine take_at 5 124 h30_5 (v := ?_) (Or.inl ⟨by rfl, ?_⟩) ?_
                  rotate_left 1
                  · ((intro w hSw; (try dsimp only at hSw); unfold h30_5; go_simp) <;> with_reducible rfl)
                  (try simp only [Act.put, List.setIfInBounds_toArray, List.set_cons_zero, List.set_cons_succ])
                  refine take_at 6 125 h30_6 (v := ?_) (Or.inl ⟨by rfl, ?_⟩) ?_
                  rotate_left 1
                  · ((intro w hSw; (try dsimp only at hSw); have yy := held_cells hSw.1; obtain ⟨y0, y1, y2, y3, y4⟩ := yy; have xx := HX.out.below (held_below hSw.1) HX.out.lt; obtain ⟨x0, x1, x2, x3, x4⟩ := xx; unfold h30_6; go_simp) <;> with_reducible rfl)
                  (try simp only [Act.put, List.setIfInBounds_toArray, List.set_cons_zero, List.set_cons_succ])
                  refine take_at 7 126 h30_7 (v := ?_) (Or.inl ⟨by rfl, ?_⟩) ?_
                  rotate_left 1
                  · ((intro w hSw; (try dsimp only at hSw); unfold h30_7; go_simp) <;> with_reducible rfl)
                  (try simp only [Act.put, List.setIfInBounds_toArray, List.set_cons_zero, List.set_cons_succ])
                  refine take_at 8 127 h30_8 (v := ?_) (Or.inl ⟨by rfl, ?_⟩) ?_
                  rotate_left 1
                  · ((intro w hSw; (try dsimp only at hSw); unfold h30_8; go_simp) <;> with_reducible rfl)
                  (try simp only [Act.put, List.setIfInBounds_toArray, List.set_cons_zero, List.set_cons_succ])
                  refine take_at 9 128 h30_9 (v := ?_) (Or.inl ⟨by rfl, ?_⟩) ?_
                  rotate_left 1
                  · ((intro w hSw; (try dsimp only at hSw); have yy := held_cells hSw.1; obtain ⟨y0, y1, y2, y3, y4⟩ := yy; have xx := HX.out.below (held_below hSw.1) HX.out.lt; obtain ⟨x0, x1, x2, x3, x4⟩ := xx; unfold h30_9; go_simp) <;> with_reducible rfl)
                  (try simp only [Act.put, List.setIfInBounds_toArray, List.set_cons_zero, List.set_cons_succ])
                  refine take_at 10 129 h30_10 (v := ?_) (Or.inl ⟨by rfl, ?_⟩) ?_
                  rotate_left 1
                  · ((intro w hSw; (try dsimp only at hSw); unfold h30_10; go_simp) <;> with_reducible rfl)
                  (try simp only [Act.put, List.setIfInBounds_toArray, List.set_cons_zero, List.set_cons_succ])
                  refine wpAnyH_ready (rs := [11]) (by kernel_rfl) (by simp) ?_
                  refine AllReadyH.cons (o := h30_11) rfl (fun K hK => ?_) ?_
                  · unfold h30_11
                    go_simp
                    (go_at_call 39; refine (refbinds_any _ _ _).mono ?_; rintro e w7 ⟨rfl, rfl⟩)
                    refine hK.out _ _ ?_ (fun hHeld => ?_)
                    · (try dsimp only)
                      (first | exact hS13 | exact hHeld | exact hSS)
                    clear hK K
                    (try simp only [Act.put, List.setIfInBounds_toArray, List.set_cons_zero, List.set_cons_succ])
                    refine take_at 12 131 h30_12 (v := ?_) (Or.inl ⟨by rfl, ?_⟩) ?_
                    rotate_left 1
                    · ((intro w hSw; (try dsimp only at hSw); unfold h30_12; go_simp) <;> with_reducible rfl)
                    (try simp only [Act.put, List.setIfInBounds_toArray, List.set_cons_zero, List.set_cons_succ])
                    refine wpAnyH_ready (rs := [13]) (by kernel_rfl) (by simp) ?_
                    refine AllReadyH.cons (o := h30_13) rfl (fun K hK => ?_) ?_
                    · unfold h30_13
                      go_simp
                      (go_at_call 21; with_reducible refine Calls.mono ((IH.out _ HM.out).use _ _ _ (held_lies hHeld.1 HQ.out) (t.right_kids HRB.out _ HM.out) (by omega) HKF.out (by have := HKS.out; omega) (by have := HKS.out; omega)) ?_; rintro e v13 ⟨rfl, hb13⟩)
                      have hS13 := And.intro (held_call hHeld.1 hb13) True.intro
                      clear hHeld hb13
                      refine hK.out _ _ ?_ (fun hHeld => ?_)
                      · (try dsimp only)
                        (first | exact hS13 | exact hHeld | exact hSS)
                      clear hK K
                      (try simp only [Act.put, List.setIfInBounds_toArray, List.set_cons_zero, List.set_cons_succ])
                      refine take_at 14 133 h30_14 (v := ?_) (Or.inl ⟨by rfl, ?_⟩) ?_
                      rotate_left 1
                      · ((intro w hSw; (try dsimp only at hSw); unfold h30_14; go_simp) <;> with_reducible rfl)
                      (try simp only [Act.put, List.setIfInBounds_toArray, List.set_cons_zero, List.set_cons_succ])
                      refine take_at 15 5 h30_15 (v := ?_) (Or.inl ⟨by rfl, ?_⟩) ?_
                      rotate_left 1
                      · ((intro w hSw; (try dsimp only at hSw); unfold h30_15; go_simp) <;> with_reducible rfl)
                      (try simp only [Act.put, List.setIfInBounds_toArray, List.set_cons_zero, List.set_cons_succ])
                      refine wpAnyH_done (by kernel_rfl) ?_ _
                      have HS := Lib.hid hHeld.1
                      clear hHeld
                      go_wp2_with fail
                      go_roundw
                      case rel => exact ⟨q + 1, by omega, by go_num, by rw [(show (⟨#[32]⟩ : ByteArray) = ⟨[(32 : UInt8)].toArray⟩ from rfl)]; simp only [str_add]; rw [HTK.out, ← HC5.out, ← HC4.out]; simp, HS⟩
                      case measure => simp [intOf]; omega
                    exact AllReadyH.nil
                  exact AllReadyH.nil
            · obtain rfl : q = t.kids.length := by omega
              have hl6 : c3.length + (wrs t.k 0 t.kids m).length + 1 < 1000000000000 := by
                have h1 := HLEN.out
                rw [HE.out] at h1
                rw [HC3.out]
                simp only [List.length_append, List.length_cons, List.length_nil] at h1 ⊢
                omega
              rw [List.take_length]
              go_wp2_with fail
              all_goals (try (exfalso; simp at *; omega))
              go_wp2
              go_ret
              exact ⟨by rw [HE.out, HC3.out, show (⟨#[41]⟩ : ByteArray) = ⟨[(41 : UInt8)].toArray⟩ from rfl, str_add]; simp, held_below HSQ.out⟩
end Go.Proofs.YtficmfiekibjgaaDoor

namespace Go.Proofs.YtficmfiekibjgaaDoor
open Go.RowKit

/-- Terms one behind the other, each with the slice of its kids. -/
def Row (w : World) (b : Nat) : Nat → List (Tm × Value) → Prop
  | _, [] => True
  | o, (t, s) :: r => Node w b o t s ∧ t.fine ∧ Lies w t.kids s ∧ Row w b (o + 5) r

theorem Row.at {w : World} {b : Nat} {ps : List (Tm × Value)} : ∀ {o : Nat}, Row w b o ps → ∀ i (h : i < ps.length), Node w b (o + i * 5) (ps[i]).1 (ps[i]).2 ∧ (ps[i]).1.fine ∧ Lies w (ps[i]).1.kids (ps[i]).2 := by
  induction ps with
  | nil => intro o _ i h; simp at h
  | cons p r ih =>
    intro o hr i h
    cases i with
    | zero => exact ⟨by simpa using hr.1, hr.2.1, hr.2.2.1⟩
    | succ i =>
      have := ih hr.2.2.2 i (by simpa using h)
      rw [show o + 5 + i * 5 = o + (i + 1) * 5 by omega] at this
      simpa using this

theorem Row.lies {w : World} {b o cap : Nat} {ps : List (Tm × Value)} (h : Row w b o ps) (hc : ps.length ≤ cap) (hm : cap ≤ maxLen) : Lies w (ps.map (·.1)) (.slice (some ⟨b, o, none⟩) ps.length cap) := by
  have := Lies.mk (w := w) (ps.map (·.1)) (some ⟨b, o, none⟩) cap (fun i => (ps[i]?.map (·.2)).getD (.slice none 0 0)) (by simpa using hc) hm
    (fun x hx => by
      obtain ⟨p, hp, rfl⟩ := List.mem_map.1 hx
      obtain ⟨i, hi, rfl⟩ := List.getElem_of_mem hp
      exact (h.at i hi).2.1)
    (fun i hi => by
      have hi' : i < ps.length := by simpa using hi
      refine ⟨b, o, rfl, ?_⟩
      simp only [List.getElem_map, List.getElem?_eq_getElem hi', Option.map_some, Option.getD_some]
      exact (h.at i hi').1)
    (fun i hi => by
      have hi' : i < ps.length := by simpa using hi
      simp only [List.getElem_map, List.getElem?_eq_getElem hi', Option.map_some, Option.getD_some]
      exact (h.at i hi').2.2)
  simpa using this

theorem lies_nil (w : World) : Lies w [] (.slice none 0 0) := .mk [] none 0 (fun _ => .nilIface) (Nat.le_refl _) (by decide) (fun _ h => by cases h) (fun _ h => by cases h) (fun _ h => by cases h)

end Go.Proofs.YtficmfiekibjgaaDoor

namespace Go.Proofs.YtficmfiekibjgaaDoor
open Go.RowKit

theorem heapX3 (w : World) (a b c : Obj) : (((w.alloc a).alloc b).alloc c).heap[w.heap.size]? = some a ∧ (((w.alloc a).alloc b).alloc c).heap[w.heap.size + 1]? = some b ∧ (((w.alloc a).alloc b).alloc c).heap[w.heap.size + 2]? = some c := by
  refine ⟨?_, ?_, ?_⟩
  · rw [Lib.alloc_old _ _ _ (by simp; omega), Lib.alloc_old _ _ _ (by simp)]; exact alloc_heap_new' w a
  · rw [Lib.alloc_old _ _ _ (by simp)]; have h := alloc_heap_new' (w.alloc a) b; rw [World.size_alloc] at h; exact h
  · have h := alloc_heap_new' ((w.alloc a).alloc b) c; rw [World.size_alloc, World.size_alloc] at h; exact h
def wakeX : Tm := .mk 14 0 0 0 [.mk 1 4 0 0 [], .mk 15 0 0 0 [.mk 2 0 0 0 [], .mk 2 1 0 0 []]]
def wakeXw (w : World) : World := ((w.alloc (.cells #[.int .i64 2, .int .i64 0, .int .i64 0, .int .i64 0, .slice none 0 0, .int .i64 2, .int .i64 1, .int .i64 0, .int .i64 0, .slice none 0 0] 24)).alloc (.cells #[.int .i64 1, .int .i64 4, .int .i64 0, .int .i64 0, .slice none 0 0, .int .i64 15, .int .i64 0, .int .i64 0, .int .i64 0, .slice (some ⟨w.heap.size, 0, none⟩) 2 2] 24)).alloc (.cells #[.int .i64 14, .int .i64 0, .int .i64 0, .int .i64 0, .slice (some ⟨w.heap.size + 1, 0, none⟩) 2 2] 24)
theorem wakeX_heap (w : World) : (wakeXw w).heap[w.heap.size]? = some (.cells #[.int .i64 2, .int .i64 0, .int .i64 0, .int .i64 0, .slice none 0 0, .int .i64 2, .int .i64 1, .int .i64 0, .int .i64 0, .slice none 0 0] 24) ∧ (wakeXw w).heap[w.heap.size + 1]? = some (.cells #[.int .i64 1, .int .i64 4, .int .i64 0, .int .i64 0, .slice none 0 0, .int .i64 15, .int .i64 0, .int .i64 0, .int .i64 0, .slice (some ⟨w.heap.size, 0, none⟩) 2 2] 24) ∧ (wakeXw w).heap[w.heap.size + 2]? = some (.cells #[.int .i64 14, .int .i64 0, .int .i64 0, .int .i64 0, .slice (some ⟨w.heap.size + 1, 0, none⟩) 2 2] 24) := by
  exact heapX3 w _ _ _
theorem smallX_fine (k i : Int) (l : List Tm) (hk : I64 k) (hi : I64 i) : (Tm.mk k i 0 0 l).fine := ⟨hk, hi, by show I64 0; unfold I64; omega, by show I64 0; unfold I64; omega⟩
theorem smallX_I64 (n : Nat) (h : n < 1000) : I64 (n : Int) := by unfold I64; omega
theorem wakeX_lies (w : World) : Lies (wakeXw w) wakeX.kids (.slice (some ⟨w.heap.size + 1, 0, none⟩) 2 2) := by
  obtain ⟨h0, h1, -⟩ := wakeX_heap w
  have c0 := fun q => Lib.cell_of_heap h0 q
  have c1 := fun q => Lib.cell_of_heap h1 q
  have hin : Lies (wakeXw w) [.mk 2 0 0 0 [], .mk 2 1 0 0 []] (.slice (some ⟨w.heap.size, 0, none⟩) 2 2) :=
    Row.lies (ps := [(.mk 2 0 0 0 [], .slice none 0 0), (.mk 2 1 0 0 [], .slice none 0 0)]) ⟨⟨by rw [c0]; rfl, by rw [c0]; rfl, by rw [c0]; rfl, by rw [c0]; rfl, by rw [c0]; rfl⟩, smallX_fine _ _ _ (smallX_I64 2 (by decide)) (smallX_I64 0 (by decide)), lies_nil _, ⟨by rw [c0]; rfl, by rw [c0]; rfl, by rw [c0]; rfl, by rw [c0]; rfl, by rw [c0]; rfl⟩, smallX_fine _ _ _ (smallX_I64 2 (by decide)) (smallX_I64 1 (by decide)), lies_nil _, trivial⟩ (by decide) (by decide)
  exact Row.lies (ps := [(.mk 1 4 0 0 [], .slice none 0 0), (.mk 15 0 0 0 [.mk 2 0 0 0 [], .mk 2 1 0 0 []], .slice (some ⟨w.heap.size, 0, none⟩) 2 2)]) ⟨⟨by rw [c1]; rfl, by rw [c1]; rfl, by rw [c1]; rfl, by rw [c1]; rfl, by rw [c1]; rfl⟩, smallX_fine _ _ _ (smallX_I64 1 (by decide)) (smallX_I64 4 (by decide)), lies_nil _, ⟨by rw [c1]; rfl, by rw [c1]; rfl, by rw [c1]; rfl, by rw [c1]; rfl, by rw [c1]; rfl⟩, smallX_fine _ _ _ (smallX_I64 15 (by decide)) (smallX_I64 0 (by decide)), hin, trivial⟩ (Nat.le_refl 2) (by decide)
theorem wakeX_below (w : World) : Below w.heap.size w (wakeXw w) := (((Below.refl _ w).alloc (Nat.le_refl _) _).alloc (by simp) _).alloc (by simp; omega) _
theorem wakeX_one : writeB wakeX 1 = [40, 76, 97, 109, 32, 118, 49, 32, 40, 115, 111, 114, 116, 32, 52, 41, 32, 40, 65, 112, 112, 32, 118, 49, 32, 118, 48, 41, 41] := by decide +kernel
theorem wakeX_none : writeB wakeX 0 = [] := by decide +kernel
theorem vnames_two : (if (0 : Int) ≤ 2 ∧ (2 : Int) ≤ 1000000 then vnames (2 : Int).toNat else []) = [[118, 48], [118, 49]] := by decide +kernel

set_option maxRecDepth 20000 in
set_option maxHeartbeats 2000000 in
theorem wakes10_any (w : World) (hW : WTab w) : Calls Tryd.prog 9 #[] w fun e w' => e = .returned (.bool true) ∧ Below w.heap.size w w' := by
  obtain ⟨h0, h1, h2⟩ := wakeX_heap w
  have HW := Lib.hid (hW.later (wakeX_below w))
  have HL := Lib.hid (wakeX_lies w)
  have HB0 := Lib.hid (wakeX_below w)
  have hsw : (wakeXw w).heap.size = w.heap.size + 3 := by simp [wakeXw]
  have H2 := Lib.hid h2
  have HSW := Lib.hid hsw
  clear h0 h1 h2 hsw hW
  go_enter Tryd.func9, Tryd.ntmps9
  go_wp2_with fail
  refine (names_any 2 (wakeXw w) HW.out).mono ?_
  rintro e w1 ⟨v1, rfl, hrow, hb1⟩
  rw [vnames_two] at hrow
  obtain ⟨g, cap, rfl⟩ : ∃ g cap, v1 = .slice (some ⟨g, 0, none⟩) 2 cap := by
    rcases hrow.2 with ⟨_, h0⟩ | ⟨g, cap, cur, hv, _⟩
    · cases h0
    · exact ⟨g, cap, hv⟩
  have HR := Lib.hid hrow
  have HB1 := Lib.hid (HB0.out.trans (hb1.mono (by rw [HSW.out]; omega)))
  have HL1 := Lib.hid (HL.out.keep hb1)
  have HW1 := Lib.hid (HW.out.later hb1)
  have hx1 := (hb1.block (w.heap.size + 2) (by rw [HSW.out]; omega)).trans H2.out
  have hz1 : w.heap.size + 1 + 1 < w1.heap.size := by have := hb1.size; rw [HSW.out] at this; omega
  have HX1 := Lib.hid hx1
  have d0 : w1.cell? ⟨w.heap.size + 1 + 1, 0, none⟩ = some (.int .i64 14) := by rw [Lib.cell_of_heap hx1]; rfl
  have d1 : w1.cell? ⟨w.heap.size + 1 + 1, 1, none⟩ = some (.int .i64 0) := by rw [Lib.cell_of_heap hx1]; rfl
  have d2 : w1.cell? ⟨w.heap.size + 1 + 1, 2, none⟩ = some (.int .i64 0) := by rw [Lib.cell_of_heap hx1]; rfl
  have d3 : w1.cell? ⟨w.heap.size + 1 + 1, 3, none⟩ = some (.int .i64 0) := by rw [Lib.cell_of_heap hx1]; rfl
  have d4 : w1.cell? ⟨w.heap.size + 1 + 1, 4, none⟩ = some (.slice (some ⟨w.heap.size + 1, 0, none⟩) 2 2) := by rw [Lib.cell_of_heap hx1]; rfl
  clear hrow hb1 hx1
  go_wp2_with fail
  refine (write_any wakeX 1 w1 _ HL1.out HW1.out (by decide +kernel)).mono ?_
  rintro e w2 ⟨rfl, hb2⟩
  rw [wakeX_one]
  have HR2 := Lib.hid (HR.out.keep hb2)
  have HB2 := Lib.hid (HB1.out.trans (hb2.mono (by omega)))
  have HL2 := Lib.hid (HL1.out.keep hb2)
  have HW2 := Lib.hid (HW1.out.later hb2)
  have hx2 := (hb2.block (w.heap.size + 2) (by omega)).trans HX1.out
  clear d0 d1 d2 d3 d4 hb2
  have d0 : w2.cell? ⟨w.heap.size + 1 + 1, 0, none⟩ = some (.int .i64 14) := by rw [Lib.cell_of_heap hx2]; rfl
  have d1 : w2.cell? ⟨w.heap.size + 1 + 1, 1, none⟩ = some (.int .i64 0) := by rw [Lib.cell_of_heap hx2]; rfl
  have d2 : w2.cell? ⟨w.heap.size + 1 + 1, 2, none⟩ = some (.int .i64 0) := by rw [Lib.cell_of_heap hx2]; rfl
  have d3 : w2.cell? ⟨w.heap.size + 1 + 1, 3, none⟩ = some (.int .i64 0) := by rw [Lib.cell_of_heap hx2]; rfl
  have d4 : w2.cell? ⟨w.heap.size + 1 + 1, 4, none⟩ = some (.slice (some ⟨w.heap.size + 1, 0, none⟩) 2 2) := by rw [Lib.cell_of_heap hx2]; rfl
  clear hx2
  go_wp2_with fail
  refine (write_any wakeX 0 w2 _ HL2.out HW2.out (by decide +kernel)).mono ?_
  rintro e w3 ⟨rfl, hb3⟩
  rw [wakeX_none]
  have hr3 := HR2.out.keep hb3
  have HB3 := Lib.hid (HB2.out.trans (hb3.mono (by have := HB2.out.size; omega)))
  have e1 : w3.cell? ⟨g, 1, none⟩ = some (.string ⟨#[118, 49]⟩) := hr3.cell 1 (by decide)
  clear hb3 hr3 d0 d1 d2 d3 d4
  go_wp2
  go_ret
  exact ⟨rfl, HB3.out⟩
end Go.Proofs.YtficmfiekibjgaaDoor

namespace Go.Proofs.YtficmfiekibjgaaDoor
open Go.RowKit

set_option maxHeartbeats 1000000 in
theorem refnode_any (t : Tm) (w : World) (s : Value) (hl : Lies w t.kids s) : Calls Tryd.prog 40 #[tv t s] w fun e w' => e = .returned (.bool t.nodeB) ∧ Below w.heap.size w w' := by
  obtain ⟨a, cap, S, hs, hc, hm, -⟩ := hl.out
  subst hs
  unfold maxLen at hm
  have HB := (Below.refl (w.heap.size + 1) (w.alloc (.cells #[.int .i64 t.k, .int .i64 t.i, .int .i64 t.j, .int .i64 t.n, .slice a t.kids.length cap] 24)))
  have HBX := Lib.hid (fun (wr : World) => box_cells (w := w) (wr := wr) (v0 := .int .i64 t.k) (v1 := .int .i64 t.i) (v2 := .int .i64 t.j) (v3 := .int .i64 t.n) (v4 := .slice a t.kids.length cap) (T := 24))
  clear hl
  unfold tv
  go_enter Tryd.func40, Tryd.ntmps40
  cases h3 : ((t.kids.length : Int) == kidsN t.k t.n)
  · go_wp2
    go_region_with (go_at_call 46; refine (refkids_any _ _ _).mono ?_; rintro e w1 ⟨rfl, hb1⟩; have HB2 := below_call HB.drew hb1 (by simp); obtain ⟨d0, d1, d2, d3, d4⟩ := HBX.out _ HB2; clear hb1)
    all_goals
      go_wp2
      go_ret
      exact ⟨ret_bool (by simp only [Tm.nodeB, h3, Bool.false_and]), below_of_box HB2⟩
  · go_wp2
    go_region_held3 (fun w' => w'.cell? ⟨w.heap.size, 0, none⟩ = some (.int .i64 t.k) ∧ w'.cell? ⟨w.heap.size, 1, none⟩ = some (.int .i64 t.i) ∧ w'.cell? ⟨w.heap.size, 2, none⟩ = some (.int .i64 t.j) ∧ w'.cell? ⟨w.heap.size, 3, none⟩ = some (.int .i64 t.n) ∧ w'.cell? ⟨w.heap.size, 4, none⟩ = some (.slice a t.kids.length cap)) (go_keep)
      (first | (go_at_call 46; refine (refkids_any _ _ _).mono ?_; rintro e w1 ⟨rfl, hb1⟩; have HB2 := below_call HB.drew hb1 (by simp); obtain ⟨d0, d1, d2, d3, d4⟩ := HBX.out _ HB2; clear hb1) | (go_at_call 47; refine (refnumbers_any t _ _).mono ?_; rintro e w2 ⟨rfl, hb2⟩; have HB3 := below_call HB2 hb2 (by have := HB2.size; simpa using this); obtain ⟨y0, y1, y2, y3, y4⟩ := HBX.out _ HB3; clear hb2))
    go_wp2
    go_ret
    exact ⟨ret_bool (by simp only [Tm.nodeB, h3, Bool.true_and]), below_of_box HB3⟩

set_option maxHeartbeats 1000000 in
theorem refplain_any (t : Tm) : ∀ (w : World) (s : Value), Lies w t.kids s → Calls Tryd.prog 23 #[tv t s] w fun e w' => e = .returned (.bool t.plainB) ∧ Below w.heap.size w w' := by
  induction t using Tm.ind with
  | h t ih =>
    intro w s hl
    obtain ⟨a, cap, S, rfl, hc, hm, hf, hn, hk⟩ := hl.out
    unfold tv
    unfold maxLen at hm
    have HL := Lib.hid ((hl.keep (w' := w.alloc (.cells #[.int .i64 t.k, .int .i64 t.i, .int .i64 t.j, .int .i64 t.n, .slice a t.kids.length cap] 24)) ((Below.refl _ _).alloc (Nat.le_refl _) _)))
    have HP := Lib.hid (t.plainB_eq)
    have IH := Lib.hid ih
    have HN := Lib.hid hn
    have HK := Lib.hid hk
    have HBX := Lib.hid (fun (wr : World) => box_cells (w := w) (wr := wr) (v0 := .int .i64 t.k) (v1 := .int .i64 t.i) (v2 := .int .i64 t.j) (v3 := .int .i64 t.n) (v4 := .slice a t.kids.length cap) (T := 24))
    clear ih hn hk hf hl
    by_cases hkind : t.k = 1 ∨ t.k = 2 ∨ (13 ≤ t.k ∧ t.k ≤ 23)
    rotate_left
    · have h1 : (t.k == 1) = false := by simp; omega
      have h2 : (t.k == 2) = false := by simp; omega
      have h5 : t.plainB = false := by rw [HP.out, h1, h2]; simp; omega
      have H5 := Lib.hid h5
      clear h5
      have h1' : (t.k != 1) = true := by simp; omega
      have h2' : (t.k != 2) = true := by simp; omega
      have h3 : t.k < 13 ∨ 23 < t.k := by omega
      rcases h3 with h3 | h3
      all_goals
        go_enter Tryd.func23, Tryd.ntmps23
        go_wp2
        go_ret
        exact ⟨ret_bool H5.out.symm, (Below.refl _ _).alloc (Nat.le_refl _) _⟩
    have hkb : (t.k == 1 || (t.k == 2 || (decide (13 ≤ t.k) && decide (t.k ≤ 23)))) = true := by simp; omega
    have HP2 : Hid (t.plainB = (t.nodeB && plains t.kids)) := by have := HP.out; rw [hkb, Bool.true_and] at this; exact this
    clear hkb
    have hk3 : t.k = 1 ∨ t.k = 2 ∨ (¬ t.k = 1 ∧ ¬ t.k = 2 ∧ 13 ≤ t.k ∧ t.k ≤ 23) := by omega
    have hb3 : ((t.k != 1) = false) ∨ ((t.k != 1) = true ∧ (t.k != 2) = false) ∨ ((t.k != 1) = true ∧ (t.k != 2) = true ∧ 13 ≤ t.k ∧ t.k ≤ 23) := by
      rcases hk3 with h | h | h
      · left; simp [h]
      · right; left; simp [h]
      · right; right; simp; omega
    clear hk3 hkind
    cases hn : t.nodeB with
    | false =>
      have h5 : t.plainB = false := by rw [HP2.out, hn]; rfl
      have H5 := Lib.hid h5
      have HNN := Lib.hid hn
      clear h5 hn
      rcases hb3 with h1 | ⟨h1, h2⟩ | ⟨h1, h2, h3, h4⟩
      all_goals
        go_enter Tryd.func23, Tryd.ntmps23
        go_wp2_with fail
        refine (refnode_any t _ _ HL.out).mono ?_
        rintro e w1 ⟨rfl, hb'⟩
        have HB2 := below_call (Below.refl (w.heap.size + 1) (w.alloc (.cells #[.int .i64 t.k, .int .i64 t.i, .int .i64 t.j, .int .i64 t.n, .slice a t.kids.length cap] 24))) hb' (by simp)
        obtain ⟨d0, d1, d2, d3, d4⟩ := HBX.out _ HB2
        clear hb'
        rw [HNN.out]
        go_wp2
        go_ret
        exact ⟨ret_bool H5.out.symm, below_of_box HB2⟩
    | true =>
      have HNN := Lib.hid hn
      clear hn
      rcases hb3 with h1 | ⟨h1, h2⟩ | ⟨h1, h2, h3, h4⟩
      all_goals
        go_enter Tryd.func23, Tryd.ntmps23
        go_wp2_with fail
        refine (refnode_any t _ _ HL.out).mono ?_
        rintro e w1 ⟨rfl, hb'⟩
        have HB2 := below_call (Below.refl (w.heap.size + 1) (w.alloc (.cells #[.int .i64 t.k, .int .i64 t.i, .int .i64 t.j, .int .i64 t.n, .slice a t.kids.length cap] 24))) hb' (by simp)
        obtain ⟨d0, d1, d2, d3, d4⟩ := HBX.out _ HB2
        clear hb'
        rw [HNN.out]
        go_wp2_with fail
        go_loopw [3] (fun iv wr => ∃ k : Nat, k ≤ t.kids.length ∧ iv = .int .i64 k ∧ Hid (plains (t.kids.take k) = true) ∧ Below (w.heap.size + 1) (w.alloc (.cells #[.int .i64 t.k, .int .i64 t.i, .int .i64 t.j, .int .i64 t.n, .slice a t.kids.length cap] 24)) wr) (fun iv _ => t.kids.length - (intOf iv).toNat)
        case atStart => exact ⟨0, Nat.zero_le _, rfl, by simp [Hid, plains], HB2⟩
        case round =>
          obtain ⟨k, hk, rfl, hgood, hb⟩ := hrel
          obtain ⟨d0, d1, d2, d3, d4⟩ := HBX.out _ hb
          have hb0 := below_of_box hb
          by_cases hlt : k < t.kids.length
          · obtain ⟨b, o, rfl, hx⟩ := HN.out k hlt
            have hy := hx.below hb0 hx.lt
            obtain ⟨c0, c1, c2, c3, c4⟩ := hy
            have hq := HK.out k hlt
            obtain ⟨a', cap', S', hS, -⟩ := hq.out
            rw [hS] at c4 hq
            have HQ := Lib.hid (hq.keep hb0)
            clear hS hq
            have HM := Lib.hid (List.getElem_mem hlt)
            have HT := Lib.hid (plains_take t.kids k hlt)
            go_wp2_with fail
            refine (IH.out _ HM.out _ _ HQ.out).mono ?_
            rintro e w2 ⟨rfl, hb'⟩
            have HB3 := below_call hb hb' (by have := hb.size; simpa using this)
            obtain ⟨x0, x1, x2, x3, x4⟩ := HBX.out _ HB3
            clear hb' hb d0 d1 d2 d3 d4 hb0 c0 c1 c2 c3 c4
            cases hp : (t.kids[k]).plainB
            · go_wp2
              go_ret
              exact ⟨ret_bool (by rw [HP2.out, plains_of t.kids k hlt hp, Bool.and_false]), below_of_box HB3⟩
            · go_wp2
              go_roundw
              case rel => exact ⟨k + 1, by omega, by go_num, by show _ = true; rw [HT.out, hgood.out, hp]; rfl, HB3⟩
              case measure => simp [intOf]; omega
          · have : k = t.kids.length := by omega
            subst this
            go_wp2
            go_ret
            exact ⟨ret_bool (by have hg := hgood.out; rw [List.take_length] at hg; rw [HP2.out, HNN.out, hg]; rfl), hb0⟩
end Go.Proofs.YtficmfiekibjgaaDoor

namespace Go.Proofs.YtficmfiekibjgaaDoor
open Go.RowKit

set_option maxHeartbeats 1000000 in
theorem refmarked_any (t : Tm) : ∀ (w : World) (s : Value), Lies w t.kids s → Calls Tryd.prog 22 #[tv t s] w fun e w' => e = .returned (.bool t.markedB) ∧ Below w.heap.size w w' := by
  induction t using Tm.ind with
  | h t ih =>
    intro w s hl
    obtain ⟨a, cap, S, rfl, hc, hm, hf, hn, hk⟩ := hl.out
    unfold tv
    unfold maxLen at hm
    have HL := Lib.hid ((hl.keep (w' := w.alloc (.cells #[.int .i64 t.k, .int .i64 t.i, .int .i64 t.j, .int .i64 t.n, .slice a t.kids.length cap] 24)) ((Below.refl _ _).alloc (Nat.le_refl _) _)))
    have HP := Lib.hid (t.markedB_eq)
    have IH := Lib.hid ih
    have HN := Lib.hid hn
    have HK := Lib.hid hk
    have HBX := Lib.hid (fun (wr : World) => box_cells (w := w) (wr := wr) (v0 := .int .i64 t.k) (v1 := .int .i64 t.i) (v2 := .int .i64 t.j) (v3 := .int .i64 t.n) (v4 := .slice a t.kids.length cap) (T := 24))
    clear ih hn hk hf hl
    by_cases h1 : t.k < 1
    · have H5 : Hid (t.markedB = false) := by show _ = _; rw [HP.out]; simp; omega
      go_enter Tryd.func22, Tryd.ntmps22
      go_wp2
      go_ret
      exact ⟨ret_bool H5.out.symm, (Below.refl _ _).alloc (Nat.le_refl _) _⟩
    by_cases h2 : 12 < t.k
    · have H5 : Hid (t.markedB = false) := by show _ = _; rw [HP.out]; simp; omega
      go_enter Tryd.func22, Tryd.ntmps22
      go_wp2
      go_ret
      exact ⟨ret_bool H5.out.symm, (Below.refl _ _).alloc (Nat.le_refl _) _⟩
    have hkb : (decide (1 ≤ t.k) && decide (t.k ≤ 12)) = true := by simp; omega
    have HP2 : Hid (t.markedB = (t.nodeB && markeds (t.k == 12) 0 t.kids)) := by have := HP.out; rw [hkb, Bool.true_and] at this; exact this
    clear hkb
    cases hn : t.nodeB with
    | false =>
      have H5 : Hid (t.markedB = false) := by show _ = _; rw [HP2.out, hn]; rfl
      have HNN := Lib.hid hn
      clear hn
      go_enter Tryd.func22, Tryd.ntmps22
      go_wp2_with fail
      refine (refnode_any t _ _ HL.out).mono ?_
      rintro e w1 ⟨rfl, hb'⟩
      have HB2 := below_call (Below.refl (w.heap.size + 1) (w.alloc (.cells #[.int .i64 t.k, .int .i64 t.i, .int .i64 t.j, .int .i64 t.n, .slice a t.kids.length cap] 24))) hb' (by simp)
      obtain ⟨d0, d1, d2, d3, d4⟩ := HBX.out _ HB2
      clear hb'
      rw [HNN.out]
      go_wp2
      go_ret
      exact ⟨ret_bool H5.out.symm, below_of_box HB2⟩
    | true =>
      have HNN := Lib.hid hn
      clear hn
      go_enter Tryd.func22, Tryd.ntmps22
      go_wp2_with fail
      refine (refnode_any t _ _ HL.out).mono ?_
      rintro e w1 ⟨rfl, hb'⟩
      have HB2 := below_call (Below.refl (w.heap.size + 1) (w.alloc (.cells #[.int .i64 t.k, .int .i64 t.i, .int .i64 t.j, .int .i64 t.n, .slice a t.kids.length cap] 24))) hb' (by simp)
      obtain ⟨d0, d1, d2, d3, d4⟩ := HBX.out _ HB2
      clear hb'
      rw [HNN.out]
      go_wp2_with fail
      go_loopw [3] (fun iv wr => ∃ k : Nat, k ≤ t.kids.length ∧ iv = .int .i64 k ∧ Hid (markeds (t.k == 12) 0 (t.kids.take k) = true) ∧ Below (w.heap.size + 1) (w.alloc (.cells #[.int .i64 t.k, .int .i64 t.i, .int .i64 t.j, .int .i64 t.n, .slice a t.kids.length cap] 24)) wr) (fun iv _ => t.kids.length - (intOf iv).toNat)
      case atStart => exact ⟨0, Nat.zero_le _, rfl, by simp [Hid, markeds], HB2⟩
      case round =>
        obtain ⟨k, hk, rfl, hgood, hb⟩ := hrel
        obtain ⟨d0, d1, d2, d3, d4⟩ := HBX.out _ hb
        have hb0 := below_of_box hb
        by_cases hlt : k < t.kids.length
        · obtain ⟨b, o, rfl, hx⟩ := HN.out k hlt
          have hy := hx.below hb0 hx.lt
          obtain ⟨c0, c1, c2, c3, c4⟩ := hy
          have hq := HK.out k hlt
          obtain ⟨a', cap', S', hS, -⟩ := hq.out
          rw [hS] at c4 hq
          have HQ := Lib.hid (hq.keep hb0)
          clear hS hq
          have HM := Lib.hid (List.getElem_mem hlt)
          have HT := Lib.hid (markeds_take (t.k == 12) t.kids 0 k hlt)
          cases e12 : (t.k == 12) <;> cases e2 : ((k : Int) == 2)
          rotate_right
          · have e2' : (k == 2) = ((k : Int) == 2) := by rw [e2]; simp at e2 ⊢; omega
            have hkB : (t.kids[k]).kidB (t.k == 12) k = (t.kids[k]).plainB := by simp [Tm.kidB, e12, e2', e2]
            have HKB := Lib.hid hkB
            clear e2' hkB
            go_wp2_with fail
            refine (refplain_any _ _ _ HQ.out).mono ?_
            rintro e w2 ⟨rfl, hb'⟩
            have HB3 := below_call hb hb' (by have := hb.size; simpa using this)
            obtain ⟨x0, x1, x2, x3, x4⟩ := HBX.out _ HB3
            clear hb' hb d0 d1 d2 d3 d4 hb0 c0 c1 c2 c3 c4
            cases hp : (t.kids[k]).plainB
            · go_wp2
              go_ret
              exact ⟨ret_bool (by rw [HP2.out, markeds_of _ t.kids 0 k hlt (by rw [Nat.zero_add, HKB.out]; exact hp), Bool.and_false]), below_of_box HB3⟩
            · go_wp2
              go_roundw
              case rel => exact ⟨k + 1, by omega, by go_num, by have h1 := HT.out; rw [hgood.out, Nat.zero_add, HKB.out, hp] at h1; show _ = true; first | exact h1 | (rw [e12] at h1; exact h1), HB3⟩
              case measure => simp [intOf]; omega
          all_goals
            have e2' : (k == 2) = ((k : Int) == 2) := by rw [e2]; simp at e2 ⊢; omega
            have hkB : (t.kids[k]).kidB (t.k == 12) k = (t.kids[k]).markedB := by simp [Tm.kidB, e12, e2', e2]
            have HKB := Lib.hid hkB
            clear e2' hkB
            go_wp2_with fail
            refine (IH.out _ HM.out _ _ HQ.out).mono ?_
            rintro e w2 ⟨rfl, hb'⟩
            have HB3 := below_call hb hb' (by have := hb.size; simpa using this)
            obtain ⟨x0, x1, x2, x3, x4⟩ := HBX.out _ HB3
            clear hb' hb d0 d1 d2 d3 d4 hb0 c0 c1 c2 c3 c4
            cases hp : (t.kids[k]).markedB
            · go_wp2
              go_ret
              exact ⟨ret_bool (by rw [HP2.out, markeds_of _ t.kids 0 k hlt (by rw [Nat.zero_add, HKB.out]; exact hp), Bool.and_false]), below_of_box HB3⟩
            · go_wp2
              go_roundw
              case rel => exact ⟨k + 1, by omega, by go_num, by have h1 := HT.out; rw [hgood.out, Nat.zero_add, HKB.out, hp] at h1; show _ = true; first | exact h1 | (rw [e12] at h1; exact h1), HB3⟩
              case measure => simp [intOf]; omega
        · have : k = t.kids.length := by omega
          subst this
          go_wp2
          go_ret
          exact ⟨ret_bool (by have hg := hgood.out; rw [List.take_length] at hg; rw [HP2.out, HNN.out, hg]; rfl), hb0⟩
end Go.Proofs.YtficmfiekibjgaaDoor
