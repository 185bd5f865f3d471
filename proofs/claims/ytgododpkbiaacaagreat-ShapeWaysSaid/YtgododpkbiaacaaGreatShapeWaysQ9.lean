/-
  ShapeWays holds: for every input the call returns true, and the arguments read as before. No condition.
-/
import Derived.Test.YtgododpkbiaacaaGreatRows
import Derived.WalkKit
import Derived.Lib.Hide
import Derived.KernelRfl
import Derived.Deep.RegionWith
import Derived.Deep.RegionHeld3
import Derived.Deep.AppendLies
import Derived.Laws.Rows
import Derived.Laws.IdiomCopy
import Derived.Deep.Slices
import Derived.Lib.QuietBelow
import Derived.StillTailTactics
import Derived.BigQuiet
import Derived.IntWalk
import Derived.OwnWalk
import Derived.Deep.RegionLaw
import Derived.Deep.QuietTactic
import Derived.Deep.LoopGhost
import Derived.Deep.DeepCutAuto
import Derived.OrdersHeld
import Derived.Deep.MidRow
import Derived.Laws.Tables
import Derived.Laws.CopyOwn
import Derived.Laws.CopyRow
import Derived.Deep.RegionHeld
import Derived.Lib.MinMax
import Derived.ProofKit
import Derived.OpenShut
import Derived.Carry
import Derived.ChangeSlices
import Derived.JoinedOf
import Derived.Test.YtgododpkbiaacaaGreatShapeWaysQ8
namespace Go.Proofs.YtgododpkbiaacaaGreat
open Go.RowKit

theorem par_any {V U : World} {l : List Tm} {s : Value} (h : Lies U l s) : LiesQ U (Par V V.heap.size [] (fun _ => True)) l s := h.q.wide (fun b _ => by
  by_cases hb : b < V.heap.size
  · exact Or.inl ⟨trivial, hb⟩
  · exact Or.inr ⟨Nat.le_of_not_lt hb, fun h => nomatch h⟩)
theorem keepterms_anyW (l m : List Tm) (w : World) (s r : Value) (hl : Lies w l s) (hm : Lies w m r) : Calls Tryz.prog 11 #[s, r] w fun e w' => e = .returned (.bool (samesB l m)) ∧ Below w.heap.size w w' :=
  terms_of l (fun x _ y w s r hx hy => keepsame_any x y w s r hx hy) m w s r hl hm
theorem samesB_selfW : ∀ l : List Tm, samesB l l = true
  | [] => by simp [samesB]
  | x :: r => by simp [samesB, sameB_self, samesB_selfW r]
def shapeWaysr4_0 : Oper := { dst := some 17, op := Go.Op.move (Go.Operand.tmp 5), type := 27, pos := "law.go:43", after := #[], guard := none }
def shapeWaysr4_1 : Oper := { dst := some 18, op := Go.Op.call { callee := Go.Callee.builtin Go.Builtin.len, args := #[Go.Operand.tmp 17], argTypes := #[27] }, type := 3, pos := "law.go:43", after := #[{ on := 0, ground := Go.Ground.data }], guard := none }
def shapeWaysr4_2 : Oper := { dst := some 19, op := Go.Op.move (Go.Operand.tmp 6), type := 29, pos := "law.go:43", after := #[], guard := none }
def shapeWaysr4_3 : Oper := { dst := some 20, op := Go.Op.call { callee := Go.Callee.builtin Go.Builtin.len, args := #[Go.Operand.tmp 19], argTypes := #[29] }, type := 3, pos := "law.go:43", after := #[{ on := 2, ground := Go.Ground.data }], guard := none }
def shapeWaysr4_4 : Oper := { dst := some 21, op := Go.Op.binOp Go.BinOp.neq 3 (Go.Operand.tmp 18) (Go.Operand.tmp 20) 3, type := 4, pos := "law.go:43", after := #[{ on := 1, ground := Go.Ground.data }, { on := 3, ground := Go.Ground.data }], guard := none }
def shapeWaysr4_5 : Oper := { dst := some 22, op := Go.Op.move (Go.Operand.tmp 21), type := 4, pos := "law.go:43", after := #[{ on := 4, ground := Go.Ground.data }], guard := none }
def shapeWaysr4_6 : Oper := { dst := some 23, op := Go.Op.load 25 (Go.Operand.tmp 3), type := 25, pos := "law.go:43", after := #[{ on := 5, ground := Go.Ground.guard }], guard := some (5, false) }
def shapeWaysr4_7 : Oper := { dst := some 24, op := Go.Op.call { callee := Go.Callee.value (Go.Operand.func 9), args := #[Go.Operand.tmp 23], argTypes := #[25] }, type := 25, pos := "law.go:43", after := #[{ on := 6, ground := Go.Ground.data }, { on := 5, ground := Go.Ground.chain }, { on := 5, ground := Go.Ground.guard }], guard := some (5, false) }
def shapeWaysr4_8 : Oper := { dst := some 25, op := Go.Op.load 25 (Go.Operand.tmp 3), type := 25, pos := "law.go:43", after := #[{ on := 5, ground := Go.Ground.guard }], guard := some (5, false) }
def shapeWaysr4_9 : Oper := { dst := some 26, op := Go.Op.call { callee := Go.Callee.value (Go.Operand.func 10), args := #[Go.Operand.tmp 25], argTypes := #[25] }, type := 25, pos := "law.go:43", after := #[{ on := 8, ground := Go.Ground.data }, { on := 7, ground := Go.Ground.chain }, { on := 5, ground := Go.Ground.guard }], guard := some (5, false) }
def shapeWaysr4_10 : Oper := { dst := some 27, op := Go.Op.call { callee := Go.Callee.value (Go.Operand.func 8), args := #[Go.Operand.tmp 24, Go.Operand.tmp 26], argTypes := #[25, 25] }, type := 4, pos := "law.go:43", after := #[{ on := 7, ground := Go.Ground.data }, { on := 9, ground := Go.Ground.data }, { on := 9, ground := Go.Ground.chain }, { on := 5, ground := Go.Ground.guard }], guard := some (5, false) }
def shapeWaysr4_11 : Oper := { dst := some 28, op := Go.Op.unOp Go.UnOp.not 4 (Go.Operand.tmp 27), type := 4, pos := "law.go:43", after := #[{ on := 10, ground := Go.Ground.data }, { on := 5, ground := Go.Ground.guard }], guard := some (5, false) }
def shapeWaysr4_12 : Oper := { dst := some 29, op := Go.Op.pick (Go.Operand.tmp 22) (Go.Operand.const (Go.Value.bool true)) (Go.Operand.tmp 28), type := 4, pos := "law.go:43", after := #[{ on := 5, ground := Go.Ground.data }, { on := 11, ground := Go.Ground.data }], guard := none }
def shapeWaysr9_0 : Oper := { dst := some 36, op := Go.Op.move (Go.Operand.tmp 5), type := 27, pos := "law.go:47", after := #[], guard := none }
def shapeWaysr9_1 : Oper := { dst := some 37, op := Go.Op.move (Go.Operand.tmp 7), type := 3, pos := "law.go:47", after := #[], guard := none }
def shapeWaysr9_2 : Oper := { dst := some 38, op := Go.Op.indexAddr 27 (Go.Operand.tmp 36) (Go.Operand.tmp 37), type := 0, pos := "law.go:47", after := #[{ on := 0, ground := Go.Ground.data }, { on := 1, ground := Go.Ground.data }], guard := none }
def shapeWaysr9_3 : Oper := { dst := some 39, op := Go.Op.fieldAddr 34 (Go.Operand.tmp 38) 0, type := 0, pos := "law.go:47", after := #[{ on := 2, ground := Go.Ground.data }], guard := none }
def shapeWaysr9_4 : Oper := { dst := some 40, op := Go.Op.load 3 (Go.Operand.tmp 39), type := 3, pos := "law.go:47", after := #[{ on := 3, ground := Go.Ground.data }], guard := none }
def shapeWaysr9_5 : Oper := { dst := some 41, op := Go.Op.move (Go.Operand.tmp 5), type := 27, pos := "law.go:47", after := #[], guard := none }
def shapeWaysr9_6 : Oper := { dst := some 42, op := Go.Op.move (Go.Operand.tmp 7), type := 3, pos := "law.go:47", after := #[], guard := none }
def shapeWaysr9_7 : Oper := { dst := some 43, op := Go.Op.indexAddr 27 (Go.Operand.tmp 41) (Go.Operand.tmp 42), type := 0, pos := "law.go:47", after := #[{ on := 5, ground := Go.Ground.data }, { on := 6, ground := Go.Ground.data }], guard := none }
def shapeWaysr9_8 : Oper := { dst := some 44, op := Go.Op.fieldAddr 34 (Go.Operand.tmp 43) 1, type := 0, pos := "law.go:47", after := #[{ on := 7, ground := Go.Ground.data }], guard := none }
def shapeWaysr9_9 : Oper := { dst := some 45, op := Go.Op.load 25 (Go.Operand.tmp 44), type := 25, pos := "law.go:47", after := #[{ on := 8, ground := Go.Ground.data }], guard := none }
def shapeWaysr9_10 : Oper := { dst := some 46, op := Go.Op.move (Go.Operand.tmp 5), type := 27, pos := "law.go:47", after := #[], guard := none }
def shapeWaysr9_11 : Oper := { dst := some 47, op := Go.Op.move (Go.Operand.tmp 7), type := 3, pos := "law.go:47", after := #[], guard := none }
def shapeWaysr9_12 : Oper := { dst := some 48, op := Go.Op.indexAddr 27 (Go.Operand.tmp 46) (Go.Operand.tmp 47), type := 0, pos := "law.go:47", after := #[{ on := 10, ground := Go.Ground.data }, { on := 11, ground := Go.Ground.data }], guard := none }
def shapeWaysr9_13 : Oper := { dst := some 49, op := Go.Op.fieldAddr 34 (Go.Operand.tmp 48) 2, type := 0, pos := "law.go:47", after := #[{ on := 12, ground := Go.Ground.data }], guard := none }
def shapeWaysr9_14 : Oper := { dst := some 50, op := Go.Op.load 25 (Go.Operand.tmp 49), type := 25, pos := "law.go:47", after := #[{ on := 13, ground := Go.Ground.data }], guard := none }
def shapeWaysr9_15 : Oper := { dst := some 51, op := Go.Op.move (Go.Operand.tmp 5), type := 27, pos := "law.go:47", after := #[], guard := none }
def shapeWaysr9_16 : Oper := { dst := some 52, op := Go.Op.move (Go.Operand.tmp 7), type := 3, pos := "law.go:47", after := #[], guard := none }
def shapeWaysr9_17 : Oper := { dst := some 53, op := Go.Op.indexAddr 27 (Go.Operand.tmp 51) (Go.Operand.tmp 52), type := 0, pos := "law.go:47", after := #[{ on := 15, ground := Go.Ground.data }, { on := 16, ground := Go.Ground.data }], guard := none }
def shapeWaysr9_18 : Oper := { dst := some 54, op := Go.Op.fieldAddr 34 (Go.Operand.tmp 53) 3, type := 0, pos := "law.go:47", after := #[{ on := 17, ground := Go.Ground.data }], guard := none }
def shapeWaysr9_19 : Oper := { dst := some 55, op := Go.Op.load 25 (Go.Operand.tmp 54), type := 25, pos := "law.go:47", after := #[{ on := 18, ground := Go.Ground.data }], guard := none }
def shapeWaysr9_20 : Oper := { dst := some 56, op := Go.Op.move (Go.Operand.tmp 5), type := 27, pos := "law.go:47", after := #[], guard := none }
def shapeWaysr9_21 : Oper := { dst := some 57, op := Go.Op.move (Go.Operand.tmp 7), type := 3, pos := "law.go:47", after := #[], guard := none }
def shapeWaysr9_22 : Oper := { dst := some 58, op := Go.Op.indexAddr 27 (Go.Operand.tmp 56) (Go.Operand.tmp 57), type := 0, pos := "law.go:47", after := #[{ on := 20, ground := Go.Ground.data }, { on := 21, ground := Go.Ground.data }], guard := none }
def shapeWaysr9_23 : Oper := { dst := some 59, op := Go.Op.fieldAddr 34 (Go.Operand.tmp 58) 4, type := 0, pos := "law.go:47", after := #[{ on := 22, ground := Go.Ground.data }], guard := none }
def shapeWaysr9_24 : Oper := { dst := some 60, op := Go.Op.load 25 (Go.Operand.tmp 59), type := 25, pos := "law.go:47", after := #[{ on := 23, ground := Go.Ground.data }], guard := none }
def shapeWaysr9_25 : Oper := { dst := some 61, op := Go.Op.move (Go.Operand.tmp 5), type := 27, pos := "law.go:47", after := #[], guard := none }
def shapeWaysr9_26 : Oper := { dst := some 62, op := Go.Op.move (Go.Operand.tmp 7), type := 3, pos := "law.go:47", after := #[], guard := none }
def shapeWaysr9_27 : Oper := { dst := some 63, op := Go.Op.indexAddr 27 (Go.Operand.tmp 61) (Go.Operand.tmp 62), type := 0, pos := "law.go:47", after := #[{ on := 25, ground := Go.Ground.data }, { on := 26, ground := Go.Ground.data }], guard := none }
def shapeWaysr9_28 : Oper := { dst := some 64, op := Go.Op.fieldAddr 34 (Go.Operand.tmp 63) 5, type := 0, pos := "law.go:47", after := #[{ on := 27, ground := Go.Ground.data }], guard := none }
def shapeWaysr9_29 : Oper := { dst := some 65, op := Go.Op.load 25 (Go.Operand.tmp 64), type := 25, pos := "law.go:47", after := #[{ on := 28, ground := Go.Ground.data }], guard := none }
def shapeWaysr9_30 : Oper := { dst := some 66, op := Go.Op.build 35 #[(0, Go.Operand.tmp 40), (1, Go.Operand.tmp 45), (2, Go.Operand.tmp 50), (3, Go.Operand.tmp 55), (4, Go.Operand.tmp 60), (5, Go.Operand.tmp 65)], type := 35, pos := "law.go:47", after := #[{ on := 4, ground := Go.Ground.data }, { on := 9, ground := Go.Ground.data }, { on := 14, ground := Go.Ground.data }, { on := 19, ground := Go.Ground.data }, { on := 24, ground := Go.Ground.data }, { on := 29, ground := Go.Ground.data }], guard := none }
def shapeWaysr9_31 : Oper := { dst := some 8, op := Go.Op.alloc 35, type := 0, pos := "law.go:47", after := #[], guard := none }
def shapeWaysr9_32 : Oper := { dst := none, op := Go.Op.store 35 (Go.Operand.tmp 8) (Go.Operand.tmp 66), type := 0, pos := "law.go:47", after := #[{ on := 31, ground := Go.Ground.data }, { on := 30, ground := Go.Ground.data }, { on := 0, ground := Go.Ground.phase }, { on := 1, ground := Go.Ground.phase }, { on := 2, ground := Go.Ground.phase }, { on := 3, ground := Go.Ground.phase }, { on := 4, ground := Go.Ground.phase }, { on := 5, ground := Go.Ground.phase }, { on := 6, ground := Go.Ground.phase }, { on := 7, ground := Go.Ground.phase }, { on := 8, ground := Go.Ground.phase }, { on := 9, ground := Go.Ground.phase }, { on := 10, ground := Go.Ground.phase }, { on := 11, ground := Go.Ground.phase }, { on := 12, ground := Go.Ground.phase }, { on := 13, ground := Go.Ground.phase }, { on := 14, ground := Go.Ground.phase }, { on := 15, ground := Go.Ground.phase }, { on := 16, ground := Go.Ground.phase }, { on := 17, ground := Go.Ground.phase }, { on := 18, ground := Go.Ground.phase }, { on := 19, ground := Go.Ground.phase }, { on := 20, ground := Go.Ground.phase }, { on := 21, ground := Go.Ground.phase }, { on := 22, ground := Go.Ground.phase }, { on := 23, ground := Go.Ground.phase }, { on := 24, ground := Go.Ground.phase }, { on := 25, ground := Go.Ground.phase }, { on := 26, ground := Go.Ground.phase }, { on := 27, ground := Go.Ground.phase }, { on := 28, ground := Go.Ground.phase }, { on := 29, ground := Go.Ground.phase }, { on := 30, ground := Go.Ground.phase }, { on := 31, ground := Go.Ground.phase }], guard := none }
def shapeWaysr10_0 : Oper := { dst := some 67, op := Go.Op.fieldAddr 35 (Go.Operand.tmp 8) 0, type := 0, pos := "law.go:48", after := #[], guard := none }
def shapeWaysr10_1 : Oper := { dst := some 68, op := Go.Op.load 3 (Go.Operand.tmp 67), type := 3, pos := "law.go:48", after := #[{ on := 0, ground := Go.Ground.data }], guard := none }
def shapeWaysr10_2 : Oper := { dst := some 69, op := Go.Op.move (Go.Operand.tmp 6), type := 29, pos := "law.go:48", after := #[], guard := none }
def shapeWaysr10_3 : Oper := { dst := some 70, op := Go.Op.move (Go.Operand.tmp 7), type := 3, pos := "law.go:48", after := #[], guard := none }
def shapeWaysr10_4 : Oper := { dst := some 71, op := Go.Op.indexAddr 29 (Go.Operand.tmp 69) (Go.Operand.tmp 70), type := 0, pos := "law.go:48", after := #[{ on := 2, ground := Go.Ground.data }, { on := 3, ground := Go.Ground.data }], guard := none }
def shapeWaysr10_5 : Oper := { dst := some 72, op := Go.Op.fieldAddr 35 (Go.Operand.tmp 71) 0, type := 0, pos := "law.go:48", after := #[{ on := 4, ground := Go.Ground.data }], guard := none }
def shapeWaysr10_6 : Oper := { dst := some 73, op := Go.Op.load 3 (Go.Operand.tmp 72), type := 3, pos := "law.go:48", after := #[{ on := 5, ground := Go.Ground.data }], guard := none }
def shapeWaysr10_7 : Oper := { dst := some 74, op := Go.Op.binOp Go.BinOp.neq 3 (Go.Operand.tmp 68) (Go.Operand.tmp 73) 3, type := 4, pos := "law.go:48", after := #[{ on := 1, ground := Go.Ground.data }, { on := 6, ground := Go.Ground.data }], guard := none }
def shapeWaysr10_8 : Oper := { dst := some 75, op := Go.Op.move (Go.Operand.tmp 74), type := 4, pos := "law.go:48", after := #[{ on := 7, ground := Go.Ground.data }], guard := none }
def shapeWaysr10_9 : Oper := { dst := some 76, op := Go.Op.fieldAddr 35 (Go.Operand.tmp 8) 1, type := 0, pos := "law.go:48", after := #[{ on := 8, ground := Go.Ground.guard }], guard := some (8, false) }
def shapeWaysr10_10 : Oper := { dst := some 77, op := Go.Op.load 25 (Go.Operand.tmp 76), type := 25, pos := "law.go:48", after := #[{ on := 9, ground := Go.Ground.data }, { on := 8, ground := Go.Ground.guard }], guard := some (8, false) }
def shapeWaysr10_11 : Oper := { dst := some 78, op := Go.Op.fieldAddr 35 (Go.Operand.tmp 8) 2, type := 0, pos := "law.go:48", after := #[{ on := 8, ground := Go.Ground.guard }], guard := some (8, false) }
def shapeWaysr10_12 : Oper := { dst := some 79, op := Go.Op.load 25 (Go.Operand.tmp 78), type := 25, pos := "law.go:48", after := #[{ on := 11, ground := Go.Ground.data }, { on := 8, ground := Go.Ground.guard }], guard := some (8, false) }
def shapeWaysr10_13 : Oper := { dst := some 80, op := Go.Op.fieldAddr 35 (Go.Operand.tmp 8) 3, type := 0, pos := "law.go:48", after := #[{ on := 8, ground := Go.Ground.guard }], guard := some (8, false) }
def shapeWaysr10_14 : Oper := { dst := some 81, op := Go.Op.load 25 (Go.Operand.tmp 80), type := 25, pos := "law.go:48", after := #[{ on := 13, ground := Go.Ground.data }, { on := 8, ground := Go.Ground.guard }], guard := some (8, false) }
def shapeWaysr10_15 : Oper := { dst := some 82, op := Go.Op.fieldAddr 35 (Go.Operand.tmp 8) 4, type := 0, pos := "law.go:48", after := #[{ on := 8, ground := Go.Ground.guard }], guard := some (8, false) }
def shapeWaysr10_16 : Oper := { dst := some 83, op := Go.Op.load 25 (Go.Operand.tmp 82), type := 25, pos := "law.go:48", after := #[{ on := 15, ground := Go.Ground.data }, { on := 8, ground := Go.Ground.guard }], guard := some (8, false) }
def shapeWaysr10_17 : Oper := { dst := some 84, op := Go.Op.fieldAddr 35 (Go.Operand.tmp 8) 5, type := 0, pos := "law.go:48", after := #[{ on := 8, ground := Go.Ground.guard }], guard := some (8, false) }
def shapeWaysr10_18 : Oper := { dst := some 85, op := Go.Op.load 25 (Go.Operand.tmp 84), type := 25, pos := "law.go:48", after := #[{ on := 17, ground := Go.Ground.data }, { on := 8, ground := Go.Ground.guard }], guard := some (8, false) }
def shapeWaysr10_19 : Oper := { dst := some 86, op := Go.Op.buildSlice 23 5 #[(0, Go.Operand.tmp 77), (1, Go.Operand.tmp 79), (2, Go.Operand.tmp 81), (3, Go.Operand.tmp 83), (4, Go.Operand.tmp 85)], type := 23, pos := "law.go:48", after := #[{ on := 10, ground := Go.Ground.data }, { on := 12, ground := Go.Ground.data }, { on := 14, ground := Go.Ground.data }, { on := 16, ground := Go.Ground.data }, { on := 18, ground := Go.Ground.data }, { on := 8, ground := Go.Ground.guard }], guard := some (8, false) }
def shapeWaysr10_20 : Oper := { dst := some 87, op := Go.Op.move (Go.Operand.tmp 6), type := 29, pos := "law.go:48", after := #[{ on := 8, ground := Go.Ground.guard }], guard := some (8, false) }
def shapeWaysr10_21 : Oper := { dst := some 88, op := Go.Op.move (Go.Operand.tmp 7), type := 3, pos := "law.go:48", after := #[{ on := 8, ground := Go.Ground.guard }], guard := some (8, false) }
def shapeWaysr10_22 : Oper := { dst := some 89, op := Go.Op.indexAddr 29 (Go.Operand.tmp 87) (Go.Operand.tmp 88), type := 0, pos := "law.go:48", after := #[{ on := 20, ground := Go.Ground.data }, { on := 21, ground := Go.Ground.data }, { on := 8, ground := Go.Ground.guard }], guard := some (8, false) }
def shapeWaysr10_23 : Oper := { dst := some 90, op := Go.Op.fieldAddr 35 (Go.Operand.tmp 89) 1, type := 0, pos := "law.go:48", after := #[{ on := 22, ground := Go.Ground.data }, { on := 8, ground := Go.Ground.guard }], guard := some (8, false) }
def shapeWaysr10_24 : Oper := { dst := some 91, op := Go.Op.load 25 (Go.Operand.tmp 90), type := 25, pos := "law.go:48", after := #[{ on := 23, ground := Go.Ground.data }, { on := 8, ground := Go.Ground.guard }], guard := some (8, false) }
def shapeWaysr10_25 : Oper := { dst := some 92, op := Go.Op.move (Go.Operand.tmp 6), type := 29, pos := "law.go:48", after := #[{ on := 8, ground := Go.Ground.guard }], guard := some (8, false) }
def shapeWaysr10_26 : Oper := { dst := some 93, op := Go.Op.move (Go.Operand.tmp 7), type := 3, pos := "law.go:48", after := #[{ on := 8, ground := Go.Ground.guard }], guard := some (8, false) }
def shapeWaysr10_27 : Oper := { dst := some 94, op := Go.Op.indexAddr 29 (Go.Operand.tmp 92) (Go.Operand.tmp 93), type := 0, pos := "law.go:48", after := #[{ on := 25, ground := Go.Ground.data }, { on := 26, ground := Go.Ground.data }, { on := 8, ground := Go.Ground.guard }], guard := some (8, false) }
def shapeWaysr10_28 : Oper := { dst := some 95, op := Go.Op.fieldAddr 35 (Go.Operand.tmp 94) 2, type := 0, pos := "law.go:48", after := #[{ on := 27, ground := Go.Ground.data }, { on := 8, ground := Go.Ground.guard }], guard := some (8, false) }
def shapeWaysr10_29 : Oper := { dst := some 96, op := Go.Op.load 25 (Go.Operand.tmp 95), type := 25, pos := "law.go:48", after := #[{ on := 28, ground := Go.Ground.data }, { on := 8, ground := Go.Ground.guard }], guard := some (8, false) }
def shapeWaysr10_30 : Oper := { dst := some 97, op := Go.Op.move (Go.Operand.tmp 6), type := 29, pos := "law.go:48", after := #[{ on := 8, ground := Go.Ground.guard }], guard := some (8, false) }
def shapeWaysr10_31 : Oper := { dst := some 98, op := Go.Op.move (Go.Operand.tmp 7), type := 3, pos := "law.go:48", after := #[{ on := 8, ground := Go.Ground.guard }], guard := some (8, false) }
def shapeWaysr10_32 : Oper := { dst := some 99, op := Go.Op.indexAddr 29 (Go.Operand.tmp 97) (Go.Operand.tmp 98), type := 0, pos := "law.go:48", after := #[{ on := 30, ground := Go.Ground.data }, { on := 31, ground := Go.Ground.data }, { on := 8, ground := Go.Ground.guard }], guard := some (8, false) }
def shapeWaysr10_33 : Oper := { dst := some 100, op := Go.Op.fieldAddr 35 (Go.Operand.tmp 99) 3, type := 0, pos := "law.go:48", after := #[{ on := 32, ground := Go.Ground.data }, { on := 8, ground := Go.Ground.guard }], guard := some (8, false) }
def shapeWaysr10_34 : Oper := { dst := some 101, op := Go.Op.load 25 (Go.Operand.tmp 100), type := 25, pos := "law.go:48", after := #[{ on := 33, ground := Go.Ground.data }, { on := 8, ground := Go.Ground.guard }], guard := some (8, false) }
def shapeWaysr10_35 : Oper := { dst := some 102, op := Go.Op.move (Go.Operand.tmp 6), type := 29, pos := "law.go:48", after := #[{ on := 8, ground := Go.Ground.guard }], guard := some (8, false) }
def shapeWaysr10_36 : Oper := { dst := some 103, op := Go.Op.move (Go.Operand.tmp 7), type := 3, pos := "law.go:48", after := #[{ on := 8, ground := Go.Ground.guard }], guard := some (8, false) }
def shapeWaysr10_37 : Oper := { dst := some 104, op := Go.Op.indexAddr 29 (Go.Operand.tmp 102) (Go.Operand.tmp 103), type := 0, pos := "law.go:48", after := #[{ on := 35, ground := Go.Ground.data }, { on := 36, ground := Go.Ground.data }, { on := 8, ground := Go.Ground.guard }], guard := some (8, false) }
def shapeWaysr10_38 : Oper := { dst := some 105, op := Go.Op.fieldAddr 35 (Go.Operand.tmp 104) 4, type := 0, pos := "law.go:48", after := #[{ on := 37, ground := Go.Ground.data }, { on := 8, ground := Go.Ground.guard }], guard := some (8, false) }
def shapeWaysr10_39 : Oper := { dst := some 106, op := Go.Op.load 25 (Go.Operand.tmp 105), type := 25, pos := "law.go:48", after := #[{ on := 38, ground := Go.Ground.data }, { on := 8, ground := Go.Ground.guard }], guard := some (8, false) }
def shapeWaysr10_40 : Oper := { dst := some 107, op := Go.Op.move (Go.Operand.tmp 6), type := 29, pos := "law.go:48", after := #[{ on := 8, ground := Go.Ground.guard }], guard := some (8, false) }
def shapeWaysr10_41 : Oper := { dst := some 108, op := Go.Op.move (Go.Operand.tmp 7), type := 3, pos := "law.go:48", after := #[{ on := 8, ground := Go.Ground.guard }], guard := some (8, false) }
def shapeWaysr10_42 : Oper := { dst := some 109, op := Go.Op.indexAddr 29 (Go.Operand.tmp 107) (Go.Operand.tmp 108), type := 0, pos := "law.go:48", after := #[{ on := 40, ground := Go.Ground.data }, { on := 41, ground := Go.Ground.data }, { on := 8, ground := Go.Ground.guard }], guard := some (8, false) }
def shapeWaysr10_43 : Oper := { dst := some 110, op := Go.Op.fieldAddr 35 (Go.Operand.tmp 109) 5, type := 0, pos := "law.go:48", after := #[{ on := 42, ground := Go.Ground.data }, { on := 8, ground := Go.Ground.guard }], guard := some (8, false) }
def shapeWaysr10_44 : Oper := { dst := some 111, op := Go.Op.load 25 (Go.Operand.tmp 110), type := 25, pos := "law.go:48", after := #[{ on := 43, ground := Go.Ground.data }, { on := 8, ground := Go.Ground.guard }], guard := some (8, false) }
def shapeWaysr10_45 : Oper := { dst := some 112, op := Go.Op.buildSlice 23 5 #[(0, Go.Operand.tmp 91), (1, Go.Operand.tmp 96), (2, Go.Operand.tmp 101), (3, Go.Operand.tmp 106), (4, Go.Operand.tmp 111)], type := 23, pos := "law.go:48", after := #[{ on := 24, ground := Go.Ground.data }, { on := 29, ground := Go.Ground.data }, { on := 34, ground := Go.Ground.data }, { on := 39, ground := Go.Ground.data }, { on := 44, ground := Go.Ground.data }, { on := 8, ground := Go.Ground.guard }], guard := some (8, false) }
def shapeWaysr10_46 : Oper := { dst := some 113, op := Go.Op.call { callee := Go.Callee.value (Go.Operand.func 11), args := #[Go.Operand.tmp 86, Go.Operand.tmp 112], argTypes := #[23, 23] }, type := 4, pos := "law.go:48", after := #[{ on := 19, ground := Go.Ground.data }, { on := 45, ground := Go.Ground.data }, { on := 8, ground := Go.Ground.chain }, { on := 8, ground := Go.Ground.guard }], guard := some (8, false) }
def shapeWaysr10_47 : Oper := { dst := some 114, op := Go.Op.unOp Go.UnOp.not 4 (Go.Operand.tmp 113), type := 4, pos := "law.go:48", after := #[{ on := 46, ground := Go.Ground.data }, { on := 8, ground := Go.Ground.guard }], guard := some (8, false) }
def shapeWaysr10_48 : Oper := { dst := some 115, op := Go.Op.pick (Go.Operand.tmp 75) (Go.Operand.const (Go.Value.bool true)) (Go.Operand.tmp 114), type := 4, pos := "law.go:48", after := #[{ on := 8, ground := Go.Ground.data }, { on := 47, ground := Go.Ground.data }], guard := none }
set_option maxRecDepth 20000 in
set_option maxHeartbeats 4000000 in
theorem shapeWays_any (c : List En) (t : Tm) (P : Nat → Prop) (w : World) (sc : Value) (st : Value) (hlc : LiesE w c sc) (hft : t.fine) (hlt : LiesQ w P t.kids st) : Calls Tryz.prog 3 #[sc, tv t st] w fun e w' => e = .returned (.bool true) ∧ Kept w w' := by
  have HEc := Lib.hid hlc
  obtain ⟨ac, cc, Sc, rfl, -⟩ := hlc.out
  clear hlc
  have Gt := Lib.hid hft
  clear hft
  obtain ⟨a0t, ct, St, rfl, -⟩ := hlt.out
  obtain ⟨L, hL⟩ : ∃ L, waysB c = L := ⟨_, rfl⟩
  have HL := Lib.hid hL
  clear hL
  obtain ⟨du, hu1, hu2⟩ := under_term
  obtain ⟨dr, dr1, dr2⟩ := under_of 35 (by kernel_rfl)
  unfold tv
  go_enter Tryz.func3, Tryz.ntmps3
  go_upto_region 1 with fail
  refine at_code (fun V0 hV0 => ?_)
  obtain ⟨k2, x1, z3⟩ := alloc1 hV0
  have Kk4 := Lib.hid k2
  clear k2
  have Hx1 := Lib.hid x1
  have Z0 := Lib.hid z3
  clear z3 x1 hV0
  have HLt : Hid (LiesQ V0 (Par V0 V0.heap.size [] (fun _ => True)) t.kids _) := par_any (hlt.lies.keep Kk4.out)
  clear hlt
  have kvV0 : SeesN V0 V0.heap.size V0 := seesN_kept _ (kept_refl _)
  go_wp2_with (refine stop_load 25 (.tmp 3) rfl ?_)
  intro _
  refine wpList_load_part (w.heap.size) 0 25 (.tmp 3) #[.int .i64 t.k, .int .i64 t.i, .int .i64 t.j, .int .i64 t.n, (.slice a0t t.kids.length ct)] du Hx1.out (by rfl) rfl (by rfl) (by rfl) hu1 (by cases du <;> first | rfl | exact hu2) size_term ?_
  go_wp2_with fail
  refine at_world (fun W6 hW6 => ?_)
  clear kvV0
  obtain ⟨k8, x7, z9⟩ := alloc1 hW6
  have Kk10 := Lib.hid k8
  clear k8
  have Hx7 := Lib.hid x7
  have Hz9 := Lib.hid z9
  clear x7 z9 hW6
  have HR11 := Lib.hid (q_row1 Hx7.out Gt.out (HLt.out.later Kk10.out) (par_new (Nat.le_refl _) (xlt_nil _) (Nat.le_refl _)))
  refine (lheavy6c_any c [t] (Par V0 V0.heap.size [] (fun _ => True)) _ ((.slice ac c.length cc)) ((.slice (some ⟨V0.heap.size, 0, none⟩) 1 1)) (HEc.out.keep (kept_trans Kk4.out Kk10.out)) HR11.out).mono ?_
  rintro e w12 ⟨gb14, rfl, hg15, k13⟩
  have Hhg15 := Lib.hid hg15
  clear hg15
  have Kk16 := Lib.hid k13
  clear k13
  cases gb14 with
  | false =>
    have HIhg15 := Lib.hid (Hhg15.out rfl)
    have kvV0 : SeesN V0 V0.heap.size w12 := seesN_kept _ (kept_trans Kk10.out Kk16.out)
    go_wp2_with fail
    clear kvV0
    have hq19 := ways_any c _ _ (HEc.out.keep (kept_trans Kk4.out (kept_trans Kk10.out Kk16.out))) (Nat.le_trans HIhg15.out.1.1 (by decide)) (fun u hu => Nat.le_trans (HIhg15.out.1.2 u hu) (by decide))
    rw [HL.out] at hq19
    refine hq19.mono ?_
    clear hq19
    rintro e w17 ⟨s20, rfl, hr21, k18⟩
    obtain ⟨a22, c23, S24, rfl, -⟩ := hr21.out
    have Hhr21 := Lib.hid hr21
    clear hr21
    have Kk25 := Lib.hid k18
    clear k18
    have kvV0 : SeesN V0 V0.heap.size w17 := seesN_kept _ (kept_trans Kk10.out (kept_trans Kk16.out Kk25.out))
    go_wp2_with fail
    clear kvV0
    have hq28 := refways_any c _ _ (HEc.out.keep (kept_trans Kk4.out (kept_trans Kk10.out (kept_trans Kk16.out Kk25.out)))) (Nat.le_trans HIhg15.out.1.1 (by decide)) (fun u hu => Nat.le_trans (HIhg15.out.1.2 u hu) (by decide))
    rw [HL.out] at hq28
    refine hq28.mono ?_
    clear hq28
    rintro e w26 ⟨s29, rfl, hr30, k27⟩
    obtain ⟨a31, c32, S33, rfl, -⟩ := hr30.out
    have Hhr30 := Lib.hid hr30
    clear hr30
    have Kk34 := Lib.hid k27
    clear k27
    have kvV0 : SeesN V0 V0.heap.size w26 := seesN_kept _ (kept_trans Kk10.out (kept_trans Kk16.out (kept_trans Kk25.out Kk34.out)))
    go_wp2_with fail
    clear kvV0
    obtain ⟨W35, h36⟩ : ∃ x, World.drew w26 = x := ⟨_, rfl⟩
    have k37 : Kept w26 W35 := by rw [← h36]; exact kept_drew (kept_refl _)
    have Kk38 := Lib.hid k37
    clear k37
    refine wp_region_held_drew (S := SeesN W35 V0.heap.size) (by kernel_rfl) ?_ (fun hHeld => ?_)
    · (try dsimp only)
      rw [h36]
      exact seesN_kept _ (kept_refl _)
    rw [h36] at hHeld ⊢
    clear h36
    refine take_at 0 17 shapeWaysr4_0 (v := ?_) (Or.inl ⟨by rfl, ?_⟩) ?_
    rotate_left 1
    · ((intro w hSw; (try dsimp only at hSw); unfold shapeWaysr4_0; go_simp) <;> with_reducible rfl)
    (try simp only [Act.put, List.setIfInBounds_toArray, List.set_cons_zero, List.set_cons_succ])
    refine take_at 1 18 shapeWaysr4_1 (v := ?_) (Or.inl ⟨by rfl, ?_⟩) ?_
    rotate_left 1
    · ((intro w hSw; (try dsimp only at hSw); unfold shapeWaysr4_1; go_simp) <;> with_reducible rfl)
    (try simp only [Act.put, List.setIfInBounds_toArray, List.set_cons_zero, List.set_cons_succ])
    refine take_at 2 19 shapeWaysr4_2 (v := ?_) (Or.inl ⟨by rfl, ?_⟩) ?_
    rotate_left 1
    · ((intro w hSw; (try dsimp only at hSw); unfold shapeWaysr4_2; go_simp) <;> with_reducible rfl)
    (try simp only [Act.put, List.setIfInBounds_toArray, List.set_cons_zero, List.set_cons_succ])
    refine take_at 3 20 shapeWaysr4_3 (v := ?_) (Or.inl ⟨by rfl, ?_⟩) ?_
    rotate_left 1
    · ((intro w hSw; (try dsimp only at hSw); unfold shapeWaysr4_3; go_simp) <;> with_reducible rfl)
    (try simp only [Act.put, List.setIfInBounds_toArray, List.set_cons_zero, List.set_cons_succ])
    refine take_at 4 21 shapeWaysr4_4 (v := ?_) (Or.inl ⟨by rfl, ?_⟩) ?_
    rotate_left 1
    · ((intro w hSw; (try dsimp only at hSw); unfold shapeWaysr4_4; go_simp) <;> with_reducible rfl)
    (try simp only [Act.put, List.setIfInBounds_toArray, List.set_cons_zero, List.set_cons_succ])
    refine take_at 5 22 shapeWaysr4_5 (v := ?_) (Or.inl ⟨by rfl, ?_⟩) ?_
    rotate_left 1
    · ((intro w hSw; (try dsimp only at hSw); unfold shapeWaysr4_5; go_simp) <;> with_reducible rfl)
    (try simp only [Act.put, List.setIfInBounds_toArray, List.set_cons_zero, List.set_cons_succ])
    refine take_at 6 23 shapeWaysr4_6 (yields_part (w.heap.size) (0) 25 (.tmp 3) #[.int .i64 t.k, .int .i64 t.i, .int .i64 t.j, .int .i64 t.n, (.slice a0t t.kids.length ct)] du (fun _ h => seesN_blk Hx1.out trivial (seesN_of (kept_trans Kk10.out (kept_trans Kk16.out (kept_trans Kk25.out (kept_trans Kk34.out Kk38.out)))) h)) (by rfl) rfl (by rfl) (by rfl) hu1 (by cases du <;> first | rfl | exact hu2) size_term) ?_
    (try simp only [Act.put, List.setIfInBounds_toArray, List.set_cons_zero, List.set_cons_succ])
    refine take_at 8 25 shapeWaysr4_8 (yields_part (w.heap.size) (0) 25 (.tmp 3) #[.int .i64 t.k, .int .i64 t.i, .int .i64 t.j, .int .i64 t.n, (.slice a0t t.kids.length ct)] du (fun _ h => seesN_blk Hx1.out trivial (seesN_of (kept_trans Kk10.out (kept_trans Kk16.out (kept_trans Kk25.out (kept_trans Kk34.out Kk38.out)))) h)) (by rfl) rfl (by rfl) (by rfl) hu1 (by cases du <;> first | rfl | exact hu2) size_term) ?_
    (try simp only [Act.put, List.setIfInBounds_toArray, List.set_cons_zero, List.set_cons_succ])
    refine wpAnyH_ready (rs := [7]) (by kernel_rfl) (by simp) ?_
    refine AllReadyH.cons (o := shapeWaysr4_7) rfl (fun K hK => ?_) ?_
    · unfold shapeWaysr4_7
      go_simp
      refine ((head_any t W35 ((.slice a0t t.kids.length ct)) (HLt.out.later (kept_trans Kk10.out (kept_trans Kk16.out (kept_trans Kk25.out (kept_trans Kk34.out Kk38.out))))).lies (Nat.le_trans (HIhg15.out.2.2 t (by simp)) (by decide))).mono (fun _ _ h => h.givesP (P := (Par V0 V0.heap.size [] (fun _ => True))))).mono ?_
      obtain ⟨U46, hU46⟩ : ∃ qu, (t.headB) = qu := ⟨_, rfl⟩
      rw [hU46]
      have HU46 := Lib.hid hU46
      clear hU46
      rintro e w39 ⟨s41, rfl, hl42, k40⟩
      obtain ⟨a43, c44, S45, rfl, -⟩ := hl42.out
      have Kk47 := Lib.hid k40
      clear k40
      have Hhl42 : Hid (LiesQ w39 (Par V0 V0.heap.size [] (fun _ => True)) U46.kids _) := par_give hl42 (Below.size (kept_trans Kk10.out (kept_trans Kk16.out (kept_trans Kk25.out (kept_trans Kk34.out Kk38.out))))) (xlt_nil _)
      clear hl42
      clear hHeld
      refine hK.out _ _ (seesN_kept _ Kk47.out) (fun hHeld => ?_)
      clear hK K
      (try simp only [Act.put, List.setIfInBounds_toArray, List.set_cons_zero, List.set_cons_succ])
      refine wpAnyH_ready (rs := [9]) (by kernel_rfl) (by simp) ?_
      refine AllReadyH.cons (o := shapeWaysr4_9) rfl (fun K hK => ?_) ?_
      · unfold shapeWaysr4_9
        go_simp
        refine (refhead_any t (Par V0 V0.heap.size [] (fun _ => True)) w39 ((.slice a0t t.kids.length ct)) (HLt.out.later (kept_trans Kk10.out (kept_trans Kk16.out (kept_trans Kk25.out (kept_trans Kk34.out (kept_trans Kk38.out Kk47.out))))))).mono ?_
        rw [HU46.out]
        rintro e w48 ⟨s50, rfl, hl51, k49⟩
        obtain ⟨a52, c53, S54, rfl, -⟩ := hl51.out
        have Kk55 := Lib.hid k49
        clear k49
        have Hhl51 : Hid (LiesQ w48 (Par V0 V0.heap.size [] (fun _ => True)) U46.kids _) := par_give hl51 (Below.size (kept_trans Kk10.out (kept_trans Kk16.out (kept_trans Kk25.out (kept_trans Kk34.out (kept_trans Kk38.out Kk47.out)))))) (xlt_nil _)
        clear hl51
        clear hHeld
        refine hK.out _ _ (seesN_kept _ (kept_trans Kk47.out Kk55.out)) (fun hHeld => ?_)
        clear hK K
        (try simp only [Act.put, List.setIfInBounds_toArray, List.set_cons_zero, List.set_cons_succ])
        refine wpAnyH_ready (rs := [10]) (by kernel_rfl) (by simp) ?_
        refine AllReadyH.cons (o := shapeWaysr4_10) rfl (fun K hK => ?_) ?_
        · unfold shapeWaysr4_10
          go_simp
          have hq58 := keepsame_any U46 U46 _ ((.slice a43 U46.kids.length c44)) ((.slice a52 U46.kids.length c53)) (Hhl42.out.later Kk55.out).lies Hhl51.out.lies
          rw [sameB_self U46] at hq58
          refine hq58.mono ?_
          clear hq58
          rintro e w56 ⟨rfl, k57⟩
          have Kk59 := Lib.hid k57
          clear k57
          clear hHeld
          refine hK.out _ _ (seesN_kept _ (kept_trans Kk47.out (kept_trans Kk55.out Kk59.out))) (fun hHeld => ?_)
          clear hK K
          (try simp only [Act.put, List.setIfInBounds_toArray, List.set_cons_zero, List.set_cons_succ])
          refine take_at 11 28 shapeWaysr4_11 (v := ?_) (Or.inl ⟨by rfl, ?_⟩) ?_
          rotate_left 1
          · ((intro w hSw; (try dsimp only at hSw); unfold shapeWaysr4_11; go_simp) <;> with_reducible rfl)
          (try simp only [Act.put, List.setIfInBounds_toArray, List.set_cons_zero, List.set_cons_succ])
          refine take_at 12 29 shapeWaysr4_12 (v := ?_) (Or.inl ⟨by rfl, ?_⟩) ?_
          rotate_left 1
          · ((intro w hSw; (try dsimp only at hSw); unfold shapeWaysr4_12; go_simp) <;> with_reducible rfl)
          (try simp only [Act.put, List.setIfInBounds_toArray, List.set_cons_zero, List.set_cons_succ])
          refine wpAnyH_done (by kernel_rfl) ?_ _
          clear hHeld
          have kvV0 : SeesN V0 V0.heap.size w56 := seesN_kept _ (kept_trans Kk10.out (kept_trans Kk16.out (kept_trans Kk25.out (kept_trans Kk34.out (kept_trans Kk38.out (kept_trans Kk47.out (kept_trans Kk55.out Kk59.out)))))))
          go_wp2_with fail
          clear kvV0
          go_loopw [7] (fun iv wr => ∃ q : Nat, q ≤ L.length ∧ iv = .int .i64 q ∧ Kept w56 wr) (fun iv _ => L.length - (intOf iv).toNat)
          case atStart => exact ⟨0, Nat.zero_le _, rfl, kept_refl _⟩
          case round =>
            obtain ⟨q, hq, rfl, k60⟩ := hrel
            have Kk61 := Lib.hid k60
            clear k60
            have hLm : L.length ≤ maxLen := by obtain ⟨_, _, _, _, _, h1, h2, _⟩ := Hhr21.out.out; exact Nat.le_trans h1 h2
            unfold maxLen at hLm
            by_cases hlt : q < L.length
            · obtain ⟨p, hp⟩ : ∃ p, L[q] = p := ⟨_, rfl⟩
              have hr1 := (Hhr21.out.keep (kept_trans Kk34.out (kept_trans Kk38.out (kept_trans Kk47.out (kept_trans Kk55.out (kept_trans Kk59.out Kk61.out)))))).at hlt
              rw [hp] at hr1
              obtain ⟨g1, C1, fr1, ⟨za1, zb1, zx1, zy1, zh1⟩, ha1, hb1, hs1, hf1, ⟨la1, lb1, lx1, ly1, lh1⟩⟩ := hr1
              obtain rfl := ha1
              obtain ⟨pa1, qa1, Sa1, rfl, -⟩ := la1.out
              have HLza1 : Hid (LiesQ wr (Par V0 V0.heap.size [] (fun _ => True)) p.a.kids _) := par_any la1
              obtain ⟨pb1, qb1, Sb1, rfl, -⟩ := lb1.out
              have HLzb1 : Hid (LiesQ wr (Par V0 V0.heap.size [] (fun _ => True)) p.b.kids _) := par_any lb1
              obtain ⟨px1, qx1, Sx1, rfl, -⟩ := lx1.out
              have HLzx1 : Hid (LiesQ wr (Par V0 V0.heap.size [] (fun _ => True)) p.x.kids _) := par_any lx1
              obtain ⟨py1, qy1, Sy1, rfl, -⟩ := ly1.out
              have HLzy1 : Hid (LiesQ wr (Par V0 V0.heap.size [] (fun _ => True)) p.y.kids _) := par_any ly1
              obtain ⟨ph1, qh1, Sh1, rfl, -⟩ := lh1.out
              have HLzh1 : Hid (LiesQ wr (Par V0 V0.heap.size [] (fun _ => True)) p.h.kids _) := par_any lh1
              have HB1 := Lib.hid hb1
              have HS1 := Lib.hid hs1
              have HFP := Lib.hid hf1
              clear hb1 hs1 hf1 la1 lb1 lx1 ly1 lh1
              have hr2 := (Hhr30.out.keep (kept_trans Kk38.out (kept_trans Kk47.out (kept_trans Kk55.out (kept_trans Kk59.out Kk61.out))))).at hlt
              rw [hp] at hr2
              obtain ⟨g2, C2, fr2, ⟨za2, zb2, zx2, zy2, zh2⟩, ha2, hb2, hs2, hf2, ⟨la2, lb2, lx2, ly2, lh2⟩⟩ := hr2
              obtain rfl := ha2
              obtain ⟨pa2, qa2, Sa2, rfl, -⟩ := la2.out
              have HLza2 : Hid (LiesQ wr (Par V0 V0.heap.size [] (fun _ => True)) p.a.kids _) := par_any la2
              obtain ⟨pb2, qb2, Sb2, rfl, -⟩ := lb2.out
              have HLzb2 : Hid (LiesQ wr (Par V0 V0.heap.size [] (fun _ => True)) p.b.kids _) := par_any lb2
              obtain ⟨px2, qx2, Sx2, rfl, -⟩ := lx2.out
              have HLzx2 : Hid (LiesQ wr (Par V0 V0.heap.size [] (fun _ => True)) p.x.kids _) := par_any lx2
              obtain ⟨py2, qy2, Sy2, rfl, -⟩ := ly2.out
              have HLzy2 : Hid (LiesQ wr (Par V0 V0.heap.size [] (fun _ => True)) p.y.kids _) := par_any ly2
              obtain ⟨ph2, qh2, Sh2, rfl, -⟩ := lh2.out
              have HLzh2 : Hid (LiesQ wr (Par V0 V0.heap.size [] (fun _ => True)) p.h.kids _) := par_any lh2
              have HB2 := Lib.hid hb2
              have HS2 := Lib.hid hs2
              clear hb2 hs2 hf2 la2 lb2 lx2 ly2 lh2
              clear hp
              have ld62 := partN_cell (r := V0.heap.size) HB1.out trivial (q * 26) (.int .i64 p.i) (row_cell HS1.out 0 (by decide))
              have ld63 := partN_cell (r := V0.heap.size) HB2.out trivial (q * 26) (.int .i64 p.i) (row_cell HS2.out 0 (by decide))
              have kvV0 : SeesN V0 V0.heap.size wr := seesN_kept _ (kept_trans Kk10.out (kept_trans Kk16.out (kept_trans Kk25.out (kept_trans Kk34.out (kept_trans Kk38.out (kept_trans Kk47.out (kept_trans Kk55.out (kept_trans Kk59.out Kk61.out))))))))
              have kvwr : SeesN wr V0.heap.size wr := seesN_kept _ (kept_refl _)
              go_wp2_with fail
              clear kvV0
              clear kvwr
              obtain ⟨W64, h65⟩ : ∃ x, World.drew wr = x := ⟨_, rfl⟩
              have k66 : Kept wr W64 := by rw [← h65]; exact kept_drew (kept_refl _)
              have Kk67 := Lib.hid k66
              clear k66
              refine wp_region_held_drew (S := SeesN W64 V0.heap.size) (by kernel_rfl) ?_ (fun hHeld => ?_)
              · (try dsimp only)
                rw [h65]
                exact seesN_kept _ (kept_refl _)
              rw [h65] at hHeld ⊢
              clear h65
              refine take_at 0 36 shapeWaysr9_0 (v := ?_) (Or.inl ⟨by rfl, ?_⟩) ?_
              rotate_left 1
              · ((intro w hSw; (try dsimp only at hSw); unfold shapeWaysr9_0; go_simp) <;> with_reducible rfl)
              (try simp only [Act.put, List.setIfInBounds_toArray, List.set_cons_zero, List.set_cons_succ])
              refine take_at 1 37 shapeWaysr9_1 (v := ?_) (Or.inl ⟨by rfl, ?_⟩) ?_
              rotate_left 1
              · ((intro w hSw; (try dsimp only at hSw); unfold shapeWaysr9_1; go_simp) <;> with_reducible rfl)
              (try simp only [Act.put, List.setIfInBounds_toArray, List.set_cons_zero, List.set_cons_succ])
              refine take_at 2 38 shapeWaysr9_2 (v := ?_) (Or.inl ⟨by rfl, ?_⟩) ?_
              rotate_left 1
              · ((intro w hSw; (try dsimp only at hSw); unfold shapeWaysr9_2; go_simp) <;> with_reducible rfl)
              (try simp only [Act.put, List.setIfInBounds_toArray, List.set_cons_zero, List.set_cons_succ])
              refine take_at 3 39 shapeWaysr9_3 (v := ?_) (Or.inl ⟨by rfl, ?_⟩) ?_
              rotate_left 1
              · ((intro w hSw; (try dsimp only at hSw); unfold shapeWaysr9_3; go_simp) <;> with_reducible rfl)
              (try simp only [Act.put, List.setIfInBounds_toArray, List.set_cons_zero, List.set_cons_succ])
              refine take_at 4 40 shapeWaysr9_4 (v := ?_) (Or.inl ⟨by rfl, ?_⟩) ?_
              rotate_left 1
              · ((intro w hSw; (try dsimp only at hSw); have qV0 := seesN_of (kept_trans Kk10.out (kept_trans Kk16.out (kept_trans Kk25.out (kept_trans Kk34.out (kept_trans Kk38.out (kept_trans Kk47.out (kept_trans Kk55.out (kept_trans Kk59.out (kept_trans Kk61.out Kk67.out))))))))) hSw; have qwr := seesN_of Kk67.out hSw; unfold shapeWaysr9_4; go_simp) <;> with_reducible rfl)
              (try simp only [Act.put, List.setIfInBounds_toArray, List.set_cons_zero, List.set_cons_succ])
              refine take_at 5 41 shapeWaysr9_5 (v := ?_) (Or.inl ⟨by rfl, ?_⟩) ?_
              rotate_left 1
              · ((intro w hSw; (try dsimp only at hSw); unfold shapeWaysr9_5; go_simp) <;> with_reducible rfl)
              (try simp only [Act.put, List.setIfInBounds_toArray, List.set_cons_zero, List.set_cons_succ])
              refine take_at 6 42 shapeWaysr9_6 (v := ?_) (Or.inl ⟨by rfl, ?_⟩) ?_
              rotate_left 1
              · ((intro w hSw; (try dsimp only at hSw); unfold shapeWaysr9_6; go_simp) <;> with_reducible rfl)
              (try simp only [Act.put, List.setIfInBounds_toArray, List.set_cons_zero, List.set_cons_succ])
              refine take_at 7 43 shapeWaysr9_7 (v := ?_) (Or.inl ⟨by rfl, ?_⟩) ?_
              rotate_left 1
              · ((intro w hSw; (try dsimp only at hSw); unfold shapeWaysr9_7; go_simp) <;> with_reducible rfl)
              (try simp only [Act.put, List.setIfInBounds_toArray, List.set_cons_zero, List.set_cons_succ])
              refine take_at 8 44 shapeWaysr9_8 (v := ?_) (Or.inl ⟨by rfl, ?_⟩) ?_
              rotate_left 1
              · ((intro w hSw; (try dsimp only at hSw); unfold shapeWaysr9_8; go_simp) <;> with_reducible rfl)
              (try simp only [Act.put, List.setIfInBounds_toArray, List.set_cons_zero, List.set_cons_succ])
              refine take_at 9 45 shapeWaysr9_9 (yields_part (g1) (q * 26 + 1) 25 (.tmp 44) #[.int .i64 p.a.k, .int .i64 p.a.i, .int .i64 p.a.j, .int .i64 p.a.n, (.slice pa1 p.a.kids.length qa1)] du (fun _ h => seesN_blk HB1.out trivial (seesN_of Kk67.out h)) (by rfl) rfl (by rfl) (row_sub HS1.out 1 5 (by decide)) hu1 (by cases du <;> first | rfl | exact hu2) size_term) ?_
              (try simp only [Act.put, List.setIfInBounds_toArray, List.set_cons_zero, List.set_cons_succ])
              refine take_at 10 46 shapeWaysr9_10 (v := ?_) (Or.inl ⟨by rfl, ?_⟩) ?_
              rotate_left 1
              · ((intro w hSw; (try dsimp only at hSw); unfold shapeWaysr9_10; go_simp) <;> with_reducible rfl)
              (try simp only [Act.put, List.setIfInBounds_toArray, List.set_cons_zero, List.set_cons_succ])
              refine take_at 11 47 shapeWaysr9_11 (v := ?_) (Or.inl ⟨by rfl, ?_⟩) ?_
              rotate_left 1
              · ((intro w hSw; (try dsimp only at hSw); unfold shapeWaysr9_11; go_simp) <;> with_reducible rfl)
              (try simp only [Act.put, List.setIfInBounds_toArray, List.set_cons_zero, List.set_cons_succ])
              refine take_at 12 48 shapeWaysr9_12 (v := ?_) (Or.inl ⟨by rfl, ?_⟩) ?_
              rotate_left 1
              · ((intro w hSw; (try dsimp only at hSw); unfold shapeWaysr9_12; go_simp) <;> with_reducible rfl)
              (try simp only [Act.put, List.setIfInBounds_toArray, List.set_cons_zero, List.set_cons_succ])
              refine take_at 13 49 shapeWaysr9_13 (v := ?_) (Or.inl ⟨by rfl, ?_⟩) ?_
              rotate_left 1
              · ((intro w hSw; (try dsimp only at hSw); unfold shapeWaysr9_13; go_simp) <;> with_reducible rfl)
              (try simp only [Act.put, List.setIfInBounds_toArray, List.set_cons_zero, List.set_cons_succ])
              refine take_at 14 50 shapeWaysr9_14 (yields_part (g1) (q * 26 + 6) 25 (.tmp 49) #[.int .i64 p.b.k, .int .i64 p.b.i, .int .i64 p.b.j, .int .i64 p.b.n, (.slice pb1 p.b.kids.length qb1)] du (fun _ h => seesN_blk HB1.out trivial (seesN_of Kk67.out h)) (by rfl) rfl (by rfl) (row_sub HS1.out 6 5 (by decide)) hu1 (by cases du <;> first | rfl | exact hu2) size_term) ?_
              (try simp only [Act.put, List.setIfInBounds_toArray, List.set_cons_zero, List.set_cons_succ])
              refine take_at 15 51 shapeWaysr9_15 (v := ?_) (Or.inl ⟨by rfl, ?_⟩) ?_
              rotate_left 1
              · ((intro w hSw; (try dsimp only at hSw); unfold shapeWaysr9_15; go_simp) <;> with_reducible rfl)
              (try simp only [Act.put, List.setIfInBounds_toArray, List.set_cons_zero, List.set_cons_succ])
              refine take_at 16 52 shapeWaysr9_16 (v := ?_) (Or.inl ⟨by rfl, ?_⟩) ?_
              rotate_left 1
              · ((intro w hSw; (try dsimp only at hSw); unfold shapeWaysr9_16; go_simp) <;> with_reducible rfl)
              (try simp only [Act.put, List.setIfInBounds_toArray, List.set_cons_zero, List.set_cons_succ])
              refine take_at 17 53 shapeWaysr9_17 (v := ?_) (Or.inl ⟨by rfl, ?_⟩) ?_
              rotate_left 1
              · ((intro w hSw; (try dsimp only at hSw); unfold shapeWaysr9_17; go_simp) <;> with_reducible rfl)
              (try simp only [Act.put, List.setIfInBounds_toArray, List.set_cons_zero, List.set_cons_succ])
              refine take_at 18 54 shapeWaysr9_18 (v := ?_) (Or.inl ⟨by rfl, ?_⟩) ?_
              rotate_left 1
              · ((intro w hSw; (try dsimp only at hSw); unfold shapeWaysr9_18; go_simp) <;> with_reducible rfl)
              (try simp only [Act.put, List.setIfInBounds_toArray, List.set_cons_zero, List.set_cons_succ])
              refine take_at 19 55 shapeWaysr9_19 (yields_part (g1) (q * 26 + 11) 25 (.tmp 54) #[.int .i64 p.x.k, .int .i64 p.x.i, .int .i64 p.x.j, .int .i64 p.x.n, (.slice px1 p.x.kids.length qx1)] du (fun _ h => seesN_blk HB1.out trivial (seesN_of Kk67.out h)) (by rfl) rfl (by rfl) (row_sub HS1.out 11 5 (by decide)) hu1 (by cases du <;> first | rfl | exact hu2) size_term) ?_
              (try simp only [Act.put, List.setIfInBounds_toArray, List.set_cons_zero, List.set_cons_succ])
              refine take_at 20 56 shapeWaysr9_20 (v := ?_) (Or.inl ⟨by rfl, ?_⟩) ?_
              rotate_left 1
              · ((intro w hSw; (try dsimp only at hSw); unfold shapeWaysr9_20; go_simp) <;> with_reducible rfl)
              (try simp only [Act.put, List.setIfInBounds_toArray, List.set_cons_zero, List.set_cons_succ])
              refine take_at 21 57 shapeWaysr9_21 (v := ?_) (Or.inl ⟨by rfl, ?_⟩) ?_
              rotate_left 1
              · ((intro w hSw; (try dsimp only at hSw); unfold shapeWaysr9_21; go_simp) <;> with_reducible rfl)
              (try simp only [Act.put, List.setIfInBounds_toArray, List.set_cons_zero, List.set_cons_succ])
              refine take_at 22 58 shapeWaysr9_22 (v := ?_) (Or.inl ⟨by rfl, ?_⟩) ?_
              rotate_left 1
              · ((intro w hSw; (try dsimp only at hSw); unfold shapeWaysr9_22; go_simp) <;> with_reducible rfl)
              (try simp only [Act.put, List.setIfInBounds_toArray, List.set_cons_zero, List.set_cons_succ])
              refine take_at 23 59 shapeWaysr9_23 (v := ?_) (Or.inl ⟨by rfl, ?_⟩) ?_
              rotate_left 1
              · ((intro w hSw; (try dsimp only at hSw); unfold shapeWaysr9_23; go_simp) <;> with_reducible rfl)
              (try simp only [Act.put, List.setIfInBounds_toArray, List.set_cons_zero, List.set_cons_succ])
              refine take_at 24 60 shapeWaysr9_24 (yields_part (g1) (q * 26 + 16) 25 (.tmp 59) #[.int .i64 p.y.k, .int .i64 p.y.i, .int .i64 p.y.j, .int .i64 p.y.n, (.slice py1 p.y.kids.length qy1)] du (fun _ h => seesN_blk HB1.out trivial (seesN_of Kk67.out h)) (by rfl) rfl (by rfl) (row_sub HS1.out 16 5 (by decide)) hu1 (by cases du <;> first | rfl | exact hu2) size_term) ?_
              (try simp only [Act.put, List.setIfInBounds_toArray, List.set_cons_zero, List.set_cons_succ])
              refine take_at 25 61 shapeWaysr9_25 (v := ?_) (Or.inl ⟨by rfl, ?_⟩) ?_
              rotate_left 1
              · ((intro w hSw; (try dsimp only at hSw); unfold shapeWaysr9_25; go_simp) <;> with_reducible rfl)
              (try simp only [Act.put, List.setIfInBounds_toArray, List.set_cons_zero, List.set_cons_succ])
              refine take_at 26 62 shapeWaysr9_26 (v := ?_) (Or.inl ⟨by rfl, ?_⟩) ?_
              rotate_left 1
              · ((intro w hSw; (try dsimp only at hSw); unfold shapeWaysr9_26; go_simp) <;> with_reducible rfl)
              (try simp only [Act.put, List.setIfInBounds_toArray, List.set_cons_zero, List.set_cons_succ])
              refine take_at 27 63 shapeWaysr9_27 (v := ?_) (Or.inl ⟨by rfl, ?_⟩) ?_
              rotate_left 1
              · ((intro w hSw; (try dsimp only at hSw); unfold shapeWaysr9_27; go_simp) <;> with_reducible rfl)
              (try simp only [Act.put, List.setIfInBounds_toArray, List.set_cons_zero, List.set_cons_succ])
              refine take_at 28 64 shapeWaysr9_28 (v := ?_) (Or.inl ⟨by rfl, ?_⟩) ?_
              rotate_left 1
              · ((intro w hSw; (try dsimp only at hSw); unfold shapeWaysr9_28; go_simp) <;> with_reducible rfl)
              (try simp only [Act.put, List.setIfInBounds_toArray, List.set_cons_zero, List.set_cons_succ])
              refine take_at 29 65 shapeWaysr9_29 (yields_part (g1) (q * 26 + 21) 25 (.tmp 64) #[.int .i64 p.h.k, .int .i64 p.h.i, .int .i64 p.h.j, .int .i64 p.h.n, (.slice ph1 p.h.kids.length qh1)] du (fun _ h => seesN_blk HB1.out trivial (seesN_of Kk67.out h)) (by rfl) rfl (by rfl) (row_sub HS1.out 21 5 (by decide)) hu1 (by cases du <;> first | rfl | exact hu2) size_term) ?_
              (try simp only [Act.put, List.setIfInBounds_toArray, List.set_cons_zero, List.set_cons_succ])
              refine take_at 30 66 shapeWaysr9_30 (v := ?_) (Or.inl ⟨by rfl, ?_⟩) ?_
              rotate_left 1
              · ((intro w hSw; (try dsimp only at hSw); unfold shapeWaysr9_30; go_simp) <;> with_reducible rfl)
              (try simp only [Act.put, List.setIfInBounds_toArray, List.set_cons_zero, List.set_cons_succ])
              refine wpAnyH_ready (rs := [31]) (by kernel_rfl) (by simp) ?_
              refine AllReadyH.cons (o := shapeWaysr9_31) rfl (fun K hK => ?_) ?_
              · unfold shapeWaysr9_31
                go_simp
                refine at_K (fun W68 hW68 => ?_)
                obtain ⟨g72, hg73, Kk70, Hx69, Hz71, KV74, HN75⟩ := alloc1v (kept_trans Kk10.out (kept_trans Kk16.out (kept_trans Kk25.out (kept_trans Kk34.out (kept_trans Kk38.out (kept_trans Kk47.out (kept_trans Kk55.out (kept_trans Kk59.out (kept_trans Kk61.out Kk67.out))))))))) hW68
                rw [hg73]
                clear hW68
                have HG76 : Hid (V0.heap.size ≤ g72) := (by show _ ≤ _; rw [← hg73]; exact (Below.size (kept_trans Kk10.out (kept_trans Kk16.out (kept_trans Kk25.out (kept_trans Kk34.out (kept_trans Kk38.out (kept_trans Kk47.out (kept_trans Kk55.out (kept_trans Kk59.out (kept_trans Kk61.out Kk67.out)))))))))))
                have AP77 : Hid (g1 < g72) := (by show _ < _; rw [← hg73]; exact block_lt (blk_at HB1.out Kk67.out))
                have AP78 : Hid (g2 < g72) := (by show _ < _; rw [← hg73]; exact block_lt (blk_at HB2.out Kk67.out))
                have XL79 : Hid (XLt (g72 :: []) W68) := (by show XLt _ _; rw [← hg73]; exact xlt_more (xlt_nil _) Kk70.out (by have := Hz71.out; omega))
                have HP80 : Hid (W64.heap.size ≤ g72) := (by show _ ≤ _; rw [← hg73]; exact Nat.le_refl _)
                have HD81 : Hid (W64.heap.size ≤ g72) := (by show _ ≤ _; rw [← hg73]; exact Below.size (kept_refl _))
                clear hg73
                clear hHeld
                refine hK.out _ _ (seesN_kept _ Kk70.out) (fun hHeld => ?_)
                clear hK K
                (try simp only [Act.put, List.setIfInBounds_toArray, List.set_cons_zero, List.set_cons_succ])
                refine wpAnyH_ready (rs := [32]) (by kernel_rfl) (by simp) ?_
                refine AllReadyH.cons (o := shapeWaysr9_32) rfl (fun K hK => ?_) ?_
                · unfold shapeWaysr9_32
                  refine step_store_part rfl 35 (.tmp 8) (.tmp 66) rfl (g72) 0 #[.int .i64 p.i, .int .i64 p.a.k, .int .i64 p.a.i, .int .i64 p.a.j, .int .i64 p.a.n, (.slice pa1 p.a.kids.length qa1), .int .i64 p.b.k, .int .i64 p.b.i, .int .i64 p.b.j, .int .i64 p.b.n, (.slice pb1 p.b.kids.length qb1), .int .i64 p.x.k, .int .i64 p.x.i, .int .i64 p.x.j, .int .i64 p.x.n, (.slice px1 p.x.kids.length qx1), .int .i64 p.y.k, .int .i64 p.y.i, .int .i64 p.y.j, .int .i64 p.y.n, (.slice py1 p.y.kids.length qy1), .int .i64 p.h.k, .int .i64 p.h.i, .int .i64 p.h.j, .int .i64 p.h.n, (.slice ph1 p.h.kids.length qh1)] rfl rfl 35 (by kernel_rfl) (row_ok rfl) _ #[.int .i64 p.i, .int .i64 p.a.k, .int .i64 p.a.i, .int .i64 p.a.j, .int .i64 p.a.n, (.slice pa1 p.a.kids.length qa1), .int .i64 p.b.k, .int .i64 p.b.i, .int .i64 p.b.j, .int .i64 p.b.n, (.slice pb1 p.b.kids.length qb1), .int .i64 p.x.k, .int .i64 p.x.i, .int .i64 p.x.j, .int .i64 p.x.n, (.slice px1 p.x.kids.length qx1), .int .i64 p.y.k, .int .i64 p.y.i, .int .i64 p.y.j, .int .i64 p.y.n, (.slice py1 p.y.kids.length qy1), .int .i64 p.h.k, .int .i64 p.h.i, .int .i64 p.h.j, .int .i64 p.h.n, (.slice ph1 p.h.kids.length qh1)] Hx69.out rfl (Nat.le_of_ble_eq_true rfl) ?_
                  intro W82 hW82
                  have KB83 := Lib.hid (kept_set (kept_trans Kk4.out (kept_trans Kk10.out (kept_trans Kk16.out (kept_trans Kk25.out (kept_trans Kk34.out (kept_trans Kk38.out (kept_trans Kk47.out (kept_trans Kk55.out (kept_trans Kk59.out (kept_trans Kk61.out (kept_trans Kk67.out Kk70.out))))))))))) hW82 (by have := HG76.out; have := Z0.out; omega))
                  have KB84 := Lib.hid (kept_set KV74.out hW82 HG76.out)
                  have KB85 := Lib.hid (kept_set Kk70.out hW82 HD81.out)
                  have HL86 : Hid (LiesQ W82 (Par V0 V0.heap.size (g72 :: []) (fun _ => True)) t.kids _) := par_set (par_grow HLt.out KV74.out (List.forall_mem_cons.2 ⟨(Or.inr (Nat.le_trans (Below.size (kept_trans Kk10.out (kept_trans Kk16.out (kept_trans Kk25.out (kept_trans Kk34.out (kept_trans Kk38.out (kept_trans Kk47.out (kept_trans Kk55.out (kept_trans Kk59.out (kept_trans Kk61.out Kk67.out)))))))))) HP80.out)), (fun _ h => nomatch h)⟩)) hW82 (List.mem_cons_self ..) (by have := HG76.out; have := Z0.out; omega)
                  have HL87 : Hid (LiesQ W82 (Par V0 V0.heap.size (g72 :: []) (fun _ => True)) [t] _) := par_set (par_grow HR11.out (kept_trans Kk16.out (kept_trans Kk25.out (kept_trans Kk34.out (kept_trans Kk38.out (kept_trans Kk47.out (kept_trans Kk55.out (kept_trans Kk59.out (kept_trans Kk61.out (kept_trans Kk67.out Kk70.out))))))))) (List.forall_mem_cons.2 ⟨(Or.inr (Nat.le_trans (Below.size (kept_trans Kk16.out (kept_trans Kk25.out (kept_trans Kk34.out (kept_trans Kk38.out (kept_trans Kk47.out (kept_trans Kk55.out (kept_trans Kk59.out (kept_trans Kk61.out Kk67.out))))))))) HP80.out)), (fun _ h => nomatch h)⟩)) hW82 (List.mem_cons_self ..) (by have := HG76.out; have := Z0.out; omega)
                  have HL88 : Hid (LiesQ W82 (Par V0 V0.heap.size (g72 :: []) (fun _ => True)) U46.kids _) := par_set (par_grow Hhl42.out (kept_trans Kk55.out (kept_trans Kk59.out (kept_trans Kk61.out (kept_trans Kk67.out Kk70.out)))) (List.forall_mem_cons.2 ⟨(Or.inr (Nat.le_trans (Below.size (kept_trans Kk55.out (kept_trans Kk59.out (kept_trans Kk61.out Kk67.out)))) HP80.out)), (fun _ h => nomatch h)⟩)) hW82 (List.mem_cons_self ..) (by have := HG76.out; have := Z0.out; omega)
                  have HL89 : Hid (LiesQ W82 (Par V0 V0.heap.size (g72 :: []) (fun _ => True)) U46.kids _) := par_set (par_grow Hhl51.out (kept_trans Kk59.out (kept_trans Kk61.out (kept_trans Kk67.out Kk70.out))) (List.forall_mem_cons.2 ⟨(Or.inr (Nat.le_trans (Below.size (kept_trans Kk59.out (kept_trans Kk61.out Kk67.out))) HP80.out)), (fun _ h => nomatch h)⟩)) hW82 (List.mem_cons_self ..) (by have := HG76.out; have := Z0.out; omega)
                  have HL90 : Hid (LiesQ W82 (Par V0 V0.heap.size (g72 :: []) (fun _ => True)) p.a.kids _) := par_set (par_grow HLza1.out (kept_trans Kk67.out Kk70.out) (List.forall_mem_cons.2 ⟨(Or.inr (Nat.le_trans (Below.size Kk67.out) HP80.out)), (fun _ h => nomatch h)⟩)) hW82 (List.mem_cons_self ..) (by have := HG76.out; have := Z0.out; omega)
                  have HL91 : Hid (LiesQ W82 (Par V0 V0.heap.size (g72 :: []) (fun _ => True)) p.b.kids _) := par_set (par_grow HLzb1.out (kept_trans Kk67.out Kk70.out) (List.forall_mem_cons.2 ⟨(Or.inr (Nat.le_trans (Below.size Kk67.out) HP80.out)), (fun _ h => nomatch h)⟩)) hW82 (List.mem_cons_self ..) (by have := HG76.out; have := Z0.out; omega)
                  have HL92 : Hid (LiesQ W82 (Par V0 V0.heap.size (g72 :: []) (fun _ => True)) p.x.kids _) := par_set (par_grow HLzx1.out (kept_trans Kk67.out Kk70.out) (List.forall_mem_cons.2 ⟨(Or.inr (Nat.le_trans (Below.size Kk67.out) HP80.out)), (fun _ h => nomatch h)⟩)) hW82 (List.mem_cons_self ..) (by have := HG76.out; have := Z0.out; omega)
                  have HL93 : Hid (LiesQ W82 (Par V0 V0.heap.size (g72 :: []) (fun _ => True)) p.y.kids _) := par_set (par_grow HLzy1.out (kept_trans Kk67.out Kk70.out) (List.forall_mem_cons.2 ⟨(Or.inr (Nat.le_trans (Below.size Kk67.out) HP80.out)), (fun _ h => nomatch h)⟩)) hW82 (List.mem_cons_self ..) (by have := HG76.out; have := Z0.out; omega)
                  have HL94 : Hid (LiesQ W82 (Par V0 V0.heap.size (g72 :: []) (fun _ => True)) p.h.kids _) := par_set (par_grow HLzh1.out (kept_trans Kk67.out Kk70.out) (List.forall_mem_cons.2 ⟨(Or.inr (Nat.le_trans (Below.size Kk67.out) HP80.out)), (fun _ h => nomatch h)⟩)) hW82 (List.mem_cons_self ..) (by have := HG76.out; have := Z0.out; omega)
                  have HL95 : Hid (LiesQ W82 (Par V0 V0.heap.size (g72 :: []) (fun _ => True)) p.a.kids _) := par_set (par_grow HLza2.out (kept_trans Kk67.out Kk70.out) (List.forall_mem_cons.2 ⟨(Or.inr (Nat.le_trans (Below.size Kk67.out) HP80.out)), (fun _ h => nomatch h)⟩)) hW82 (List.mem_cons_self ..) (by have := HG76.out; have := Z0.out; omega)
                  have HL96 : Hid (LiesQ W82 (Par V0 V0.heap.size (g72 :: []) (fun _ => True)) p.b.kids _) := par_set (par_grow HLzb2.out (kept_trans Kk67.out Kk70.out) (List.forall_mem_cons.2 ⟨(Or.inr (Nat.le_trans (Below.size Kk67.out) HP80.out)), (fun _ h => nomatch h)⟩)) hW82 (List.mem_cons_self ..) (by have := HG76.out; have := Z0.out; omega)
                  have HL97 : Hid (LiesQ W82 (Par V0 V0.heap.size (g72 :: []) (fun _ => True)) p.x.kids _) := par_set (par_grow HLzx2.out (kept_trans Kk67.out Kk70.out) (List.forall_mem_cons.2 ⟨(Or.inr (Nat.le_trans (Below.size Kk67.out) HP80.out)), (fun _ h => nomatch h)⟩)) hW82 (List.mem_cons_self ..) (by have := HG76.out; have := Z0.out; omega)
                  have HL98 : Hid (LiesQ W82 (Par V0 V0.heap.size (g72 :: []) (fun _ => True)) p.y.kids _) := par_set (par_grow HLzy2.out (kept_trans Kk67.out Kk70.out) (List.forall_mem_cons.2 ⟨(Or.inr (Nat.le_trans (Below.size Kk67.out) HP80.out)), (fun _ h => nomatch h)⟩)) hW82 (List.mem_cons_self ..) (by have := HG76.out; have := Z0.out; omega)
                  have HL99 : Hid (LiesQ W82 (Par V0 V0.heap.size (g72 :: []) (fun _ => True)) p.h.kids _) := par_set (par_grow HLzh2.out (kept_trans Kk67.out Kk70.out) (List.forall_mem_cons.2 ⟨(Or.inr (Nat.le_trans (Below.size Kk67.out) HP80.out)), (fun _ h => nomatch h)⟩)) hW82 (List.mem_cons_self ..) (by have := HG76.out; have := Z0.out; omega)
                  have XL100 := Lib.hid (xlt_set XL79.out hW82)
                  have HX101 := Lib.hid (blk_other (blk_at HB1.out (kept_trans Kk67.out Kk70.out)) hW82 (by have := AP77.out; omega))
                  have HX102 := Lib.hid (blk_other (blk_at HB2.out (kept_trans Kk67.out Kk70.out)) hW82 (by have := AP78.out; omega))
                  have HX103 := Lib.hid (blk_same Hx69.out hW82)
                  (try clear ld62)
                  (try clear ld63)
                  clear hW82
                  have ld104 := partN_cell (r := V0.heap.size) HX101.out trivial (q * 26) (.int .i64 p.i) (row_cell HS1.out 0 (by decide))
                  have ld105 := partN_cell (r := V0.heap.size) HX102.out trivial (q * 26) (.int .i64 p.i) (row_cell HS2.out 0 (by decide))
                  have ld106 := partN_cell (r := V0.heap.size) HX103.out trivial 0 (.int .i64 p.i) rfl
                  clear hHeld
                  refine hK.out _ _ (seesN_kept _ KB85.out) (fun hHeld => ?_)
                  clear hK K
                  (try simp only [Act.put])
                  refine wpAnyH_done (by kernel_rfl) ?_ _
                  clear hHeld
                  have kvV0 : SeesN V0 V0.heap.size W82 := seesN_kept _ KB84.out
                  have kvW82 : SeesN W82 V0.heap.size W82 := seesN_kept _ (kept_refl _)
                  go_wp2_with fail
                  clear kvV0
                  clear kvW82
                  obtain ⟨W107, h108⟩ : ∃ x, World.drew W82 = x := ⟨_, rfl⟩
                  have k109 : Kept W82 W107 := by rw [← h108]; exact kept_drew (kept_refl _)
                  have Kk110 := Lib.hid k109
                  clear k109
                  refine wp_region_held_drew (S := SeesN W107 V0.heap.size) (by kernel_rfl) ?_ (fun hHeld => ?_)
                  · (try dsimp only)
                    rw [h108]
                    exact seesN_kept _ (kept_refl _)
                  rw [h108] at hHeld ⊢
                  clear h108
                  refine take_at 0 67 shapeWaysr10_0 (v := ?_) (Or.inl ⟨by rfl, ?_⟩) ?_
                  rotate_left 1
                  · ((intro w hSw; (try dsimp only at hSw); unfold shapeWaysr10_0; go_simp) <;> with_reducible rfl)
                  (try simp only [Act.put, List.setIfInBounds_toArray, List.set_cons_zero, List.set_cons_succ])
                  refine take_at 1 68 shapeWaysr10_1 (v := ?_) (Or.inl ⟨by rfl, ?_⟩) ?_
                  rotate_left 1
                  · ((intro w hSw; (try dsimp only at hSw); have qV0 := seesN_of (kept_trans KB84.out Kk110.out) hSw; have qW82 := seesN_of Kk110.out hSw; unfold shapeWaysr10_1; go_simp) <;> with_reducible rfl)
                  (try simp only [Act.put, List.setIfInBounds_toArray, List.set_cons_zero, List.set_cons_succ])
                  refine take_at 2 69 shapeWaysr10_2 (v := ?_) (Or.inl ⟨by rfl, ?_⟩) ?_
                  rotate_left 1
                  · ((intro w hSw; (try dsimp only at hSw); unfold shapeWaysr10_2; go_simp) <;> with_reducible rfl)
                  (try simp only [Act.put, List.setIfInBounds_toArray, List.set_cons_zero, List.set_cons_succ])
                  refine take_at 3 70 shapeWaysr10_3 (v := ?_) (Or.inl ⟨by rfl, ?_⟩) ?_
                  rotate_left 1
                  · ((intro w hSw; (try dsimp only at hSw); unfold shapeWaysr10_3; go_simp) <;> with_reducible rfl)
                  (try simp only [Act.put, List.setIfInBounds_toArray, List.set_cons_zero, List.set_cons_succ])
                  refine take_at 4 71 shapeWaysr10_4 (v := ?_) (Or.inl ⟨by rfl, ?_⟩) ?_
                  rotate_left 1
                  · ((intro w hSw; (try dsimp only at hSw); unfold shapeWaysr10_4; go_simp) <;> with_reducible rfl)
                  (try simp only [Act.put, List.setIfInBounds_toArray, List.set_cons_zero, List.set_cons_succ])
                  refine take_at 5 72 shapeWaysr10_5 (v := ?_) (Or.inl ⟨by rfl, ?_⟩) ?_
                  rotate_left 1
                  · ((intro w hSw; (try dsimp only at hSw); unfold shapeWaysr10_5; go_simp) <;> with_reducible rfl)
                  (try simp only [Act.put, List.setIfInBounds_toArray, List.set_cons_zero, List.set_cons_succ])
                  refine take_at 6 73 shapeWaysr10_6 (v := ?_) (Or.inl ⟨by rfl, ?_⟩) ?_
                  rotate_left 1
                  · ((intro w hSw; (try dsimp only at hSw); have qV0 := seesN_of (kept_trans KB84.out Kk110.out) hSw; have qW82 := seesN_of Kk110.out hSw; unfold shapeWaysr10_6; go_simp) <;> with_reducible rfl)
                  (try simp only [Act.put, List.setIfInBounds_toArray, List.set_cons_zero, List.set_cons_succ])
                  refine take_at 7 74 shapeWaysr10_7 (v := ?_) (Or.inl ⟨by rfl, ?_⟩) ?_
                  rotate_left 1
                  · ((intro w hSw; (try dsimp only at hSw); unfold shapeWaysr10_7; go_simp) <;> with_reducible rfl)
                  (try simp only [Act.put, List.setIfInBounds_toArray, List.set_cons_zero, List.set_cons_succ])
                  refine take_at 8 75 shapeWaysr10_8 (v := ?_) (Or.inl ⟨by rfl, ?_⟩) ?_
                  rotate_left 1
                  · ((intro w hSw; (try dsimp only at hSw); unfold shapeWaysr10_8; go_simp) <;> with_reducible rfl)
                  (try simp only [Act.put, List.setIfInBounds_toArray, List.set_cons_zero, List.set_cons_succ])
                  refine take_at 9 76 shapeWaysr10_9 (v := ?_) (Or.inl ⟨by rfl, ?_⟩) ?_
                  rotate_left 1
                  · ((intro w hSw; (try dsimp only at hSw); unfold shapeWaysr10_9; go_simp) <;> with_reducible rfl)
                  (try simp only [Act.put, List.setIfInBounds_toArray, List.set_cons_zero, List.set_cons_succ])
                  refine take_at 10 77 shapeWaysr10_10 (yields_part (g72) (1) 25 (.tmp 76) #[.int .i64 p.a.k, .int .i64 p.a.i, .int .i64 p.a.j, .int .i64 p.a.n, (.slice pa1 p.a.kids.length qa1)] du (fun _ h => seesN_blk HX103.out trivial (seesN_of Kk110.out h)) (by rfl) rfl (by rfl) (by rfl) hu1 (by cases du <;> first | rfl | exact hu2) size_term) ?_
                  (try simp only [Act.put, List.setIfInBounds_toArray, List.set_cons_zero, List.set_cons_succ])
                  refine take_at 11 78 shapeWaysr10_11 (v := ?_) (Or.inl ⟨by rfl, ?_⟩) ?_
                  rotate_left 1
                  · ((intro w hSw; (try dsimp only at hSw); unfold shapeWaysr10_11; go_simp) <;> with_reducible rfl)
                  (try simp only [Act.put, List.setIfInBounds_toArray, List.set_cons_zero, List.set_cons_succ])
                  refine take_at 12 79 shapeWaysr10_12 (yields_part (g72) (6) 25 (.tmp 78) #[.int .i64 p.b.k, .int .i64 p.b.i, .int .i64 p.b.j, .int .i64 p.b.n, (.slice pb1 p.b.kids.length qb1)] du (fun _ h => seesN_blk HX103.out trivial (seesN_of Kk110.out h)) (by rfl) rfl (by rfl) (by rfl) hu1 (by cases du <;> first | rfl | exact hu2) size_term) ?_
                  (try simp only [Act.put, List.setIfInBounds_toArray, List.set_cons_zero, List.set_cons_succ])
                  refine take_at 13 80 shapeWaysr10_13 (v := ?_) (Or.inl ⟨by rfl, ?_⟩) ?_
                  rotate_left 1
                  · ((intro w hSw; (try dsimp only at hSw); unfold shapeWaysr10_13; go_simp) <;> with_reducible rfl)
                  (try simp only [Act.put, List.setIfInBounds_toArray, List.set_cons_zero, List.set_cons_succ])
                  refine take_at 14 81 shapeWaysr10_14 (yields_part (g72) (11) 25 (.tmp 80) #[.int .i64 p.x.k, .int .i64 p.x.i, .int .i64 p.x.j, .int .i64 p.x.n, (.slice px1 p.x.kids.length qx1)] du (fun _ h => seesN_blk HX103.out trivial (seesN_of Kk110.out h)) (by rfl) rfl (by rfl) (by rfl) hu1 (by cases du <;> first | rfl | exact hu2) size_term) ?_
                  (try simp only [Act.put, List.setIfInBounds_toArray, List.set_cons_zero, List.set_cons_succ])
                  refine take_at 15 82 shapeWaysr10_15 (v := ?_) (Or.inl ⟨by rfl, ?_⟩) ?_
                  rotate_left 1
                  · ((intro w hSw; (try dsimp only at hSw); unfold shapeWaysr10_15; go_simp) <;> with_reducible rfl)
                  (try simp only [Act.put, List.setIfInBounds_toArray, List.set_cons_zero, List.set_cons_succ])
                  refine take_at 16 83 shapeWaysr10_16 (yields_part (g72) (16) 25 (.tmp 82) #[.int .i64 p.y.k, .int .i64 p.y.i, .int .i64 p.y.j, .int .i64 p.y.n, (.slice py1 p.y.kids.length qy1)] du (fun _ h => seesN_blk HX103.out trivial (seesN_of Kk110.out h)) (by rfl) rfl (by rfl) (by rfl) hu1 (by cases du <;> first | rfl | exact hu2) size_term) ?_
                  (try simp only [Act.put, List.setIfInBounds_toArray, List.set_cons_zero, List.set_cons_succ])
                  refine take_at 17 84 shapeWaysr10_17 (v := ?_) (Or.inl ⟨by rfl, ?_⟩) ?_
                  rotate_left 1
                  · ((intro w hSw; (try dsimp only at hSw); unfold shapeWaysr10_17; go_simp) <;> with_reducible rfl)
                  (try simp only [Act.put, List.setIfInBounds_toArray, List.set_cons_zero, List.set_cons_succ])
                  refine take_at 18 85 shapeWaysr10_18 (yields_part (g72) (21) 25 (.tmp 84) #[.int .i64 p.h.k, .int .i64 p.h.i, .int .i64 p.h.j, .int .i64 p.h.n, (.slice ph1 p.h.kids.length qh1)] du (fun _ h => seesN_blk HX103.out trivial (seesN_of Kk110.out h)) (by rfl) rfl (by rfl) (by rfl) hu1 (by cases du <;> first | rfl | exact hu2) size_term) ?_
                  (try simp only [Act.put, List.setIfInBounds_toArray, List.set_cons_zero, List.set_cons_succ])
                  refine take_at 20 87 shapeWaysr10_20 (v := ?_) (Or.inl ⟨by rfl, ?_⟩) ?_
                  rotate_left 1
                  · ((intro w hSw; (try dsimp only at hSw); unfold shapeWaysr10_20; go_simp) <;> with_reducible rfl)
                  (try simp only [Act.put, List.setIfInBounds_toArray, List.set_cons_zero, List.set_cons_succ])
                  refine take_at 21 88 shapeWaysr10_21 (v := ?_) (Or.inl ⟨by rfl, ?_⟩) ?_
                  rotate_left 1
                  · ((intro w hSw; (try dsimp only at hSw); unfold shapeWaysr10_21; go_simp) <;> with_reducible rfl)
                  (try simp only [Act.put, List.setIfInBounds_toArray, List.set_cons_zero, List.set_cons_succ])
                  refine take_at 22 89 shapeWaysr10_22 (v := ?_) (Or.inl ⟨by rfl, ?_⟩) ?_
                  rotate_left 1
                  · ((intro w hSw; (try dsimp only at hSw); unfold shapeWaysr10_22; go_simp) <;> with_reducible rfl)
                  (try simp only [Act.put, List.setIfInBounds_toArray, List.set_cons_zero, List.set_cons_succ])
                  refine take_at 23 90 shapeWaysr10_23 (v := ?_) (Or.inl ⟨by rfl, ?_⟩) ?_
                  rotate_left 1
                  · ((intro w hSw; (try dsimp only at hSw); unfold shapeWaysr10_23; go_simp) <;> with_reducible rfl)
                  (try simp only [Act.put, List.setIfInBounds_toArray, List.set_cons_zero, List.set_cons_succ])
                  refine take_at 24 91 shapeWaysr10_24 (yields_part (g2) (q * 26 + 1) 25 (.tmp 90) #[.int .i64 p.a.k, .int .i64 p.a.i, .int .i64 p.a.j, .int .i64 p.a.n, (.slice pa2 p.a.kids.length qa2)] du (fun _ h => seesN_blk HX102.out trivial (seesN_of Kk110.out h)) (by rfl) rfl (by rfl) (row_sub HS2.out 1 5 (by decide)) hu1 (by cases du <;> first | rfl | exact hu2) size_term) ?_
                  (try simp only [Act.put, List.setIfInBounds_toArray, List.set_cons_zero, List.set_cons_succ])
                  refine take_at 25 92 shapeWaysr10_25 (v := ?_) (Or.inl ⟨by rfl, ?_⟩) ?_
                  rotate_left 1
                  · ((intro w hSw; (try dsimp only at hSw); unfold shapeWaysr10_25; go_simp) <;> with_reducible rfl)
                  (try simp only [Act.put, List.setIfInBounds_toArray, List.set_cons_zero, List.set_cons_succ])
                  refine take_at 26 93 shapeWaysr10_26 (v := ?_) (Or.inl ⟨by rfl, ?_⟩) ?_
                  rotate_left 1
                  · ((intro w hSw; (try dsimp only at hSw); unfold shapeWaysr10_26; go_simp) <;> with_reducible rfl)
                  (try simp only [Act.put, List.setIfInBounds_toArray, List.set_cons_zero, List.set_cons_succ])
                  refine take_at 27 94 shapeWaysr10_27 (v := ?_) (Or.inl ⟨by rfl, ?_⟩) ?_
                  rotate_left 1
                  · ((intro w hSw; (try dsimp only at hSw); unfold shapeWaysr10_27; go_simp) <;> with_reducible rfl)
                  (try simp only [Act.put, List.setIfInBounds_toArray, List.set_cons_zero, List.set_cons_succ])
                  refine take_at 28 95 shapeWaysr10_28 (v := ?_) (Or.inl ⟨by rfl, ?_⟩) ?_
                  rotate_left 1
                  · ((intro w hSw; (try dsimp only at hSw); unfold shapeWaysr10_28; go_simp) <;> with_reducible rfl)
                  (try simp only [Act.put, List.setIfInBounds_toArray, List.set_cons_zero, List.set_cons_succ])
                  refine take_at 29 96 shapeWaysr10_29 (yields_part (g2) (q * 26 + 6) 25 (.tmp 95) #[.int .i64 p.b.k, .int .i64 p.b.i, .int .i64 p.b.j, .int .i64 p.b.n, (.slice pb2 p.b.kids.length qb2)] du (fun _ h => seesN_blk HX102.out trivial (seesN_of Kk110.out h)) (by rfl) rfl (by rfl) (row_sub HS2.out 6 5 (by decide)) hu1 (by cases du <;> first | rfl | exact hu2) size_term) ?_
                  (try simp only [Act.put, List.setIfInBounds_toArray, List.set_cons_zero, List.set_cons_succ])
                  refine take_at 30 97 shapeWaysr10_30 (v := ?_) (Or.inl ⟨by rfl, ?_⟩) ?_
                  rotate_left 1
                  · ((intro w hSw; (try dsimp only at hSw); unfold shapeWaysr10_30; go_simp) <;> with_reducible rfl)
                  (try simp only [Act.put, List.setIfInBounds_toArray, List.set_cons_zero, List.set_cons_succ])
                  refine take_at 31 98 shapeWaysr10_31 (v := ?_) (Or.inl ⟨by rfl, ?_⟩) ?_
                  rotate_left 1
                  · ((intro w hSw; (try dsimp only at hSw); unfold shapeWaysr10_31; go_simp) <;> with_reducible rfl)
                  (try simp only [Act.put, List.setIfInBounds_toArray, List.set_cons_zero, List.set_cons_succ])
                  refine take_at 32 99 shapeWaysr10_32 (v := ?_) (Or.inl ⟨by rfl, ?_⟩) ?_
                  rotate_left 1
                  · ((intro w hSw; (try dsimp only at hSw); unfold shapeWaysr10_32; go_simp) <;> with_reducible rfl)
                  (try simp only [Act.put, List.setIfInBounds_toArray, List.set_cons_zero, List.set_cons_succ])
                  refine take_at 33 100 shapeWaysr10_33 (v := ?_) (Or.inl ⟨by rfl, ?_⟩) ?_
                  rotate_left 1
                  · ((intro w hSw; (try dsimp only at hSw); unfold shapeWaysr10_33; go_simp) <;> with_reducible rfl)
                  (try simp only [Act.put, List.setIfInBounds_toArray, List.set_cons_zero, List.set_cons_succ])
                  refine take_at 34 101 shapeWaysr10_34 (yields_part (g2) (q * 26 + 11) 25 (.tmp 100) #[.int .i64 p.x.k, .int .i64 p.x.i, .int .i64 p.x.j, .int .i64 p.x.n, (.slice px2 p.x.kids.length qx2)] du (fun _ h => seesN_blk HX102.out trivial (seesN_of Kk110.out h)) (by rfl) rfl (by rfl) (row_sub HS2.out 11 5 (by decide)) hu1 (by cases du <;> first | rfl | exact hu2) size_term) ?_
                  (try simp only [Act.put, List.setIfInBounds_toArray, List.set_cons_zero, List.set_cons_succ])
                  refine take_at 35 102 shapeWaysr10_35 (v := ?_) (Or.inl ⟨by rfl, ?_⟩) ?_
                  rotate_left 1
                  · ((intro w hSw; (try dsimp only at hSw); unfold shapeWaysr10_35; go_simp) <;> with_reducible rfl)
                  (try simp only [Act.put, List.setIfInBounds_toArray, List.set_cons_zero, List.set_cons_succ])
                  refine take_at 36 103 shapeWaysr10_36 (v := ?_) (Or.inl ⟨by rfl, ?_⟩) ?_
                  rotate_left 1
                  · ((intro w hSw; (try dsimp only at hSw); unfold shapeWaysr10_36; go_simp) <;> with_reducible rfl)
                  (try simp only [Act.put, List.setIfInBounds_toArray, List.set_cons_zero, List.set_cons_succ])
                  refine take_at 37 104 shapeWaysr10_37 (v := ?_) (Or.inl ⟨by rfl, ?_⟩) ?_
                  rotate_left 1
                  · ((intro w hSw; (try dsimp only at hSw); unfold shapeWaysr10_37; go_simp) <;> with_reducible rfl)
                  (try simp only [Act.put, List.setIfInBounds_toArray, List.set_cons_zero, List.set_cons_succ])
                  refine take_at 38 105 shapeWaysr10_38 (v := ?_) (Or.inl ⟨by rfl, ?_⟩) ?_
                  rotate_left 1
                  · ((intro w hSw; (try dsimp only at hSw); unfold shapeWaysr10_38; go_simp) <;> with_reducible rfl)
                  (try simp only [Act.put, List.setIfInBounds_toArray, List.set_cons_zero, List.set_cons_succ])
                  refine take_at 39 106 shapeWaysr10_39 (yields_part (g2) (q * 26 + 16) 25 (.tmp 105) #[.int .i64 p.y.k, .int .i64 p.y.i, .int .i64 p.y.j, .int .i64 p.y.n, (.slice py2 p.y.kids.length qy2)] du (fun _ h => seesN_blk HX102.out trivial (seesN_of Kk110.out h)) (by rfl) rfl (by rfl) (row_sub HS2.out 16 5 (by decide)) hu1 (by cases du <;> first | rfl | exact hu2) size_term) ?_
                  (try simp only [Act.put, List.setIfInBounds_toArray, List.set_cons_zero, List.set_cons_succ])
                  refine take_at 40 107 shapeWaysr10_40 (v := ?_) (Or.inl ⟨by rfl, ?_⟩) ?_
                  rotate_left 1
                  · ((intro w hSw; (try dsimp only at hSw); unfold shapeWaysr10_40; go_simp) <;> with_reducible rfl)
                  (try simp only [Act.put, List.setIfInBounds_toArray, List.set_cons_zero, List.set_cons_succ])
                  refine take_at 41 108 shapeWaysr10_41 (v := ?_) (Or.inl ⟨by rfl, ?_⟩) ?_
                  rotate_left 1
                  · ((intro w hSw; (try dsimp only at hSw); unfold shapeWaysr10_41; go_simp) <;> with_reducible rfl)
                  (try simp only [Act.put, List.setIfInBounds_toArray, List.set_cons_zero, List.set_cons_succ])
                  refine take_at 42 109 shapeWaysr10_42 (v := ?_) (Or.inl ⟨by rfl, ?_⟩) ?_
                  rotate_left 1
                  · ((intro w hSw; (try dsimp only at hSw); unfold shapeWaysr10_42; go_simp) <;> with_reducible rfl)
                  (try simp only [Act.put, List.setIfInBounds_toArray, List.set_cons_zero, List.set_cons_succ])
                  refine take_at 43 110 shapeWaysr10_43 (v := ?_) (Or.inl ⟨by rfl, ?_⟩) ?_
                  rotate_left 1
                  · ((intro w hSw; (try dsimp only at hSw); unfold shapeWaysr10_43; go_simp) <;> with_reducible rfl)
                  (try simp only [Act.put, List.setIfInBounds_toArray, List.set_cons_zero, List.set_cons_succ])
                  refine take_at 44 111 shapeWaysr10_44 (yields_part (g2) (q * 26 + 21) 25 (.tmp 110) #[.int .i64 p.h.k, .int .i64 p.h.i, .int .i64 p.h.j, .int .i64 p.h.n, (.slice ph2 p.h.kids.length qh2)] du (fun _ h => seesN_blk HX102.out trivial (seesN_of Kk110.out h)) (by rfl) rfl (by rfl) (row_sub HS2.out 21 5 (by decide)) hu1 (by cases du <;> first | rfl | exact hu2) size_term) ?_
                  (try simp only [Act.put, List.setIfInBounds_toArray, List.set_cons_zero, List.set_cons_succ])
                  apply (via_joinCC (K := fun W124 g117 g128 => (Kept W107 W124) ∧ (LiesQ W124 (Par V0 V0.heap.size (g72 :: []) (fun _ => True)) ([p.a, p.b, p.x, p.y, p.h]) (.slice (some ⟨g117, 0, none⟩) 5 5)) ∧ (LiesQ W124 (Par V0 V0.heap.size (g72 :: []) (fun _ => True)) ([p.a, p.b, p.x, p.y, p.h]) (.slice (some ⟨g128, 0, none⟩) 5 5))))
                  intro HJj111
                  · refine wpAnyH_ready (rs := [19, 45]) (by kernel_rfl) (by simp) ?_
                    refine AllReadyH.cons (o := shapeWaysr10_19) rfl (fun K hK => ?_) ?_
                    · unfold shapeWaysr10_19
                      go_simp
                      refine at_K (fun W113 hW113 => ?_)
                      obtain ⟨g117, hg118, Kk115, Hx114, Hz116, KV119, HN120⟩ := alloc1v (kept_trans KB84.out Kk110.out) hW113
                      rw [hg118]
                      clear hW113
                      have kq122 := (kept_trans Kk110.out Kk115.out)
                      have HR121 := Lib.hid (q_row5 (Q := (Par V0 V0.heap.size (g72 :: []) (fun _ => True))) Hx114.out HFP.out.2.1 (HL90.out.later kq122) HFP.out.2.2.1 (HL91.out.later kq122) HFP.out.2.2.2.1 (HL92.out.later kq122) HFP.out.2.2.2.2.1 (HL93.out.later kq122) HFP.out.2.2.2.2.2 (HL94.out.later kq122) (par_newg HN120.out (fun h => Nat.lt_irrefl _ (Nat.lt_of_lt_of_le ((xlt_later XL100.out Kk110.out) _ h) (Nat.le_of_eq hg118)))))
                      clear kq122
                      clear hg118
                      (try clear hHeld)
                      refine hK.out _ _ (seesN_kept _ Kk115.out) (fun hHeld => ?_)
                      clear hK K
                      (try simp only [Act.put, List.setIfInBounds_toArray, List.set_cons_zero, List.set_cons_succ])
                      refine wpAnyH_ready (rs := [45]) (by kernel_rfl) (by simp) ?_
                      refine AllReadyH.cons (o := shapeWaysr10_45) rfl (fun K hK => ?_) ?_
                      · unfold shapeWaysr10_45
                        go_simp
                        refine at_K (fun W124 hW124 => ?_)
                        obtain ⟨g128, hg129, Kk126, Hx125, Hz127, KV130, HN131⟩ := alloc1v KV119.out hW124
                        rw [hg129]
                        clear hW124
                        have kq133 := (kept_trans Kk110.out (kept_trans Kk115.out Kk126.out))
                        have HR132 := Lib.hid (q_row5 (Q := (Par V0 V0.heap.size (g72 :: []) (fun _ => True))) Hx125.out HFP.out.2.1 (HL95.out.later kq133) HFP.out.2.2.1 (HL96.out.later kq133) HFP.out.2.2.2.1 (HL97.out.later kq133) HFP.out.2.2.2.2.1 (HL98.out.later kq133) HFP.out.2.2.2.2.2 (HL99.out.later kq133) (par_newg HN131.out (fun h => Nat.lt_irrefl _ (Nat.lt_of_lt_of_le ((xlt_later XL100.out (kept_trans Kk110.out Kk115.out)) _ h) (Nat.le_of_eq hg129)))))
                        clear kq133
                        clear hg129
                        (try clear hHeld)
                        refine hK.out _ _ (seesN_kept _ (kept_trans Kk115.out Kk126.out)) (fun hHeld => ?_)
                        clear hK K
                        (try simp only [Act.put, List.setIfInBounds_toArray, List.set_cons_zero, List.set_cons_succ])
                        exact HJj111 W124 g117 g128 ⟨(kept_trans Kk115.out Kk126.out), (HR121.out.later Kk126.out), HR132.out⟩
                      exact AllReadyH.nil
                    refine AllReadyH.cons (o := shapeWaysr10_45) rfl (fun K hK => ?_) ?_
                    · unfold shapeWaysr10_45
                      go_simp
                      refine at_K (fun W135 hW135 => ?_)
                      obtain ⟨g139, hg140, Kk137, Hx136, Hz138, KV141, HN142⟩ := alloc1v (kept_trans KB84.out Kk110.out) hW135
                      rw [hg140]
                      clear hW135
                      have kq144 := (kept_trans Kk110.out Kk137.out)
                      have HR143 := Lib.hid (q_row5 (Q := (Par V0 V0.heap.size (g72 :: []) (fun _ => True))) Hx136.out HFP.out.2.1 (HL95.out.later kq144) HFP.out.2.2.1 (HL96.out.later kq144) HFP.out.2.2.2.1 (HL97.out.later kq144) HFP.out.2.2.2.2.1 (HL98.out.later kq144) HFP.out.2.2.2.2.2 (HL99.out.later kq144) (par_newg HN142.out (fun h => Nat.lt_irrefl _ (Nat.lt_of_lt_of_le ((xlt_later XL100.out Kk110.out) _ h) (Nat.le_of_eq hg140)))))
                      clear kq144
                      clear hg140
                      (try clear hHeld)
                      refine hK.out _ _ (seesN_kept _ Kk137.out) (fun hHeld => ?_)
                      clear hK K
                      (try simp only [Act.put, List.setIfInBounds_toArray, List.set_cons_zero, List.set_cons_succ])
                      refine wpAnyH_ready (rs := [19]) (by kernel_rfl) (by simp) ?_
                      refine AllReadyH.cons (o := shapeWaysr10_19) rfl (fun K hK => ?_) ?_
                      · unfold shapeWaysr10_19
                        go_simp
                        refine at_K (fun W146 hW146 => ?_)
                        obtain ⟨g150, hg151, Kk148, Hx147, Hz149, KV152, HN153⟩ := alloc1v KV141.out hW146
                        rw [hg151]
                        clear hW146
                        have kq155 := (kept_trans Kk110.out (kept_trans Kk137.out Kk148.out))
                        have HR154 := Lib.hid (q_row5 (Q := (Par V0 V0.heap.size (g72 :: []) (fun _ => True))) Hx147.out HFP.out.2.1 (HL90.out.later kq155) HFP.out.2.2.1 (HL91.out.later kq155) HFP.out.2.2.2.1 (HL92.out.later kq155) HFP.out.2.2.2.2.1 (HL93.out.later kq155) HFP.out.2.2.2.2.2 (HL94.out.later kq155) (par_newg HN153.out (fun h => Nat.lt_irrefl _ (Nat.lt_of_lt_of_le ((xlt_later XL100.out (kept_trans Kk110.out Kk137.out)) _ h) (Nat.le_of_eq hg151)))))
                        clear kq155
                        clear hg151
                        (try clear hHeld)
                        refine hK.out _ _ (seesN_kept _ (kept_trans Kk137.out Kk148.out)) (fun hHeld => ?_)
                        clear hK K
                        (try simp only [Act.put, List.setIfInBounds_toArray, List.set_cons_zero, List.set_cons_succ])
                        exact HJj111 W146 g150 g139 ⟨(kept_trans Kk137.out Kk148.out), HR154.out, (HR143.out.later Kk148.out)⟩
                      exact AllReadyH.nil
                    exact AllReadyH.nil
                  · intro W124 g117 g128 k156
                    obtain ⟨q157, q158, q159⟩ := k156
                    have Kk160 := Lib.hid q157
                    have KV161 := Lib.hid (kept_trans (kept_trans KB84.out Kk110.out) Kk160.out)
                    have HL162 := Lib.hid q158
                    have HL163 := Lib.hid q159
                    clear q157 q158 q159
                    have hHeld : SeesN W107 V0.heap.size W124 := seesN_kept _ Kk160.out
                    refine wpAnyH_ready (rs := [46]) (by kernel_rfl) (by simp) ?_
                    refine AllReadyH.cons (o := shapeWaysr10_46) rfl (fun K hK => ?_) ?_
                    · unfold shapeWaysr10_46
                      go_simp
                      have hq166 := keepterms_anyW [p.a, p.b, p.x, p.y, p.h] [p.a, p.b, p.x, p.y, p.h] _ ((.slice (some ⟨g117, 0, none⟩) 5 5)) ((.slice (some ⟨g128, 0, none⟩) 5 5)) HL162.out.lies HL163.out.lies
                      rw [samesB_selfW [p.a, p.b, p.x, p.y, p.h]] at hq166
                      refine hq166.mono ?_
                      clear hq166
                      rintro e w164 ⟨rfl, k165⟩
                      have Kk167 := Lib.hid k165
                      clear k165
                      clear hHeld
                      refine hK.out _ _ (seesN_kept _ (kept_trans Kk160.out Kk167.out)) (fun hHeld => ?_)
                      clear hK K
                      (try simp only [Act.put, List.setIfInBounds_toArray, List.set_cons_zero, List.set_cons_succ])
                      refine take_at 47 114 shapeWaysr10_47 (v := ?_) (Or.inl ⟨by rfl, ?_⟩) ?_
                      rotate_left 1
                      · ((intro w hSw; (try dsimp only at hSw); unfold shapeWaysr10_47; go_simp) <;> with_reducible rfl)
                      (try simp only [Act.put, List.setIfInBounds_toArray, List.set_cons_zero, List.set_cons_succ])
                      refine take_at 48 115 shapeWaysr10_48 (v := ?_) (Or.inl ⟨by rfl, ?_⟩) ?_
                      rotate_left 1
                      · ((intro w hSw; (try dsimp only at hSw); unfold shapeWaysr10_48; go_simp) <;> with_reducible rfl)
                      (try simp only [Act.put, List.setIfInBounds_toArray, List.set_cons_zero, List.set_cons_succ])
                      refine wpAnyH_done (by kernel_rfl) ?_ _
                      clear hHeld
                      have kvV0 : SeesN V0 V0.heap.size w164 := seesN_kept _ (kept_trans KB84.out (kept_trans Kk110.out (kept_trans Kk160.out Kk167.out)))
                      have kvW82 : SeesN W82 V0.heap.size w164 := seesN_kept _ (kept_trans Kk110.out (kept_trans Kk160.out Kk167.out))
                      go_wp2
                      go_roundw
                      case rel => exact ⟨q + 1, hlt, by go_num, kept_trans Kk61.out (kept_trans Kk67.out (kept_trans KB85.out (kept_trans Kk110.out (kept_trans Kk160.out Kk167.out))))⟩
                      case measure => simp [intOf]; omega
                    exact AllReadyH.nil
                exact AllReadyH.nil
              exact AllReadyH.nil
            · have kvV0 : SeesN V0 V0.heap.size wr := seesN_kept _ (kept_trans Kk10.out (kept_trans Kk16.out (kept_trans Kk25.out (kept_trans Kk34.out (kept_trans Kk38.out (kept_trans Kk47.out (kept_trans Kk55.out (kept_trans Kk59.out Kk61.out))))))))
              go_wp2_with fail
              clear kvV0
              refine (wakes26_any _).mono ?_
              rintro e w168 ⟨rfl, k169⟩
              have Kk170 := Lib.hid k169
              clear k169
              have kvV0 : SeesN V0 V0.heap.size w168 := seesN_kept _ (kept_trans Kk10.out (kept_trans Kk16.out (kept_trans Kk25.out (kept_trans Kk34.out (kept_trans Kk38.out (kept_trans Kk47.out (kept_trans Kk55.out (kept_trans Kk59.out (kept_trans Kk61.out Kk170.out)))))))))
              go_wp2
              go_ret
              exact ⟨rfl, (kept_trans Kk4.out (kept_trans Kk10.out (kept_trans Kk16.out (kept_trans Kk25.out (kept_trans Kk34.out (kept_trans Kk38.out (kept_trans Kk47.out (kept_trans Kk55.out (kept_trans Kk59.out (kept_trans Kk61.out Kk170.out))))))))))⟩
        exact AllReadyH.nil
      exact AllReadyH.nil
    exact AllReadyH.nil
  | true =>
    have kvV0 : SeesN V0 V0.heap.size w12 := seesN_kept _ (kept_trans Kk10.out Kk16.out)
    go_wp2
    go_ret
    exact ⟨rfl, (kept_trans Kk4.out (kept_trans Kk10.out Kk16.out))⟩

end Go.Proofs.YtgododpkbiaacaaGreat

namespace Go.Proofs.YtgododpkbiaacaaGreat
open Go.ChangeShapes Go.WideShapes Go.ChangeAt Go.RowKit

theorem own : ownKnob Tryz.prog.godebug = none := by kernel_rfl
theorem cells_int : Tryz.prog.cellsOf 3 = 1 := by kernel_rfl
theorem cells_kids : Tryz.prog.cellsOf 23 = 1 := by kernel_rfl
theorem cells_term : Tryz.prog.cellsOf 25 = 5 := by kernel_rfl
theorem laidOut : laidOutB Tryz.prog = true := by kernel_rfl

instance instOpenTm : Inhabited (Tm × Value) := ⟨(.mk 0 0 0 0 [], .nilIface)⟩

theorem list5 {α : Type} {l : List α} (h : l.length = 5) : ∃ a b c d e, l = [a, b, c, d, e] := by
  match l, h with
  | [a, b, c, d, e], _ => exact ⟨a, b, c, d, e, rfl⟩

theorem wf_I64 {x : Int} (h : (Lit.int .i64 x).wf = true) : I64 x := by
  simp [Lit.wf] at h
  have hm : IntKind.i64.min = -9223372036854775808 := by decide
  rw [hm] at h
  exact h

set_option maxRecDepth 100000 in
theorem open_term {H : Type} {enc : TypeId × Value → H} {w : World} {base : Nat} {sp : Nat → Bool} {hd : Bool} : ∀ (fuel : Nat) (cs : List Value) (x : DataW H × List MemPlace),
    DataW.trod enc Tryz.prog w base sp hd fuel 25 cs = some x → ∃ (t : Tm) (s : Value), cs = [.int .i64 t.k, .int .i64 t.i, .int .i64 t.j, .int .i64 t.n, s] ∧ t.fine ∧ Lies w t.kids s := by
  intro fuel
  induction fuel using Nat.strongRecOn with
  | _ fuel ih =>
    intro cs x h
    obtain ⟨xs, n, rfl, rfl, hl, hlen, hf⟩ := DataW.trod_struct Tryz.underlying25 h
    rw [cells_term] at hl
    obtain ⟨v0, v1, v2, v3, v4, rfl⟩ := list5 hl
    obtain ⟨y0, y1, y2, y3, y4, rfl⟩ := list5 hlen
    have g0 := hf 0 _ rfl
    have g1 := hf 1 _ rfl
    have g2 := hf 2 _ rfl
    have g3 := hf 3 _ rfl
    have g4 := hf 4 _ rfl
    simp [cells_int, cells_kids] at g0 g1 g2 g3 g4
    obtain ⟨k, e0, -, w0⟩ := DataW.trod_int Tryz.underlying3 g0
    obtain ⟨i, e1, -, w1⟩ := DataW.trod_int Tryz.underlying3 g1
    obtain ⟨j, e2, -, w2⟩ := DataW.trod_int Tryz.underlying3 g2
    obtain ⟨m, e3, -, w3⟩ := DataW.trod_int Tryz.underlying3 g3
    simp at e0 e1 e2 e3
    subst e0 e1 e2 e3
    rcases DataW.trod_slice Tryz.underlying23 g4 with ⟨e4, -⟩ | ⟨a, len, cap, elems, rest, n', rfl, e4, -, hb, hlc, hm, hlen', hel, -, -⟩
    · simp at e4
      subst e4
      exact ⟨.mk k i j m [], _, rfl, ⟨wf_I64 w0, wf_I64 w1, wf_I64 w2, wf_I64 w3⟩, .mk [] none 0 (fun _ => .nilIface) (Nat.le_refl _) (by decide) (fun _ h => by cases h) (fun _ h => by cases h) (fun _ h => by cases h)⟩
    · simp at e4
      subst e4
      have key : ∀ i, i < len → ∃ p : Tm × Value, p.1.fine ∧ Lies w p.1.kids p.2 ∧ ∃ b o, a = ⟨b, o, none⟩ ∧ Node w b (o + i * 5) p.1 p.2 := by
        intro i hi
        have h1 := hel i hi
        rw [cells_term, List.getElem?_eq_getElem (by omega)] at h1
        obtain ⟨cs', h2, h3⟩ := Option.bind_eq_some_iff.1 h1
        obtain ⟨t, s, rfl, hfine, hlies⟩ := ih n' (by omega) _ _ h3
        obtain ⟨-, -, hcell⟩ := World.cells?_some h2
        have hs0 : a.spot = none := by
          have h1 := hel 0 (by omega)
          rw [cells_term, List.getElem?_eq_getElem (by omega)] at h1
          obtain ⟨cs0, h2, -⟩ := Option.bind_eq_some_iff.1 h1
          obtain ⟨-, hl0, hc0⟩ := World.cells?_some h2
          have c0 := hc0 0 (by omega)
          rw [List.getElem?_eq_getElem (by omega)] at c0
          simpa [Addr.add] using World.cell?_spot c0
        obtain ⟨b, o, spot⟩ := a
        simp only at hs0
        subst hs0
        refine ⟨(t, s), hfine, hlies, b, o, rfl, ?_⟩
        have hc : ∀ q, q < 5 → w.cell? ⟨b, o + i * 5 + q, none⟩ = [Value.int .i64 t.k, .int .i64 t.i, .int .i64 t.j, .int .i64 t.n, s][q]? := fun q hq => by
          have := hcell q hq
          rwa [add_plain, add_plain] at this
        exact ⟨hc 0 (by omega), hc 1 (by omega), hc 2 (by omega), hc 3 (by omega), hc 4 (by omega)⟩
      obtain ⟨f, hf'⟩ := Go.Deep.choose_lt (α := Tm × Value) (p := fun i p => p.1.fine ∧ Lies w p.1.kids p.2 ∧ ∃ b o, a = ⟨b, o, none⟩ ∧ Node w b (o + i * 5) p.1 p.2) key
      have hl5 : ((List.range len).map fun i => (f i).1).length = len := by simp
      refine ⟨.mk k i j m ((List.range len).map fun i => (f i).1), _, rfl, ⟨wf_I64 w0, wf_I64 w1, wf_I64 w2, wf_I64 w3⟩, ?_⟩
      have := Lies.mk (w := w) ((List.range len).map fun i => (f i).1) (some a) cap (fun i => (f i).2) (by simpa using hlc) hm
        (fun x hx => by
          obtain ⟨i, hi, rfl⟩ := List.mem_map.1 hx
          exact (hf' i (List.mem_range.1 hi)).1)
        (fun i hi => by
          obtain ⟨b, o, ha, hn⟩ := (hf' i (by simpa using hi)).2.2
          exact ⟨b, o, by rw [ha], by simpa using hn⟩)
        (fun i hi => by simpa using (hf' i (by simpa using hi)).2.1)
      rwa [hl5] at this
end Go.Proofs.YtgododpkbiaacaaGreat

namespace Go.Proofs.YtgododpkbiaacaaGreat
open Go.ChangeShapes Go.WideShapes Go.ChangeAt Go.RowKit

theorem cells_entry : Tryz.prog.cellsOf 45 = 6 := by kernel_rfl
instance instOpenEn : Inhabited (En × Value) := ⟨(⟨.mk 0 0 0 0 [], 0⟩, .nilIface)⟩
theorem list6 {α : Type} {l : List α} (h : l.length = 6) : ∃ a b c d e f, l = [a, b, c, d, e, f] := by
  match l, h with
  | [a, b, c, d, e, f], _ => exact ⟨a, b, c, d, e, f, rfl⟩
theorem list2 {α : Type} {l : List α} (h : l.length = 2) : ∃ a b, l = [a, b] := by
  match l, h with
  | [a, b], _ => exact ⟨a, b, rfl⟩

set_option maxRecDepth 100000 in
theorem open_entry {H : Type} {enc : TypeId × Value → H} {w : World} {base : Nat} {sp : Nat → Bool} {hd : Bool} (fuel : Nat) (cs : List Value) (x : DataW H × List MemPlace)
    (h : DataW.trod enc Tryz.prog w base sp hd fuel 45 cs = some x) : ∃ (e : En) (s : Value), cs = [.int .i64 e.a.k, .int .i64 e.a.i, .int .i64 e.a.j, .int .i64 e.a.n, s, .int .i64 e.i] ∧ e.fine ∧ Lies w e.a.kids s := by
  obtain ⟨xs, n, rfl, rfl, hl, hlen, hf⟩ := DataW.trod_struct Tryz.underlying45 h
  rw [cells_entry] at hl
  obtain ⟨v0, v1, v2, v3, v4, v5, rfl⟩ := list6 hl
  obtain ⟨y0, y1, rfl⟩ := list2 hlen
  have g0 := hf 0 _ rfl
  have g1 := hf 1 _ rfl
  simp [cells_int, cells_term] at g0 g1
  obtain ⟨t, s, hcs, hfine, hlies⟩ := open_term n _ _ g0
  obtain ⟨i, e1, -, w1⟩ := DataW.trod_int Tryz.underlying3 g1
  simp at e1 hcs
  subst e1
  obtain ⟨rfl, rfl, rfl, rfl, rfl⟩ := hcs
  exact ⟨⟨t, i⟩, v4, rfl, ⟨hfine, wf_I64 w1⟩, hlies⟩

set_option maxRecDepth 100000 in
theorem open_argE {H : Type} {enc : TypeId × Value → H} {w : World} {r : Reach} {b0 base : Nat} {sp : Nat → Bool} {hd : Bool} {v : Value} {d : DataW H} {p : List MemPlace} (hv : Value.okWide Tryz.prog w r b0 22 v)
    (h : DataW.Trod enc Tryz.prog w base sp hd 22 v d p) : ∃ l : List En, LiesE w l v := by
  obtain ⟨a0, len0, cap0, rfl⟩ := okWide_slice Tryz.underlying22 hv
  obtain ⟨fuel, hf⟩ := h
  rcases DataW.trod_slice Tryz.underlying22 hf with ⟨e4, -⟩ | ⟨a, len, cap, elems, rest, n', rfl, e4, -, hb, hlc, hm, hlen', hel, -, -⟩
  · simp [Value.cells] at e4
    obtain ⟨rfl, rfl, rfl⟩ := e4
    exact ⟨[], liesE_nil _⟩
  · simp [Value.cells] at e4
    obtain ⟨rfl, rfl, rfl⟩ := e4
    have key : ∀ i, i < len0 → ∃ p : En × Value, p.1.fine ∧ Lies w p.1.a.kids p.2 ∧ ∃ b o, a = ⟨b, o, none⟩ ∧ ENode w b (o + i * 6) p.1 p.2 := by
      intro i hi
      have h1 := hel i hi
      rw [cells_entry, List.getElem?_eq_getElem (by omega)] at h1
      obtain ⟨cs', h2, h3⟩ := Option.bind_eq_some_iff.1 h1
      obtain ⟨t, s, rfl, hfine, hlies⟩ := open_entry n' _ _ h3
      obtain ⟨-, -, hcell⟩ := World.cells?_some h2
      have hs0 : a.spot = none := by
        have h1 := hel 0 (by omega)
        rw [cells_entry, List.getElem?_eq_getElem (by omega)] at h1
        obtain ⟨cs0, h2, -⟩ := Option.bind_eq_some_iff.1 h1
        obtain ⟨-, hl0, hc0⟩ := World.cells?_some h2
        have c0 := hc0 0 (by omega)
        rw [List.getElem?_eq_getElem (by omega)] at c0
        simpa [Addr.add] using World.cell?_spot c0
      obtain ⟨b, o, spot⟩ := a
      simp only at hs0
      subst hs0
      refine ⟨(t, s), hfine, hlies, b, o, rfl, ?_⟩
      have hc : ∀ q, q < 6 → w.cell? ⟨b, o + i * 6 + q, none⟩ = [Value.int .i64 t.a.k, .int .i64 t.a.i, .int .i64 t.a.j, .int .i64 t.a.n, s, .int .i64 t.i][q]? := fun q hq => by
        have := hcell q hq
        rwa [add_plain, add_plain] at this
      exact ⟨hc 0 (by omega), hc 1 (by omega), hc 2 (by omega), hc 3 (by omega), hc 4 (by omega), hc 5 (by omega)⟩
    obtain ⟨f, hf'⟩ := Go.Deep.choose_lt (α := En × Value) (p := fun i p => p.1.fine ∧ Lies w p.1.a.kids p.2 ∧ ∃ b o, a = ⟨b, o, none⟩ ∧ ENode w b (o + i * 6) p.1 p.2) key
    have hl5 : ((List.range len0).map fun i => (f i).1).length = len0 := by simp
    refine ⟨(List.range len0).map fun i => (f i).1, some a, cap0, (fun i => (f i).2), by rw [hl5], by simpa using hlc, hm, ?_, ?_, ?_⟩
    · intro x hx
      obtain ⟨i, hi, rfl⟩ := List.mem_map.1 hx
      exact (hf' i (List.mem_range.1 hi)).1
    · intro i hi
      obtain ⟨b, o, ha, hn⟩ := (hf' i (by simpa using hi)).2.2
      exact ⟨b, o, by rw [ha], by simpa using hn⟩
    · intro i hi
      simpa using (hf' i (by simpa using hi)).2.1
end Go.Proofs.YtgododpkbiaacaaGreat

namespace Go.Proofs.YtgododpkbiaacaaGreat
open Go.ChangeShapes Go.WideShapes Go.ChangeAt Go.RowKit

set_option maxRecDepth 100000 in
theorem open_argTF {H : Type} {enc : TypeId × Value → H} {W : World} {r : Reach} {b0 base : Nat} {sp : Nat → Bool} {hd : Bool} {v : Value} {d : DataW H} {p : List MemPlace} (hv : Value.okWide Tryz.prog W r b0 25 v)
    (h : DataW.Trod enc Tryz.prog W base sp hd 25 v d p) : ∃ (t : Tm) (s : Value), Lies W t.kids s ∧ t.fine ∧ v = tv t s := by
  obtain ⟨cs, rfl, hsz⟩ := okWide_struct Tryz.underlying25 hv
  obtain ⟨fuel, hf⟩ := h
  obtain ⟨t, s, hcs, hft, hl⟩ := open_term fuel _ _ hf
  refine ⟨t, s, hl, hft, ?_⟩
  have : cs.toList = [.int .i64 t.k, .int .i64 t.i, .int .i64 t.j, .int .i64 t.n, s] := by simpa [Value.cells] using hcs
  rw [show cs = #[.int .i64 t.k, .int .i64 t.i, .int .i64 t.j, .int .i64 t.n, s] from by cases cs; simp_all]
end Go.Proofs.YtgododpkbiaacaaGreat

namespace Go.Proofs.YtgododpkbiaacaaGreat
open Go.ChangeShapes Go.WideShapes

def code (l : List Nat) : List Char := l.map Char.ofNat
def joinN : List (List Nat) → List Nat
  | [] => []
  | [a] => a
  | a :: b :: r => a ++ 32 :: joinN (b :: r)

theorem words_one : ∀ a : List Nat, (a.all fun n => Char.ofNat n != Char.ofNat 32) = true → wordsSigns (code a) = [code a]
  | [], _ => rfl
  | n :: a, h => by
    simp only [List.all_cons, Bool.and_eq_true, bne_iff_ne] at h
    have ih := words_one a h.2
    show wordsSigns (Char.ofNat n :: code a) = _
    rw [wordsSigns]
    · rw [ih]; rfl
    · exact h.1
theorem words_more : ∀ (a : List Nat) (r : List Char), (a.all fun n => Char.ofNat n != Char.ofNat 32) = true → wordsSigns (code a ++ Char.ofNat 32 :: r) = code a :: wordsSigns r
  | [], r, _ => by
    show wordsSigns (Char.ofNat 32 :: r) = _
    rw [show Char.ofNat 32 = _ from rfl, wordsSigns]; rfl
  | n :: a, r, h => by
    simp only [List.all_cons, Bool.and_eq_true, bne_iff_ne] at h
    have ih := words_more a r h.2
    show wordsSigns (Char.ofNat n :: (code a ++ Char.ofNat 32 :: r)) = _
    rw [wordsSigns]
    · rw [ih]; rfl
    · exact h.1
theorem words_join : ∀ ws : List (List Nat), ws ≠ [] → (ws.all fun w => w.all fun n => Char.ofNat n != Char.ofNat 32) = true → wordsSigns (code (joinN ws)) = ws.map code
  | [], h, _ => absurd rfl h
  | [a], _, h => by simp only [List.all_cons, List.all_nil, Bool.and_true] at h; exact words_one a h
  | a :: b :: r, _, h => by
    have h' := h
    rw [List.all_cons, Bool.and_eq_true] at h'
    have ih := words_join (b :: r) (by simp) h'.2
    show wordsSigns (code (a ++ 32 :: joinN (b :: r))) = _
    rw [show code (a ++ 32 :: joinN (b :: r)) = code a ++ Char.ofNat 32 :: code (joinN (b :: r)) from by simp [code], words_more a _ h'.1, ih]; rfl

def cutWords : List (List Nat) := [[104, 97, 114, 110, 101, 115, 115],
  [99, 52, 101, 101, 53, 49, 99, 53, 56, 102, 101, 55, 53, 102, 50, 98, 53, 53, 98, 97, 54, 56, 97, 98, 99, 101, 55, 55, 56, 56, 102, 101, 100, 56, 55, 50, 49, 52, 57, 101, 99, 99, 51, 53, 51, 99, 100, 55, 55, 48, 56, 100, 54, 49, 48, 98, 97, 102, 48, 51, 53, 56, 99, 57],
  [99, 117, 116],
  [97, 116],
  [116, 114, 97, 110, 115, 104, 105, 112, 47, 116, 114, 97, 110, 115, 104, 105, 112, 108, 97, 119, 50, 54, 46, 83, 104, 97, 112, 101, 87, 97, 121, 115],
  [116, 114, 97, 110, 115, 104, 105, 112, 47, 116, 114, 97, 110, 115, 104, 105, 112, 108, 97, 119, 50, 54, 46, 83, 104, 97, 112, 101, 72, 101, 97, 100, 115]]

set_option maxRecDepth 100000 in
theorem cut_words : wordsSigns Tryz.prog.initOrder.toList = cutWords.map code := by
  have h : Tryz.prog.initOrder.toList = code (joinN cutWords) := by
    show (String.ofList (code (joinN cutWords))).toList = _
    exact String.toList_ofList
  rw [h]
  exact words_join cutWords (by simp [cutWords]) (by decide +kernel)

theorem cut_behind : behindMainWord (cutWords.map code) = code [99, 117, 116] :: cutWords.tail.tail.tail.map code := by kernel_rfl
theorem cut_lifts : stripLifts liftWords (code [99, 117, 116] :: cutWords.tail.tail.tail.map code) = ([], code [99, 117, 116] :: cutWords.tail.tail.tail.map code) := by kernel_rfl
theorem cut1 : (code [99, 117, 116] == "gc".toList) = false := by kernel_rfl
theorem cut2 : (code [99, 117, 116] == "spec".toList) = false := by kernel_rfl
theorem cut3 : (code [99, 117, 116] == "cut".toList) = true := by kernel_rfl
theorem cut_all : behindMainWord (wordsSigns Tryz.prog.initOrder.toList) = code [99, 117, 116] :: cutWords.tail.tail.tail.map code := by rw [cut_words, cut_behind]
theorem make_of (P : Program) {c : List Char} {rest : List (List Char)} (h : behindMainWord (wordsSigns P.initOrder.toList) = c :: rest) (h1 : (c == "gc".toList) = false) (h2 : (c == "spec".toList) = false) (h3 : (c == "cut".toList) = true) : P.make = some .cut := by
  unfold Program.make; rw [h]
  simp only [h1, h2, h3, Bool.or_self, Bool.false_eq_true, if_false, Bool.true_or, if_true]
theorem mayEnter_of (P : Program) {c : List Char} {rest : List (List Char)} (h : behindMainWord (wordsSigns P.initOrder.toList) = c :: rest) (h3 : ((stripLifts liftWords (c :: rest)).2.head? == some "cut".toList) = true)
    (h4 : (stripLifts liftWords (c :: rest)).1 = []) (h5 : P.laysLater = false) (h6 : P.bearsReflect = false) (h7 : P.doorFits [] = true) : P.mayEnter = true := by
  unfold Program.mayEnter; rw [h]
  refine Bool.or_eq_true_iff.2 (Or.inr ?_)
  rw [h3, h4, h5, h6, h7]; rfl
theorem row_make : Tryz.prog.make = some .cut := make_of Tryz.prog cut_all cut1 cut2 cut3
theorem row_mayEnter : Tryz.prog.mayEnter = true := mayEnter_of Tryz.prog cut_all (by rw [cut_lifts]; kernel_rfl) (by rw [cut_lifts]) (by kernel_rfl) (by kernel_rfl) (by kernel_rfl)
theorem row_lifts : Tryz.prog.liftsFinal = false := by unfold Program.liftsFinal Program.headLifts; rw [cut_all, cut_lifts]; kernel_rfl
end Go.Proofs.YtgododpkbiaacaaGreat

namespace Go.Proofs.YtgododpkbiaacaaGreat.lawShapeWays
open Go.ChangeShapes Go.WideShapes Go.ChangeAt Go.RowKit

set_option maxRecDepth 100000 in
theorem lifted (os : Os) (started : os.Started) (H : Type) (enc : TypeId × Value → H) :
    ReturnsInHanded {} Tryz.checked os 3 .any (Rows.shapeWaysSpec.pre6 enc Tryz.prog Tryz.f3 Rows.shapeWaysRow.domain false) (Rows.shapeWaysSpec.post enc Tryz.prog Tryz.f3 false true false false) := by
  refine returnsInHanded_of_change (C := Tryz.checked) own started (by kernel_rfl) Tryz.func3
    (ChangeSpec.witness6 (enc := enc) (C := Tryz.checked) false ⟨#[], #[.slice none 0 0, .agg #[.int .i64 0, .int .i64 0, .int .i64 0, .int .i64 0, .slice none 0 0]], []⟩ 8 (by kernel_rfl) (by kernel_rfl) (by kernel_rfl) (by kernel_rfl)) ?_
  intro W base args ds gs before hval0 hW hcnd _
  have hval : ∀ (j : Nat) t v, Tryz.f3.params[j]? = some t → args[j]? = some v → Value.okWide Tryz.prog W .any base t v := hval0
  have hW' := hW
  obtain ⟨p, q, hA0, hV, rfl, hfz, hnd⟩ := hW
  have hA : DataW.TrodAll enc Tryz.prog W 0 (fun _ => true) true Tryz.f3.params.toList args.toList ds p := hA0
  rw [Tryz.params3] at hA hval
  obtain ⟨v0, vs0, d0, ds0, p0, q0, hargs0, rfl, rfl, h0, r0⟩ := trodAll_cons hA
  obtain ⟨v1, vs1, d1, ds1, p1, q1, hargs1, rfl, rfl, h1, r1⟩ := trodAll_cons r0
  obtain ⟨rfl, rfl, rfl⟩ := trodAll_nil r1
  obtain rfl : args = #[v0, v1] := by cases args; simp_all
  obtain ⟨rfl, rfl⟩ := trodVars_none hV
  have h0k := h0
  have hlt0 : ∀ x ∈ p0, x.block < W.heap.size := fun x hx => by have := hW'.lt x (by simp [hx]); simpa using this
  obtain ⟨l0, hl0⟩ := open_argE (hval 0 22 v0 rfl rfl) h0
  have h1k := h1
  have hlt1 : ∀ x ∈ p1, x.block < W.heap.size := fun x hx => by have := hW'.lt x (by simp [hx]); simpa using this
  obtain ⟨t1, s1, hl1, hf1, hv1⟩ := open_argTF (hval 1 25 v1 rfl rfl) h1
  subst hv1
  clear hA0 hval0
  simp only [List.append_nil] at hW'
  refine (shapeWays_any l0 t1 (fun b => b < W.heap.size) W _ s1 hl0 hf1 hl1.q).mono fun e W' ⟨he, hb⟩ => ?_
  subst he
  exact ⟨_, rfl, _, _, _, [], _, [], hW', trodAll_cons_mk (shut_bool Tryz.underlying4 _) trodAll_mk0, (trodAll_cons_mk (Below.trod laidOut (by kernel_rfl) (of_decide_eq_true (by kernel_rfl)) h0k hb hlt0) (trodAll_cons_mk (Below.trod laidOut (by kernel_rfl) (of_decide_eq_true (by kernel_rfl)) h1k hb hlt1) trodAll_mk0)), rfl, hb.frame _, fun h => by cases h⟩

theorem closed : joinedFacts Tryz.prog 3 Tryz.f3 Rows.shapeWaysSpec Rows.shapeWaysRow = true := by
  unfold joinedFacts
  rw [row_mayEnter, row_lifts, row_make]
  kernel_rfl

theorem proved : Rows.ShapeWaysSaid :=
  OpenClaim.holds_of_wide 3 Tryz.f3 rfl rfl rfl rfl rfl rfl rfl ⟨rfl, rfl, rfl, rfl, rfl⟩ rfl rfl rfl rfl rfl (by kernel_rfl) Tryz.func3 closed
    (of_decide_eq_true (by kernel_rfl)) (by unfold Func.isWrapper; first | (rw [if_pos (by decide +kernel)]; kernel_rfl) | (rw [if_neg (by decide +kernel)]; exact ⟨rfl, rfl⟩))
    (fun os started H enc _ => lifted os started H enc)
#print axioms proved
end Go.Proofs.YtgododpkbiaacaaGreat.lawShapeWays
