/-
  Facts and contracts that the proof of HetMakes uses.
-/
import Derived.Test.YtkdceahmknhojaaRows
import Derived.WalkKit
import Derived.Lib.Hide
import Derived.KernelRfl
import Derived.Deep.RegionWith
import Derived.Deep.RegionHeld3
import Derived.Deep.AppendLies
import Derived.Laws.Rows
import Derived.Laws.IdiomCopy
import Derived.Deep.Slices
import Derived.Lib.QuietBelow
import Derived.StillTailTactics
import Derived.BigQuiet
import Derived.IntWalk
import Derived.OwnWalk
import Derived.Deep.RegionLaw
import Derived.Deep.QuietTactic
import Derived.Deep.LoopGhost
import Derived.Deep.DeepCutAuto
import Derived.Deep.MidRow
import Derived.OrdersHeld
import Derived.Laws.Tables
import Derived.Laws.CopyOwn
import Derived.Laws.CopyRow
import Derived.Deep.RegionHeld
import Derived.ProofKit
import Derived.OpenShut
import Derived.Carry
import Derived.ChangeSlices
import Derived.JoinedOf
import Derived.Test.YtkdceahmknhojaaHetMakesQ7
namespace Go.Proofs.Ytkdceahmknhojaa
open Go.RowKit

def hetMakesr4_0 : Oper := { dst := some 12, op := Go.Op.load 51 (Go.Operand.tmp 7), type := 51, pos := "law.go:60", after := #[], guard := none }
def hetMakesr4_1 : Oper := { dst := some 13, op := Go.Op.call { callee := Go.Callee.value (Go.Operand.func 37), args := #[Go.Operand.tmp 12], argTypes := #[51] }, type := 51, pos := "law.go:60", after := #[{ on := 0, ground := Go.Ground.data }], guard := none }
def hetMakesr4_2 : Oper := { dst := some 14, op := Go.Op.load 45 (Go.Operand.tmp 3), type := 45, pos := "law.go:60", after := #[], guard := none }
def hetMakesr4_3 : Oper := { dst := some 15, op := Go.Op.call { callee := Go.Callee.value (Go.Operand.func 38), args := #[Go.Operand.tmp 14], argTypes := #[45] }, type := 45, pos := "law.go:60", after := #[{ on := 2, ground := Go.Ground.data }, { on := 1, ground := Go.Ground.chain }], guard := none }
def hetMakesr4_4 : Oper := { dst := some 16, op := Go.Op.call { callee := Go.Callee.value (Go.Operand.func 36), args := #[Go.Operand.tmp 13, Go.Operand.tmp 15], argTypes := #[51, 45] }, type := 4, pos := "law.go:60", after := #[{ on := 1, ground := Go.Ground.data }, { on := 3, ground := Go.Ground.data }, { on := 3, ground := Go.Ground.chain }], guard := none }
def hetMakesr4_5 : Oper := { dst := some 17, op := Go.Op.unOp Go.UnOp.not 4 (Go.Operand.tmp 16), type := 4, pos := "law.go:60", after := #[{ on := 4, ground := Go.Ground.data }], guard := none }
def hetMakesr4_6 : Oper := { dst := some 18, op := Go.Op.move (Go.Operand.tmp 17), type := 4, pos := "law.go:60", after := #[{ on := 5, ground := Go.Ground.data }, { on := 4, ground := Go.Ground.chain }], guard := none }
def hetMakesr4_7 : Oper := { dst := some 19, op := Go.Op.load 51 (Go.Operand.tmp 7), type := 51, pos := "law.go:60", after := #[{ on := 6, ground := Go.Ground.guard }], guard := some (6, false) }
def hetMakesr4_8 : Oper := { dst := some 20, op := Go.Op.call { callee := Go.Callee.value (Go.Operand.func 39), args := #[Go.Operand.tmp 19], argTypes := #[51] }, type := 32, pos := "law.go:60", after := #[{ on := 7, ground := Go.Ground.data }, { on := 6, ground := Go.Ground.chain }, { on := 6, ground := Go.Ground.guard }], guard := some (6, false) }
def hetMakesr4_9 : Oper := { dst := some 21, op := Go.Op.load 45 (Go.Operand.tmp 3), type := 45, pos := "law.go:60", after := #[{ on := 6, ground := Go.Ground.guard }], guard := some (6, false) }
def hetMakesr4_10 : Oper := { dst := some 22, op := Go.Op.call { callee := Go.Callee.value (Go.Operand.func 40), args := #[Go.Operand.tmp 21], argTypes := #[45] }, type := 32, pos := "law.go:60", after := #[{ on := 9, ground := Go.Ground.data }, { on := 8, ground := Go.Ground.chain }, { on := 6, ground := Go.Ground.guard }], guard := some (6, false) }
def hetMakesr4_11 : Oper := { dst := some 23, op := Go.Op.call { callee := Go.Callee.value (Go.Operand.func 25), args := #[Go.Operand.tmp 20, Go.Operand.tmp 22], argTypes := #[32, 32] }, type := 4, pos := "law.go:60", after := #[{ on := 8, ground := Go.Ground.data }, { on := 10, ground := Go.Ground.data }, { on := 10, ground := Go.Ground.chain }, { on := 6, ground := Go.Ground.guard }], guard := some (6, false) }
def hetMakesr4_12 : Oper := { dst := some 24, op := Go.Op.unOp Go.UnOp.not 4 (Go.Operand.tmp 23), type := 4, pos := "law.go:60", after := #[{ on := 11, ground := Go.Ground.data }, { on := 6, ground := Go.Ground.guard }], guard := some (6, false) }
def hetMakesr4_13 : Oper := { dst := some 25, op := Go.Op.pick (Go.Operand.tmp 18) (Go.Operand.const (Go.Value.bool true)) (Go.Operand.tmp 24), type := 4, pos := "law.go:60", after := #[{ on := 6, ground := Go.Ground.data }, { on := 12, ground := Go.Ground.data }], guard := none }
def hetMakesr4_14 : Oper := { dst := some 26, op := Go.Op.move (Go.Operand.tmp 25), type := 4, pos := "law.go:60", after := #[{ on := 13, ground := Go.Ground.data }, { on := 11, ground := Go.Ground.chain }], guard := none }
def hetMakesr4_15 : Oper := { dst := some 27, op := Go.Op.load 51 (Go.Operand.tmp 7), type := 51, pos := "law.go:60", after := #[{ on := 14, ground := Go.Ground.guard }], guard := some (14, false) }
def hetMakesr4_16 : Oper := { dst := some 28, op := Go.Op.move (Go.Operand.tmp 2), type := 3, pos := "law.go:60", after := #[{ on := 14, ground := Go.Ground.guard }], guard := some (14, false) }
def hetMakesr4_17 : Oper := { dst := some 29, op := Go.Op.call { callee := Go.Callee.value (Go.Operand.func 41), args := #[Go.Operand.tmp 27, Go.Operand.tmp 28], argTypes := #[51, 3] }, type := 51, pos := "law.go:60", after := #[{ on := 15, ground := Go.Ground.data }, { on := 16, ground := Go.Ground.data }, { on := 14, ground := Go.Ground.chain }, { on := 14, ground := Go.Ground.guard }], guard := some (14, false) }
def hetMakesr4_18 : Oper := { dst := some 30, op := Go.Op.load 45 (Go.Operand.tmp 3), type := 45, pos := "law.go:60", after := #[{ on := 14, ground := Go.Ground.guard }], guard := some (14, false) }
def hetMakesr4_19 : Oper := { dst := some 31, op := Go.Op.move (Go.Operand.tmp 2), type := 3, pos := "law.go:60", after := #[{ on := 14, ground := Go.Ground.guard }], guard := some (14, false) }
def hetMakesr4_20 : Oper := { dst := some 32, op := Go.Op.call { callee := Go.Callee.value (Go.Operand.func 42), args := #[Go.Operand.tmp 30, Go.Operand.tmp 31], argTypes := #[45, 3] }, type := 45, pos := "law.go:60", after := #[{ on := 18, ground := Go.Ground.data }, { on := 19, ground := Go.Ground.data }, { on := 17, ground := Go.Ground.chain }, { on := 14, ground := Go.Ground.guard }], guard := some (14, false) }
def hetMakesr4_21 : Oper := { dst := some 33, op := Go.Op.call { callee := Go.Callee.value (Go.Operand.func 36), args := #[Go.Operand.tmp 29, Go.Operand.tmp 32], argTypes := #[51, 45] }, type := 4, pos := "law.go:60", after := #[{ on := 17, ground := Go.Ground.data }, { on := 20, ground := Go.Ground.data }, { on := 20, ground := Go.Ground.chain }, { on := 14, ground := Go.Ground.guard }], guard := some (14, false) }
def hetMakesr4_22 : Oper := { dst := some 34, op := Go.Op.unOp Go.UnOp.not 4 (Go.Operand.tmp 33), type := 4, pos := "law.go:60", after := #[{ on := 21, ground := Go.Ground.data }, { on := 14, ground := Go.Ground.guard }], guard := some (14, false) }
def hetMakesr4_23 : Oper := { dst := some 35, op := Go.Op.pick (Go.Operand.tmp 26) (Go.Operand.const (Go.Value.bool true)) (Go.Operand.tmp 34), type := 4, pos := "law.go:60", after := #[{ on := 14, ground := Go.Ground.data }, { on := 22, ground := Go.Ground.data }], guard := none }
def hetMakesr6_0 : Oper := { dst := some 36, op := Go.Op.move (Go.Operand.tmp 1), type := 3, pos := "law.go:63", after := #[], guard := none }
def hetMakesr6_1 : Oper := { dst := some 37, op := Go.Op.fieldAddr 45 (Go.Operand.tmp 3) 1, type := 0, pos := "law.go:63", after := #[], guard := none }
def hetMakesr6_2 : Oper := { dst := some 38, op := Go.Op.load 32 (Go.Operand.tmp 37), type := 32, pos := "law.go:63", after := #[{ on := 1, ground := Go.Ground.data }], guard := none }
def hetMakesr6_3 : Oper := { dst := some 39, op := Go.Op.fieldAddr 45 (Go.Operand.tmp 3) 3, type := 0, pos := "law.go:63", after := #[], guard := none }
def hetMakesr6_4 : Oper := { dst := some 40, op := Go.Op.load 32 (Go.Operand.tmp 39), type := 32, pos := "law.go:63", after := #[{ on := 3, ground := Go.Ground.data }], guard := none }
def hetMakesr6_5 : Oper := { dst := some 41, op := Go.Op.call { callee := Go.Callee.value (Go.Operand.func 43), args := #[Go.Operand.tmp 36, Go.Operand.tmp 38, Go.Operand.tmp 40], argTypes := #[3, 32, 32] }, type := 51, pos := "law.go:63", after := #[{ on := 0, ground := Go.Ground.data }, { on := 2, ground := Go.Ground.data }, { on := 4, ground := Go.Ground.data }], guard := none }
def hetMakesr6_6 : Oper := { dst := some 42, op := Go.Op.move (Go.Operand.tmp 1), type := 3, pos := "law.go:63", after := #[], guard := none }
def hetMakesr6_7 : Oper := { dst := some 43, op := Go.Op.fieldAddr 45 (Go.Operand.tmp 3) 1, type := 0, pos := "law.go:63", after := #[], guard := none }
def hetMakesr6_8 : Oper := { dst := some 44, op := Go.Op.load 32 (Go.Operand.tmp 43), type := 32, pos := "law.go:63", after := #[{ on := 7, ground := Go.Ground.data }], guard := none }
def hetMakesr6_9 : Oper := { dst := some 45, op := Go.Op.fieldAddr 45 (Go.Operand.tmp 3) 3, type := 0, pos := "law.go:63", after := #[], guard := none }
def hetMakesr6_10 : Oper := { dst := some 46, op := Go.Op.load 32 (Go.Operand.tmp 45), type := 32, pos := "law.go:63", after := #[{ on := 9, ground := Go.Ground.data }], guard := none }
def hetMakesr6_11 : Oper := { dst := some 47, op := Go.Op.call { callee := Go.Callee.value (Go.Operand.func 44), args := #[Go.Operand.tmp 42, Go.Operand.tmp 44, Go.Operand.tmp 46], argTypes := #[3, 32, 32] }, type := 45, pos := "law.go:63", after := #[{ on := 6, ground := Go.Ground.data }, { on := 8, ground := Go.Ground.data }, { on := 10, ground := Go.Ground.data }, { on := 5, ground := Go.Ground.chain }], guard := none }
def hetMakesr6_12 : Oper := { dst := some 48, op := Go.Op.call { callee := Go.Callee.value (Go.Operand.func 36), args := #[Go.Operand.tmp 41, Go.Operand.tmp 47], argTypes := #[51, 45] }, type := 4, pos := "law.go:63", after := #[{ on := 5, ground := Go.Ground.data }, { on := 11, ground := Go.Ground.data }, { on := 11, ground := Go.Ground.chain }], guard := none }
def hetMakesr6_13 : Oper := { dst := some 49, op := Go.Op.move (Go.Operand.tmp 48), type := 4, pos := "law.go:63", after := #[{ on := 12, ground := Go.Ground.data }, { on := 12, ground := Go.Ground.chain }], guard := none }
def hetMakesr6_14 : Oper := { dst := some 50, op := Go.Op.move (Go.Operand.tmp 1), type := 3, pos := "law.go:63", after := #[{ on := 13, ground := Go.Ground.guard }], guard := some (13, true) }
def hetMakesr6_15 : Oper := { dst := some 51, op := Go.Op.fieldAddr 45 (Go.Operand.tmp 3) 1, type := 0, pos := "law.go:63", after := #[{ on := 13, ground := Go.Ground.guard }], guard := some (13, true) }
def hetMakesr6_16 : Oper := { dst := some 52, op := Go.Op.load 32 (Go.Operand.tmp 51), type := 32, pos := "law.go:63", after := #[{ on := 15, ground := Go.Ground.data }, { on := 13, ground := Go.Ground.guard }], guard := some (13, true) }
def hetMakesr6_17 : Oper := { dst := some 53, op := Go.Op.fieldAddr 45 (Go.Operand.tmp 3) 3, type := 0, pos := "law.go:63", after := #[{ on := 13, ground := Go.Ground.guard }], guard := some (13, true) }
def hetMakesr6_18 : Oper := { dst := some 54, op := Go.Op.load 32 (Go.Operand.tmp 53), type := 32, pos := "law.go:63", after := #[{ on := 17, ground := Go.Ground.data }, { on := 13, ground := Go.Ground.guard }], guard := some (13, true) }
def hetMakesr6_19 : Oper := { dst := some 55, op := Go.Op.fieldAddr 45 (Go.Operand.tmp 3) 4, type := 0, pos := "law.go:63", after := #[{ on := 13, ground := Go.Ground.guard }], guard := some (13, true) }
def hetMakesr6_20 : Oper := { dst := some 56, op := Go.Op.load 32 (Go.Operand.tmp 55), type := 32, pos := "law.go:63", after := #[{ on := 19, ground := Go.Ground.data }, { on := 13, ground := Go.Ground.guard }], guard := some (13, true) }
def hetMakesr6_21 : Oper := { dst := some 57, op := Go.Op.fieldAddr 45 (Go.Operand.tmp 3) 5, type := 0, pos := "law.go:63", after := #[{ on := 13, ground := Go.Ground.guard }], guard := some (13, true) }
def hetMakesr6_22 : Oper := { dst := some 58, op := Go.Op.load 32 (Go.Operand.tmp 57), type := 32, pos := "law.go:63", after := #[{ on := 21, ground := Go.Ground.data }, { on := 13, ground := Go.Ground.guard }], guard := some (13, true) }
def hetMakesr6_23 : Oper := { dst := some 59, op := Go.Op.call { callee := Go.Callee.value (Go.Operand.func 45), args := #[Go.Operand.tmp 50, Go.Operand.tmp 52, Go.Operand.tmp 54, Go.Operand.tmp 56, Go.Operand.tmp 58], argTypes := #[3, 32, 32, 32, 32] }, type := 51, pos := "law.go:63", after := #[{ on := 14, ground := Go.Ground.data }, { on := 16, ground := Go.Ground.data }, { on := 18, ground := Go.Ground.data }, { on := 20, ground := Go.Ground.data }, { on := 22, ground := Go.Ground.data }, { on := 13, ground := Go.Ground.chain }, { on := 13, ground := Go.Ground.guard }], guard := some (13, true) }
def hetMakesr6_24 : Oper := { dst := some 60, op := Go.Op.move (Go.Operand.tmp 1), type := 3, pos := "law.go:63", after := #[{ on := 13, ground := Go.Ground.guard }], guard := some (13, true) }
def hetMakesr6_25 : Oper := { dst := some 61, op := Go.Op.fieldAddr 45 (Go.Operand.tmp 3) 1, type := 0, pos := "law.go:63", after := #[{ on := 13, ground := Go.Ground.guard }], guard := some (13, true) }
def hetMakesr6_26 : Oper := { dst := some 62, op := Go.Op.load 32 (Go.Operand.tmp 61), type := 32, pos := "law.go:63", after := #[{ on := 25, ground := Go.Ground.data }, { on := 13, ground := Go.Ground.guard }], guard := some (13, true) }
def hetMakesr6_27 : Oper := { dst := some 63, op := Go.Op.fieldAddr 45 (Go.Operand.tmp 3) 3, type := 0, pos := "law.go:63", after := #[{ on := 13, ground := Go.Ground.guard }], guard := some (13, true) }
def hetMakesr6_28 : Oper := { dst := some 64, op := Go.Op.load 32 (Go.Operand.tmp 63), type := 32, pos := "law.go:63", after := #[{ on := 27, ground := Go.Ground.data }, { on := 13, ground := Go.Ground.guard }], guard := some (13, true) }
def hetMakesr6_29 : Oper := { dst := some 65, op := Go.Op.fieldAddr 45 (Go.Operand.tmp 3) 4, type := 0, pos := "law.go:63", after := #[{ on := 13, ground := Go.Ground.guard }], guard := some (13, true) }
def hetMakesr6_30 : Oper := { dst := some 66, op := Go.Op.load 32 (Go.Operand.tmp 65), type := 32, pos := "law.go:63", after := #[{ on := 29, ground := Go.Ground.data }, { on := 13, ground := Go.Ground.guard }], guard := some (13, true) }
def hetMakesr6_31 : Oper := { dst := some 67, op := Go.Op.fieldAddr 45 (Go.Operand.tmp 3) 5, type := 0, pos := "law.go:63", after := #[{ on := 13, ground := Go.Ground.guard }], guard := some (13, true) }
def hetMakesr6_32 : Oper := { dst := some 68, op := Go.Op.load 32 (Go.Operand.tmp 67), type := 32, pos := "law.go:63", after := #[{ on := 31, ground := Go.Ground.data }, { on := 13, ground := Go.Ground.guard }], guard := some (13, true) }
def hetMakesr6_33 : Oper := { dst := some 69, op := Go.Op.call { callee := Go.Callee.value (Go.Operand.func 46), args := #[Go.Operand.tmp 60, Go.Operand.tmp 62, Go.Operand.tmp 64, Go.Operand.tmp 66, Go.Operand.tmp 68], argTypes := #[3, 32, 32, 32, 32] }, type := 45, pos := "law.go:63", after := #[{ on := 24, ground := Go.Ground.data }, { on := 26, ground := Go.Ground.data }, { on := 28, ground := Go.Ground.data }, { on := 30, ground := Go.Ground.data }, { on := 32, ground := Go.Ground.data }, { on := 23, ground := Go.Ground.chain }, { on := 13, ground := Go.Ground.guard }], guard := some (13, true) }
def hetMakesr6_34 : Oper := { dst := some 70, op := Go.Op.call { callee := Go.Callee.value (Go.Operand.func 36), args := #[Go.Operand.tmp 59, Go.Operand.tmp 69], argTypes := #[51, 45] }, type := 4, pos := "law.go:63", after := #[{ on := 23, ground := Go.Ground.data }, { on := 33, ground := Go.Ground.data }, { on := 33, ground := Go.Ground.chain }, { on := 13, ground := Go.Ground.guard }], guard := some (13, true) }
def hetMakesr6_35 : Oper := { dst := some 71, op := Go.Op.pick (Go.Operand.tmp 49) (Go.Operand.tmp 70) (Go.Operand.const (Go.Value.bool false)), type := 4, pos := "law.go:63", after := #[{ on := 13, ground := Go.Ground.data }, { on := 34, ground := Go.Ground.data }], guard := none }
def hetMakesr6_36 : Oper := { dst := some 72, op := Go.Op.move (Go.Operand.tmp 71), type := 4, pos := "law.go:63", after := #[{ on := 35, ground := Go.Ground.data }, { on := 34, ground := Go.Ground.chain }], guard := none }
def hetMakesr6_37 : Oper := { dst := some 73, op := Go.Op.move (Go.Operand.tmp 1), type := 3, pos := "law.go:63", after := #[{ on := 36, ground := Go.Ground.guard }], guard := some (36, true) }
def hetMakesr6_38 : Oper := { dst := some 74, op := Go.Op.fieldAddr 45 (Go.Operand.tmp 3) 1, type := 0, pos := "law.go:63", after := #[{ on := 36, ground := Go.Ground.guard }], guard := some (36, true) }
def hetMakesr6_39 : Oper := { dst := some 75, op := Go.Op.load 32 (Go.Operand.tmp 74), type := 32, pos := "law.go:63", after := #[{ on := 38, ground := Go.Ground.data }, { on := 36, ground := Go.Ground.guard }], guard := some (36, true) }
def hetMakesr6_40 : Oper := { dst := some 76, op := Go.Op.fieldAddr 45 (Go.Operand.tmp 3) 2, type := 0, pos := "law.go:63", after := #[{ on := 36, ground := Go.Ground.guard }], guard := some (36, true) }
def hetMakesr6_41 : Oper := { dst := some 77, op := Go.Op.load 32 (Go.Operand.tmp 76), type := 32, pos := "law.go:63", after := #[{ on := 40, ground := Go.Ground.data }, { on := 36, ground := Go.Ground.guard }], guard := some (36, true) }
def hetMakesr6_42 : Oper := { dst := some 78, op := Go.Op.fieldAddr 45 (Go.Operand.tmp 3) 5, type := 0, pos := "law.go:63", after := #[{ on := 36, ground := Go.Ground.guard }], guard := some (36, true) }
def hetMakesr6_43 : Oper := { dst := some 79, op := Go.Op.load 32 (Go.Operand.tmp 78), type := 32, pos := "law.go:63", after := #[{ on := 42, ground := Go.Ground.data }, { on := 36, ground := Go.Ground.guard }], guard := some (36, true) }
def hetMakesr6_44 : Oper := { dst := some 80, op := Go.Op.fieldAddr 45 (Go.Operand.tmp 3) 3, type := 0, pos := "law.go:63", after := #[{ on := 36, ground := Go.Ground.guard }], guard := some (36, true) }
def hetMakesr6_45 : Oper := { dst := some 81, op := Go.Op.load 32 (Go.Operand.tmp 80), type := 32, pos := "law.go:63", after := #[{ on := 44, ground := Go.Ground.data }, { on := 36, ground := Go.Ground.guard }], guard := some (36, true) }
def hetMakesr6_46 : Oper := { dst := some 82, op := Go.Op.call { callee := Go.Callee.value (Go.Operand.func 47), args := #[Go.Operand.tmp 73, Go.Operand.tmp 75, Go.Operand.tmp 77, Go.Operand.tmp 79, Go.Operand.tmp 81], argTypes := #[3, 32, 32, 32, 32] }, type := 51, pos := "law.go:63", after := #[{ on := 37, ground := Go.Ground.data }, { on := 39, ground := Go.Ground.data }, { on := 41, ground := Go.Ground.data }, { on := 43, ground := Go.Ground.data }, { on := 45, ground := Go.Ground.data }, { on := 36, ground := Go.Ground.chain }, { on := 36, ground := Go.Ground.guard }], guard := some (36, true) }
def hetMakesr6_47 : Oper := { dst := some 83, op := Go.Op.move (Go.Operand.tmp 1), type := 3, pos := "law.go:63", after := #[{ on := 36, ground := Go.Ground.guard }], guard := some (36, true) }
def hetMakesr6_48 : Oper := { dst := some 84, op := Go.Op.fieldAddr 45 (Go.Operand.tmp 3) 1, type := 0, pos := "law.go:63", after := #[{ on := 36, ground := Go.Ground.guard }], guard := some (36, true) }
def hetMakesr6_49 : Oper := { dst := some 85, op := Go.Op.load 32 (Go.Operand.tmp 84), type := 32, pos := "law.go:63", after := #[{ on := 48, ground := Go.Ground.data }, { on := 36, ground := Go.Ground.guard }], guard := some (36, true) }
def hetMakesr6_50 : Oper := { dst := some 86, op := Go.Op.fieldAddr 45 (Go.Operand.tmp 3) 2, type := 0, pos := "law.go:63", after := #[{ on := 36, ground := Go.Ground.guard }], guard := some (36, true) }
def hetMakesr6_51 : Oper := { dst := some 87, op := Go.Op.load 32 (Go.Operand.tmp 86), type := 32, pos := "law.go:63", after := #[{ on := 50, ground := Go.Ground.data }, { on := 36, ground := Go.Ground.guard }], guard := some (36, true) }
def hetMakesr6_52 : Oper := { dst := some 88, op := Go.Op.fieldAddr 45 (Go.Operand.tmp 3) 5, type := 0, pos := "law.go:63", after := #[{ on := 36, ground := Go.Ground.guard }], guard := some (36, true) }
def hetMakesr6_53 : Oper := { dst := some 89, op := Go.Op.load 32 (Go.Operand.tmp 88), type := 32, pos := "law.go:63", after := #[{ on := 52, ground := Go.Ground.data }, { on := 36, ground := Go.Ground.guard }], guard := some (36, true) }
def hetMakesr6_54 : Oper := { dst := some 90, op := Go.Op.fieldAddr 45 (Go.Operand.tmp 3) 3, type := 0, pos := "law.go:63", after := #[{ on := 36, ground := Go.Ground.guard }], guard := some (36, true) }
def hetMakesr6_55 : Oper := { dst := some 91, op := Go.Op.load 32 (Go.Operand.tmp 90), type := 32, pos := "law.go:63", after := #[{ on := 54, ground := Go.Ground.data }, { on := 36, ground := Go.Ground.guard }], guard := some (36, true) }
def hetMakesr6_56 : Oper := { dst := some 92, op := Go.Op.call { callee := Go.Callee.value (Go.Operand.func 48), args := #[Go.Operand.tmp 83, Go.Operand.tmp 85, Go.Operand.tmp 87, Go.Operand.tmp 89, Go.Operand.tmp 91], argTypes := #[3, 32, 32, 32, 32] }, type := 45, pos := "law.go:63", after := #[{ on := 47, ground := Go.Ground.data }, { on := 49, ground := Go.Ground.data }, { on := 51, ground := Go.Ground.data }, { on := 53, ground := Go.Ground.data }, { on := 55, ground := Go.Ground.data }, { on := 46, ground := Go.Ground.chain }, { on := 36, ground := Go.Ground.guard }], guard := some (36, true) }
def hetMakesr6_57 : Oper := { dst := some 93, op := Go.Op.call { callee := Go.Callee.value (Go.Operand.func 36), args := #[Go.Operand.tmp 82, Go.Operand.tmp 92], argTypes := #[51, 45] }, type := 4, pos := "law.go:63", after := #[{ on := 46, ground := Go.Ground.data }, { on := 56, ground := Go.Ground.data }, { on := 56, ground := Go.Ground.chain }, { on := 36, ground := Go.Ground.guard }], guard := some (36, true) }
def hetMakesr6_58 : Oper := { dst := some 94, op := Go.Op.pick (Go.Operand.tmp 72) (Go.Operand.tmp 93) (Go.Operand.const (Go.Value.bool false)), type := 4, pos := "law.go:63", after := #[{ on := 36, ground := Go.Ground.data }, { on := 57, ground := Go.Ground.data }], guard := none }
def hetMakesr6_59 : Oper := { dst := some 95, op := Go.Op.move (Go.Operand.tmp 94), type := 4, pos := "law.go:63", after := #[{ on := 58, ground := Go.Ground.data }, { on := 57, ground := Go.Ground.chain }], guard := none }
def hetMakesr6_60 : Oper := { dst := some 96, op := Go.Op.call { callee := Go.Callee.value (Go.Operand.func 35), args := #[], argTypes := #[] }, type := 4, pos := "law.go:63", after := #[{ on := 59, ground := Go.Ground.chain }, { on := 59, ground := Go.Ground.guard }], guard := some (59, true) }
def hetMakesr6_61 : Oper := { dst := some 97, op := Go.Op.pick (Go.Operand.tmp 95) (Go.Operand.tmp 96) (Go.Operand.const (Go.Value.bool false)), type := 4, pos := "law.go:63", after := #[{ on := 59, ground := Go.Ground.data }, { on := 60, ground := Go.Ground.data }], guard := none }
def hetMakesr6_62 : Oper := { dst := some 6, op := Go.Op.assign (Go.Operand.tmp 97), type := 4, pos := "law.go:63", after := #[{ on := 61, ground := Go.Ground.data }, { on := 60, ground := Go.Ground.chain }, { on := 0, ground := Go.Ground.phase }, { on := 1, ground := Go.Ground.phase }, { on := 2, ground := Go.Ground.phase }, { on := 3, ground := Go.Ground.phase }, { on := 4, ground := Go.Ground.phase }, { on := 5, ground := Go.Ground.phase }, { on := 6, ground := Go.Ground.phase }, { on := 7, ground := Go.Ground.phase }, { on := 8, ground := Go.Ground.phase }, { on := 9, ground := Go.Ground.phase }, { on := 10, ground := Go.Ground.phase }, { on := 11, ground := Go.Ground.phase }, { on := 12, ground := Go.Ground.phase }, { on := 13, ground := Go.Ground.phase }, { on := 14, ground := Go.Ground.phase }, { on := 15, ground := Go.Ground.phase }, { on := 16, ground := Go.Ground.phase }, { on := 17, ground := Go.Ground.phase }, { on := 18, ground := Go.Ground.phase }, { on := 19, ground := Go.Ground.phase }, { on := 20, ground := Go.Ground.phase }, { on := 21, ground := Go.Ground.phase }, { on := 22, ground := Go.Ground.phase }, { on := 23, ground := Go.Ground.phase }, { on := 24, ground := Go.Ground.phase }, { on := 25, ground := Go.Ground.phase }, { on := 26, ground := Go.Ground.phase }, { on := 27, ground := Go.Ground.phase }, { on := 28, ground := Go.Ground.phase }, { on := 29, ground := Go.Ground.phase }, { on := 30, ground := Go.Ground.phase }, { on := 31, ground := Go.Ground.phase }, { on := 32, ground := Go.Ground.phase }, { on := 33, ground := Go.Ground.phase }, { on := 34, ground := Go.Ground.phase }, { on := 35, ground := Go.Ground.phase }, { on := 36, ground := Go.Ground.phase }, { on := 37, ground := Go.Ground.phase }, { on := 38, ground := Go.Ground.phase }, { on := 39, ground := Go.Ground.phase }, { on := 40, ground := Go.Ground.phase }, { on := 41, ground := Go.Ground.phase }, { on := 42, ground := Go.Ground.phase }, { on := 43, ground := Go.Ground.phase }, { on := 44, ground := Go.Ground.phase }, { on := 45, ground := Go.Ground.phase }, { on := 46, ground := Go.Ground.phase }, { on := 47, ground := Go.Ground.phase }, { on := 48, ground := Go.Ground.phase }, { on := 49, ground := Go.Ground.phase }, { on := 50, ground := Go.Ground.phase }, { on := 51, ground := Go.Ground.phase }, { on := 52, ground := Go.Ground.phase }, { on := 53, ground := Go.Ground.phase }, { on := 54, ground := Go.Ground.phase }, { on := 55, ground := Go.Ground.phase }, { on := 56, ground := Go.Ground.phase }, { on := 57, ground := Go.Ground.phase }, { on := 58, ground := Go.Ground.phase }, { on := 59, ground := Go.Ground.phase }, { on := 60, ground := Go.Ground.phase }, { on := 61, ground := Go.Ground.phase }], guard := none }
set_option maxRecDepth 20000 in
set_option maxHeartbeats 4000000 in
theorem hetMakes_any (i : Int) (k : Int) (h : He) (P : Nat → Prop) (w : World) (sha : Value) (shb : Value) (shx : Value) (shy : Value) (shh : Value) (hfh : h.fine) (hlh : HQ w P h sha shb shx shy shh) (hri : I64 i) (hrk : I64 k) : Calls Try.prog 8 #[hv h sha shb shx shy shh, .int .i64 i, .int .i64 k] w fun e w' => e = .returned (.bool true) ∧ Kept w w' := by
  have Gh := Lib.hid hfh
  clear hfh
  obtain ⟨hlha, hlhb, hlhx, hlhy, hlhh⟩ := hlh
  obtain ⟨aha, cha, Sha, rfl, -⟩ := hlha.out
  obtain ⟨ahb, chb, Shb, rfl, -⟩ := hlhb.out
  obtain ⟨ahx, chx, Shx, rfl, -⟩ := hlhx.out
  obtain ⟨ahy, chy, Shy, rfl, -⟩ := hlhy.out
  obtain ⟨ahh, chh, Shh, rfl, -⟩ := hlhh.out
  have Ri := Lib.hid hri
  clear hri
  have Rk := Lib.hid hrk
  clear hrk
  obtain ⟨du, hu1, hu2⟩ := under_term
  obtain ⟨dh, dh1, dh2⟩ := under_of 51 (by kernel_rfl)
  obtain ⟨dr, dr1, dr2⟩ := under_of 45 (by kernel_rfl)
  unfold hv
  go_enter Try.func8, Try.ntmps8
  go_upto_region 1 with fail
  refine at_code (fun V0 hV0 => ?_)
  obtain ⟨k2, x1, z3⟩ := alloc1 hV0
  have Kk4 := Lib.hid k2
  clear k2
  have Hx1 := Lib.hid x1
  have Z0 := Lib.hid z3
  clear z3 x1 hV0
  have HLha : Hid (LiesQ V0 (Par w V0.heap.size [] P) h.a.kids _) := (par_in _ _ hlha).later Kk4.out
  clear hlha
  have HLhb : Hid (LiesQ V0 (Par w V0.heap.size [] P) h.b.kids _) := (par_in _ _ hlhb).later Kk4.out
  clear hlhb
  have HLhx : Hid (LiesQ V0 (Par w V0.heap.size [] P) h.x.kids _) := (par_in _ _ hlhx).later Kk4.out
  clear hlhx
  have HLhy : Hid (LiesQ V0 (Par w V0.heap.size [] P) h.y.kids _) := (par_in _ _ hlhy).later Kk4.out
  clear hlhy
  have HLhh : Hid (LiesQ V0 (Par w V0.heap.size [] P) h.h.kids _) := (par_in _ _ hlhh).later Kk4.out
  clear hlhh
  have kvV0 : SeesN V0 V0.heap.size V0 := seesN_kept _ (kept_refl _)
  go_wp2_with (refine stop_load 45 (.tmp 3) rfl ?_)
  intro _
  refine wpList_load_part (w.heap.size) 0 45 (.tmp 3) #[.int .i64 h.i, .int .i64 h.a.k, .int .i64 h.a.i, .int .i64 h.a.j, .int .i64 h.a.n, (.slice aha h.a.kids.length cha), .int .i64 h.b.k, .int .i64 h.b.i, .int .i64 h.b.j, .int .i64 h.b.n, (.slice ahb h.b.kids.length chb), .int .i64 h.x.k, .int .i64 h.x.i, .int .i64 h.x.j, .int .i64 h.x.n, (.slice ahx h.x.kids.length chx), .int .i64 h.y.k, .int .i64 h.y.i, .int .i64 h.y.j, .int .i64 h.y.n, (.slice ahy h.y.kids.length chy), .int .i64 h.h.k, .int .i64 h.h.i, .int .i64 h.h.j, .int .i64 h.h.n, (.slice ahh h.h.kids.length chh)] dr Hx1.out (by rfl) rfl (by rfl) (by rfl) dr1 (by cases dr <;> first | rfl | exact dr2) (by kernel_rfl) ?_
  go_wp2_with fail
  clear kvV0
  refine (lheavy_any h (Par w V0.heap.size [] P) _ (.slice aha h.a.kids.length cha) (.slice ahb h.b.kids.length chb) (.slice ahx h.x.kids.length chx) (.slice ahy h.y.kids.length chy) (.slice ahh h.h.kids.length chh) ⟨Gh.out.1, Gh.out.2.1, Gh.out.2.2.1, Gh.out.2.2.2.1, Gh.out.2.2.2.2.1, Gh.out.2.2.2.2.2⟩ ⟨HLha.out, HLhb.out, HLhx.out, HLhy.out, HLhh.out⟩).mono ?_
  rintro e w5 ⟨gb7, rfl, hg8, k6⟩
  have Hhg8 := Lib.hid hg8
  clear hg8
  have Kk9 := Lib.hid k6
  clear k6
  cases gb7 with
  | false =>
    have HIhg8 := Lib.hid (Hhg8.out rfl)
    have kvV0 : SeesN V0 V0.heap.size w5 := seesN_kept _ Kk9.out
    go_wp2_with (refine stop_load 45 (.tmp 3) rfl ?_)
    intro _
    refine wpList_load_part (w.heap.size) 0 45 (.tmp 3) #[.int .i64 h.i, .int .i64 h.a.k, .int .i64 h.a.i, .int .i64 h.a.j, .int .i64 h.a.n, (.slice aha h.a.kids.length cha), .int .i64 h.b.k, .int .i64 h.b.i, .int .i64 h.b.j, .int .i64 h.b.n, (.slice ahb h.b.kids.length chb), .int .i64 h.x.k, .int .i64 h.x.i, .int .i64 h.x.j, .int .i64 h.x.n, (.slice ahx h.x.kids.length chx), .int .i64 h.y.k, .int .i64 h.y.i, .int .i64 h.y.j, .int .i64 h.y.n, (.slice ahy h.y.kids.length chy), .int .i64 h.h.k, .int .i64 h.h.i, .int .i64 h.h.j, .int .i64 h.h.n, (.slice ahh h.h.kids.length chh)] dr (blk_at Hx1.out Kk9.out) (by rfl) rfl (by rfl) (by rfl) dr1 (by cases dr <;> first | rfl | exact dr2) (by kernel_rfl) ?_
    go_wp2_with fail
    clear kvV0
    refine (lours_any h (Par w V0.heap.size [] P) _ (.slice aha h.a.kids.length cha) (.slice ahb h.b.kids.length chb) (.slice ahx h.x.kids.length chx) (.slice ahy h.y.kids.length chy) (.slice ahh h.h.kids.length chh) ⟨Gh.out.1, Gh.out.2.1, Gh.out.2.2.1, Gh.out.2.2.2.1, Gh.out.2.2.2.2.1, Gh.out.2.2.2.2.2⟩ ⟨(HLha.out.later Kk9.out), (HLhb.out.later Kk9.out), (HLhx.out.later Kk9.out), (HLhy.out.later Kk9.out), (HLhh.out.later Kk9.out)⟩).mono ?_
    rintro e w10 ⟨s12, s13, s14, s15, s16, rfl, ⟨hl17, hl18, hl19, hl20, hl21⟩, k11⟩
    obtain ⟨a22, c23, S24, rfl, -⟩ := hl17.out
    obtain ⟨a25, c26, S27, rfl, -⟩ := hl18.out
    obtain ⟨a28, c29, S30, rfl, -⟩ := hl19.out
    obtain ⟨a31, c32, S33, rfl, -⟩ := hl20.out
    obtain ⟨a34, c35, S36, rfl, -⟩ := hl21.out
    have Kk37 := Lib.hid k11
    clear k11
    have Hhl17 : Hid (LiesQ w10 (Par w V0.heap.size [] P) h.a.kids _) := par_give hl17 (Below.size Kk9.out) (xlt_nil _)
    have Hhl18 : Hid (LiesQ w10 (Par w V0.heap.size [] P) h.b.kids _) := par_give hl18 (Below.size Kk9.out) (xlt_nil _)
    have Hhl19 : Hid (LiesQ w10 (Par w V0.heap.size [] P) h.x.kids _) := par_give hl19 (Below.size Kk9.out) (xlt_nil _)
    have Hhl20 : Hid (LiesQ w10 (Par w V0.heap.size [] P) h.y.kids _) := par_give hl20 (Below.size Kk9.out) (xlt_nil _)
    have Hhl21 : Hid (LiesQ w10 (Par w V0.heap.size [] P) h.h.kids _) := par_give hl21 (Below.size Kk9.out) (xlt_nil _)
    clear hl17 hl18 hl19 hl20 hl21
    have kvV0 : SeesN V0 V0.heap.size w10 := seesN_kept _ (kept_trans Kk9.out Kk37.out)
    go_wp2_with (refine stop_store 51 (.tmp 7) (.tmp 11) rfl ?_)
    intro _
    refine wpList_store_part_n (by rfl) 51 (.tmp 7) (.tmp 11) rfl (w10.heap.size) 0 #[.int .i64 h.i, .int .i64 h.a.k, .int .i64 h.a.i, .int .i64 h.a.j, .int .i64 h.a.n, (.slice a22 h.a.kids.length c23), .int .i64 h.b.k, .int .i64 h.b.i, .int .i64 h.b.j, .int .i64 h.b.n, (.slice a25 h.b.kids.length c26), .int .i64 h.x.k, .int .i64 h.x.i, .int .i64 h.x.j, .int .i64 h.x.n, (.slice a28 h.x.kids.length c29), .int .i64 h.y.k, .int .i64 h.y.i, .int .i64 h.y.j, .int .i64 h.y.n, (.slice a31 h.y.kids.length c32), .int .i64 h.h.k, .int .i64 h.h.i, .int .i64 h.h.j, .int .i64 h.h.n, (.slice a34 h.h.kids.length c35)] (by rfl) (by rfl) 51 (by kernel_rfl) (row_ok rfl) ?_
    intro W38 hW38
    clear kvV0
    obtain ⟨k41, x40, z42⟩ := alloc1 hW38
    have Kk43 := Lib.hid k41
    clear k41
    have Hx40 := Lib.hid x40
    have Hz42 := Lib.hid z42
    clear x40 z42 hW38
    have HG44 : Hid (V0.heap.size ≤ w10.heap.size) := (Below.size (kept_trans Kk9.out Kk37.out))
    have XL45 := Lib.hid (xlt_more (xlt_nil _) Kk43.out (by have := Hz42.out; omega))
    have HL46 : Hid (LiesQ W38 (Par w V0.heap.size (w10.heap.size :: []) P) h.a.kids _) := (par_more (HLha.out.later (kept_trans Kk9.out Kk37.out))).later Kk43.out
    have HL47 : Hid (LiesQ W38 (Par w V0.heap.size (w10.heap.size :: []) P) h.b.kids _) := (par_more (HLhb.out.later (kept_trans Kk9.out Kk37.out))).later Kk43.out
    have HL48 : Hid (LiesQ W38 (Par w V0.heap.size (w10.heap.size :: []) P) h.x.kids _) := (par_more (HLhx.out.later (kept_trans Kk9.out Kk37.out))).later Kk43.out
    have HL49 : Hid (LiesQ W38 (Par w V0.heap.size (w10.heap.size :: []) P) h.y.kids _) := (par_more (HLhy.out.later (kept_trans Kk9.out Kk37.out))).later Kk43.out
    have HL50 : Hid (LiesQ W38 (Par w V0.heap.size (w10.heap.size :: []) P) h.h.kids _) := (par_more (HLhh.out.later (kept_trans Kk9.out Kk37.out))).later Kk43.out
    have HL51 : Hid (LiesQ W38 (Par w V0.heap.size (w10.heap.size :: []) P) h.a.kids _) := (par_more Hhl17.out).later Kk43.out
    have HL52 : Hid (LiesQ W38 (Par w V0.heap.size (w10.heap.size :: []) P) h.b.kids _) := (par_more Hhl18.out).later Kk43.out
    have HL53 : Hid (LiesQ W38 (Par w V0.heap.size (w10.heap.size :: []) P) h.x.kids _) := (par_more Hhl19.out).later Kk43.out
    have HL54 : Hid (LiesQ W38 (Par w V0.heap.size (w10.heap.size :: []) P) h.y.kids _) := (par_more Hhl20.out).later Kk43.out
    have HL55 : Hid (LiesQ W38 (Par w V0.heap.size (w10.heap.size :: []) P) h.h.kids _) := (par_more Hhl21.out).later Kk43.out
    refine ⟨_, #[.int .i64 h.i, .int .i64 h.a.k, .int .i64 h.a.i, .int .i64 h.a.j, .int .i64 h.a.n, (.slice a22 h.a.kids.length c23), .int .i64 h.b.k, .int .i64 h.b.i, .int .i64 h.b.j, .int .i64 h.b.n, (.slice a25 h.b.kids.length c26), .int .i64 h.x.k, .int .i64 h.x.i, .int .i64 h.x.j, .int .i64 h.x.n, (.slice a28 h.x.kids.length c29), .int .i64 h.y.k, .int .i64 h.y.i, .int .i64 h.y.j, .int .i64 h.y.n, (.slice a31 h.y.kids.length c32), .int .i64 h.h.k, .int .i64 h.h.i, .int .i64 h.h.j, .int .i64 h.h.n, (.slice a34 h.h.kids.length c35)], Hx40.out, rfl, Nat.le_of_ble_eq_true rfl, ?_⟩
    intro W39 hW39
    have KB56 := Lib.hid (kept_set (kept_trans Kk4.out (kept_trans Kk9.out (kept_trans Kk37.out Kk43.out))) hW39 (by have := HG44.out; have := Z0.out; omega))
    have KB57 := Lib.hid (kept_set (kept_trans Kk9.out (kept_trans Kk37.out Kk43.out)) hW39 HG44.out)
    have HL58 : Hid (LiesQ W39 (Par w V0.heap.size (w10.heap.size :: []) P) h.a.kids _) := par_set HL46.out hW39 (List.mem_cons_self ..) (by have := HG44.out; have := Z0.out; omega)
    have HL59 : Hid (LiesQ W39 (Par w V0.heap.size (w10.heap.size :: []) P) h.b.kids _) := par_set HL47.out hW39 (List.mem_cons_self ..) (by have := HG44.out; have := Z0.out; omega)
    have HL60 : Hid (LiesQ W39 (Par w V0.heap.size (w10.heap.size :: []) P) h.x.kids _) := par_set HL48.out hW39 (List.mem_cons_self ..) (by have := HG44.out; have := Z0.out; omega)
    have HL61 : Hid (LiesQ W39 (Par w V0.heap.size (w10.heap.size :: []) P) h.y.kids _) := par_set HL49.out hW39 (List.mem_cons_self ..) (by have := HG44.out; have := Z0.out; omega)
    have HL62 : Hid (LiesQ W39 (Par w V0.heap.size (w10.heap.size :: []) P) h.h.kids _) := par_set HL50.out hW39 (List.mem_cons_self ..) (by have := HG44.out; have := Z0.out; omega)
    have HL63 : Hid (LiesQ W39 (Par w V0.heap.size (w10.heap.size :: []) P) h.a.kids _) := par_set HL51.out hW39 (List.mem_cons_self ..) (by have := HG44.out; have := Z0.out; omega)
    have HL64 : Hid (LiesQ W39 (Par w V0.heap.size (w10.heap.size :: []) P) h.b.kids _) := par_set HL52.out hW39 (List.mem_cons_self ..) (by have := HG44.out; have := Z0.out; omega)
    have HL65 : Hid (LiesQ W39 (Par w V0.heap.size (w10.heap.size :: []) P) h.x.kids _) := par_set HL53.out hW39 (List.mem_cons_self ..) (by have := HG44.out; have := Z0.out; omega)
    have HL66 : Hid (LiesQ W39 (Par w V0.heap.size (w10.heap.size :: []) P) h.y.kids _) := par_set HL54.out hW39 (List.mem_cons_self ..) (by have := HG44.out; have := Z0.out; omega)
    have HL67 : Hid (LiesQ W39 (Par w V0.heap.size (w10.heap.size :: []) P) h.h.kids _) := par_set HL55.out hW39 (List.mem_cons_self ..) (by have := HG44.out; have := Z0.out; omega)
    have XL68 := Lib.hid (xlt_set XL45.out hW39)
    have HX69 := Lib.hid (blk_same Hx40.out hW39)
    clear hW39
    have kvV0 : SeesN V0 V0.heap.size W39 := seesN_kept _ KB57.out
    have kvW39 : SeesN W39 V0.heap.size W39 := seesN_kept _ (kept_refl _)
    go_wp2_with fail
    clear kvV0
    clear kvW39
    obtain ⟨W70, h71⟩ : ∃ x, World.drew W39 = x := ⟨_, rfl⟩
    have k72 : Kept W39 W70 := by rw [← h71]; exact kept_drew (kept_refl _)
    have Kk73 := Lib.hid k72
    clear k72
    refine wp_region_held_drew (S := SeesN W70 V0.heap.size) (by kernel_rfl) ?_ (fun hHeld => ?_)
    · (try dsimp only)
      rw [h71]
      exact seesN_kept _ (kept_refl _)
    rw [h71] at hHeld ⊢
    clear h71
    refine take_at 0 12 hetMakesr4_0 (yields_part (w10.heap.size) 0 51 (.tmp 7) #[.int .i64 h.i, .int .i64 h.a.k, .int .i64 h.a.i, .int .i64 h.a.j, .int .i64 h.a.n, (.slice a22 h.a.kids.length c23), .int .i64 h.b.k, .int .i64 h.b.i, .int .i64 h.b.j, .int .i64 h.b.n, (.slice a25 h.b.kids.length c26), .int .i64 h.x.k, .int .i64 h.x.i, .int .i64 h.x.j, .int .i64 h.x.n, (.slice a28 h.x.kids.length c29), .int .i64 h.y.k, .int .i64 h.y.i, .int .i64 h.y.j, .int .i64 h.y.n, (.slice a31 h.y.kids.length c32), .int .i64 h.h.k, .int .i64 h.h.i, .int .i64 h.h.j, .int .i64 h.h.n, (.slice a34 h.h.kids.length c35)] dh (fun _ h => seesN_blk HX69.out trivial (seesN_of Kk73.out h)) (by rfl) rfl (by rfl) (by rfl) dh1 (by cases dh <;> first | rfl | exact dh2) (by kernel_rfl)) ?_
    (try simp only [Act.put, List.setIfInBounds_toArray, List.set_cons_zero, List.set_cons_succ])
    refine take_at 2 14 hetMakesr4_2 (yields_part (w.heap.size) 0 45 (.tmp 3) #[.int .i64 h.i, .int .i64 h.a.k, .int .i64 h.a.i, .int .i64 h.a.j, .int .i64 h.a.n, (.slice aha h.a.kids.length cha), .int .i64 h.b.k, .int .i64 h.b.i, .int .i64 h.b.j, .int .i64 h.b.n, (.slice ahb h.b.kids.length chb), .int .i64 h.x.k, .int .i64 h.x.i, .int .i64 h.x.j, .int .i64 h.x.n, (.slice ahx h.x.kids.length chx), .int .i64 h.y.k, .int .i64 h.y.i, .int .i64 h.y.j, .int .i64 h.y.n, (.slice ahy h.y.kids.length chy), .int .i64 h.h.k, .int .i64 h.h.i, .int .i64 h.h.j, .int .i64 h.h.n, (.slice ahh h.h.kids.length chh)] dr (fun _ h => seesN_blk Hx1.out trivial (seesN_of (kept_trans KB57.out Kk73.out) h)) (by rfl) rfl (by rfl) (by rfl) dr1 (by cases dr <;> first | rfl | exact dr2) (by kernel_rfl)) ?_
    (try simp only [Act.put, List.setIfInBounds_toArray, List.set_cons_zero, List.set_cons_succ])
    refine wpAnyH_ready (rs := [1]) (by kernel_rfl) (by simp) ?_
    refine AllReadyH.cons (o := hetMakesr4_1) rfl (fun K hK => ?_) ?_
    · unfold hetMakesr4_1
      go_simp
      refine (hturn_any h (Par w V0.heap.size (w10.heap.size :: []) P) _ (.slice a22 h.a.kids.length c23) (.slice a25 h.b.kids.length c26) (.slice a28 h.x.kids.length c29) (.slice a31 h.y.kids.length c32) (.slice a34 h.h.kids.length c35) ⟨((show He.fine h from ⟨Gh.out.1, Gh.out.2.1, Gh.out.2.2.1, Gh.out.2.2.2.1, Gh.out.2.2.2.2.1, Gh.out.2.2.2.2.2⟩)).1, ((show He.fine h from ⟨Gh.out.1, Gh.out.2.1, Gh.out.2.2.1, Gh.out.2.2.2.1, Gh.out.2.2.2.2.1, Gh.out.2.2.2.2.2⟩)).2.1, ((show He.fine h from ⟨Gh.out.1, Gh.out.2.1, Gh.out.2.2.1, Gh.out.2.2.2.1, Gh.out.2.2.2.2.1, Gh.out.2.2.2.2.2⟩)).2.2.1, ((show He.fine h from ⟨Gh.out.1, Gh.out.2.1, Gh.out.2.2.1, Gh.out.2.2.2.1, Gh.out.2.2.2.2.1, Gh.out.2.2.2.2.2⟩)).2.2.2.1, ((show He.fine h from ⟨Gh.out.1, Gh.out.2.1, Gh.out.2.2.1, Gh.out.2.2.2.1, Gh.out.2.2.2.2.1, Gh.out.2.2.2.2.2⟩)).2.2.2.2.1, ((show He.fine h from ⟨Gh.out.1, Gh.out.2.1, Gh.out.2.2.1, Gh.out.2.2.2.1, Gh.out.2.2.2.2.1, Gh.out.2.2.2.2.2⟩)).2.2.2.2.2⟩ ⟨(HL63.out.later Kk73.out), (HL64.out.later Kk73.out), (HL65.out.later Kk73.out), (HL66.out.later Kk73.out), (HL67.out.later Kk73.out)⟩).mono ?_
      obtain ⟨U76, hU76⟩ : ∃ qu, heTurn h = qu := ⟨_, rfl⟩
      rw [hU76]
      have HU76 := Lib.hid hU76
      clear hU76
      rintro e w74 ⟨s77, s78, s79, s80, s81, rfl, ⟨hl82, hl83, hl84, hl85, hl86⟩, k75⟩
      obtain ⟨a87, c88, S89, rfl, -⟩ := hl82.out
      obtain ⟨a90, c91, S92, rfl, -⟩ := hl83.out
      obtain ⟨a93, c94, S95, rfl, -⟩ := hl84.out
      obtain ⟨a96, c97, S98, rfl, -⟩ := hl85.out
      obtain ⟨a99, c100, S101, rfl, -⟩ := hl86.out
      have Kk102 := Lib.hid k75
      clear k75
      have Hhl82 : Hid (LiesQ w74 (Par w V0.heap.size (w10.heap.size :: []) P) U76.a.kids _) := par_give hl82 (Below.size (kept_trans KB57.out Kk73.out)) (xlt_later XL68.out Kk73.out)
      have Hhl83 : Hid (LiesQ w74 (Par w V0.heap.size (w10.heap.size :: []) P) U76.b.kids _) := par_give hl83 (Below.size (kept_trans KB57.out Kk73.out)) (xlt_later XL68.out Kk73.out)
      have Hhl84 : Hid (LiesQ w74 (Par w V0.heap.size (w10.heap.size :: []) P) U76.x.kids _) := par_give hl84 (Below.size (kept_trans KB57.out Kk73.out)) (xlt_later XL68.out Kk73.out)
      have Hhl85 : Hid (LiesQ w74 (Par w V0.heap.size (w10.heap.size :: []) P) U76.y.kids _) := par_give hl85 (Below.size (kept_trans KB57.out Kk73.out)) (xlt_later XL68.out Kk73.out)
      have Hhl86 : Hid (LiesQ w74 (Par w V0.heap.size (w10.heap.size :: []) P) U76.h.kids _) := par_give hl86 (Below.size (kept_trans KB57.out Kk73.out)) (xlt_later XL68.out Kk73.out)
      clear hl82 hl83 hl84 hl85 hl86
      clear hHeld
      refine hK.out _ _ ?_ (fun hHeld => ?_)
      · (try dsimp only)
        exact seesN_kept _ Kk102.out
      clear hK K
      (try simp only [Act.put, List.setIfInBounds_toArray, List.set_cons_zero, List.set_cons_succ])
      refine wpAnyH_ready (rs := [3]) (by kernel_rfl) (by simp) ?_
      refine AllReadyH.cons (o := hetMakesr4_3) rfl (fun K hK => ?_) ?_
      · unfold hetMakesr4_3
        go_simp
        refine (rTurn_any h (Par w V0.heap.size (w10.heap.size :: []) P) _ (.slice aha h.a.kids.length cha) (.slice ahb h.b.kids.length chb) (.slice ahx h.x.kids.length chx) (.slice ahy h.y.kids.length chy) (.slice ahh h.h.kids.length chh) ⟨Gh.out.1, Gh.out.2.1, Gh.out.2.2.1, Gh.out.2.2.2.1, Gh.out.2.2.2.2.1, Gh.out.2.2.2.2.2⟩ ⟨(HL58.out.later (kept_trans Kk73.out Kk102.out)), (HL59.out.later (kept_trans Kk73.out Kk102.out)), (HL60.out.later (kept_trans Kk73.out Kk102.out)), (HL61.out.later (kept_trans Kk73.out Kk102.out)), (HL62.out.later (kept_trans Kk73.out Kk102.out))⟩).mono ?_
        rw [HU76.out]
        rintro e w103 ⟨s105, s106, s107, s108, s109, rfl, ⟨hl110, hl111, hl112, hl113, hl114⟩, k104⟩
        obtain ⟨a115, c116, S117, rfl, -⟩ := hl110.out
        obtain ⟨a118, c119, S120, rfl, -⟩ := hl111.out
        obtain ⟨a121, c122, S123, rfl, -⟩ := hl112.out
        obtain ⟨a124, c125, S126, rfl, -⟩ := hl113.out
        obtain ⟨a127, c128, S129, rfl, -⟩ := hl114.out
        have Kk130 := Lib.hid k104
        clear k104
        have Hhl110 : Hid (LiesQ w103 (Par w V0.heap.size (w10.heap.size :: []) P) U76.a.kids _) := par_give hl110 (Below.size (kept_trans KB57.out (kept_trans Kk73.out Kk102.out))) (xlt_later XL68.out (kept_trans Kk73.out Kk102.out))
        have Hhl111 : Hid (LiesQ w103 (Par w V0.heap.size (w10.heap.size :: []) P) U76.b.kids _) := par_give hl111 (Below.size (kept_trans KB57.out (kept_trans Kk73.out Kk102.out))) (xlt_later XL68.out (kept_trans Kk73.out Kk102.out))
        have Hhl112 : Hid (LiesQ w103 (Par w V0.heap.size (w10.heap.size :: []) P) U76.x.kids _) := par_give hl112 (Below.size (kept_trans KB57.out (kept_trans Kk73.out Kk102.out))) (xlt_later XL68.out (kept_trans Kk73.out Kk102.out))
        have Hhl113 : Hid (LiesQ w103 (Par w V0.heap.size (w10.heap.size :: []) P) U76.y.kids _) := par_give hl113 (Below.size (kept_trans KB57.out (kept_trans Kk73.out Kk102.out))) (xlt_later XL68.out (kept_trans Kk73.out Kk102.out))
        have Hhl114 : Hid (LiesQ w103 (Par w V0.heap.size (w10.heap.size :: []) P) U76.h.kids _) := par_give hl114 (Below.size (kept_trans KB57.out (kept_trans Kk73.out Kk102.out))) (xlt_later XL68.out (kept_trans Kk73.out Kk102.out))
        clear hl110 hl111 hl112 hl113 hl114
        clear hHeld
        refine hK.out _ _ ?_ (fun hHeld => ?_)
        · (try dsimp only)
          exact seesN_kept _ (kept_trans Kk102.out Kk130.out)
        clear hK K
        (try simp only [Act.put, List.setIfInBounds_toArray, List.set_cons_zero, List.set_cons_succ])
        refine wpAnyH_ready (rs := [4]) (by kernel_rfl) (by simp) ?_
        refine AllReadyH.cons (o := hetMakesr4_4) rfl (fun K hK => ?_) ?_
        · unfold hetMakesr4_4
          go_simp
          refine (lsame_any U76 (Par w V0.heap.size (w10.heap.size :: []) P) _ (.slice a87 U76.a.kids.length c88) (.slice a90 U76.b.kids.length c91) (.slice a93 U76.x.kids.length c94) (.slice a96 U76.y.kids.length c97) (.slice a99 U76.h.kids.length c100) (.slice a115 U76.a.kids.length c116) (.slice a118 U76.b.kids.length c119) (.slice a121 U76.x.kids.length c122) (.slice a124 U76.y.kids.length c125) (.slice a127 U76.h.kids.length c128) ⟨(Hhl82.out.later Kk130.out), (Hhl83.out.later Kk130.out), (Hhl84.out.later Kk130.out), (Hhl85.out.later Kk130.out), (Hhl86.out.later Kk130.out)⟩ ⟨Hhl110.out, Hhl111.out, Hhl112.out, Hhl113.out, Hhl114.out⟩).mono ?_
          rintro e w131 ⟨rfl, k132⟩
          have Kk133 := Lib.hid k132
          clear k132
          clear hHeld
          refine hK.out _ _ ?_ (fun hHeld => ?_)
          · (try dsimp only)
            exact seesN_kept _ (kept_trans Kk102.out (kept_trans Kk130.out Kk133.out))
          clear hK K
          (try simp only [Act.put, List.setIfInBounds_toArray, List.set_cons_zero, List.set_cons_succ])
          refine take_at 5 17 hetMakesr4_5 (v := ?_) (Or.inl ⟨by rfl, ?_⟩) ?_
          rotate_left 1
          · ((intro w hSw; (try dsimp only at hSw); unfold hetMakesr4_5; go_simp) <;> with_reducible rfl)
          (try simp only [Act.put, List.setIfInBounds_toArray, List.set_cons_zero, List.set_cons_succ])
          refine take_at 6 18 hetMakesr4_6 (v := ?_) (Or.inl ⟨by rfl, ?_⟩) ?_
          rotate_left 1
          · ((intro w hSw; (try dsimp only at hSw); unfold hetMakesr4_6; go_simp) <;> with_reducible rfl)
          (try simp only [Act.put, List.setIfInBounds_toArray, List.set_cons_zero, List.set_cons_succ])
          refine take_at 7 19 hetMakesr4_7 (yields_part (w10.heap.size) 0 51 (.tmp 7) #[.int .i64 h.i, .int .i64 h.a.k, .int .i64 h.a.i, .int .i64 h.a.j, .int .i64 h.a.n, (.slice a22 h.a.kids.length c23), .int .i64 h.b.k, .int .i64 h.b.i, .int .i64 h.b.j, .int .i64 h.b.n, (.slice a25 h.b.kids.length c26), .int .i64 h.x.k, .int .i64 h.x.i, .int .i64 h.x.j, .int .i64 h.x.n, (.slice a28 h.x.kids.length c29), .int .i64 h.y.k, .int .i64 h.y.i, .int .i64 h.y.j, .int .i64 h.y.n, (.slice a31 h.y.kids.length c32), .int .i64 h.h.k, .int .i64 h.h.i, .int .i64 h.h.j, .int .i64 h.h.n, (.slice a34 h.h.kids.length c35)] dh (fun _ h => seesN_blk HX69.out trivial (seesN_of Kk73.out h)) (by rfl) rfl (by rfl) (by rfl) dh1 (by cases dh <;> first | rfl | exact dh2) (by kernel_rfl)) ?_
          (try simp only [Act.put, List.setIfInBounds_toArray, List.set_cons_zero, List.set_cons_succ])
          refine take_at 9 21 hetMakesr4_9 (yields_part (w.heap.size) 0 45 (.tmp 3) #[.int .i64 h.i, .int .i64 h.a.k, .int .i64 h.a.i, .int .i64 h.a.j, .int .i64 h.a.n, (.slice aha h.a.kids.length cha), .int .i64 h.b.k, .int .i64 h.b.i, .int .i64 h.b.j, .int .i64 h.b.n, (.slice ahb h.b.kids.length chb), .int .i64 h.x.k, .int .i64 h.x.i, .int .i64 h.x.j, .int .i64 h.x.n, (.slice ahx h.x.kids.length chx), .int .i64 h.y.k, .int .i64 h.y.i, .int .i64 h.y.j, .int .i64 h.y.n, (.slice ahy h.y.kids.length chy), .int .i64 h.h.k, .int .i64 h.h.i, .int .i64 h.h.j, .int .i64 h.h.n, (.slice ahh h.h.kids.length chh)] dr (fun _ h => seesN_blk Hx1.out trivial (seesN_of (kept_trans KB57.out Kk73.out) h)) (by rfl) rfl (by rfl) (by rfl) dr1 (by cases dr <;> first | rfl | exact dr2) (by kernel_rfl)) ?_
          (try simp only [Act.put, List.setIfInBounds_toArray, List.set_cons_zero, List.set_cons_succ])
          refine wpAnyH_ready (rs := [8]) (by kernel_rfl) (by simp) ?_
          refine AllReadyH.cons (o := hetMakesr4_8) rfl (fun K hK => ?_) ?_
          · unfold hetMakesr4_8
            go_simp
            refine (heq_any h (Par w V0.heap.size (w10.heap.size :: []) P) _ (.slice a22 h.a.kids.length c23) (.slice a25 h.b.kids.length c26) (.slice a28 h.x.kids.length c29) (.slice a31 h.y.kids.length c32) (.slice a34 h.h.kids.length c35) ⟨((show He.fine h from ⟨Gh.out.1, Gh.out.2.1, Gh.out.2.2.1, Gh.out.2.2.2.1, Gh.out.2.2.2.2.1, Gh.out.2.2.2.2.2⟩)).1, ((show He.fine h from ⟨Gh.out.1, Gh.out.2.1, Gh.out.2.2.1, Gh.out.2.2.2.1, Gh.out.2.2.2.2.1, Gh.out.2.2.2.2.2⟩)).2.1, ((show He.fine h from ⟨Gh.out.1, Gh.out.2.1, Gh.out.2.2.1, Gh.out.2.2.2.1, Gh.out.2.2.2.2.1, Gh.out.2.2.2.2.2⟩)).2.2.1, ((show He.fine h from ⟨Gh.out.1, Gh.out.2.1, Gh.out.2.2.1, Gh.out.2.2.2.1, Gh.out.2.2.2.2.1, Gh.out.2.2.2.2.2⟩)).2.2.2.1, ((show He.fine h from ⟨Gh.out.1, Gh.out.2.1, Gh.out.2.2.1, Gh.out.2.2.2.1, Gh.out.2.2.2.2.1, Gh.out.2.2.2.2.2⟩)).2.2.2.2.1, ((show He.fine h from ⟨Gh.out.1, Gh.out.2.1, Gh.out.2.2.1, Gh.out.2.2.2.1, Gh.out.2.2.2.2.1, Gh.out.2.2.2.2.2⟩)).2.2.2.2.2⟩ ⟨(HL63.out.later (kept_trans Kk73.out (kept_trans Kk102.out (kept_trans Kk130.out Kk133.out)))), (HL64.out.later (kept_trans Kk73.out (kept_trans Kk102.out (kept_trans Kk130.out Kk133.out)))), (HL65.out.later (kept_trans Kk73.out (kept_trans Kk102.out (kept_trans Kk130.out Kk133.out)))), (HL66.out.later (kept_trans Kk73.out (kept_trans Kk102.out (kept_trans Kk130.out Kk133.out)))), (HL67.out.later (kept_trans Kk73.out (kept_trans Kk102.out (kept_trans Kk130.out Kk133.out))))⟩).mono ?_
            obtain ⟨U141, hU141⟩ : ∃ qu, heEq h = qu := ⟨_, rfl⟩
            rw [hU141]
            have HU141 := Lib.hid hU141
            clear hU141
            rintro e w134 ⟨s136, rfl, hl137, k135⟩
            obtain ⟨a138, c139, S140, rfl, -⟩ := hl137.out
            have Kk142 := Lib.hid k135
            clear k135
            have Hhl137 : Hid (LiesQ w134 (Par w V0.heap.size (w10.heap.size :: []) P) U141.kids _) := par_give hl137 (Below.size (kept_trans KB57.out (kept_trans Kk73.out (kept_trans Kk102.out (kept_trans Kk130.out Kk133.out))))) (xlt_later XL68.out (kept_trans Kk73.out (kept_trans Kk102.out (kept_trans Kk130.out Kk133.out))))
            clear hl137
            clear hHeld
            refine hK.out _ _ ?_ (fun hHeld => ?_)
            · (try dsimp only)
              exact seesN_kept _ (kept_trans Kk102.out (kept_trans Kk130.out (kept_trans Kk133.out Kk142.out)))
            clear hK K
            (try simp only [Act.put, List.setIfInBounds_toArray, List.set_cons_zero, List.set_cons_succ])
            refine wpAnyH_ready (rs := [10]) (by kernel_rfl) (by simp) ?_
            refine AllReadyH.cons (o := hetMakesr4_10) rfl (fun K hK => ?_) ?_
            · unfold hetMakesr4_10
              go_simp
              refine (rEq_any h (Par w V0.heap.size (w10.heap.size :: []) P) _ (.slice aha h.a.kids.length cha) (.slice ahb h.b.kids.length chb) (.slice ahx h.x.kids.length chx) (.slice ahy h.y.kids.length chy) (.slice ahh h.h.kids.length chh) ⟨Gh.out.1, Gh.out.2.1, Gh.out.2.2.1, Gh.out.2.2.2.1, Gh.out.2.2.2.2.1, Gh.out.2.2.2.2.2⟩ ⟨(HL58.out.later (kept_trans Kk73.out (kept_trans Kk102.out (kept_trans Kk130.out (kept_trans Kk133.out Kk142.out))))), (HL59.out.later (kept_trans Kk73.out (kept_trans Kk102.out (kept_trans Kk130.out (kept_trans Kk133.out Kk142.out))))), (HL60.out.later (kept_trans Kk73.out (kept_trans Kk102.out (kept_trans Kk130.out (kept_trans Kk133.out Kk142.out))))), (HL61.out.later (kept_trans Kk73.out (kept_trans Kk102.out (kept_trans Kk130.out (kept_trans Kk133.out Kk142.out))))), (HL62.out.later (kept_trans Kk73.out (kept_trans Kk102.out (kept_trans Kk130.out (kept_trans Kk133.out Kk142.out)))))⟩).mono ?_
              rw [HU141.out]
              rintro e w143 ⟨s145, rfl, hl146, k144⟩
              obtain ⟨a147, c148, S149, rfl, -⟩ := hl146.out
              have Kk150 := Lib.hid k144
              clear k144
              have Hhl146 : Hid (LiesQ w143 (Par w V0.heap.size (w10.heap.size :: []) P) U141.kids _) := par_give hl146 (Below.size (kept_trans KB57.out (kept_trans Kk73.out (kept_trans Kk102.out (kept_trans Kk130.out (kept_trans Kk133.out Kk142.out)))))) (xlt_later XL68.out (kept_trans Kk73.out (kept_trans Kk102.out (kept_trans Kk130.out (kept_trans Kk133.out Kk142.out)))))
              clear hl146
              clear hHeld
              refine hK.out _ _ ?_ (fun hHeld => ?_)
              · (try dsimp only)
                exact seesN_kept _ (kept_trans Kk102.out (kept_trans Kk130.out (kept_trans Kk133.out (kept_trans Kk142.out Kk150.out))))
              clear hK K
              (try simp only [Act.put, List.setIfInBounds_toArray, List.set_cons_zero, List.set_cons_succ])
              refine wpAnyH_ready (rs := [11]) (by kernel_rfl) (by simp) ?_
              refine AllReadyH.cons (o := hetMakesr4_11) rfl (fun K hK => ?_) ?_
              · unfold hetMakesr4_11
                go_simp
                refine (keepsame_eq U141 _ (.slice a138 U141.kids.length c139) (.slice a147 U141.kids.length c148) (Hhl137.out.later Kk150.out).lies Hhl146.out.lies).mono ?_
                rintro e w151 ⟨rfl, k152⟩
                have Kk153 := Lib.hid k152
                clear k152
                clear hHeld
                refine hK.out _ _ ?_ (fun hHeld => ?_)
                · (try dsimp only)
                  exact seesN_kept _ (kept_trans Kk102.out (kept_trans Kk130.out (kept_trans Kk133.out (kept_trans Kk142.out (kept_trans Kk150.out Kk153.out)))))
                clear hK K
                (try simp only [Act.put, List.setIfInBounds_toArray, List.set_cons_zero, List.set_cons_succ])
                refine take_at 12 24 hetMakesr4_12 (v := ?_) (Or.inl ⟨by rfl, ?_⟩) ?_
                rotate_left 1
                · ((intro w hSw; (try dsimp only at hSw); unfold hetMakesr4_12; go_simp) <;> with_reducible rfl)
                (try simp only [Act.put, List.setIfInBounds_toArray, List.set_cons_zero, List.set_cons_succ])
                refine take_at 13 25 hetMakesr4_13 (v := ?_) (Or.inl ⟨by rfl, ?_⟩) ?_
                rotate_left 1
                · ((intro w hSw; (try dsimp only at hSw); unfold hetMakesr4_13; go_simp) <;> with_reducible rfl)
                (try simp only [Act.put, List.setIfInBounds_toArray, List.set_cons_zero, List.set_cons_succ])
                refine take_at 14 26 hetMakesr4_14 (v := ?_) (Or.inl ⟨by rfl, ?_⟩) ?_
                rotate_left 1
                · ((intro w hSw; (try dsimp only at hSw); unfold hetMakesr4_14; go_simp) <;> with_reducible rfl)
                (try simp only [Act.put, List.setIfInBounds_toArray, List.set_cons_zero, List.set_cons_succ])
                refine take_at 15 27 hetMakesr4_15 (yields_part (w10.heap.size) 0 51 (.tmp 7) #[.int .i64 h.i, .int .i64 h.a.k, .int .i64 h.a.i, .int .i64 h.a.j, .int .i64 h.a.n, (.slice a22 h.a.kids.length c23), .int .i64 h.b.k, .int .i64 h.b.i, .int .i64 h.b.j, .int .i64 h.b.n, (.slice a25 h.b.kids.length c26), .int .i64 h.x.k, .int .i64 h.x.i, .int .i64 h.x.j, .int .i64 h.x.n, (.slice a28 h.x.kids.length c29), .int .i64 h.y.k, .int .i64 h.y.i, .int .i64 h.y.j, .int .i64 h.y.n, (.slice a31 h.y.kids.length c32), .int .i64 h.h.k, .int .i64 h.h.i, .int .i64 h.h.j, .int .i64 h.h.n, (.slice a34 h.h.kids.length c35)] dh (fun _ h => seesN_blk HX69.out trivial (seesN_of Kk73.out h)) (by rfl) rfl (by rfl) (by rfl) dh1 (by cases dh <;> first | rfl | exact dh2) (by kernel_rfl)) ?_
                (try simp only [Act.put, List.setIfInBounds_toArray, List.set_cons_zero, List.set_cons_succ])
                refine take_at 16 28 hetMakesr4_16 (v := ?_) (Or.inl ⟨by rfl, ?_⟩) ?_
                rotate_left 1
                · ((intro w hSw; (try dsimp only at hSw); unfold hetMakesr4_16; go_simp) <;> with_reducible rfl)
                (try simp only [Act.put, List.setIfInBounds_toArray, List.set_cons_zero, List.set_cons_succ])
                refine take_at 18 30 hetMakesr4_18 (yields_part (w.heap.size) 0 45 (.tmp 3) #[.int .i64 h.i, .int .i64 h.a.k, .int .i64 h.a.i, .int .i64 h.a.j, .int .i64 h.a.n, (.slice aha h.a.kids.length cha), .int .i64 h.b.k, .int .i64 h.b.i, .int .i64 h.b.j, .int .i64 h.b.n, (.slice ahb h.b.kids.length chb), .int .i64 h.x.k, .int .i64 h.x.i, .int .i64 h.x.j, .int .i64 h.x.n, (.slice ahx h.x.kids.length chx), .int .i64 h.y.k, .int .i64 h.y.i, .int .i64 h.y.j, .int .i64 h.y.n, (.slice ahy h.y.kids.length chy), .int .i64 h.h.k, .int .i64 h.h.i, .int .i64 h.h.j, .int .i64 h.h.n, (.slice ahh h.h.kids.length chh)] dr (fun _ h => seesN_blk Hx1.out trivial (seesN_of (kept_trans KB57.out Kk73.out) h)) (by rfl) rfl (by rfl) (by rfl) dr1 (by cases dr <;> first | rfl | exact dr2) (by kernel_rfl)) ?_
                (try simp only [Act.put, List.setIfInBounds_toArray, List.set_cons_zero, List.set_cons_succ])
                refine take_at 19 31 hetMakesr4_19 (v := ?_) (Or.inl ⟨by rfl, ?_⟩) ?_
                rotate_left 1
                · ((intro w hSw; (try dsimp only at hSw); unfold hetMakesr4_19; go_simp) <;> with_reducible rfl)
                (try simp only [Act.put, List.setIfInBounds_toArray, List.set_cons_zero, List.set_cons_succ])
                refine wpAnyH_ready (rs := [17]) (by kernel_rfl) (by simp) ?_
                refine AllReadyH.cons (o := hetMakesr4_17) rfl (fun K hK => ?_) ?_
                · unfold hetMakesr4_17
                  go_simp
                  refine (hLift_any k h (Par w V0.heap.size (w10.heap.size :: []) P) _ (.slice a22 h.a.kids.length c23) (.slice a25 h.b.kids.length c26) (.slice a28 h.x.kids.length c29) (.slice a31 h.y.kids.length c32) (.slice a34 h.h.kids.length c35) ⟨((show He.fine h from ⟨Gh.out.1, Gh.out.2.1, Gh.out.2.2.1, Gh.out.2.2.2.1, Gh.out.2.2.2.2.1, Gh.out.2.2.2.2.2⟩)).1, ((show He.fine h from ⟨Gh.out.1, Gh.out.2.1, Gh.out.2.2.1, Gh.out.2.2.2.1, Gh.out.2.2.2.2.1, Gh.out.2.2.2.2.2⟩)).2.1, ((show He.fine h from ⟨Gh.out.1, Gh.out.2.1, Gh.out.2.2.1, Gh.out.2.2.2.1, Gh.out.2.2.2.2.1, Gh.out.2.2.2.2.2⟩)).2.2.1, ((show He.fine h from ⟨Gh.out.1, Gh.out.2.1, Gh.out.2.2.1, Gh.out.2.2.2.1, Gh.out.2.2.2.2.1, Gh.out.2.2.2.2.2⟩)).2.2.2.1, ((show He.fine h from ⟨Gh.out.1, Gh.out.2.1, Gh.out.2.2.1, Gh.out.2.2.2.1, Gh.out.2.2.2.2.1, Gh.out.2.2.2.2.2⟩)).2.2.2.2.1, ((show He.fine h from ⟨Gh.out.1, Gh.out.2.1, Gh.out.2.2.1, Gh.out.2.2.2.1, Gh.out.2.2.2.2.1, Gh.out.2.2.2.2.2⟩)).2.2.2.2.2⟩ ⟨(HL63.out.later (kept_trans Kk73.out (kept_trans Kk102.out (kept_trans Kk130.out (kept_trans Kk133.out (kept_trans Kk142.out (kept_trans Kk150.out Kk153.out))))))), (HL64.out.later (kept_trans Kk73.out (kept_trans Kk102.out (kept_trans Kk130.out (kept_trans Kk133.out (kept_trans Kk142.out (kept_trans Kk150.out Kk153.out))))))), (HL65.out.later (kept_trans Kk73.out (kept_trans Kk102.out (kept_trans Kk130.out (kept_trans Kk133.out (kept_trans Kk142.out (kept_trans Kk150.out Kk153.out))))))), (HL66.out.later (kept_trans Kk73.out (kept_trans Kk102.out (kept_trans Kk130.out (kept_trans Kk133.out (kept_trans Kk142.out (kept_trans Kk150.out Kk153.out))))))), (HL67.out.later (kept_trans Kk73.out (kept_trans Kk102.out (kept_trans Kk130.out (kept_trans Kk133.out (kept_trans Kk142.out (kept_trans Kk150.out Kk153.out)))))))⟩ Rk.out (fun x hx => by
                    simp only [List.mem_cons, List.not_mem_nil, or_false] at hx
                    rcases hx with rfl | rfl | rfl | rfl | rfl
                    · exact (HIhg8.out _ (by simp))
                    · exact (HIhg8.out _ (by simp))
                    · exact (HIhg8.out _ (by simp))
                    · exact (HIhg8.out _ (by simp))
                    · exact (HIhg8.out _ (by simp)))).mono ?_
                  obtain ⟨U156, hU156⟩ : ∃ qu, heLift h k = qu := ⟨_, rfl⟩
                  rw [hU156]
                  have HU156 := Lib.hid hU156
                  clear hU156
                  rintro e w154 ⟨s157, s158, s159, s160, s161, rfl, ⟨hl162, hl163, hl164, hl165, hl166⟩, k155⟩
                  obtain ⟨a167, c168, S169, rfl, -⟩ := hl162.out
                  obtain ⟨a170, c171, S172, rfl, -⟩ := hl163.out
                  obtain ⟨a173, c174, S175, rfl, -⟩ := hl164.out
                  obtain ⟨a176, c177, S178, rfl, -⟩ := hl165.out
                  obtain ⟨a179, c180, S181, rfl, -⟩ := hl166.out
                  have Kk182 := Lib.hid k155
                  clear k155
                  have Hhl162 : Hid (LiesQ w154 (Par w V0.heap.size (w10.heap.size :: []) P) U156.a.kids _) := par_give hl162 (Below.size (kept_trans KB57.out (kept_trans Kk73.out (kept_trans Kk102.out (kept_trans Kk130.out (kept_trans Kk133.out (kept_trans Kk142.out (kept_trans Kk150.out Kk153.out)))))))) (xlt_later XL68.out (kept_trans Kk73.out (kept_trans Kk102.out (kept_trans Kk130.out (kept_trans Kk133.out (kept_trans Kk142.out (kept_trans Kk150.out Kk153.out)))))))
                  have Hhl163 : Hid (LiesQ w154 (Par w V0.heap.size (w10.heap.size :: []) P) U156.b.kids _) := par_give hl163 (Below.size (kept_trans KB57.out (kept_trans Kk73.out (kept_trans Kk102.out (kept_trans Kk130.out (kept_trans Kk133.out (kept_trans Kk142.out (kept_trans Kk150.out Kk153.out)))))))) (xlt_later XL68.out (kept_trans Kk73.out (kept_trans Kk102.out (kept_trans Kk130.out (kept_trans Kk133.out (kept_trans Kk142.out (kept_trans Kk150.out Kk153.out)))))))
                  have Hhl164 : Hid (LiesQ w154 (Par w V0.heap.size (w10.heap.size :: []) P) U156.x.kids _) := par_give hl164 (Below.size (kept_trans KB57.out (kept_trans Kk73.out (kept_trans Kk102.out (kept_trans Kk130.out (kept_trans Kk133.out (kept_trans Kk142.out (kept_trans Kk150.out Kk153.out)))))))) (xlt_later XL68.out (kept_trans Kk73.out (kept_trans Kk102.out (kept_trans Kk130.out (kept_trans Kk133.out (kept_trans Kk142.out (kept_trans Kk150.out Kk153.out)))))))
                  have Hhl165 : Hid (LiesQ w154 (Par w V0.heap.size (w10.heap.size :: []) P) U156.y.kids _) := par_give hl165 (Below.size (kept_trans KB57.out (kept_trans Kk73.out (kept_trans Kk102.out (kept_trans Kk130.out (kept_trans Kk133.out (kept_trans Kk142.out (kept_trans Kk150.out Kk153.out)))))))) (xlt_later XL68.out (kept_trans Kk73.out (kept_trans Kk102.out (kept_trans Kk130.out (kept_trans Kk133.out (kept_trans Kk142.out (kept_trans Kk150.out Kk153.out)))))))
                  have Hhl166 : Hid (LiesQ w154 (Par w V0.heap.size (w10.heap.size :: []) P) U156.h.kids _) := par_give hl166 (Below.size (kept_trans KB57.out (kept_trans Kk73.out (kept_trans Kk102.out (kept_trans Kk130.out (kept_trans Kk133.out (kept_trans Kk142.out (kept_trans Kk150.out Kk153.out)))))))) (xlt_later XL68.out (kept_trans Kk73.out (kept_trans Kk102.out (kept_trans Kk130.out (kept_trans Kk133.out (kept_trans Kk142.out (kept_trans Kk150.out Kk153.out)))))))
                  clear hl162 hl163 hl164 hl165 hl166
                  clear hHeld
                  refine hK.out _ _ ?_ (fun hHeld => ?_)
                  · (try dsimp only)
                    exact seesN_kept _ (kept_trans Kk102.out (kept_trans Kk130.out (kept_trans Kk133.out (kept_trans Kk142.out (kept_trans Kk150.out (kept_trans Kk153.out Kk182.out))))))
                  clear hK K
                  (try simp only [Act.put, List.setIfInBounds_toArray, List.set_cons_zero, List.set_cons_succ])
                  refine wpAnyH_ready (rs := [20]) (by kernel_rfl) (by simp) ?_
                  refine AllReadyH.cons (o := hetMakesr4_20) rfl (fun K hK => ?_) ?_
                  · unfold hetMakesr4_20
                    go_simp
                    refine (rLift_any k h (Par w V0.heap.size (w10.heap.size :: []) P) _ (.slice aha h.a.kids.length cha) (.slice ahb h.b.kids.length chb) (.slice ahx h.x.kids.length chx) (.slice ahy h.y.kids.length chy) (.slice ahh h.h.kids.length chh) ⟨Gh.out.1, Gh.out.2.1, Gh.out.2.2.1, Gh.out.2.2.2.1, Gh.out.2.2.2.2.1, Gh.out.2.2.2.2.2⟩ ⟨(HL58.out.later (kept_trans Kk73.out (kept_trans Kk102.out (kept_trans Kk130.out (kept_trans Kk133.out (kept_trans Kk142.out (kept_trans Kk150.out (kept_trans Kk153.out Kk182.out)))))))), (HL59.out.later (kept_trans Kk73.out (kept_trans Kk102.out (kept_trans Kk130.out (kept_trans Kk133.out (kept_trans Kk142.out (kept_trans Kk150.out (kept_trans Kk153.out Kk182.out)))))))), (HL60.out.later (kept_trans Kk73.out (kept_trans Kk102.out (kept_trans Kk130.out (kept_trans Kk133.out (kept_trans Kk142.out (kept_trans Kk150.out (kept_trans Kk153.out Kk182.out)))))))), (HL61.out.later (kept_trans Kk73.out (kept_trans Kk102.out (kept_trans Kk130.out (kept_trans Kk133.out (kept_trans Kk142.out (kept_trans Kk150.out (kept_trans Kk153.out Kk182.out)))))))), (HL62.out.later (kept_trans Kk73.out (kept_trans Kk102.out (kept_trans Kk130.out (kept_trans Kk133.out (kept_trans Kk142.out (kept_trans Kk150.out (kept_trans Kk153.out Kk182.out))))))))⟩ Rk.out (fun x hx => by
                      simp only [List.mem_cons, List.not_mem_nil, or_false] at hx
                      rcases hx with rfl | rfl | rfl | rfl | rfl
                      · exact (HIhg8.out _ (by simp))
                      · exact (HIhg8.out _ (by simp))
                      · exact (HIhg8.out _ (by simp))
                      · exact (HIhg8.out _ (by simp))
                      · exact (HIhg8.out _ (by simp)))).mono ?_
                    rw [HU156.out]
                    rintro e w183 ⟨s185, s186, s187, s188, s189, rfl, ⟨hl190, hl191, hl192, hl193, hl194⟩, k184⟩
                    obtain ⟨a195, c196, S197, rfl, -⟩ := hl190.out
                    obtain ⟨a198, c199, S200, rfl, -⟩ := hl191.out
                    obtain ⟨a201, c202, S203, rfl, -⟩ := hl192.out
                    obtain ⟨a204, c205, S206, rfl, -⟩ := hl193.out
                    obtain ⟨a207, c208, S209, rfl, -⟩ := hl194.out
                    have Kk210 := Lib.hid k184
                    clear k184
                    have Hhl190 : Hid (LiesQ w183 (Par w V0.heap.size (w10.heap.size :: []) P) U156.a.kids _) := par_give hl190 (Below.size (kept_trans KB57.out (kept_trans Kk73.out (kept_trans Kk102.out (kept_trans Kk130.out (kept_trans Kk133.out (kept_trans Kk142.out (kept_trans Kk150.out (kept_trans Kk153.out Kk182.out))))))))) (xlt_later XL68.out (kept_trans Kk73.out (kept_trans Kk102.out (kept_trans Kk130.out (kept_trans Kk133.out (kept_trans Kk142.out (kept_trans Kk150.out (kept_trans Kk153.out Kk182.out))))))))
                    have Hhl191 : Hid (LiesQ w183 (Par w V0.heap.size (w10.heap.size :: []) P) U156.b.kids _) := par_give hl191 (Below.size (kept_trans KB57.out (kept_trans Kk73.out (kept_trans Kk102.out (kept_trans Kk130.out (kept_trans Kk133.out (kept_trans Kk142.out (kept_trans Kk150.out (kept_trans Kk153.out Kk182.out))))))))) (xlt_later XL68.out (kept_trans Kk73.out (kept_trans Kk102.out (kept_trans Kk130.out (kept_trans Kk133.out (kept_trans Kk142.out (kept_trans Kk150.out (kept_trans Kk153.out Kk182.out))))))))
                    have Hhl192 : Hid (LiesQ w183 (Par w V0.heap.size (w10.heap.size :: []) P) U156.x.kids _) := par_give hl192 (Below.size (kept_trans KB57.out (kept_trans Kk73.out (kept_trans Kk102.out (kept_trans Kk130.out (kept_trans Kk133.out (kept_trans Kk142.out (kept_trans Kk150.out (kept_trans Kk153.out Kk182.out))))))))) (xlt_later XL68.out (kept_trans Kk73.out (kept_trans Kk102.out (kept_trans Kk130.out (kept_trans Kk133.out (kept_trans Kk142.out (kept_trans Kk150.out (kept_trans Kk153.out Kk182.out))))))))
                    have Hhl193 : Hid (LiesQ w183 (Par w V0.heap.size (w10.heap.size :: []) P) U156.y.kids _) := par_give hl193 (Below.size (kept_trans KB57.out (kept_trans Kk73.out (kept_trans Kk102.out (kept_trans Kk130.out (kept_trans Kk133.out (kept_trans Kk142.out (kept_trans Kk150.out (kept_trans Kk153.out Kk182.out))))))))) (xlt_later XL68.out (kept_trans Kk73.out (kept_trans Kk102.out (kept_trans Kk130.out (kept_trans Kk133.out (kept_trans Kk142.out (kept_trans Kk150.out (kept_trans Kk153.out Kk182.out))))))))
                    have Hhl194 : Hid (LiesQ w183 (Par w V0.heap.size (w10.heap.size :: []) P) U156.h.kids _) := par_give hl194 (Below.size (kept_trans KB57.out (kept_trans Kk73.out (kept_trans Kk102.out (kept_trans Kk130.out (kept_trans Kk133.out (kept_trans Kk142.out (kept_trans Kk150.out (kept_trans Kk153.out Kk182.out))))))))) (xlt_later XL68.out (kept_trans Kk73.out (kept_trans Kk102.out (kept_trans Kk130.out (kept_trans Kk133.out (kept_trans Kk142.out (kept_trans Kk150.out (kept_trans Kk153.out Kk182.out))))))))
                    clear hl190 hl191 hl192 hl193 hl194
                    clear hHeld
                    refine hK.out _ _ ?_ (fun hHeld => ?_)
                    · (try dsimp only)
                      exact seesN_kept _ (kept_trans Kk102.out (kept_trans Kk130.out (kept_trans Kk133.out (kept_trans Kk142.out (kept_trans Kk150.out (kept_trans Kk153.out (kept_trans Kk182.out Kk210.out)))))))
                    clear hK K
                    (try simp only [Act.put, List.setIfInBounds_toArray, List.set_cons_zero, List.set_cons_succ])
                    refine wpAnyH_ready (rs := [21]) (by kernel_rfl) (by simp) ?_
                    refine AllReadyH.cons (o := hetMakesr4_21) rfl (fun K hK => ?_) ?_
                    · unfold hetMakesr4_21
                      go_simp
                      refine (lsame_any U156 (Par w V0.heap.size (w10.heap.size :: []) P) _ (.slice a167 U156.a.kids.length c168) (.slice a170 U156.b.kids.length c171) (.slice a173 U156.x.kids.length c174) (.slice a176 U156.y.kids.length c177) (.slice a179 U156.h.kids.length c180) (.slice a195 U156.a.kids.length c196) (.slice a198 U156.b.kids.length c199) (.slice a201 U156.x.kids.length c202) (.slice a204 U156.y.kids.length c205) (.slice a207 U156.h.kids.length c208) ⟨(Hhl162.out.later Kk210.out), (Hhl163.out.later Kk210.out), (Hhl164.out.later Kk210.out), (Hhl165.out.later Kk210.out), (Hhl166.out.later Kk210.out)⟩ ⟨Hhl190.out, Hhl191.out, Hhl192.out, Hhl193.out, Hhl194.out⟩).mono ?_
                      rintro e w211 ⟨rfl, k212⟩
                      have Kk213 := Lib.hid k212
                      clear k212
                      clear hHeld
                      refine hK.out _ _ ?_ (fun hHeld => ?_)
                      · (try dsimp only)
                        exact seesN_kept _ (kept_trans Kk102.out (kept_trans Kk130.out (kept_trans Kk133.out (kept_trans Kk142.out (kept_trans Kk150.out (kept_trans Kk153.out (kept_trans Kk182.out (kept_trans Kk210.out Kk213.out))))))))
                      clear hK K
                      (try simp only [Act.put, List.setIfInBounds_toArray, List.set_cons_zero, List.set_cons_succ])
                      refine take_at 22 34 hetMakesr4_22 (v := ?_) (Or.inl ⟨by rfl, ?_⟩) ?_
                      rotate_left 1
                      · ((intro w hSw; (try dsimp only at hSw); unfold hetMakesr4_22; go_simp) <;> with_reducible rfl)
                      (try simp only [Act.put, List.setIfInBounds_toArray, List.set_cons_zero, List.set_cons_succ])
                      refine take_at 23 35 hetMakesr4_23 (v := ?_) (Or.inl ⟨by rfl, ?_⟩) ?_
                      rotate_left 1
                      · ((intro w hSw; (try dsimp only at hSw); unfold hetMakesr4_23; go_simp) <;> with_reducible rfl)
                      (try simp only [Act.put, List.setIfInBounds_toArray, List.set_cons_zero, List.set_cons_succ])
                      refine wpAnyH_done (by kernel_rfl) ?_ _
                      clear hHeld
                      have kvV0 : SeesN V0 V0.heap.size w211 := seesN_kept _ (kept_trans KB57.out (kept_trans Kk73.out (kept_trans Kk102.out (kept_trans Kk130.out (kept_trans Kk133.out (kept_trans Kk142.out (kept_trans Kk150.out (kept_trans Kk153.out (kept_trans Kk182.out (kept_trans Kk210.out Kk213.out))))))))))
                      have kvW39 : SeesN W39 V0.heap.size w211 := seesN_kept _ (kept_trans Kk73.out (kept_trans Kk102.out (kept_trans Kk130.out (kept_trans Kk133.out (kept_trans Kk142.out (kept_trans Kk150.out (kept_trans Kk153.out (kept_trans Kk182.out (kept_trans Kk210.out Kk213.out)))))))))
                      go_wp2_with fail
                      clear kvV0
                      clear kvW39
                      obtain ⟨W214, h215⟩ : ∃ x, World.drew w211 = x := ⟨_, rfl⟩
                      have k216 : Kept w211 W214 := by rw [← h215]; exact kept_drew (kept_refl _)
                      have Kk217 := Lib.hid k216
                      clear k216
                      refine wp_region_held_drew (S := SeesN W214 V0.heap.size) (by kernel_rfl) ?_ (fun hHeld => ?_)
                      · (try dsimp only)
                        rw [h215]
                        exact seesN_kept _ (kept_refl _)
                      rw [h215] at hHeld ⊢
                      clear h215
                      refine take_at 0 36 hetMakesr6_0 (v := ?_) (Or.inl ⟨by rfl, ?_⟩) ?_
                      rotate_left 1
                      · ((intro w hSw; (try dsimp only at hSw); unfold hetMakesr6_0; go_simp) <;> with_reducible rfl)
                      (try simp only [Act.put, List.setIfInBounds_toArray, List.set_cons_zero, List.set_cons_succ])
                      refine take_at 1 37 hetMakesr6_1 (v := ?_) (Or.inl ⟨by rfl, ?_⟩) ?_
                      rotate_left 1
                      · ((intro w hSw; (try dsimp only at hSw); unfold hetMakesr6_1; go_simp) <;> with_reducible rfl)
                      (try simp only [Act.put, List.setIfInBounds_toArray, List.set_cons_zero, List.set_cons_succ])
                      refine take_at 2 38 hetMakesr6_2 (yields_part (w.heap.size) 1 32 (.tmp 37) #[.int .i64 h.a.k, .int .i64 h.a.i, .int .i64 h.a.j, .int .i64 h.a.n, (.slice aha h.a.kids.length cha)] du (fun _ h => seesN_blk Hx1.out trivial (seesN_of (kept_trans KB57.out (kept_trans Kk73.out (kept_trans Kk102.out (kept_trans Kk130.out (kept_trans Kk133.out (kept_trans Kk142.out (kept_trans Kk150.out (kept_trans Kk153.out (kept_trans Kk182.out (kept_trans Kk210.out (kept_trans Kk213.out Kk217.out))))))))))) h)) (by rfl) rfl (by rfl) (by rfl) hu1 (by cases du <;> first | rfl | exact hu2) size_term) ?_
                      (try simp only [Act.put, List.setIfInBounds_toArray, List.set_cons_zero, List.set_cons_succ])
                      refine take_at 3 39 hetMakesr6_3 (v := ?_) (Or.inl ⟨by rfl, ?_⟩) ?_
                      rotate_left 1
                      · ((intro w hSw; (try dsimp only at hSw); unfold hetMakesr6_3; go_simp) <;> with_reducible rfl)
                      (try simp only [Act.put, List.setIfInBounds_toArray, List.set_cons_zero, List.set_cons_succ])
                      refine take_at 4 40 hetMakesr6_4 (yields_part (w.heap.size) 11 32 (.tmp 39) #[.int .i64 h.x.k, .int .i64 h.x.i, .int .i64 h.x.j, .int .i64 h.x.n, (.slice ahx h.x.kids.length chx)] du (fun _ h => seesN_blk Hx1.out trivial (seesN_of (kept_trans KB57.out (kept_trans Kk73.out (kept_trans Kk102.out (kept_trans Kk130.out (kept_trans Kk133.out (kept_trans Kk142.out (kept_trans Kk150.out (kept_trans Kk153.out (kept_trans Kk182.out (kept_trans Kk210.out (kept_trans Kk213.out Kk217.out))))))))))) h)) (by rfl) rfl (by rfl) (by rfl) hu1 (by cases du <;> first | rfl | exact hu2) size_term) ?_
                      (try simp only [Act.put, List.setIfInBounds_toArray, List.set_cons_zero, List.set_cons_succ])
                      refine take_at 6 42 hetMakesr6_6 (v := ?_) (Or.inl ⟨by rfl, ?_⟩) ?_
                      rotate_left 1
                      · ((intro w hSw; (try dsimp only at hSw); unfold hetMakesr6_6; go_simp) <;> with_reducible rfl)
                      (try simp only [Act.put, List.setIfInBounds_toArray, List.set_cons_zero, List.set_cons_succ])
                      refine take_at 7 43 hetMakesr6_7 (v := ?_) (Or.inl ⟨by rfl, ?_⟩) ?_
                      rotate_left 1
                      · ((intro w hSw; (try dsimp only at hSw); unfold hetMakesr6_7; go_simp) <;> with_reducible rfl)
                      (try simp only [Act.put, List.setIfInBounds_toArray, List.set_cons_zero, List.set_cons_succ])
                      refine take_at 8 44 hetMakesr6_8 (yields_part (w.heap.size) 1 32 (.tmp 43) #[.int .i64 h.a.k, .int .i64 h.a.i, .int .i64 h.a.j, .int .i64 h.a.n, (.slice aha h.a.kids.length cha)] du (fun _ h => seesN_blk Hx1.out trivial (seesN_of (kept_trans KB57.out (kept_trans Kk73.out (kept_trans Kk102.out (kept_trans Kk130.out (kept_trans Kk133.out (kept_trans Kk142.out (kept_trans Kk150.out (kept_trans Kk153.out (kept_trans Kk182.out (kept_trans Kk210.out (kept_trans Kk213.out Kk217.out))))))))))) h)) (by rfl) rfl (by rfl) (by rfl) hu1 (by cases du <;> first | rfl | exact hu2) size_term) ?_
                      (try simp only [Act.put, List.setIfInBounds_toArray, List.set_cons_zero, List.set_cons_succ])
                      refine take_at 9 45 hetMakesr6_9 (v := ?_) (Or.inl ⟨by rfl, ?_⟩) ?_
                      rotate_left 1
                      · ((intro w hSw; (try dsimp only at hSw); unfold hetMakesr6_9; go_simp) <;> with_reducible rfl)
                      (try simp only [Act.put, List.setIfInBounds_toArray, List.set_cons_zero, List.set_cons_succ])
                      refine take_at 10 46 hetMakesr6_10 (yields_part (w.heap.size) 11 32 (.tmp 45) #[.int .i64 h.x.k, .int .i64 h.x.i, .int .i64 h.x.j, .int .i64 h.x.n, (.slice ahx h.x.kids.length chx)] du (fun _ h => seesN_blk Hx1.out trivial (seesN_of (kept_trans KB57.out (kept_trans Kk73.out (kept_trans Kk102.out (kept_trans Kk130.out (kept_trans Kk133.out (kept_trans Kk142.out (kept_trans Kk150.out (kept_trans Kk153.out (kept_trans Kk182.out (kept_trans Kk210.out (kept_trans Kk213.out Kk217.out))))))))))) h)) (by rfl) rfl (by rfl) (by rfl) hu1 (by cases du <;> first | rfl | exact hu2) size_term) ?_
                      (try simp only [Act.put, List.setIfInBounds_toArray, List.set_cons_zero, List.set_cons_succ])
                      refine wpAnyH_ready (rs := [5]) (by kernel_rfl) (by simp) ?_
                      refine AllReadyH.cons (o := hetMakesr6_5) rfl (fun K hK => ?_) ?_
                      · unfold hetMakesr6_5
                        go_simp
                        refine (hself_any i h.a h.x (Par w V0.heap.size (w10.heap.size :: []) P) _ (.slice aha h.a.kids.length cha) (.slice ahx h.x.kids.length chx) Ri.out Gh.out.2.1 (HL58.out.later (kept_trans Kk73.out (kept_trans Kk102.out (kept_trans Kk130.out (kept_trans Kk133.out (kept_trans Kk142.out (kept_trans Kk150.out (kept_trans Kk153.out (kept_trans Kk182.out (kept_trans Kk210.out (kept_trans Kk213.out Kk217.out))))))))))) Gh.out.2.2.2.1 (HL60.out.later (kept_trans Kk73.out (kept_trans Kk102.out (kept_trans Kk130.out (kept_trans Kk133.out (kept_trans Kk142.out (kept_trans Kk150.out (kept_trans Kk153.out (kept_trans Kk182.out (kept_trans Kk210.out (kept_trans Kk213.out Kk217.out)))))))))))).mono ?_
                        obtain ⟨U220, hU220⟩ : ∃ qu, heSelf i h.a h.x = qu := ⟨_, rfl⟩
                        rw [hU220]
                        have HU220 := Lib.hid hU220
                        clear hU220
                        rintro e w218 ⟨s221, s222, s223, s224, s225, rfl, ⟨hl226, hl227, hl228, hl229, hl230⟩, k219⟩
                        obtain ⟨a231, c232, S233, rfl, -⟩ := hl226.out
                        obtain ⟨a234, c235, S236, rfl, -⟩ := hl227.out
                        obtain ⟨a237, c238, S239, rfl, -⟩ := hl228.out
                        obtain ⟨a240, c241, S242, rfl, -⟩ := hl229.out
                        obtain ⟨a243, c244, S245, rfl, -⟩ := hl230.out
                        have Kk246 := Lib.hid k219
                        clear k219
                        have Hhl226 : Hid (LiesQ w218 (Par w V0.heap.size (w10.heap.size :: []) P) U220.a.kids _) := par_give hl226 (Below.size (kept_trans KB57.out (kept_trans Kk73.out (kept_trans Kk102.out (kept_trans Kk130.out (kept_trans Kk133.out (kept_trans Kk142.out (kept_trans Kk150.out (kept_trans Kk153.out (kept_trans Kk182.out (kept_trans Kk210.out (kept_trans Kk213.out Kk217.out)))))))))))) (xlt_later XL68.out (kept_trans Kk73.out (kept_trans Kk102.out (kept_trans Kk130.out (kept_trans Kk133.out (kept_trans Kk142.out (kept_trans Kk150.out (kept_trans Kk153.out (kept_trans Kk182.out (kept_trans Kk210.out (kept_trans Kk213.out Kk217.out)))))))))))
                        have Hhl227 : Hid (LiesQ w218 (Par w V0.heap.size (w10.heap.size :: []) P) U220.b.kids _) := par_give hl227 (Below.size (kept_trans KB57.out (kept_trans Kk73.out (kept_trans Kk102.out (kept_trans Kk130.out (kept_trans Kk133.out (kept_trans Kk142.out (kept_trans Kk150.out (kept_trans Kk153.out (kept_trans Kk182.out (kept_trans Kk210.out (kept_trans Kk213.out Kk217.out)))))))))))) (xlt_later XL68.out (kept_trans Kk73.out (kept_trans Kk102.out (kept_trans Kk130.out (kept_trans Kk133.out (kept_trans Kk142.out (kept_trans Kk150.out (kept_trans Kk153.out (kept_trans Kk182.out (kept_trans Kk210.out (kept_trans Kk213.out Kk217.out)))))))))))
                        have Hhl228 : Hid (LiesQ w218 (Par w V0.heap.size (w10.heap.size :: []) P) U220.x.kids _) := par_give hl228 (Below.size (kept_trans KB57.out (kept_trans Kk73.out (kept_trans Kk102.out (kept_trans Kk130.out (kept_trans Kk133.out (kept_trans Kk142.out (kept_trans Kk150.out (kept_trans Kk153.out (kept_trans Kk182.out (kept_trans Kk210.out (kept_trans Kk213.out Kk217.out)))))))))))) (xlt_later XL68.out (kept_trans Kk73.out (kept_trans Kk102.out (kept_trans Kk130.out (kept_trans Kk133.out (kept_trans Kk142.out (kept_trans Kk150.out (kept_trans Kk153.out (kept_trans Kk182.out (kept_trans Kk210.out (kept_trans Kk213.out Kk217.out)))))))))))
                        have Hhl229 : Hid (LiesQ w218 (Par w V0.heap.size (w10.heap.size :: []) P) U220.y.kids _) := par_give hl229 (Below.size (kept_trans KB57.out (kept_trans Kk73.out (kept_trans Kk102.out (kept_trans Kk130.out (kept_trans Kk133.out (kept_trans Kk142.out (kept_trans Kk150.out (kept_trans Kk153.out (kept_trans Kk182.out (kept_trans Kk210.out (kept_trans Kk213.out Kk217.out)))))))))))) (xlt_later XL68.out (kept_trans Kk73.out (kept_trans Kk102.out (kept_trans Kk130.out (kept_trans Kk133.out (kept_trans Kk142.out (kept_trans Kk150.out (kept_trans Kk153.out (kept_trans Kk182.out (kept_trans Kk210.out (kept_trans Kk213.out Kk217.out)))))))))))
                        have Hhl230 : Hid (LiesQ w218 (Par w V0.heap.size (w10.heap.size :: []) P) U220.h.kids _) := par_give hl230 (Below.size (kept_trans KB57.out (kept_trans Kk73.out (kept_trans Kk102.out (kept_trans Kk130.out (kept_trans Kk133.out (kept_trans Kk142.out (kept_trans Kk150.out (kept_trans Kk153.out (kept_trans Kk182.out (kept_trans Kk210.out (kept_trans Kk213.out Kk217.out)))))))))))) (xlt_later XL68.out (kept_trans Kk73.out (kept_trans Kk102.out (kept_trans Kk130.out (kept_trans Kk133.out (kept_trans Kk142.out (kept_trans Kk150.out (kept_trans Kk153.out (kept_trans Kk182.out (kept_trans Kk210.out (kept_trans Kk213.out Kk217.out)))))))))))
                        clear hl226 hl227 hl228 hl229 hl230
                        clear hHeld
                        refine hK.out _ _ ?_ (fun hHeld => ?_)
                        · (try dsimp only)
                          exact seesN_kept _ Kk246.out
                        clear hK K
                        (try simp only [Act.put, List.setIfInBounds_toArray, List.set_cons_zero, List.set_cons_succ])
                        refine wpAnyH_ready (rs := [11]) (by kernel_rfl) (by simp) ?_
                        refine AllReadyH.cons (o := hetMakesr6_11) rfl (fun K hK => ?_) ?_
                        · unfold hetMakesr6_11
                          go_simp
                          refine (rSelf_any i h.a h.x (Par w V0.heap.size (w10.heap.size :: []) P) _ (.slice aha h.a.kids.length cha) (.slice ahx h.x.kids.length chx) Ri.out Gh.out.2.1 (HL58.out.later (kept_trans Kk73.out (kept_trans Kk102.out (kept_trans Kk130.out (kept_trans Kk133.out (kept_trans Kk142.out (kept_trans Kk150.out (kept_trans Kk153.out (kept_trans Kk182.out (kept_trans Kk210.out (kept_trans Kk213.out (kept_trans Kk217.out Kk246.out)))))))))))) Gh.out.2.2.2.1 (HL60.out.later (kept_trans Kk73.out (kept_trans Kk102.out (kept_trans Kk130.out (kept_trans Kk133.out (kept_trans Kk142.out (kept_trans Kk150.out (kept_trans Kk153.out (kept_trans Kk182.out (kept_trans Kk210.out (kept_trans Kk213.out (kept_trans Kk217.out Kk246.out))))))))))))).mono ?_
                          rw [HU220.out]
                          rintro e w247 ⟨s249, s250, s251, s252, s253, rfl, ⟨hl254, hl255, hl256, hl257, hl258⟩, k248⟩
                          obtain ⟨a259, c260, S261, rfl, -⟩ := hl254.out
                          obtain ⟨a262, c263, S264, rfl, -⟩ := hl255.out
                          obtain ⟨a265, c266, S267, rfl, -⟩ := hl256.out
                          obtain ⟨a268, c269, S270, rfl, -⟩ := hl257.out
                          obtain ⟨a271, c272, S273, rfl, -⟩ := hl258.out
                          have Kk274 := Lib.hid k248
                          clear k248
                          have Hhl254 : Hid (LiesQ w247 (Par w V0.heap.size (w10.heap.size :: []) P) U220.a.kids _) := par_give hl254 (Below.size (kept_trans KB57.out (kept_trans Kk73.out (kept_trans Kk102.out (kept_trans Kk130.out (kept_trans Kk133.out (kept_trans Kk142.out (kept_trans Kk150.out (kept_trans Kk153.out (kept_trans Kk182.out (kept_trans Kk210.out (kept_trans Kk213.out (kept_trans Kk217.out Kk246.out))))))))))))) (xlt_later XL68.out (kept_trans Kk73.out (kept_trans Kk102.out (kept_trans Kk130.out (kept_trans Kk133.out (kept_trans Kk142.out (kept_trans Kk150.out (kept_trans Kk153.out (kept_trans Kk182.out (kept_trans Kk210.out (kept_trans Kk213.out (kept_trans Kk217.out Kk246.out))))))))))))
                          have Hhl255 : Hid (LiesQ w247 (Par w V0.heap.size (w10.heap.size :: []) P) U220.b.kids _) := par_give hl255 (Below.size (kept_trans KB57.out (kept_trans Kk73.out (kept_trans Kk102.out (kept_trans Kk130.out (kept_trans Kk133.out (kept_trans Kk142.out (kept_trans Kk150.out (kept_trans Kk153.out (kept_trans Kk182.out (kept_trans Kk210.out (kept_trans Kk213.out (kept_trans Kk217.out Kk246.out))))))))))))) (xlt_later XL68.out (kept_trans Kk73.out (kept_trans Kk102.out (kept_trans Kk130.out (kept_trans Kk133.out (kept_trans Kk142.out (kept_trans Kk150.out (kept_trans Kk153.out (kept_trans Kk182.out (kept_trans Kk210.out (kept_trans Kk213.out (kept_trans Kk217.out Kk246.out))))))))))))
                          have Hhl256 : Hid (LiesQ w247 (Par w V0.heap.size (w10.heap.size :: []) P) U220.x.kids _) := par_give hl256 (Below.size (kept_trans KB57.out (kept_trans Kk73.out (kept_trans Kk102.out (kept_trans Kk130.out (kept_trans Kk133.out (kept_trans Kk142.out (kept_trans Kk150.out (kept_trans Kk153.out (kept_trans Kk182.out (kept_trans Kk210.out (kept_trans Kk213.out (kept_trans Kk217.out Kk246.out))))))))))))) (xlt_later XL68.out (kept_trans Kk73.out (kept_trans Kk102.out (kept_trans Kk130.out (kept_trans Kk133.out (kept_trans Kk142.out (kept_trans Kk150.out (kept_trans Kk153.out (kept_trans Kk182.out (kept_trans Kk210.out (kept_trans Kk213.out (kept_trans Kk217.out Kk246.out))))))))))))
                          have Hhl257 : Hid (LiesQ w247 (Par w V0.heap.size (w10.heap.size :: []) P) U220.y.kids _) := par_give hl257 (Below.size (kept_trans KB57.out (kept_trans Kk73.out (kept_trans Kk102.out (kept_trans Kk130.out (kept_trans Kk133.out (kept_trans Kk142.out (kept_trans Kk150.out (kept_trans Kk153.out (kept_trans Kk182.out (kept_trans Kk210.out (kept_trans Kk213.out (kept_trans Kk217.out Kk246.out))))))))))))) (xlt_later XL68.out (kept_trans Kk73.out (kept_trans Kk102.out (kept_trans Kk130.out (kept_trans Kk133.out (kept_trans Kk142.out (kept_trans Kk150.out (kept_trans Kk153.out (kept_trans Kk182.out (kept_trans Kk210.out (kept_trans Kk213.out (kept_trans Kk217.out Kk246.out))))))))))))
                          have Hhl258 : Hid (LiesQ w247 (Par w V0.heap.size (w10.heap.size :: []) P) U220.h.kids _) := par_give hl258 (Below.size (kept_trans KB57.out (kept_trans Kk73.out (kept_trans Kk102.out (kept_trans Kk130.out (kept_trans Kk133.out (kept_trans Kk142.out (kept_trans Kk150.out (kept_trans Kk153.out (kept_trans Kk182.out (kept_trans Kk210.out (kept_trans Kk213.out (kept_trans Kk217.out Kk246.out))))))))))))) (xlt_later XL68.out (kept_trans Kk73.out (kept_trans Kk102.out (kept_trans Kk130.out (kept_trans Kk133.out (kept_trans Kk142.out (kept_trans Kk150.out (kept_trans Kk153.out (kept_trans Kk182.out (kept_trans Kk210.out (kept_trans Kk213.out (kept_trans Kk217.out Kk246.out))))))))))))
                          clear hl254 hl255 hl256 hl257 hl258
                          clear hHeld
                          refine hK.out _ _ ?_ (fun hHeld => ?_)
                          · (try dsimp only)
                            exact seesN_kept _ (kept_trans Kk246.out Kk274.out)
                          clear hK K
                          (try simp only [Act.put, List.setIfInBounds_toArray, List.set_cons_zero, List.set_cons_succ])
                          refine wpAnyH_ready (rs := [12]) (by kernel_rfl) (by simp) ?_
                          refine AllReadyH.cons (o := hetMakesr6_12) rfl (fun K hK => ?_) ?_
                          · unfold hetMakesr6_12
                            go_simp
                            refine (lsame_any U220 (Par w V0.heap.size (w10.heap.size :: []) P) _ (.slice a231 U220.a.kids.length c232) (.slice a234 U220.b.kids.length c235) (.slice a237 U220.x.kids.length c238) (.slice a240 U220.y.kids.length c241) (.slice a243 U220.h.kids.length c244) (.slice a259 U220.a.kids.length c260) (.slice a262 U220.b.kids.length c263) (.slice a265 U220.x.kids.length c266) (.slice a268 U220.y.kids.length c269) (.slice a271 U220.h.kids.length c272) ⟨(Hhl226.out.later Kk274.out), (Hhl227.out.later Kk274.out), (Hhl228.out.later Kk274.out), (Hhl229.out.later Kk274.out), (Hhl230.out.later Kk274.out)⟩ ⟨Hhl254.out, Hhl255.out, Hhl256.out, Hhl257.out, Hhl258.out⟩).mono ?_
                            rintro e w275 ⟨rfl, k276⟩
                            have Kk277 := Lib.hid k276
                            clear k276
                            clear hHeld
                            refine hK.out _ _ ?_ (fun hHeld => ?_)
                            · (try dsimp only)
                              exact seesN_kept _ (kept_trans Kk246.out (kept_trans Kk274.out Kk277.out))
                            clear hK K
                            (try simp only [Act.put, List.setIfInBounds_toArray, List.set_cons_zero, List.set_cons_succ])
                            refine take_at 13 49 hetMakesr6_13 (v := ?_) (Or.inl ⟨by rfl, ?_⟩) ?_
                            rotate_left 1
                            · ((intro w hSw; (try dsimp only at hSw); unfold hetMakesr6_13; go_simp) <;> with_reducible rfl)
                            (try simp only [Act.put, List.setIfInBounds_toArray, List.set_cons_zero, List.set_cons_succ])
                            refine take_at 14 50 hetMakesr6_14 (v := ?_) (Or.inl ⟨by rfl, ?_⟩) ?_
                            rotate_left 1
                            · ((intro w hSw; (try dsimp only at hSw); unfold hetMakesr6_14; go_simp) <;> with_reducible rfl)
                            (try simp only [Act.put, List.setIfInBounds_toArray, List.set_cons_zero, List.set_cons_succ])
                            refine take_at 15 51 hetMakesr6_15 (v := ?_) (Or.inl ⟨by rfl, ?_⟩) ?_
                            rotate_left 1
                            · ((intro w hSw; (try dsimp only at hSw); unfold hetMakesr6_15; go_simp) <;> with_reducible rfl)
                            (try simp only [Act.put, List.setIfInBounds_toArray, List.set_cons_zero, List.set_cons_succ])
                            refine take_at 16 52 hetMakesr6_16 (yields_part (w.heap.size) 1 32 (.tmp 51) #[.int .i64 h.a.k, .int .i64 h.a.i, .int .i64 h.a.j, .int .i64 h.a.n, (.slice aha h.a.kids.length cha)] du (fun _ h => seesN_blk Hx1.out trivial (seesN_of (kept_trans KB57.out (kept_trans Kk73.out (kept_trans Kk102.out (kept_trans Kk130.out (kept_trans Kk133.out (kept_trans Kk142.out (kept_trans Kk150.out (kept_trans Kk153.out (kept_trans Kk182.out (kept_trans Kk210.out (kept_trans Kk213.out Kk217.out))))))))))) h)) (by rfl) rfl (by rfl) (by rfl) hu1 (by cases du <;> first | rfl | exact hu2) size_term) ?_
                            (try simp only [Act.put, List.setIfInBounds_toArray, List.set_cons_zero, List.set_cons_succ])
                            refine take_at 17 53 hetMakesr6_17 (v := ?_) (Or.inl ⟨by rfl, ?_⟩) ?_
                            rotate_left 1
                            · ((intro w hSw; (try dsimp only at hSw); unfold hetMakesr6_17; go_simp) <;> with_reducible rfl)
                            (try simp only [Act.put, List.setIfInBounds_toArray, List.set_cons_zero, List.set_cons_succ])
                            refine take_at 18 54 hetMakesr6_18 (yields_part (w.heap.size) 11 32 (.tmp 53) #[.int .i64 h.x.k, .int .i64 h.x.i, .int .i64 h.x.j, .int .i64 h.x.n, (.slice ahx h.x.kids.length chx)] du (fun _ h => seesN_blk Hx1.out trivial (seesN_of (kept_trans KB57.out (kept_trans Kk73.out (kept_trans Kk102.out (kept_trans Kk130.out (kept_trans Kk133.out (kept_trans Kk142.out (kept_trans Kk150.out (kept_trans Kk153.out (kept_trans Kk182.out (kept_trans Kk210.out (kept_trans Kk213.out Kk217.out))))))))))) h)) (by rfl) rfl (by rfl) (by rfl) hu1 (by cases du <;> first | rfl | exact hu2) size_term) ?_
                            (try simp only [Act.put, List.setIfInBounds_toArray, List.set_cons_zero, List.set_cons_succ])
                            refine take_at 19 55 hetMakesr6_19 (v := ?_) (Or.inl ⟨by rfl, ?_⟩) ?_
                            rotate_left 1
                            · ((intro w hSw; (try dsimp only at hSw); unfold hetMakesr6_19; go_simp) <;> with_reducible rfl)
                            (try simp only [Act.put, List.setIfInBounds_toArray, List.set_cons_zero, List.set_cons_succ])
                            refine take_at 20 56 hetMakesr6_20 (yields_part (w.heap.size) 16 32 (.tmp 55) #[.int .i64 h.y.k, .int .i64 h.y.i, .int .i64 h.y.j, .int .i64 h.y.n, (.slice ahy h.y.kids.length chy)] du (fun _ h => seesN_blk Hx1.out trivial (seesN_of (kept_trans KB57.out (kept_trans Kk73.out (kept_trans Kk102.out (kept_trans Kk130.out (kept_trans Kk133.out (kept_trans Kk142.out (kept_trans Kk150.out (kept_trans Kk153.out (kept_trans Kk182.out (kept_trans Kk210.out (kept_trans Kk213.out Kk217.out))))))))))) h)) (by rfl) rfl (by rfl) (by rfl) hu1 (by cases du <;> first | rfl | exact hu2) size_term) ?_
                            (try simp only [Act.put, List.setIfInBounds_toArray, List.set_cons_zero, List.set_cons_succ])
                            refine take_at 21 57 hetMakesr6_21 (v := ?_) (Or.inl ⟨by rfl, ?_⟩) ?_
                            rotate_left 1
                            · ((intro w hSw; (try dsimp only at hSw); unfold hetMakesr6_21; go_simp) <;> with_reducible rfl)
                            (try simp only [Act.put, List.setIfInBounds_toArray, List.set_cons_zero, List.set_cons_succ])
                            refine take_at 22 58 hetMakesr6_22 (yields_part (w.heap.size) 21 32 (.tmp 57) #[.int .i64 h.h.k, .int .i64 h.h.i, .int .i64 h.h.j, .int .i64 h.h.n, (.slice ahh h.h.kids.length chh)] du (fun _ h => seesN_blk Hx1.out trivial (seesN_of (kept_trans KB57.out (kept_trans Kk73.out (kept_trans Kk102.out (kept_trans Kk130.out (kept_trans Kk133.out (kept_trans Kk142.out (kept_trans Kk150.out (kept_trans Kk153.out (kept_trans Kk182.out (kept_trans Kk210.out (kept_trans Kk213.out Kk217.out))))))))))) h)) (by rfl) rfl (by rfl) (by rfl) hu1 (by cases du <;> first | rfl | exact hu2) size_term) ?_
                            (try simp only [Act.put, List.setIfInBounds_toArray, List.set_cons_zero, List.set_cons_succ])
                            refine take_at 24 60 hetMakesr6_24 (v := ?_) (Or.inl ⟨by rfl, ?_⟩) ?_
                            rotate_left 1
                            · ((intro w hSw; (try dsimp only at hSw); unfold hetMakesr6_24; go_simp) <;> with_reducible rfl)
                            (try simp only [Act.put, List.setIfInBounds_toArray, List.set_cons_zero, List.set_cons_succ])
                            refine take_at 25 61 hetMakesr6_25 (v := ?_) (Or.inl ⟨by rfl, ?_⟩) ?_
                            rotate_left 1
                            · ((intro w hSw; (try dsimp only at hSw); unfold hetMakesr6_25; go_simp) <;> with_reducible rfl)
                            (try simp only [Act.put, List.setIfInBounds_toArray, List.set_cons_zero, List.set_cons_succ])
                            refine take_at 26 62 hetMakesr6_26 (yields_part (w.heap.size) 1 32 (.tmp 61) #[.int .i64 h.a.k, .int .i64 h.a.i, .int .i64 h.a.j, .int .i64 h.a.n, (.slice aha h.a.kids.length cha)] du (fun _ h => seesN_blk Hx1.out trivial (seesN_of (kept_trans KB57.out (kept_trans Kk73.out (kept_trans Kk102.out (kept_trans Kk130.out (kept_trans Kk133.out (kept_trans Kk142.out (kept_trans Kk150.out (kept_trans Kk153.out (kept_trans Kk182.out (kept_trans Kk210.out (kept_trans Kk213.out Kk217.out))))))))))) h)) (by rfl) rfl (by rfl) (by rfl) hu1 (by cases du <;> first | rfl | exact hu2) size_term) ?_
                            (try simp only [Act.put, List.setIfInBounds_toArray, List.set_cons_zero, List.set_cons_succ])
                            refine take_at 27 63 hetMakesr6_27 (v := ?_) (Or.inl ⟨by rfl, ?_⟩) ?_
                            rotate_left 1
                            · ((intro w hSw; (try dsimp only at hSw); unfold hetMakesr6_27; go_simp) <;> with_reducible rfl)
                            (try simp only [Act.put, List.setIfInBounds_toArray, List.set_cons_zero, List.set_cons_succ])
                            refine take_at 28 64 hetMakesr6_28 (yields_part (w.heap.size) 11 32 (.tmp 63) #[.int .i64 h.x.k, .int .i64 h.x.i, .int .i64 h.x.j, .int .i64 h.x.n, (.slice ahx h.x.kids.length chx)] du (fun _ h => seesN_blk Hx1.out trivial (seesN_of (kept_trans KB57.out (kept_trans Kk73.out (kept_trans Kk102.out (kept_trans Kk130.out (kept_trans Kk133.out (kept_trans Kk142.out (kept_trans Kk150.out (kept_trans Kk153.out (kept_trans Kk182.out (kept_trans Kk210.out (kept_trans Kk213.out Kk217.out))))))))))) h)) (by rfl) rfl (by rfl) (by rfl) hu1 (by cases du <;> first | rfl | exact hu2) size_term) ?_
                            (try simp only [Act.put, List.setIfInBounds_toArray, List.set_cons_zero, List.set_cons_succ])
                            refine take_at 29 65 hetMakesr6_29 (v := ?_) (Or.inl ⟨by rfl, ?_⟩) ?_
                            rotate_left 1
                            · ((intro w hSw; (try dsimp only at hSw); unfold hetMakesr6_29; go_simp) <;> with_reducible rfl)
                            (try simp only [Act.put, List.setIfInBounds_toArray, List.set_cons_zero, List.set_cons_succ])
                            refine take_at 30 66 hetMakesr6_30 (yields_part (w.heap.size) 16 32 (.tmp 65) #[.int .i64 h.y.k, .int .i64 h.y.i, .int .i64 h.y.j, .int .i64 h.y.n, (.slice ahy h.y.kids.length chy)] du (fun _ h => seesN_blk Hx1.out trivial (seesN_of (kept_trans KB57.out (kept_trans Kk73.out (kept_trans Kk102.out (kept_trans Kk130.out (kept_trans Kk133.out (kept_trans Kk142.out (kept_trans Kk150.out (kept_trans Kk153.out (kept_trans Kk182.out (kept_trans Kk210.out (kept_trans Kk213.out Kk217.out))))))))))) h)) (by rfl) rfl (by rfl) (by rfl) hu1 (by cases du <;> first | rfl | exact hu2) size_term) ?_
                            (try simp only [Act.put, List.setIfInBounds_toArray, List.set_cons_zero, List.set_cons_succ])
                            refine take_at 31 67 hetMakesr6_31 (v := ?_) (Or.inl ⟨by rfl, ?_⟩) ?_
                            rotate_left 1
                            · ((intro w hSw; (try dsimp only at hSw); unfold hetMakesr6_31; go_simp) <;> with_reducible rfl)
                            (try simp only [Act.put, List.setIfInBounds_toArray, List.set_cons_zero, List.set_cons_succ])
                            refine take_at 32 68 hetMakesr6_32 (yields_part (w.heap.size) 21 32 (.tmp 67) #[.int .i64 h.h.k, .int .i64 h.h.i, .int .i64 h.h.j, .int .i64 h.h.n, (.slice ahh h.h.kids.length chh)] du (fun _ h => seesN_blk Hx1.out trivial (seesN_of (kept_trans KB57.out (kept_trans Kk73.out (kept_trans Kk102.out (kept_trans Kk130.out (kept_trans Kk133.out (kept_trans Kk142.out (kept_trans Kk150.out (kept_trans Kk153.out (kept_trans Kk182.out (kept_trans Kk210.out (kept_trans Kk213.out Kk217.out))))))))))) h)) (by rfl) rfl (by rfl) (by rfl) hu1 (by cases du <;> first | rfl | exact hu2) size_term) ?_
                            (try simp only [Act.put, List.setIfInBounds_toArray, List.set_cons_zero, List.set_cons_succ])
                            refine wpAnyH_ready (rs := [23]) (by kernel_rfl) (by simp) ?_
                            refine AllReadyH.cons (o := hetMakesr6_23) rfl (fun K hK => ?_) ?_
                            · unfold hetMakesr6_23
                              go_simp
                              refine (hof_any i h.a h.x h.y h.h (Par w V0.heap.size (w10.heap.size :: []) P) _ (.slice aha h.a.kids.length cha) (.slice ahx h.x.kids.length chx) (.slice ahy h.y.kids.length chy) (.slice ahh h.h.kids.length chh) Ri.out Gh.out.2.1 (HL58.out.later (kept_trans Kk73.out (kept_trans Kk102.out (kept_trans Kk130.out (kept_trans Kk133.out (kept_trans Kk142.out (kept_trans Kk150.out (kept_trans Kk153.out (kept_trans Kk182.out (kept_trans Kk210.out (kept_trans Kk213.out (kept_trans Kk217.out (kept_trans Kk246.out (kept_trans Kk274.out Kk277.out)))))))))))))) Gh.out.2.2.2.1 (HL60.out.later (kept_trans Kk73.out (kept_trans Kk102.out (kept_trans Kk130.out (kept_trans Kk133.out (kept_trans Kk142.out (kept_trans Kk150.out (kept_trans Kk153.out (kept_trans Kk182.out (kept_trans Kk210.out (kept_trans Kk213.out (kept_trans Kk217.out (kept_trans Kk246.out (kept_trans Kk274.out Kk277.out)))))))))))))) Gh.out.2.2.2.2.1 (HL61.out.later (kept_trans Kk73.out (kept_trans Kk102.out (kept_trans Kk130.out (kept_trans Kk133.out (kept_trans Kk142.out (kept_trans Kk150.out (kept_trans Kk153.out (kept_trans Kk182.out (kept_trans Kk210.out (kept_trans Kk213.out (kept_trans Kk217.out (kept_trans Kk246.out (kept_trans Kk274.out Kk277.out)))))))))))))) Gh.out.2.2.2.2.2 (HL62.out.later (kept_trans Kk73.out (kept_trans Kk102.out (kept_trans Kk130.out (kept_trans Kk133.out (kept_trans Kk142.out (kept_trans Kk150.out (kept_trans Kk153.out (kept_trans Kk182.out (kept_trans Kk210.out (kept_trans Kk213.out (kept_trans Kk217.out (kept_trans Kk246.out (kept_trans Kk274.out Kk277.out))))))))))))))).mono ?_
                              obtain ⟨U280, hU280⟩ : ∃ qu, heOf i h.a h.x h.y h.h = qu := ⟨_, rfl⟩
                              rw [hU280]
                              have HU280 := Lib.hid hU280
                              clear hU280
                              rintro e w278 ⟨s281, s282, s283, s284, s285, rfl, ⟨hl286, hl287, hl288, hl289, hl290⟩, k279⟩
                              obtain ⟨a291, c292, S293, rfl, -⟩ := hl286.out
                              obtain ⟨a294, c295, S296, rfl, -⟩ := hl287.out
                              obtain ⟨a297, c298, S299, rfl, -⟩ := hl288.out
                              obtain ⟨a300, c301, S302, rfl, -⟩ := hl289.out
                              obtain ⟨a303, c304, S305, rfl, -⟩ := hl290.out
                              have Kk306 := Lib.hid k279
                              clear k279
                              have Hhl286 : Hid (LiesQ w278 (Par w V0.heap.size (w10.heap.size :: []) P) U280.a.kids _) := par_give hl286 (Below.size (kept_trans KB57.out (kept_trans Kk73.out (kept_trans Kk102.out (kept_trans Kk130.out (kept_trans Kk133.out (kept_trans Kk142.out (kept_trans Kk150.out (kept_trans Kk153.out (kept_trans Kk182.out (kept_trans Kk210.out (kept_trans Kk213.out (kept_trans Kk217.out (kept_trans Kk246.out (kept_trans Kk274.out Kk277.out))))))))))))))) (xlt_later XL68.out (kept_trans Kk73.out (kept_trans Kk102.out (kept_trans Kk130.out (kept_trans Kk133.out (kept_trans Kk142.out (kept_trans Kk150.out (kept_trans Kk153.out (kept_trans Kk182.out (kept_trans Kk210.out (kept_trans Kk213.out (kept_trans Kk217.out (kept_trans Kk246.out (kept_trans Kk274.out Kk277.out))))))))))))))
                              have Hhl287 : Hid (LiesQ w278 (Par w V0.heap.size (w10.heap.size :: []) P) U280.b.kids _) := par_give hl287 (Below.size (kept_trans KB57.out (kept_trans Kk73.out (kept_trans Kk102.out (kept_trans Kk130.out (kept_trans Kk133.out (kept_trans Kk142.out (kept_trans Kk150.out (kept_trans Kk153.out (kept_trans Kk182.out (kept_trans Kk210.out (kept_trans Kk213.out (kept_trans Kk217.out (kept_trans Kk246.out (kept_trans Kk274.out Kk277.out))))))))))))))) (xlt_later XL68.out (kept_trans Kk73.out (kept_trans Kk102.out (kept_trans Kk130.out (kept_trans Kk133.out (kept_trans Kk142.out (kept_trans Kk150.out (kept_trans Kk153.out (kept_trans Kk182.out (kept_trans Kk210.out (kept_trans Kk213.out (kept_trans Kk217.out (kept_trans Kk246.out (kept_trans Kk274.out Kk277.out))))))))))))))
                              have Hhl288 : Hid (LiesQ w278 (Par w V0.heap.size (w10.heap.size :: []) P) U280.x.kids _) := par_give hl288 (Below.size (kept_trans KB57.out (kept_trans Kk73.out (kept_trans Kk102.out (kept_trans Kk130.out (kept_trans Kk133.out (kept_trans Kk142.out (kept_trans Kk150.out (kept_trans Kk153.out (kept_trans Kk182.out (kept_trans Kk210.out (kept_trans Kk213.out (kept_trans Kk217.out (kept_trans Kk246.out (kept_trans Kk274.out Kk277.out))))))))))))))) (xlt_later XL68.out (kept_trans Kk73.out (kept_trans Kk102.out (kept_trans Kk130.out (kept_trans Kk133.out (kept_trans Kk142.out (kept_trans Kk150.out (kept_trans Kk153.out (kept_trans Kk182.out (kept_trans Kk210.out (kept_trans Kk213.out (kept_trans Kk217.out (kept_trans Kk246.out (kept_trans Kk274.out Kk277.out))))))))))))))
                              have Hhl289 : Hid (LiesQ w278 (Par w V0.heap.size (w10.heap.size :: []) P) U280.y.kids _) := par_give hl289 (Below.size (kept_trans KB57.out (kept_trans Kk73.out (kept_trans Kk102.out (kept_trans Kk130.out (kept_trans Kk133.out (kept_trans Kk142.out (kept_trans Kk150.out (kept_trans Kk153.out (kept_trans Kk182.out (kept_trans Kk210.out (kept_trans Kk213.out (kept_trans Kk217.out (kept_trans Kk246.out (kept_trans Kk274.out Kk277.out))))))))))))))) (xlt_later XL68.out (kept_trans Kk73.out (kept_trans Kk102.out (kept_trans Kk130.out (kept_trans Kk133.out (kept_trans Kk142.out (kept_trans Kk150.out (kept_trans Kk153.out (kept_trans Kk182.out (kept_trans Kk210.out (kept_trans Kk213.out (kept_trans Kk217.out (kept_trans Kk246.out (kept_trans Kk274.out Kk277.out))))))))))))))
                              have Hhl290 : Hid (LiesQ w278 (Par w V0.heap.size (w10.heap.size :: []) P) U280.h.kids _) := par_give hl290 (Below.size (kept_trans KB57.out (kept_trans Kk73.out (kept_trans Kk102.out (kept_trans Kk130.out (kept_trans Kk133.out (kept_trans Kk142.out (kept_trans Kk150.out (kept_trans Kk153.out (kept_trans Kk182.out (kept_trans Kk210.out (kept_trans Kk213.out (kept_trans Kk217.out (kept_trans Kk246.out (kept_trans Kk274.out Kk277.out))))))))))))))) (xlt_later XL68.out (kept_trans Kk73.out (kept_trans Kk102.out (kept_trans Kk130.out (kept_trans Kk133.out (kept_trans Kk142.out (kept_trans Kk150.out (kept_trans Kk153.out (kept_trans Kk182.out (kept_trans Kk210.out (kept_trans Kk213.out (kept_trans Kk217.out (kept_trans Kk246.out (kept_trans Kk274.out Kk277.out))))))))))))))
                              clear hl286 hl287 hl288 hl289 hl290
                              clear hHeld
                              refine hK.out _ _ ?_ (fun hHeld => ?_)
                              · (try dsimp only)
                                exact seesN_kept _ (kept_trans Kk246.out (kept_trans Kk274.out (kept_trans Kk277.out Kk306.out)))
                              clear hK K
                              (try simp only [Act.put, List.setIfInBounds_toArray, List.set_cons_zero, List.set_cons_succ])
                              refine wpAnyH_ready (rs := [33]) (by kernel_rfl) (by simp) ?_
                              refine AllReadyH.cons (o := hetMakesr6_33) rfl (fun K hK => ?_) ?_
                              · unfold hetMakesr6_33
                                go_simp
                                refine (rOf_any i h.a h.x h.y h.h (Par w V0.heap.size (w10.heap.size :: []) P) _ (.slice aha h.a.kids.length cha) (.slice ahx h.x.kids.length chx) (.slice ahy h.y.kids.length chy) (.slice ahh h.h.kids.length chh) Ri.out Gh.out.2.1 (HL58.out.later (kept_trans Kk73.out (kept_trans Kk102.out (kept_trans Kk130.out (kept_trans Kk133.out (kept_trans Kk142.out (kept_trans Kk150.out (kept_trans Kk153.out (kept_trans Kk182.out (kept_trans Kk210.out (kept_trans Kk213.out (kept_trans Kk217.out (kept_trans Kk246.out (kept_trans Kk274.out (kept_trans Kk277.out Kk306.out))))))))))))))) Gh.out.2.2.2.1 (HL60.out.later (kept_trans Kk73.out (kept_trans Kk102.out (kept_trans Kk130.out (kept_trans Kk133.out (kept_trans Kk142.out (kept_trans Kk150.out (kept_trans Kk153.out (kept_trans Kk182.out (kept_trans Kk210.out (kept_trans Kk213.out (kept_trans Kk217.out (kept_trans Kk246.out (kept_trans Kk274.out (kept_trans Kk277.out Kk306.out))))))))))))))) Gh.out.2.2.2.2.1 (HL61.out.later (kept_trans Kk73.out (kept_trans Kk102.out (kept_trans Kk130.out (kept_trans Kk133.out (kept_trans Kk142.out (kept_trans Kk150.out (kept_trans Kk153.out (kept_trans Kk182.out (kept_trans Kk210.out (kept_trans Kk213.out (kept_trans Kk217.out (kept_trans Kk246.out (kept_trans Kk274.out (kept_trans Kk277.out Kk306.out))))))))))))))) Gh.out.2.2.2.2.2 (HL62.out.later (kept_trans Kk73.out (kept_trans Kk102.out (kept_trans Kk130.out (kept_trans Kk133.out (kept_trans Kk142.out (kept_trans Kk150.out (kept_trans Kk153.out (kept_trans Kk182.out (kept_trans Kk210.out (kept_trans Kk213.out (kept_trans Kk217.out (kept_trans Kk246.out (kept_trans Kk274.out (kept_trans Kk277.out Kk306.out)))))))))))))))).mono ?_
                                rw [HU280.out]
                                rintro e w307 ⟨s309, s310, s311, s312, s313, rfl, ⟨hl314, hl315, hl316, hl317, hl318⟩, k308⟩
                                obtain ⟨a319, c320, S321, rfl, -⟩ := hl314.out
                                obtain ⟨a322, c323, S324, rfl, -⟩ := hl315.out
                                obtain ⟨a325, c326, S327, rfl, -⟩ := hl316.out
                                obtain ⟨a328, c329, S330, rfl, -⟩ := hl317.out
                                obtain ⟨a331, c332, S333, rfl, -⟩ := hl318.out
                                have Kk334 := Lib.hid k308
                                clear k308
                                have Hhl314 : Hid (LiesQ w307 (Par w V0.heap.size (w10.heap.size :: []) P) U280.a.kids _) := par_give hl314 (Below.size (kept_trans KB57.out (kept_trans Kk73.out (kept_trans Kk102.out (kept_trans Kk130.out (kept_trans Kk133.out (kept_trans Kk142.out (kept_trans Kk150.out (kept_trans Kk153.out (kept_trans Kk182.out (kept_trans Kk210.out (kept_trans Kk213.out (kept_trans Kk217.out (kept_trans Kk246.out (kept_trans Kk274.out (kept_trans Kk277.out Kk306.out)))))))))))))))) (xlt_later XL68.out (kept_trans Kk73.out (kept_trans Kk102.out (kept_trans Kk130.out (kept_trans Kk133.out (kept_trans Kk142.out (kept_trans Kk150.out (kept_trans Kk153.out (kept_trans Kk182.out (kept_trans Kk210.out (kept_trans Kk213.out (kept_trans Kk217.out (kept_trans Kk246.out (kept_trans Kk274.out (kept_trans Kk277.out Kk306.out)))))))))))))))
                                have Hhl315 : Hid (LiesQ w307 (Par w V0.heap.size (w10.heap.size :: []) P) U280.b.kids _) := par_give hl315 (Below.size (kept_trans KB57.out (kept_trans Kk73.out (kept_trans Kk102.out (kept_trans Kk130.out (kept_trans Kk133.out (kept_trans Kk142.out (kept_trans Kk150.out (kept_trans Kk153.out (kept_trans Kk182.out (kept_trans Kk210.out (kept_trans Kk213.out (kept_trans Kk217.out (kept_trans Kk246.out (kept_trans Kk274.out (kept_trans Kk277.out Kk306.out)))))))))))))))) (xlt_later XL68.out (kept_trans Kk73.out (kept_trans Kk102.out (kept_trans Kk130.out (kept_trans Kk133.out (kept_trans Kk142.out (kept_trans Kk150.out (kept_trans Kk153.out (kept_trans Kk182.out (kept_trans Kk210.out (kept_trans Kk213.out (kept_trans Kk217.out (kept_trans Kk246.out (kept_trans Kk274.out (kept_trans Kk277.out Kk306.out)))))))))))))))
                                have Hhl316 : Hid (LiesQ w307 (Par w V0.heap.size (w10.heap.size :: []) P) U280.x.kids _) := par_give hl316 (Below.size (kept_trans KB57.out (kept_trans Kk73.out (kept_trans Kk102.out (kept_trans Kk130.out (kept_trans Kk133.out (kept_trans Kk142.out (kept_trans Kk150.out (kept_trans Kk153.out (kept_trans Kk182.out (kept_trans Kk210.out (kept_trans Kk213.out (kept_trans Kk217.out (kept_trans Kk246.out (kept_trans Kk274.out (kept_trans Kk277.out Kk306.out)))))))))))))))) (xlt_later XL68.out (kept_trans Kk73.out (kept_trans Kk102.out (kept_trans Kk130.out (kept_trans Kk133.out (kept_trans Kk142.out (kept_trans Kk150.out (kept_trans Kk153.out (kept_trans Kk182.out (kept_trans Kk210.out (kept_trans Kk213.out (kept_trans Kk217.out (kept_trans Kk246.out (kept_trans Kk274.out (kept_trans Kk277.out Kk306.out)))))))))))))))
                                have Hhl317 : Hid (LiesQ w307 (Par w V0.heap.size (w10.heap.size :: []) P) U280.y.kids _) := par_give hl317 (Below.size (kept_trans KB57.out (kept_trans Kk73.out (kept_trans Kk102.out (kept_trans Kk130.out (kept_trans Kk133.out (kept_trans Kk142.out (kept_trans Kk150.out (kept_trans Kk153.out (kept_trans Kk182.out (kept_trans Kk210.out (kept_trans Kk213.out (kept_trans Kk217.out (kept_trans Kk246.out (kept_trans Kk274.out (kept_trans Kk277.out Kk306.out)))))))))))))))) (xlt_later XL68.out (kept_trans Kk73.out (kept_trans Kk102.out (kept_trans Kk130.out (kept_trans Kk133.out (kept_trans Kk142.out (kept_trans Kk150.out (kept_trans Kk153.out (kept_trans Kk182.out (kept_trans Kk210.out (kept_trans Kk213.out (kept_trans Kk217.out (kept_trans Kk246.out (kept_trans Kk274.out (kept_trans Kk277.out Kk306.out)))))))))))))))
                                have Hhl318 : Hid (LiesQ w307 (Par w V0.heap.size (w10.heap.size :: []) P) U280.h.kids _) := par_give hl318 (Below.size (kept_trans KB57.out (kept_trans Kk73.out (kept_trans Kk102.out (kept_trans Kk130.out (kept_trans Kk133.out (kept_trans Kk142.out (kept_trans Kk150.out (kept_trans Kk153.out (kept_trans Kk182.out (kept_trans Kk210.out (kept_trans Kk213.out (kept_trans Kk217.out (kept_trans Kk246.out (kept_trans Kk274.out (kept_trans Kk277.out Kk306.out)))))))))))))))) (xlt_later XL68.out (kept_trans Kk73.out (kept_trans Kk102.out (kept_trans Kk130.out (kept_trans Kk133.out (kept_trans Kk142.out (kept_trans Kk150.out (kept_trans Kk153.out (kept_trans Kk182.out (kept_trans Kk210.out (kept_trans Kk213.out (kept_trans Kk217.out (kept_trans Kk246.out (kept_trans Kk274.out (kept_trans Kk277.out Kk306.out)))))))))))))))
                                clear hl314 hl315 hl316 hl317 hl318
                                clear hHeld
                                refine hK.out _ _ ?_ (fun hHeld => ?_)
                                · (try dsimp only)
                                  exact seesN_kept _ (kept_trans Kk246.out (kept_trans Kk274.out (kept_trans Kk277.out (kept_trans Kk306.out Kk334.out))))
                                clear hK K
                                (try simp only [Act.put, List.setIfInBounds_toArray, List.set_cons_zero, List.set_cons_succ])
                                refine wpAnyH_ready (rs := [34]) (by kernel_rfl) (by simp) ?_
                                refine AllReadyH.cons (o := hetMakesr6_34) rfl (fun K hK => ?_) ?_
                                · unfold hetMakesr6_34
                                  go_simp
                                  refine (lsame_any U280 (Par w V0.heap.size (w10.heap.size :: []) P) _ (.slice a291 U280.a.kids.length c292) (.slice a294 U280.b.kids.length c295) (.slice a297 U280.x.kids.length c298) (.slice a300 U280.y.kids.length c301) (.slice a303 U280.h.kids.length c304) (.slice a319 U280.a.kids.length c320) (.slice a322 U280.b.kids.length c323) (.slice a325 U280.x.kids.length c326) (.slice a328 U280.y.kids.length c329) (.slice a331 U280.h.kids.length c332) ⟨(Hhl286.out.later Kk334.out), (Hhl287.out.later Kk334.out), (Hhl288.out.later Kk334.out), (Hhl289.out.later Kk334.out), (Hhl290.out.later Kk334.out)⟩ ⟨Hhl314.out, Hhl315.out, Hhl316.out, Hhl317.out, Hhl318.out⟩).mono ?_
                                  rintro e w335 ⟨rfl, k336⟩
                                  have Kk337 := Lib.hid k336
                                  clear k336
                                  clear hHeld
                                  refine hK.out _ _ ?_ (fun hHeld => ?_)
                                  · (try dsimp only)
                                    exact seesN_kept _ (kept_trans Kk246.out (kept_trans Kk274.out (kept_trans Kk277.out (kept_trans Kk306.out (kept_trans Kk334.out Kk337.out)))))
                                  clear hK K
                                  (try simp only [Act.put, List.setIfInBounds_toArray, List.set_cons_zero, List.set_cons_succ])
                                  refine take_at 35 71 hetMakesr6_35 (v := ?_) (Or.inl ⟨by rfl, ?_⟩) ?_
                                  rotate_left 1
                                  · ((intro w hSw; (try dsimp only at hSw); unfold hetMakesr6_35; go_simp) <;> with_reducible rfl)
                                  (try simp only [Act.put, List.setIfInBounds_toArray, List.set_cons_zero, List.set_cons_succ])
                                  refine take_at 36 72 hetMakesr6_36 (v := ?_) (Or.inl ⟨by rfl, ?_⟩) ?_
                                  rotate_left 1
                                  · ((intro w hSw; (try dsimp only at hSw); unfold hetMakesr6_36; go_simp) <;> with_reducible rfl)
                                  (try simp only [Act.put, List.setIfInBounds_toArray, List.set_cons_zero, List.set_cons_succ])
                                  refine take_at 37 73 hetMakesr6_37 (v := ?_) (Or.inl ⟨by rfl, ?_⟩) ?_
                                  rotate_left 1
                                  · ((intro w hSw; (try dsimp only at hSw); unfold hetMakesr6_37; go_simp) <;> with_reducible rfl)
                                  (try simp only [Act.put, List.setIfInBounds_toArray, List.set_cons_zero, List.set_cons_succ])
                                  refine take_at 38 74 hetMakesr6_38 (v := ?_) (Or.inl ⟨by rfl, ?_⟩) ?_
                                  rotate_left 1
                                  · ((intro w hSw; (try dsimp only at hSw); unfold hetMakesr6_38; go_simp) <;> with_reducible rfl)
                                  (try simp only [Act.put, List.setIfInBounds_toArray, List.set_cons_zero, List.set_cons_succ])
                                  refine take_at 39 75 hetMakesr6_39 (yields_part (w.heap.size) 1 32 (.tmp 74) #[.int .i64 h.a.k, .int .i64 h.a.i, .int .i64 h.a.j, .int .i64 h.a.n, (.slice aha h.a.kids.length cha)] du (fun _ h => seesN_blk Hx1.out trivial (seesN_of (kept_trans KB57.out (kept_trans Kk73.out (kept_trans Kk102.out (kept_trans Kk130.out (kept_trans Kk133.out (kept_trans Kk142.out (kept_trans Kk150.out (kept_trans Kk153.out (kept_trans Kk182.out (kept_trans Kk210.out (kept_trans Kk213.out Kk217.out))))))))))) h)) (by rfl) rfl (by rfl) (by rfl) hu1 (by cases du <;> first | rfl | exact hu2) size_term) ?_
                                  (try simp only [Act.put, List.setIfInBounds_toArray, List.set_cons_zero, List.set_cons_succ])
                                  refine take_at 40 76 hetMakesr6_40 (v := ?_) (Or.inl ⟨by rfl, ?_⟩) ?_
                                  rotate_left 1
                                  · ((intro w hSw; (try dsimp only at hSw); unfold hetMakesr6_40; go_simp) <;> with_reducible rfl)
                                  (try simp only [Act.put, List.setIfInBounds_toArray, List.set_cons_zero, List.set_cons_succ])
                                  refine take_at 41 77 hetMakesr6_41 (yields_part (w.heap.size) 6 32 (.tmp 76) #[.int .i64 h.b.k, .int .i64 h.b.i, .int .i64 h.b.j, .int .i64 h.b.n, (.slice ahb h.b.kids.length chb)] du (fun _ h => seesN_blk Hx1.out trivial (seesN_of (kept_trans KB57.out (kept_trans Kk73.out (kept_trans Kk102.out (kept_trans Kk130.out (kept_trans Kk133.out (kept_trans Kk142.out (kept_trans Kk150.out (kept_trans Kk153.out (kept_trans Kk182.out (kept_trans Kk210.out (kept_trans Kk213.out Kk217.out))))))))))) h)) (by rfl) rfl (by rfl) (by rfl) hu1 (by cases du <;> first | rfl | exact hu2) size_term) ?_
                                  (try simp only [Act.put, List.setIfInBounds_toArray, List.set_cons_zero, List.set_cons_succ])
                                  refine take_at 42 78 hetMakesr6_42 (v := ?_) (Or.inl ⟨by rfl, ?_⟩) ?_
                                  rotate_left 1
                                  · ((intro w hSw; (try dsimp only at hSw); unfold hetMakesr6_42; go_simp) <;> with_reducible rfl)
                                  (try simp only [Act.put, List.setIfInBounds_toArray, List.set_cons_zero, List.set_cons_succ])
                                  refine take_at 43 79 hetMakesr6_43 (yields_part (w.heap.size) 21 32 (.tmp 78) #[.int .i64 h.h.k, .int .i64 h.h.i, .int .i64 h.h.j, .int .i64 h.h.n, (.slice ahh h.h.kids.length chh)] du (fun _ h => seesN_blk Hx1.out trivial (seesN_of (kept_trans KB57.out (kept_trans Kk73.out (kept_trans Kk102.out (kept_trans Kk130.out (kept_trans Kk133.out (kept_trans Kk142.out (kept_trans Kk150.out (kept_trans Kk153.out (kept_trans Kk182.out (kept_trans Kk210.out (kept_trans Kk213.out Kk217.out))))))))))) h)) (by rfl) rfl (by rfl) (by rfl) hu1 (by cases du <;> first | rfl | exact hu2) size_term) ?_
                                  (try simp only [Act.put, List.setIfInBounds_toArray, List.set_cons_zero, List.set_cons_succ])
                                  refine take_at 44 80 hetMakesr6_44 (v := ?_) (Or.inl ⟨by rfl, ?_⟩) ?_
                                  rotate_left 1
                                  · ((intro w hSw; (try dsimp only at hSw); unfold hetMakesr6_44; go_simp) <;> with_reducible rfl)
                                  (try simp only [Act.put, List.setIfInBounds_toArray, List.set_cons_zero, List.set_cons_succ])
                                  refine take_at 45 81 hetMakesr6_45 (yields_part (w.heap.size) 11 32 (.tmp 80) #[.int .i64 h.x.k, .int .i64 h.x.i, .int .i64 h.x.j, .int .i64 h.x.n, (.slice ahx h.x.kids.length chx)] du (fun _ h => seesN_blk Hx1.out trivial (seesN_of (kept_trans KB57.out (kept_trans Kk73.out (kept_trans Kk102.out (kept_trans Kk130.out (kept_trans Kk133.out (kept_trans Kk142.out (kept_trans Kk150.out (kept_trans Kk153.out (kept_trans Kk182.out (kept_trans Kk210.out (kept_trans Kk213.out Kk217.out))))))))))) h)) (by rfl) rfl (by rfl) (by rfl) hu1 (by cases du <;> first | rfl | exact hu2) size_term) ?_
                                  (try simp only [Act.put, List.setIfInBounds_toArray, List.set_cons_zero, List.set_cons_succ])
                                  refine take_at 47 83 hetMakesr6_47 (v := ?_) (Or.inl ⟨by rfl, ?_⟩) ?_
                                  rotate_left 1
                                  · ((intro w hSw; (try dsimp only at hSw); unfold hetMakesr6_47; go_simp) <;> with_reducible rfl)
                                  (try simp only [Act.put, List.setIfInBounds_toArray, List.set_cons_zero, List.set_cons_succ])
                                  refine take_at 48 84 hetMakesr6_48 (v := ?_) (Or.inl ⟨by rfl, ?_⟩) ?_
                                  rotate_left 1
                                  · ((intro w hSw; (try dsimp only at hSw); unfold hetMakesr6_48; go_simp) <;> with_reducible rfl)
                                  (try simp only [Act.put, List.setIfInBounds_toArray, List.set_cons_zero, List.set_cons_succ])
                                  refine take_at 49 85 hetMakesr6_49 (yields_part (w.heap.size) 1 32 (.tmp 84) #[.int .i64 h.a.k, .int .i64 h.a.i, .int .i64 h.a.j, .int .i64 h.a.n, (.slice aha h.a.kids.length cha)] du (fun _ h => seesN_blk Hx1.out trivial (seesN_of (kept_trans KB57.out (kept_trans Kk73.out (kept_trans Kk102.out (kept_trans Kk130.out (kept_trans Kk133.out (kept_trans Kk142.out (kept_trans Kk150.out (kept_trans Kk153.out (kept_trans Kk182.out (kept_trans Kk210.out (kept_trans Kk213.out Kk217.out))))))))))) h)) (by rfl) rfl (by rfl) (by rfl) hu1 (by cases du <;> first | rfl | exact hu2) size_term) ?_
                                  (try simp only [Act.put, List.setIfInBounds_toArray, List.set_cons_zero, List.set_cons_succ])
                                  refine take_at 50 86 hetMakesr6_50 (v := ?_) (Or.inl ⟨by rfl, ?_⟩) ?_
                                  rotate_left 1
                                  · ((intro w hSw; (try dsimp only at hSw); unfold hetMakesr6_50; go_simp) <;> with_reducible rfl)
                                  (try simp only [Act.put, List.setIfInBounds_toArray, List.set_cons_zero, List.set_cons_succ])
                                  refine take_at 51 87 hetMakesr6_51 (yields_part (w.heap.size) 6 32 (.tmp 86) #[.int .i64 h.b.k, .int .i64 h.b.i, .int .i64 h.b.j, .int .i64 h.b.n, (.slice ahb h.b.kids.length chb)] du (fun _ h => seesN_blk Hx1.out trivial (seesN_of (kept_trans KB57.out (kept_trans Kk73.out (kept_trans Kk102.out (kept_trans Kk130.out (kept_trans Kk133.out (kept_trans Kk142.out (kept_trans Kk150.out (kept_trans Kk153.out (kept_trans Kk182.out (kept_trans Kk210.out (kept_trans Kk213.out Kk217.out))))))))))) h)) (by rfl) rfl (by rfl) (by rfl) hu1 (by cases du <;> first | rfl | exact hu2) size_term) ?_
                                  (try simp only [Act.put, List.setIfInBounds_toArray, List.set_cons_zero, List.set_cons_succ])
                                  refine take_at 52 88 hetMakesr6_52 (v := ?_) (Or.inl ⟨by rfl, ?_⟩) ?_
                                  rotate_left 1
                                  · ((intro w hSw; (try dsimp only at hSw); unfold hetMakesr6_52; go_simp) <;> with_reducible rfl)
                                  (try simp only [Act.put, List.setIfInBounds_toArray, List.set_cons_zero, List.set_cons_succ])
                                  refine take_at 53 89 hetMakesr6_53 (yields_part (w.heap.size) 21 32 (.tmp 88) #[.int .i64 h.h.k, .int .i64 h.h.i, .int .i64 h.h.j, .int .i64 h.h.n, (.slice ahh h.h.kids.length chh)] du (fun _ h => seesN_blk Hx1.out trivial (seesN_of (kept_trans KB57.out (kept_trans Kk73.out (kept_trans Kk102.out (kept_trans Kk130.out (kept_trans Kk133.out (kept_trans Kk142.out (kept_trans Kk150.out (kept_trans Kk153.out (kept_trans Kk182.out (kept_trans Kk210.out (kept_trans Kk213.out Kk217.out))))))))))) h)) (by rfl) rfl (by rfl) (by rfl) hu1 (by cases du <;> first | rfl | exact hu2) size_term) ?_
                                  (try simp only [Act.put, List.setIfInBounds_toArray, List.set_cons_zero, List.set_cons_succ])
                                  refine take_at 54 90 hetMakesr6_54 (v := ?_) (Or.inl ⟨by rfl, ?_⟩) ?_
                                  rotate_left 1
                                  · ((intro w hSw; (try dsimp only at hSw); unfold hetMakesr6_54; go_simp) <;> with_reducible rfl)
                                  (try simp only [Act.put, List.setIfInBounds_toArray, List.set_cons_zero, List.set_cons_succ])
                                  refine take_at 55 91 hetMakesr6_55 (yields_part (w.heap.size) 11 32 (.tmp 90) #[.int .i64 h.x.k, .int .i64 h.x.i, .int .i64 h.x.j, .int .i64 h.x.n, (.slice ahx h.x.kids.length chx)] du (fun _ h => seesN_blk Hx1.out trivial (seesN_of (kept_trans KB57.out (kept_trans Kk73.out (kept_trans Kk102.out (kept_trans Kk130.out (kept_trans Kk133.out (kept_trans Kk142.out (kept_trans Kk150.out (kept_trans Kk153.out (kept_trans Kk182.out (kept_trans Kk210.out (kept_trans Kk213.out Kk217.out))))))))))) h)) (by rfl) rfl (by rfl) (by rfl) hu1 (by cases du <;> first | rfl | exact hu2) size_term) ?_
                                  (try simp only [Act.put, List.setIfInBounds_toArray, List.set_cons_zero, List.set_cons_succ])
                                  refine wpAnyH_ready (rs := [46]) (by kernel_rfl) (by simp) ?_
                                  refine AllReadyH.cons (o := hetMakesr6_46) rfl (fun K hK => ?_) ?_
                                  · unfold hetMakesr6_46
                                    go_simp
                                    refine (hmoved_any i h.a h.b h.h h.x (Par w V0.heap.size (w10.heap.size :: []) P) _ (.slice aha h.a.kids.length cha) (.slice ahb h.b.kids.length chb) (.slice ahh h.h.kids.length chh) (.slice ahx h.x.kids.length chx) Ri.out Gh.out.2.1 (HL58.out.later (kept_trans Kk73.out (kept_trans Kk102.out (kept_trans Kk130.out (kept_trans Kk133.out (kept_trans Kk142.out (kept_trans Kk150.out (kept_trans Kk153.out (kept_trans Kk182.out (kept_trans Kk210.out (kept_trans Kk213.out (kept_trans Kk217.out (kept_trans Kk246.out (kept_trans Kk274.out (kept_trans Kk277.out (kept_trans Kk306.out (kept_trans Kk334.out Kk337.out))))))))))))))))) Gh.out.2.2.1 (HL59.out.later (kept_trans Kk73.out (kept_trans Kk102.out (kept_trans Kk130.out (kept_trans Kk133.out (kept_trans Kk142.out (kept_trans Kk150.out (kept_trans Kk153.out (kept_trans Kk182.out (kept_trans Kk210.out (kept_trans Kk213.out (kept_trans Kk217.out (kept_trans Kk246.out (kept_trans Kk274.out (kept_trans Kk277.out (kept_trans Kk306.out (kept_trans Kk334.out Kk337.out))))))))))))))))) Gh.out.2.2.2.2.2 (HL62.out.later (kept_trans Kk73.out (kept_trans Kk102.out (kept_trans Kk130.out (kept_trans Kk133.out (kept_trans Kk142.out (kept_trans Kk150.out (kept_trans Kk153.out (kept_trans Kk182.out (kept_trans Kk210.out (kept_trans Kk213.out (kept_trans Kk217.out (kept_trans Kk246.out (kept_trans Kk274.out (kept_trans Kk277.out (kept_trans Kk306.out (kept_trans Kk334.out Kk337.out))))))))))))))))) Gh.out.2.2.2.1 (HL60.out.later (kept_trans Kk73.out (kept_trans Kk102.out (kept_trans Kk130.out (kept_trans Kk133.out (kept_trans Kk142.out (kept_trans Kk150.out (kept_trans Kk153.out (kept_trans Kk182.out (kept_trans Kk210.out (kept_trans Kk213.out (kept_trans Kk217.out (kept_trans Kk246.out (kept_trans Kk274.out (kept_trans Kk277.out (kept_trans Kk306.out (kept_trans Kk334.out Kk337.out)))))))))))))))))).mono ?_
                                    obtain ⟨U340, hU340⟩ : ∃ qu, heMoved i h.a h.b h.h h.x = qu := ⟨_, rfl⟩
                                    rw [hU340]
                                    have HU340 := Lib.hid hU340
                                    clear hU340
                                    rintro e w338 ⟨s341, s342, s343, s344, s345, rfl, ⟨hl346, hl347, hl348, hl349, hl350⟩, k339⟩
                                    obtain ⟨a351, c352, S353, rfl, -⟩ := hl346.out
                                    obtain ⟨a354, c355, S356, rfl, -⟩ := hl347.out
                                    obtain ⟨a357, c358, S359, rfl, -⟩ := hl348.out
                                    obtain ⟨a360, c361, S362, rfl, -⟩ := hl349.out
                                    obtain ⟨a363, c364, S365, rfl, -⟩ := hl350.out
                                    have Kk366 := Lib.hid k339
                                    clear k339
                                    have Hhl346 : Hid (LiesQ w338 (Par w V0.heap.size (w10.heap.size :: []) P) U340.a.kids _) := par_give hl346 (Below.size (kept_trans KB57.out (kept_trans Kk73.out (kept_trans Kk102.out (kept_trans Kk130.out (kept_trans Kk133.out (kept_trans Kk142.out (kept_trans Kk150.out (kept_trans Kk153.out (kept_trans Kk182.out (kept_trans Kk210.out (kept_trans Kk213.out (kept_trans Kk217.out (kept_trans Kk246.out (kept_trans Kk274.out (kept_trans Kk277.out (kept_trans Kk306.out (kept_trans Kk334.out Kk337.out)))))))))))))))))) (xlt_later XL68.out (kept_trans Kk73.out (kept_trans Kk102.out (kept_trans Kk130.out (kept_trans Kk133.out (kept_trans Kk142.out (kept_trans Kk150.out (kept_trans Kk153.out (kept_trans Kk182.out (kept_trans Kk210.out (kept_trans Kk213.out (kept_trans Kk217.out (kept_trans Kk246.out (kept_trans Kk274.out (kept_trans Kk277.out (kept_trans Kk306.out (kept_trans Kk334.out Kk337.out)))))))))))))))))
                                    have Hhl347 : Hid (LiesQ w338 (Par w V0.heap.size (w10.heap.size :: []) P) U340.b.kids _) := par_give hl347 (Below.size (kept_trans KB57.out (kept_trans Kk73.out (kept_trans Kk102.out (kept_trans Kk130.out (kept_trans Kk133.out (kept_trans Kk142.out (kept_trans Kk150.out (kept_trans Kk153.out (kept_trans Kk182.out (kept_trans Kk210.out (kept_trans Kk213.out (kept_trans Kk217.out (kept_trans Kk246.out (kept_trans Kk274.out (kept_trans Kk277.out (kept_trans Kk306.out (kept_trans Kk334.out Kk337.out)))))))))))))))))) (xlt_later XL68.out (kept_trans Kk73.out (kept_trans Kk102.out (kept_trans Kk130.out (kept_trans Kk133.out (kept_trans Kk142.out (kept_trans Kk150.out (kept_trans Kk153.out (kept_trans Kk182.out (kept_trans Kk210.out (kept_trans Kk213.out (kept_trans Kk217.out (kept_trans Kk246.out (kept_trans Kk274.out (kept_trans Kk277.out (kept_trans Kk306.out (kept_trans Kk334.out Kk337.out)))))))))))))))))
                                    have Hhl348 : Hid (LiesQ w338 (Par w V0.heap.size (w10.heap.size :: []) P) U340.x.kids _) := par_give hl348 (Below.size (kept_trans KB57.out (kept_trans Kk73.out (kept_trans Kk102.out (kept_trans Kk130.out (kept_trans Kk133.out (kept_trans Kk142.out (kept_trans Kk150.out (kept_trans Kk153.out (kept_trans Kk182.out (kept_trans Kk210.out (kept_trans Kk213.out (kept_trans Kk217.out (kept_trans Kk246.out (kept_trans Kk274.out (kept_trans Kk277.out (kept_trans Kk306.out (kept_trans Kk334.out Kk337.out)))))))))))))))))) (xlt_later XL68.out (kept_trans Kk73.out (kept_trans Kk102.out (kept_trans Kk130.out (kept_trans Kk133.out (kept_trans Kk142.out (kept_trans Kk150.out (kept_trans Kk153.out (kept_trans Kk182.out (kept_trans Kk210.out (kept_trans Kk213.out (kept_trans Kk217.out (kept_trans Kk246.out (kept_trans Kk274.out (kept_trans Kk277.out (kept_trans Kk306.out (kept_trans Kk334.out Kk337.out)))))))))))))))))
                                    have Hhl349 : Hid (LiesQ w338 (Par w V0.heap.size (w10.heap.size :: []) P) U340.y.kids _) := par_give hl349 (Below.size (kept_trans KB57.out (kept_trans Kk73.out (kept_trans Kk102.out (kept_trans Kk130.out (kept_trans Kk133.out (kept_trans Kk142.out (kept_trans Kk150.out (kept_trans Kk153.out (kept_trans Kk182.out (kept_trans Kk210.out (kept_trans Kk213.out (kept_trans Kk217.out (kept_trans Kk246.out (kept_trans Kk274.out (kept_trans Kk277.out (kept_trans Kk306.out (kept_trans Kk334.out Kk337.out)))))))))))))))))) (xlt_later XL68.out (kept_trans Kk73.out (kept_trans Kk102.out (kept_trans Kk130.out (kept_trans Kk133.out (kept_trans Kk142.out (kept_trans Kk150.out (kept_trans Kk153.out (kept_trans Kk182.out (kept_trans Kk210.out (kept_trans Kk213.out (kept_trans Kk217.out (kept_trans Kk246.out (kept_trans Kk274.out (kept_trans Kk277.out (kept_trans Kk306.out (kept_trans Kk334.out Kk337.out)))))))))))))))))
                                    have Hhl350 : Hid (LiesQ w338 (Par w V0.heap.size (w10.heap.size :: []) P) U340.h.kids _) := par_give hl350 (Below.size (kept_trans KB57.out (kept_trans Kk73.out (kept_trans Kk102.out (kept_trans Kk130.out (kept_trans Kk133.out (kept_trans Kk142.out (kept_trans Kk150.out (kept_trans Kk153.out (kept_trans Kk182.out (kept_trans Kk210.out (kept_trans Kk213.out (kept_trans Kk217.out (kept_trans Kk246.out (kept_trans Kk274.out (kept_trans Kk277.out (kept_trans Kk306.out (kept_trans Kk334.out Kk337.out)))))))))))))))))) (xlt_later XL68.out (kept_trans Kk73.out (kept_trans Kk102.out (kept_trans Kk130.out (kept_trans Kk133.out (kept_trans Kk142.out (kept_trans Kk150.out (kept_trans Kk153.out (kept_trans Kk182.out (kept_trans Kk210.out (kept_trans Kk213.out (kept_trans Kk217.out (kept_trans Kk246.out (kept_trans Kk274.out (kept_trans Kk277.out (kept_trans Kk306.out (kept_trans Kk334.out Kk337.out)))))))))))))))))
                                    clear hl346 hl347 hl348 hl349 hl350
                                    clear hHeld
                                    refine hK.out _ _ ?_ (fun hHeld => ?_)
                                    · (try dsimp only)
                                      exact seesN_kept _ (kept_trans Kk246.out (kept_trans Kk274.out (kept_trans Kk277.out (kept_trans Kk306.out (kept_trans Kk334.out (kept_trans Kk337.out Kk366.out))))))
                                    clear hK K
                                    (try simp only [Act.put, List.setIfInBounds_toArray, List.set_cons_zero, List.set_cons_succ])
                                    refine wpAnyH_ready (rs := [56]) (by kernel_rfl) (by simp) ?_
                                    refine AllReadyH.cons (o := hetMakesr6_56) rfl (fun K hK => ?_) ?_
                                    · unfold hetMakesr6_56
                                      go_simp
                                      refine (rMoved_any i h.a h.b h.h h.x (Par w V0.heap.size (w10.heap.size :: []) P) _ (.slice aha h.a.kids.length cha) (.slice ahb h.b.kids.length chb) (.slice ahh h.h.kids.length chh) (.slice ahx h.x.kids.length chx) Ri.out Gh.out.2.1 (HL58.out.later (kept_trans Kk73.out (kept_trans Kk102.out (kept_trans Kk130.out (kept_trans Kk133.out (kept_trans Kk142.out (kept_trans Kk150.out (kept_trans Kk153.out (kept_trans Kk182.out (kept_trans Kk210.out (kept_trans Kk213.out (kept_trans Kk217.out (kept_trans Kk246.out (kept_trans Kk274.out (kept_trans Kk277.out (kept_trans Kk306.out (kept_trans Kk334.out (kept_trans Kk337.out Kk366.out)))))))))))))))))) Gh.out.2.2.1 (HL59.out.later (kept_trans Kk73.out (kept_trans Kk102.out (kept_trans Kk130.out (kept_trans Kk133.out (kept_trans Kk142.out (kept_trans Kk150.out (kept_trans Kk153.out (kept_trans Kk182.out (kept_trans Kk210.out (kept_trans Kk213.out (kept_trans Kk217.out (kept_trans Kk246.out (kept_trans Kk274.out (kept_trans Kk277.out (kept_trans Kk306.out (kept_trans Kk334.out (kept_trans Kk337.out Kk366.out)))))))))))))))))) Gh.out.2.2.2.2.2 (HL62.out.later (kept_trans Kk73.out (kept_trans Kk102.out (kept_trans Kk130.out (kept_trans Kk133.out (kept_trans Kk142.out (kept_trans Kk150.out (kept_trans Kk153.out (kept_trans Kk182.out (kept_trans Kk210.out (kept_trans Kk213.out (kept_trans Kk217.out (kept_trans Kk246.out (kept_trans Kk274.out (kept_trans Kk277.out (kept_trans Kk306.out (kept_trans Kk334.out (kept_trans Kk337.out Kk366.out)))))))))))))))))) Gh.out.2.2.2.1 (HL60.out.later (kept_trans Kk73.out (kept_trans Kk102.out (kept_trans Kk130.out (kept_trans Kk133.out (kept_trans Kk142.out (kept_trans Kk150.out (kept_trans Kk153.out (kept_trans Kk182.out (kept_trans Kk210.out (kept_trans Kk213.out (kept_trans Kk217.out (kept_trans Kk246.out (kept_trans Kk274.out (kept_trans Kk277.out (kept_trans Kk306.out (kept_trans Kk334.out (kept_trans Kk337.out Kk366.out))))))))))))))))))).mono ?_
                                      rw [HU340.out]
                                      rintro e w367 ⟨s369, s370, s371, s372, s373, rfl, ⟨hl374, hl375, hl376, hl377, hl378⟩, k368⟩
                                      obtain ⟨a379, c380, S381, rfl, -⟩ := hl374.out
                                      obtain ⟨a382, c383, S384, rfl, -⟩ := hl375.out
                                      obtain ⟨a385, c386, S387, rfl, -⟩ := hl376.out
                                      obtain ⟨a388, c389, S390, rfl, -⟩ := hl377.out
                                      obtain ⟨a391, c392, S393, rfl, -⟩ := hl378.out
                                      have Kk394 := Lib.hid k368
                                      clear k368
                                      have Hhl374 : Hid (LiesQ w367 (Par w V0.heap.size (w10.heap.size :: []) P) U340.a.kids _) := par_give hl374 (Below.size (kept_trans KB57.out (kept_trans Kk73.out (kept_trans Kk102.out (kept_trans Kk130.out (kept_trans Kk133.out (kept_trans Kk142.out (kept_trans Kk150.out (kept_trans Kk153.out (kept_trans Kk182.out (kept_trans Kk210.out (kept_trans Kk213.out (kept_trans Kk217.out (kept_trans Kk246.out (kept_trans Kk274.out (kept_trans Kk277.out (kept_trans Kk306.out (kept_trans Kk334.out (kept_trans Kk337.out Kk366.out))))))))))))))))))) (xlt_later XL68.out (kept_trans Kk73.out (kept_trans Kk102.out (kept_trans Kk130.out (kept_trans Kk133.out (kept_trans Kk142.out (kept_trans Kk150.out (kept_trans Kk153.out (kept_trans Kk182.out (kept_trans Kk210.out (kept_trans Kk213.out (kept_trans Kk217.out (kept_trans Kk246.out (kept_trans Kk274.out (kept_trans Kk277.out (kept_trans Kk306.out (kept_trans Kk334.out (kept_trans Kk337.out Kk366.out))))))))))))))))))
                                      have Hhl375 : Hid (LiesQ w367 (Par w V0.heap.size (w10.heap.size :: []) P) U340.b.kids _) := par_give hl375 (Below.size (kept_trans KB57.out (kept_trans Kk73.out (kept_trans Kk102.out (kept_trans Kk130.out (kept_trans Kk133.out (kept_trans Kk142.out (kept_trans Kk150.out (kept_trans Kk153.out (kept_trans Kk182.out (kept_trans Kk210.out (kept_trans Kk213.out (kept_trans Kk217.out (kept_trans Kk246.out (kept_trans Kk274.out (kept_trans Kk277.out (kept_trans Kk306.out (kept_trans Kk334.out (kept_trans Kk337.out Kk366.out))))))))))))))))))) (xlt_later XL68.out (kept_trans Kk73.out (kept_trans Kk102.out (kept_trans Kk130.out (kept_trans Kk133.out (kept_trans Kk142.out (kept_trans Kk150.out (kept_trans Kk153.out (kept_trans Kk182.out (kept_trans Kk210.out (kept_trans Kk213.out (kept_trans Kk217.out (kept_trans Kk246.out (kept_trans Kk274.out (kept_trans Kk277.out (kept_trans Kk306.out (kept_trans Kk334.out (kept_trans Kk337.out Kk366.out))))))))))))))))))
                                      have Hhl376 : Hid (LiesQ w367 (Par w V0.heap.size (w10.heap.size :: []) P) U340.x.kids _) := par_give hl376 (Below.size (kept_trans KB57.out (kept_trans Kk73.out (kept_trans Kk102.out (kept_trans Kk130.out (kept_trans Kk133.out (kept_trans Kk142.out (kept_trans Kk150.out (kept_trans Kk153.out (kept_trans Kk182.out (kept_trans Kk210.out (kept_trans Kk213.out (kept_trans Kk217.out (kept_trans Kk246.out (kept_trans Kk274.out (kept_trans Kk277.out (kept_trans Kk306.out (kept_trans Kk334.out (kept_trans Kk337.out Kk366.out))))))))))))))))))) (xlt_later XL68.out (kept_trans Kk73.out (kept_trans Kk102.out (kept_trans Kk130.out (kept_trans Kk133.out (kept_trans Kk142.out (kept_trans Kk150.out (kept_trans Kk153.out (kept_trans Kk182.out (kept_trans Kk210.out (kept_trans Kk213.out (kept_trans Kk217.out (kept_trans Kk246.out (kept_trans Kk274.out (kept_trans Kk277.out (kept_trans Kk306.out (kept_trans Kk334.out (kept_trans Kk337.out Kk366.out))))))))))))))))))
                                      have Hhl377 : Hid (LiesQ w367 (Par w V0.heap.size (w10.heap.size :: []) P) U340.y.kids _) := par_give hl377 (Below.size (kept_trans KB57.out (kept_trans Kk73.out (kept_trans Kk102.out (kept_trans Kk130.out (kept_trans Kk133.out (kept_trans Kk142.out (kept_trans Kk150.out (kept_trans Kk153.out (kept_trans Kk182.out (kept_trans Kk210.out (kept_trans Kk213.out (kept_trans Kk217.out (kept_trans Kk246.out (kept_trans Kk274.out (kept_trans Kk277.out (kept_trans Kk306.out (kept_trans Kk334.out (kept_trans Kk337.out Kk366.out))))))))))))))))))) (xlt_later XL68.out (kept_trans Kk73.out (kept_trans Kk102.out (kept_trans Kk130.out (kept_trans Kk133.out (kept_trans Kk142.out (kept_trans Kk150.out (kept_trans Kk153.out (kept_trans Kk182.out (kept_trans Kk210.out (kept_trans Kk213.out (kept_trans Kk217.out (kept_trans Kk246.out (kept_trans Kk274.out (kept_trans Kk277.out (kept_trans Kk306.out (kept_trans Kk334.out (kept_trans Kk337.out Kk366.out))))))))))))))))))
                                      have Hhl378 : Hid (LiesQ w367 (Par w V0.heap.size (w10.heap.size :: []) P) U340.h.kids _) := par_give hl378 (Below.size (kept_trans KB57.out (kept_trans Kk73.out (kept_trans Kk102.out (kept_trans Kk130.out (kept_trans Kk133.out (kept_trans Kk142.out (kept_trans Kk150.out (kept_trans Kk153.out (kept_trans Kk182.out (kept_trans Kk210.out (kept_trans Kk213.out (kept_trans Kk217.out (kept_trans Kk246.out (kept_trans Kk274.out (kept_trans Kk277.out (kept_trans Kk306.out (kept_trans Kk334.out (kept_trans Kk337.out Kk366.out))))))))))))))))))) (xlt_later XL68.out (kept_trans Kk73.out (kept_trans Kk102.out (kept_trans Kk130.out (kept_trans Kk133.out (kept_trans Kk142.out (kept_trans Kk150.out (kept_trans Kk153.out (kept_trans Kk182.out (kept_trans Kk210.out (kept_trans Kk213.out (kept_trans Kk217.out (kept_trans Kk246.out (kept_trans Kk274.out (kept_trans Kk277.out (kept_trans Kk306.out (kept_trans Kk334.out (kept_trans Kk337.out Kk366.out))))))))))))))))))
                                      clear hl374 hl375 hl376 hl377 hl378
                                      clear hHeld
                                      refine hK.out _ _ ?_ (fun hHeld => ?_)
                                      · (try dsimp only)
                                        exact seesN_kept _ (kept_trans Kk246.out (kept_trans Kk274.out (kept_trans Kk277.out (kept_trans Kk306.out (kept_trans Kk334.out (kept_trans Kk337.out (kept_trans Kk366.out Kk394.out)))))))
                                      clear hK K
                                      (try simp only [Act.put, List.setIfInBounds_toArray, List.set_cons_zero, List.set_cons_succ])
                                      refine wpAnyH_ready (rs := [57]) (by kernel_rfl) (by simp) ?_
                                      refine AllReadyH.cons (o := hetMakesr6_57) rfl (fun K hK => ?_) ?_
                                      · unfold hetMakesr6_57
                                        go_simp
                                        refine (lsame_any U340 (Par w V0.heap.size (w10.heap.size :: []) P) _ (.slice a351 U340.a.kids.length c352) (.slice a354 U340.b.kids.length c355) (.slice a357 U340.x.kids.length c358) (.slice a360 U340.y.kids.length c361) (.slice a363 U340.h.kids.length c364) (.slice a379 U340.a.kids.length c380) (.slice a382 U340.b.kids.length c383) (.slice a385 U340.x.kids.length c386) (.slice a388 U340.y.kids.length c389) (.slice a391 U340.h.kids.length c392) ⟨(Hhl346.out.later Kk394.out), (Hhl347.out.later Kk394.out), (Hhl348.out.later Kk394.out), (Hhl349.out.later Kk394.out), (Hhl350.out.later Kk394.out)⟩ ⟨Hhl374.out, Hhl375.out, Hhl376.out, Hhl377.out, Hhl378.out⟩).mono ?_
                                        rintro e w395 ⟨rfl, k396⟩
                                        have Kk397 := Lib.hid k396
                                        clear k396
                                        clear hHeld
                                        refine hK.out _ _ ?_ (fun hHeld => ?_)
                                        · (try dsimp only)
                                          exact seesN_kept _ (kept_trans Kk246.out (kept_trans Kk274.out (kept_trans Kk277.out (kept_trans Kk306.out (kept_trans Kk334.out (kept_trans Kk337.out (kept_trans Kk366.out (kept_trans Kk394.out Kk397.out))))))))
                                        clear hK K
                                        (try simp only [Act.put, List.setIfInBounds_toArray, List.set_cons_zero, List.set_cons_succ])
                                        refine take_at 58 94 hetMakesr6_58 (v := ?_) (Or.inl ⟨by rfl, ?_⟩) ?_
                                        rotate_left 1
                                        · ((intro w hSw; (try dsimp only at hSw); unfold hetMakesr6_58; go_simp) <;> with_reducible rfl)
                                        (try simp only [Act.put, List.setIfInBounds_toArray, List.set_cons_zero, List.set_cons_succ])
                                        refine take_at 59 95 hetMakesr6_59 (v := ?_) (Or.inl ⟨by rfl, ?_⟩) ?_
                                        rotate_left 1
                                        · ((intro w hSw; (try dsimp only at hSw); unfold hetMakesr6_59; go_simp) <;> with_reducible rfl)
                                        (try simp only [Act.put, List.setIfInBounds_toArray, List.set_cons_zero, List.set_cons_succ])
                                        refine wpAnyH_ready (rs := [60]) (by kernel_rfl) (by simp) ?_
                                        refine AllReadyH.cons (o := hetMakesr6_60) rfl (fun K hK => ?_) ?_
                                        · unfold hetMakesr6_60
                                          go_simp
                                          refine (wakes23_any _).mono ?_
                                          rintro e w398 ⟨rfl, k399⟩
                                          have Kk400 := Lib.hid k399
                                          clear k399
                                          clear hHeld
                                          refine hK.out _ _ ?_ (fun hHeld => ?_)
                                          · (try dsimp only)
                                            exact seesN_kept _ (kept_trans Kk246.out (kept_trans Kk274.out (kept_trans Kk277.out (kept_trans Kk306.out (kept_trans Kk334.out (kept_trans Kk337.out (kept_trans Kk366.out (kept_trans Kk394.out (kept_trans Kk397.out Kk400.out)))))))))
                                          clear hK K
                                          (try simp only [Act.put, List.setIfInBounds_toArray, List.set_cons_zero, List.set_cons_succ])
                                          refine take_at 61 97 hetMakesr6_61 (v := ?_) (Or.inl ⟨by rfl, ?_⟩) ?_
                                          rotate_left 1
                                          · ((intro w hSw; (try dsimp only at hSw); unfold hetMakesr6_61; go_simp) <;> with_reducible rfl)
                                          (try simp only [Act.put, List.setIfInBounds_toArray, List.set_cons_zero, List.set_cons_succ])
                                          refine take_at 62 6 hetMakesr6_62 (v := ?_) (Or.inl ⟨by rfl, ?_⟩) ?_
                                          rotate_left 1
                                          · ((intro w hSw; (try dsimp only at hSw); unfold hetMakesr6_62; go_simp) <;> with_reducible rfl)
                                          (try simp only [Act.put, List.setIfInBounds_toArray, List.set_cons_zero, List.set_cons_succ])
                                          refine wpAnyH_done (by kernel_rfl) ?_ _
                                          clear hHeld
                                          have kvV0 : SeesN V0 V0.heap.size w398 := seesN_kept _ (kept_trans KB57.out (kept_trans Kk73.out (kept_trans Kk102.out (kept_trans Kk130.out (kept_trans Kk133.out (kept_trans Kk142.out (kept_trans Kk150.out (kept_trans Kk153.out (kept_trans Kk182.out (kept_trans Kk210.out (kept_trans Kk213.out (kept_trans Kk217.out (kept_trans Kk246.out (kept_trans Kk274.out (kept_trans Kk277.out (kept_trans Kk306.out (kept_trans Kk334.out (kept_trans Kk337.out (kept_trans Kk366.out (kept_trans Kk394.out (kept_trans Kk397.out Kk400.out)))))))))))))))))))))
                                          have kvW39 : SeesN W39 V0.heap.size w398 := seesN_kept _ (kept_trans Kk73.out (kept_trans Kk102.out (kept_trans Kk130.out (kept_trans Kk133.out (kept_trans Kk142.out (kept_trans Kk150.out (kept_trans Kk153.out (kept_trans Kk182.out (kept_trans Kk210.out (kept_trans Kk213.out (kept_trans Kk217.out (kept_trans Kk246.out (kept_trans Kk274.out (kept_trans Kk277.out (kept_trans Kk306.out (kept_trans Kk334.out (kept_trans Kk337.out (kept_trans Kk366.out (kept_trans Kk394.out (kept_trans Kk397.out Kk400.out))))))))))))))))))))
                                          go_wp2
                                          go_ret
                                          exact ⟨rfl, (kept_trans KB56.out (kept_trans Kk73.out (kept_trans Kk102.out (kept_trans Kk130.out (kept_trans Kk133.out (kept_trans Kk142.out (kept_trans Kk150.out (kept_trans Kk153.out (kept_trans Kk182.out (kept_trans Kk210.out (kept_trans Kk213.out (kept_trans Kk217.out (kept_trans Kk246.out (kept_trans Kk274.out (kept_trans Kk277.out (kept_trans Kk306.out (kept_trans Kk334.out (kept_trans Kk337.out (kept_trans Kk366.out (kept_trans Kk394.out (kept_trans Kk397.out Kk400.out)))))))))))))))))))))⟩
                                        exact AllReadyH.nil
                                      exact AllReadyH.nil
                                    exact AllReadyH.nil
                                  exact AllReadyH.nil
                                exact AllReadyH.nil
                              exact AllReadyH.nil
                            exact AllReadyH.nil
                          exact AllReadyH.nil
                        exact AllReadyH.nil
                      exact AllReadyH.nil
                    exact AllReadyH.nil
                  exact AllReadyH.nil
                exact AllReadyH.nil
              exact AllReadyH.nil
            exact AllReadyH.nil
          exact AllReadyH.nil
        exact AllReadyH.nil
      exact AllReadyH.nil
    exact AllReadyH.nil
  | true =>
    have kvV0 : SeesN V0 V0.heap.size w5 := seesN_kept _ Kk9.out
    go_wp2
    go_ret
    exact ⟨rfl, (kept_trans Kk4.out Kk9.out)⟩

end Go.Proofs.Ytkdceahmknhojaa
