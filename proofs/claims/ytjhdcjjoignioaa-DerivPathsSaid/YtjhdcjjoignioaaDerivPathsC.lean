/-
  DerivPaths holds: for every input the call returns true, and the arguments read as before. No condition.
-/
import Derived.Test.YtjhdcjjoignioaaDWakes
import Derived.Test.YtjhdcjjoignioaaPdA
import Derived.Test.YtjhdcjjoignioaaDWeigh
import Derived.Test.YtjhdcjjoignioaaDSameKeep
import Derived.Deep.RegionLaw
import Derived.Deep.DeepCutAuto
import Derived.Test.YtjhdcjjoignioaaDOpen
import Derived.Test.YtjhdcjjoignioaaOpenInts
import Derived.Test.YtjhdcjjoignioaaOpen
import Derived.Test.YtjhdcjjoignioaaWords
/-! The walk of transhiplaw12.DerivPaths. -/
namespace Go.Proofs.Ytjhdcjjoignioaa.Dv
open Go.RowKit

def oc0 : Oper := { dst := some 42, op := Go.Op.load 53 (Go.Operand.tmp 2), type := 53, pos := "law.go:57", after := #[], guard := none }
def oc1 : Oper := { dst := some 43, op := Go.Op.call { callee := Go.Callee.value (Go.Operand.func 35), args := #[Go.Operand.tmp 42], argTypes := #[53] }, type := 4, pos := "law.go:57", after := #[{ on := 0, ground := Go.Ground.data }], guard := none }
def oc2 : Oper := { dst := some 44, op := Go.Op.move (Go.Operand.tmp 43), type := 4, pos := "law.go:57", after := #[{ on := 1, ground := Go.Ground.data }, { on := 1, ground := Go.Ground.chain }], guard := none }
def oc3 : Oper := { dst := some 45, op := Go.Op.load 53 (Go.Operand.tmp 5), type := 53, pos := "law.go:57", after := #[{ on := 2, ground := Go.Ground.guard }], guard := some (2, true) }
def oc4 : Oper := { dst := some 46, op := Go.Op.call { callee := Go.Callee.value (Go.Operand.func 35), args := #[Go.Operand.tmp 45], argTypes := #[53] }, type := 4, pos := "law.go:57", after := #[{ on := 3, ground := Go.Ground.data }, { on := 2, ground := Go.Ground.chain }, { on := 2, ground := Go.Ground.guard }], guard := some (2, true) }
def oc5 : Oper := { dst := some 47, op := Go.Op.unOp Go.UnOp.not 4 (Go.Operand.tmp 46), type := 4, pos := "law.go:57", after := #[{ on := 4, ground := Go.Ground.data }, { on := 2, ground := Go.Ground.guard }], guard := some (2, true) }
def oc6 : Oper := { dst := some 48, op := Go.Op.pick (Go.Operand.tmp 44) (Go.Operand.tmp 47) (Go.Operand.const (Go.Value.bool false)), type := 4, pos := "law.go:57", after := #[{ on := 2, ground := Go.Ground.data }, { on := 5, ground := Go.Ground.data }], guard := none }
def oc7 : Oper := { dst := some 49, op := Go.Op.move (Go.Operand.tmp 48), type := 4, pos := "law.go:57", after := #[{ on := 6, ground := Go.Ground.data }, { on := 4, ground := Go.Ground.chain }], guard := none }
def oc8 : Oper := { dst := some 50, op := Go.Op.load 53 (Go.Operand.tmp 5), type := 53, pos := "law.go:57", after := #[{ on := 7, ground := Go.Ground.guard }], guard := some (7, false) }
def oc9 : Oper := { dst := some 51, op := Go.Op.call { callee := Go.Callee.value (Go.Operand.func 36), args := #[Go.Operand.tmp 50], argTypes := #[53] }, type := 3, pos := "law.go:57", after := #[{ on := 8, ground := Go.Ground.data }, { on := 7, ground := Go.Ground.chain }, { on := 7, ground := Go.Ground.guard }], guard := some (7, false) }
def oc10 : Oper := { dst := some 52, op := Go.Op.load 53 (Go.Operand.tmp 2), type := 53, pos := "law.go:57", after := #[{ on := 7, ground := Go.Ground.guard }], guard := some (7, false) }
def oc11 : Oper := { dst := some 53, op := Go.Op.call { callee := Go.Callee.value (Go.Operand.func 36), args := #[Go.Operand.tmp 52], argTypes := #[53] }, type := 3, pos := "law.go:57", after := #[{ on := 10, ground := Go.Ground.data }, { on := 9, ground := Go.Ground.chain }, { on := 7, ground := Go.Ground.guard }], guard := some (7, false) }
def oc12 : Oper := { dst := some 54, op := Go.Op.binOp Go.BinOp.gtr 3 (Go.Operand.tmp 51) (Go.Operand.tmp 53) 3, type := 4, pos := "law.go:57", after := #[{ on := 9, ground := Go.Ground.data }, { on := 11, ground := Go.Ground.data }, { on := 7, ground := Go.Ground.guard }], guard := some (7, false) }
def oc13 : Oper := { dst := some 55, op := Go.Op.pick (Go.Operand.tmp 49) (Go.Operand.const (Go.Value.bool true)) (Go.Operand.tmp 54), type := 4, pos := "law.go:57", after := #[{ on := 7, ground := Go.Ground.data }, { on := 12, ground := Go.Ground.data }], guard := none }
def oc14 : Oper := { dst := some 56, op := Go.Op.move (Go.Operand.tmp 55), type := 4, pos := "law.go:57", after := #[{ on := 13, ground := Go.Ground.data }, { on := 11, ground := Go.Ground.chain }], guard := none }
def oc15 : Oper := { dst := some 57, op := Go.Op.load 53 (Go.Operand.tmp 5), type := 53, pos := "law.go:57", after := #[{ on := 14, ground := Go.Ground.guard }], guard := some (14, false) }
def oc16 : Oper := { dst := some 58, op := Go.Op.call { callee := Go.Callee.value (Go.Operand.func 37), args := #[Go.Operand.tmp 57], argTypes := #[53] }, type := 3, pos := "law.go:57", after := #[{ on := 15, ground := Go.Ground.data }, { on := 14, ground := Go.Ground.chain }, { on := 14, ground := Go.Ground.guard }], guard := some (14, false) }
def oc17 : Oper := { dst := some 59, op := Go.Op.move (Go.Operand.tmp 1), type := 54, pos := "law.go:57", after := #[{ on := 14, ground := Go.Ground.guard }], guard := some (14, false) }
def oc18 : Oper := { dst := some 60, op := Go.Op.call { callee := Go.Callee.builtin Go.Builtin.len, args := #[Go.Operand.tmp 59], argTypes := #[54] }, type := 3, pos := "law.go:57", after := #[{ on := 17, ground := Go.Ground.data }, { on := 14, ground := Go.Ground.guard }], guard := some (14, false) }
def oc19 : Oper := { dst := some 61, op := Go.Op.binOp Go.BinOp.add 3 (Go.Operand.tmp 58) (Go.Operand.tmp 60) 3, type := 3, pos := "law.go:57", after := #[{ on := 16, ground := Go.Ground.data }, { on := 18, ground := Go.Ground.data }, { on := 14, ground := Go.Ground.guard }], guard := some (14, false) }
def oc20 : Oper := { dst := some 62, op := Go.Op.load 53 (Go.Operand.tmp 2), type := 53, pos := "law.go:57", after := #[{ on := 14, ground := Go.Ground.guard }], guard := some (14, false) }
def oc21 : Oper := { dst := some 63, op := Go.Op.call { callee := Go.Callee.value (Go.Operand.func 37), args := #[Go.Operand.tmp 62], argTypes := #[53] }, type := 3, pos := "law.go:57", after := #[{ on := 20, ground := Go.Ground.data }, { on := 16, ground := Go.Ground.chain }, { on := 14, ground := Go.Ground.guard }], guard := some (14, false) }
def oc22 : Oper := { dst := some 64, op := Go.Op.binOp Go.BinOp.gtr 3 (Go.Operand.tmp 61) (Go.Operand.tmp 63) 3, type := 4, pos := "law.go:57", after := #[{ on := 19, ground := Go.Ground.data }, { on := 21, ground := Go.Ground.data }, { on := 14, ground := Go.Ground.guard }], guard := some (14, false) }
def oc23 : Oper := { dst := some 65, op := Go.Op.pick (Go.Operand.tmp 56) (Go.Operand.const (Go.Value.bool true)) (Go.Operand.tmp 64), type := 4, pos := "law.go:57", after := #[{ on := 14, ground := Go.Ground.data }, { on := 22, ground := Go.Ground.data }], guard := none }
def oa0 : Oper := { dst := some 74, op := Go.Op.load 53 (Go.Operand.tmp 2), type := 53, pos := "law.go:61", after := #[], guard := none }
def oa1 : Oper := { dst := some 75, op := Go.Op.buildSlice 54 0 #[], type := 54, pos := "law.go:61", after := #[], guard := none }
def oa2 : Oper := { dst := some 76, op := Go.Op.move (Go.Operand.tmp 1), type := 54, pos := "law.go:61", after := #[], guard := none }
def oa3 : Oper := { dst := some 77, op := Go.Op.call { callee := Go.Callee.builtin Go.Builtin.append, args := #[Go.Operand.tmp 75, Go.Operand.tmp 76], argTypes := #[54, 54] }, type := 54, pos := "law.go:61", after := #[{ on := 1, ground := Go.Ground.data }, { on := 2, ground := Go.Ground.data }], guard := none }
def oa4 : Oper := { dst := some 78, op := Go.Op.move (Go.Operand.tmp 7), type := 3, pos := "law.go:61", after := #[], guard := none }
def oa5 : Oper := { dst := some 79, op := Go.Op.buildSlice 54 1 #[(0, Go.Operand.tmp 78)], type := 54, pos := "law.go:61", after := #[{ on := 4, ground := Go.Ground.data }], guard := none }
def oa6 : Oper := { dst := some 80, op := Go.Op.call { callee := Go.Callee.builtin Go.Builtin.append, args := #[Go.Operand.tmp 77, Go.Operand.tmp 79], argTypes := #[54, 54] }, type := 54, pos := "law.go:61", after := #[{ on := 3, ground := Go.Ground.data }, { on := 5, ground := Go.Ground.data }, { on := 3, ground := Go.Ground.chain }], guard := none }
def oa7 : Oper := { dst := some 81, op := Go.Op.call { callee := Go.Callee.value (Go.Operand.func 33), args := #[Go.Operand.tmp 74, Go.Operand.tmp 80], argTypes := #[53, 54] }, type := 56, pos := "law.go:61", after := #[{ on := 0, ground := Go.Ground.data }, { on := 6, ground := Go.Ground.data }, { on := 6, ground := Go.Ground.chain }], guard := none }
def oa8 : Oper := { dst := some 73, op := Go.Op.move (Go.Operand.tmp 81), type := 56, pos := "law.go:61", after := #[{ on := 7, ground := Go.Ground.data }], guard := none }
def oa9 : Oper := { dst := some 82, op := Go.Op.extract (Go.Operand.tmp 73) 0, type := 53, pos := "law.go:61", after := #[{ on := 8, ground := Go.Ground.data }], guard := none }
def oa10 : Oper := { dst := some 83, op := Go.Op.extract (Go.Operand.tmp 73) 1, type := 4, pos := "law.go:61", after := #[{ on := 8, ground := Go.Ground.data }, { on := 12, ground := Go.Ground.gcOnly Go.Departure.lateStores }], guard := none }
def oa11 : Oper := { dst := some 8, op := Go.Op.alloc 53, type := 0, pos := "law.go:61", after := #[], guard := none }
def oa12 : Oper := { dst := none, op := Go.Op.store 53 (Go.Operand.tmp 8) (Go.Operand.tmp 82), type := 0, pos := "law.go:61", after := #[{ on := 11, ground := Go.Ground.data }, { on := 9, ground := Go.Ground.data }, { on := 7, ground := Go.Ground.chain }, { on := 0, ground := Go.Ground.phase }, { on := 1, ground := Go.Ground.phase }, { on := 2, ground := Go.Ground.phase }, { on := 3, ground := Go.Ground.phase }, { on := 4, ground := Go.Ground.phase }, { on := 5, ground := Go.Ground.phase }, { on := 6, ground := Go.Ground.phase }, { on := 7, ground := Go.Ground.phase }, { on := 8, ground := Go.Ground.phase }, { on := 9, ground := Go.Ground.phase }, { on := 10, ground := Go.Ground.textOnly Go.Departure.lateStores }, { on := 11, ground := Go.Ground.phase }], guard := none }
def oa13 : Oper := { dst := some 9, op := Go.Op.assign (Go.Operand.tmp 83), type := 4, pos := "law.go:61", after := #[{ on := 10, ground := Go.Ground.data }, { on := 12, ground := Go.Ground.chain }, { on := 0, ground := Go.Ground.phase }, { on := 1, ground := Go.Ground.phase }, { on := 2, ground := Go.Ground.phase }, { on := 3, ground := Go.Ground.phase }, { on := 4, ground := Go.Ground.phase }, { on := 5, ground := Go.Ground.phase }, { on := 6, ground := Go.Ground.phase }, { on := 7, ground := Go.Ground.phase }, { on := 8, ground := Go.Ground.phase }, { on := 9, ground := Go.Ground.phase }, { on := 10, ground := Go.Ground.phase }, { on := 11, ground := Go.Ground.phase }, { on := 12, ground := Go.Ground.phase }], guard := none }
def ob0 : Oper := { dst := some 84, op := Go.Op.move (Go.Operand.tmp 9), type := 4, pos := "law.go:62", after := #[], guard := none }
def ob1 : Oper := { dst := some 85, op := Go.Op.move (Go.Operand.tmp 7), type := 3, pos := "law.go:62", after := #[], guard := none }
def ob2 : Oper := { dst := some 86, op := Go.Op.binOp Go.BinOp.geq 3 (Go.Operand.tmp 85) (Go.Operand.const (Go.Value.int Go.IntKind.i64 0)) 3, type := 4, pos := "law.go:62", after := #[{ on := 1, ground := Go.Ground.data }], guard := none }
def ob3 : Oper := { dst := some 87, op := Go.Op.move (Go.Operand.tmp 86), type := 4, pos := "law.go:62", after := #[{ on := 2, ground := Go.Ground.data }], guard := none }
def ob4 : Oper := { dst := some 88, op := Go.Op.move (Go.Operand.tmp 7), type := 3, pos := "law.go:62", after := #[{ on := 3, ground := Go.Ground.guard }], guard := some (3, true) }
def ob5 : Oper := { dst := some 89, op := Go.Op.fieldAddr 53 (Go.Operand.tmp 5) 2, type := 0, pos := "law.go:62", after := #[{ on := 3, ground := Go.Ground.guard }], guard := some (3, true) }
def ob6 : Oper := { dst := some 90, op := Go.Op.load 51 (Go.Operand.tmp 89), type := 51, pos := "law.go:62", after := #[{ on := 5, ground := Go.Ground.data }, { on := 3, ground := Go.Ground.guard }], guard := some (3, true) }
def ob7 : Oper := { dst := some 91, op := Go.Op.call { callee := Go.Callee.builtin Go.Builtin.len, args := #[Go.Operand.tmp 90], argTypes := #[51] }, type := 3, pos := "law.go:62", after := #[{ on := 6, ground := Go.Ground.data }, { on := 3, ground := Go.Ground.guard }], guard := some (3, true) }
def ob8 : Oper := { dst := some 92, op := Go.Op.binOp Go.BinOp.lss 3 (Go.Operand.tmp 88) (Go.Operand.tmp 91) 3, type := 4, pos := "law.go:62", after := #[{ on := 4, ground := Go.Ground.data }, { on := 7, ground := Go.Ground.data }, { on := 3, ground := Go.Ground.guard }], guard := some (3, true) }
def ob9 : Oper := { dst := some 93, op := Go.Op.pick (Go.Operand.tmp 87) (Go.Operand.tmp 92) (Go.Operand.const (Go.Value.bool false)), type := 4, pos := "law.go:62", after := #[{ on := 3, ground := Go.Ground.data }, { on := 8, ground := Go.Ground.data }], guard := none }
def ob10 : Oper := { dst := some 94, op := Go.Op.binOp Go.BinOp.neq 4 (Go.Operand.tmp 84) (Go.Operand.tmp 93) 4, type := 4, pos := "law.go:62", after := #[{ on := 0, ground := Go.Ground.data }, { on := 9, ground := Go.Ground.data }], guard := none }
def ob11 : Oper := { dst := some 95, op := Go.Op.move (Go.Operand.tmp 94), type := 4, pos := "law.go:62", after := #[{ on := 10, ground := Go.Ground.data }, { on := 3, ground := Go.Ground.chain }], guard := none }
def ob12 : Oper := { dst := some 96, op := Go.Op.move (Go.Operand.tmp 9), type := 4, pos := "law.go:62", after := #[{ on := 11, ground := Go.Ground.guard }], guard := some (11, false) }
def ob13 : Oper := { dst := some 97, op := Go.Op.move (Go.Operand.tmp 96), type := 4, pos := "law.go:62", after := #[{ on := 12, ground := Go.Ground.data }, { on := 11, ground := Go.Ground.chain }, { on := 11, ground := Go.Ground.guard }], guard := some (11, false) }
def ob14 : Oper := { dst := some 98, op := Go.Op.load 53 (Go.Operand.tmp 8), type := 53, pos := "law.go:62", after := #[{ on := 13, ground := Go.Ground.guard }], guard := some (13, true) }
def ob15 : Oper := { dst := some 99, op := Go.Op.fieldAddr 53 (Go.Operand.tmp 5) 2, type := 0, pos := "law.go:62", after := #[{ on := 13, ground := Go.Ground.guard }], guard := some (13, true) }
def ob16 : Oper := { dst := some 100, op := Go.Op.load 51 (Go.Operand.tmp 99), type := 51, pos := "law.go:62", after := #[{ on := 15, ground := Go.Ground.data }, { on := 13, ground := Go.Ground.guard }], guard := some (13, true) }
def ob17 : Oper := { dst := some 101, op := Go.Op.move (Go.Operand.tmp 7), type := 3, pos := "law.go:62", after := #[{ on := 13, ground := Go.Ground.guard }], guard := some (13, true) }
def ob18 : Oper := { dst := some 102, op := Go.Op.indexAddr 51 (Go.Operand.tmp 100) (Go.Operand.tmp 101), type := 0, pos := "law.go:62", after := #[{ on := 16, ground := Go.Ground.data }, { on := 17, ground := Go.Ground.data }, { on := 13, ground := Go.Ground.guard }], guard := some (13, true) }
def ob19 : Oper := { dst := some 103, op := Go.Op.load 53 (Go.Operand.tmp 102), type := 53, pos := "law.go:62", after := #[{ on := 18, ground := Go.Ground.data }, { on := 13, ground := Go.Ground.guard }], guard := some (13, true) }
def ob20 : Oper := { dst := some 104, op := Go.Op.call { callee := Go.Callee.value (Go.Operand.func 38), args := #[Go.Operand.tmp 98, Go.Operand.tmp 103], argTypes := #[53, 53] }, type := 4, pos := "law.go:62", after := #[{ on := 14, ground := Go.Ground.data }, { on := 19, ground := Go.Ground.data }, { on := 13, ground := Go.Ground.chain }, { on := 13, ground := Go.Ground.guard }], guard := some (13, true) }
def ob21 : Oper := { dst := some 105, op := Go.Op.unOp Go.UnOp.not 4 (Go.Operand.tmp 104), type := 4, pos := "law.go:62", after := #[{ on := 20, ground := Go.Ground.data }, { on := 13, ground := Go.Ground.guard }], guard := some (13, true) }
def ob22 : Oper := { dst := some 106, op := Go.Op.pick (Go.Operand.tmp 97) (Go.Operand.tmp 105) (Go.Operand.const (Go.Value.bool false)), type := 4, pos := "law.go:62", after := #[{ on := 13, ground := Go.Ground.data }, { on := 21, ground := Go.Ground.data }, { on := 11, ground := Go.Ground.guard }], guard := some (11, false) }
def ob23 : Oper := { dst := some 107, op := Go.Op.pick (Go.Operand.tmp 95) (Go.Operand.const (Go.Value.bool true)) (Go.Operand.tmp 106), type := 4, pos := "law.go:62", after := #[{ on := 11, ground := Go.Ground.data }, { on := 22, ground := Go.Ground.data }], guard := none }

set_option maxRecDepth 20000 in
set_option maxHeartbeats 60000000 in
theorem derivPaths_any (t : Tm) (l : List Int) (w : World) (s r : Value) (hl : Lies w t.kids s) (hp : LiesI w l r) : Calls Try.prog 7 #[tv t s, r] w fun e w' => e = .returned (.bool true) ∧ Below w.heap.size w w' := by
  obtain ⟨a, cap, S, rfl, -⟩ := hl.out
  obtain ⟨pa, pcap, rfl, -⟩ := hp.out
  have H0 := held_start w t (.slice a t.kids.length cap)
  have HL := Lib.hid hl
  have HP := Lib.hid hp
  obtain ⟨i0, hi, hz0, hz1, hz2⟩ := info_parts info_int
  have HI := Lib.hid (And.intro hi (And.intro hz0 (And.intro hz1 hz2)))
  clear hi hz0 hz1 hz2
  unfold tv
  clear hl hp
  go_enter Try.func7, Try.ntmps7
  go_wp2_with fail
  refine (dgreat_any t _ _ 600 (held_lies H0 HL.out) (by omega) (by omega)).mono ?_
  rintro e w1 ⟨g, rfl, hg, hb1⟩
  have H1 := held_call H0 hb1
  obtain ⟨d0, d1, d2⟩ := held_cells H1
  have HG := Lib.hid hg
  clear hg hb1
  cases g with
  | true =>
    go_wp2
    all_goals go_ret
    all_goals exact ⟨rfl, held_below H1⟩
  | false =>
    have hz := (HG.out rfl).1
    have HSZ := Lib.hid (show t.size ≤ 1000000000000 by omega)
    have HS6 := Lib.hid (show t.size ≤ 1000000 by omega)
    have HDT := Lib.hid (show t.deep ≤ 1000000 by have := deep_le_size t; omega)
    clear HG
    by_cases hlen : 200 < l.length
    · have e1 : decide ((200 : Int) < (l.length : Int)) = true := decide_eq_true (by omega)
      go_wp2
      all_goals go_ret
      all_goals exact ⟨rfl, held_below H1⟩
    have e1 : decide ((200 : Int) < (l.length : Int)) = false := decide_eq_false (by omega)
    have e2 : decide (200 < l.length) = false := decide_eq_false hlen
    have HLE := Lib.hid (show l.length ≤ 200 by omega)
    go_wp2_with fail
    have CA := dat_any t l w1 _ _ (held_lies H1 HL.out) (HP.out.keep (held_below H1)) HS6.out
    refine CA.mono ?_
    clear CA
    cases hV : t.at l with
    | none =>
      rintro e w3 ⟨rfl, hb3⟩
      have H3 := held_call H1 hb3
      have hX : Below w3.heap.size w3 (w3.alloc (.cells #[.int .i64 0, .int .i64 0, .slice none 0 0] 53)) := (Below.refl _ _).alloc (Nat.le_refl _) _
      have H4 := held_call H3 hX
      have HB4 := Lib.hid (held_below H4)
      clear hV hb3 H0 H1 H3 H4 d0 d1 d2 hX
      go_wp2_with fail
      refine (wakes12_any _).mono ?_
      rintro e w5 ⟨rfl, hb5⟩
      go_wp2
      go_ret
      exact ⟨rfl, HB4.out.trans (hb5.mono HB4.out.size)⟩
    | some x =>
      rintro e w3 ⟨⟨s3, rfl, hl3⟩, hb3⟩
      obtain ⟨a3, cap3, S3, rfl, -⟩ := hl3.out
      have HAT := Lib.hid hV
      have hxs := at_size hV
      have hxd := at_deep hV
      have HSX := Lib.hid (show x.size ≤ 1000000000000 by have := HS6.out; omega)
      have H3 := held_call H1 hb3
      have hX : Below w3.heap.size w3 (w3.alloc (.cells #[.int .i64 x.k, .int .i64 x.i, .slice a3 x.kids.length cap3] 53)) := (Below.refl _ _).alloc (Nat.le_refl _) _
      have H4 := held_call H3 hX
      have hxc : Three (w3.alloc (.cells #[.int .i64 x.k, .int .i64 x.i, .slice a3 x.kids.length cap3] 53)) w3.heap.size x (.slice a3 x.kids.length cap3) := five_cells (alloc_new w3 _)
      have htc : Three (w3.alloc (.cells #[.int .i64 x.k, .int .i64 x.i, .slice a3 x.kids.length cap3] 53)) w.heap.size t (.slice a t.kids.length cap) := held_cells H4
      have hlt := held_lies H4 HL.out
      have hlx := hl3.keep hX
      have hbv := held_below H4
      have hvs := held_size H4
      clear hV hb3 hl3 H0 H1 H3 H4 hX d0 d1 d2
      go_upto_region 6 with fail
      obtain ⟨gx, hgx⟩ : ∃ g, w3.heap.size = g := ⟨_, rfl⟩
      generalize w3.alloc (.cells #[.int .i64 x.k, .int .i64 x.i, .slice a3 x.kids.length cap3] 53) = V at hxc htc hlt hlx hbv hvs ⊢
      rw [hgx] at hxc ⊢
      have HTC := Lib.hid htc
      have HXC := Lib.hid hxc
      have HLT := Lib.hid hlt
      have HLX := Lib.hid hlx
      have HBV := Lib.hid hbv
      have hk0 := kp_start V
      have E1 : decide ((t.size : Int) < (x.size : Int)) = false := decide_eq_false (by omega)
      have E1' : decide (t.size < x.size) = false := decide_eq_false (by omega)
      have E2 : IntKind.i64.wrap ((x.deep : Int) + (l.length : Int)) = (x.deep : Int) + (l.length : Int) := IntWalk.i64_in _ (by have := HDT.out; omega)
      have E3 : decide ((t.deep : Int) < (x.deep : Int) + (l.length : Int)) = false := decide_eq_false (by omega)
      obtain ⟨t0, t1, t2⟩ := htc
      obtain ⟨x0, x1, x2⟩ := hxc
      clear hlt hlx hbv hgx
      go_cut [65] (fun s65 wx => s65 = .bool false ∧ Kp V wx)
      case first =>
        cases hr : t.rightB with
        | true =>
          have HR := Lib.hid hr
          have HRX := Lib.hid (at_right hr HAT.out)
          clear hr
          refine wp_region_held_drew (S := fun w' => Kp V w' ∧ w'.cell? ⟨w.heap.size, 0, none⟩ = some (.int .i64 t.k) ∧ w'.cell? ⟨w.heap.size, 1, none⟩ = some (.int .i64 t.i) ∧ w'.cell? ⟨w.heap.size, 2, none⟩ = some (.slice a t.kids.length cap) ∧ w'.cell? ⟨gx, 0, none⟩ = some (.int .i64 x.k) ∧ w'.cell? ⟨gx, 1, none⟩ = some (.int .i64 x.i) ∧ w'.cell? ⟨gx, 2, none⟩ = some (.slice a3 x.kids.length cap3)) (by kernel_rfl) ?_ (fun hHeld => ?_)
          · (try dsimp only)
            (((with_reducible refine kp_and ?_ HTC.out HXC.out); repeat (first | with_reducible assumption | with_reducible exact hk0 | with_reducible refine kp_drew ?_)))
          refine take_at 0 42 oc0 (v := ?_) (Or.inl ⟨by rfl, ?_⟩) ?_
          rotate_left 1
          · ((intro w hSw; (try dsimp only at hSw); unfold oc0; go_simp) <;> with_reducible rfl)
          (try simp only [Act.put, List.setIfInBounds_toArray, List.set_cons_zero, List.set_cons_succ])
          refine wpAnyH_ready (rs := [1]) (by kernel_rfl) (by simp) ?_
          refine AllReadyH.cons (o := oc1) rfl (fun K hK => ?_) ?_
          · unfold oc1
            go_simp
            (go_at_call 35; have hS := hHeld.1; refine (dright_any t _ _ (kp_lies hS HLT.out)).mono ?_; rw [HR.out]; rintro e wn ⟨rfl, hbn⟩; have hh := kp_call hS hbn; clear hbn hS hHeld)
            refine hK.out _ _ ?_ (fun hHeld => ?_)
            · (try dsimp only)
              (((with_reducible refine kp_and ?_ HTC.out HXC.out); repeat (first | with_reducible assumption | with_reducible exact hk0 | with_reducible refine kp_drew ?_)))
            clear hK K
            (try simp only [Act.put, List.setIfInBounds_toArray, List.set_cons_zero, List.set_cons_succ])
            refine take_at 2 44 oc2 (v := ?_) (Or.inl ⟨by rfl, ?_⟩) ?_
            rotate_left 1
            · ((intro w hSw; (try dsimp only at hSw); unfold oc2; go_simp) <;> with_reducible rfl)
            (try simp only [Act.put, List.setIfInBounds_toArray, List.set_cons_zero, List.set_cons_succ])
            refine take_at 3 45 oc3 (v := ?_) (Or.inl ⟨by rfl, ?_⟩) ?_
            rotate_left 1
            · ((intro w hSw; (try dsimp only at hSw); unfold oc3; go_simp) <;> with_reducible rfl)
            (try simp only [Act.put, List.setIfInBounds_toArray, List.set_cons_zero, List.set_cons_succ])
            refine wpAnyH_ready (rs := [4]) (by kernel_rfl) (by simp) ?_
            refine AllReadyH.cons (o := oc4) rfl (fun K hK => ?_) ?_
            · unfold oc4
              go_simp
              (go_at_call 35; have hS := hHeld.1; refine (dright_any x _ _ (kp_lies hS HLX.out)).mono ?_; rw [HRX.out]; rintro e wn ⟨rfl, hbn⟩; have hh := kp_call hS hbn; clear hbn hS hHeld)
              refine hK.out _ _ ?_ (fun hHeld => ?_)
              · (try dsimp only)
                (((with_reducible refine kp_and ?_ HTC.out HXC.out); repeat (first | with_reducible assumption | with_reducible exact hk0 | with_reducible refine kp_drew ?_)))
              clear hK K
              (try simp only [Act.put, List.setIfInBounds_toArray, List.set_cons_zero, List.set_cons_succ])
              refine take_at 5 47 oc5 (v := ?_) (Or.inl ⟨by rfl, ?_⟩) ?_
              rotate_left 1
              · ((intro w hSw; (try dsimp only at hSw); unfold oc5; go_simp) <;> with_reducible rfl)
              (try simp only [Act.put, List.setIfInBounds_toArray, List.set_cons_zero, List.set_cons_succ])
              refine take_at 6 48 oc6 (v := ?_) (Or.inl ⟨by rfl, ?_⟩) ?_
              rotate_left 1
              · ((intro w hSw; (try dsimp only at hSw); unfold oc6; go_simp) <;> with_reducible rfl)
              (try simp only [Act.put, List.setIfInBounds_toArray, List.set_cons_zero, List.set_cons_succ])
              refine take_at 7 49 oc7 (v := ?_) (Or.inl ⟨by rfl, ?_⟩) ?_
              rotate_left 1
              · ((intro w hSw; (try dsimp only at hSw); unfold oc7; go_simp) <;> with_reducible rfl)
              (try simp only [Act.put, List.setIfInBounds_toArray, List.set_cons_zero, List.set_cons_succ])
              refine take_at 8 50 oc8 (v := ?_) (Or.inl ⟨by rfl, ?_⟩) ?_
              rotate_left 1
              · ((intro w hSw; (try dsimp only at hSw); unfold oc8; go_simp) <;> with_reducible rfl)
              (try simp only [Act.put, List.setIfInBounds_toArray, List.set_cons_zero, List.set_cons_succ])
              refine take_at 10 52 oc10 (v := ?_) (Or.inl ⟨by rfl, ?_⟩) ?_
              rotate_left 1
              · ((intro w hSw; (try dsimp only at hSw); unfold oc10; go_simp) <;> with_reducible rfl)
              (try simp only [Act.put, List.setIfInBounds_toArray, List.set_cons_zero, List.set_cons_succ])
              refine wpAnyH_ready (rs := [9]) (by kernel_rfl) (by simp) ?_
              refine AllReadyH.cons (o := oc9) rfl (fun K hK => ?_) ?_
              · unfold oc9
                go_simp
                (go_at_call 36; have hS := hHeld.1; refine (dsize_any x _ _ (kp_lies hS HLX.out) HSX.out).mono ?_; rintro e wn ⟨rfl, hbn⟩; have hh := kp_call hS hbn; clear hbn hS hHeld)
                refine hK.out _ _ ?_ (fun hHeld => ?_)
                · (try dsimp only)
                  (((with_reducible refine kp_and ?_ HTC.out HXC.out); repeat (first | with_reducible assumption | with_reducible exact hk0 | with_reducible refine kp_drew ?_)))
                clear hK K
                (try simp only [Act.put, List.setIfInBounds_toArray, List.set_cons_zero, List.set_cons_succ])
                refine wpAnyH_ready (rs := [11]) (by kernel_rfl) (by simp) ?_
                refine AllReadyH.cons (o := oc11) rfl (fun K hK => ?_) ?_
                · unfold oc11
                  go_simp
                  (go_at_call 36; have hS := hHeld.1; refine (dsize_any t _ _ (kp_lies hS HLT.out) HSZ.out).mono ?_; rintro e wn ⟨rfl, hbn⟩; have hh := kp_call hS hbn; clear hbn hS hHeld)
                  refine hK.out _ _ ?_ (fun hHeld => ?_)
                  · (try dsimp only)
                    (((with_reducible refine kp_and ?_ HTC.out HXC.out); repeat (first | with_reducible assumption | with_reducible exact hk0 | with_reducible refine kp_drew ?_)))
                  clear hK K
                  (try simp only [Act.put, List.setIfInBounds_toArray, List.set_cons_zero, List.set_cons_succ])
                  refine take_at 12 54 oc12 (v := ?_) (Or.inl ⟨by rfl, ?_⟩) ?_
                  rotate_left 1
                  · ((intro w hSw; (try dsimp only at hSw); unfold oc12; go_simp) <;> with_reducible rfl)
                  (try simp only [Act.put, List.setIfInBounds_toArray, List.set_cons_zero, List.set_cons_succ])
                  refine take_at 13 55 oc13 (v := ?_) (Or.inl ⟨by rfl, ?_⟩) ?_
                  rotate_left 1
                  · ((intro w hSw; (try dsimp only at hSw); unfold oc13; go_simp) <;> with_reducible rfl)
                  (try simp only [Act.put, List.setIfInBounds_toArray, List.set_cons_zero, List.set_cons_succ])
                  refine take_at 14 56 oc14 (v := ?_) (Or.inl ⟨by rfl, ?_⟩) ?_
                  rotate_left 1
                  · ((intro w hSw; (try dsimp only at hSw); unfold oc14; go_simp) <;> with_reducible rfl)
                  (try simp only [Act.put, List.setIfInBounds_toArray, List.set_cons_zero, List.set_cons_succ])
                  refine take_at 15 57 oc15 (v := ?_) (Or.inl ⟨by rfl, ?_⟩) ?_
                  rotate_left 1
                  · ((intro w hSw; (try dsimp only at hSw); unfold oc15; go_simp) <;> with_reducible rfl)
                  (try simp only [Act.put, List.setIfInBounds_toArray, List.set_cons_zero, List.set_cons_succ])
                  refine take_at 17 59 oc17 (v := ?_) (Or.inl ⟨by rfl, ?_⟩) ?_
                  rotate_left 1
                  · ((intro w hSw; (try dsimp only at hSw); unfold oc17; go_simp) <;> with_reducible rfl)
                  (try simp only [Act.put, List.setIfInBounds_toArray, List.set_cons_zero, List.set_cons_succ])
                  refine take_at 18 60 oc18 (v := ?_) (Or.inl ⟨by rfl, ?_⟩) ?_
                  rotate_left 1
                  · ((intro w hSw; (try dsimp only at hSw); unfold oc18; go_simp) <;> with_reducible rfl)
                  (try simp only [Act.put, List.setIfInBounds_toArray, List.set_cons_zero, List.set_cons_succ])
                  refine take_at 20 62 oc20 (v := ?_) (Or.inl ⟨by rfl, ?_⟩) ?_
                  rotate_left 1
                  · ((intro w hSw; (try dsimp only at hSw); unfold oc20; go_simp) <;> with_reducible rfl)
                  (try simp only [Act.put, List.setIfInBounds_toArray, List.set_cons_zero, List.set_cons_succ])
                  refine wpAnyH_ready (rs := [16]) (by kernel_rfl) (by simp) ?_
                  refine AllReadyH.cons (o := oc16) rfl (fun K hK => ?_) ?_
                  · unfold oc16
                    go_simp
                    (go_at_call 37; have hS := hHeld.1; refine (ddeep_any x _ _ (kp_lies hS HLX.out) HSX.out).mono ?_; rintro e wn ⟨rfl, hbn⟩; have hh := kp_call hS hbn; clear hbn hS hHeld)
                    refine hK.out _ _ ?_ (fun hHeld => ?_)
                    · (try dsimp only)
                      (((with_reducible refine kp_and ?_ HTC.out HXC.out); repeat (first | with_reducible assumption | with_reducible exact hk0 | with_reducible refine kp_drew ?_)))
                    clear hK K
                    (try simp only [Act.put, List.setIfInBounds_toArray, List.set_cons_zero, List.set_cons_succ])
                    refine take_at 19 61 oc19 (v := ?_) (Or.inl ⟨by rfl, ?_⟩) ?_
                    rotate_left 1
                    · ((intro w hSw; (try dsimp only at hSw); unfold oc19; go_simp) <;> with_reducible rfl)
                    (try simp only [Act.put, List.setIfInBounds_toArray, List.set_cons_zero, List.set_cons_succ])
                    refine wpAnyH_ready (rs := [21]) (by kernel_rfl) (by simp) ?_
                    refine AllReadyH.cons (o := oc21) rfl (fun K hK => ?_) ?_
                    · unfold oc21
                      go_simp
                      (go_at_call 37; have hS := hHeld.1; refine (ddeep_any t _ _ (kp_lies hS HLT.out) HSZ.out).mono ?_; rintro e wn ⟨rfl, hbn⟩; have hh := kp_call hS hbn; clear hbn hS hHeld)
                      refine hK.out _ _ ?_ (fun hHeld => ?_)
                      · (try dsimp only)
                        (((with_reducible refine kp_and ?_ HTC.out HXC.out); repeat (first | with_reducible assumption | with_reducible exact hk0 | with_reducible refine kp_drew ?_)))
                      clear hK K
                      (try simp only [Act.put, List.setIfInBounds_toArray, List.set_cons_zero, List.set_cons_succ])
                      refine take_at 22 64 oc22 (v := ?_) (Or.inl ⟨by rfl, ?_⟩) ?_
                      rotate_left 1
                      · ((intro w hSw; (try dsimp only at hSw); unfold oc22; go_simp) <;> with_reducible rfl)
                      (try simp only [Act.put, List.setIfInBounds_toArray, List.set_cons_zero, List.set_cons_succ])
                      refine take_at 23 65 oc23 (v := ?_) (Or.inl ⟨by rfl, ?_⟩) ?_
                      rotate_left 1
                      · ((intro w hSw; (try dsimp only at hSw); unfold oc23; go_simp) <;> with_reducible rfl)
                      (try simp only [Act.put, List.setIfInBounds_toArray, List.set_cons_zero, List.set_cons_succ])
                      refine wpAnyH_done (by kernel_rfl) ?_ _
                      have hkv := hHeld.1
                      clear hHeld
                      go_wp2_with fail
                      go_meet
                      case rel => exact ⟨rfl, hkv⟩
                    exact AllReadyH.nil
                  exact AllReadyH.nil
                exact AllReadyH.nil
              exact AllReadyH.nil
            exact AllReadyH.nil
          exact AllReadyH.nil
        | false =>
          have HR := Lib.hid hr
          clear hr
          refine wp_region_held_drew (S := fun w' => Kp V w' ∧ w'.cell? ⟨w.heap.size, 0, none⟩ = some (.int .i64 t.k) ∧ w'.cell? ⟨w.heap.size, 1, none⟩ = some (.int .i64 t.i) ∧ w'.cell? ⟨w.heap.size, 2, none⟩ = some (.slice a t.kids.length cap) ∧ w'.cell? ⟨gx, 0, none⟩ = some (.int .i64 x.k) ∧ w'.cell? ⟨gx, 1, none⟩ = some (.int .i64 x.i) ∧ w'.cell? ⟨gx, 2, none⟩ = some (.slice a3 x.kids.length cap3)) (by kernel_rfl) ?_ (fun hHeld => ?_)
          · (try dsimp only)
            (((with_reducible refine kp_and ?_ HTC.out HXC.out); repeat (first | with_reducible assumption | with_reducible exact hk0 | with_reducible refine kp_drew ?_)))
          refine take_at 0 42 oc0 (v := ?_) (Or.inl ⟨by rfl, ?_⟩) ?_
          rotate_left 1
          · ((intro w hSw; (try dsimp only at hSw); unfold oc0; go_simp) <;> with_reducible rfl)
          (try simp only [Act.put, List.setIfInBounds_toArray, List.set_cons_zero, List.set_cons_succ])
          refine wpAnyH_ready (rs := [1]) (by kernel_rfl) (by simp) ?_
          refine AllReadyH.cons (o := oc1) rfl (fun K hK => ?_) ?_
          · unfold oc1
            go_simp
            (go_at_call 35; have hS := hHeld.1; refine (dright_any t _ _ (kp_lies hS HLT.out)).mono ?_; rw [HR.out]; rintro e wn ⟨rfl, hbn⟩; have hh := kp_call hS hbn; clear hbn hS hHeld)
            refine hK.out _ _ ?_ (fun hHeld => ?_)
            · (try dsimp only)
              (((with_reducible refine kp_and ?_ HTC.out HXC.out); repeat (first | with_reducible assumption | with_reducible exact hk0 | with_reducible refine kp_drew ?_)))
            clear hK K
            (try simp only [Act.put, List.setIfInBounds_toArray, List.set_cons_zero, List.set_cons_succ])
            refine take_at 2 44 oc2 (v := ?_) (Or.inl ⟨by rfl, ?_⟩) ?_
            rotate_left 1
            · ((intro w hSw; (try dsimp only at hSw); unfold oc2; go_simp) <;> with_reducible rfl)
            (try simp only [Act.put, List.setIfInBounds_toArray, List.set_cons_zero, List.set_cons_succ])
            refine take_at 3 45 oc3 (v := undef) (Or.inr ⟨by rfl, rfl⟩) ?_
            (try simp only [Act.put, List.setIfInBounds_toArray, List.set_cons_zero, List.set_cons_succ])
            refine take_at 4 46 oc4 (v := undef) (Or.inr ⟨by rfl, rfl⟩) ?_
            (try simp only [Act.put, List.setIfInBounds_toArray, List.set_cons_zero, List.set_cons_succ])
            refine take_at 5 47 oc5 (v := undef) (Or.inr ⟨by rfl, rfl⟩) ?_
            (try simp only [Act.put, List.setIfInBounds_toArray, List.set_cons_zero, List.set_cons_succ])
            refine take_at 6 48 oc6 (v := ?_) (Or.inl ⟨by rfl, ?_⟩) ?_
            rotate_left 1
            · ((intro w hSw; (try dsimp only at hSw); unfold oc6; go_simp) <;> with_reducible rfl)
            (try simp only [Act.put, List.setIfInBounds_toArray, List.set_cons_zero, List.set_cons_succ])
            refine take_at 7 49 oc7 (v := ?_) (Or.inl ⟨by rfl, ?_⟩) ?_
            rotate_left 1
            · ((intro w hSw; (try dsimp only at hSw); unfold oc7; go_simp) <;> with_reducible rfl)
            (try simp only [Act.put, List.setIfInBounds_toArray, List.set_cons_zero, List.set_cons_succ])
            refine take_at 8 50 oc8 (v := ?_) (Or.inl ⟨by rfl, ?_⟩) ?_
            rotate_left 1
            · ((intro w hSw; (try dsimp only at hSw); unfold oc8; go_simp) <;> with_reducible rfl)
            (try simp only [Act.put, List.setIfInBounds_toArray, List.set_cons_zero, List.set_cons_succ])
            refine take_at 10 52 oc10 (v := ?_) (Or.inl ⟨by rfl, ?_⟩) ?_
            rotate_left 1
            · ((intro w hSw; (try dsimp only at hSw); unfold oc10; go_simp) <;> with_reducible rfl)
            (try simp only [Act.put, List.setIfInBounds_toArray, List.set_cons_zero, List.set_cons_succ])
            refine wpAnyH_ready (rs := [9]) (by kernel_rfl) (by simp) ?_
            refine AllReadyH.cons (o := oc9) rfl (fun K hK => ?_) ?_
            · unfold oc9
              go_simp
              (go_at_call 36; have hS := hHeld.1; refine (dsize_any x _ _ (kp_lies hS HLX.out) HSX.out).mono ?_; rintro e wn ⟨rfl, hbn⟩; have hh := kp_call hS hbn; clear hbn hS hHeld)
              refine hK.out _ _ ?_ (fun hHeld => ?_)
              · (try dsimp only)
                (((with_reducible refine kp_and ?_ HTC.out HXC.out); repeat (first | with_reducible assumption | with_reducible exact hk0 | with_reducible refine kp_drew ?_)))
              clear hK K
              (try simp only [Act.put, List.setIfInBounds_toArray, List.set_cons_zero, List.set_cons_succ])
              refine wpAnyH_ready (rs := [11]) (by kernel_rfl) (by simp) ?_
              refine AllReadyH.cons (o := oc11) rfl (fun K hK => ?_) ?_
              · unfold oc11
                go_simp
                (go_at_call 36; have hS := hHeld.1; refine (dsize_any t _ _ (kp_lies hS HLT.out) HSZ.out).mono ?_; rintro e wn ⟨rfl, hbn⟩; have hh := kp_call hS hbn; clear hbn hS hHeld)
                refine hK.out _ _ ?_ (fun hHeld => ?_)
                · (try dsimp only)
                  (((with_reducible refine kp_and ?_ HTC.out HXC.out); repeat (first | with_reducible assumption | with_reducible exact hk0 | with_reducible refine kp_drew ?_)))
                clear hK K
                (try simp only [Act.put, List.setIfInBounds_toArray, List.set_cons_zero, List.set_cons_succ])
                refine take_at 12 54 oc12 (v := ?_) (Or.inl ⟨by rfl, ?_⟩) ?_
                rotate_left 1
                · ((intro w hSw; (try dsimp only at hSw); unfold oc12; go_simp) <;> with_reducible rfl)
                (try simp only [Act.put, List.setIfInBounds_toArray, List.set_cons_zero, List.set_cons_succ])
                refine take_at 13 55 oc13 (v := ?_) (Or.inl ⟨by rfl, ?_⟩) ?_
                rotate_left 1
                · ((intro w hSw; (try dsimp only at hSw); unfold oc13; go_simp) <;> with_reducible rfl)
                (try simp only [Act.put, List.setIfInBounds_toArray, List.set_cons_zero, List.set_cons_succ])
                refine take_at 14 56 oc14 (v := ?_) (Or.inl ⟨by rfl, ?_⟩) ?_
                rotate_left 1
                · ((intro w hSw; (try dsimp only at hSw); unfold oc14; go_simp) <;> with_reducible rfl)
                (try simp only [Act.put, List.setIfInBounds_toArray, List.set_cons_zero, List.set_cons_succ])
                refine take_at 15 57 oc15 (v := ?_) (Or.inl ⟨by rfl, ?_⟩) ?_
                rotate_left 1
                · ((intro w hSw; (try dsimp only at hSw); unfold oc15; go_simp) <;> with_reducible rfl)
                (try simp only [Act.put, List.setIfInBounds_toArray, List.set_cons_zero, List.set_cons_succ])
                refine take_at 17 59 oc17 (v := ?_) (Or.inl ⟨by rfl, ?_⟩) ?_
                rotate_left 1
                · ((intro w hSw; (try dsimp only at hSw); unfold oc17; go_simp) <;> with_reducible rfl)
                (try simp only [Act.put, List.setIfInBounds_toArray, List.set_cons_zero, List.set_cons_succ])
                refine take_at 18 60 oc18 (v := ?_) (Or.inl ⟨by rfl, ?_⟩) ?_
                rotate_left 1
                · ((intro w hSw; (try dsimp only at hSw); unfold oc18; go_simp) <;> with_reducible rfl)
                (try simp only [Act.put, List.setIfInBounds_toArray, List.set_cons_zero, List.set_cons_succ])
                refine take_at 20 62 oc20 (v := ?_) (Or.inl ⟨by rfl, ?_⟩) ?_
                rotate_left 1
                · ((intro w hSw; (try dsimp only at hSw); unfold oc20; go_simp) <;> with_reducible rfl)
                (try simp only [Act.put, List.setIfInBounds_toArray, List.set_cons_zero, List.set_cons_succ])
                refine wpAnyH_ready (rs := [16]) (by kernel_rfl) (by simp) ?_
                refine AllReadyH.cons (o := oc16) rfl (fun K hK => ?_) ?_
                · unfold oc16
                  go_simp
                  (go_at_call 37; have hS := hHeld.1; refine (ddeep_any x _ _ (kp_lies hS HLX.out) HSX.out).mono ?_; rintro e wn ⟨rfl, hbn⟩; have hh := kp_call hS hbn; clear hbn hS hHeld)
                  refine hK.out _ _ ?_ (fun hHeld => ?_)
                  · (try dsimp only)
                    (((with_reducible refine kp_and ?_ HTC.out HXC.out); repeat (first | with_reducible assumption | with_reducible exact hk0 | with_reducible refine kp_drew ?_)))
                  clear hK K
                  (try simp only [Act.put, List.setIfInBounds_toArray, List.set_cons_zero, List.set_cons_succ])
                  refine take_at 19 61 oc19 (v := ?_) (Or.inl ⟨by rfl, ?_⟩) ?_
                  rotate_left 1
                  · ((intro w hSw; (try dsimp only at hSw); unfold oc19; go_simp) <;> with_reducible rfl)
                  (try simp only [Act.put, List.setIfInBounds_toArray, List.set_cons_zero, List.set_cons_succ])
                  refine wpAnyH_ready (rs := [21]) (by kernel_rfl) (by simp) ?_
                  refine AllReadyH.cons (o := oc21) rfl (fun K hK => ?_) ?_
                  · unfold oc21
                    go_simp
                    (go_at_call 37; have hS := hHeld.1; refine (ddeep_any t _ _ (kp_lies hS HLT.out) HSZ.out).mono ?_; rintro e wn ⟨rfl, hbn⟩; have hh := kp_call hS hbn; clear hbn hS hHeld)
                    refine hK.out _ _ ?_ (fun hHeld => ?_)
                    · (try dsimp only)
                      (((with_reducible refine kp_and ?_ HTC.out HXC.out); repeat (first | with_reducible assumption | with_reducible exact hk0 | with_reducible refine kp_drew ?_)))
                    clear hK K
                    (try simp only [Act.put, List.setIfInBounds_toArray, List.set_cons_zero, List.set_cons_succ])
                    refine take_at 22 64 oc22 (v := ?_) (Or.inl ⟨by rfl, ?_⟩) ?_
                    rotate_left 1
                    · ((intro w hSw; (try dsimp only at hSw); unfold oc22; go_simp) <;> with_reducible rfl)
                    (try simp only [Act.put, List.setIfInBounds_toArray, List.set_cons_zero, List.set_cons_succ])
                    refine take_at 23 65 oc23 (v := ?_) (Or.inl ⟨by rfl, ?_⟩) ?_
                    rotate_left 1
                    · ((intro w hSw; (try dsimp only at hSw); unfold oc23; go_simp) <;> with_reducible rfl)
                    (try simp only [Act.put, List.setIfInBounds_toArray, List.set_cons_zero, List.set_cons_succ])
                    refine wpAnyH_done (by kernel_rfl) ?_ _
                    have hkv := hHeld.1
                    clear hHeld
                    go_wp2_with fail
                    go_meet
                    case rel => exact ⟨rfl, hkv⟩
                  exact AllReadyH.nil
                exact AllReadyH.nil
              exact AllReadyH.nil
            exact AllReadyH.nil
          exact AllReadyH.nil
      case rest =>
        obtain ⟨rfl, hkv⟩ := hcut
        clear t0 t1 t2 x0 x1 x2 E1 E1' E2 E3
        obtain ⟨t0, t1, t2⟩ := HTC.out.keep hkv
        obtain ⟨x0, x1, x2⟩ := HXC.out.keep hkv
        have hxl : x.kids.length ≤ 1000000000000 := by have := len_sizes x.kids; have := x.size_eq; have := HSX.out; omega
        go_wp2_with fail
        go_loopw [7] (fun iv wr => ∃ i : Int, -1 ≤ i ∧ i ≤ (x.kids.length : Int) + 1 ∧ iv = .int .i64 i ∧ Kp V wr) (fun iv _ => ((x.kids.length : Int) + 1 - intOf iv).toNat)
        case atStart => exact ⟨-1, by omega, by omega, rfl, hkv⟩
        case round =>
          clear t0 t1 t2 x0 x1 x2 hkv
          obtain ⟨i, hi0, hi1, rfl, hkr⟩ := hrel
          obtain ⟨t0, t1, t2⟩ := HTC.out.keep hkr
          obtain ⟨x0, x1, x2⟩ := HXC.out.keep hkr
          by_cases hle : i ≤ (x.kids.length : Int)
          · have F1 : decide (i ≤ (x.kids.length : Int)) = true := decide_eq_true hle
            go_wp2_with fail
            clear t0 t1 t2 x0 x1 x2
            have HAT2 := Lib.hid (at_two HAT.out i)
            obtain ⟨Y, b, hv, hyb⟩ := HAT2.out
            have HV := Lib.hid hv
            have HYB := Lib.hid hyb
            clear hv hyb HAT2
            obtain ⟨t0, t1, t2⟩ := HTC.out.keep hkr
            obtain ⟨x0, x1, x2⟩ := HXC.out.keep hkr
            go_upto_region 11 with fail
            go_cut [8, 9] (fun s8 s9 wx => DoneAt V Y b s8 s9 wx)
            case first =>
              refine wp_region_held_drew (S := fun w' => Kp V w' ∧ w'.cell? ⟨w.heap.size, 0, none⟩ = some (.int .i64 t.k) ∧ w'.cell? ⟨w.heap.size, 1, none⟩ = some (.int .i64 t.i) ∧ w'.cell? ⟨w.heap.size, 2, none⟩ = some (.slice a t.kids.length cap) ∧ w'.cell? ⟨gx, 0, none⟩ = some (.int .i64 x.k) ∧ w'.cell? ⟨gx, 1, none⟩ = some (.int .i64 x.i) ∧ w'.cell? ⟨gx, 2, none⟩ = some (.slice a3 x.kids.length cap3)) (by kernel_rfl) ?_ (fun hHeld => ?_)
              · (try dsimp only)
                (((with_reducible refine kp_and ?_ HTC.out HXC.out); repeat (first | with_reducible assumption | with_reducible refine kp_drew ?_)))
              generalize wr.drew = wd at hHeld ⊢
              have hk := hHeld.1
              refine take_at 0 74 oa0 (v := ?_) (Or.inl ⟨by rfl, ?_⟩) ?_
              rotate_left 1
              · ((intro w hSw; (try dsimp only at hSw); unfold oa0; go_simp) <;> with_reducible rfl)
              (try simp only [Act.put, List.setIfInBounds_toArray, List.set_cons_zero, List.set_cons_succ])
              refine take_at 2 76 oa2 (v := ?_) (Or.inl ⟨by rfl, ?_⟩) ?_
              rotate_left 1
              · ((intro w hSw; (try dsimp only at hSw); unfold oa2; go_simp) <;> with_reducible rfl)
              (try simp only [Act.put, List.setIfInBounds_toArray, List.set_cons_zero, List.set_cons_succ])
              refine take_at 4 78 oa4 (v := ?_) (Or.inl ⟨by rfl, ?_⟩) ?_
              rotate_left 1
              · ((intro w hSw; (try dsimp only at hSw); unfold oa4; go_simp) <;> with_reducible rfl)
              (try simp only [Act.put, List.setIfInBounds_toArray, List.set_cons_zero, List.set_cons_succ])
              refine wpAnyH_ready (rs := [1, 5, 11]) (by kernel_rfl) (by simp) ?_
              refine AllReadyH.cons (o := oa1) rfl (fun K hK => ?_) ?_
              · unfold oa1
                go_simp
                (try clear hHeld)
                have hbs : Below wd.heap.size wd ((wd.alloc (.cells #[] 3))) := (Below.refl _ _).alloc (Nat.le_refl _) _
                have hkd : Kp V ((wd.alloc (.cells #[] 3))) := kp_call hk hbs
                obtain ⟨n, hn⟩ : ∃ g, wd.heap.size = g := ⟨_, rfl⟩
                have e1 : ((wd.alloc (.cells #[] 3))).ownsRow V.heap.size 3 1 (.slice (some ⟨n, 0, none⟩) 0 0) 0 [] := by rw [← hn]; exact own_empty hk.size
                rw [hn]
                clear hn
                clear hk hbs
                generalize (wd.alloc (.cells #[] 3)) = wd at hkd e1 ⊢
                have f1 := e1
                clear e1
                have hk := hkd
                clear hkd
                refine hK.out _ _ ?_ (fun hHeld => ?_)
                · exact kp_and hk HTC.out HXC.out
                clear hK K
                (try simp only [Act.put, List.setIfInBounds_toArray, List.set_cons_zero, List.set_cons_succ])
                refine wpAnyH_ready (rs := [3, 5, 11]) (by kernel_rfl) (by simp) ?_
                refine AllReadyH.cons (o := oa3) rfl (fun K hK => ?_) ?_
                · unfold oa3
                  (try clear hHeld)
                  refine step_append_path rfl _ _ rfl V.heap.size i0 HI.out.1 HI.out.2.1 HI.out.2.2.1 HI.out.2.2.2 _ rfl f1 l _ rfl (HP.out.keep (HBV.out.trans (Below.mono hk HBV.out.size))) HLE.out hk.size ?_
                  intro v3 w3 hown hgrow hat
                  have hbs := trivial
                  have hkd : Kp V w3 := Below.grown hk hgrow hk.size (fun k h => (f1.lt k h).1)
                  have e3 : (w3).ownsRow V.heap.size 3 1 v3 l.length (l.map fun i => Value.int .i64 i) := hown
                  clear f1 hgrow hat hown
                  clear hk hbs
                  generalize w3 = wd at hkd e3 ⊢
                  have f3 := e3
                  clear e3
                  have hk := hkd
                  clear hkd
                  refine hK.out _ _ ?_ (fun hHeld => ?_)
                  · exact kp_and hk HTC.out HXC.out
                  clear hK K
                  (try simp only [Act.put, List.setIfInBounds_toArray, List.set_cons_zero, List.set_cons_succ])
                  refine wpAnyH_ready (rs := [5, 11]) (by kernel_rfl) (by simp) ?_
                  refine AllReadyH.cons (o := oa5) rfl (fun K hK => ?_) ?_
                  · unfold oa5
                    go_simp
                    (try clear hHeld)
                    have hbs : Below wd.heap.size wd ((wd.alloc (.cells #[.int .i64 i] 3))) := (Below.refl _ _).alloc (Nat.le_refl _) _
                    have hkd : Kp V ((wd.alloc (.cells #[.int .i64 i] 3))) := kp_call hk hbs
                    obtain ⟨m, hm⟩ : ∃ g, wd.heap.size = g := ⟨_, rfl⟩
                    have e5 : ((wd.alloc (.cells #[.int .i64 i] 3))).heap[m]? = some (.cells #[.int .i64 i] 3 (0, 0)) := by rw [← hm]; exact alloc_new wd _
                    have e3 : ((wd.alloc (.cells #[.int .i64 i] 3))).ownsRow V.heap.size 3 1 v3 l.length (l.map fun i => Value.int .i64 i) := own_keepv f3 (fun k hk => hbs.block _ (f3.lt k hk).2)
                    have n53 : v3.ownBlock ≠ some m := fun h => by have := (f3.lt _ h).2; omega
                    rw [hm]
                    clear hm
                    clear f3
                    clear hk hbs
                    generalize (wd.alloc (.cells #[.int .i64 i] 3)) = wd at hkd e3 e5 ⊢
                    have f3 := e3
                    clear e3
                    have f5 := e5
                    clear e5
                    have hk := hkd
                    clear hkd
                    refine hK.out _ _ ?_ (fun hHeld => ?_)
                    · exact kp_and hk HTC.out HXC.out
                    clear hK K
                    (try simp only [Act.put, List.setIfInBounds_toArray, List.set_cons_zero, List.set_cons_succ])
                    refine wpAnyH_ready (rs := [6, 11]) (by kernel_rfl) (by simp) ?_
                    refine AllReadyH.cons (o := oa6) rfl (fun K hK => ?_) ?_
                    · unfold oa6
                      (try clear hHeld)
                      refine step_append_lies _ rfl _ _ 54 rfl V.heap.size 3 i0 _ 1 8 (by kernel_rfl) HI.out.1 HI.out.2.1 HI.out.2.2.1 HI.out.2.2.2 rfl (by decide) _ l.length (l.map fun i => Value.int .i64 i) rfl f3 ⟨m, 0, none⟩ 1 1 [.int .i64 i] rfl rfl (World.news_of_block f5) (int_one i) (by decide) (by have := HLE.out; unfold maxLen; omega) (by have := HLE.out; omega) hk.size _ rfl ?_
                      intro h ch w3 hown hgrow hat hlt3
                      have hbs := trivial
                      have hkd : Kp V w3 := Below.grown hk hgrow hk.size (fun k h => (f3.lt k h).1)
                      have e6 : (w3).ownsRow V.heap.size 3 1 (.slice (some ⟨h, 0, none⟩) (l.length + 1) ch) (l.length + 1) ((l.map fun i => Value.int .i64 i) ++ [.int .i64 i]) := hown
                      clear f3 f5 hgrow hat hlt3 hown
                      clear hk hbs
                      generalize w3 = wd at hkd e6 ⊢
                      have f6 := e6
                      clear e6
                      have hk := hkd
                      clear hkd
                      refine hK.out _ _ ?_ (fun hHeld => ?_)
                      · exact kp_and hk HTC.out HXC.out
                      clear hK K
                      (try simp only [Act.put, List.setIfInBounds_toArray, List.set_cons_zero, List.set_cons_succ])
                      refine wpAnyH_ready (rs := [7, 11]) (by kernel_rfl) (by simp) ?_
                      refine AllReadyH.cons (o := oa7) rfl (fun K hK => ?_) ?_
                      · unfold oa7
                        go_simp
                        (try clear hHeld)
                        (go_at_call 33; (with_reducible refine (datb_any t (l ++ [i]) wd _ _ (kp_lies hk HLT.out) (own_lies1 f6) HS6.out Y b HV.out).mono ?_); rintro e wn ⟨⟨sY, rfl, hlY⟩, hbs⟩)
                        obtain ⟨aY, cY, rfl, -, -⟩ := hlY.out
                        have hkd : Kp V wn := kp_call hk hbs
                        have eY : LiesP wn (fun _ => True) Y.kids (.slice aY Y.kids.length cY) := hlY.keep (fun _ _ _ => rfl) (fun _ _ _ => trivial)
                        clear hlY f6
                        clear hk hbs
                        generalize wn = wd at hkd  eY ⊢
                        have hk := hkd
                        clear hkd
                        have fY := eY
                        clear eY
                        refine hK.out _ _ ?_ (fun hHeld => ?_)
                        · exact kp_and hk HTC.out HXC.out
                        clear hK K
                        (try simp only [Act.put, List.setIfInBounds_toArray, List.set_cons_zero, List.set_cons_succ])
                        refine take_at 8 73 oa8 (v := ?_) (Or.inl ⟨by rfl, ?_⟩) ?_
                        rotate_left 1
                        · ((intro w hSw; (try dsimp only at hSw); unfold oa8; go_simp) <;> with_reducible rfl)
                        (try simp only [Act.put, List.setIfInBounds_toArray, List.set_cons_zero, List.set_cons_succ])
                        refine take_at 9 82 oa9 (v := ?_) (Or.inl ⟨by rfl, ?_⟩) ?_
                        rotate_left 1
                        · ((intro w hSw; (try dsimp only at hSw); unfold oa9; go_simp) <;> with_reducible rfl)
                        (try simp only [Act.put, List.setIfInBounds_toArray, List.set_cons_zero, List.set_cons_succ])
                        refine take_at 10 83 oa10 (v := ?_) (Or.inl ⟨by rfl, ?_⟩) ?_
                        rotate_left 1
                        · ((intro w hSw; (try dsimp only at hSw); unfold oa10; go_simp) <;> with_reducible rfl)
                        (try simp only [Act.put, List.setIfInBounds_toArray, List.set_cons_zero, List.set_cons_succ])
                        refine wpAnyH_ready (rs := [11]) (by kernel_rfl) (by simp) ?_
                        refine AllReadyH.cons (o := oa11) rfl (fun K hK => ?_) ?_
                        · unfold oa11
                          go_simp
                          (try clear hHeld)
                          have hbs : Below wd.heap.size wd ((wd.alloc (.cells #[.int .i64 0, .int .i64 0, .slice none 0 0] 53))) := (Below.refl _ _).alloc (Nat.le_refl _) _
                          have hkd : Kp V ((wd.alloc (.cells #[.int .i64 0, .int .i64 0, .slice none 0 0] 53))) := kp_call hk hbs
                          obtain ⟨z, hz⟩ : ∃ g, wd.heap.size = g := ⟨_, rfl⟩
                          have eZ : ((wd.alloc (.cells #[.int .i64 0, .int .i64 0, .slice none 0 0] 53))).heap[z]? = some (.cells #[.int .i64 0, .int .i64 0, .slice none 0 0] 53 (0, 0)) := by rw [← hz]; exact alloc_new wd _
                          have hzV : V.heap.size ≤ z := by rw [← hz]; exact hk.size
                          have eY : LiesP ((wd.alloc (.cells #[.int .i64 0, .int .i64 0, .slice none 0 0] 53))) (fun b => b ≠ z) Y.kids (.slice aY Y.kids.length cY) := fY.keep (fun b _ hlt => hbs.block b hlt) (fun b _ hlt => by omega)
                          clear fY
                          rw [hz]
                          clear hz
                          clear hk hbs
                          generalize (wd.alloc (.cells #[.int .i64 0, .int .i64 0, .slice none 0 0] 53)) = wd at hkd eZ eY ⊢
                          have fZ := eZ
                          clear eZ
                          have hk := hkd
                          clear hkd
                          have fY := eY
                          clear eY
                          refine hK.out _ _ ?_ (fun hHeld => ?_)
                          · exact kp_and hk HTC.out HXC.out
                          clear hK K
                          (try simp only [Act.put, List.setIfInBounds_toArray, List.set_cons_zero, List.set_cons_succ])
                          obtain ⟨z0, z1, z2⟩ := five_cells fZ
                          obtain ⟨r0, r1, r2⟩ := five_free fZ
                          refine wpAnyH_ready (rs := [12]) (by kernel_rfl) (by simp) ?_
                          refine AllReadyH.cons (o := oa12) rfl (fun K hK => ?_) ?_
                          · unfold oa12
                            go_simp
                            have hkd : Kp V ((((wd.setCell ⟨z, 0, none⟩ (.int .i64 Y.k)).setCell ⟨z, 1, none⟩ (.int .i64 Y.i)).setCell ⟨z, 2, none⟩ (.slice aY Y.kids.length cY))) := below_five hk hzV _ _ _
                            have e : DoneAt V Y b (.pointer (some ⟨z, 0, none⟩)) (.bool b) ((((wd.setCell ⟨z, 0, none⟩ (.int .i64 Y.k)).setCell ⟨z, 1, none⟩ (.int .i64 Y.i)).setCell ⟨z, 2, none⟩ (.slice aY Y.kids.length cY))) := done_at hk hzV fZ fY b
                            clear hk fZ fY z0 z1 z2 r0 r1 r2
                            generalize (((wd.setCell ⟨z, 0, none⟩ (.int .i64 Y.k)).setCell ⟨z, 1, none⟩ (.int .i64 Y.i)).setCell ⟨z, 2, none⟩ (.slice aY Y.kids.length cY)) = wd at hkd e ⊢
                            refine hK.out _ _ ?_ (fun hHeld => ?_)
                            · exact kp_and hkd HTC.out HXC.out
                            clear hK K
                            (try simp only [Act.put, List.setIfInBounds_toArray, List.set_cons_zero, List.set_cons_succ])
                            refine take_at 13 9 oa13 (v := ?_) (Or.inl ⟨by rfl, ?_⟩) ?_
                            rotate_left 1
                            · ((intro w hSw; (try dsimp only at hSw); unfold oa13; go_simp) <;> with_reducible rfl)
                            (try simp only [Act.put, List.setIfInBounds_toArray, List.set_cons_zero, List.set_cons_succ])
                            refine wpAnyH_done (by kernel_rfl) ?_ _
                            go_wp2_with fail
                            go_meet
                            case rel => exact e
                          exact AllReadyH.nil
                        exact AllReadyH.nil
                      refine AllReadyH.cons (o := oa11) rfl (fun K hK => ?_) ?_
                      · unfold oa11
                        go_simp
                        (try clear hHeld)
                        have hbs : Below wd.heap.size wd ((wd.alloc (.cells #[.int .i64 0, .int .i64 0, .slice none 0 0] 53))) := (Below.refl _ _).alloc (Nat.le_refl _) _
                        have hkd : Kp V ((wd.alloc (.cells #[.int .i64 0, .int .i64 0, .slice none 0 0] 53))) := kp_call hk hbs
                        obtain ⟨z, hz⟩ : ∃ g, wd.heap.size = g := ⟨_, rfl⟩
                        have eZ : ((wd.alloc (.cells #[.int .i64 0, .int .i64 0, .slice none 0 0] 53))).heap[z]? = some (.cells #[.int .i64 0, .int .i64 0, .slice none 0 0] 53 (0, 0)) := by rw [← hz]; exact alloc_new wd _
                        have hzV : V.heap.size ≤ z := by rw [← hz]; exact hk.size
                        have e6 : ((wd.alloc (.cells #[.int .i64 0, .int .i64 0, .slice none 0 0] 53))).ownsRow V.heap.size 3 1 (.slice (some ⟨h, 0, none⟩) (l.length + 1) ch) (l.length + 1) ((l.map fun i => Value.int .i64 i) ++ [.int .i64 i]) := own_keep f6 (hbs.block _ (own_lt f6))
                        have nZ6 : z ≠ h := by have := own_lt f6; omega
                        rw [hz]
                        clear hz
                        clear f6
                        clear hk hbs
                        generalize (wd.alloc (.cells #[.int .i64 0, .int .i64 0, .slice none 0 0] 53)) = wd at hkd e6 eZ ⊢
                        have f6 := e6
                        clear e6
                        have fZ := eZ
                        clear eZ
                        have hk := hkd
                        clear hkd
                        refine hK.out _ _ ?_ (fun hHeld => ?_)
                        · exact kp_and hk HTC.out HXC.out
                        clear hK K
                        (try simp only [Act.put, List.setIfInBounds_toArray, List.set_cons_zero, List.set_cons_succ])
                        refine wpAnyH_ready (rs := [7]) (by kernel_rfl) (by simp) ?_
                        refine AllReadyH.cons (o := oa7) rfl (fun K hK => ?_) ?_
                        · unfold oa7
                          go_simp
                          (try clear hHeld)
                          (go_at_call 33; (with_reducible refine (datb_any t (l ++ [i]) wd _ _ (kp_lies hk HLT.out) (own_lies1 f6) HS6.out Y b HV.out).mono ?_); rintro e wn ⟨⟨sY, rfl, hlY⟩, hbs⟩)
                          obtain ⟨aY, cY, rfl, -, -⟩ := hlY.out
                          have hkd : Kp V wn := kp_call hk hbs
                          have eZ : (wn).heap[z]? = some (.cells #[.int .i64 0, .int .i64 0, .slice none 0 0] 53 (0, 0)) := (hbs.block _ ((Array.getElem?_eq_some_iff.1 fZ).1)).trans fZ
                          have eY : LiesP wn (fun b => b ≠ z) Y.kids (.slice aY Y.kids.length cY) := hlY.keep (fun _ _ _ => rfl) (fun b hb _ => by have := hb.1; have := (Array.getElem?_eq_some_iff.1 fZ).1; omega)
                          clear hlY f6
                          clear fZ
                          clear hk hbs
                          generalize wn = wd at hkd eZ eY ⊢
                          have fZ := eZ
                          clear eZ
                          have hk := hkd
                          clear hkd
                          have fY := eY
                          clear eY
                          refine hK.out _ _ ?_ (fun hHeld => ?_)
                          · exact kp_and hk HTC.out HXC.out
                          clear hK K
                          (try simp only [Act.put, List.setIfInBounds_toArray, List.set_cons_zero, List.set_cons_succ])
                          refine take_at 8 73 oa8 (v := ?_) (Or.inl ⟨by rfl, ?_⟩) ?_
                          rotate_left 1
                          · ((intro w hSw; (try dsimp only at hSw); unfold oa8; go_simp) <;> with_reducible rfl)
                          (try simp only [Act.put, List.setIfInBounds_toArray, List.set_cons_zero, List.set_cons_succ])
                          refine take_at 9 82 oa9 (v := ?_) (Or.inl ⟨by rfl, ?_⟩) ?_
                          rotate_left 1
                          · ((intro w hSw; (try dsimp only at hSw); unfold oa9; go_simp) <;> with_reducible rfl)
                          (try simp only [Act.put, List.setIfInBounds_toArray, List.set_cons_zero, List.set_cons_succ])
                          refine take_at 10 83 oa10 (v := ?_) (Or.inl ⟨by rfl, ?_⟩) ?_
                          rotate_left 1
                          · ((intro w hSw; (try dsimp only at hSw); unfold oa10; go_simp) <;> with_reducible rfl)
                          (try simp only [Act.put, List.setIfInBounds_toArray, List.set_cons_zero, List.set_cons_succ])
                          obtain ⟨z0, z1, z2⟩ := five_cells fZ
                          obtain ⟨r0, r1, r2⟩ := five_free fZ
                          refine wpAnyH_ready (rs := [12]) (by kernel_rfl) (by simp) ?_
                          refine AllReadyH.cons (o := oa12) rfl (fun K hK => ?_) ?_
                          · unfold oa12
                            go_simp
                            have hkd : Kp V ((((wd.setCell ⟨z, 0, none⟩ (.int .i64 Y.k)).setCell ⟨z, 1, none⟩ (.int .i64 Y.i)).setCell ⟨z, 2, none⟩ (.slice aY Y.kids.length cY))) := below_five hk hzV _ _ _
                            have e : DoneAt V Y b (.pointer (some ⟨z, 0, none⟩)) (.bool b) ((((wd.setCell ⟨z, 0, none⟩ (.int .i64 Y.k)).setCell ⟨z, 1, none⟩ (.int .i64 Y.i)).setCell ⟨z, 2, none⟩ (.slice aY Y.kids.length cY))) := done_at hk hzV fZ fY b
                            clear hk fZ fY z0 z1 z2 r0 r1 r2
                            generalize (((wd.setCell ⟨z, 0, none⟩ (.int .i64 Y.k)).setCell ⟨z, 1, none⟩ (.int .i64 Y.i)).setCell ⟨z, 2, none⟩ (.slice aY Y.kids.length cY)) = wd at hkd e ⊢
                            refine hK.out _ _ ?_ (fun hHeld => ?_)
                            · exact kp_and hkd HTC.out HXC.out
                            clear hK K
                            (try simp only [Act.put, List.setIfInBounds_toArray, List.set_cons_zero, List.set_cons_succ])
                            refine take_at 13 9 oa13 (v := ?_) (Or.inl ⟨by rfl, ?_⟩) ?_
                            rotate_left 1
                            · ((intro w hSw; (try dsimp only at hSw); unfold oa13; go_simp) <;> with_reducible rfl)
                            (try simp only [Act.put, List.setIfInBounds_toArray, List.set_cons_zero, List.set_cons_succ])
                            refine wpAnyH_done (by kernel_rfl) ?_ _
                            go_wp2_with fail
                            go_meet
                            case rel => exact e
                          exact AllReadyH.nil
                        exact AllReadyH.nil
                      exact AllReadyH.nil
                    refine AllReadyH.cons (o := oa11) rfl (fun K hK => ?_) ?_
                    · unfold oa11
                      go_simp
                      (try clear hHeld)
                      have hbs : Below wd.heap.size wd ((wd.alloc (.cells #[.int .i64 0, .int .i64 0, .slice none 0 0] 53))) := (Below.refl _ _).alloc (Nat.le_refl _) _
                      have hkd : Kp V ((wd.alloc (.cells #[.int .i64 0, .int .i64 0, .slice none 0 0] 53))) := kp_call hk hbs
                      obtain ⟨z, hz⟩ : ∃ g, wd.heap.size = g := ⟨_, rfl⟩
                      have eZ : ((wd.alloc (.cells #[.int .i64 0, .int .i64 0, .slice none 0 0] 53))).heap[z]? = some (.cells #[.int .i64 0, .int .i64 0, .slice none 0 0] 53 (0, 0)) := by rw [← hz]; exact alloc_new wd _
                      have hzV : V.heap.size ≤ z := by rw [← hz]; exact hk.size
                      have e3 : ((wd.alloc (.cells #[.int .i64 0, .int .i64 0, .slice none 0 0] 53))).ownsRow V.heap.size 3 1 v3 l.length (l.map fun i => Value.int .i64 i) := own_keepv f3 (fun k hk => hbs.block _ (f3.lt k hk).2)
                      have e5 : ((wd.alloc (.cells #[.int .i64 0, .int .i64 0, .slice none 0 0] 53))).heap[m]? = some (.cells #[.int .i64 i] 3 (0, 0)) := (hbs.block _ ((Array.getElem?_eq_some_iff.1 f5).1)).trans f5
                      have nZ3 : v3.ownBlock ≠ some z := fun h => by have := (f3.lt _ h).2; omega
                      have nZ5 : z ≠ m := by have := (Array.getElem?_eq_some_iff.1 f5).1; omega
                      rw [hz]
                      clear hz
                      clear f3 f5
                      clear hk hbs
                      generalize (wd.alloc (.cells #[.int .i64 0, .int .i64 0, .slice none 0 0] 53)) = wd at hkd e3 e5 eZ ⊢
                      have f3 := e3
                      clear e3
                      have f5 := e5
                      clear e5
                      have fZ := eZ
                      clear eZ
                      have hk := hkd
                      clear hkd
                      refine hK.out _ _ ?_ (fun hHeld => ?_)
                      · exact kp_and hk HTC.out HXC.out
                      clear hK K
                      (try simp only [Act.put, List.setIfInBounds_toArray, List.set_cons_zero, List.set_cons_succ])
                      refine wpAnyH_ready (rs := [6]) (by kernel_rfl) (by simp) ?_
                      refine AllReadyH.cons (o := oa6) rfl (fun K hK => ?_) ?_
                      · unfold oa6
                        (try clear hHeld)
                        refine step_append_lies _ rfl _ _ 54 rfl V.heap.size 3 i0 _ 1 8 (by kernel_rfl) HI.out.1 HI.out.2.1 HI.out.2.2.1 HI.out.2.2.2 rfl (by decide) _ l.length (l.map fun i => Value.int .i64 i) rfl f3 ⟨m, 0, none⟩ 1 1 [.int .i64 i] rfl rfl (World.news_of_block f5) (int_one i) (by decide) (by have := HLE.out; unfold maxLen; omega) (by have := HLE.out; omega) hk.size _ rfl ?_
                        intro h ch w3 hown hgrow hat hlt3
                        have hbs := trivial
                        have hkd : Kp V w3 := Below.grown hk hgrow hk.size (fun k h => (f3.lt k h).1)
                        have e6 : (w3).ownsRow V.heap.size 3 1 (.slice (some ⟨h, 0, none⟩) (l.length + 1) ch) (l.length + 1) ((l.map fun i => Value.int .i64 i) ++ [.int .i64 i]) := hown
                        have eZ : (w3).heap[z]? = some (.cells #[.int .i64 0, .int .i64 0, .slice none 0 0] 53 (0, 0)) := (hgrow.block _ ((Array.getElem?_eq_some_iff.1 fZ).1) (fun h => nZ3 h.symm)).trans fZ
                        clear f3 f5 hgrow hat hlt3 hown
                        clear fZ
                        clear hk hbs
                        generalize w3 = wd at hkd eZ e6 ⊢
                        have fZ := eZ
                        clear eZ
                        have f6 := e6
                        clear e6
                        have hk := hkd
                        clear hkd
                        refine hK.out _ _ ?_ (fun hHeld => ?_)
                        · exact kp_and hk HTC.out HXC.out
                        clear hK K
                        (try simp only [Act.put, List.setIfInBounds_toArray, List.set_cons_zero, List.set_cons_succ])
                        refine wpAnyH_ready (rs := [7]) (by kernel_rfl) (by simp) ?_
                        refine AllReadyH.cons (o := oa7) rfl (fun K hK => ?_) ?_
                        · unfold oa7
                          go_simp
                          (try clear hHeld)
                          (go_at_call 33; (with_reducible refine (datb_any t (l ++ [i]) wd _ _ (kp_lies hk HLT.out) (own_lies1 f6) HS6.out Y b HV.out).mono ?_); rintro e wn ⟨⟨sY, rfl, hlY⟩, hbs⟩)
                          obtain ⟨aY, cY, rfl, -, -⟩ := hlY.out
                          have hkd : Kp V wn := kp_call hk hbs
                          have eZ : (wn).heap[z]? = some (.cells #[.int .i64 0, .int .i64 0, .slice none 0 0] 53 (0, 0)) := (hbs.block _ ((Array.getElem?_eq_some_iff.1 fZ).1)).trans fZ
                          have eY : LiesP wn (fun b => b ≠ z) Y.kids (.slice aY Y.kids.length cY) := hlY.keep (fun _ _ _ => rfl) (fun b hb _ => by have := hb.1; have := (Array.getElem?_eq_some_iff.1 fZ).1; omega)
                          clear hlY f6
                          clear fZ
                          clear hk hbs
                          generalize wn = wd at hkd eZ eY ⊢
                          have fZ := eZ
                          clear eZ
                          have hk := hkd
                          clear hkd
                          have fY := eY
                          clear eY
                          refine hK.out _ _ ?_ (fun hHeld => ?_)
                          · exact kp_and hk HTC.out HXC.out
                          clear hK K
                          (try simp only [Act.put, List.setIfInBounds_toArray, List.set_cons_zero, List.set_cons_succ])
                          refine take_at 8 73 oa8 (v := ?_) (Or.inl ⟨by rfl, ?_⟩) ?_
                          rotate_left 1
                          · ((intro w hSw; (try dsimp only at hSw); unfold oa8; go_simp) <;> with_reducible rfl)
                          (try simp only [Act.put, List.setIfInBounds_toArray, List.set_cons_zero, List.set_cons_succ])
                          refine take_at 9 82 oa9 (v := ?_) (Or.inl ⟨by rfl, ?_⟩) ?_
                          rotate_left 1
                          · ((intro w hSw; (try dsimp only at hSw); unfold oa9; go_simp) <;> with_reducible rfl)
                          (try simp only [Act.put, List.setIfInBounds_toArray, List.set_cons_zero, List.set_cons_succ])
                          refine take_at 10 83 oa10 (v := ?_) (Or.inl ⟨by rfl, ?_⟩) ?_
                          rotate_left 1
                          · ((intro w hSw; (try dsimp only at hSw); unfold oa10; go_simp) <;> with_reducible rfl)
                          (try simp only [Act.put, List.setIfInBounds_toArray, List.set_cons_zero, List.set_cons_succ])
                          obtain ⟨z0, z1, z2⟩ := five_cells fZ
                          obtain ⟨r0, r1, r2⟩ := five_free fZ
                          refine wpAnyH_ready (rs := [12]) (by kernel_rfl) (by simp) ?_
                          refine AllReadyH.cons (o := oa12) rfl (fun K hK => ?_) ?_
                          · unfold oa12
                            go_simp
                            have hkd : Kp V ((((wd.setCell ⟨z, 0, none⟩ (.int .i64 Y.k)).setCell ⟨z, 1, none⟩ (.int .i64 Y.i)).setCell ⟨z, 2, none⟩ (.slice aY Y.kids.length cY))) := below_five hk hzV _ _ _
                            have e : DoneAt V Y b (.pointer (some ⟨z, 0, none⟩)) (.bool b) ((((wd.setCell ⟨z, 0, none⟩ (.int .i64 Y.k)).setCell ⟨z, 1, none⟩ (.int .i64 Y.i)).setCell ⟨z, 2, none⟩ (.slice aY Y.kids.length cY))) := done_at hk hzV fZ fY b
                            clear hk fZ fY z0 z1 z2 r0 r1 r2
                            generalize (((wd.setCell ⟨z, 0, none⟩ (.int .i64 Y.k)).setCell ⟨z, 1, none⟩ (.int .i64 Y.i)).setCell ⟨z, 2, none⟩ (.slice aY Y.kids.length cY)) = wd at hkd e ⊢
                            refine hK.out _ _ ?_ (fun hHeld => ?_)
                            · exact kp_and hkd HTC.out HXC.out
                            clear hK K
                            (try simp only [Act.put, List.setIfInBounds_toArray, List.set_cons_zero, List.set_cons_succ])
                            refine take_at 13 9 oa13 (v := ?_) (Or.inl ⟨by rfl, ?_⟩) ?_
                            rotate_left 1
                            · ((intro w hSw; (try dsimp only at hSw); unfold oa13; go_simp) <;> with_reducible rfl)
                            (try simp only [Act.put, List.setIfInBounds_toArray, List.set_cons_zero, List.set_cons_succ])
                            refine wpAnyH_done (by kernel_rfl) ?_ _
                            go_wp2_with fail
                            go_meet
                            case rel => exact e
                          exact AllReadyH.nil
                        exact AllReadyH.nil
                      exact AllReadyH.nil
                    exact AllReadyH.nil
                  refine AllReadyH.cons (o := oa11) rfl (fun K hK => ?_) ?_
                  · unfold oa11
                    go_simp
                    (try clear hHeld)
                    have hbs : Below wd.heap.size wd ((wd.alloc (.cells #[.int .i64 0, .int .i64 0, .slice none 0 0] 53))) := (Below.refl _ _).alloc (Nat.le_refl _) _
                    have hkd : Kp V ((wd.alloc (.cells #[.int .i64 0, .int .i64 0, .slice none 0 0] 53))) := kp_call hk hbs
                    obtain ⟨z, hz⟩ : ∃ g, wd.heap.size = g := ⟨_, rfl⟩
                    have eZ : ((wd.alloc (.cells #[.int .i64 0, .int .i64 0, .slice none 0 0] 53))).heap[z]? = some (.cells #[.int .i64 0, .int .i64 0, .slice none 0 0] 53 (0, 0)) := by rw [← hz]; exact alloc_new wd _
                    have hzV : V.heap.size ≤ z := by rw [← hz]; exact hk.size
                    have e3 : ((wd.alloc (.cells #[.int .i64 0, .int .i64 0, .slice none 0 0] 53))).ownsRow V.heap.size 3 1 v3 l.length (l.map fun i => Value.int .i64 i) := own_keepv f3 (fun k hk => hbs.block _ (f3.lt k hk).2)
                    have nZ3 : v3.ownBlock ≠ some z := fun h => by have := (f3.lt _ h).2; omega
                    rw [hz]
                    clear hz
                    clear f3
                    clear hk hbs
                    generalize (wd.alloc (.cells #[.int .i64 0, .int .i64 0, .slice none 0 0] 53)) = wd at hkd e3 eZ ⊢
                    have f3 := e3
                    clear e3
                    have fZ := eZ
                    clear eZ
                    have hk := hkd
                    clear hkd
                    refine hK.out _ _ ?_ (fun hHeld => ?_)
                    · exact kp_and hk HTC.out HXC.out
                    clear hK K
                    (try simp only [Act.put, List.setIfInBounds_toArray, List.set_cons_zero, List.set_cons_succ])
                    refine wpAnyH_ready (rs := [5]) (by kernel_rfl) (by simp) ?_
                    refine AllReadyH.cons (o := oa5) rfl (fun K hK => ?_) ?_
                    · unfold oa5
                      go_simp
                      (try clear hHeld)
                      have hbs : Below wd.heap.size wd ((wd.alloc (.cells #[.int .i64 i] 3))) := (Below.refl _ _).alloc (Nat.le_refl _) _
                      have hkd : Kp V ((wd.alloc (.cells #[.int .i64 i] 3))) := kp_call hk hbs
                      obtain ⟨m, hm⟩ : ∃ g, wd.heap.size = g := ⟨_, rfl⟩
                      have e5 : ((wd.alloc (.cells #[.int .i64 i] 3))).heap[m]? = some (.cells #[.int .i64 i] 3 (0, 0)) := by rw [← hm]; exact alloc_new wd _
                      have e3 : ((wd.alloc (.cells #[.int .i64 i] 3))).ownsRow V.heap.size 3 1 v3 l.length (l.map fun i => Value.int .i64 i) := own_keepv f3 (fun k hk => hbs.block _ (f3.lt k hk).2)
                      have eZ : ((wd.alloc (.cells #[.int .i64 i] 3))).heap[z]? = some (.cells #[.int .i64 0, .int .i64 0, .slice none 0 0] 53 (0, 0)) := (hbs.block _ ((Array.getElem?_eq_some_iff.1 fZ).1)).trans fZ
                      have n53 : v3.ownBlock ≠ some m := fun h => by have := (f3.lt _ h).2; omega
                      have n5Z : m ≠ z := by have := (Array.getElem?_eq_some_iff.1 fZ).1; omega
                      rw [hm]
                      clear hm
                      clear f3 fZ
                      clear hk hbs
                      generalize (wd.alloc (.cells #[.int .i64 i] 3)) = wd at hkd e3 eZ e5 ⊢
                      have f3 := e3
                      clear e3
                      have fZ := eZ
                      clear eZ
                      have f5 := e5
                      clear e5
                      have hk := hkd
                      clear hkd
                      refine hK.out _ _ ?_ (fun hHeld => ?_)
                      · exact kp_and hk HTC.out HXC.out
                      clear hK K
                      (try simp only [Act.put, List.setIfInBounds_toArray, List.set_cons_zero, List.set_cons_succ])
                      refine wpAnyH_ready (rs := [6]) (by kernel_rfl) (by simp) ?_
                      refine AllReadyH.cons (o := oa6) rfl (fun K hK => ?_) ?_
                      · unfold oa6
                        (try clear hHeld)
                        refine step_append_lies _ rfl _ _ 54 rfl V.heap.size 3 i0 _ 1 8 (by kernel_rfl) HI.out.1 HI.out.2.1 HI.out.2.2.1 HI.out.2.2.2 rfl (by decide) _ l.length (l.map fun i => Value.int .i64 i) rfl f3 ⟨m, 0, none⟩ 1 1 [.int .i64 i] rfl rfl (World.news_of_block f5) (int_one i) (by decide) (by have := HLE.out; unfold maxLen; omega) (by have := HLE.out; omega) hk.size _ rfl ?_
                        intro h ch w3 hown hgrow hat hlt3
                        have hbs := trivial
                        have hkd : Kp V w3 := Below.grown hk hgrow hk.size (fun k h => (f3.lt k h).1)
                        have e6 : (w3).ownsRow V.heap.size 3 1 (.slice (some ⟨h, 0, none⟩) (l.length + 1) ch) (l.length + 1) ((l.map fun i => Value.int .i64 i) ++ [.int .i64 i]) := hown
                        have eZ : (w3).heap[z]? = some (.cells #[.int .i64 0, .int .i64 0, .slice none 0 0] 53 (0, 0)) := (hgrow.block _ ((Array.getElem?_eq_some_iff.1 fZ).1) (fun h => nZ3 h.symm)).trans fZ
                        clear f3 f5 hgrow hat hlt3 hown
                        clear fZ
                        clear hk hbs
                        generalize w3 = wd at hkd eZ e6 ⊢
                        have fZ := eZ
                        clear eZ
                        have f6 := e6
                        clear e6
                        have hk := hkd
                        clear hkd
                        refine hK.out _ _ ?_ (fun hHeld => ?_)
                        · exact kp_and hk HTC.out HXC.out
                        clear hK K
                        (try simp only [Act.put, List.setIfInBounds_toArray, List.set_cons_zero, List.set_cons_succ])
                        refine wpAnyH_ready (rs := [7]) (by kernel_rfl) (by simp) ?_
                        refine AllReadyH.cons (o := oa7) rfl (fun K hK => ?_) ?_
                        · unfold oa7
                          go_simp
                          (try clear hHeld)
                          (go_at_call 33; (with_reducible refine (datb_any t (l ++ [i]) wd _ _ (kp_lies hk HLT.out) (own_lies1 f6) HS6.out Y b HV.out).mono ?_); rintro e wn ⟨⟨sY, rfl, hlY⟩, hbs⟩)
                          obtain ⟨aY, cY, rfl, -, -⟩ := hlY.out
                          have hkd : Kp V wn := kp_call hk hbs
                          have eZ : (wn).heap[z]? = some (.cells #[.int .i64 0, .int .i64 0, .slice none 0 0] 53 (0, 0)) := (hbs.block _ ((Array.getElem?_eq_some_iff.1 fZ).1)).trans fZ
                          have eY : LiesP wn (fun b => b ≠ z) Y.kids (.slice aY Y.kids.length cY) := hlY.keep (fun _ _ _ => rfl) (fun b hb _ => by have := hb.1; have := (Array.getElem?_eq_some_iff.1 fZ).1; omega)
                          clear hlY f6
                          clear fZ
                          clear hk hbs
                          generalize wn = wd at hkd eZ eY ⊢
                          have fZ := eZ
                          clear eZ
                          have hk := hkd
                          clear hkd
                          have fY := eY
                          clear eY
                          refine hK.out _ _ ?_ (fun hHeld => ?_)
                          · exact kp_and hk HTC.out HXC.out
                          clear hK K
                          (try simp only [Act.put, List.setIfInBounds_toArray, List.set_cons_zero, List.set_cons_succ])
                          refine take_at 8 73 oa8 (v := ?_) (Or.inl ⟨by rfl, ?_⟩) ?_
                          rotate_left 1
                          · ((intro w hSw; (try dsimp only at hSw); unfold oa8; go_simp) <;> with_reducible rfl)
                          (try simp only [Act.put, List.setIfInBounds_toArray, List.set_cons_zero, List.set_cons_succ])
                          refine take_at 9 82 oa9 (v := ?_) (Or.inl ⟨by rfl, ?_⟩) ?_
                          rotate_left 1
                          · ((intro w hSw; (try dsimp only at hSw); unfold oa9; go_simp) <;> with_reducible rfl)
                          (try simp only [Act.put, List.setIfInBounds_toArray, List.set_cons_zero, List.set_cons_succ])
                          refine take_at 10 83 oa10 (v := ?_) (Or.inl ⟨by rfl, ?_⟩) ?_
                          rotate_left 1
                          · ((intro w hSw; (try dsimp only at hSw); unfold oa10; go_simp) <;> with_reducible rfl)
                          (try simp only [Act.put, List.setIfInBounds_toArray, List.set_cons_zero, List.set_cons_succ])
                          obtain ⟨z0, z1, z2⟩ := five_cells fZ
                          obtain ⟨r0, r1, r2⟩ := five_free fZ
                          refine wpAnyH_ready (rs := [12]) (by kernel_rfl) (by simp) ?_
                          refine AllReadyH.cons (o := oa12) rfl (fun K hK => ?_) ?_
                          · unfold oa12
                            go_simp
                            have hkd : Kp V ((((wd.setCell ⟨z, 0, none⟩ (.int .i64 Y.k)).setCell ⟨z, 1, none⟩ (.int .i64 Y.i)).setCell ⟨z, 2, none⟩ (.slice aY Y.kids.length cY))) := below_five hk hzV _ _ _
                            have e : DoneAt V Y b (.pointer (some ⟨z, 0, none⟩)) (.bool b) ((((wd.setCell ⟨z, 0, none⟩ (.int .i64 Y.k)).setCell ⟨z, 1, none⟩ (.int .i64 Y.i)).setCell ⟨z, 2, none⟩ (.slice aY Y.kids.length cY))) := done_at hk hzV fZ fY b
                            clear hk fZ fY z0 z1 z2 r0 r1 r2
                            generalize (((wd.setCell ⟨z, 0, none⟩ (.int .i64 Y.k)).setCell ⟨z, 1, none⟩ (.int .i64 Y.i)).setCell ⟨z, 2, none⟩ (.slice aY Y.kids.length cY)) = wd at hkd e ⊢
                            refine hK.out _ _ ?_ (fun hHeld => ?_)
                            · exact kp_and hkd HTC.out HXC.out
                            clear hK K
                            (try simp only [Act.put, List.setIfInBounds_toArray, List.set_cons_zero, List.set_cons_succ])
                            refine take_at 13 9 oa13 (v := ?_) (Or.inl ⟨by rfl, ?_⟩) ?_
                            rotate_left 1
                            · ((intro w hSw; (try dsimp only at hSw); unfold oa13; go_simp) <;> with_reducible rfl)
                            (try simp only [Act.put, List.setIfInBounds_toArray, List.set_cons_zero, List.set_cons_succ])
                            refine wpAnyH_done (by kernel_rfl) ?_ _
                            go_wp2_with fail
                            go_meet
                            case rel => exact e
                          exact AllReadyH.nil
                        exact AllReadyH.nil
                      exact AllReadyH.nil
                    exact AllReadyH.nil
                  exact AllReadyH.nil
                refine AllReadyH.cons (o := oa5) rfl (fun K hK => ?_) ?_
                · unfold oa5
                  go_simp
                  (try clear hHeld)
                  have hbs : Below wd.heap.size wd ((wd.alloc (.cells #[.int .i64 i] 3))) := (Below.refl _ _).alloc (Nat.le_refl _) _
                  have hkd : Kp V ((wd.alloc (.cells #[.int .i64 i] 3))) := kp_call hk hbs
                  obtain ⟨m, hm⟩ : ∃ g, wd.heap.size = g := ⟨_, rfl⟩
                  have e5 : ((wd.alloc (.cells #[.int .i64 i] 3))).heap[m]? = some (.cells #[.int .i64 i] 3 (0, 0)) := by rw [← hm]; exact alloc_new wd _
                  have e1 : ((wd.alloc (.cells #[.int .i64 i] 3))).ownsRow V.heap.size 3 1 (.slice (some ⟨n, 0, none⟩) 0 0) 0 [] := own_keep f1 (hbs.block _ (own_lt f1))
                  have n51 : m ≠ n := by have := own_lt f1; omega
                  rw [hm]
                  clear hm
                  clear f1
                  clear hk hbs
                  generalize (wd.alloc (.cells #[.int .i64 i] 3)) = wd at hkd e1 e5 ⊢
                  have f1 := e1
                  clear e1
                  have f5 := e5
                  clear e5
                  have hk := hkd
                  clear hkd
                  refine hK.out _ _ ?_ (fun hHeld => ?_)
                  · exact kp_and hk HTC.out HXC.out
                  clear hK K
                  (try simp only [Act.put, List.setIfInBounds_toArray, List.set_cons_zero, List.set_cons_succ])
                  refine wpAnyH_ready (rs := [3, 11]) (by kernel_rfl) (by simp) ?_
                  refine AllReadyH.cons (o := oa3) rfl (fun K hK => ?_) ?_
                  · unfold oa3
                    (try clear hHeld)
                    refine step_append_path rfl _ _ rfl V.heap.size i0 HI.out.1 HI.out.2.1 HI.out.2.2.1 HI.out.2.2.2 _ rfl f1 l _ rfl (HP.out.keep (HBV.out.trans (Below.mono hk HBV.out.size))) HLE.out hk.size ?_
                    intro v3 w3 hown hgrow hat
                    have hbs := trivial
                    have hkd : Kp V w3 := Below.grown hk hgrow hk.size (fun k h => (f1.lt k h).1)
                    have e3 : (w3).ownsRow V.heap.size 3 1 v3 l.length (l.map fun i => Value.int .i64 i) := hown
                    have e5 : (w3).heap[m]? = some (.cells #[.int .i64 i] 3 (0, 0)) := (hgrow.block _ ((Array.getElem?_eq_some_iff.1 f5).1) (fun h => by have h1 := n51; have h2 : m = n := Option.some.inj h; omega)).trans f5
                    have n53 : v3.ownBlock ≠ some m := fun h => by
                      have h0 := (Array.getElem?_eq_some_iff.1 f5).1
                      have h1 := n51
                      rcases hat with e | e
                      · rw [e] at h
                        have h2 : n = m := Option.some.inj h
                        omega
                      · rw [e] at h
                        have h2 : wd.heap.size = m := Option.some.inj h
                        omega
                    clear f1 hgrow hat hown
                    clear f5
                    clear hk hbs
                    generalize w3 = wd at hkd e5 e3 ⊢
                    have f5 := e5
                    clear e5
                    have f3 := e3
                    clear e3
                    have hk := hkd
                    clear hkd
                    refine hK.out _ _ ?_ (fun hHeld => ?_)
                    · exact kp_and hk HTC.out HXC.out
                    clear hK K
                    (try simp only [Act.put, List.setIfInBounds_toArray, List.set_cons_zero, List.set_cons_succ])
                    refine wpAnyH_ready (rs := [6, 11]) (by kernel_rfl) (by simp) ?_
                    refine AllReadyH.cons (o := oa6) rfl (fun K hK => ?_) ?_
                    · unfold oa6
                      (try clear hHeld)
                      refine step_append_lies _ rfl _ _ 54 rfl V.heap.size 3 i0 _ 1 8 (by kernel_rfl) HI.out.1 HI.out.2.1 HI.out.2.2.1 HI.out.2.2.2 rfl (by decide) _ l.length (l.map fun i => Value.int .i64 i) rfl f3 ⟨m, 0, none⟩ 1 1 [.int .i64 i] rfl rfl (World.news_of_block f5) (int_one i) (by decide) (by have := HLE.out; unfold maxLen; omega) (by have := HLE.out; omega) hk.size _ rfl ?_
                      intro h ch w3 hown hgrow hat hlt3
                      have hbs := trivial
                      have hkd : Kp V w3 := Below.grown hk hgrow hk.size (fun k h => (f3.lt k h).1)
                      have e6 : (w3).ownsRow V.heap.size 3 1 (.slice (some ⟨h, 0, none⟩) (l.length + 1) ch) (l.length + 1) ((l.map fun i => Value.int .i64 i) ++ [.int .i64 i]) := hown
                      clear f3 f5 hgrow hat hlt3 hown
                      clear hk hbs
                      generalize w3 = wd at hkd e6 ⊢
                      have f6 := e6
                      clear e6
                      have hk := hkd
                      clear hkd
                      refine hK.out _ _ ?_ (fun hHeld => ?_)
                      · exact kp_and hk HTC.out HXC.out
                      clear hK K
                      (try simp only [Act.put, List.setIfInBounds_toArray, List.set_cons_zero, List.set_cons_succ])
                      refine wpAnyH_ready (rs := [7, 11]) (by kernel_rfl) (by simp) ?_
                      refine AllReadyH.cons (o := oa7) rfl (fun K hK => ?_) ?_
                      · unfold oa7
                        go_simp
                        (try clear hHeld)
                        (go_at_call 33; (with_reducible refine (datb_any t (l ++ [i]) wd _ _ (kp_lies hk HLT.out) (own_lies1 f6) HS6.out Y b HV.out).mono ?_); rintro e wn ⟨⟨sY, rfl, hlY⟩, hbs⟩)
                        obtain ⟨aY, cY, rfl, -, -⟩ := hlY.out
                        have hkd : Kp V wn := kp_call hk hbs
                        have eY : LiesP wn (fun _ => True) Y.kids (.slice aY Y.kids.length cY) := hlY.keep (fun _ _ _ => rfl) (fun _ _ _ => trivial)
                        clear hlY f6
                        clear hk hbs
                        generalize wn = wd at hkd  eY ⊢
                        have hk := hkd
                        clear hkd
                        have fY := eY
                        clear eY
                        refine hK.out _ _ ?_ (fun hHeld => ?_)
                        · exact kp_and hk HTC.out HXC.out
                        clear hK K
                        (try simp only [Act.put, List.setIfInBounds_toArray, List.set_cons_zero, List.set_cons_succ])
                        refine take_at 8 73 oa8 (v := ?_) (Or.inl ⟨by rfl, ?_⟩) ?_
                        rotate_left 1
                        · ((intro w hSw; (try dsimp only at hSw); unfold oa8; go_simp) <;> with_reducible rfl)
                        (try simp only [Act.put, List.setIfInBounds_toArray, List.set_cons_zero, List.set_cons_succ])
                        refine take_at 9 82 oa9 (v := ?_) (Or.inl ⟨by rfl, ?_⟩) ?_
                        rotate_left 1
                        · ((intro w hSw; (try dsimp only at hSw); unfold oa9; go_simp) <;> with_reducible rfl)
                        (try simp only [Act.put, List.setIfInBounds_toArray, List.set_cons_zero, List.set_cons_succ])
                        refine take_at 10 83 oa10 (v := ?_) (Or.inl ⟨by rfl, ?_⟩) ?_
                        rotate_left 1
                        · ((intro w hSw; (try dsimp only at hSw); unfold oa10; go_simp) <;> with_reducible rfl)
                        (try simp only [Act.put, List.setIfInBounds_toArray, List.set_cons_zero, List.set_cons_succ])
                        refine wpAnyH_ready (rs := [11]) (by kernel_rfl) (by simp) ?_
                        refine AllReadyH.cons (o := oa11) rfl (fun K hK => ?_) ?_
                        · unfold oa11
                          go_simp
                          (try clear hHeld)
                          have hbs : Below wd.heap.size wd ((wd.alloc (.cells #[.int .i64 0, .int .i64 0, .slice none 0 0] 53))) := (Below.refl _ _).alloc (Nat.le_refl _) _
                          have hkd : Kp V ((wd.alloc (.cells #[.int .i64 0, .int .i64 0, .slice none 0 0] 53))) := kp_call hk hbs
                          obtain ⟨z, hz⟩ : ∃ g, wd.heap.size = g := ⟨_, rfl⟩
                          have eZ : ((wd.alloc (.cells #[.int .i64 0, .int .i64 0, .slice none 0 0] 53))).heap[z]? = some (.cells #[.int .i64 0, .int .i64 0, .slice none 0 0] 53 (0, 0)) := by rw [← hz]; exact alloc_new wd _
                          have hzV : V.heap.size ≤ z := by rw [← hz]; exact hk.size
                          have eY : LiesP ((wd.alloc (.cells #[.int .i64 0, .int .i64 0, .slice none 0 0] 53))) (fun b => b ≠ z) Y.kids (.slice aY Y.kids.length cY) := fY.keep (fun b _ hlt => hbs.block b hlt) (fun b _ hlt => by omega)
                          clear fY
                          rw [hz]
                          clear hz
                          clear hk hbs
                          generalize (wd.alloc (.cells #[.int .i64 0, .int .i64 0, .slice none 0 0] 53)) = wd at hkd eZ eY ⊢
                          have fZ := eZ
                          clear eZ
                          have hk := hkd
                          clear hkd
                          have fY := eY
                          clear eY
                          refine hK.out _ _ ?_ (fun hHeld => ?_)
                          · exact kp_and hk HTC.out HXC.out
                          clear hK K
                          (try simp only [Act.put, List.setIfInBounds_toArray, List.set_cons_zero, List.set_cons_succ])
                          obtain ⟨z0, z1, z2⟩ := five_cells fZ
                          obtain ⟨r0, r1, r2⟩ := five_free fZ
                          refine wpAnyH_ready (rs := [12]) (by kernel_rfl) (by simp) ?_
                          refine AllReadyH.cons (o := oa12) rfl (fun K hK => ?_) ?_
                          · unfold oa12
                            go_simp
                            have hkd : Kp V ((((wd.setCell ⟨z, 0, none⟩ (.int .i64 Y.k)).setCell ⟨z, 1, none⟩ (.int .i64 Y.i)).setCell ⟨z, 2, none⟩ (.slice aY Y.kids.length cY))) := below_five hk hzV _ _ _
                            have e : DoneAt V Y b (.pointer (some ⟨z, 0, none⟩)) (.bool b) ((((wd.setCell ⟨z, 0, none⟩ (.int .i64 Y.k)).setCell ⟨z, 1, none⟩ (.int .i64 Y.i)).setCell ⟨z, 2, none⟩ (.slice aY Y.kids.length cY))) := done_at hk hzV fZ fY b
                            clear hk fZ fY z0 z1 z2 r0 r1 r2
                            generalize (((wd.setCell ⟨z, 0, none⟩ (.int .i64 Y.k)).setCell ⟨z, 1, none⟩ (.int .i64 Y.i)).setCell ⟨z, 2, none⟩ (.slice aY Y.kids.length cY)) = wd at hkd e ⊢
                            refine hK.out _ _ ?_ (fun hHeld => ?_)
                            · exact kp_and hkd HTC.out HXC.out
                            clear hK K
                            (try simp only [Act.put, List.setIfInBounds_toArray, List.set_cons_zero, List.set_cons_succ])
                            refine take_at 13 9 oa13 (v := ?_) (Or.inl ⟨by rfl, ?_⟩) ?_
                            rotate_left 1
                            · ((intro w hSw; (try dsimp only at hSw); unfold oa13; go_simp) <;> with_reducible rfl)
                            (try simp only [Act.put, List.setIfInBounds_toArray, List.set_cons_zero, List.set_cons_succ])
                            refine wpAnyH_done (by kernel_rfl) ?_ _
                            go_wp2_with fail
                            go_meet
                            case rel => exact e
                          exact AllReadyH.nil
                        exact AllReadyH.nil
                      refine AllReadyH.cons (o := oa11) rfl (fun K hK => ?_) ?_
                      · unfold oa11
                        go_simp
                        (try clear hHeld)
                        have hbs : Below wd.heap.size wd ((wd.alloc (.cells #[.int .i64 0, .int .i64 0, .slice none 0 0] 53))) := (Below.refl _ _).alloc (Nat.le_refl _) _
                        have hkd : Kp V ((wd.alloc (.cells #[.int .i64 0, .int .i64 0, .slice none 0 0] 53))) := kp_call hk hbs
                        obtain ⟨z, hz⟩ : ∃ g, wd.heap.size = g := ⟨_, rfl⟩
                        have eZ : ((wd.alloc (.cells #[.int .i64 0, .int .i64 0, .slice none 0 0] 53))).heap[z]? = some (.cells #[.int .i64 0, .int .i64 0, .slice none 0 0] 53 (0, 0)) := by rw [← hz]; exact alloc_new wd _
                        have hzV : V.heap.size ≤ z := by rw [← hz]; exact hk.size
                        have e6 : ((wd.alloc (.cells #[.int .i64 0, .int .i64 0, .slice none 0 0] 53))).ownsRow V.heap.size 3 1 (.slice (some ⟨h, 0, none⟩) (l.length + 1) ch) (l.length + 1) ((l.map fun i => Value.int .i64 i) ++ [.int .i64 i]) := own_keep f6 (hbs.block _ (own_lt f6))
                        have nZ6 : z ≠ h := by have := own_lt f6; omega
                        rw [hz]
                        clear hz
                        clear f6
                        clear hk hbs
                        generalize (wd.alloc (.cells #[.int .i64 0, .int .i64 0, .slice none 0 0] 53)) = wd at hkd e6 eZ ⊢
                        have f6 := e6
                        clear e6
                        have fZ := eZ
                        clear eZ
                        have hk := hkd
                        clear hkd
                        refine hK.out _ _ ?_ (fun hHeld => ?_)
                        · exact kp_and hk HTC.out HXC.out
                        clear hK K
                        (try simp only [Act.put, List.setIfInBounds_toArray, List.set_cons_zero, List.set_cons_succ])
                        refine wpAnyH_ready (rs := [7]) (by kernel_rfl) (by simp) ?_
                        refine AllReadyH.cons (o := oa7) rfl (fun K hK => ?_) ?_
                        · unfold oa7
                          go_simp
                          (try clear hHeld)
                          (go_at_call 33; (with_reducible refine (datb_any t (l ++ [i]) wd _ _ (kp_lies hk HLT.out) (own_lies1 f6) HS6.out Y b HV.out).mono ?_); rintro e wn ⟨⟨sY, rfl, hlY⟩, hbs⟩)
                          obtain ⟨aY, cY, rfl, -, -⟩ := hlY.out
                          have hkd : Kp V wn := kp_call hk hbs
                          have eZ : (wn).heap[z]? = some (.cells #[.int .i64 0, .int .i64 0, .slice none 0 0] 53 (0, 0)) := (hbs.block _ ((Array.getElem?_eq_some_iff.1 fZ).1)).trans fZ
                          have eY : LiesP wn (fun b => b ≠ z) Y.kids (.slice aY Y.kids.length cY) := hlY.keep (fun _ _ _ => rfl) (fun b hb _ => by have := hb.1; have := (Array.getElem?_eq_some_iff.1 fZ).1; omega)
                          clear hlY f6
                          clear fZ
                          clear hk hbs
                          generalize wn = wd at hkd eZ eY ⊢
                          have fZ := eZ
                          clear eZ
                          have hk := hkd
                          clear hkd
                          have fY := eY
                          clear eY
                          refine hK.out _ _ ?_ (fun hHeld => ?_)
                          · exact kp_and hk HTC.out HXC.out
                          clear hK K
                          (try simp only [Act.put, List.setIfInBounds_toArray, List.set_cons_zero, List.set_cons_succ])
                          refine take_at 8 73 oa8 (v := ?_) (Or.inl ⟨by rfl, ?_⟩) ?_
                          rotate_left 1
                          · ((intro w hSw; (try dsimp only at hSw); unfold oa8; go_simp) <;> with_reducible rfl)
                          (try simp only [Act.put, List.setIfInBounds_toArray, List.set_cons_zero, List.set_cons_succ])
                          refine take_at 9 82 oa9 (v := ?_) (Or.inl ⟨by rfl, ?_⟩) ?_
                          rotate_left 1
                          · ((intro w hSw; (try dsimp only at hSw); unfold oa9; go_simp) <;> with_reducible rfl)
                          (try simp only [Act.put, List.setIfInBounds_toArray, List.set_cons_zero, List.set_cons_succ])
                          refine take_at 10 83 oa10 (v := ?_) (Or.inl ⟨by rfl, ?_⟩) ?_
                          rotate_left 1
                          · ((intro w hSw; (try dsimp only at hSw); unfold oa10; go_simp) <;> with_reducible rfl)
                          (try simp only [Act.put, List.setIfInBounds_toArray, List.set_cons_zero, List.set_cons_succ])
                          obtain ⟨z0, z1, z2⟩ := five_cells fZ
                          obtain ⟨r0, r1, r2⟩ := five_free fZ
                          refine wpAnyH_ready (rs := [12]) (by kernel_rfl) (by simp) ?_
                          refine AllReadyH.cons (o := oa12) rfl (fun K hK => ?_) ?_
                          · unfold oa12
                            go_simp
                            have hkd : Kp V ((((wd.setCell ⟨z, 0, none⟩ (.int .i64 Y.k)).setCell ⟨z, 1, none⟩ (.int .i64 Y.i)).setCell ⟨z, 2, none⟩ (.slice aY Y.kids.length cY))) := below_five hk hzV _ _ _
                            have e : DoneAt V Y b (.pointer (some ⟨z, 0, none⟩)) (.bool b) ((((wd.setCell ⟨z, 0, none⟩ (.int .i64 Y.k)).setCell ⟨z, 1, none⟩ (.int .i64 Y.i)).setCell ⟨z, 2, none⟩ (.slice aY Y.kids.length cY))) := done_at hk hzV fZ fY b
                            clear hk fZ fY z0 z1 z2 r0 r1 r2
                            generalize (((wd.setCell ⟨z, 0, none⟩ (.int .i64 Y.k)).setCell ⟨z, 1, none⟩ (.int .i64 Y.i)).setCell ⟨z, 2, none⟩ (.slice aY Y.kids.length cY)) = wd at hkd e ⊢
                            refine hK.out _ _ ?_ (fun hHeld => ?_)
                            · exact kp_and hkd HTC.out HXC.out
                            clear hK K
                            (try simp only [Act.put, List.setIfInBounds_toArray, List.set_cons_zero, List.set_cons_succ])
                            refine take_at 13 9 oa13 (v := ?_) (Or.inl ⟨by rfl, ?_⟩) ?_
                            rotate_left 1
                            · ((intro w hSw; (try dsimp only at hSw); unfold oa13; go_simp) <;> with_reducible rfl)
                            (try simp only [Act.put, List.setIfInBounds_toArray, List.set_cons_zero, List.set_cons_succ])
                            refine wpAnyH_done (by kernel_rfl) ?_ _
                            go_wp2_with fail
                            go_meet
                            case rel => exact e
                          exact AllReadyH.nil
                        exact AllReadyH.nil
                      exact AllReadyH.nil
                    refine AllReadyH.cons (o := oa11) rfl (fun K hK => ?_) ?_
                    · unfold oa11
                      go_simp
                      (try clear hHeld)
                      have hbs : Below wd.heap.size wd ((wd.alloc (.cells #[.int .i64 0, .int .i64 0, .slice none 0 0] 53))) := (Below.refl _ _).alloc (Nat.le_refl _) _
                      have hkd : Kp V ((wd.alloc (.cells #[.int .i64 0, .int .i64 0, .slice none 0 0] 53))) := kp_call hk hbs
                      obtain ⟨z, hz⟩ : ∃ g, wd.heap.size = g := ⟨_, rfl⟩
                      have eZ : ((wd.alloc (.cells #[.int .i64 0, .int .i64 0, .slice none 0 0] 53))).heap[z]? = some (.cells #[.int .i64 0, .int .i64 0, .slice none 0 0] 53 (0, 0)) := by rw [← hz]; exact alloc_new wd _
                      have hzV : V.heap.size ≤ z := by rw [← hz]; exact hk.size
                      have e5 : ((wd.alloc (.cells #[.int .i64 0, .int .i64 0, .slice none 0 0] 53))).heap[m]? = some (.cells #[.int .i64 i] 3 (0, 0)) := (hbs.block _ ((Array.getElem?_eq_some_iff.1 f5).1)).trans f5
                      have e3 : ((wd.alloc (.cells #[.int .i64 0, .int .i64 0, .slice none 0 0] 53))).ownsRow V.heap.size 3 1 v3 l.length (l.map fun i => Value.int .i64 i) := own_keepv f3 (fun k hk => hbs.block _ (f3.lt k hk).2)
                      have nZ5 : z ≠ m := by have := (Array.getElem?_eq_some_iff.1 f5).1; omega
                      have nZ3 : v3.ownBlock ≠ some z := fun h => by have := (f3.lt _ h).2; omega
                      rw [hz]
                      clear hz
                      clear f5 f3
                      clear hk hbs
                      generalize (wd.alloc (.cells #[.int .i64 0, .int .i64 0, .slice none 0 0] 53)) = wd at hkd e5 e3 eZ ⊢
                      have f5 := e5
                      clear e5
                      have f3 := e3
                      clear e3
                      have fZ := eZ
                      clear eZ
                      have hk := hkd
                      clear hkd
                      refine hK.out _ _ ?_ (fun hHeld => ?_)
                      · exact kp_and hk HTC.out HXC.out
                      clear hK K
                      (try simp only [Act.put, List.setIfInBounds_toArray, List.set_cons_zero, List.set_cons_succ])
                      refine wpAnyH_ready (rs := [6]) (by kernel_rfl) (by simp) ?_
                      refine AllReadyH.cons (o := oa6) rfl (fun K hK => ?_) ?_
                      · unfold oa6
                        (try clear hHeld)
                        refine step_append_lies _ rfl _ _ 54 rfl V.heap.size 3 i0 _ 1 8 (by kernel_rfl) HI.out.1 HI.out.2.1 HI.out.2.2.1 HI.out.2.2.2 rfl (by decide) _ l.length (l.map fun i => Value.int .i64 i) rfl f3 ⟨m, 0, none⟩ 1 1 [.int .i64 i] rfl rfl (World.news_of_block f5) (int_one i) (by decide) (by have := HLE.out; unfold maxLen; omega) (by have := HLE.out; omega) hk.size _ rfl ?_
                        intro h ch w3 hown hgrow hat hlt3
                        have hbs := trivial
                        have hkd : Kp V w3 := Below.grown hk hgrow hk.size (fun k h => (f3.lt k h).1)
                        have e6 : (w3).ownsRow V.heap.size 3 1 (.slice (some ⟨h, 0, none⟩) (l.length + 1) ch) (l.length + 1) ((l.map fun i => Value.int .i64 i) ++ [.int .i64 i]) := hown
                        have eZ : (w3).heap[z]? = some (.cells #[.int .i64 0, .int .i64 0, .slice none 0 0] 53 (0, 0)) := (hgrow.block _ ((Array.getElem?_eq_some_iff.1 fZ).1) (fun h => nZ3 h.symm)).trans fZ
                        clear f3 f5 hgrow hat hlt3 hown
                        clear fZ
                        clear hk hbs
                        generalize w3 = wd at hkd eZ e6 ⊢
                        have fZ := eZ
                        clear eZ
                        have f6 := e6
                        clear e6
                        have hk := hkd
                        clear hkd
                        refine hK.out _ _ ?_ (fun hHeld => ?_)
                        · exact kp_and hk HTC.out HXC.out
                        clear hK K
                        (try simp only [Act.put, List.setIfInBounds_toArray, List.set_cons_zero, List.set_cons_succ])
                        refine wpAnyH_ready (rs := [7]) (by kernel_rfl) (by simp) ?_
                        refine AllReadyH.cons (o := oa7) rfl (fun K hK => ?_) ?_
                        · unfold oa7
                          go_simp
                          (try clear hHeld)
                          (go_at_call 33; (with_reducible refine (datb_any t (l ++ [i]) wd _ _ (kp_lies hk HLT.out) (own_lies1 f6) HS6.out Y b HV.out).mono ?_); rintro e wn ⟨⟨sY, rfl, hlY⟩, hbs⟩)
                          obtain ⟨aY, cY, rfl, -, -⟩ := hlY.out
                          have hkd : Kp V wn := kp_call hk hbs
                          have eZ : (wn).heap[z]? = some (.cells #[.int .i64 0, .int .i64 0, .slice none 0 0] 53 (0, 0)) := (hbs.block _ ((Array.getElem?_eq_some_iff.1 fZ).1)).trans fZ
                          have eY : LiesP wn (fun b => b ≠ z) Y.kids (.slice aY Y.kids.length cY) := hlY.keep (fun _ _ _ => rfl) (fun b hb _ => by have := hb.1; have := (Array.getElem?_eq_some_iff.1 fZ).1; omega)
                          clear hlY f6
                          clear fZ
                          clear hk hbs
                          generalize wn = wd at hkd eZ eY ⊢
                          have fZ := eZ
                          clear eZ
                          have hk := hkd
                          clear hkd
                          have fY := eY
                          clear eY
                          refine hK.out _ _ ?_ (fun hHeld => ?_)
                          · exact kp_and hk HTC.out HXC.out
                          clear hK K
                          (try simp only [Act.put, List.setIfInBounds_toArray, List.set_cons_zero, List.set_cons_succ])
                          refine take_at 8 73 oa8 (v := ?_) (Or.inl ⟨by rfl, ?_⟩) ?_
                          rotate_left 1
                          · ((intro w hSw; (try dsimp only at hSw); unfold oa8; go_simp) <;> with_reducible rfl)
                          (try simp only [Act.put, List.setIfInBounds_toArray, List.set_cons_zero, List.set_cons_succ])
                          refine take_at 9 82 oa9 (v := ?_) (Or.inl ⟨by rfl, ?_⟩) ?_
                          rotate_left 1
                          · ((intro w hSw; (try dsimp only at hSw); unfold oa9; go_simp) <;> with_reducible rfl)
                          (try simp only [Act.put, List.setIfInBounds_toArray, List.set_cons_zero, List.set_cons_succ])
                          refine take_at 10 83 oa10 (v := ?_) (Or.inl ⟨by rfl, ?_⟩) ?_
                          rotate_left 1
                          · ((intro w hSw; (try dsimp only at hSw); unfold oa10; go_simp) <;> with_reducible rfl)
                          (try simp only [Act.put, List.setIfInBounds_toArray, List.set_cons_zero, List.set_cons_succ])
                          obtain ⟨z0, z1, z2⟩ := five_cells fZ
                          obtain ⟨r0, r1, r2⟩ := five_free fZ
                          refine wpAnyH_ready (rs := [12]) (by kernel_rfl) (by simp) ?_
                          refine AllReadyH.cons (o := oa12) rfl (fun K hK => ?_) ?_
                          · unfold oa12
                            go_simp
                            have hkd : Kp V ((((wd.setCell ⟨z, 0, none⟩ (.int .i64 Y.k)).setCell ⟨z, 1, none⟩ (.int .i64 Y.i)).setCell ⟨z, 2, none⟩ (.slice aY Y.kids.length cY))) := below_five hk hzV _ _ _
                            have e : DoneAt V Y b (.pointer (some ⟨z, 0, none⟩)) (.bool b) ((((wd.setCell ⟨z, 0, none⟩ (.int .i64 Y.k)).setCell ⟨z, 1, none⟩ (.int .i64 Y.i)).setCell ⟨z, 2, none⟩ (.slice aY Y.kids.length cY))) := done_at hk hzV fZ fY b
                            clear hk fZ fY z0 z1 z2 r0 r1 r2
                            generalize (((wd.setCell ⟨z, 0, none⟩ (.int .i64 Y.k)).setCell ⟨z, 1, none⟩ (.int .i64 Y.i)).setCell ⟨z, 2, none⟩ (.slice aY Y.kids.length cY)) = wd at hkd e ⊢
                            refine hK.out _ _ ?_ (fun hHeld => ?_)
                            · exact kp_and hkd HTC.out HXC.out
                            clear hK K
                            (try simp only [Act.put, List.setIfInBounds_toArray, List.set_cons_zero, List.set_cons_succ])
                            refine take_at 13 9 oa13 (v := ?_) (Or.inl ⟨by rfl, ?_⟩) ?_
                            rotate_left 1
                            · ((intro w hSw; (try dsimp only at hSw); unfold oa13; go_simp) <;> with_reducible rfl)
                            (try simp only [Act.put, List.setIfInBounds_toArray, List.set_cons_zero, List.set_cons_succ])
                            refine wpAnyH_done (by kernel_rfl) ?_ _
                            go_wp2_with fail
                            go_meet
                            case rel => exact e
                          exact AllReadyH.nil
                        exact AllReadyH.nil
                      exact AllReadyH.nil
                    exact AllReadyH.nil
                  refine AllReadyH.cons (o := oa11) rfl (fun K hK => ?_) ?_
                  · unfold oa11
                    go_simp
                    (try clear hHeld)
                    have hbs : Below wd.heap.size wd ((wd.alloc (.cells #[.int .i64 0, .int .i64 0, .slice none 0 0] 53))) := (Below.refl _ _).alloc (Nat.le_refl _) _
                    have hkd : Kp V ((wd.alloc (.cells #[.int .i64 0, .int .i64 0, .slice none 0 0] 53))) := kp_call hk hbs
                    obtain ⟨z, hz⟩ : ∃ g, wd.heap.size = g := ⟨_, rfl⟩
                    have eZ : ((wd.alloc (.cells #[.int .i64 0, .int .i64 0, .slice none 0 0] 53))).heap[z]? = some (.cells #[.int .i64 0, .int .i64 0, .slice none 0 0] 53 (0, 0)) := by rw [← hz]; exact alloc_new wd _
                    have hzV : V.heap.size ≤ z := by rw [← hz]; exact hk.size
                    have e1 : ((wd.alloc (.cells #[.int .i64 0, .int .i64 0, .slice none 0 0] 53))).ownsRow V.heap.size 3 1 (.slice (some ⟨n, 0, none⟩) 0 0) 0 [] := own_keep f1 (hbs.block _ (own_lt f1))
                    have e5 : ((wd.alloc (.cells #[.int .i64 0, .int .i64 0, .slice none 0 0] 53))).heap[m]? = some (.cells #[.int .i64 i] 3 (0, 0)) := (hbs.block _ ((Array.getElem?_eq_some_iff.1 f5).1)).trans f5
                    have nZ1 : z ≠ n := by have := own_lt f1; omega
                    have nZ5 : z ≠ m := by have := (Array.getElem?_eq_some_iff.1 f5).1; omega
                    rw [hz]
                    clear hz
                    clear f1 f5
                    clear hk hbs
                    generalize (wd.alloc (.cells #[.int .i64 0, .int .i64 0, .slice none 0 0] 53)) = wd at hkd e1 e5 eZ ⊢
                    have f1 := e1
                    clear e1
                    have f5 := e5
                    clear e5
                    have fZ := eZ
                    clear eZ
                    have hk := hkd
                    clear hkd
                    refine hK.out _ _ ?_ (fun hHeld => ?_)
                    · exact kp_and hk HTC.out HXC.out
                    clear hK K
                    (try simp only [Act.put, List.setIfInBounds_toArray, List.set_cons_zero, List.set_cons_succ])
                    refine wpAnyH_ready (rs := [3]) (by kernel_rfl) (by simp) ?_
                    refine AllReadyH.cons (o := oa3) rfl (fun K hK => ?_) ?_
                    · unfold oa3
                      (try clear hHeld)
                      refine step_append_path rfl _ _ rfl V.heap.size i0 HI.out.1 HI.out.2.1 HI.out.2.2.1 HI.out.2.2.2 _ rfl f1 l _ rfl (HP.out.keep (HBV.out.trans (Below.mono hk HBV.out.size))) HLE.out hk.size ?_
                      intro v3 w3 hown hgrow hat
                      have hbs := trivial
                      have hkd : Kp V w3 := Below.grown hk hgrow hk.size (fun k h => (f1.lt k h).1)
                      have e3 : (w3).ownsRow V.heap.size 3 1 v3 l.length (l.map fun i => Value.int .i64 i) := hown
                      have e5 : (w3).heap[m]? = some (.cells #[.int .i64 i] 3 (0, 0)) := (hgrow.block _ ((Array.getElem?_eq_some_iff.1 f5).1) (fun h => by have h1 := n51; have h2 : m = n := Option.some.inj h; omega)).trans f5
                      have eZ : (w3).heap[z]? = some (.cells #[.int .i64 0, .int .i64 0, .slice none 0 0] 53 (0, 0)) := (hgrow.block _ ((Array.getElem?_eq_some_iff.1 fZ).1) (fun h => by have h1 := nZ1; have h2 : z = n := Option.some.inj h; omega)).trans fZ
                      have n53 : v3.ownBlock ≠ some m := fun h => by
                        have h0 := (Array.getElem?_eq_some_iff.1 f5).1
                        have h1 := n51
                        rcases hat with e | e
                        · rw [e] at h
                          have h2 : n = m := Option.some.inj h
                          omega
                        · rw [e] at h
                          have h2 : wd.heap.size = m := Option.some.inj h
                          omega
                      have nZ3 : v3.ownBlock ≠ some z := fun h => by
                        have h0 := (Array.getElem?_eq_some_iff.1 fZ).1
                        have h1 := nZ1
                        rcases hat with e | e
                        · rw [e] at h
                          have h2 : n = z := Option.some.inj h
                          omega
                        · rw [e] at h
                          have h2 : wd.heap.size = z := Option.some.inj h
                          omega
                      clear f1 hgrow hat hown
                      clear f5 fZ
                      clear hk hbs
                      generalize w3 = wd at hkd e5 eZ e3 ⊢
                      have f5 := e5
                      clear e5
                      have fZ := eZ
                      clear eZ
                      have f3 := e3
                      clear e3
                      have hk := hkd
                      clear hkd
                      refine hK.out _ _ ?_ (fun hHeld => ?_)
                      · exact kp_and hk HTC.out HXC.out
                      clear hK K
                      (try simp only [Act.put, List.setIfInBounds_toArray, List.set_cons_zero, List.set_cons_succ])
                      refine wpAnyH_ready (rs := [6]) (by kernel_rfl) (by simp) ?_
                      refine AllReadyH.cons (o := oa6) rfl (fun K hK => ?_) ?_
                      · unfold oa6
                        (try clear hHeld)
                        refine step_append_lies _ rfl _ _ 54 rfl V.heap.size 3 i0 _ 1 8 (by kernel_rfl) HI.out.1 HI.out.2.1 HI.out.2.2.1 HI.out.2.2.2 rfl (by decide) _ l.length (l.map fun i => Value.int .i64 i) rfl f3 ⟨m, 0, none⟩ 1 1 [.int .i64 i] rfl rfl (World.news_of_block f5) (int_one i) (by decide) (by have := HLE.out; unfold maxLen; omega) (by have := HLE.out; omega) hk.size _ rfl ?_
                        intro h ch w3 hown hgrow hat hlt3
                        have hbs := trivial
                        have hkd : Kp V w3 := Below.grown hk hgrow hk.size (fun k h => (f3.lt k h).1)
                        have e6 : (w3).ownsRow V.heap.size 3 1 (.slice (some ⟨h, 0, none⟩) (l.length + 1) ch) (l.length + 1) ((l.map fun i => Value.int .i64 i) ++ [.int .i64 i]) := hown
                        have eZ : (w3).heap[z]? = some (.cells #[.int .i64 0, .int .i64 0, .slice none 0 0] 53 (0, 0)) := (hgrow.block _ ((Array.getElem?_eq_some_iff.1 fZ).1) (fun h => nZ3 h.symm)).trans fZ
                        clear f3 f5 hgrow hat hlt3 hown
                        clear fZ
                        clear hk hbs
                        generalize w3 = wd at hkd eZ e6 ⊢
                        have fZ := eZ
                        clear eZ
                        have f6 := e6
                        clear e6
                        have hk := hkd
                        clear hkd
                        refine hK.out _ _ ?_ (fun hHeld => ?_)
                        · exact kp_and hk HTC.out HXC.out
                        clear hK K
                        (try simp only [Act.put, List.setIfInBounds_toArray, List.set_cons_zero, List.set_cons_succ])
                        refine wpAnyH_ready (rs := [7]) (by kernel_rfl) (by simp) ?_
                        refine AllReadyH.cons (o := oa7) rfl (fun K hK => ?_) ?_
                        · unfold oa7
                          go_simp
                          (try clear hHeld)
                          (go_at_call 33; (with_reducible refine (datb_any t (l ++ [i]) wd _ _ (kp_lies hk HLT.out) (own_lies1 f6) HS6.out Y b HV.out).mono ?_); rintro e wn ⟨⟨sY, rfl, hlY⟩, hbs⟩)
                          obtain ⟨aY, cY, rfl, -, -⟩ := hlY.out
                          have hkd : Kp V wn := kp_call hk hbs
                          have eZ : (wn).heap[z]? = some (.cells #[.int .i64 0, .int .i64 0, .slice none 0 0] 53 (0, 0)) := (hbs.block _ ((Array.getElem?_eq_some_iff.1 fZ).1)).trans fZ
                          have eY : LiesP wn (fun b => b ≠ z) Y.kids (.slice aY Y.kids.length cY) := hlY.keep (fun _ _ _ => rfl) (fun b hb _ => by have := hb.1; have := (Array.getElem?_eq_some_iff.1 fZ).1; omega)
                          clear hlY f6
                          clear fZ
                          clear hk hbs
                          generalize wn = wd at hkd eZ eY ⊢
                          have fZ := eZ
                          clear eZ
                          have hk := hkd
                          clear hkd
                          have fY := eY
                          clear eY
                          refine hK.out _ _ ?_ (fun hHeld => ?_)
                          · exact kp_and hk HTC.out HXC.out
                          clear hK K
                          (try simp only [Act.put, List.setIfInBounds_toArray, List.set_cons_zero, List.set_cons_succ])
                          refine take_at 8 73 oa8 (v := ?_) (Or.inl ⟨by rfl, ?_⟩) ?_
                          rotate_left 1
                          · ((intro w hSw; (try dsimp only at hSw); unfold oa8; go_simp) <;> with_reducible rfl)
                          (try simp only [Act.put, List.setIfInBounds_toArray, List.set_cons_zero, List.set_cons_succ])
                          refine take_at 9 82 oa9 (v := ?_) (Or.inl ⟨by rfl, ?_⟩) ?_
                          rotate_left 1
                          · ((intro w hSw; (try dsimp only at hSw); unfold oa9; go_simp) <;> with_reducible rfl)
                          (try simp only [Act.put, List.setIfInBounds_toArray, List.set_cons_zero, List.set_cons_succ])
                          refine take_at 10 83 oa10 (v := ?_) (Or.inl ⟨by rfl, ?_⟩) ?_
                          rotate_left 1
                          · ((intro w hSw; (try dsimp only at hSw); unfold oa10; go_simp) <;> with_reducible rfl)
                          (try simp only [Act.put, List.setIfInBounds_toArray, List.set_cons_zero, List.set_cons_succ])
                          obtain ⟨z0, z1, z2⟩ := five_cells fZ
                          obtain ⟨r0, r1, r2⟩ := five_free fZ
                          refine wpAnyH_ready (rs := [12]) (by kernel_rfl) (by simp) ?_
                          refine AllReadyH.cons (o := oa12) rfl (fun K hK => ?_) ?_
                          · unfold oa12
                            go_simp
                            have hkd : Kp V ((((wd.setCell ⟨z, 0, none⟩ (.int .i64 Y.k)).setCell ⟨z, 1, none⟩ (.int .i64 Y.i)).setCell ⟨z, 2, none⟩ (.slice aY Y.kids.length cY))) := below_five hk hzV _ _ _
                            have e : DoneAt V Y b (.pointer (some ⟨z, 0, none⟩)) (.bool b) ((((wd.setCell ⟨z, 0, none⟩ (.int .i64 Y.k)).setCell ⟨z, 1, none⟩ (.int .i64 Y.i)).setCell ⟨z, 2, none⟩ (.slice aY Y.kids.length cY))) := done_at hk hzV fZ fY b
                            clear hk fZ fY z0 z1 z2 r0 r1 r2
                            generalize (((wd.setCell ⟨z, 0, none⟩ (.int .i64 Y.k)).setCell ⟨z, 1, none⟩ (.int .i64 Y.i)).setCell ⟨z, 2, none⟩ (.slice aY Y.kids.length cY)) = wd at hkd e ⊢
                            refine hK.out _ _ ?_ (fun hHeld => ?_)
                            · exact kp_and hkd HTC.out HXC.out
                            clear hK K
                            (try simp only [Act.put, List.setIfInBounds_toArray, List.set_cons_zero, List.set_cons_succ])
                            refine take_at 13 9 oa13 (v := ?_) (Or.inl ⟨by rfl, ?_⟩) ?_
                            rotate_left 1
                            · ((intro w hSw; (try dsimp only at hSw); unfold oa13; go_simp) <;> with_reducible rfl)
                            (try simp only [Act.put, List.setIfInBounds_toArray, List.set_cons_zero, List.set_cons_succ])
                            refine wpAnyH_done (by kernel_rfl) ?_ _
                            go_wp2_with fail
                            go_meet
                            case rel => exact e
                          exact AllReadyH.nil
                        exact AllReadyH.nil
                      exact AllReadyH.nil
                    exact AllReadyH.nil
                  exact AllReadyH.nil
                refine AllReadyH.cons (o := oa11) rfl (fun K hK => ?_) ?_
                · unfold oa11
                  go_simp
                  (try clear hHeld)
                  have hbs : Below wd.heap.size wd ((wd.alloc (.cells #[.int .i64 0, .int .i64 0, .slice none 0 0] 53))) := (Below.refl _ _).alloc (Nat.le_refl _) _
                  have hkd : Kp V ((wd.alloc (.cells #[.int .i64 0, .int .i64 0, .slice none 0 0] 53))) := kp_call hk hbs
                  obtain ⟨z, hz⟩ : ∃ g, wd.heap.size = g := ⟨_, rfl⟩
                  have eZ : ((wd.alloc (.cells #[.int .i64 0, .int .i64 0, .slice none 0 0] 53))).heap[z]? = some (.cells #[.int .i64 0, .int .i64 0, .slice none 0 0] 53 (0, 0)) := by rw [← hz]; exact alloc_new wd _
                  have hzV : V.heap.size ≤ z := by rw [← hz]; exact hk.size
                  have e1 : ((wd.alloc (.cells #[.int .i64 0, .int .i64 0, .slice none 0 0] 53))).ownsRow V.heap.size 3 1 (.slice (some ⟨n, 0, none⟩) 0 0) 0 [] := own_keep f1 (hbs.block _ (own_lt f1))
                  have nZ1 : z ≠ n := by have := own_lt f1; omega
                  rw [hz]
                  clear hz
                  clear f1
                  clear hk hbs
                  generalize (wd.alloc (.cells #[.int .i64 0, .int .i64 0, .slice none 0 0] 53)) = wd at hkd e1 eZ ⊢
                  have f1 := e1
                  clear e1
                  have fZ := eZ
                  clear eZ
                  have hk := hkd
                  clear hkd
                  refine hK.out _ _ ?_ (fun hHeld => ?_)
                  · exact kp_and hk HTC.out HXC.out
                  clear hK K
                  (try simp only [Act.put, List.setIfInBounds_toArray, List.set_cons_zero, List.set_cons_succ])
                  refine wpAnyH_ready (rs := [3, 5]) (by kernel_rfl) (by simp) ?_
                  refine AllReadyH.cons (o := oa3) rfl (fun K hK => ?_) ?_
                  · unfold oa3
                    (try clear hHeld)
                    refine step_append_path rfl _ _ rfl V.heap.size i0 HI.out.1 HI.out.2.1 HI.out.2.2.1 HI.out.2.2.2 _ rfl f1 l _ rfl (HP.out.keep (HBV.out.trans (Below.mono hk HBV.out.size))) HLE.out hk.size ?_
                    intro v3 w3 hown hgrow hat
                    have hbs := trivial
                    have hkd : Kp V w3 := Below.grown hk hgrow hk.size (fun k h => (f1.lt k h).1)
                    have e3 : (w3).ownsRow V.heap.size 3 1 v3 l.length (l.map fun i => Value.int .i64 i) := hown
                    have eZ : (w3).heap[z]? = some (.cells #[.int .i64 0, .int .i64 0, .slice none 0 0] 53 (0, 0)) := (hgrow.block _ ((Array.getElem?_eq_some_iff.1 fZ).1) (fun h => by have h1 := nZ1; have h2 : z = n := Option.some.inj h; omega)).trans fZ
                    have nZ3 : v3.ownBlock ≠ some z := fun h => by
                      have h0 := (Array.getElem?_eq_some_iff.1 fZ).1
                      have h1 := nZ1
                      rcases hat with e | e
                      · rw [e] at h
                        have h2 : n = z := Option.some.inj h
                        omega
                      · rw [e] at h
                        have h2 : wd.heap.size = z := Option.some.inj h
                        omega
                    clear f1 hgrow hat hown
                    clear fZ
                    clear hk hbs
                    generalize w3 = wd at hkd eZ e3 ⊢
                    have fZ := eZ
                    clear eZ
                    have f3 := e3
                    clear e3
                    have hk := hkd
                    clear hkd
                    refine hK.out _ _ ?_ (fun hHeld => ?_)
                    · exact kp_and hk HTC.out HXC.out
                    clear hK K
                    (try simp only [Act.put, List.setIfInBounds_toArray, List.set_cons_zero, List.set_cons_succ])
                    refine wpAnyH_ready (rs := [5]) (by kernel_rfl) (by simp) ?_
                    refine AllReadyH.cons (o := oa5) rfl (fun K hK => ?_) ?_
                    · unfold oa5
                      go_simp
                      (try clear hHeld)
                      have hbs : Below wd.heap.size wd ((wd.alloc (.cells #[.int .i64 i] 3))) := (Below.refl _ _).alloc (Nat.le_refl _) _
                      have hkd : Kp V ((wd.alloc (.cells #[.int .i64 i] 3))) := kp_call hk hbs
                      obtain ⟨m, hm⟩ : ∃ g, wd.heap.size = g := ⟨_, rfl⟩
                      have e5 : ((wd.alloc (.cells #[.int .i64 i] 3))).heap[m]? = some (.cells #[.int .i64 i] 3 (0, 0)) := by rw [← hm]; exact alloc_new wd _
                      have eZ : ((wd.alloc (.cells #[.int .i64 i] 3))).heap[z]? = some (.cells #[.int .i64 0, .int .i64 0, .slice none 0 0] 53 (0, 0)) := (hbs.block _ ((Array.getElem?_eq_some_iff.1 fZ).1)).trans fZ
                      have e3 : ((wd.alloc (.cells #[.int .i64 i] 3))).ownsRow V.heap.size 3 1 v3 l.length (l.map fun i => Value.int .i64 i) := own_keepv f3 (fun k hk => hbs.block _ (f3.lt k hk).2)
                      have n5Z : m ≠ z := by have := (Array.getElem?_eq_some_iff.1 fZ).1; omega
                      have n53 : v3.ownBlock ≠ some m := fun h => by have := (f3.lt _ h).2; omega
                      rw [hm]
                      clear hm
                      clear fZ f3
                      clear hk hbs
                      generalize (wd.alloc (.cells #[.int .i64 i] 3)) = wd at hkd eZ e3 e5 ⊢
                      have fZ := eZ
                      clear eZ
                      have f3 := e3
                      clear e3
                      have f5 := e5
                      clear e5
                      have hk := hkd
                      clear hkd
                      refine hK.out _ _ ?_ (fun hHeld => ?_)
                      · exact kp_and hk HTC.out HXC.out
                      clear hK K
                      (try simp only [Act.put, List.setIfInBounds_toArray, List.set_cons_zero, List.set_cons_succ])
                      refine wpAnyH_ready (rs := [6]) (by kernel_rfl) (by simp) ?_
                      refine AllReadyH.cons (o := oa6) rfl (fun K hK => ?_) ?_
                      · unfold oa6
                        (try clear hHeld)
                        refine step_append_lies _ rfl _ _ 54 rfl V.heap.size 3 i0 _ 1 8 (by kernel_rfl) HI.out.1 HI.out.2.1 HI.out.2.2.1 HI.out.2.2.2 rfl (by decide) _ l.length (l.map fun i => Value.int .i64 i) rfl f3 ⟨m, 0, none⟩ 1 1 [.int .i64 i] rfl rfl (World.news_of_block f5) (int_one i) (by decide) (by have := HLE.out; unfold maxLen; omega) (by have := HLE.out; omega) hk.size _ rfl ?_
                        intro h ch w3 hown hgrow hat hlt3
                        have hbs := trivial
                        have hkd : Kp V w3 := Below.grown hk hgrow hk.size (fun k h => (f3.lt k h).1)
                        have e6 : (w3).ownsRow V.heap.size 3 1 (.slice (some ⟨h, 0, none⟩) (l.length + 1) ch) (l.length + 1) ((l.map fun i => Value.int .i64 i) ++ [.int .i64 i]) := hown
                        have eZ : (w3).heap[z]? = some (.cells #[.int .i64 0, .int .i64 0, .slice none 0 0] 53 (0, 0)) := (hgrow.block _ ((Array.getElem?_eq_some_iff.1 fZ).1) (fun h => nZ3 h.symm)).trans fZ
                        clear f3 f5 hgrow hat hlt3 hown
                        clear fZ
                        clear hk hbs
                        generalize w3 = wd at hkd eZ e6 ⊢
                        have fZ := eZ
                        clear eZ
                        have f6 := e6
                        clear e6
                        have hk := hkd
                        clear hkd
                        refine hK.out _ _ ?_ (fun hHeld => ?_)
                        · exact kp_and hk HTC.out HXC.out
                        clear hK K
                        (try simp only [Act.put, List.setIfInBounds_toArray, List.set_cons_zero, List.set_cons_succ])
                        refine wpAnyH_ready (rs := [7]) (by kernel_rfl) (by simp) ?_
                        refine AllReadyH.cons (o := oa7) rfl (fun K hK => ?_) ?_
                        · unfold oa7
                          go_simp
                          (try clear hHeld)
                          (go_at_call 33; (with_reducible refine (datb_any t (l ++ [i]) wd _ _ (kp_lies hk HLT.out) (own_lies1 f6) HS6.out Y b HV.out).mono ?_); rintro e wn ⟨⟨sY, rfl, hlY⟩, hbs⟩)
                          obtain ⟨aY, cY, rfl, -, -⟩ := hlY.out
                          have hkd : Kp V wn := kp_call hk hbs
                          have eZ : (wn).heap[z]? = some (.cells #[.int .i64 0, .int .i64 0, .slice none 0 0] 53 (0, 0)) := (hbs.block _ ((Array.getElem?_eq_some_iff.1 fZ).1)).trans fZ
                          have eY : LiesP wn (fun b => b ≠ z) Y.kids (.slice aY Y.kids.length cY) := hlY.keep (fun _ _ _ => rfl) (fun b hb _ => by have := hb.1; have := (Array.getElem?_eq_some_iff.1 fZ).1; omega)
                          clear hlY f6
                          clear fZ
                          clear hk hbs
                          generalize wn = wd at hkd eZ eY ⊢
                          have fZ := eZ
                          clear eZ
                          have hk := hkd
                          clear hkd
                          have fY := eY
                          clear eY
                          refine hK.out _ _ ?_ (fun hHeld => ?_)
                          · exact kp_and hk HTC.out HXC.out
                          clear hK K
                          (try simp only [Act.put, List.setIfInBounds_toArray, List.set_cons_zero, List.set_cons_succ])
                          refine take_at 8 73 oa8 (v := ?_) (Or.inl ⟨by rfl, ?_⟩) ?_
                          rotate_left 1
                          · ((intro w hSw; (try dsimp only at hSw); unfold oa8; go_simp) <;> with_reducible rfl)
                          (try simp only [Act.put, List.setIfInBounds_toArray, List.set_cons_zero, List.set_cons_succ])
                          refine take_at 9 82 oa9 (v := ?_) (Or.inl ⟨by rfl, ?_⟩) ?_
                          rotate_left 1
                          · ((intro w hSw; (try dsimp only at hSw); unfold oa9; go_simp) <;> with_reducible rfl)
                          (try simp only [Act.put, List.setIfInBounds_toArray, List.set_cons_zero, List.set_cons_succ])
                          refine take_at 10 83 oa10 (v := ?_) (Or.inl ⟨by rfl, ?_⟩) ?_
                          rotate_left 1
                          · ((intro w hSw; (try dsimp only at hSw); unfold oa10; go_simp) <;> with_reducible rfl)
                          (try simp only [Act.put, List.setIfInBounds_toArray, List.set_cons_zero, List.set_cons_succ])
                          obtain ⟨z0, z1, z2⟩ := five_cells fZ
                          obtain ⟨r0, r1, r2⟩ := five_free fZ
                          refine wpAnyH_ready (rs := [12]) (by kernel_rfl) (by simp) ?_
                          refine AllReadyH.cons (o := oa12) rfl (fun K hK => ?_) ?_
                          · unfold oa12
                            go_simp
                            have hkd : Kp V ((((wd.setCell ⟨z, 0, none⟩ (.int .i64 Y.k)).setCell ⟨z, 1, none⟩ (.int .i64 Y.i)).setCell ⟨z, 2, none⟩ (.slice aY Y.kids.length cY))) := below_five hk hzV _ _ _
                            have e : DoneAt V Y b (.pointer (some ⟨z, 0, none⟩)) (.bool b) ((((wd.setCell ⟨z, 0, none⟩ (.int .i64 Y.k)).setCell ⟨z, 1, none⟩ (.int .i64 Y.i)).setCell ⟨z, 2, none⟩ (.slice aY Y.kids.length cY))) := done_at hk hzV fZ fY b
                            clear hk fZ fY z0 z1 z2 r0 r1 r2
                            generalize (((wd.setCell ⟨z, 0, none⟩ (.int .i64 Y.k)).setCell ⟨z, 1, none⟩ (.int .i64 Y.i)).setCell ⟨z, 2, none⟩ (.slice aY Y.kids.length cY)) = wd at hkd e ⊢
                            refine hK.out _ _ ?_ (fun hHeld => ?_)
                            · exact kp_and hkd HTC.out HXC.out
                            clear hK K
                            (try simp only [Act.put, List.setIfInBounds_toArray, List.set_cons_zero, List.set_cons_succ])
                            refine take_at 13 9 oa13 (v := ?_) (Or.inl ⟨by rfl, ?_⟩) ?_
                            rotate_left 1
                            · ((intro w hSw; (try dsimp only at hSw); unfold oa13; go_simp) <;> with_reducible rfl)
                            (try simp only [Act.put, List.setIfInBounds_toArray, List.set_cons_zero, List.set_cons_succ])
                            refine wpAnyH_done (by kernel_rfl) ?_ _
                            go_wp2_with fail
                            go_meet
                            case rel => exact e
                          exact AllReadyH.nil
                        exact AllReadyH.nil
                      exact AllReadyH.nil
                    exact AllReadyH.nil
                  refine AllReadyH.cons (o := oa5) rfl (fun K hK => ?_) ?_
                  · unfold oa5
                    go_simp
                    (try clear hHeld)
                    have hbs : Below wd.heap.size wd ((wd.alloc (.cells #[.int .i64 i] 3))) := (Below.refl _ _).alloc (Nat.le_refl _) _
                    have hkd : Kp V ((wd.alloc (.cells #[.int .i64 i] 3))) := kp_call hk hbs
                    obtain ⟨m, hm⟩ : ∃ g, wd.heap.size = g := ⟨_, rfl⟩
                    have e5 : ((wd.alloc (.cells #[.int .i64 i] 3))).heap[m]? = some (.cells #[.int .i64 i] 3 (0, 0)) := by rw [← hm]; exact alloc_new wd _
                    have e1 : ((wd.alloc (.cells #[.int .i64 i] 3))).ownsRow V.heap.size 3 1 (.slice (some ⟨n, 0, none⟩) 0 0) 0 [] := own_keep f1 (hbs.block _ (own_lt f1))
                    have eZ : ((wd.alloc (.cells #[.int .i64 i] 3))).heap[z]? = some (.cells #[.int .i64 0, .int .i64 0, .slice none 0 0] 53 (0, 0)) := (hbs.block _ ((Array.getElem?_eq_some_iff.1 fZ).1)).trans fZ
                    have n51 : m ≠ n := by have := own_lt f1; omega
                    have n5Z : m ≠ z := by have := (Array.getElem?_eq_some_iff.1 fZ).1; omega
                    rw [hm]
                    clear hm
                    clear f1 fZ
                    clear hk hbs
                    generalize (wd.alloc (.cells #[.int .i64 i] 3)) = wd at hkd e1 eZ e5 ⊢
                    have f1 := e1
                    clear e1
                    have fZ := eZ
                    clear eZ
                    have f5 := e5
                    clear e5
                    have hk := hkd
                    clear hkd
                    refine hK.out _ _ ?_ (fun hHeld => ?_)
                    · exact kp_and hk HTC.out HXC.out
                    clear hK K
                    (try simp only [Act.put, List.setIfInBounds_toArray, List.set_cons_zero, List.set_cons_succ])
                    refine wpAnyH_ready (rs := [3]) (by kernel_rfl) (by simp) ?_
                    refine AllReadyH.cons (o := oa3) rfl (fun K hK => ?_) ?_
                    · unfold oa3
                      (try clear hHeld)
                      refine step_append_path rfl _ _ rfl V.heap.size i0 HI.out.1 HI.out.2.1 HI.out.2.2.1 HI.out.2.2.2 _ rfl f1 l _ rfl (HP.out.keep (HBV.out.trans (Below.mono hk HBV.out.size))) HLE.out hk.size ?_
                      intro v3 w3 hown hgrow hat
                      have hbs := trivial
                      have hkd : Kp V w3 := Below.grown hk hgrow hk.size (fun k h => (f1.lt k h).1)
                      have e3 : (w3).ownsRow V.heap.size 3 1 v3 l.length (l.map fun i => Value.int .i64 i) := hown
                      have eZ : (w3).heap[z]? = some (.cells #[.int .i64 0, .int .i64 0, .slice none 0 0] 53 (0, 0)) := (hgrow.block _ ((Array.getElem?_eq_some_iff.1 fZ).1) (fun h => by have h1 := nZ1; have h2 : z = n := Option.some.inj h; omega)).trans fZ
                      have e5 : (w3).heap[m]? = some (.cells #[.int .i64 i] 3 (0, 0)) := (hgrow.block _ ((Array.getElem?_eq_some_iff.1 f5).1) (fun h => by have h1 := n51; have h2 : m = n := Option.some.inj h; omega)).trans f5
                      have nZ3 : v3.ownBlock ≠ some z := fun h => by
                        have h0 := (Array.getElem?_eq_some_iff.1 fZ).1
                        have h1 := nZ1
                        rcases hat with e | e
                        · rw [e] at h
                          have h2 : n = z := Option.some.inj h
                          omega
                        · rw [e] at h
                          have h2 : wd.heap.size = z := Option.some.inj h
                          omega
                      have n53 : v3.ownBlock ≠ some m := fun h => by
                        have h0 := (Array.getElem?_eq_some_iff.1 f5).1
                        have h1 := n51
                        rcases hat with e | e
                        · rw [e] at h
                          have h2 : n = m := Option.some.inj h
                          omega
                        · rw [e] at h
                          have h2 : wd.heap.size = m := Option.some.inj h
                          omega
                      clear f1 hgrow hat hown
                      clear fZ f5
                      clear hk hbs
                      generalize w3 = wd at hkd eZ e5 e3 ⊢
                      have fZ := eZ
                      clear eZ
                      have f5 := e5
                      clear e5
                      have f3 := e3
                      clear e3
                      have hk := hkd
                      clear hkd
                      refine hK.out _ _ ?_ (fun hHeld => ?_)
                      · exact kp_and hk HTC.out HXC.out
                      clear hK K
                      (try simp only [Act.put, List.setIfInBounds_toArray, List.set_cons_zero, List.set_cons_succ])
                      refine wpAnyH_ready (rs := [6]) (by kernel_rfl) (by simp) ?_
                      refine AllReadyH.cons (o := oa6) rfl (fun K hK => ?_) ?_
                      · unfold oa6
                        (try clear hHeld)
                        refine step_append_lies _ rfl _ _ 54 rfl V.heap.size 3 i0 _ 1 8 (by kernel_rfl) HI.out.1 HI.out.2.1 HI.out.2.2.1 HI.out.2.2.2 rfl (by decide) _ l.length (l.map fun i => Value.int .i64 i) rfl f3 ⟨m, 0, none⟩ 1 1 [.int .i64 i] rfl rfl (World.news_of_block f5) (int_one i) (by decide) (by have := HLE.out; unfold maxLen; omega) (by have := HLE.out; omega) hk.size _ rfl ?_
                        intro h ch w3 hown hgrow hat hlt3
                        have hbs := trivial
                        have hkd : Kp V w3 := Below.grown hk hgrow hk.size (fun k h => (f3.lt k h).1)
                        have e6 : (w3).ownsRow V.heap.size 3 1 (.slice (some ⟨h, 0, none⟩) (l.length + 1) ch) (l.length + 1) ((l.map fun i => Value.int .i64 i) ++ [.int .i64 i]) := hown
                        have eZ : (w3).heap[z]? = some (.cells #[.int .i64 0, .int .i64 0, .slice none 0 0] 53 (0, 0)) := (hgrow.block _ ((Array.getElem?_eq_some_iff.1 fZ).1) (fun h => nZ3 h.symm)).trans fZ
                        clear f3 f5 hgrow hat hlt3 hown
                        clear fZ
                        clear hk hbs
                        generalize w3 = wd at hkd eZ e6 ⊢
                        have fZ := eZ
                        clear eZ
                        have f6 := e6
                        clear e6
                        have hk := hkd
                        clear hkd
                        refine hK.out _ _ ?_ (fun hHeld => ?_)
                        · exact kp_and hk HTC.out HXC.out
                        clear hK K
                        (try simp only [Act.put, List.setIfInBounds_toArray, List.set_cons_zero, List.set_cons_succ])
                        refine wpAnyH_ready (rs := [7]) (by kernel_rfl) (by simp) ?_
                        refine AllReadyH.cons (o := oa7) rfl (fun K hK => ?_) ?_
                        · unfold oa7
                          go_simp
                          (try clear hHeld)
                          (go_at_call 33; (with_reducible refine (datb_any t (l ++ [i]) wd _ _ (kp_lies hk HLT.out) (own_lies1 f6) HS6.out Y b HV.out).mono ?_); rintro e wn ⟨⟨sY, rfl, hlY⟩, hbs⟩)
                          obtain ⟨aY, cY, rfl, -, -⟩ := hlY.out
                          have hkd : Kp V wn := kp_call hk hbs
                          have eZ : (wn).heap[z]? = some (.cells #[.int .i64 0, .int .i64 0, .slice none 0 0] 53 (0, 0)) := (hbs.block _ ((Array.getElem?_eq_some_iff.1 fZ).1)).trans fZ
                          have eY : LiesP wn (fun b => b ≠ z) Y.kids (.slice aY Y.kids.length cY) := hlY.keep (fun _ _ _ => rfl) (fun b hb _ => by have := hb.1; have := (Array.getElem?_eq_some_iff.1 fZ).1; omega)
                          clear hlY f6
                          clear fZ
                          clear hk hbs
                          generalize wn = wd at hkd eZ eY ⊢
                          have fZ := eZ
                          clear eZ
                          have hk := hkd
                          clear hkd
                          have fY := eY
                          clear eY
                          refine hK.out _ _ ?_ (fun hHeld => ?_)
                          · exact kp_and hk HTC.out HXC.out
                          clear hK K
                          (try simp only [Act.put, List.setIfInBounds_toArray, List.set_cons_zero, List.set_cons_succ])
                          refine take_at 8 73 oa8 (v := ?_) (Or.inl ⟨by rfl, ?_⟩) ?_
                          rotate_left 1
                          · ((intro w hSw; (try dsimp only at hSw); unfold oa8; go_simp) <;> with_reducible rfl)
                          (try simp only [Act.put, List.setIfInBounds_toArray, List.set_cons_zero, List.set_cons_succ])
                          refine take_at 9 82 oa9 (v := ?_) (Or.inl ⟨by rfl, ?_⟩) ?_
                          rotate_left 1
                          · ((intro w hSw; (try dsimp only at hSw); unfold oa9; go_simp) <;> with_reducible rfl)
                          (try simp only [Act.put, List.setIfInBounds_toArray, List.set_cons_zero, List.set_cons_succ])
                          refine take_at 10 83 oa10 (v := ?_) (Or.inl ⟨by rfl, ?_⟩) ?_
                          rotate_left 1
                          · ((intro w hSw; (try dsimp only at hSw); unfold oa10; go_simp) <;> with_reducible rfl)
                          (try simp only [Act.put, List.setIfInBounds_toArray, List.set_cons_zero, List.set_cons_succ])
                          obtain ⟨z0, z1, z2⟩ := five_cells fZ
                          obtain ⟨r0, r1, r2⟩ := five_free fZ
                          refine wpAnyH_ready (rs := [12]) (by kernel_rfl) (by simp) ?_
                          refine AllReadyH.cons (o := oa12) rfl (fun K hK => ?_) ?_
                          · unfold oa12
                            go_simp
                            have hkd : Kp V ((((wd.setCell ⟨z, 0, none⟩ (.int .i64 Y.k)).setCell ⟨z, 1, none⟩ (.int .i64 Y.i)).setCell ⟨z, 2, none⟩ (.slice aY Y.kids.length cY))) := below_five hk hzV _ _ _
                            have e : DoneAt V Y b (.pointer (some ⟨z, 0, none⟩)) (.bool b) ((((wd.setCell ⟨z, 0, none⟩ (.int .i64 Y.k)).setCell ⟨z, 1, none⟩ (.int .i64 Y.i)).setCell ⟨z, 2, none⟩ (.slice aY Y.kids.length cY))) := done_at hk hzV fZ fY b
                            clear hk fZ fY z0 z1 z2 r0 r1 r2
                            generalize (((wd.setCell ⟨z, 0, none⟩ (.int .i64 Y.k)).setCell ⟨z, 1, none⟩ (.int .i64 Y.i)).setCell ⟨z, 2, none⟩ (.slice aY Y.kids.length cY)) = wd at hkd e ⊢
                            refine hK.out _ _ ?_ (fun hHeld => ?_)
                            · exact kp_and hkd HTC.out HXC.out
                            clear hK K
                            (try simp only [Act.put, List.setIfInBounds_toArray, List.set_cons_zero, List.set_cons_succ])
                            refine take_at 13 9 oa13 (v := ?_) (Or.inl ⟨by rfl, ?_⟩) ?_
                            rotate_left 1
                            · ((intro w hSw; (try dsimp only at hSw); unfold oa13; go_simp) <;> with_reducible rfl)
                            (try simp only [Act.put, List.setIfInBounds_toArray, List.set_cons_zero, List.set_cons_succ])
                            refine wpAnyH_done (by kernel_rfl) ?_ _
                            go_wp2_with fail
                            go_meet
                            case rel => exact e
                          exact AllReadyH.nil
                        exact AllReadyH.nil
                      exact AllReadyH.nil
                    exact AllReadyH.nil
                  exact AllReadyH.nil
                exact AllReadyH.nil
              refine AllReadyH.cons (o := oa5) rfl (fun K hK => ?_) ?_
              · unfold oa5
                go_simp
                (try clear hHeld)
                have hbs : Below wd.heap.size wd ((wd.alloc (.cells #[.int .i64 i] 3))) := (Below.refl _ _).alloc (Nat.le_refl _) _
                have hkd : Kp V ((wd.alloc (.cells #[.int .i64 i] 3))) := kp_call hk hbs
                obtain ⟨m, hm⟩ : ∃ g, wd.heap.size = g := ⟨_, rfl⟩
                have e5 : ((wd.alloc (.cells #[.int .i64 i] 3))).heap[m]? = some (.cells #[.int .i64 i] 3 (0, 0)) := by rw [← hm]; exact alloc_new wd _
                rw [hm]
                clear hm
                clear hk hbs
                generalize (wd.alloc (.cells #[.int .i64 i] 3)) = wd at hkd e5 ⊢
                have f5 := e5
                clear e5
                have hk := hkd
                clear hkd
                refine hK.out _ _ ?_ (fun hHeld => ?_)
                · exact kp_and hk HTC.out HXC.out
                clear hK K
                (try simp only [Act.put, List.setIfInBounds_toArray, List.set_cons_zero, List.set_cons_succ])
                refine wpAnyH_ready (rs := [1, 11]) (by kernel_rfl) (by simp) ?_
                refine AllReadyH.cons (o := oa1) rfl (fun K hK => ?_) ?_
                · unfold oa1
                  go_simp
                  (try clear hHeld)
                  have hbs : Below wd.heap.size wd ((wd.alloc (.cells #[] 3))) := (Below.refl _ _).alloc (Nat.le_refl _) _
                  have hkd : Kp V ((wd.alloc (.cells #[] 3))) := kp_call hk hbs
                  obtain ⟨n, hn⟩ : ∃ g, wd.heap.size = g := ⟨_, rfl⟩
                  have e1 : ((wd.alloc (.cells #[] 3))).ownsRow V.heap.size 3 1 (.slice (some ⟨n, 0, none⟩) 0 0) 0 [] := by rw [← hn]; exact own_empty hk.size
                  have e5 : ((wd.alloc (.cells #[] 3))).heap[m]? = some (.cells #[.int .i64 i] 3 (0, 0)) := (hbs.block _ ((Array.getElem?_eq_some_iff.1 f5).1)).trans f5
                  have n15 : n ≠ m := by have := (Array.getElem?_eq_some_iff.1 f5).1; omega
                  rw [hn]
                  clear hn
                  clear f5
                  clear hk hbs
                  generalize (wd.alloc (.cells #[] 3)) = wd at hkd e5 e1 ⊢
                  have f5 := e5
                  clear e5
                  have f1 := e1
                  clear e1
                  have hk := hkd
                  clear hkd
                  refine hK.out _ _ ?_ (fun hHeld => ?_)
                  · exact kp_and hk HTC.out HXC.out
                  clear hK K
                  (try simp only [Act.put, List.setIfInBounds_toArray, List.set_cons_zero, List.set_cons_succ])
                  refine wpAnyH_ready (rs := [3, 11]) (by kernel_rfl) (by simp) ?_
                  refine AllReadyH.cons (o := oa3) rfl (fun K hK => ?_) ?_
                  · unfold oa3
                    (try clear hHeld)
                    refine step_append_path rfl _ _ rfl V.heap.size i0 HI.out.1 HI.out.2.1 HI.out.2.2.1 HI.out.2.2.2 _ rfl f1 l _ rfl (HP.out.keep (HBV.out.trans (Below.mono hk HBV.out.size))) HLE.out hk.size ?_
                    intro v3 w3 hown hgrow hat
                    have hbs := trivial
                    have hkd : Kp V w3 := Below.grown hk hgrow hk.size (fun k h => (f1.lt k h).1)
                    have e3 : (w3).ownsRow V.heap.size 3 1 v3 l.length (l.map fun i => Value.int .i64 i) := hown
                    have e5 : (w3).heap[m]? = some (.cells #[.int .i64 i] 3 (0, 0)) := (hgrow.block _ ((Array.getElem?_eq_some_iff.1 f5).1) (fun h => by have h1 := n15; have h2 : m = n := Option.some.inj h; omega)).trans f5
                    have n53 : v3.ownBlock ≠ some m := fun h => by
                      have h0 := (Array.getElem?_eq_some_iff.1 f5).1
                      have h1 := n15
                      rcases hat with e | e
                      · rw [e] at h
                        have h2 : n = m := Option.some.inj h
                        omega
                      · rw [e] at h
                        have h2 : wd.heap.size = m := Option.some.inj h
                        omega
                    clear f1 hgrow hat hown
                    clear f5
                    clear hk hbs
                    generalize w3 = wd at hkd e5 e3 ⊢
                    have f5 := e5
                    clear e5
                    have f3 := e3
                    clear e3
                    have hk := hkd
                    clear hkd
                    refine hK.out _ _ ?_ (fun hHeld => ?_)
                    · exact kp_and hk HTC.out HXC.out
                    clear hK K
                    (try simp only [Act.put, List.setIfInBounds_toArray, List.set_cons_zero, List.set_cons_succ])
                    refine wpAnyH_ready (rs := [6, 11]) (by kernel_rfl) (by simp) ?_
                    refine AllReadyH.cons (o := oa6) rfl (fun K hK => ?_) ?_
                    · unfold oa6
                      (try clear hHeld)
                      refine step_append_lies _ rfl _ _ 54 rfl V.heap.size 3 i0 _ 1 8 (by kernel_rfl) HI.out.1 HI.out.2.1 HI.out.2.2.1 HI.out.2.2.2 rfl (by decide) _ l.length (l.map fun i => Value.int .i64 i) rfl f3 ⟨m, 0, none⟩ 1 1 [.int .i64 i] rfl rfl (World.news_of_block f5) (int_one i) (by decide) (by have := HLE.out; unfold maxLen; omega) (by have := HLE.out; omega) hk.size _ rfl ?_
                      intro h ch w3 hown hgrow hat hlt3
                      have hbs := trivial
                      have hkd : Kp V w3 := Below.grown hk hgrow hk.size (fun k h => (f3.lt k h).1)
                      have e6 : (w3).ownsRow V.heap.size 3 1 (.slice (some ⟨h, 0, none⟩) (l.length + 1) ch) (l.length + 1) ((l.map fun i => Value.int .i64 i) ++ [.int .i64 i]) := hown
                      clear f3 f5 hgrow hat hlt3 hown
                      clear hk hbs
                      generalize w3 = wd at hkd e6 ⊢
                      have f6 := e6
                      clear e6
                      have hk := hkd
                      clear hkd
                      refine hK.out _ _ ?_ (fun hHeld => ?_)
                      · exact kp_and hk HTC.out HXC.out
                      clear hK K
                      (try simp only [Act.put, List.setIfInBounds_toArray, List.set_cons_zero, List.set_cons_succ])
                      refine wpAnyH_ready (rs := [7, 11]) (by kernel_rfl) (by simp) ?_
                      refine AllReadyH.cons (o := oa7) rfl (fun K hK => ?_) ?_
                      · unfold oa7
                        go_simp
                        (try clear hHeld)
                        (go_at_call 33; (with_reducible refine (datb_any t (l ++ [i]) wd _ _ (kp_lies hk HLT.out) (own_lies1 f6) HS6.out Y b HV.out).mono ?_); rintro e wn ⟨⟨sY, rfl, hlY⟩, hbs⟩)
                        obtain ⟨aY, cY, rfl, -, -⟩ := hlY.out
                        have hkd : Kp V wn := kp_call hk hbs
                        have eY : LiesP wn (fun _ => True) Y.kids (.slice aY Y.kids.length cY) := hlY.keep (fun _ _ _ => rfl) (fun _ _ _ => trivial)
                        clear hlY f6
                        clear hk hbs
                        generalize wn = wd at hkd  eY ⊢
                        have hk := hkd
                        clear hkd
                        have fY := eY
                        clear eY
                        refine hK.out _ _ ?_ (fun hHeld => ?_)
                        · exact kp_and hk HTC.out HXC.out
                        clear hK K
                        (try simp only [Act.put, List.setIfInBounds_toArray, List.set_cons_zero, List.set_cons_succ])
                        refine take_at 8 73 oa8 (v := ?_) (Or.inl ⟨by rfl, ?_⟩) ?_
                        rotate_left 1
                        · ((intro w hSw; (try dsimp only at hSw); unfold oa8; go_simp) <;> with_reducible rfl)
                        (try simp only [Act.put, List.setIfInBounds_toArray, List.set_cons_zero, List.set_cons_succ])
                        refine take_at 9 82 oa9 (v := ?_) (Or.inl ⟨by rfl, ?_⟩) ?_
                        rotate_left 1
                        · ((intro w hSw; (try dsimp only at hSw); unfold oa9; go_simp) <;> with_reducible rfl)
                        (try simp only [Act.put, List.setIfInBounds_toArray, List.set_cons_zero, List.set_cons_succ])
                        refine take_at 10 83 oa10 (v := ?_) (Or.inl ⟨by rfl, ?_⟩) ?_
                        rotate_left 1
                        · ((intro w hSw; (try dsimp only at hSw); unfold oa10; go_simp) <;> with_reducible rfl)
                        (try simp only [Act.put, List.setIfInBounds_toArray, List.set_cons_zero, List.set_cons_succ])
                        refine wpAnyH_ready (rs := [11]) (by kernel_rfl) (by simp) ?_
                        refine AllReadyH.cons (o := oa11) rfl (fun K hK => ?_) ?_
                        · unfold oa11
                          go_simp
                          (try clear hHeld)
                          have hbs : Below wd.heap.size wd ((wd.alloc (.cells #[.int .i64 0, .int .i64 0, .slice none 0 0] 53))) := (Below.refl _ _).alloc (Nat.le_refl _) _
                          have hkd : Kp V ((wd.alloc (.cells #[.int .i64 0, .int .i64 0, .slice none 0 0] 53))) := kp_call hk hbs
                          obtain ⟨z, hz⟩ : ∃ g, wd.heap.size = g := ⟨_, rfl⟩
                          have eZ : ((wd.alloc (.cells #[.int .i64 0, .int .i64 0, .slice none 0 0] 53))).heap[z]? = some (.cells #[.int .i64 0, .int .i64 0, .slice none 0 0] 53 (0, 0)) := by rw [← hz]; exact alloc_new wd _
                          have hzV : V.heap.size ≤ z := by rw [← hz]; exact hk.size
                          have eY : LiesP ((wd.alloc (.cells #[.int .i64 0, .int .i64 0, .slice none 0 0] 53))) (fun b => b ≠ z) Y.kids (.slice aY Y.kids.length cY) := fY.keep (fun b _ hlt => hbs.block b hlt) (fun b _ hlt => by omega)
                          clear fY
                          rw [hz]
                          clear hz
                          clear hk hbs
                          generalize (wd.alloc (.cells #[.int .i64 0, .int .i64 0, .slice none 0 0] 53)) = wd at hkd eZ eY ⊢
                          have fZ := eZ
                          clear eZ
                          have hk := hkd
                          clear hkd
                          have fY := eY
                          clear eY
                          refine hK.out _ _ ?_ (fun hHeld => ?_)
                          · exact kp_and hk HTC.out HXC.out
                          clear hK K
                          (try simp only [Act.put, List.setIfInBounds_toArray, List.set_cons_zero, List.set_cons_succ])
                          obtain ⟨z0, z1, z2⟩ := five_cells fZ
                          obtain ⟨r0, r1, r2⟩ := five_free fZ
                          refine wpAnyH_ready (rs := [12]) (by kernel_rfl) (by simp) ?_
                          refine AllReadyH.cons (o := oa12) rfl (fun K hK => ?_) ?_
                          · unfold oa12
                            go_simp
                            have hkd : Kp V ((((wd.setCell ⟨z, 0, none⟩ (.int .i64 Y.k)).setCell ⟨z, 1, none⟩ (.int .i64 Y.i)).setCell ⟨z, 2, none⟩ (.slice aY Y.kids.length cY))) := below_five hk hzV _ _ _
                            have e : DoneAt V Y b (.pointer (some ⟨z, 0, none⟩)) (.bool b) ((((wd.setCell ⟨z, 0, none⟩ (.int .i64 Y.k)).setCell ⟨z, 1, none⟩ (.int .i64 Y.i)).setCell ⟨z, 2, none⟩ (.slice aY Y.kids.length cY))) := done_at hk hzV fZ fY b
                            clear hk fZ fY z0 z1 z2 r0 r1 r2
                            generalize (((wd.setCell ⟨z, 0, none⟩ (.int .i64 Y.k)).setCell ⟨z, 1, none⟩ (.int .i64 Y.i)).setCell ⟨z, 2, none⟩ (.slice aY Y.kids.length cY)) = wd at hkd e ⊢
                            refine hK.out _ _ ?_ (fun hHeld => ?_)
                            · exact kp_and hkd HTC.out HXC.out
                            clear hK K
                            (try simp only [Act.put, List.setIfInBounds_toArray, List.set_cons_zero, List.set_cons_succ])
                            refine take_at 13 9 oa13 (v := ?_) (Or.inl ⟨by rfl, ?_⟩) ?_
                            rotate_left 1
                            · ((intro w hSw; (try dsimp only at hSw); unfold oa13; go_simp) <;> with_reducible rfl)
                            (try simp only [Act.put, List.setIfInBounds_toArray, List.set_cons_zero, List.set_cons_succ])
                            refine wpAnyH_done (by kernel_rfl) ?_ _
                            go_wp2_with fail
                            go_meet
                            case rel => exact e
                          exact AllReadyH.nil
                        exact AllReadyH.nil
                      refine AllReadyH.cons (o := oa11) rfl (fun K hK => ?_) ?_
                      · unfold oa11
                        go_simp
                        (try clear hHeld)
                        have hbs : Below wd.heap.size wd ((wd.alloc (.cells #[.int .i64 0, .int .i64 0, .slice none 0 0] 53))) := (Below.refl _ _).alloc (Nat.le_refl _) _
                        have hkd : Kp V ((wd.alloc (.cells #[.int .i64 0, .int .i64 0, .slice none 0 0] 53))) := kp_call hk hbs
                        obtain ⟨z, hz⟩ : ∃ g, wd.heap.size = g := ⟨_, rfl⟩
                        have eZ : ((wd.alloc (.cells #[.int .i64 0, .int .i64 0, .slice none 0 0] 53))).heap[z]? = some (.cells #[.int .i64 0, .int .i64 0, .slice none 0 0] 53 (0, 0)) := by rw [← hz]; exact alloc_new wd _
                        have hzV : V.heap.size ≤ z := by rw [← hz]; exact hk.size
                        have e6 : ((wd.alloc (.cells #[.int .i64 0, .int .i64 0, .slice none 0 0] 53))).ownsRow V.heap.size 3 1 (.slice (some ⟨h, 0, none⟩) (l.length + 1) ch) (l.length + 1) ((l.map fun i => Value.int .i64 i) ++ [.int .i64 i]) := own_keep f6 (hbs.block _ (own_lt f6))
                        have nZ6 : z ≠ h := by have := own_lt f6; omega
                        rw [hz]
                        clear hz
                        clear f6
                        clear hk hbs
                        generalize (wd.alloc (.cells #[.int .i64 0, .int .i64 0, .slice none 0 0] 53)) = wd at hkd e6 eZ ⊢
                        have f6 := e6
                        clear e6
                        have fZ := eZ
                        clear eZ
                        have hk := hkd
                        clear hkd
                        refine hK.out _ _ ?_ (fun hHeld => ?_)
                        · exact kp_and hk HTC.out HXC.out
                        clear hK K
                        (try simp only [Act.put, List.setIfInBounds_toArray, List.set_cons_zero, List.set_cons_succ])
                        refine wpAnyH_ready (rs := [7]) (by kernel_rfl) (by simp) ?_
                        refine AllReadyH.cons (o := oa7) rfl (fun K hK => ?_) ?_
                        · unfold oa7
                          go_simp
                          (try clear hHeld)
                          (go_at_call 33; (with_reducible refine (datb_any t (l ++ [i]) wd _ _ (kp_lies hk HLT.out) (own_lies1 f6) HS6.out Y b HV.out).mono ?_); rintro e wn ⟨⟨sY, rfl, hlY⟩, hbs⟩)
                          obtain ⟨aY, cY, rfl, -, -⟩ := hlY.out
                          have hkd : Kp V wn := kp_call hk hbs
                          have eZ : (wn).heap[z]? = some (.cells #[.int .i64 0, .int .i64 0, .slice none 0 0] 53 (0, 0)) := (hbs.block _ ((Array.getElem?_eq_some_iff.1 fZ).1)).trans fZ
                          have eY : LiesP wn (fun b => b ≠ z) Y.kids (.slice aY Y.kids.length cY) := hlY.keep (fun _ _ _ => rfl) (fun b hb _ => by have := hb.1; have := (Array.getElem?_eq_some_iff.1 fZ).1; omega)
                          clear hlY f6
                          clear fZ
                          clear hk hbs
                          generalize wn = wd at hkd eZ eY ⊢
                          have fZ := eZ
                          clear eZ
                          have hk := hkd
                          clear hkd
                          have fY := eY
                          clear eY
                          refine hK.out _ _ ?_ (fun hHeld => ?_)
                          · exact kp_and hk HTC.out HXC.out
                          clear hK K
                          (try simp only [Act.put, List.setIfInBounds_toArray, List.set_cons_zero, List.set_cons_succ])
                          refine take_at 8 73 oa8 (v := ?_) (Or.inl ⟨by rfl, ?_⟩) ?_
                          rotate_left 1
                          · ((intro w hSw; (try dsimp only at hSw); unfold oa8; go_simp) <;> with_reducible rfl)
                          (try simp only [Act.put, List.setIfInBounds_toArray, List.set_cons_zero, List.set_cons_succ])
                          refine take_at 9 82 oa9 (v := ?_) (Or.inl ⟨by rfl, ?_⟩) ?_
                          rotate_left 1
                          · ((intro w hSw; (try dsimp only at hSw); unfold oa9; go_simp) <;> with_reducible rfl)
                          (try simp only [Act.put, List.setIfInBounds_toArray, List.set_cons_zero, List.set_cons_succ])
                          refine take_at 10 83 oa10 (v := ?_) (Or.inl ⟨by rfl, ?_⟩) ?_
                          rotate_left 1
                          · ((intro w hSw; (try dsimp only at hSw); unfold oa10; go_simp) <;> with_reducible rfl)
                          (try simp only [Act.put, List.setIfInBounds_toArray, List.set_cons_zero, List.set_cons_succ])
                          obtain ⟨z0, z1, z2⟩ := five_cells fZ
                          obtain ⟨r0, r1, r2⟩ := five_free fZ
                          refine wpAnyH_ready (rs := [12]) (by kernel_rfl) (by simp) ?_
                          refine AllReadyH.cons (o := oa12) rfl (fun K hK => ?_) ?_
                          · unfold oa12
                            go_simp
                            have hkd : Kp V ((((wd.setCell ⟨z, 0, none⟩ (.int .i64 Y.k)).setCell ⟨z, 1, none⟩ (.int .i64 Y.i)).setCell ⟨z, 2, none⟩ (.slice aY Y.kids.length cY))) := below_five hk hzV _ _ _
                            have e : DoneAt V Y b (.pointer (some ⟨z, 0, none⟩)) (.bool b) ((((wd.setCell ⟨z, 0, none⟩ (.int .i64 Y.k)).setCell ⟨z, 1, none⟩ (.int .i64 Y.i)).setCell ⟨z, 2, none⟩ (.slice aY Y.kids.length cY))) := done_at hk hzV fZ fY b
                            clear hk fZ fY z0 z1 z2 r0 r1 r2
                            generalize (((wd.setCell ⟨z, 0, none⟩ (.int .i64 Y.k)).setCell ⟨z, 1, none⟩ (.int .i64 Y.i)).setCell ⟨z, 2, none⟩ (.slice aY Y.kids.length cY)) = wd at hkd e ⊢
                            refine hK.out _ _ ?_ (fun hHeld => ?_)
                            · exact kp_and hkd HTC.out HXC.out
                            clear hK K
                            (try simp only [Act.put, List.setIfInBounds_toArray, List.set_cons_zero, List.set_cons_succ])
                            refine take_at 13 9 oa13 (v := ?_) (Or.inl ⟨by rfl, ?_⟩) ?_
                            rotate_left 1
                            · ((intro w hSw; (try dsimp only at hSw); unfold oa13; go_simp) <;> with_reducible rfl)
                            (try simp only [Act.put, List.setIfInBounds_toArray, List.set_cons_zero, List.set_cons_succ])
                            refine wpAnyH_done (by kernel_rfl) ?_ _
                            go_wp2_with fail
                            go_meet
                            case rel => exact e
                          exact AllReadyH.nil
                        exact AllReadyH.nil
                      exact AllReadyH.nil
                    refine AllReadyH.cons (o := oa11) rfl (fun K hK => ?_) ?_
                    · unfold oa11
                      go_simp
                      (try clear hHeld)
                      have hbs : Below wd.heap.size wd ((wd.alloc (.cells #[.int .i64 0, .int .i64 0, .slice none 0 0] 53))) := (Below.refl _ _).alloc (Nat.le_refl _) _
                      have hkd : Kp V ((wd.alloc (.cells #[.int .i64 0, .int .i64 0, .slice none 0 0] 53))) := kp_call hk hbs
                      obtain ⟨z, hz⟩ : ∃ g, wd.heap.size = g := ⟨_, rfl⟩
                      have eZ : ((wd.alloc (.cells #[.int .i64 0, .int .i64 0, .slice none 0 0] 53))).heap[z]? = some (.cells #[.int .i64 0, .int .i64 0, .slice none 0 0] 53 (0, 0)) := by rw [← hz]; exact alloc_new wd _
                      have hzV : V.heap.size ≤ z := by rw [← hz]; exact hk.size
                      have e5 : ((wd.alloc (.cells #[.int .i64 0, .int .i64 0, .slice none 0 0] 53))).heap[m]? = some (.cells #[.int .i64 i] 3 (0, 0)) := (hbs.block _ ((Array.getElem?_eq_some_iff.1 f5).1)).trans f5
                      have e3 : ((wd.alloc (.cells #[.int .i64 0, .int .i64 0, .slice none 0 0] 53))).ownsRow V.heap.size 3 1 v3 l.length (l.map fun i => Value.int .i64 i) := own_keepv f3 (fun k hk => hbs.block _ (f3.lt k hk).2)
                      have nZ5 : z ≠ m := by have := (Array.getElem?_eq_some_iff.1 f5).1; omega
                      have nZ3 : v3.ownBlock ≠ some z := fun h => by have := (f3.lt _ h).2; omega
                      rw [hz]
                      clear hz
                      clear f5 f3
                      clear hk hbs
                      generalize (wd.alloc (.cells #[.int .i64 0, .int .i64 0, .slice none 0 0] 53)) = wd at hkd e5 e3 eZ ⊢
                      have f5 := e5
                      clear e5
                      have f3 := e3
                      clear e3
                      have fZ := eZ
                      clear eZ
                      have hk := hkd
                      clear hkd
                      refine hK.out _ _ ?_ (fun hHeld => ?_)
                      · exact kp_and hk HTC.out HXC.out
                      clear hK K
                      (try simp only [Act.put, List.setIfInBounds_toArray, List.set_cons_zero, List.set_cons_succ])
                      refine wpAnyH_ready (rs := [6]) (by kernel_rfl) (by simp) ?_
                      refine AllReadyH.cons (o := oa6) rfl (fun K hK => ?_) ?_
                      · unfold oa6
                        (try clear hHeld)
                        refine step_append_lies _ rfl _ _ 54 rfl V.heap.size 3 i0 _ 1 8 (by kernel_rfl) HI.out.1 HI.out.2.1 HI.out.2.2.1 HI.out.2.2.2 rfl (by decide) _ l.length (l.map fun i => Value.int .i64 i) rfl f3 ⟨m, 0, none⟩ 1 1 [.int .i64 i] rfl rfl (World.news_of_block f5) (int_one i) (by decide) (by have := HLE.out; unfold maxLen; omega) (by have := HLE.out; omega) hk.size _ rfl ?_
                        intro h ch w3 hown hgrow hat hlt3
                        have hbs := trivial
                        have hkd : Kp V w3 := Below.grown hk hgrow hk.size (fun k h => (f3.lt k h).1)
                        have e6 : (w3).ownsRow V.heap.size 3 1 (.slice (some ⟨h, 0, none⟩) (l.length + 1) ch) (l.length + 1) ((l.map fun i => Value.int .i64 i) ++ [.int .i64 i]) := hown
                        have eZ : (w3).heap[z]? = some (.cells #[.int .i64 0, .int .i64 0, .slice none 0 0] 53 (0, 0)) := (hgrow.block _ ((Array.getElem?_eq_some_iff.1 fZ).1) (fun h => nZ3 h.symm)).trans fZ
                        clear f3 f5 hgrow hat hlt3 hown
                        clear fZ
                        clear hk hbs
                        generalize w3 = wd at hkd eZ e6 ⊢
                        have fZ := eZ
                        clear eZ
                        have f6 := e6
                        clear e6
                        have hk := hkd
                        clear hkd
                        refine hK.out _ _ ?_ (fun hHeld => ?_)
                        · exact kp_and hk HTC.out HXC.out
                        clear hK K
                        (try simp only [Act.put, List.setIfInBounds_toArray, List.set_cons_zero, List.set_cons_succ])
                        refine wpAnyH_ready (rs := [7]) (by kernel_rfl) (by simp) ?_
                        refine AllReadyH.cons (o := oa7) rfl (fun K hK => ?_) ?_
                        · unfold oa7
                          go_simp
                          (try clear hHeld)
                          (go_at_call 33; (with_reducible refine (datb_any t (l ++ [i]) wd _ _ (kp_lies hk HLT.out) (own_lies1 f6) HS6.out Y b HV.out).mono ?_); rintro e wn ⟨⟨sY, rfl, hlY⟩, hbs⟩)
                          obtain ⟨aY, cY, rfl, -, -⟩ := hlY.out
                          have hkd : Kp V wn := kp_call hk hbs
                          have eZ : (wn).heap[z]? = some (.cells #[.int .i64 0, .int .i64 0, .slice none 0 0] 53 (0, 0)) := (hbs.block _ ((Array.getElem?_eq_some_iff.1 fZ).1)).trans fZ
                          have eY : LiesP wn (fun b => b ≠ z) Y.kids (.slice aY Y.kids.length cY) := hlY.keep (fun _ _ _ => rfl) (fun b hb _ => by have := hb.1; have := (Array.getElem?_eq_some_iff.1 fZ).1; omega)
                          clear hlY f6
                          clear fZ
                          clear hk hbs
                          generalize wn = wd at hkd eZ eY ⊢
                          have fZ := eZ
                          clear eZ
                          have hk := hkd
                          clear hkd
                          have fY := eY
                          clear eY
                          refine hK.out _ _ ?_ (fun hHeld => ?_)
                          · exact kp_and hk HTC.out HXC.out
                          clear hK K
                          (try simp only [Act.put, List.setIfInBounds_toArray, List.set_cons_zero, List.set_cons_succ])
                          refine take_at 8 73 oa8 (v := ?_) (Or.inl ⟨by rfl, ?_⟩) ?_
                          rotate_left 1
                          · ((intro w hSw; (try dsimp only at hSw); unfold oa8; go_simp) <;> with_reducible rfl)
                          (try simp only [Act.put, List.setIfInBounds_toArray, List.set_cons_zero, List.set_cons_succ])
                          refine take_at 9 82 oa9 (v := ?_) (Or.inl ⟨by rfl, ?_⟩) ?_
                          rotate_left 1
                          · ((intro w hSw; (try dsimp only at hSw); unfold oa9; go_simp) <;> with_reducible rfl)
                          (try simp only [Act.put, List.setIfInBounds_toArray, List.set_cons_zero, List.set_cons_succ])
                          refine take_at 10 83 oa10 (v := ?_) (Or.inl ⟨by rfl, ?_⟩) ?_
                          rotate_left 1
                          · ((intro w hSw; (try dsimp only at hSw); unfold oa10; go_simp) <;> with_reducible rfl)
                          (try simp only [Act.put, List.setIfInBounds_toArray, List.set_cons_zero, List.set_cons_succ])
                          obtain ⟨z0, z1, z2⟩ := five_cells fZ
                          obtain ⟨r0, r1, r2⟩ := five_free fZ
                          refine wpAnyH_ready (rs := [12]) (by kernel_rfl) (by simp) ?_
                          refine AllReadyH.cons (o := oa12) rfl (fun K hK => ?_) ?_
                          · unfold oa12
                            go_simp
                            have hkd : Kp V ((((wd.setCell ⟨z, 0, none⟩ (.int .i64 Y.k)).setCell ⟨z, 1, none⟩ (.int .i64 Y.i)).setCell ⟨z, 2, none⟩ (.slice aY Y.kids.length cY))) := below_five hk hzV _ _ _
                            have e : DoneAt V Y b (.pointer (some ⟨z, 0, none⟩)) (.bool b) ((((wd.setCell ⟨z, 0, none⟩ (.int .i64 Y.k)).setCell ⟨z, 1, none⟩ (.int .i64 Y.i)).setCell ⟨z, 2, none⟩ (.slice aY Y.kids.length cY))) := done_at hk hzV fZ fY b
                            clear hk fZ fY z0 z1 z2 r0 r1 r2
                            generalize (((wd.setCell ⟨z, 0, none⟩ (.int .i64 Y.k)).setCell ⟨z, 1, none⟩ (.int .i64 Y.i)).setCell ⟨z, 2, none⟩ (.slice aY Y.kids.length cY)) = wd at hkd e ⊢
                            refine hK.out _ _ ?_ (fun hHeld => ?_)
                            · exact kp_and hkd HTC.out HXC.out
                            clear hK K
                            (try simp only [Act.put, List.setIfInBounds_toArray, List.set_cons_zero, List.set_cons_succ])
                            refine take_at 13 9 oa13 (v := ?_) (Or.inl ⟨by rfl, ?_⟩) ?_
                            rotate_left 1
                            · ((intro w hSw; (try dsimp only at hSw); unfold oa13; go_simp) <;> with_reducible rfl)
                            (try simp only [Act.put, List.setIfInBounds_toArray, List.set_cons_zero, List.set_cons_succ])
                            refine wpAnyH_done (by kernel_rfl) ?_ _
                            go_wp2_with fail
                            go_meet
                            case rel => exact e
                          exact AllReadyH.nil
                        exact AllReadyH.nil
                      exact AllReadyH.nil
                    exact AllReadyH.nil
                  refine AllReadyH.cons (o := oa11) rfl (fun K hK => ?_) ?_
                  · unfold oa11
                    go_simp
                    (try clear hHeld)
                    have hbs : Below wd.heap.size wd ((wd.alloc (.cells #[.int .i64 0, .int .i64 0, .slice none 0 0] 53))) := (Below.refl _ _).alloc (Nat.le_refl _) _
                    have hkd : Kp V ((wd.alloc (.cells #[.int .i64 0, .int .i64 0, .slice none 0 0] 53))) := kp_call hk hbs
                    obtain ⟨z, hz⟩ : ∃ g, wd.heap.size = g := ⟨_, rfl⟩
                    have eZ : ((wd.alloc (.cells #[.int .i64 0, .int .i64 0, .slice none 0 0] 53))).heap[z]? = some (.cells #[.int .i64 0, .int .i64 0, .slice none 0 0] 53 (0, 0)) := by rw [← hz]; exact alloc_new wd _
                    have hzV : V.heap.size ≤ z := by rw [← hz]; exact hk.size
                    have e5 : ((wd.alloc (.cells #[.int .i64 0, .int .i64 0, .slice none 0 0] 53))).heap[m]? = some (.cells #[.int .i64 i] 3 (0, 0)) := (hbs.block _ ((Array.getElem?_eq_some_iff.1 f5).1)).trans f5
                    have e1 : ((wd.alloc (.cells #[.int .i64 0, .int .i64 0, .slice none 0 0] 53))).ownsRow V.heap.size 3 1 (.slice (some ⟨n, 0, none⟩) 0 0) 0 [] := own_keep f1 (hbs.block _ (own_lt f1))
                    have nZ5 : z ≠ m := by have := (Array.getElem?_eq_some_iff.1 f5).1; omega
                    have nZ1 : z ≠ n := by have := own_lt f1; omega
                    rw [hz]
                    clear hz
                    clear f5 f1
                    clear hk hbs
                    generalize (wd.alloc (.cells #[.int .i64 0, .int .i64 0, .slice none 0 0] 53)) = wd at hkd e5 e1 eZ ⊢
                    have f5 := e5
                    clear e5
                    have f1 := e1
                    clear e1
                    have fZ := eZ
                    clear eZ
                    have hk := hkd
                    clear hkd
                    refine hK.out _ _ ?_ (fun hHeld => ?_)
                    · exact kp_and hk HTC.out HXC.out
                    clear hK K
                    (try simp only [Act.put, List.setIfInBounds_toArray, List.set_cons_zero, List.set_cons_succ])
                    refine wpAnyH_ready (rs := [3]) (by kernel_rfl) (by simp) ?_
                    refine AllReadyH.cons (o := oa3) rfl (fun K hK => ?_) ?_
                    · unfold oa3
                      (try clear hHeld)
                      refine step_append_path rfl _ _ rfl V.heap.size i0 HI.out.1 HI.out.2.1 HI.out.2.2.1 HI.out.2.2.2 _ rfl f1 l _ rfl (HP.out.keep (HBV.out.trans (Below.mono hk HBV.out.size))) HLE.out hk.size ?_
                      intro v3 w3 hown hgrow hat
                      have hbs := trivial
                      have hkd : Kp V w3 := Below.grown hk hgrow hk.size (fun k h => (f1.lt k h).1)
                      have e3 : (w3).ownsRow V.heap.size 3 1 v3 l.length (l.map fun i => Value.int .i64 i) := hown
                      have e5 : (w3).heap[m]? = some (.cells #[.int .i64 i] 3 (0, 0)) := (hgrow.block _ ((Array.getElem?_eq_some_iff.1 f5).1) (fun h => by have h1 := n15; have h2 : m = n := Option.some.inj h; omega)).trans f5
                      have eZ : (w3).heap[z]? = some (.cells #[.int .i64 0, .int .i64 0, .slice none 0 0] 53 (0, 0)) := (hgrow.block _ ((Array.getElem?_eq_some_iff.1 fZ).1) (fun h => by have h1 := nZ1; have h2 : z = n := Option.some.inj h; omega)).trans fZ
                      have n53 : v3.ownBlock ≠ some m := fun h => by
                        have h0 := (Array.getElem?_eq_some_iff.1 f5).1
                        have h1 := n15
                        rcases hat with e | e
                        · rw [e] at h
                          have h2 : n = m := Option.some.inj h
                          omega
                        · rw [e] at h
                          have h2 : wd.heap.size = m := Option.some.inj h
                          omega
                      have nZ3 : v3.ownBlock ≠ some z := fun h => by
                        have h0 := (Array.getElem?_eq_some_iff.1 fZ).1
                        have h1 := nZ1
                        rcases hat with e | e
                        · rw [e] at h
                          have h2 : n = z := Option.some.inj h
                          omega
                        · rw [e] at h
                          have h2 : wd.heap.size = z := Option.some.inj h
                          omega
                      clear f1 hgrow hat hown
                      clear f5 fZ
                      clear hk hbs
                      generalize w3 = wd at hkd e5 eZ e3 ⊢
                      have f5 := e5
                      clear e5
                      have fZ := eZ
                      clear eZ
                      have f3 := e3
                      clear e3
                      have hk := hkd
                      clear hkd
                      refine hK.out _ _ ?_ (fun hHeld => ?_)
                      · exact kp_and hk HTC.out HXC.out
                      clear hK K
                      (try simp only [Act.put, List.setIfInBounds_toArray, List.set_cons_zero, List.set_cons_succ])
                      refine wpAnyH_ready (rs := [6]) (by kernel_rfl) (by simp) ?_
                      refine AllReadyH.cons (o := oa6) rfl (fun K hK => ?_) ?_
                      · unfold oa6
                        (try clear hHeld)
                        refine step_append_lies _ rfl _ _ 54 rfl V.heap.size 3 i0 _ 1 8 (by kernel_rfl) HI.out.1 HI.out.2.1 HI.out.2.2.1 HI.out.2.2.2 rfl (by decide) _ l.length (l.map fun i => Value.int .i64 i) rfl f3 ⟨m, 0, none⟩ 1 1 [.int .i64 i] rfl rfl (World.news_of_block f5) (int_one i) (by decide) (by have := HLE.out; unfold maxLen; omega) (by have := HLE.out; omega) hk.size _ rfl ?_
                        intro h ch w3 hown hgrow hat hlt3
                        have hbs := trivial
                        have hkd : Kp V w3 := Below.grown hk hgrow hk.size (fun k h => (f3.lt k h).1)
                        have e6 : (w3).ownsRow V.heap.size 3 1 (.slice (some ⟨h, 0, none⟩) (l.length + 1) ch) (l.length + 1) ((l.map fun i => Value.int .i64 i) ++ [.int .i64 i]) := hown
                        have eZ : (w3).heap[z]? = some (.cells #[.int .i64 0, .int .i64 0, .slice none 0 0] 53 (0, 0)) := (hgrow.block _ ((Array.getElem?_eq_some_iff.1 fZ).1) (fun h => nZ3 h.symm)).trans fZ
                        clear f3 f5 hgrow hat hlt3 hown
                        clear fZ
                        clear hk hbs
                        generalize w3 = wd at hkd eZ e6 ⊢
                        have fZ := eZ
                        clear eZ
                        have f6 := e6
                        clear e6
                        have hk := hkd
                        clear hkd
                        refine hK.out _ _ ?_ (fun hHeld => ?_)
                        · exact kp_and hk HTC.out HXC.out
                        clear hK K
                        (try simp only [Act.put, List.setIfInBounds_toArray, List.set_cons_zero, List.set_cons_succ])
                        refine wpAnyH_ready (rs := [7]) (by kernel_rfl) (by simp) ?_
                        refine AllReadyH.cons (o := oa7) rfl (fun K hK => ?_) ?_
                        · unfold oa7
                          go_simp
                          (try clear hHeld)
                          (go_at_call 33; (with_reducible refine (datb_any t (l ++ [i]) wd _ _ (kp_lies hk HLT.out) (own_lies1 f6) HS6.out Y b HV.out).mono ?_); rintro e wn ⟨⟨sY, rfl, hlY⟩, hbs⟩)
                          obtain ⟨aY, cY, rfl, -, -⟩ := hlY.out
                          have hkd : Kp V wn := kp_call hk hbs
                          have eZ : (wn).heap[z]? = some (.cells #[.int .i64 0, .int .i64 0, .slice none 0 0] 53 (0, 0)) := (hbs.block _ ((Array.getElem?_eq_some_iff.1 fZ).1)).trans fZ
                          have eY : LiesP wn (fun b => b ≠ z) Y.kids (.slice aY Y.kids.length cY) := hlY.keep (fun _ _ _ => rfl) (fun b hb _ => by have := hb.1; have := (Array.getElem?_eq_some_iff.1 fZ).1; omega)
                          clear hlY f6
                          clear fZ
                          clear hk hbs
                          generalize wn = wd at hkd eZ eY ⊢
                          have fZ := eZ
                          clear eZ
                          have hk := hkd
                          clear hkd
                          have fY := eY
                          clear eY
                          refine hK.out _ _ ?_ (fun hHeld => ?_)
                          · exact kp_and hk HTC.out HXC.out
                          clear hK K
                          (try simp only [Act.put, List.setIfInBounds_toArray, List.set_cons_zero, List.set_cons_succ])
                          refine take_at 8 73 oa8 (v := ?_) (Or.inl ⟨by rfl, ?_⟩) ?_
                          rotate_left 1
                          · ((intro w hSw; (try dsimp only at hSw); unfold oa8; go_simp) <;> with_reducible rfl)
                          (try simp only [Act.put, List.setIfInBounds_toArray, List.set_cons_zero, List.set_cons_succ])
                          refine take_at 9 82 oa9 (v := ?_) (Or.inl ⟨by rfl, ?_⟩) ?_
                          rotate_left 1
                          · ((intro w hSw; (try dsimp only at hSw); unfold oa9; go_simp) <;> with_reducible rfl)
                          (try simp only [Act.put, List.setIfInBounds_toArray, List.set_cons_zero, List.set_cons_succ])
                          refine take_at 10 83 oa10 (v := ?_) (Or.inl ⟨by rfl, ?_⟩) ?_
                          rotate_left 1
                          · ((intro w hSw; (try dsimp only at hSw); unfold oa10; go_simp) <;> with_reducible rfl)
                          (try simp only [Act.put, List.setIfInBounds_toArray, List.set_cons_zero, List.set_cons_succ])
                          obtain ⟨z0, z1, z2⟩ := five_cells fZ
                          obtain ⟨r0, r1, r2⟩ := five_free fZ
                          refine wpAnyH_ready (rs := [12]) (by kernel_rfl) (by simp) ?_
                          refine AllReadyH.cons (o := oa12) rfl (fun K hK => ?_) ?_
                          · unfold oa12
                            go_simp
                            have hkd : Kp V ((((wd.setCell ⟨z, 0, none⟩ (.int .i64 Y.k)).setCell ⟨z, 1, none⟩ (.int .i64 Y.i)).setCell ⟨z, 2, none⟩ (.slice aY Y.kids.length cY))) := below_five hk hzV _ _ _
                            have e : DoneAt V Y b (.pointer (some ⟨z, 0, none⟩)) (.bool b) ((((wd.setCell ⟨z, 0, none⟩ (.int .i64 Y.k)).setCell ⟨z, 1, none⟩ (.int .i64 Y.i)).setCell ⟨z, 2, none⟩ (.slice aY Y.kids.length cY))) := done_at hk hzV fZ fY b
                            clear hk fZ fY z0 z1 z2 r0 r1 r2
                            generalize (((wd.setCell ⟨z, 0, none⟩ (.int .i64 Y.k)).setCell ⟨z, 1, none⟩ (.int .i64 Y.i)).setCell ⟨z, 2, none⟩ (.slice aY Y.kids.length cY)) = wd at hkd e ⊢
                            refine hK.out _ _ ?_ (fun hHeld => ?_)
                            · exact kp_and hkd HTC.out HXC.out
                            clear hK K
                            (try simp only [Act.put, List.setIfInBounds_toArray, List.set_cons_zero, List.set_cons_succ])
                            refine take_at 13 9 oa13 (v := ?_) (Or.inl ⟨by rfl, ?_⟩) ?_
                            rotate_left 1
                            · ((intro w hSw; (try dsimp only at hSw); unfold oa13; go_simp) <;> with_reducible rfl)
                            (try simp only [Act.put, List.setIfInBounds_toArray, List.set_cons_zero, List.set_cons_succ])
                            refine wpAnyH_done (by kernel_rfl) ?_ _
                            go_wp2_with fail
                            go_meet
                            case rel => exact e
                          exact AllReadyH.nil
                        exact AllReadyH.nil
                      exact AllReadyH.nil
                    exact AllReadyH.nil
                  exact AllReadyH.nil
                refine AllReadyH.cons (o := oa11) rfl (fun K hK => ?_) ?_
                · unfold oa11
                  go_simp
                  (try clear hHeld)
                  have hbs : Below wd.heap.size wd ((wd.alloc (.cells #[.int .i64 0, .int .i64 0, .slice none 0 0] 53))) := (Below.refl _ _).alloc (Nat.le_refl _) _
                  have hkd : Kp V ((wd.alloc (.cells #[.int .i64 0, .int .i64 0, .slice none 0 0] 53))) := kp_call hk hbs
                  obtain ⟨z, hz⟩ : ∃ g, wd.heap.size = g := ⟨_, rfl⟩
                  have eZ : ((wd.alloc (.cells #[.int .i64 0, .int .i64 0, .slice none 0 0] 53))).heap[z]? = some (.cells #[.int .i64 0, .int .i64 0, .slice none 0 0] 53 (0, 0)) := by rw [← hz]; exact alloc_new wd _
                  have hzV : V.heap.size ≤ z := by rw [← hz]; exact hk.size
                  have e5 : ((wd.alloc (.cells #[.int .i64 0, .int .i64 0, .slice none 0 0] 53))).heap[m]? = some (.cells #[.int .i64 i] 3 (0, 0)) := (hbs.block _ ((Array.getElem?_eq_some_iff.1 f5).1)).trans f5
                  have nZ5 : z ≠ m := by have := (Array.getElem?_eq_some_iff.1 f5).1; omega
                  rw [hz]
                  clear hz
                  clear f5
                  clear hk hbs
                  generalize (wd.alloc (.cells #[.int .i64 0, .int .i64 0, .slice none 0 0] 53)) = wd at hkd e5 eZ ⊢
                  have f5 := e5
                  clear e5
                  have fZ := eZ
                  clear eZ
                  have hk := hkd
                  clear hkd
                  refine hK.out _ _ ?_ (fun hHeld => ?_)
                  · exact kp_and hk HTC.out HXC.out
                  clear hK K
                  (try simp only [Act.put, List.setIfInBounds_toArray, List.set_cons_zero, List.set_cons_succ])
                  refine wpAnyH_ready (rs := [1]) (by kernel_rfl) (by simp) ?_
                  refine AllReadyH.cons (o := oa1) rfl (fun K hK => ?_) ?_
                  · unfold oa1
                    go_simp
                    (try clear hHeld)
                    have hbs : Below wd.heap.size wd ((wd.alloc (.cells #[] 3))) := (Below.refl _ _).alloc (Nat.le_refl _) _
                    have hkd : Kp V ((wd.alloc (.cells #[] 3))) := kp_call hk hbs
                    obtain ⟨n, hn⟩ : ∃ g, wd.heap.size = g := ⟨_, rfl⟩
                    have e1 : ((wd.alloc (.cells #[] 3))).ownsRow V.heap.size 3 1 (.slice (some ⟨n, 0, none⟩) 0 0) 0 [] := by rw [← hn]; exact own_empty hk.size
                    have e5 : ((wd.alloc (.cells #[] 3))).heap[m]? = some (.cells #[.int .i64 i] 3 (0, 0)) := (hbs.block _ ((Array.getElem?_eq_some_iff.1 f5).1)).trans f5
                    have eZ : ((wd.alloc (.cells #[] 3))).heap[z]? = some (.cells #[.int .i64 0, .int .i64 0, .slice none 0 0] 53 (0, 0)) := (hbs.block _ ((Array.getElem?_eq_some_iff.1 fZ).1)).trans fZ
                    have n15 : n ≠ m := by have := (Array.getElem?_eq_some_iff.1 f5).1; omega
                    have n1Z : n ≠ z := by have := (Array.getElem?_eq_some_iff.1 fZ).1; omega
                    rw [hn]
                    clear hn
                    clear f5 fZ
                    clear hk hbs
                    generalize (wd.alloc (.cells #[] 3)) = wd at hkd e5 eZ e1 ⊢
                    have f5 := e5
                    clear e5
                    have fZ := eZ
                    clear eZ
                    have f1 := e1
                    clear e1
                    have hk := hkd
                    clear hkd
                    refine hK.out _ _ ?_ (fun hHeld => ?_)
                    · exact kp_and hk HTC.out HXC.out
                    clear hK K
                    (try simp only [Act.put, List.setIfInBounds_toArray, List.set_cons_zero, List.set_cons_succ])
                    refine wpAnyH_ready (rs := [3]) (by kernel_rfl) (by simp) ?_
                    refine AllReadyH.cons (o := oa3) rfl (fun K hK => ?_) ?_
                    · unfold oa3
                      (try clear hHeld)
                      refine step_append_path rfl _ _ rfl V.heap.size i0 HI.out.1 HI.out.2.1 HI.out.2.2.1 HI.out.2.2.2 _ rfl f1 l _ rfl (HP.out.keep (HBV.out.trans (Below.mono hk HBV.out.size))) HLE.out hk.size ?_
                      intro v3 w3 hown hgrow hat
                      have hbs := trivial
                      have hkd : Kp V w3 := Below.grown hk hgrow hk.size (fun k h => (f1.lt k h).1)
                      have e3 : (w3).ownsRow V.heap.size 3 1 v3 l.length (l.map fun i => Value.int .i64 i) := hown
                      have e5 : (w3).heap[m]? = some (.cells #[.int .i64 i] 3 (0, 0)) := (hgrow.block _ ((Array.getElem?_eq_some_iff.1 f5).1) (fun h => by have h1 := n15; have h2 : m = n := Option.some.inj h; omega)).trans f5
                      have eZ : (w3).heap[z]? = some (.cells #[.int .i64 0, .int .i64 0, .slice none 0 0] 53 (0, 0)) := (hgrow.block _ ((Array.getElem?_eq_some_iff.1 fZ).1) (fun h => by have h1 := n1Z; have h2 : z = n := Option.some.inj h; omega)).trans fZ
                      have n53 : v3.ownBlock ≠ some m := fun h => by
                        have h0 := (Array.getElem?_eq_some_iff.1 f5).1
                        have h1 := n15
                        rcases hat with e | e
                        · rw [e] at h
                          have h2 : n = m := Option.some.inj h
                          omega
                        · rw [e] at h
                          have h2 : wd.heap.size = m := Option.some.inj h
                          omega
                      have nZ3 : v3.ownBlock ≠ some z := fun h => by
                        have h0 := (Array.getElem?_eq_some_iff.1 fZ).1
                        have h1 := n1Z
                        rcases hat with e | e
                        · rw [e] at h
                          have h2 : n = z := Option.some.inj h
                          omega
                        · rw [e] at h
                          have h2 : wd.heap.size = z := Option.some.inj h
                          omega
                      clear f1 hgrow hat hown
                      clear f5 fZ
                      clear hk hbs
                      generalize w3 = wd at hkd e5 eZ e3 ⊢
                      have f5 := e5
                      clear e5
                      have fZ := eZ
                      clear eZ
                      have f3 := e3
                      clear e3
                      have hk := hkd
                      clear hkd
                      refine hK.out _ _ ?_ (fun hHeld => ?_)
                      · exact kp_and hk HTC.out HXC.out
                      clear hK K
                      (try simp only [Act.put, List.setIfInBounds_toArray, List.set_cons_zero, List.set_cons_succ])
                      refine wpAnyH_ready (rs := [6]) (by kernel_rfl) (by simp) ?_
                      refine AllReadyH.cons (o := oa6) rfl (fun K hK => ?_) ?_
                      · unfold oa6
                        (try clear hHeld)
                        refine step_append_lies _ rfl _ _ 54 rfl V.heap.size 3 i0 _ 1 8 (by kernel_rfl) HI.out.1 HI.out.2.1 HI.out.2.2.1 HI.out.2.2.2 rfl (by decide) _ l.length (l.map fun i => Value.int .i64 i) rfl f3 ⟨m, 0, none⟩ 1 1 [.int .i64 i] rfl rfl (World.news_of_block f5) (int_one i) (by decide) (by have := HLE.out; unfold maxLen; omega) (by have := HLE.out; omega) hk.size _ rfl ?_
                        intro h ch w3 hown hgrow hat hlt3
                        have hbs := trivial
                        have hkd : Kp V w3 := Below.grown hk hgrow hk.size (fun k h => (f3.lt k h).1)
                        have e6 : (w3).ownsRow V.heap.size 3 1 (.slice (some ⟨h, 0, none⟩) (l.length + 1) ch) (l.length + 1) ((l.map fun i => Value.int .i64 i) ++ [.int .i64 i]) := hown
                        have eZ : (w3).heap[z]? = some (.cells #[.int .i64 0, .int .i64 0, .slice none 0 0] 53 (0, 0)) := (hgrow.block _ ((Array.getElem?_eq_some_iff.1 fZ).1) (fun h => nZ3 h.symm)).trans fZ
                        clear f3 f5 hgrow hat hlt3 hown
                        clear fZ
                        clear hk hbs
                        generalize w3 = wd at hkd eZ e6 ⊢
                        have fZ := eZ
                        clear eZ
                        have f6 := e6
                        clear e6
                        have hk := hkd
                        clear hkd
                        refine hK.out _ _ ?_ (fun hHeld => ?_)
                        · exact kp_and hk HTC.out HXC.out
                        clear hK K
                        (try simp only [Act.put, List.setIfInBounds_toArray, List.set_cons_zero, List.set_cons_succ])
                        refine wpAnyH_ready (rs := [7]) (by kernel_rfl) (by simp) ?_
                        refine AllReadyH.cons (o := oa7) rfl (fun K hK => ?_) ?_
                        · unfold oa7
                          go_simp
                          (try clear hHeld)
                          (go_at_call 33; (with_reducible refine (datb_any t (l ++ [i]) wd _ _ (kp_lies hk HLT.out) (own_lies1 f6) HS6.out Y b HV.out).mono ?_); rintro e wn ⟨⟨sY, rfl, hlY⟩, hbs⟩)
                          obtain ⟨aY, cY, rfl, -, -⟩ := hlY.out
                          have hkd : Kp V wn := kp_call hk hbs
                          have eZ : (wn).heap[z]? = some (.cells #[.int .i64 0, .int .i64 0, .slice none 0 0] 53 (0, 0)) := (hbs.block _ ((Array.getElem?_eq_some_iff.1 fZ).1)).trans fZ
                          have eY : LiesP wn (fun b => b ≠ z) Y.kids (.slice aY Y.kids.length cY) := hlY.keep (fun _ _ _ => rfl) (fun b hb _ => by have := hb.1; have := (Array.getElem?_eq_some_iff.1 fZ).1; omega)
                          clear hlY f6
                          clear fZ
                          clear hk hbs
                          generalize wn = wd at hkd eZ eY ⊢
                          have fZ := eZ
                          clear eZ
                          have hk := hkd
                          clear hkd
                          have fY := eY
                          clear eY
                          refine hK.out _ _ ?_ (fun hHeld => ?_)
                          · exact kp_and hk HTC.out HXC.out
                          clear hK K
                          (try simp only [Act.put, List.setIfInBounds_toArray, List.set_cons_zero, List.set_cons_succ])
                          refine take_at 8 73 oa8 (v := ?_) (Or.inl ⟨by rfl, ?_⟩) ?_
                          rotate_left 1
                          · ((intro w hSw; (try dsimp only at hSw); unfold oa8; go_simp) <;> with_reducible rfl)
                          (try simp only [Act.put, List.setIfInBounds_toArray, List.set_cons_zero, List.set_cons_succ])
                          refine take_at 9 82 oa9 (v := ?_) (Or.inl ⟨by rfl, ?_⟩) ?_
                          rotate_left 1
                          · ((intro w hSw; (try dsimp only at hSw); unfold oa9; go_simp) <;> with_reducible rfl)
                          (try simp only [Act.put, List.setIfInBounds_toArray, List.set_cons_zero, List.set_cons_succ])
                          refine take_at 10 83 oa10 (v := ?_) (Or.inl ⟨by rfl, ?_⟩) ?_
                          rotate_left 1
                          · ((intro w hSw; (try dsimp only at hSw); unfold oa10; go_simp) <;> with_reducible rfl)
                          (try simp only [Act.put, List.setIfInBounds_toArray, List.set_cons_zero, List.set_cons_succ])
                          obtain ⟨z0, z1, z2⟩ := five_cells fZ
                          obtain ⟨r0, r1, r2⟩ := five_free fZ
                          refine wpAnyH_ready (rs := [12]) (by kernel_rfl) (by simp) ?_
                          refine AllReadyH.cons (o := oa12) rfl (fun K hK => ?_) ?_
                          · unfold oa12
                            go_simp
                            have hkd : Kp V ((((wd.setCell ⟨z, 0, none⟩ (.int .i64 Y.k)).setCell ⟨z, 1, none⟩ (.int .i64 Y.i)).setCell ⟨z, 2, none⟩ (.slice aY Y.kids.length cY))) := below_five hk hzV _ _ _
                            have e : DoneAt V Y b (.pointer (some ⟨z, 0, none⟩)) (.bool b) ((((wd.setCell ⟨z, 0, none⟩ (.int .i64 Y.k)).setCell ⟨z, 1, none⟩ (.int .i64 Y.i)).setCell ⟨z, 2, none⟩ (.slice aY Y.kids.length cY))) := done_at hk hzV fZ fY b
                            clear hk fZ fY z0 z1 z2 r0 r1 r2
                            generalize (((wd.setCell ⟨z, 0, none⟩ (.int .i64 Y.k)).setCell ⟨z, 1, none⟩ (.int .i64 Y.i)).setCell ⟨z, 2, none⟩ (.slice aY Y.kids.length cY)) = wd at hkd e ⊢
                            refine hK.out _ _ ?_ (fun hHeld => ?_)
                            · exact kp_and hkd HTC.out HXC.out
                            clear hK K
                            (try simp only [Act.put, List.setIfInBounds_toArray, List.set_cons_zero, List.set_cons_succ])
                            refine take_at 13 9 oa13 (v := ?_) (Or.inl ⟨by rfl, ?_⟩) ?_
                            rotate_left 1
                            · ((intro w hSw; (try dsimp only at hSw); unfold oa13; go_simp) <;> with_reducible rfl)
                            (try simp only [Act.put, List.setIfInBounds_toArray, List.set_cons_zero, List.set_cons_succ])
                            refine wpAnyH_done (by kernel_rfl) ?_ _
                            go_wp2_with fail
                            go_meet
                            case rel => exact e
                          exact AllReadyH.nil
                        exact AllReadyH.nil
                      exact AllReadyH.nil
                    exact AllReadyH.nil
                  exact AllReadyH.nil
                exact AllReadyH.nil
              refine AllReadyH.cons (o := oa11) rfl (fun K hK => ?_) ?_
              · unfold oa11
                go_simp
                (try clear hHeld)
                have hbs : Below wd.heap.size wd ((wd.alloc (.cells #[.int .i64 0, .int .i64 0, .slice none 0 0] 53))) := (Below.refl _ _).alloc (Nat.le_refl _) _
                have hkd : Kp V ((wd.alloc (.cells #[.int .i64 0, .int .i64 0, .slice none 0 0] 53))) := kp_call hk hbs
                obtain ⟨z, hz⟩ : ∃ g, wd.heap.size = g := ⟨_, rfl⟩
                have eZ : ((wd.alloc (.cells #[.int .i64 0, .int .i64 0, .slice none 0 0] 53))).heap[z]? = some (.cells #[.int .i64 0, .int .i64 0, .slice none 0 0] 53 (0, 0)) := by rw [← hz]; exact alloc_new wd _
                have hzV : V.heap.size ≤ z := by rw [← hz]; exact hk.size
                rw [hz]
                clear hz
                clear hk hbs
                generalize (wd.alloc (.cells #[.int .i64 0, .int .i64 0, .slice none 0 0] 53)) = wd at hkd eZ ⊢
                have fZ := eZ
                clear eZ
                have hk := hkd
                clear hkd
                refine hK.out _ _ ?_ (fun hHeld => ?_)
                · exact kp_and hk HTC.out HXC.out
                clear hK K
                (try simp only [Act.put, List.setIfInBounds_toArray, List.set_cons_zero, List.set_cons_succ])
                refine wpAnyH_ready (rs := [1, 5]) (by kernel_rfl) (by simp) ?_
                refine AllReadyH.cons (o := oa1) rfl (fun K hK => ?_) ?_
                · unfold oa1
                  go_simp
                  (try clear hHeld)
                  have hbs : Below wd.heap.size wd ((wd.alloc (.cells #[] 3))) := (Below.refl _ _).alloc (Nat.le_refl _) _
                  have hkd : Kp V ((wd.alloc (.cells #[] 3))) := kp_call hk hbs
                  obtain ⟨n, hn⟩ : ∃ g, wd.heap.size = g := ⟨_, rfl⟩
                  have e1 : ((wd.alloc (.cells #[] 3))).ownsRow V.heap.size 3 1 (.slice (some ⟨n, 0, none⟩) 0 0) 0 [] := by rw [← hn]; exact own_empty hk.size
                  have eZ : ((wd.alloc (.cells #[] 3))).heap[z]? = some (.cells #[.int .i64 0, .int .i64 0, .slice none 0 0] 53 (0, 0)) := (hbs.block _ ((Array.getElem?_eq_some_iff.1 fZ).1)).trans fZ
                  have n1Z : n ≠ z := by have := (Array.getElem?_eq_some_iff.1 fZ).1; omega
                  rw [hn]
                  clear hn
                  clear fZ
                  clear hk hbs
                  generalize (wd.alloc (.cells #[] 3)) = wd at hkd eZ e1 ⊢
                  have fZ := eZ
                  clear eZ
                  have f1 := e1
                  clear e1
                  have hk := hkd
                  clear hkd
                  refine hK.out _ _ ?_ (fun hHeld => ?_)
                  · exact kp_and hk HTC.out HXC.out
                  clear hK K
                  (try simp only [Act.put, List.setIfInBounds_toArray, List.set_cons_zero, List.set_cons_succ])
                  refine wpAnyH_ready (rs := [3, 5]) (by kernel_rfl) (by simp) ?_
                  refine AllReadyH.cons (o := oa3) rfl (fun K hK => ?_) ?_
                  · unfold oa3
                    (try clear hHeld)
                    refine step_append_path rfl _ _ rfl V.heap.size i0 HI.out.1 HI.out.2.1 HI.out.2.2.1 HI.out.2.2.2 _ rfl f1 l _ rfl (HP.out.keep (HBV.out.trans (Below.mono hk HBV.out.size))) HLE.out hk.size ?_
                    intro v3 w3 hown hgrow hat
                    have hbs := trivial
                    have hkd : Kp V w3 := Below.grown hk hgrow hk.size (fun k h => (f1.lt k h).1)
                    have e3 : (w3).ownsRow V.heap.size 3 1 v3 l.length (l.map fun i => Value.int .i64 i) := hown
                    have eZ : (w3).heap[z]? = some (.cells #[.int .i64 0, .int .i64 0, .slice none 0 0] 53 (0, 0)) := (hgrow.block _ ((Array.getElem?_eq_some_iff.1 fZ).1) (fun h => by have h1 := n1Z; have h2 : z = n := Option.some.inj h; omega)).trans fZ
                    have nZ3 : v3.ownBlock ≠ some z := fun h => by
                      have h0 := (Array.getElem?_eq_some_iff.1 fZ).1
                      have h1 := n1Z
                      rcases hat with e | e
                      · rw [e] at h
                        have h2 : n = z := Option.some.inj h
                        omega
                      · rw [e] at h
                        have h2 : wd.heap.size = z := Option.some.inj h
                        omega
                    clear f1 hgrow hat hown
                    clear fZ
                    clear hk hbs
                    generalize w3 = wd at hkd eZ e3 ⊢
                    have fZ := eZ
                    clear eZ
                    have f3 := e3
                    clear e3
                    have hk := hkd
                    clear hkd
                    refine hK.out _ _ ?_ (fun hHeld => ?_)
                    · exact kp_and hk HTC.out HXC.out
                    clear hK K
                    (try simp only [Act.put, List.setIfInBounds_toArray, List.set_cons_zero, List.set_cons_succ])
                    refine wpAnyH_ready (rs := [5]) (by kernel_rfl) (by simp) ?_
                    refine AllReadyH.cons (o := oa5) rfl (fun K hK => ?_) ?_
                    · unfold oa5
                      go_simp
                      (try clear hHeld)
                      have hbs : Below wd.heap.size wd ((wd.alloc (.cells #[.int .i64 i] 3))) := (Below.refl _ _).alloc (Nat.le_refl _) _
                      have hkd : Kp V ((wd.alloc (.cells #[.int .i64 i] 3))) := kp_call hk hbs
                      obtain ⟨m, hm⟩ : ∃ g, wd.heap.size = g := ⟨_, rfl⟩
                      have e5 : ((wd.alloc (.cells #[.int .i64 i] 3))).heap[m]? = some (.cells #[.int .i64 i] 3 (0, 0)) := by rw [← hm]; exact alloc_new wd _
                      have eZ : ((wd.alloc (.cells #[.int .i64 i] 3))).heap[z]? = some (.cells #[.int .i64 0, .int .i64 0, .slice none 0 0] 53 (0, 0)) := (hbs.block _ ((Array.getElem?_eq_some_iff.1 fZ).1)).trans fZ
                      have e3 : ((wd.alloc (.cells #[.int .i64 i] 3))).ownsRow V.heap.size 3 1 v3 l.length (l.map fun i => Value.int .i64 i) := own_keepv f3 (fun k hk => hbs.block _ (f3.lt k hk).2)
                      have n5Z : m ≠ z := by have := (Array.getElem?_eq_some_iff.1 fZ).1; omega
                      have n53 : v3.ownBlock ≠ some m := fun h => by have := (f3.lt _ h).2; omega
                      rw [hm]
                      clear hm
                      clear fZ f3
                      clear hk hbs
                      generalize (wd.alloc (.cells #[.int .i64 i] 3)) = wd at hkd eZ e3 e5 ⊢
                      have fZ := eZ
                      clear eZ
                      have f3 := e3
                      clear e3
                      have f5 := e5
                      clear e5
                      have hk := hkd
                      clear hkd
                      refine hK.out _ _ ?_ (fun hHeld => ?_)
                      · exact kp_and hk HTC.out HXC.out
                      clear hK K
                      (try simp only [Act.put, List.setIfInBounds_toArray, List.set_cons_zero, List.set_cons_succ])
                      refine wpAnyH_ready (rs := [6]) (by kernel_rfl) (by simp) ?_
                      refine AllReadyH.cons (o := oa6) rfl (fun K hK => ?_) ?_
                      · unfold oa6
                        (try clear hHeld)
                        refine step_append_lies _ rfl _ _ 54 rfl V.heap.size 3 i0 _ 1 8 (by kernel_rfl) HI.out.1 HI.out.2.1 HI.out.2.2.1 HI.out.2.2.2 rfl (by decide) _ l.length (l.map fun i => Value.int .i64 i) rfl f3 ⟨m, 0, none⟩ 1 1 [.int .i64 i] rfl rfl (World.news_of_block f5) (int_one i) (by decide) (by have := HLE.out; unfold maxLen; omega) (by have := HLE.out; omega) hk.size _ rfl ?_
                        intro h ch w3 hown hgrow hat hlt3
                        have hbs := trivial
                        have hkd : Kp V w3 := Below.grown hk hgrow hk.size (fun k h => (f3.lt k h).1)
                        have e6 : (w3).ownsRow V.heap.size 3 1 (.slice (some ⟨h, 0, none⟩) (l.length + 1) ch) (l.length + 1) ((l.map fun i => Value.int .i64 i) ++ [.int .i64 i]) := hown
                        have eZ : (w3).heap[z]? = some (.cells #[.int .i64 0, .int .i64 0, .slice none 0 0] 53 (0, 0)) := (hgrow.block _ ((Array.getElem?_eq_some_iff.1 fZ).1) (fun h => nZ3 h.symm)).trans fZ
                        clear f3 f5 hgrow hat hlt3 hown
                        clear fZ
                        clear hk hbs
                        generalize w3 = wd at hkd eZ e6 ⊢
                        have fZ := eZ
                        clear eZ
                        have f6 := e6
                        clear e6
                        have hk := hkd
                        clear hkd
                        refine hK.out _ _ ?_ (fun hHeld => ?_)
                        · exact kp_and hk HTC.out HXC.out
                        clear hK K
                        (try simp only [Act.put, List.setIfInBounds_toArray, List.set_cons_zero, List.set_cons_succ])
                        refine wpAnyH_ready (rs := [7]) (by kernel_rfl) (by simp) ?_
                        refine AllReadyH.cons (o := oa7) rfl (fun K hK => ?_) ?_
                        · unfold oa7
                          go_simp
                          (try clear hHeld)
                          (go_at_call 33; (with_reducible refine (datb_any t (l ++ [i]) wd _ _ (kp_lies hk HLT.out) (own_lies1 f6) HS6.out Y b HV.out).mono ?_); rintro e wn ⟨⟨sY, rfl, hlY⟩, hbs⟩)
                          obtain ⟨aY, cY, rfl, -, -⟩ := hlY.out
                          have hkd : Kp V wn := kp_call hk hbs
                          have eZ : (wn).heap[z]? = some (.cells #[.int .i64 0, .int .i64 0, .slice none 0 0] 53 (0, 0)) := (hbs.block _ ((Array.getElem?_eq_some_iff.1 fZ).1)).trans fZ
                          have eY : LiesP wn (fun b => b ≠ z) Y.kids (.slice aY Y.kids.length cY) := hlY.keep (fun _ _ _ => rfl) (fun b hb _ => by have := hb.1; have := (Array.getElem?_eq_some_iff.1 fZ).1; omega)
                          clear hlY f6
                          clear fZ
                          clear hk hbs
                          generalize wn = wd at hkd eZ eY ⊢
                          have fZ := eZ
                          clear eZ
                          have hk := hkd
                          clear hkd
                          have fY := eY
                          clear eY
                          refine hK.out _ _ ?_ (fun hHeld => ?_)
                          · exact kp_and hk HTC.out HXC.out
                          clear hK K
                          (try simp only [Act.put, List.setIfInBounds_toArray, List.set_cons_zero, List.set_cons_succ])
                          refine take_at 8 73 oa8 (v := ?_) (Or.inl ⟨by rfl, ?_⟩) ?_
                          rotate_left 1
                          · ((intro w hSw; (try dsimp only at hSw); unfold oa8; go_simp) <;> with_reducible rfl)
                          (try simp only [Act.put, List.setIfInBounds_toArray, List.set_cons_zero, List.set_cons_succ])
                          refine take_at 9 82 oa9 (v := ?_) (Or.inl ⟨by rfl, ?_⟩) ?_
                          rotate_left 1
                          · ((intro w hSw; (try dsimp only at hSw); unfold oa9; go_simp) <;> with_reducible rfl)
                          (try simp only [Act.put, List.setIfInBounds_toArray, List.set_cons_zero, List.set_cons_succ])
                          refine take_at 10 83 oa10 (v := ?_) (Or.inl ⟨by rfl, ?_⟩) ?_
                          rotate_left 1
                          · ((intro w hSw; (try dsimp only at hSw); unfold oa10; go_simp) <;> with_reducible rfl)
                          (try simp only [Act.put, List.setIfInBounds_toArray, List.set_cons_zero, List.set_cons_succ])
                          obtain ⟨z0, z1, z2⟩ := five_cells fZ
                          obtain ⟨r0, r1, r2⟩ := five_free fZ
                          refine wpAnyH_ready (rs := [12]) (by kernel_rfl) (by simp) ?_
                          refine AllReadyH.cons (o := oa12) rfl (fun K hK => ?_) ?_
                          · unfold oa12
                            go_simp
                            have hkd : Kp V ((((wd.setCell ⟨z, 0, none⟩ (.int .i64 Y.k)).setCell ⟨z, 1, none⟩ (.int .i64 Y.i)).setCell ⟨z, 2, none⟩ (.slice aY Y.kids.length cY))) := below_five hk hzV _ _ _
                            have e : DoneAt V Y b (.pointer (some ⟨z, 0, none⟩)) (.bool b) ((((wd.setCell ⟨z, 0, none⟩ (.int .i64 Y.k)).setCell ⟨z, 1, none⟩ (.int .i64 Y.i)).setCell ⟨z, 2, none⟩ (.slice aY Y.kids.length cY))) := done_at hk hzV fZ fY b
                            clear hk fZ fY z0 z1 z2 r0 r1 r2
                            generalize (((wd.setCell ⟨z, 0, none⟩ (.int .i64 Y.k)).setCell ⟨z, 1, none⟩ (.int .i64 Y.i)).setCell ⟨z, 2, none⟩ (.slice aY Y.kids.length cY)) = wd at hkd e ⊢
                            refine hK.out _ _ ?_ (fun hHeld => ?_)
                            · exact kp_and hkd HTC.out HXC.out
                            clear hK K
                            (try simp only [Act.put, List.setIfInBounds_toArray, List.set_cons_zero, List.set_cons_succ])
                            refine take_at 13 9 oa13 (v := ?_) (Or.inl ⟨by rfl, ?_⟩) ?_
                            rotate_left 1
                            · ((intro w hSw; (try dsimp only at hSw); unfold oa13; go_simp) <;> with_reducible rfl)
                            (try simp only [Act.put, List.setIfInBounds_toArray, List.set_cons_zero, List.set_cons_succ])
                            refine wpAnyH_done (by kernel_rfl) ?_ _
                            go_wp2_with fail
                            go_meet
                            case rel => exact e
                          exact AllReadyH.nil
                        exact AllReadyH.nil
                      exact AllReadyH.nil
                    exact AllReadyH.nil
                  refine AllReadyH.cons (o := oa5) rfl (fun K hK => ?_) ?_
                  · unfold oa5
                    go_simp
                    (try clear hHeld)
                    have hbs : Below wd.heap.size wd ((wd.alloc (.cells #[.int .i64 i] 3))) := (Below.refl _ _).alloc (Nat.le_refl _) _
                    have hkd : Kp V ((wd.alloc (.cells #[.int .i64 i] 3))) := kp_call hk hbs
                    obtain ⟨m, hm⟩ : ∃ g, wd.heap.size = g := ⟨_, rfl⟩
                    have e5 : ((wd.alloc (.cells #[.int .i64 i] 3))).heap[m]? = some (.cells #[.int .i64 i] 3 (0, 0)) := by rw [← hm]; exact alloc_new wd _
                    have eZ : ((wd.alloc (.cells #[.int .i64 i] 3))).heap[z]? = some (.cells #[.int .i64 0, .int .i64 0, .slice none 0 0] 53 (0, 0)) := (hbs.block _ ((Array.getElem?_eq_some_iff.1 fZ).1)).trans fZ
                    have e1 : ((wd.alloc (.cells #[.int .i64 i] 3))).ownsRow V.heap.size 3 1 (.slice (some ⟨n, 0, none⟩) 0 0) 0 [] := own_keep f1 (hbs.block _ (own_lt f1))
                    have n5Z : m ≠ z := by have := (Array.getElem?_eq_some_iff.1 fZ).1; omega
                    have n51 : m ≠ n := by have := own_lt f1; omega
                    rw [hm]
                    clear hm
                    clear fZ f1
                    clear hk hbs
                    generalize (wd.alloc (.cells #[.int .i64 i] 3)) = wd at hkd eZ e1 e5 ⊢
                    have fZ := eZ
                    clear eZ
                    have f1 := e1
                    clear e1
                    have f5 := e5
                    clear e5
                    have hk := hkd
                    clear hkd
                    refine hK.out _ _ ?_ (fun hHeld => ?_)
                    · exact kp_and hk HTC.out HXC.out
                    clear hK K
                    (try simp only [Act.put, List.setIfInBounds_toArray, List.set_cons_zero, List.set_cons_succ])
                    refine wpAnyH_ready (rs := [3]) (by kernel_rfl) (by simp) ?_
                    refine AllReadyH.cons (o := oa3) rfl (fun K hK => ?_) ?_
                    · unfold oa3
                      (try clear hHeld)
                      refine step_append_path rfl _ _ rfl V.heap.size i0 HI.out.1 HI.out.2.1 HI.out.2.2.1 HI.out.2.2.2 _ rfl f1 l _ rfl (HP.out.keep (HBV.out.trans (Below.mono hk HBV.out.size))) HLE.out hk.size ?_
                      intro v3 w3 hown hgrow hat
                      have hbs := trivial
                      have hkd : Kp V w3 := Below.grown hk hgrow hk.size (fun k h => (f1.lt k h).1)
                      have e3 : (w3).ownsRow V.heap.size 3 1 v3 l.length (l.map fun i => Value.int .i64 i) := hown
                      have eZ : (w3).heap[z]? = some (.cells #[.int .i64 0, .int .i64 0, .slice none 0 0] 53 (0, 0)) := (hgrow.block _ ((Array.getElem?_eq_some_iff.1 fZ).1) (fun h => by have h1 := n1Z; have h2 : z = n := Option.some.inj h; omega)).trans fZ
                      have e5 : (w3).heap[m]? = some (.cells #[.int .i64 i] 3 (0, 0)) := (hgrow.block _ ((Array.getElem?_eq_some_iff.1 f5).1) (fun h => by have h1 := n51; have h2 : m = n := Option.some.inj h; omega)).trans f5
                      have nZ3 : v3.ownBlock ≠ some z := fun h => by
                        have h0 := (Array.getElem?_eq_some_iff.1 fZ).1
                        have h1 := n1Z
                        rcases hat with e | e
                        · rw [e] at h
                          have h2 : n = z := Option.some.inj h
                          omega
                        · rw [e] at h
                          have h2 : wd.heap.size = z := Option.some.inj h
                          omega
                      have n53 : v3.ownBlock ≠ some m := fun h => by
                        have h0 := (Array.getElem?_eq_some_iff.1 f5).1
                        have h1 := n51
                        rcases hat with e | e
                        · rw [e] at h
                          have h2 : n = m := Option.some.inj h
                          omega
                        · rw [e] at h
                          have h2 : wd.heap.size = m := Option.some.inj h
                          omega
                      clear f1 hgrow hat hown
                      clear fZ f5
                      clear hk hbs
                      generalize w3 = wd at hkd eZ e5 e3 ⊢
                      have fZ := eZ
                      clear eZ
                      have f5 := e5
                      clear e5
                      have f3 := e3
                      clear e3
                      have hk := hkd
                      clear hkd
                      refine hK.out _ _ ?_ (fun hHeld => ?_)
                      · exact kp_and hk HTC.out HXC.out
                      clear hK K
                      (try simp only [Act.put, List.setIfInBounds_toArray, List.set_cons_zero, List.set_cons_succ])
                      refine wpAnyH_ready (rs := [6]) (by kernel_rfl) (by simp) ?_
                      refine AllReadyH.cons (o := oa6) rfl (fun K hK => ?_) ?_
                      · unfold oa6
                        (try clear hHeld)
                        refine step_append_lies _ rfl _ _ 54 rfl V.heap.size 3 i0 _ 1 8 (by kernel_rfl) HI.out.1 HI.out.2.1 HI.out.2.2.1 HI.out.2.2.2 rfl (by decide) _ l.length (l.map fun i => Value.int .i64 i) rfl f3 ⟨m, 0, none⟩ 1 1 [.int .i64 i] rfl rfl (World.news_of_block f5) (int_one i) (by decide) (by have := HLE.out; unfold maxLen; omega) (by have := HLE.out; omega) hk.size _ rfl ?_
                        intro h ch w3 hown hgrow hat hlt3
                        have hbs := trivial
                        have hkd : Kp V w3 := Below.grown hk hgrow hk.size (fun k h => (f3.lt k h).1)
                        have e6 : (w3).ownsRow V.heap.size 3 1 (.slice (some ⟨h, 0, none⟩) (l.length + 1) ch) (l.length + 1) ((l.map fun i => Value.int .i64 i) ++ [.int .i64 i]) := hown
                        have eZ : (w3).heap[z]? = some (.cells #[.int .i64 0, .int .i64 0, .slice none 0 0] 53 (0, 0)) := (hgrow.block _ ((Array.getElem?_eq_some_iff.1 fZ).1) (fun h => nZ3 h.symm)).trans fZ
                        clear f3 f5 hgrow hat hlt3 hown
                        clear fZ
                        clear hk hbs
                        generalize w3 = wd at hkd eZ e6 ⊢
                        have fZ := eZ
                        clear eZ
                        have f6 := e6
                        clear e6
                        have hk := hkd
                        clear hkd
                        refine hK.out _ _ ?_ (fun hHeld => ?_)
                        · exact kp_and hk HTC.out HXC.out
                        clear hK K
                        (try simp only [Act.put, List.setIfInBounds_toArray, List.set_cons_zero, List.set_cons_succ])
                        refine wpAnyH_ready (rs := [7]) (by kernel_rfl) (by simp) ?_
                        refine AllReadyH.cons (o := oa7) rfl (fun K hK => ?_) ?_
                        · unfold oa7
                          go_simp
                          (try clear hHeld)
                          (go_at_call 33; (with_reducible refine (datb_any t (l ++ [i]) wd _ _ (kp_lies hk HLT.out) (own_lies1 f6) HS6.out Y b HV.out).mono ?_); rintro e wn ⟨⟨sY, rfl, hlY⟩, hbs⟩)
                          obtain ⟨aY, cY, rfl, -, -⟩ := hlY.out
                          have hkd : Kp V wn := kp_call hk hbs
                          have eZ : (wn).heap[z]? = some (.cells #[.int .i64 0, .int .i64 0, .slice none 0 0] 53 (0, 0)) := (hbs.block _ ((Array.getElem?_eq_some_iff.1 fZ).1)).trans fZ
                          have eY : LiesP wn (fun b => b ≠ z) Y.kids (.slice aY Y.kids.length cY) := hlY.keep (fun _ _ _ => rfl) (fun b hb _ => by have := hb.1; have := (Array.getElem?_eq_some_iff.1 fZ).1; omega)
                          clear hlY f6
                          clear fZ
                          clear hk hbs
                          generalize wn = wd at hkd eZ eY ⊢
                          have fZ := eZ
                          clear eZ
                          have hk := hkd
                          clear hkd
                          have fY := eY
                          clear eY
                          refine hK.out _ _ ?_ (fun hHeld => ?_)
                          · exact kp_and hk HTC.out HXC.out
                          clear hK K
                          (try simp only [Act.put, List.setIfInBounds_toArray, List.set_cons_zero, List.set_cons_succ])
                          refine take_at 8 73 oa8 (v := ?_) (Or.inl ⟨by rfl, ?_⟩) ?_
                          rotate_left 1
                          · ((intro w hSw; (try dsimp only at hSw); unfold oa8; go_simp) <;> with_reducible rfl)
                          (try simp only [Act.put, List.setIfInBounds_toArray, List.set_cons_zero, List.set_cons_succ])
                          refine take_at 9 82 oa9 (v := ?_) (Or.inl ⟨by rfl, ?_⟩) ?_
                          rotate_left 1
                          · ((intro w hSw; (try dsimp only at hSw); unfold oa9; go_simp) <;> with_reducible rfl)
                          (try simp only [Act.put, List.setIfInBounds_toArray, List.set_cons_zero, List.set_cons_succ])
                          refine take_at 10 83 oa10 (v := ?_) (Or.inl ⟨by rfl, ?_⟩) ?_
                          rotate_left 1
                          · ((intro w hSw; (try dsimp only at hSw); unfold oa10; go_simp) <;> with_reducible rfl)
                          (try simp only [Act.put, List.setIfInBounds_toArray, List.set_cons_zero, List.set_cons_succ])
                          obtain ⟨z0, z1, z2⟩ := five_cells fZ
                          obtain ⟨r0, r1, r2⟩ := five_free fZ
                          refine wpAnyH_ready (rs := [12]) (by kernel_rfl) (by simp) ?_
                          refine AllReadyH.cons (o := oa12) rfl (fun K hK => ?_) ?_
                          · unfold oa12
                            go_simp
                            have hkd : Kp V ((((wd.setCell ⟨z, 0, none⟩ (.int .i64 Y.k)).setCell ⟨z, 1, none⟩ (.int .i64 Y.i)).setCell ⟨z, 2, none⟩ (.slice aY Y.kids.length cY))) := below_five hk hzV _ _ _
                            have e : DoneAt V Y b (.pointer (some ⟨z, 0, none⟩)) (.bool b) ((((wd.setCell ⟨z, 0, none⟩ (.int .i64 Y.k)).setCell ⟨z, 1, none⟩ (.int .i64 Y.i)).setCell ⟨z, 2, none⟩ (.slice aY Y.kids.length cY))) := done_at hk hzV fZ fY b
                            clear hk fZ fY z0 z1 z2 r0 r1 r2
                            generalize (((wd.setCell ⟨z, 0, none⟩ (.int .i64 Y.k)).setCell ⟨z, 1, none⟩ (.int .i64 Y.i)).setCell ⟨z, 2, none⟩ (.slice aY Y.kids.length cY)) = wd at hkd e ⊢
                            refine hK.out _ _ ?_ (fun hHeld => ?_)
                            · exact kp_and hkd HTC.out HXC.out
                            clear hK K
                            (try simp only [Act.put, List.setIfInBounds_toArray, List.set_cons_zero, List.set_cons_succ])
                            refine take_at 13 9 oa13 (v := ?_) (Or.inl ⟨by rfl, ?_⟩) ?_
                            rotate_left 1
                            · ((intro w hSw; (try dsimp only at hSw); unfold oa13; go_simp) <;> with_reducible rfl)
                            (try simp only [Act.put, List.setIfInBounds_toArray, List.set_cons_zero, List.set_cons_succ])
                            refine wpAnyH_done (by kernel_rfl) ?_ _
                            go_wp2_with fail
                            go_meet
                            case rel => exact e
                          exact AllReadyH.nil
                        exact AllReadyH.nil
                      exact AllReadyH.nil
                    exact AllReadyH.nil
                  exact AllReadyH.nil
                refine AllReadyH.cons (o := oa5) rfl (fun K hK => ?_) ?_
                · unfold oa5
                  go_simp
                  (try clear hHeld)
                  have hbs : Below wd.heap.size wd ((wd.alloc (.cells #[.int .i64 i] 3))) := (Below.refl _ _).alloc (Nat.le_refl _) _
                  have hkd : Kp V ((wd.alloc (.cells #[.int .i64 i] 3))) := kp_call hk hbs
                  obtain ⟨m, hm⟩ : ∃ g, wd.heap.size = g := ⟨_, rfl⟩
                  have e5 : ((wd.alloc (.cells #[.int .i64 i] 3))).heap[m]? = some (.cells #[.int .i64 i] 3 (0, 0)) := by rw [← hm]; exact alloc_new wd _
                  have eZ : ((wd.alloc (.cells #[.int .i64 i] 3))).heap[z]? = some (.cells #[.int .i64 0, .int .i64 0, .slice none 0 0] 53 (0, 0)) := (hbs.block _ ((Array.getElem?_eq_some_iff.1 fZ).1)).trans fZ
                  have n5Z : m ≠ z := by have := (Array.getElem?_eq_some_iff.1 fZ).1; omega
                  rw [hm]
                  clear hm
                  clear fZ
                  clear hk hbs
                  generalize (wd.alloc (.cells #[.int .i64 i] 3)) = wd at hkd eZ e5 ⊢
                  have fZ := eZ
                  clear eZ
                  have f5 := e5
                  clear e5
                  have hk := hkd
                  clear hkd
                  refine hK.out _ _ ?_ (fun hHeld => ?_)
                  · exact kp_and hk HTC.out HXC.out
                  clear hK K
                  (try simp only [Act.put, List.setIfInBounds_toArray, List.set_cons_zero, List.set_cons_succ])
                  refine wpAnyH_ready (rs := [1]) (by kernel_rfl) (by simp) ?_
                  refine AllReadyH.cons (o := oa1) rfl (fun K hK => ?_) ?_
                  · unfold oa1
                    go_simp
                    (try clear hHeld)
                    have hbs : Below wd.heap.size wd ((wd.alloc (.cells #[] 3))) := (Below.refl _ _).alloc (Nat.le_refl _) _
                    have hkd : Kp V ((wd.alloc (.cells #[] 3))) := kp_call hk hbs
                    obtain ⟨n, hn⟩ : ∃ g, wd.heap.size = g := ⟨_, rfl⟩
                    have e1 : ((wd.alloc (.cells #[] 3))).ownsRow V.heap.size 3 1 (.slice (some ⟨n, 0, none⟩) 0 0) 0 [] := by rw [← hn]; exact own_empty hk.size
                    have eZ : ((wd.alloc (.cells #[] 3))).heap[z]? = some (.cells #[.int .i64 0, .int .i64 0, .slice none 0 0] 53 (0, 0)) := (hbs.block _ ((Array.getElem?_eq_some_iff.1 fZ).1)).trans fZ
                    have e5 : ((wd.alloc (.cells #[] 3))).heap[m]? = some (.cells #[.int .i64 i] 3 (0, 0)) := (hbs.block _ ((Array.getElem?_eq_some_iff.1 f5).1)).trans f5
                    have n1Z : n ≠ z := by have := (Array.getElem?_eq_some_iff.1 fZ).1; omega
                    have n15 : n ≠ m := by have := (Array.getElem?_eq_some_iff.1 f5).1; omega
                    rw [hn]
                    clear hn
                    clear fZ f5
                    clear hk hbs
                    generalize (wd.alloc (.cells #[] 3)) = wd at hkd eZ e5 e1 ⊢
                    have fZ := eZ
                    clear eZ
                    have f5 := e5
                    clear e5
                    have f1 := e1
                    clear e1
                    have hk := hkd
                    clear hkd
                    refine hK.out _ _ ?_ (fun hHeld => ?_)
                    · exact kp_and hk HTC.out HXC.out
                    clear hK K
                    (try simp only [Act.put, List.setIfInBounds_toArray, List.set_cons_zero, List.set_cons_succ])
                    refine wpAnyH_ready (rs := [3]) (by kernel_rfl) (by simp) ?_
                    refine AllReadyH.cons (o := oa3) rfl (fun K hK => ?_) ?_
                    · unfold oa3
                      (try clear hHeld)
                      refine step_append_path rfl _ _ rfl V.heap.size i0 HI.out.1 HI.out.2.1 HI.out.2.2.1 HI.out.2.2.2 _ rfl f1 l _ rfl (HP.out.keep (HBV.out.trans (Below.mono hk HBV.out.size))) HLE.out hk.size ?_
                      intro v3 w3 hown hgrow hat
                      have hbs := trivial
                      have hkd : Kp V w3 := Below.grown hk hgrow hk.size (fun k h => (f1.lt k h).1)
                      have e3 : (w3).ownsRow V.heap.size 3 1 v3 l.length (l.map fun i => Value.int .i64 i) := hown
                      have eZ : (w3).heap[z]? = some (.cells #[.int .i64 0, .int .i64 0, .slice none 0 0] 53 (0, 0)) := (hgrow.block _ ((Array.getElem?_eq_some_iff.1 fZ).1) (fun h => by have h1 := n1Z; have h2 : z = n := Option.some.inj h; omega)).trans fZ
                      have e5 : (w3).heap[m]? = some (.cells #[.int .i64 i] 3 (0, 0)) := (hgrow.block _ ((Array.getElem?_eq_some_iff.1 f5).1) (fun h => by have h1 := n15; have h2 : m = n := Option.some.inj h; omega)).trans f5
                      have nZ3 : v3.ownBlock ≠ some z := fun h => by
                        have h0 := (Array.getElem?_eq_some_iff.1 fZ).1
                        have h1 := n1Z
                        rcases hat with e | e
                        · rw [e] at h
                          have h2 : n = z := Option.some.inj h
                          omega
                        · rw [e] at h
                          have h2 : wd.heap.size = z := Option.some.inj h
                          omega
                      have n53 : v3.ownBlock ≠ some m := fun h => by
                        have h0 := (Array.getElem?_eq_some_iff.1 f5).1
                        have h1 := n15
                        rcases hat with e | e
                        · rw [e] at h
                          have h2 : n = m := Option.some.inj h
                          omega
                        · rw [e] at h
                          have h2 : wd.heap.size = m := Option.some.inj h
                          omega
                      clear f1 hgrow hat hown
                      clear fZ f5
                      clear hk hbs
                      generalize w3 = wd at hkd eZ e5 e3 ⊢
                      have fZ := eZ
                      clear eZ
                      have f5 := e5
                      clear e5
                      have f3 := e3
                      clear e3
                      have hk := hkd
                      clear hkd
                      refine hK.out _ _ ?_ (fun hHeld => ?_)
                      · exact kp_and hk HTC.out HXC.out
                      clear hK K
                      (try simp only [Act.put, List.setIfInBounds_toArray, List.set_cons_zero, List.set_cons_succ])
                      refine wpAnyH_ready (rs := [6]) (by kernel_rfl) (by simp) ?_
                      refine AllReadyH.cons (o := oa6) rfl (fun K hK => ?_) ?_
                      · unfold oa6
                        (try clear hHeld)
                        refine step_append_lies _ rfl _ _ 54 rfl V.heap.size 3 i0 _ 1 8 (by kernel_rfl) HI.out.1 HI.out.2.1 HI.out.2.2.1 HI.out.2.2.2 rfl (by decide) _ l.length (l.map fun i => Value.int .i64 i) rfl f3 ⟨m, 0, none⟩ 1 1 [.int .i64 i] rfl rfl (World.news_of_block f5) (int_one i) (by decide) (by have := HLE.out; unfold maxLen; omega) (by have := HLE.out; omega) hk.size _ rfl ?_
                        intro h ch w3 hown hgrow hat hlt3
                        have hbs := trivial
                        have hkd : Kp V w3 := Below.grown hk hgrow hk.size (fun k h => (f3.lt k h).1)
                        have e6 : (w3).ownsRow V.heap.size 3 1 (.slice (some ⟨h, 0, none⟩) (l.length + 1) ch) (l.length + 1) ((l.map fun i => Value.int .i64 i) ++ [.int .i64 i]) := hown
                        have eZ : (w3).heap[z]? = some (.cells #[.int .i64 0, .int .i64 0, .slice none 0 0] 53 (0, 0)) := (hgrow.block _ ((Array.getElem?_eq_some_iff.1 fZ).1) (fun h => nZ3 h.symm)).trans fZ
                        clear f3 f5 hgrow hat hlt3 hown
                        clear fZ
                        clear hk hbs
                        generalize w3 = wd at hkd eZ e6 ⊢
                        have fZ := eZ
                        clear eZ
                        have f6 := e6
                        clear e6
                        have hk := hkd
                        clear hkd
                        refine hK.out _ _ ?_ (fun hHeld => ?_)
                        · exact kp_and hk HTC.out HXC.out
                        clear hK K
                        (try simp only [Act.put, List.setIfInBounds_toArray, List.set_cons_zero, List.set_cons_succ])
                        refine wpAnyH_ready (rs := [7]) (by kernel_rfl) (by simp) ?_
                        refine AllReadyH.cons (o := oa7) rfl (fun K hK => ?_) ?_
                        · unfold oa7
                          go_simp
                          (try clear hHeld)
                          (go_at_call 33; (with_reducible refine (datb_any t (l ++ [i]) wd _ _ (kp_lies hk HLT.out) (own_lies1 f6) HS6.out Y b HV.out).mono ?_); rintro e wn ⟨⟨sY, rfl, hlY⟩, hbs⟩)
                          obtain ⟨aY, cY, rfl, -, -⟩ := hlY.out
                          have hkd : Kp V wn := kp_call hk hbs
                          have eZ : (wn).heap[z]? = some (.cells #[.int .i64 0, .int .i64 0, .slice none 0 0] 53 (0, 0)) := (hbs.block _ ((Array.getElem?_eq_some_iff.1 fZ).1)).trans fZ
                          have eY : LiesP wn (fun b => b ≠ z) Y.kids (.slice aY Y.kids.length cY) := hlY.keep (fun _ _ _ => rfl) (fun b hb _ => by have := hb.1; have := (Array.getElem?_eq_some_iff.1 fZ).1; omega)
                          clear hlY f6
                          clear fZ
                          clear hk hbs
                          generalize wn = wd at hkd eZ eY ⊢
                          have fZ := eZ
                          clear eZ
                          have hk := hkd
                          clear hkd
                          have fY := eY
                          clear eY
                          refine hK.out _ _ ?_ (fun hHeld => ?_)
                          · exact kp_and hk HTC.out HXC.out
                          clear hK K
                          (try simp only [Act.put, List.setIfInBounds_toArray, List.set_cons_zero, List.set_cons_succ])
                          refine take_at 8 73 oa8 (v := ?_) (Or.inl ⟨by rfl, ?_⟩) ?_
                          rotate_left 1
                          · ((intro w hSw; (try dsimp only at hSw); unfold oa8; go_simp) <;> with_reducible rfl)
                          (try simp only [Act.put, List.setIfInBounds_toArray, List.set_cons_zero, List.set_cons_succ])
                          refine take_at 9 82 oa9 (v := ?_) (Or.inl ⟨by rfl, ?_⟩) ?_
                          rotate_left 1
                          · ((intro w hSw; (try dsimp only at hSw); unfold oa9; go_simp) <;> with_reducible rfl)
                          (try simp only [Act.put, List.setIfInBounds_toArray, List.set_cons_zero, List.set_cons_succ])
                          refine take_at 10 83 oa10 (v := ?_) (Or.inl ⟨by rfl, ?_⟩) ?_
                          rotate_left 1
                          · ((intro w hSw; (try dsimp only at hSw); unfold oa10; go_simp) <;> with_reducible rfl)
                          (try simp only [Act.put, List.setIfInBounds_toArray, List.set_cons_zero, List.set_cons_succ])
                          obtain ⟨z0, z1, z2⟩ := five_cells fZ
                          obtain ⟨r0, r1, r2⟩ := five_free fZ
                          refine wpAnyH_ready (rs := [12]) (by kernel_rfl) (by simp) ?_
                          refine AllReadyH.cons (o := oa12) rfl (fun K hK => ?_) ?_
                          · unfold oa12
                            go_simp
                            have hkd : Kp V ((((wd.setCell ⟨z, 0, none⟩ (.int .i64 Y.k)).setCell ⟨z, 1, none⟩ (.int .i64 Y.i)).setCell ⟨z, 2, none⟩ (.slice aY Y.kids.length cY))) := below_five hk hzV _ _ _
                            have e : DoneAt V Y b (.pointer (some ⟨z, 0, none⟩)) (.bool b) ((((wd.setCell ⟨z, 0, none⟩ (.int .i64 Y.k)).setCell ⟨z, 1, none⟩ (.int .i64 Y.i)).setCell ⟨z, 2, none⟩ (.slice aY Y.kids.length cY))) := done_at hk hzV fZ fY b
                            clear hk fZ fY z0 z1 z2 r0 r1 r2
                            generalize (((wd.setCell ⟨z, 0, none⟩ (.int .i64 Y.k)).setCell ⟨z, 1, none⟩ (.int .i64 Y.i)).setCell ⟨z, 2, none⟩ (.slice aY Y.kids.length cY)) = wd at hkd e ⊢
                            refine hK.out _ _ ?_ (fun hHeld => ?_)
                            · exact kp_and hkd HTC.out HXC.out
                            clear hK K
                            (try simp only [Act.put, List.setIfInBounds_toArray, List.set_cons_zero, List.set_cons_succ])
                            refine take_at 13 9 oa13 (v := ?_) (Or.inl ⟨by rfl, ?_⟩) ?_
                            rotate_left 1
                            · ((intro w hSw; (try dsimp only at hSw); unfold oa13; go_simp) <;> with_reducible rfl)
                            (try simp only [Act.put, List.setIfInBounds_toArray, List.set_cons_zero, List.set_cons_succ])
                            refine wpAnyH_done (by kernel_rfl) ?_ _
                            go_wp2_with fail
                            go_meet
                            case rel => exact e
                          exact AllReadyH.nil
                        exact AllReadyH.nil
                      exact AllReadyH.nil
                    exact AllReadyH.nil
                  exact AllReadyH.nil
                exact AllReadyH.nil
              exact AllReadyH.nil
            case rest =>
              obtain ⟨z, aY, cY, rfl, rfl, hzV, fz, hly, hkc⟩ := hcut
              have hk0 := kp_start wc
              rcases HYB.out with ⟨rfl, k, hk, rfl, rfl⟩ | ⟨rfl, hno⟩
              · obtain ⟨ua, ucap, US, hus, uc, um, uf, un, uk⟩ := HLX.out.out
                simp only [Value.slice.injEq] at hus
                obtain ⟨rfl, -, rfl⟩ := hus
                obtain ⟨bk, ok, rfl, hy⟩ := un k hk
                obtain ⟨y0, y1, y2⟩ := hy.below hkc hy.lt
                have hq := (uk k hk).keep hkc
                obtain ⟨a', cap', S', hS, -⟩ := hq.out
                rw [hS] at y2 hq
                have HQ := Lib.hid hq
                have HLY := Lib.hid hly
                have HX3 := Lib.hid (HXC.out.keep hkc)
                have HZ3 : Hid (Three wc z (x.kids[k]) (.slice aY (x.kids[k]).kids.length cY)) := five_cells fz
                have HK3 : Hid (ThreeAt wc bk (ok + k * 3) (x.kids[k]) (.slice a' (x.kids[k]).kids.length cap')) := ⟨y0, y1, y2⟩
                have e1 : decide ((0 : Int) ≤ (k : Int)) = true := decide_eq_true (by omega)
                have e2 : decide ((k : Int) < (x.kids.length : Int)) = true := decide_eq_true (by omega)
                have e3 : decide (k < x.kids.length) = true := decide_eq_true hk
                obtain ⟨x0, x1, x2⟩ := HX3.out
                obtain ⟨z0, z1, z2⟩ := HZ3.out
                clear hS hq hly fz un uk uf uc um hy
                go_wp2_with fail
                refine wp_region_held_drew (S := fun w' => Kp wc w' ∧ w'.cell? ⟨gx, 0, none⟩ = some (.int .i64 x.k) ∧ w'.cell? ⟨gx, 1, none⟩ = some (.int .i64 x.i) ∧ w'.cell? ⟨gx, 2, none⟩ = some (.slice (some ⟨bk, ok, none⟩) x.kids.length cap3) ∧ w'.cell? ⟨z, 0, none⟩ = some (.int .i64 x.kids[k].k) ∧ w'.cell? ⟨z, 1, none⟩ = some (.int .i64 x.kids[k].i) ∧ w'.cell? ⟨z, 2, none⟩ = some (.slice aY (x.kids[k]).kids.length cY) ∧ w'.cell? ⟨bk, ok + k * 3, none⟩ = some (.int .i64 (x.kids[k]).k) ∧ w'.cell? ⟨bk, ok + k * 3 + 1, none⟩ = some (.int .i64 (x.kids[k]).i) ∧ w'.cell? ⟨bk, ok + k * 3 + 2, none⟩ = some (.slice a' (x.kids[k]).kids.length cap')) (by kernel_rfl) ?_ (fun hHeld => ?_)
                · (try dsimp only)
                  (((with_reducible refine kp_nine ?_ HX3.out HZ3.out HK3.out); repeat (first | with_reducible assumption | with_reducible exact hk0 | with_reducible refine kp_drew ?_)))
                refine take_at 0 84 ob0 (v := ?_) (Or.inl ⟨by rfl, ?_⟩) ?_
                rotate_left 1
                · ((intro w hSw; (try dsimp only at hSw); unfold ob0; go_simp) <;> with_reducible rfl)
                (try simp only [Act.put, List.setIfInBounds_toArray, List.set_cons_zero, List.set_cons_succ])
                refine take_at 1 85 ob1 (v := ?_) (Or.inl ⟨by rfl, ?_⟩) ?_
                rotate_left 1
                · ((intro w hSw; (try dsimp only at hSw); unfold ob1; go_simp) <;> with_reducible rfl)
                (try simp only [Act.put, List.setIfInBounds_toArray, List.set_cons_zero, List.set_cons_succ])
                refine take_at 2 86 ob2 (v := ?_) (Or.inl ⟨by rfl, ?_⟩) ?_
                rotate_left 1
                · ((intro w hSw; (try dsimp only at hSw); unfold ob2; go_simp) <;> with_reducible rfl)
                (try simp only [Act.put, List.setIfInBounds_toArray, List.set_cons_zero, List.set_cons_succ])
                refine take_at 3 87 ob3 (v := ?_) (Or.inl ⟨by rfl, ?_⟩) ?_
                rotate_left 1
                · ((intro w hSw; (try dsimp only at hSw); unfold ob3; go_simp) <;> with_reducible rfl)
                (try simp only [Act.put, List.setIfInBounds_toArray, List.set_cons_zero, List.set_cons_succ])
                refine take_at 4 88 ob4 (v := ?_) (Or.inl ⟨by rfl, ?_⟩) ?_
                rotate_left 1
                · ((intro w hSw; (try dsimp only at hSw); unfold ob4; go_simp) <;> with_reducible rfl)
                (try simp only [Act.put, List.setIfInBounds_toArray, List.set_cons_zero, List.set_cons_succ])
                refine take_at 5 89 ob5 (v := ?_) (Or.inl ⟨by rfl, ?_⟩) ?_
                rotate_left 1
                · ((intro w hSw; (try dsimp only at hSw); unfold ob5; go_simp) <;> with_reducible rfl)
                (try simp only [Act.put, List.setIfInBounds_toArray, List.set_cons_zero, List.set_cons_succ])
                refine take_at 6 90 ob6 (v := ?_) (Or.inl ⟨by rfl, ?_⟩) ?_
                rotate_left 1
                · ((intro w hSw; (try dsimp only at hSw); unfold ob6; go_simp) <;> with_reducible rfl)
                (try simp only [Act.put, List.setIfInBounds_toArray, List.set_cons_zero, List.set_cons_succ])
                refine take_at 7 91 ob7 (v := ?_) (Or.inl ⟨by rfl, ?_⟩) ?_
                rotate_left 1
                · ((intro w hSw; (try dsimp only at hSw); unfold ob7; go_simp) <;> with_reducible rfl)
                (try simp only [Act.put, List.setIfInBounds_toArray, List.set_cons_zero, List.set_cons_succ])
                refine take_at 8 92 ob8 (v := ?_) (Or.inl ⟨by rfl, ?_⟩) ?_
                rotate_left 1
                · ((intro w hSw; (try dsimp only at hSw); unfold ob8; go_simp) <;> with_reducible rfl)
                (try simp only [Act.put, List.setIfInBounds_toArray, List.set_cons_zero, List.set_cons_succ])
                refine take_at 9 93 ob9 (v := ?_) (Or.inl ⟨by rfl, ?_⟩) ?_
                rotate_left 1
                · ((intro w hSw; (try dsimp only at hSw); unfold ob9; go_simp) <;> with_reducible rfl)
                (try simp only [Act.put, List.setIfInBounds_toArray, List.set_cons_zero, List.set_cons_succ])
                refine take_at 10 94 ob10 (v := ?_) (Or.inl ⟨by rfl, ?_⟩) ?_
                rotate_left 1
                · ((intro w hSw; (try dsimp only at hSw); unfold ob10; go_simp) <;> with_reducible rfl)
                (try simp only [Act.put, List.setIfInBounds_toArray, List.set_cons_zero, List.set_cons_succ])
                refine take_at 11 95 ob11 (v := ?_) (Or.inl ⟨by rfl, ?_⟩) ?_
                rotate_left 1
                · ((intro w hSw; (try dsimp only at hSw); unfold ob11; go_simp) <;> with_reducible rfl)
                (try simp only [Act.put, List.setIfInBounds_toArray, List.set_cons_zero, List.set_cons_succ])
                refine take_at 12 96 ob12 (v := ?_) (Or.inl ⟨by rfl, ?_⟩) ?_
                rotate_left 1
                · ((intro w hSw; (try dsimp only at hSw); unfold ob12; go_simp) <;> with_reducible rfl)
                (try simp only [Act.put, List.setIfInBounds_toArray, List.set_cons_zero, List.set_cons_succ])
                refine take_at 13 97 ob13 (v := ?_) (Or.inl ⟨by rfl, ?_⟩) ?_
                rotate_left 1
                · ((intro w hSw; (try dsimp only at hSw); unfold ob13; go_simp) <;> with_reducible rfl)
                (try simp only [Act.put, List.setIfInBounds_toArray, List.set_cons_zero, List.set_cons_succ])
                refine take_at 14 98 ob14 (v := ?_) (Or.inl ⟨by rfl, ?_⟩) ?_
                rotate_left 1
                · ((intro w hSw; (try dsimp only at hSw); unfold ob14; go_simp) <;> with_reducible rfl)
                (try simp only [Act.put, List.setIfInBounds_toArray, List.set_cons_zero, List.set_cons_succ])
                refine take_at 15 99 ob15 (v := ?_) (Or.inl ⟨by rfl, ?_⟩) ?_
                rotate_left 1
                · ((intro w hSw; (try dsimp only at hSw); unfold ob15; go_simp) <;> with_reducible rfl)
                (try simp only [Act.put, List.setIfInBounds_toArray, List.set_cons_zero, List.set_cons_succ])
                refine take_at 16 100 ob16 (v := ?_) (Or.inl ⟨by rfl, ?_⟩) ?_
                rotate_left 1
                · ((intro w hSw; (try dsimp only at hSw); unfold ob16; go_simp) <;> with_reducible rfl)
                (try simp only [Act.put, List.setIfInBounds_toArray, List.set_cons_zero, List.set_cons_succ])
                refine take_at 17 101 ob17 (v := ?_) (Or.inl ⟨by rfl, ?_⟩) ?_
                rotate_left 1
                · ((intro w hSw; (try dsimp only at hSw); unfold ob17; go_simp) <;> with_reducible rfl)
                (try simp only [Act.put, List.setIfInBounds_toArray, List.set_cons_zero, List.set_cons_succ])
                refine take_at 18 102 ob18 (v := ?_) (Or.inl ⟨by rfl, ?_⟩) ?_
                rotate_left 1
                · ((intro w hSw; (try dsimp only at hSw); unfold ob18; go_simp) <;> with_reducible rfl)
                (try simp only [Act.put, List.setIfInBounds_toArray, List.set_cons_zero, List.set_cons_succ])
                refine take_at 19 103 ob19 (v := ?_) (Or.inl ⟨by rfl, ?_⟩) ?_
                rotate_left 1
                · ((intro w hSw; (try dsimp only at hSw); unfold ob19; go_simp) <;> with_reducible rfl)
                (try simp only [Act.put, List.setIfInBounds_toArray, List.set_cons_zero, List.set_cons_succ])
                refine wpAnyH_ready (rs := [20]) (by kernel_rfl) (by simp) ?_
                refine AllReadyH.cons (o := ob20) rfl (fun K hK => ?_) ?_
                · unfold ob20
                  go_simp
                  (go_at_call 38; have hS := hHeld.1; refine (dkeepsame_any x.kids[k] x.kids[k] _ _ _ (kp_lies hS HLY.out) (kp_lies hS HQ.out)).mono ?_; rw [sameB_self]; rintro e wn ⟨rfl, hbn⟩; have hh := kp_call hS hbn; clear hbn hS hHeld)
                  refine hK.out _ _ ?_ (fun hHeld => ?_)
                  · (try dsimp only)
                    (((with_reducible refine kp_nine ?_ HX3.out HZ3.out HK3.out); repeat (first | with_reducible assumption | with_reducible exact hk0 | with_reducible refine kp_drew ?_)))
                  clear hK K
                  (try simp only [Act.put, List.setIfInBounds_toArray, List.set_cons_zero, List.set_cons_succ])
                  refine take_at 21 105 ob21 (v := ?_) (Or.inl ⟨by rfl, ?_⟩) ?_
                  rotate_left 1
                  · ((intro w hSw; (try dsimp only at hSw); unfold ob21; go_simp) <;> with_reducible rfl)
                  (try simp only [Act.put, List.setIfInBounds_toArray, List.set_cons_zero, List.set_cons_succ])
                  refine take_at 22 106 ob22 (v := ?_) (Or.inl ⟨by rfl, ?_⟩) ?_
                  rotate_left 1
                  · ((intro w hSw; (try dsimp only at hSw); unfold ob22; go_simp) <;> with_reducible rfl)
                  (try simp only [Act.put, List.setIfInBounds_toArray, List.set_cons_zero, List.set_cons_succ])
                  refine take_at 23 107 ob23 (v := ?_) (Or.inl ⟨by rfl, ?_⟩) ?_
                  rotate_left 1
                  · ((intro w hSw; (try dsimp only at hSw); unfold ob23; go_simp) <;> with_reducible rfl)
                  (try simp only [Act.put, List.setIfInBounds_toArray, List.set_cons_zero, List.set_cons_succ])
                  refine wpAnyH_done (by kernel_rfl) ?_ _
                  have hkE : Kp V _ := hkc.trans (Below.mono (hh) hkc.size)
                  go_wp2_with fail
                  go_roundw
                  case rel => exact ⟨(k : Int) + 1, by omega, by omega, by go_num, hkE⟩
                  case measure => simp [intOf]; omega
                exact AllReadyH.nil
              · have HX3 := Lib.hid (HXC.out.keep hkc)
                obtain ⟨x0, x1, x2⟩ := HX3.out
                clear hly fz
                by_cases hneg : i < 0
                · have e1 : decide ((0 : Int) ≤ i) = false := decide_eq_false (by omega)
                  go_wp2_with fail
                  refine wp_region_held_drew (S := fun w' => Kp wc w' ∧ w'.cell? ⟨gx, 0, none⟩ = some (.int .i64 x.k) ∧ w'.cell? ⟨gx, 1, none⟩ = some (.int .i64 x.i) ∧ w'.cell? ⟨gx, 2, none⟩ = some (.slice a3 x.kids.length cap3)) (by kernel_rfl) ?_ (fun hHeld => ?_)
                  · (try dsimp only)
                    (((with_reducible refine kp_one ?_ HX3.out); repeat (first | with_reducible assumption | with_reducible exact hk0 | with_reducible refine kp_drew ?_)))
                  refine take_at 0 84 ob0 (v := ?_) (Or.inl ⟨by rfl, ?_⟩) ?_
                  rotate_left 1
                  · ((intro w hSw; (try dsimp only at hSw); unfold ob0; go_simp) <;> with_reducible rfl)
                  (try simp only [Act.put, List.setIfInBounds_toArray, List.set_cons_zero, List.set_cons_succ])
                  refine take_at 1 85 ob1 (v := ?_) (Or.inl ⟨by rfl, ?_⟩) ?_
                  rotate_left 1
                  · ((intro w hSw; (try dsimp only at hSw); unfold ob1; go_simp) <;> with_reducible rfl)
                  (try simp only [Act.put, List.setIfInBounds_toArray, List.set_cons_zero, List.set_cons_succ])
                  refine take_at 2 86 ob2 (v := ?_) (Or.inl ⟨by rfl, ?_⟩) ?_
                  rotate_left 1
                  · ((intro w hSw; (try dsimp only at hSw); unfold ob2; go_simp) <;> with_reducible rfl)
                  (try simp only [Act.put, List.setIfInBounds_toArray, List.set_cons_zero, List.set_cons_succ])
                  refine take_at 3 87 ob3 (v := ?_) (Or.inl ⟨by rfl, ?_⟩) ?_
                  rotate_left 1
                  · ((intro w hSw; (try dsimp only at hSw); unfold ob3; go_simp) <;> with_reducible rfl)
                  (try simp only [Act.put, List.setIfInBounds_toArray, List.set_cons_zero, List.set_cons_succ])
                  refine take_at 4 88 ob4 (v := undef) (Or.inr ⟨by rfl, rfl⟩) ?_
                  (try simp only [Act.put, List.setIfInBounds_toArray, List.set_cons_zero, List.set_cons_succ])
                  refine take_at 5 89 ob5 (v := undef) (Or.inr ⟨by rfl, rfl⟩) ?_
                  (try simp only [Act.put, List.setIfInBounds_toArray, List.set_cons_zero, List.set_cons_succ])
                  refine take_at 6 90 ob6 (v := undef) (Or.inr ⟨by rfl, rfl⟩) ?_
                  (try simp only [Act.put, List.setIfInBounds_toArray, List.set_cons_zero, List.set_cons_succ])
                  refine take_at 7 91 ob7 (v := undef) (Or.inr ⟨by rfl, rfl⟩) ?_
                  (try simp only [Act.put, List.setIfInBounds_toArray, List.set_cons_zero, List.set_cons_succ])
                  refine take_at 8 92 ob8 (v := undef) (Or.inr ⟨by rfl, rfl⟩) ?_
                  (try simp only [Act.put, List.setIfInBounds_toArray, List.set_cons_zero, List.set_cons_succ])
                  refine take_at 9 93 ob9 (v := ?_) (Or.inl ⟨by rfl, ?_⟩) ?_
                  rotate_left 1
                  · ((intro w hSw; (try dsimp only at hSw); unfold ob9; go_simp) <;> with_reducible rfl)
                  (try simp only [Act.put, List.setIfInBounds_toArray, List.set_cons_zero, List.set_cons_succ])
                  refine take_at 10 94 ob10 (v := ?_) (Or.inl ⟨by rfl, ?_⟩) ?_
                  rotate_left 1
                  · ((intro w hSw; (try dsimp only at hSw); unfold ob10; go_simp) <;> with_reducible rfl)
                  (try simp only [Act.put, List.setIfInBounds_toArray, List.set_cons_zero, List.set_cons_succ])
                  refine take_at 11 95 ob11 (v := ?_) (Or.inl ⟨by rfl, ?_⟩) ?_
                  rotate_left 1
                  · ((intro w hSw; (try dsimp only at hSw); unfold ob11; go_simp) <;> with_reducible rfl)
                  (try simp only [Act.put, List.setIfInBounds_toArray, List.set_cons_zero, List.set_cons_succ])
                  refine take_at 12 96 ob12 (v := ?_) (Or.inl ⟨by rfl, ?_⟩) ?_
                  rotate_left 1
                  · ((intro w hSw; (try dsimp only at hSw); unfold ob12; go_simp) <;> with_reducible rfl)
                  (try simp only [Act.put, List.setIfInBounds_toArray, List.set_cons_zero, List.set_cons_succ])
                  refine take_at 13 97 ob13 (v := ?_) (Or.inl ⟨by rfl, ?_⟩) ?_
                  rotate_left 1
                  · ((intro w hSw; (try dsimp only at hSw); unfold ob13; go_simp) <;> with_reducible rfl)
                  (try simp only [Act.put, List.setIfInBounds_toArray, List.set_cons_zero, List.set_cons_succ])
                  refine take_at 14 98 ob14 (v := undef) (Or.inr ⟨by rfl, rfl⟩) ?_
                  (try simp only [Act.put, List.setIfInBounds_toArray, List.set_cons_zero, List.set_cons_succ])
                  refine take_at 15 99 ob15 (v := undef) (Or.inr ⟨by rfl, rfl⟩) ?_
                  (try simp only [Act.put, List.setIfInBounds_toArray, List.set_cons_zero, List.set_cons_succ])
                  refine take_at 16 100 ob16 (v := undef) (Or.inr ⟨by rfl, rfl⟩) ?_
                  (try simp only [Act.put, List.setIfInBounds_toArray, List.set_cons_zero, List.set_cons_succ])
                  refine take_at 17 101 ob17 (v := undef) (Or.inr ⟨by rfl, rfl⟩) ?_
                  (try simp only [Act.put, List.setIfInBounds_toArray, List.set_cons_zero, List.set_cons_succ])
                  refine take_at 18 102 ob18 (v := undef) (Or.inr ⟨by rfl, rfl⟩) ?_
                  (try simp only [Act.put, List.setIfInBounds_toArray, List.set_cons_zero, List.set_cons_succ])
                  refine take_at 19 103 ob19 (v := undef) (Or.inr ⟨by rfl, rfl⟩) ?_
                  (try simp only [Act.put, List.setIfInBounds_toArray, List.set_cons_zero, List.set_cons_succ])
                  refine take_at 20 104 ob20 (v := undef) (Or.inr ⟨by rfl, rfl⟩) ?_
                  (try simp only [Act.put, List.setIfInBounds_toArray, List.set_cons_zero, List.set_cons_succ])
                  refine take_at 21 105 ob21 (v := undef) (Or.inr ⟨by rfl, rfl⟩) ?_
                  (try simp only [Act.put, List.setIfInBounds_toArray, List.set_cons_zero, List.set_cons_succ])
                  refine take_at 22 106 ob22 (v := ?_) (Or.inl ⟨by rfl, ?_⟩) ?_
                  rotate_left 1
                  · ((intro w hSw; (try dsimp only at hSw); unfold ob22; go_simp) <;> with_reducible rfl)
                  (try simp only [Act.put, List.setIfInBounds_toArray, List.set_cons_zero, List.set_cons_succ])
                  refine take_at 23 107 ob23 (v := ?_) (Or.inl ⟨by rfl, ?_⟩) ?_
                  rotate_left 1
                  · ((intro w hSw; (try dsimp only at hSw); unfold ob23; go_simp) <;> with_reducible rfl)
                  (try simp only [Act.put, List.setIfInBounds_toArray, List.set_cons_zero, List.set_cons_succ])
                  refine wpAnyH_done (by kernel_rfl) ?_ _
                  have hkE : Kp V _ := hkc.trans (Below.mono (hHeld.1) hkc.size)
                  go_wp2_with fail
                  go_roundw
                  case rel => exact ⟨i + 1, by omega, by omega, by go_num, hkE⟩
                  case measure => simp [intOf]; omega
                · have e1 : decide ((0 : Int) ≤ i) = true := decide_eq_true (by omega)
                  have e2 : decide (i < (x.kids.length : Int)) = false := decide_eq_false (by omega)
                  go_wp2_with fail
                  refine wp_region_held_drew (S := fun w' => Kp wc w' ∧ w'.cell? ⟨gx, 0, none⟩ = some (.int .i64 x.k) ∧ w'.cell? ⟨gx, 1, none⟩ = some (.int .i64 x.i) ∧ w'.cell? ⟨gx, 2, none⟩ = some (.slice a3 x.kids.length cap3)) (by kernel_rfl) ?_ (fun hHeld => ?_)
                  · (try dsimp only)
                    (((with_reducible refine kp_one ?_ HX3.out); repeat (first | with_reducible assumption | with_reducible exact hk0 | with_reducible refine kp_drew ?_)))
                  refine take_at 0 84 ob0 (v := ?_) (Or.inl ⟨by rfl, ?_⟩) ?_
                  rotate_left 1
                  · ((intro w hSw; (try dsimp only at hSw); unfold ob0; go_simp) <;> with_reducible rfl)
                  (try simp only [Act.put, List.setIfInBounds_toArray, List.set_cons_zero, List.set_cons_succ])
                  refine take_at 1 85 ob1 (v := ?_) (Or.inl ⟨by rfl, ?_⟩) ?_
                  rotate_left 1
                  · ((intro w hSw; (try dsimp only at hSw); unfold ob1; go_simp) <;> with_reducible rfl)
                  (try simp only [Act.put, List.setIfInBounds_toArray, List.set_cons_zero, List.set_cons_succ])
                  refine take_at 2 86 ob2 (v := ?_) (Or.inl ⟨by rfl, ?_⟩) ?_
                  rotate_left 1
                  · ((intro w hSw; (try dsimp only at hSw); unfold ob2; go_simp) <;> with_reducible rfl)
                  (try simp only [Act.put, List.setIfInBounds_toArray, List.set_cons_zero, List.set_cons_succ])
                  refine take_at 3 87 ob3 (v := ?_) (Or.inl ⟨by rfl, ?_⟩) ?_
                  rotate_left 1
                  · ((intro w hSw; (try dsimp only at hSw); unfold ob3; go_simp) <;> with_reducible rfl)
                  (try simp only [Act.put, List.setIfInBounds_toArray, List.set_cons_zero, List.set_cons_succ])
                  refine take_at 4 88 ob4 (v := ?_) (Or.inl ⟨by rfl, ?_⟩) ?_
                  rotate_left 1
                  · ((intro w hSw; (try dsimp only at hSw); unfold ob4; go_simp) <;> with_reducible rfl)
                  (try simp only [Act.put, List.setIfInBounds_toArray, List.set_cons_zero, List.set_cons_succ])
                  refine take_at 5 89 ob5 (v := ?_) (Or.inl ⟨by rfl, ?_⟩) ?_
                  rotate_left 1
                  · ((intro w hSw; (try dsimp only at hSw); unfold ob5; go_simp) <;> with_reducible rfl)
                  (try simp only [Act.put, List.setIfInBounds_toArray, List.set_cons_zero, List.set_cons_succ])
                  refine take_at 6 90 ob6 (v := ?_) (Or.inl ⟨by rfl, ?_⟩) ?_
                  rotate_left 1
                  · ((intro w hSw; (try dsimp only at hSw); unfold ob6; go_simp) <;> with_reducible rfl)
                  (try simp only [Act.put, List.setIfInBounds_toArray, List.set_cons_zero, List.set_cons_succ])
                  refine take_at 7 91 ob7 (v := ?_) (Or.inl ⟨by rfl, ?_⟩) ?_
                  rotate_left 1
                  · ((intro w hSw; (try dsimp only at hSw); unfold ob7; go_simp) <;> with_reducible rfl)
                  (try simp only [Act.put, List.setIfInBounds_toArray, List.set_cons_zero, List.set_cons_succ])
                  refine take_at 8 92 ob8 (v := ?_) (Or.inl ⟨by rfl, ?_⟩) ?_
                  rotate_left 1
                  · ((intro w hSw; (try dsimp only at hSw); unfold ob8; go_simp) <;> with_reducible rfl)
                  (try simp only [Act.put, List.setIfInBounds_toArray, List.set_cons_zero, List.set_cons_succ])
                  refine take_at 9 93 ob9 (v := ?_) (Or.inl ⟨by rfl, ?_⟩) ?_
                  rotate_left 1
                  · ((intro w hSw; (try dsimp only at hSw); unfold ob9; go_simp) <;> with_reducible rfl)
                  (try simp only [Act.put, List.setIfInBounds_toArray, List.set_cons_zero, List.set_cons_succ])
                  refine take_at 10 94 ob10 (v := ?_) (Or.inl ⟨by rfl, ?_⟩) ?_
                  rotate_left 1
                  · ((intro w hSw; (try dsimp only at hSw); unfold ob10; go_simp) <;> with_reducible rfl)
                  (try simp only [Act.put, List.setIfInBounds_toArray, List.set_cons_zero, List.set_cons_succ])
                  refine take_at 11 95 ob11 (v := ?_) (Or.inl ⟨by rfl, ?_⟩) ?_
                  rotate_left 1
                  · ((intro w hSw; (try dsimp only at hSw); unfold ob11; go_simp) <;> with_reducible rfl)
                  (try simp only [Act.put, List.setIfInBounds_toArray, List.set_cons_zero, List.set_cons_succ])
                  refine take_at 12 96 ob12 (v := ?_) (Or.inl ⟨by rfl, ?_⟩) ?_
                  rotate_left 1
                  · ((intro w hSw; (try dsimp only at hSw); unfold ob12; go_simp) <;> with_reducible rfl)
                  (try simp only [Act.put, List.setIfInBounds_toArray, List.set_cons_zero, List.set_cons_succ])
                  refine take_at 13 97 ob13 (v := ?_) (Or.inl ⟨by rfl, ?_⟩) ?_
                  rotate_left 1
                  · ((intro w hSw; (try dsimp only at hSw); unfold ob13; go_simp) <;> with_reducible rfl)
                  (try simp only [Act.put, List.setIfInBounds_toArray, List.set_cons_zero, List.set_cons_succ])
                  refine take_at 14 98 ob14 (v := undef) (Or.inr ⟨by rfl, rfl⟩) ?_
                  (try simp only [Act.put, List.setIfInBounds_toArray, List.set_cons_zero, List.set_cons_succ])
                  refine take_at 15 99 ob15 (v := undef) (Or.inr ⟨by rfl, rfl⟩) ?_
                  (try simp only [Act.put, List.setIfInBounds_toArray, List.set_cons_zero, List.set_cons_succ])
                  refine take_at 16 100 ob16 (v := undef) (Or.inr ⟨by rfl, rfl⟩) ?_
                  (try simp only [Act.put, List.setIfInBounds_toArray, List.set_cons_zero, List.set_cons_succ])
                  refine take_at 17 101 ob17 (v := undef) (Or.inr ⟨by rfl, rfl⟩) ?_
                  (try simp only [Act.put, List.setIfInBounds_toArray, List.set_cons_zero, List.set_cons_succ])
                  refine take_at 18 102 ob18 (v := undef) (Or.inr ⟨by rfl, rfl⟩) ?_
                  (try simp only [Act.put, List.setIfInBounds_toArray, List.set_cons_zero, List.set_cons_succ])
                  refine take_at 19 103 ob19 (v := undef) (Or.inr ⟨by rfl, rfl⟩) ?_
                  (try simp only [Act.put, List.setIfInBounds_toArray, List.set_cons_zero, List.set_cons_succ])
                  refine take_at 20 104 ob20 (v := undef) (Or.inr ⟨by rfl, rfl⟩) ?_
                  (try simp only [Act.put, List.setIfInBounds_toArray, List.set_cons_zero, List.set_cons_succ])
                  refine take_at 21 105 ob21 (v := undef) (Or.inr ⟨by rfl, rfl⟩) ?_
                  (try simp only [Act.put, List.setIfInBounds_toArray, List.set_cons_zero, List.set_cons_succ])
                  refine take_at 22 106 ob22 (v := ?_) (Or.inl ⟨by rfl, ?_⟩) ?_
                  rotate_left 1
                  · ((intro w hSw; (try dsimp only at hSw); unfold ob22; go_simp) <;> with_reducible rfl)
                  (try simp only [Act.put, List.setIfInBounds_toArray, List.set_cons_zero, List.set_cons_succ])
                  refine take_at 23 107 ob23 (v := ?_) (Or.inl ⟨by rfl, ?_⟩) ?_
                  rotate_left 1
                  · ((intro w hSw; (try dsimp only at hSw); unfold ob23; go_simp) <;> with_reducible rfl)
                  (try simp only [Act.put, List.setIfInBounds_toArray, List.set_cons_zero, List.set_cons_succ])
                  refine wpAnyH_done (by kernel_rfl) ?_ _
                  have hkE : Kp V _ := hkc.trans (Below.mono (hHeld.1) hkc.size)
                  go_wp2_with fail
                  go_roundw
                  case rel => exact ⟨i + 1, by omega, by omega, by go_num, hkE⟩
                  case measure => simp [intOf]; omega
          · have F1 : decide (i ≤ (x.kids.length : Int)) = false := decide_eq_false hle
            go_wp2_with fail
            refine (wakes12_any _).mono ?_
            rintro e w9 ⟨rfl, hb9⟩
            go_wp2
            go_ret
            exact ⟨rfl, HBV.out.trans (Below.mono (kp_call hkr hb9) HBV.out.size)⟩
end Go.Proofs.Ytjhdcjjoignioaa.Dv

/-! DerivPaths holds: for every input the call returns true, and the arguments read as before. The walk of the Go text is in the texts that this one imports; no condition. -/
namespace Go.Proofs.Ytjhdcjjoignioaa.lawDerivPaths
open Go.ChangeShapes Go.WideShapes Go.ChangeAt Go.RowKit

set_option maxRecDepth 100000 in
theorem lifted (os : Os) (started : os.Started) (H : Type) (enc : TypeId × Value → H) :
    ReturnsInHanded {} Try.checked os 7 .any (Rows.derivPathsSpec.pre6 enc Try.prog Try.f7 Rows.derivPathsRow.domain false) (Rows.derivPathsSpec.post enc Try.prog Try.f7 false true false false) := by
  refine returnsInHanded_of_change (C := Try.checked) own started (by kernel_rfl) Try.func7
    (ChangeSpec.witness6 (enc := enc) (C := Try.checked) false ⟨#[], #[.agg #[.int .i64 0, .int .i64 0, .slice none 0 0], .slice none 0 0], []⟩ 8 (by kernel_rfl) (by kernel_rfl) (by kernel_rfl) (by kernel_rfl)) ?_
  intro W base args ds gs before hval0 hW hcnd _
  have hval : ∀ (j : Nat) t v, Try.f7.params[j]? = some t → args[j]? = some v → Value.okWide Try.prog W .any base t v := hval0
  have hW' := hW
  obtain ⟨p, q, hA0, hV, rfl, hfz, hnd⟩ := hW
  have hA : DataW.TrodAll enc Try.prog W 0 (fun _ => true) true Try.f7.params.toList args.toList ds p := hA0
  rw [Try.params7] at hA hval
  obtain ⟨v0, vs0, d0, ds0, p0, q0, hargs0, rfl, rfl, h0, r0⟩ := trodAll_cons hA
  obtain ⟨v1, vs1, d1, ds1, p1, q1, hargs1, rfl, rfl, h1, r1⟩ := trodAll_cons r0
  obtain ⟨rfl, rfl, rfl⟩ := trodAll_nil r1
  obtain rfl : args = #[v0, v1] := by cases args; simp_all
  obtain ⟨rfl, rfl⟩ := trodVars_none hV
  have h0k := h0
  have hlt0 : ∀ x ∈ p0, x.block < W.heap.size := fun x hx => by have := hW'.lt x (by simp [hx]); simpa using this
  obtain ⟨t0, s0, hl0, hv0⟩ := Dv.open_arg (hval 0 53 v0 rfl rfl) h0
  subst hv0
  have h1k := h1
  have hlt1 : ∀ x ∈ p1, x.block < W.heap.size := fun x hx => by have := hW'.lt x (by simp [hx]); simpa using this
  obtain ⟨l1, hl1⟩ := open_argI (hval 1 54 v1 rfl rfl) h1
  clear hA0 hval0
  simp only [List.append_nil] at hW'
  refine (Dv.derivPaths_any t0 l1 W s0 v1 hl0 hl1).mono fun e W' ⟨he, hb⟩ => ?_
  subst he
  exact ⟨_, rfl, _, _, _, [], _, [], hW', trodAll_cons_mk (shut_bool Try.underlying4 _) trodAll_mk0, (trodAll_cons_mk (Below.trod laidOut (by kernel_rfl) (of_decide_eq_true (by kernel_rfl)) h0k hb hlt0) (trodAll_cons_mk (Below.trod laidOut (by kernel_rfl) (of_decide_eq_true (by kernel_rfl)) h1k hb hlt1) trodAll_mk0)), rfl, hb.frame _, fun h => by cases h⟩

theorem closed : joinedFacts Try.prog 7 Try.f7 Rows.derivPathsSpec Rows.derivPathsRow = true := by
  unfold joinedFacts
  rw [row_mayEnter, row_lifts, row_make]
  kernel_rfl

theorem proved : Rows.DerivPathsSaid :=
  OpenClaim.holds_of_wide 7 Try.f7 rfl rfl rfl rfl rfl rfl rfl ⟨rfl, rfl, rfl, rfl, rfl⟩ rfl rfl rfl rfl rfl (by kernel_rfl) Try.func7 closed
    (of_decide_eq_true (by kernel_rfl)) (by unfold Func.isWrapper; first | (rw [if_pos (by decide +kernel)]; kernel_rfl) | (rw [if_neg (by decide +kernel)]; exact ⟨rfl, rfl⟩))
    (fun os started H enc _ => lifted os started H enc)
#print axioms proved
end Go.Proofs.Ytjhdcjjoignioaa.lawDerivPaths
