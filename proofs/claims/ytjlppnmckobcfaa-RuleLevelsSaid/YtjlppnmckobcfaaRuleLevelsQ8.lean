/-
  Facts and contracts that the proof of RuleLevels uses.
-/
import Derived.Test.YtjlppnmckobcfaaRows
import Derived.WalkKit
import Derived.Lib.Hide
import Derived.KernelRfl
import Derived.Deep.RegionWith
import Derived.Deep.RegionHeld3
import Derived.Deep.AppendLies
import Derived.Laws.Rows
import Derived.Laws.IdiomCopy
import Derived.Deep.Slices
import Derived.Deep.QuietTactic
import Derived.BigQuiet
import Derived.Lib.QuietBelow
import Derived.StillTailTactics
import Derived.IntWalk
import Derived.OwnWalk
import Derived.OrdersHeld
import Derived.Deep.DeepCutAuto
import Derived.Deep.RegionLaw
import Derived.Deep.LoopGhost
import Derived.Deep.MidRow
import Derived.Laws.Tables
import Derived.Laws.CopyOwn
import Derived.Laws.CopyRow
import Derived.Deep.RegionHeld
import Derived.ProofKit
import Derived.OpenShut
import Derived.Carry
import Derived.ChangeSlices
import Derived.JoinedOf
import Derived.Test.YtjlppnmckobcfaaRuleLevelsQ7
namespace Go.Proofs.Ytjlppnmckobcfaa
open Go.RowKit

theorem jnode_of {w : World} {b o : Nat} {j : Jd} {su sv sa : Value} {C : Array Value} {T : TypeId} {fr : Nat × Nat} (h : w.heap[b]? = some (.cells C T fr)) (hs : (C.toList.drop o).take 17 = [.bool j.eq, .int .i64 j.u.k, .int .i64 j.u.i, .int .i64 j.u.j, .int .i64 j.u.n, su, .int .i64 j.v.k, .int .i64 j.v.i, .int .i64 j.v.j, .int .i64 j.v.n, sv, .int .i64 j.a.k, .int .i64 j.a.i, .int .i64 j.a.j, .int .i64 j.a.n, sa, .int .i64 j.i]) : JNode w b o j su sv sa := by
  have key : ∀ q v, q < 17 → ([.bool j.eq, .int .i64 j.u.k, .int .i64 j.u.i, .int .i64 j.u.j, .int .i64 j.u.n, su, .int .i64 j.v.k, .int .i64 j.v.i, .int .i64 j.v.j, .int .i64 j.v.n, sv, .int .i64 j.a.k, .int .i64 j.a.i, .int .i64 j.a.j, .int .i64 j.a.n, sa, .int .i64 j.i] : List Value)[q]? = some v → w.cell? ⟨b, o + q, none⟩ = some v := fun q v hq hv => by rw [cell_of_row w b _ C T fr h, row_cellW hs q hq]; exact hv
  exact ⟨key 0 _ (by decide) rfl, key 1 _ (by decide) rfl, key 2 _ (by decide) rfl, key 3 _ (by decide) rfl, key 4 _ (by decide) rfl, key 5 _ (by decide) rfl, key 6 _ (by decide) rfl, key 7 _ (by decide) rfl, key 8 _ (by decide) rfl, key 9 _ (by decide) rfl, key 10 _ (by decide) rfl, key 11 _ (by decide) rfl, key 12 _ (by decide) rfl, key 13 _ (by decide) rfl, key 14 _ (by decide) rfl, key 15 _ (by decide) rfl, key 16 _ (by decide) rfl⟩
theorem liesJ_row2 {w : World} {b o cap : Nat} {j k : Jd} {su sv sa tu tv ta : Value} {C : Array Value} {T : TypeId} {fr : Nat × Nat} (h : w.heap[b]? = some (.cells C T fr)) (h0 : (C.toList.drop o).take 17 = [.bool j.eq, .int .i64 j.u.k, .int .i64 j.u.i, .int .i64 j.u.j, .int .i64 j.u.n, su, .int .i64 j.v.k, .int .i64 j.v.i, .int .i64 j.v.j, .int .i64 j.v.n, sv, .int .i64 j.a.k, .int .i64 j.a.i, .int .i64 j.a.j, .int .i64 j.a.n, sa, .int .i64 j.i]) (h1 : (C.toList.drop (o + 17)).take 17 = [.bool k.eq, .int .i64 k.u.k, .int .i64 k.u.i, .int .i64 k.u.j, .int .i64 k.u.n, tu, .int .i64 k.v.k, .int .i64 k.v.i, .int .i64 k.v.j, .int .i64 k.v.n, tv, .int .i64 k.a.k, .int .i64 k.a.i, .int .i64 k.a.j, .int .i64 k.a.n, ta, .int .i64 k.i]) (hc : 2 ≤ cap) (hm : cap ≤ maxLen)
    (hj : j.fine) (hk : k.fine) (lj : JLies w j su sv sa) (lk : JLies w k tu tv ta) : LiesJ w [j, k] (.slice (some ⟨b, o, none⟩) 2 cap) := by
  refine ⟨some ⟨b, o, none⟩, cap, fun i => if i = 0 then (su, sv, sa) else (tu, tv, ta), rfl, hc, hm, fun e he => ?_, fun i hi => ?_, fun i hi => ?_⟩
  · rcases List.mem_cons.1 he with rfl | he
    · exact hj
    · rw [List.mem_singleton.1 he]; exact hk
  · have hi' : i = 0 ∨ i = 1 := by simp at hi; omega
    rcases hi' with rfl | rfl
    · exact ⟨b, o, rfl, by rw [Nat.zero_mul, Nat.add_zero]; exact jnode_of h h0⟩
    · exact ⟨b, o, rfl, by rw [Nat.one_mul]; exact jnode_of h h1⟩
  · have hi' : i = 0 ∨ i = 1 := by simp at hi; omega
    rcases hi' with rfl | rfl
    · exact lj
    · exact lk
theorem of12two_any (c : List En) (p q : Jd) (P : Nat → Prop) (w : World) (sc : Value) (b o cap : Nat) (C : Array Value) (T : TypeId) (fr : Nat × Nat) (su sv sa tu tv ta : Value) (hl : LiesE w c sc) (hp : p.fine) (hq : q.fine) (l1 : LiesQ w P p.u.kids su) (l2 : LiesQ w P p.v.kids sv) (l3 : LiesQ w P p.a.kids sa) (l4 : LiesQ w P q.u.kids tu) (l5 : LiesQ w P q.v.kids tv) (l6 : LiesQ w P q.a.kids ta)
    (h : w.heap[b]? = some (.cells C T fr)) (h0 : (C.toList.drop o).take 17 = [.bool p.eq, .int .i64 p.u.k, .int .i64 p.u.i, .int .i64 p.u.j, .int .i64 p.u.n, su, .int .i64 p.v.k, .int .i64 p.v.i, .int .i64 p.v.j, .int .i64 p.v.n, sv, .int .i64 p.a.k, .int .i64 p.a.i, .int .i64 p.a.j, .int .i64 p.a.n, sa, .int .i64 p.i]) (h1 : (C.toList.drop (o + 17)).take 17 = [.bool q.eq, .int .i64 q.u.k, .int .i64 q.u.i, .int .i64 q.u.j, .int .i64 q.u.n, tu, .int .i64 q.v.k, .int .i64 q.v.i, .int .i64 q.v.j, .int .i64 q.v.n, tv, .int .i64 q.a.k, .int .i64 q.a.i, .int .i64 q.a.j, .int .i64 q.a.n, ta, .int .i64 q.i]) (hlen : c.length ≤ 100000) (hzu : p.u.size ≤ 1000000) (hzv : q.v.size ≤ 1000000) :
    Calls Try.prog 12 #[sc, .int .i64 12, .int .i64 0, .slice (some ⟨b, o, none⟩) 2 cap] w (GivesOn P ⟨false, p.u, .zero, q.v, p.i⟩ w) := by
  obtain ⟨eq, u, v, x, i⟩ := p
  obtain ⟨eq2, u2, v2, x2, i2⟩ := q
  cases eq <;> cases eq2
  · exact of12ff_any i i2 c u v x u2 v2 x2 P w sc b o cap C T fr su sv sa tu tv ta hl hp.1 l1 hp.2.1 l2 hp.2.2.1 l3 hp.2.2.2 hq.1 l4 hq.2.1 l5 hq.2.2.1 l6 hq.2.2.2 h h0 h1 hlen hzu hzv
  · exact of12ft_any i i2 c u v x u2 v2 x2 P w sc b o cap C T fr su sv sa tu tv ta hl hp.1 l1 hp.2.1 l2 hp.2.2.1 l3 hp.2.2.2 hq.1 l4 hq.2.1 l5 hq.2.2.1 l6 hq.2.2.2 h h0 h1 hlen hzu hzv
  · exact of12tf_any i i2 c u v x u2 v2 x2 P w sc b o cap C T fr su sv sa tu tv ta hl hp.1 l1 hp.2.1 l2 hp.2.2.1 l3 hp.2.2.2 hq.1 l4 hq.2.1 l5 hq.2.2.1 l6 hq.2.2.2 h h0 h1 hlen hzu hzv
  · exact of12tt_any i i2 c u v x u2 v2 x2 P w sc b o cap C T fr su sv sa tu tv ta hl hp.1 l1 hp.2.1 l2 hp.2.2.1 l3 hp.2.2.2 hq.1 l4 hq.2.1 l5 hq.2.2.1 l6 hq.2.2.2 h h0 h1 hlen hzu hzv
/-- What lies behind a row of two. -/
theorem liesJ_two {w : World} {p q : Jd} {s : Value} (h : LiesJ w [p, q] s) : ∃ (b o cap : Nat) (C : Array Value) (T : TypeId) (fr : Nat × Nat) (su sv sa tu tv ta : Value), s = .slice (some ⟨b, o, none⟩) 2 cap ∧ w.heap[b]? = some (.cells C T fr) ∧ (C.toList.drop o).take 17 = [.bool p.eq, .int .i64 p.u.k, .int .i64 p.u.i, .int .i64 p.u.j, .int .i64 p.u.n, su, .int .i64 p.v.k, .int .i64 p.v.i, .int .i64 p.v.j, .int .i64 p.v.n, sv, .int .i64 p.a.k, .int .i64 p.a.i, .int .i64 p.a.j, .int .i64 p.a.n, sa, .int .i64 p.i] ∧ (C.toList.drop (o + 17)).take 17 = [.bool q.eq, .int .i64 q.u.k, .int .i64 q.u.i, .int .i64 q.u.j, .int .i64 q.u.n, tu, .int .i64 q.v.k, .int .i64 q.v.i, .int .i64 q.v.j, .int .i64 q.v.n, tv, .int .i64 q.a.k, .int .i64 q.a.i, .int .i64 q.a.j, .int .i64 q.a.n, ta, .int .i64 q.i] ∧
    JLies w p su sv sa ∧ JLies w q tu tv ta ∧ p.fine ∧ q.fine ∧ 2 ≤ cap ∧ cap ≤ maxLen := by
  obtain ⟨a, cap, S, rfl, hc, hm, hf, hn, hk⟩ := h.out
  obtain ⟨b, o, rfl, hx⟩ := hn 0 (by simp)
  obtain ⟨b', o', e, hy⟩ := hn 1 (by simp)
  simp only [Option.some.injEq, Addr.mk.injEq] at e
  obtain ⟨rfl, rfl, -⟩ := e
  rw [Nat.zero_mul, Nat.add_zero] at hx
  rw [Nat.one_mul] at hy
  obtain ⟨C, T, fr, h1, h2⟩ := jnode_blk hx
  obtain ⟨C', T', fr', h3, h4⟩ := jnode_blk hy
  rw [h1] at h3
  simp only [Option.some.injEq, Obj.cells.injEq] at h3
  obtain ⟨rfl, rfl, rfl⟩ := h3
  exact ⟨b, o, cap, C, T, fr, _, _, _, _, _, _, rfl, h1, h2, h4, hk 0 (by simp), hk 1 (by simp), hf _ (by simp), hf _ (by simp), hc, hm⟩
def levels22r9_0 : Oper := { dst := some 46, op := Go.Op.fieldAddr 34 (Go.Operand.tmp 7) 4, type := 0, pos := "law.go:105", after := #[], guard := none }
def levels22r9_1 : Oper := { dst := some 47, op := Go.Op.load 3 (Go.Operand.tmp 46), type := 3, pos := "law.go:105", after := #[{ on := 0, ground := Go.Ground.data }], guard := none }
def levels22r9_2 : Oper := { dst := some 48, op := Go.Op.move (Go.Operand.tmp 1), type := 23, pos := "law.go:105", after := #[], guard := none }
def levels22r9_3 : Oper := { dst := some 49, op := Go.Op.indexAddr 23 (Go.Operand.tmp 48) (Go.Operand.const (Go.Value.int Go.IntKind.i64 0)), type := 0, pos := "law.go:105", after := #[{ on := 2, ground := Go.Ground.data }], guard := none }
def levels22r9_4 : Oper := { dst := some 50, op := Go.Op.fieldAddr 34 (Go.Operand.tmp 49) 4, type := 0, pos := "law.go:105", after := #[{ on := 3, ground := Go.Ground.data }], guard := none }
def levels22r9_5 : Oper := { dst := some 51, op := Go.Op.load 3 (Go.Operand.tmp 50), type := 3, pos := "law.go:105", after := #[{ on := 4, ground := Go.Ground.data }], guard := none }
def levels22r9_6 : Oper := { dst := some 52, op := Go.Op.binOp Go.BinOp.eql 3 (Go.Operand.tmp 47) (Go.Operand.tmp 51) 3, type := 4, pos := "law.go:105", after := #[{ on := 1, ground := Go.Ground.data }, { on := 5, ground := Go.Ground.data }], guard := none }
def levels22r9_7 : Oper := { dst := some 53, op := Go.Op.move (Go.Operand.tmp 52), type := 4, pos := "law.go:105", after := #[{ on := 6, ground := Go.Ground.data }], guard := none }
def levels22r9_8 : Oper := { dst := some 54, op := Go.Op.fieldAddr 34 (Go.Operand.tmp 9) 4, type := 0, pos := "law.go:105", after := #[{ on := 7, ground := Go.Ground.guard }], guard := some (7, true) }
def levels22r9_9 : Oper := { dst := some 55, op := Go.Op.load 3 (Go.Operand.tmp 54), type := 3, pos := "law.go:105", after := #[{ on := 8, ground := Go.Ground.data }, { on := 7, ground := Go.Ground.guard }], guard := some (7, true) }
def levels22r9_10 : Oper := { dst := some 56, op := Go.Op.move (Go.Operand.tmp 2), type := 23, pos := "law.go:105", after := #[{ on := 7, ground := Go.Ground.guard }], guard := some (7, true) }
def levels22r9_11 : Oper := { dst := some 57, op := Go.Op.indexAddr 23 (Go.Operand.tmp 56) (Go.Operand.const (Go.Value.int Go.IntKind.i64 0)), type := 0, pos := "law.go:105", after := #[{ on := 10, ground := Go.Ground.data }, { on := 7, ground := Go.Ground.guard }], guard := some (7, true) }
def levels22r9_12 : Oper := { dst := some 58, op := Go.Op.fieldAddr 34 (Go.Operand.tmp 57) 4, type := 0, pos := "law.go:105", after := #[{ on := 11, ground := Go.Ground.data }, { on := 7, ground := Go.Ground.guard }], guard := some (7, true) }
def levels22r9_13 : Oper := { dst := some 59, op := Go.Op.load 3 (Go.Operand.tmp 58), type := 3, pos := "law.go:105", after := #[{ on := 12, ground := Go.Ground.data }, { on := 7, ground := Go.Ground.guard }], guard := some (7, true) }
def levels22r9_14 : Oper := { dst := some 60, op := Go.Op.binOp Go.BinOp.eql 3 (Go.Operand.tmp 55) (Go.Operand.tmp 59) 3, type := 4, pos := "law.go:105", after := #[{ on := 9, ground := Go.Ground.data }, { on := 13, ground := Go.Ground.data }, { on := 7, ground := Go.Ground.guard }], guard := some (7, true) }
def levels22r9_15 : Oper := { dst := some 61, op := Go.Op.pick (Go.Operand.tmp 53) (Go.Operand.tmp 60) (Go.Operand.const (Go.Value.bool false)), type := 4, pos := "law.go:105", after := #[{ on := 7, ground := Go.Ground.data }, { on := 14, ground := Go.Ground.data }], guard := none }
def levels22r9_16 : Oper := { dst := some 62, op := Go.Op.move (Go.Operand.tmp 61), type := 4, pos := "law.go:105", after := #[{ on := 15, ground := Go.Ground.data }, { on := 7, ground := Go.Ground.chain }], guard := none }
def levels22r9_17 : Oper := { dst := some 63, op := Go.Op.fieldAddr 34 (Go.Operand.tmp 7) 1, type := 0, pos := "law.go:105", after := #[{ on := 16, ground := Go.Ground.guard }], guard := some (16, true) }
def levels22r9_18 : Oper := { dst := some 64, op := Go.Op.load 32 (Go.Operand.tmp 63), type := 32, pos := "law.go:105", after := #[{ on := 17, ground := Go.Ground.data }, { on := 16, ground := Go.Ground.guard }], guard := some (16, true) }
def levels22r9_19 : Oper := { dst := some 65, op := Go.Op.move (Go.Operand.tmp 1), type := 23, pos := "law.go:105", after := #[{ on := 16, ground := Go.Ground.guard }], guard := some (16, true) }
def levels22r9_20 : Oper := { dst := some 66, op := Go.Op.indexAddr 23 (Go.Operand.tmp 65) (Go.Operand.const (Go.Value.int Go.IntKind.i64 0)), type := 0, pos := "law.go:105", after := #[{ on := 19, ground := Go.Ground.data }, { on := 16, ground := Go.Ground.guard }], guard := some (16, true) }
def levels22r9_21 : Oper := { dst := some 67, op := Go.Op.fieldAddr 34 (Go.Operand.tmp 66) 1, type := 0, pos := "law.go:105", after := #[{ on := 20, ground := Go.Ground.data }, { on := 16, ground := Go.Ground.guard }], guard := some (16, true) }
def levels22r9_22 : Oper := { dst := some 68, op := Go.Op.load 32 (Go.Operand.tmp 67), type := 32, pos := "law.go:105", after := #[{ on := 21, ground := Go.Ground.data }, { on := 16, ground := Go.Ground.guard }], guard := some (16, true) }
def levels22r9_23 : Oper := { dst := some 69, op := Go.Op.call { callee := Go.Callee.value (Go.Operand.func 18), args := #[Go.Operand.tmp 64, Go.Operand.tmp 68], argTypes := #[32, 32] }, type := 4, pos := "law.go:105", after := #[{ on := 18, ground := Go.Ground.data }, { on := 22, ground := Go.Ground.data }, { on := 16, ground := Go.Ground.chain }, { on := 16, ground := Go.Ground.guard }], guard := some (16, true) }
def levels22r9_24 : Oper := { dst := some 70, op := Go.Op.pick (Go.Operand.tmp 62) (Go.Operand.tmp 69) (Go.Operand.const (Go.Value.bool false)), type := 4, pos := "law.go:105", after := #[{ on := 16, ground := Go.Ground.data }, { on := 23, ground := Go.Ground.data }], guard := none }
def levels22r9_25 : Oper := { dst := some 71, op := Go.Op.move (Go.Operand.tmp 70), type := 4, pos := "law.go:105", after := #[{ on := 24, ground := Go.Ground.data }, { on := 23, ground := Go.Ground.chain }], guard := none }
def levels22r9_26 : Oper := { dst := some 72, op := Go.Op.fieldAddr 34 (Go.Operand.tmp 7) 3, type := 0, pos := "law.go:105", after := #[{ on := 25, ground := Go.Ground.guard }], guard := some (25, true) }
def levels22r9_27 : Oper := { dst := some 73, op := Go.Op.load 32 (Go.Operand.tmp 72), type := 32, pos := "law.go:105", after := #[{ on := 26, ground := Go.Ground.data }, { on := 25, ground := Go.Ground.guard }], guard := some (25, true) }
def levels22r9_28 : Oper := { dst := some 74, op := Go.Op.move (Go.Operand.tmp 1), type := 23, pos := "law.go:105", after := #[{ on := 25, ground := Go.Ground.guard }], guard := some (25, true) }
def levels22r9_29 : Oper := { dst := some 75, op := Go.Op.indexAddr 23 (Go.Operand.tmp 74) (Go.Operand.const (Go.Value.int Go.IntKind.i64 1)), type := 0, pos := "law.go:105", after := #[{ on := 28, ground := Go.Ground.data }, { on := 25, ground := Go.Ground.guard }], guard := some (25, true) }
def levels22r9_30 : Oper := { dst := some 76, op := Go.Op.fieldAddr 34 (Go.Operand.tmp 75) 2, type := 0, pos := "law.go:105", after := #[{ on := 29, ground := Go.Ground.data }, { on := 25, ground := Go.Ground.guard }], guard := some (25, true) }
def levels22r9_31 : Oper := { dst := some 77, op := Go.Op.load 32 (Go.Operand.tmp 76), type := 32, pos := "law.go:105", after := #[{ on := 30, ground := Go.Ground.data }, { on := 25, ground := Go.Ground.guard }], guard := some (25, true) }
def levels22r9_32 : Oper := { dst := some 78, op := Go.Op.call { callee := Go.Callee.value (Go.Operand.func 18), args := #[Go.Operand.tmp 73, Go.Operand.tmp 77], argTypes := #[32, 32] }, type := 4, pos := "law.go:105", after := #[{ on := 27, ground := Go.Ground.data }, { on := 31, ground := Go.Ground.data }, { on := 25, ground := Go.Ground.chain }, { on := 25, ground := Go.Ground.guard }], guard := some (25, true) }
def levels22r9_33 : Oper := { dst := some 79, op := Go.Op.pick (Go.Operand.tmp 71) (Go.Operand.tmp 78) (Go.Operand.const (Go.Value.bool false)), type := 4, pos := "law.go:105", after := #[{ on := 25, ground := Go.Ground.data }, { on := 32, ground := Go.Ground.data }], guard := none }
def levels22r9_34 : Oper := { dst := some 80, op := Go.Op.move (Go.Operand.tmp 79), type := 4, pos := "law.go:105", after := #[{ on := 33, ground := Go.Ground.data }, { on := 32, ground := Go.Ground.chain }], guard := none }
def levels22r9_35 : Oper := { dst := some 81, op := Go.Op.fieldAddr 34 (Go.Operand.tmp 7) 0, type := 0, pos := "law.go:105", after := #[{ on := 34, ground := Go.Ground.guard }], guard := some (34, true) }
def levels22r9_36 : Oper := { dst := some 82, op := Go.Op.load 4 (Go.Operand.tmp 81), type := 4, pos := "law.go:105", after := #[{ on := 35, ground := Go.Ground.data }, { on := 34, ground := Go.Ground.guard }], guard := some (34, true) }
def levels22r9_37 : Oper := { dst := some 83, op := Go.Op.unOp Go.UnOp.not 4 (Go.Operand.tmp 82), type := 4, pos := "law.go:105", after := #[{ on := 36, ground := Go.Ground.data }, { on := 34, ground := Go.Ground.guard }], guard := some (34, true) }
def levels22r9_38 : Oper := { dst := some 84, op := Go.Op.pick (Go.Operand.tmp 80) (Go.Operand.tmp 83) (Go.Operand.const (Go.Value.bool false)), type := 4, pos := "law.go:105", after := #[{ on := 34, ground := Go.Ground.data }, { on := 37, ground := Go.Ground.data }], guard := none }
def levels22r9_39 : Oper := { dst := some 85, op := Go.Op.move (Go.Operand.tmp 84), type := 4, pos := "law.go:105", after := #[{ on := 38, ground := Go.Ground.data }, { on := 34, ground := Go.Ground.chain }], guard := none }
def levels22r9_40 : Oper := { dst := some 86, op := Go.Op.call { callee := Go.Callee.value (Go.Operand.func 11), args := #[], argTypes := #[] }, type := 4, pos := "law.go:105", after := #[{ on := 39, ground := Go.Ground.chain }, { on := 39, ground := Go.Ground.guard }], guard := some (39, true) }
def levels22r9_41 : Oper := { dst := some 87, op := Go.Op.pick (Go.Operand.tmp 85) (Go.Operand.tmp 86) (Go.Operand.const (Go.Value.bool false)), type := 4, pos := "law.go:105", after := #[{ on := 39, ground := Go.Ground.data }, { on := 40, ground := Go.Ground.data }], guard := none }
def levels22r9_42 : Oper := { dst := some 6, op := Go.Op.assign (Go.Operand.tmp 87), type := 4, pos := "law.go:105", after := #[{ on := 41, ground := Go.Ground.data }, { on := 40, ground := Go.Ground.chain }, { on := 0, ground := Go.Ground.phase }, { on := 1, ground := Go.Ground.phase }, { on := 2, ground := Go.Ground.phase }, { on := 3, ground := Go.Ground.phase }, { on := 4, ground := Go.Ground.phase }, { on := 5, ground := Go.Ground.phase }, { on := 6, ground := Go.Ground.phase }, { on := 7, ground := Go.Ground.phase }, { on := 8, ground := Go.Ground.phase }, { on := 9, ground := Go.Ground.phase }, { on := 10, ground := Go.Ground.phase }, { on := 11, ground := Go.Ground.phase }, { on := 12, ground := Go.Ground.phase }, { on := 13, ground := Go.Ground.phase }, { on := 14, ground := Go.Ground.phase }, { on := 15, ground := Go.Ground.phase }, { on := 16, ground := Go.Ground.phase }, { on := 17, ground := Go.Ground.phase }, { on := 18, ground := Go.Ground.phase }, { on := 19, ground := Go.Ground.phase }, { on := 20, ground := Go.Ground.phase }, { on := 21, ground := Go.Ground.phase }, { on := 22, ground := Go.Ground.phase }, { on := 23, ground := Go.Ground.phase }, { on := 24, ground := Go.Ground.phase }, { on := 25, ground := Go.Ground.phase }, { on := 26, ground := Go.Ground.phase }, { on := 27, ground := Go.Ground.phase }, { on := 28, ground := Go.Ground.phase }, { on := 29, ground := Go.Ground.phase }, { on := 30, ground := Go.Ground.phase }, { on := 31, ground := Go.Ground.phase }, { on := 32, ground := Go.Ground.phase }, { on := 33, ground := Go.Ground.phase }, { on := 34, ground := Go.Ground.phase }, { on := 35, ground := Go.Ground.phase }, { on := 36, ground := Go.Ground.phase }, { on := 37, ground := Go.Ground.phase }, { on := 38, ground := Go.Ground.phase }, { on := 39, ground := Go.Ground.phase }, { on := 40, ground := Go.Ground.phase }, { on := 41, ground := Go.Ground.phase }], guard := none }
set_option maxRecDepth 20000 in
set_option maxHeartbeats 4000000 in
theorem levels22_any (c : List En) (p : Jd) (q : Jd) (y : Jd) (z : Jd) (P : Nat → Prop) (w : World) (sc : Value) (bon oon capon : Nat) (Con : Array Value) (Ton : TypeId) (fron : Nat × Nat) (spu : Value) (spv : Value) (spx : Value) (squ : Value) (sqv : Value) (sqx : Value) (bmo omo capmo : Nat) (Cmo : Array Value) (Tmo : TypeId) (frmo : Nat × Nat) (syu : Value) (syv : Value) (syx : Value) (szu : Value) (szv : Value) (szx : Value) (hlc : LiesE w c sc) (hfp : p.fine) (hfq : q.fine) (hlpu : LiesQ w P p.u.kids spu) (hlpv : LiesQ w P p.v.kids spv) (hlpx : LiesQ w P p.a.kids spx) (hlqu : LiesQ w P q.u.kids squ) (hlqv : LiesQ w P q.v.kids sqv) (hlqx : LiesQ w P q.a.kids sqx) (hbon : w.heap[bon]? = some (.cells Con Ton fron)) (hson0 : (Con.toList.drop oon).take 17 = [.bool p.eq, .int .i64 p.u.k, .int .i64 p.u.i, .int .i64 p.u.j, .int .i64 p.u.n, spu, .int .i64 p.v.k, .int .i64 p.v.i, .int .i64 p.v.j, .int .i64 p.v.n, spv, .int .i64 p.a.k, .int .i64 p.a.i, .int .i64 p.a.j, .int .i64 p.a.n, spx, .int .i64 p.i]) (hson1 : (Con.toList.drop (oon + 17)).take 17 = [.bool q.eq, .int .i64 q.u.k, .int .i64 q.u.i, .int .i64 q.u.j, .int .i64 q.u.n, squ, .int .i64 q.v.k, .int .i64 q.v.i, .int .i64 q.v.j, .int .i64 q.v.n, sqv, .int .i64 q.a.k, .int .i64 q.a.i, .int .i64 q.a.j, .int .i64 q.a.n, sqx, .int .i64 q.i]) (hfy : y.fine) (hfz : z.fine) (hlyu : LiesQ w P y.u.kids syu) (hlyv : LiesQ w P y.v.kids syv) (hlyx : LiesQ w P y.a.kids syx) (hlzu : LiesQ w P z.u.kids szu) (hlzv : LiesQ w P z.v.kids szv) (hlzx : LiesQ w P z.a.kids szx) (hbmo : w.heap[bmo]? = some (.cells Cmo Tmo frmo)) (hsmo0 : (Cmo.toList.drop omo).take 17 = [.bool y.eq, .int .i64 y.u.k, .int .i64 y.u.i, .int .i64 y.u.j, .int .i64 y.u.n, syu, .int .i64 y.v.k, .int .i64 y.v.i, .int .i64 y.v.j, .int .i64 y.v.n, syv, .int .i64 y.a.k, .int .i64 y.a.i, .int .i64 y.a.j, .int .i64 y.a.n, syx, .int .i64 y.i]) (hsmo1 : (Cmo.toList.drop (omo + 17)).take 17 = [.bool z.eq, .int .i64 z.u.k, .int .i64 z.u.i, .int .i64 z.u.j, .int .i64 z.u.n, szu, .int .i64 z.v.k, .int .i64 z.v.i, .int .i64 z.v.j, .int .i64 z.v.n, szv, .int .i64 z.a.k, .int .i64 z.a.i, .int .i64 z.a.j, .int .i64 z.a.n, szx, .int .i64 z.i]) (hcon : 2 ≤ capon) (hmon : capon ≤ maxLen) (hcmo : 2 ≤ capmo) (hmmo : capmo ≤ maxLen) : Calls Try.prog 6 #[sc, .slice (some ⟨bon, oon, none⟩) 2 capon, .slice (some ⟨bmo, omo, none⟩) 2 capmo] w fun e w' => e = .returned (.bool true) ∧ Kept w w' := by
  have HEc := Lib.hid hlc
  obtain ⟨ac, cc, Sc, rfl, -⟩ := hlc.out
  clear hlc
  have Gp := Lib.hid hfp
  clear hfp
  have Gq := Lib.hid hfq
  clear hfq
  obtain ⟨apu, cpu, Spu, rfl, -⟩ := hlpu.out
  obtain ⟨apv, cpv, Spv, rfl, -⟩ := hlpv.out
  obtain ⟨apx, cpx, Spx, rfl, -⟩ := hlpx.out
  obtain ⟨aqu, cqu, Squ, rfl, -⟩ := hlqu.out
  obtain ⟨aqv, cqv, Sqv, rfl, -⟩ := hlqv.out
  obtain ⟨aqx, cqx, Sqx, rfl, -⟩ := hlqx.out
  have HNon : Hid (bon < w.heap.size) := block_lt hbon
  have HBon := Lib.hid hbon
  have HSon0 := Lib.hid hson0
  have HSon1 := Lib.hid hson1
  clear hbon hson0 hson1
  have Gy := Lib.hid hfy
  clear hfy
  have Gz := Lib.hid hfz
  clear hfz
  obtain ⟨ayu, cyu, Syu, rfl, -⟩ := hlyu.out
  obtain ⟨ayv, cyv, Syv, rfl, -⟩ := hlyv.out
  obtain ⟨ayx, cyx, Syx, rfl, -⟩ := hlyx.out
  obtain ⟨azu, czu, Szu, rfl, -⟩ := hlzu.out
  obtain ⟨azv, czv, Szv, rfl, -⟩ := hlzv.out
  obtain ⟨azx, czx, Szx, rfl, -⟩ := hlzx.out
  have HNmo : Hid (bmo < w.heap.size) := block_lt hbmo
  have HBmo := Lib.hid hbmo
  have HSmo0 := Lib.hid hsmo0
  have HSmo1 := Lib.hid hsmo1
  clear hbmo hsmo0 hsmo1
  have HCon := Lib.hid hcon
  have HMon := Lib.hid hmon
  clear hcon hmon
  have HCmo := Lib.hid hcmo
  have HMmo := Lib.hid hmmo
  clear hcmo hmmo
  obtain ⟨dj, dj1, dj2⟩ := under_of 34 (by kernel_rfl)
  obtain ⟨du, hu1, hu2⟩ := under_term
  go_enter Try.func6, Try.ntmps6
  go_upto_region 1 with fail
  refine at_code (fun V0 hV0 => ?_)
  have k1 : Kept w V0 := by rw [← hV0]; exact kept_refl _
  have Z0 : Hid (V0.heap.size = w.heap.size + 0) := by show _ = _; rw [← hV0]; rfl
  clear hV0
  have Kk3 := Lib.hid k1
  clear k1
  have HLpu : Hid (LiesQ V0 (Par w V0.heap.size [] P) p.u.kids _) := (par_in _ _ hlpu).later Kk3.out
  clear hlpu
  have HLpv : Hid (LiesQ V0 (Par w V0.heap.size [] P) p.v.kids _) := (par_in _ _ hlpv).later Kk3.out
  clear hlpv
  have HLpx : Hid (LiesQ V0 (Par w V0.heap.size [] P) p.a.kids _) := (par_in _ _ hlpx).later Kk3.out
  clear hlpx
  have HLqu : Hid (LiesQ V0 (Par w V0.heap.size [] P) q.u.kids _) := (par_in _ _ hlqu).later Kk3.out
  clear hlqu
  have HLqv : Hid (LiesQ V0 (Par w V0.heap.size [] P) q.v.kids _) := (par_in _ _ hlqv).later Kk3.out
  clear hlqv
  have HLqx : Hid (LiesQ V0 (Par w V0.heap.size [] P) q.a.kids _) := (par_in _ _ hlqx).later Kk3.out
  clear hlqx
  have HLyu : Hid (LiesQ V0 (Par w V0.heap.size [] P) y.u.kids _) := (par_in _ _ hlyu).later Kk3.out
  clear hlyu
  have HLyv : Hid (LiesQ V0 (Par w V0.heap.size [] P) y.v.kids _) := (par_in _ _ hlyv).later Kk3.out
  clear hlyv
  have HLyx : Hid (LiesQ V0 (Par w V0.heap.size [] P) y.a.kids _) := (par_in _ _ hlyx).later Kk3.out
  clear hlyx
  have HLzu : Hid (LiesQ V0 (Par w V0.heap.size [] P) z.u.kids _) := (par_in _ _ hlzu).later Kk3.out
  clear hlzu
  have HLzv : Hid (LiesQ V0 (Par w V0.heap.size [] P) z.v.kids _) := (par_in _ _ hlzv).later Kk3.out
  clear hlzv
  have HLzx : Hid (LiesQ V0 (Par w V0.heap.size [] P) z.a.kids _) := (par_in _ _ hlzx).later Kk3.out
  clear hlzx
  have HBon := Lib.hid (blk_at HBon.out Kk3.out)
  have HBmo := Lib.hid (blk_at HBmo.out Kk3.out)
  have ld4 := partN_cell (r := V0.heap.size) HBon.out trivial (oon) (.bool p.eq) (row_cellW HSon0.out 0 (by decide))
  have ld5 := partN_cell (r := V0.heap.size) HBon.out trivial (oon + 16) (.int .i64 p.i) (row_cellW HSon0.out 16 (by decide))
  have ld6 := partN_cell (r := V0.heap.size) HBon.out trivial (oon + 17) (.bool q.eq) (row_cellW HSon1.out 0 (by decide))
  have ld7 := partN_cell (r := V0.heap.size) HBon.out trivial (oon + 17 + 16) (.int .i64 q.i) (row_cellW HSon1.out 16 (by decide))
  have ld8 := partN_cell (r := V0.heap.size) HBmo.out trivial (omo) (.bool y.eq) (row_cellW HSmo0.out 0 (by decide))
  have ld9 := partN_cell (r := V0.heap.size) HBmo.out trivial (omo + 16) (.int .i64 y.i) (row_cellW HSmo0.out 16 (by decide))
  have ld10 := partN_cell (r := V0.heap.size) HBmo.out trivial (omo + 17) (.bool z.eq) (row_cellW HSmo1.out 0 (by decide))
  have ld11 := partN_cell (r := V0.heap.size) HBmo.out trivial (omo + 17 + 16) (.int .i64 z.i) (row_cellW HSmo1.out 16 (by decide))
  have kvV0 : SeesN V0 V0.heap.size V0 := seesN_kept _ (kept_refl _)
  go_wp2_with fail
  clear kvV0
  refine (lheavy15_any c [p, q] _ ((.slice ac c.length cc)) ((.slice (some ⟨bon, oon, none⟩) 2 capon)) (HEc.out.keep Kk3.out) (liesJ_row2 (j := p) (k := q) HBon.out HSon0.out HSon1.out HCon.out HMon.out Gp.out Gq.out ⟨HLpu.out.lies, HLpv.out.lies, HLpx.out.lies⟩ ⟨HLqu.out.lies, HLqv.out.lies, HLqx.out.lies⟩)).mono ?_
  rintro e w12 ⟨gb14, rfl, hg15, k13⟩
  have Hhg15 := Lib.hid hg15
  clear hg15
  have Kk16 := Lib.hid k13
  clear k13
  cases gb14 with
  | false =>
    have HIhg15 := Lib.hid (Hhg15.out rfl)
    have kvV0 : SeesN V0 V0.heap.size w12 := seesN_kept _ Kk16.out
    go_wp2_with fail
    clear kvV0
    refine (lheavy15_any c [y, z] _ ((.slice ac c.length cc)) ((.slice (some ⟨bmo, omo, none⟩) 2 capmo)) (HEc.out.keep (kept_trans Kk3.out Kk16.out)) (liesJ_row2 (j := y) (k := z) (blk_at HBmo.out Kk16.out) HSmo0.out HSmo1.out HCmo.out HMmo.out Gy.out Gz.out ⟨(HLyu.out.later Kk16.out).lies, (HLyv.out.later Kk16.out).lies, (HLyx.out.later Kk16.out).lies⟩ ⟨(HLzu.out.later Kk16.out).lies, (HLzv.out.later Kk16.out).lies, (HLzx.out.later Kk16.out).lies⟩)).mono ?_
    rintro e w17 ⟨gb19, rfl, hg20, k18⟩
    have Hhg20 := Lib.hid hg20
    clear hg20
    have Kk21 := Lib.hid k18
    clear k18
    cases gb19 with
    | false =>
      have HIhg20 := Lib.hid (Hhg20.out rfl)
      have kvV0 : SeesN V0 V0.heap.size w17 := seesN_kept _ (kept_trans Kk16.out Kk21.out)
      go_wp2_with fail
      clear kvV0
      refine (of12two_any c p q (Par w V0.heap.size [] P) w17 ((.slice ac c.length cc)) bon oon capon _ _ _ ((.slice apu p.u.kids.length cpu)) ((.slice apv p.v.kids.length cpv)) ((.slice apx p.a.kids.length cpx)) ((.slice aqu q.u.kids.length cqu)) ((.slice aqv q.v.kids.length cqv)) ((.slice aqx q.a.kids.length cqx)) (HEc.out.keep (kept_trans Kk3.out (kept_trans Kk16.out Kk21.out))) Gp.out Gq.out (HLpu.out.later (kept_trans Kk16.out Kk21.out)) (HLpv.out.later (kept_trans Kk16.out Kk21.out)) (HLpx.out.later (kept_trans Kk16.out Kk21.out)) (HLqu.out.later (kept_trans Kk16.out Kk21.out)) (HLqv.out.later (kept_trans Kk16.out Kk21.out)) (HLqx.out.later (kept_trans Kk16.out Kk21.out)) (blk_at HBon.out (kept_trans Kk16.out Kk21.out)) HSon0.out HSon1.out (Nat.le_trans HIhg15.out.1.1 (by decide)) (Nat.le_trans (HIhg15.out.2.2 _ (List.mem_cons_self ..)).1 (by decide)) (Nat.le_trans (HIhg15.out.2.2 _ (List.mem_cons_of_mem _ (List.mem_cons_self ..))).2.1 (by decide))).mono ?_
      rintro e w22 ⟨rb24, J25, s26, s27, s28, rfl, hf32, ⟨hl29, hl30, hl31⟩, hi33, k23⟩
      cases rb24 with
      | false =>
        have Hhf32 := Lib.hid hf32
        clear hf32
        (try clear hi33)
        obtain ⟨a34, c35, S36, rfl, -⟩ := hl29.out
        obtain ⟨a37, c38, S39, rfl, -⟩ := hl30.out
        obtain ⟨a40, c41, S42, rfl, -⟩ := hl31.out
        have Kk43 := Lib.hid k23
        clear k23
        have Hhl29 : Hid (LiesQ w22 (Par w V0.heap.size [] P) J25.u.kids _) := par_give hl29 (Below.size (kept_trans Kk16.out Kk21.out)) (xlt_nil _)
        have Hhl30 : Hid (LiesQ w22 (Par w V0.heap.size [] P) J25.v.kids _) := par_give hl30 (Below.size (kept_trans Kk16.out Kk21.out)) (xlt_nil _)
        have Hhl31 : Hid (LiesQ w22 (Par w V0.heap.size [] P) J25.a.kids _) := par_give hl31 (Below.size (kept_trans Kk16.out Kk21.out)) (xlt_nil _)
        clear hl29 hl30 hl31
        have kvV0 : SeesN V0 V0.heap.size w22 := seesN_kept _ (kept_trans Kk16.out (kept_trans Kk21.out Kk43.out))
        go_wp2_with (refine stop_store 34 (.tmp 7) (.tmp 23) rfl ?_)
        intro _
        refine wpList_store_part_n (by rfl) 34 (.tmp 7) (.tmp 23) rfl (w22.heap.size) 0 #[.bool J25.eq, .int .i64 J25.u.k, .int .i64 J25.u.i, .int .i64 J25.u.j, .int .i64 J25.u.n, (.slice a34 J25.u.kids.length c35), .int .i64 J25.v.k, .int .i64 J25.v.i, .int .i64 J25.v.j, .int .i64 J25.v.n, (.slice a37 J25.v.kids.length c38), .int .i64 J25.a.k, .int .i64 J25.a.i, .int .i64 J25.a.j, .int .i64 J25.a.n, (.slice a40 J25.a.kids.length c41), .int .i64 J25.i] (by rfl) (by rfl) 34 (by kernel_rfl) (row_ok rfl) ?_
        intro W44 hW44
        clear kvV0
        obtain ⟨k47, x46, z48⟩ := alloc1 hW44
        have Kk49 := Lib.hid k47
        clear k47
        have Hx46 := Lib.hid x46
        have Hz48 := Lib.hid z48
        clear x46 z48 hW44
        have HG50 : Hid (V0.heap.size ≤ w22.heap.size) := (Below.size (kept_trans Kk16.out (kept_trans Kk21.out Kk43.out)))
        have XL51 : Hid (XLt (w22.heap.size :: []) W44) := (xlt_more (xlt_nil _) Kk49.out (by have := Hz48.out; omega))
        refine ⟨_, #[.bool J25.eq, .int .i64 J25.u.k, .int .i64 J25.u.i, .int .i64 J25.u.j, .int .i64 J25.u.n, (.slice a34 J25.u.kids.length c35), .int .i64 J25.v.k, .int .i64 J25.v.i, .int .i64 J25.v.j, .int .i64 J25.v.n, (.slice a37 J25.v.kids.length c38), .int .i64 J25.a.k, .int .i64 J25.a.i, .int .i64 J25.a.j, .int .i64 J25.a.n, (.slice a40 J25.a.kids.length c41), .int .i64 J25.i], Hx46.out, rfl, Nat.le_of_ble_eq_true rfl, ?_⟩
        intro W45 hW45
        have KB52 := Lib.hid (kept_set (kept_trans Kk3.out (kept_trans Kk16.out (kept_trans Kk21.out (kept_trans Kk43.out Kk49.out)))) hW45 (by have := HG50.out; have := Z0.out; omega))
        have KB53 := Lib.hid (kept_set (kept_trans Kk16.out (kept_trans Kk21.out (kept_trans Kk43.out Kk49.out))) hW45 HG50.out)
        have HL54 : Hid (LiesQ W45 (Par w V0.heap.size (w22.heap.size :: []) P) J25.u.kids _) := par_set (par_grow Hhl29.out Kk49.out (List.forall_mem_cons.2 ⟨(Or.inr (Nat.le_refl w22.heap.size)), (fun _ h => nomatch h)⟩)) hW45 (List.mem_cons_self ..) (by have := HG50.out; have := Z0.out; omega)
        have HL55 : Hid (LiesQ W45 (Par w V0.heap.size (w22.heap.size :: []) P) J25.v.kids _) := par_set (par_grow Hhl30.out Kk49.out (List.forall_mem_cons.2 ⟨(Or.inr (Nat.le_refl w22.heap.size)), (fun _ h => nomatch h)⟩)) hW45 (List.mem_cons_self ..) (by have := HG50.out; have := Z0.out; omega)
        have HL56 : Hid (LiesQ W45 (Par w V0.heap.size (w22.heap.size :: []) P) J25.a.kids _) := par_set (par_grow Hhl31.out Kk49.out (List.forall_mem_cons.2 ⟨(Or.inr (Nat.le_refl w22.heap.size)), (fun _ h => nomatch h)⟩)) hW45 (List.mem_cons_self ..) (by have := HG50.out; have := Z0.out; omega)
        have HL57 : Hid (LiesQ W45 (Par w V0.heap.size (w22.heap.size :: []) P) p.u.kids _) := par_set (par_grow HLpu.out (kept_trans Kk16.out (kept_trans Kk21.out (kept_trans Kk43.out Kk49.out))) (List.forall_mem_cons.2 ⟨(Or.inr (Nat.le_trans (Below.size (kept_trans Kk16.out (kept_trans Kk21.out Kk43.out))) (Nat.le_refl w22.heap.size))), (fun _ h => nomatch h)⟩)) hW45 (List.mem_cons_self ..) (by have := HG50.out; have := Z0.out; omega)
        have HL58 : Hid (LiesQ W45 (Par w V0.heap.size (w22.heap.size :: []) P) p.v.kids _) := par_set (par_grow HLpv.out (kept_trans Kk16.out (kept_trans Kk21.out (kept_trans Kk43.out Kk49.out))) (List.forall_mem_cons.2 ⟨(Or.inr (Nat.le_trans (Below.size (kept_trans Kk16.out (kept_trans Kk21.out Kk43.out))) (Nat.le_refl w22.heap.size))), (fun _ h => nomatch h)⟩)) hW45 (List.mem_cons_self ..) (by have := HG50.out; have := Z0.out; omega)
        have HL59 : Hid (LiesQ W45 (Par w V0.heap.size (w22.heap.size :: []) P) p.a.kids _) := par_set (par_grow HLpx.out (kept_trans Kk16.out (kept_trans Kk21.out (kept_trans Kk43.out Kk49.out))) (List.forall_mem_cons.2 ⟨(Or.inr (Nat.le_trans (Below.size (kept_trans Kk16.out (kept_trans Kk21.out Kk43.out))) (Nat.le_refl w22.heap.size))), (fun _ h => nomatch h)⟩)) hW45 (List.mem_cons_self ..) (by have := HG50.out; have := Z0.out; omega)
        have HL60 : Hid (LiesQ W45 (Par w V0.heap.size (w22.heap.size :: []) P) q.u.kids _) := par_set (par_grow HLqu.out (kept_trans Kk16.out (kept_trans Kk21.out (kept_trans Kk43.out Kk49.out))) (List.forall_mem_cons.2 ⟨(Or.inr (Nat.le_trans (Below.size (kept_trans Kk16.out (kept_trans Kk21.out Kk43.out))) (Nat.le_refl w22.heap.size))), (fun _ h => nomatch h)⟩)) hW45 (List.mem_cons_self ..) (by have := HG50.out; have := Z0.out; omega)
        have HL61 : Hid (LiesQ W45 (Par w V0.heap.size (w22.heap.size :: []) P) q.v.kids _) := par_set (par_grow HLqv.out (kept_trans Kk16.out (kept_trans Kk21.out (kept_trans Kk43.out Kk49.out))) (List.forall_mem_cons.2 ⟨(Or.inr (Nat.le_trans (Below.size (kept_trans Kk16.out (kept_trans Kk21.out Kk43.out))) (Nat.le_refl w22.heap.size))), (fun _ h => nomatch h)⟩)) hW45 (List.mem_cons_self ..) (by have := HG50.out; have := Z0.out; omega)
        have HL62 : Hid (LiesQ W45 (Par w V0.heap.size (w22.heap.size :: []) P) q.a.kids _) := par_set (par_grow HLqx.out (kept_trans Kk16.out (kept_trans Kk21.out (kept_trans Kk43.out Kk49.out))) (List.forall_mem_cons.2 ⟨(Or.inr (Nat.le_trans (Below.size (kept_trans Kk16.out (kept_trans Kk21.out Kk43.out))) (Nat.le_refl w22.heap.size))), (fun _ h => nomatch h)⟩)) hW45 (List.mem_cons_self ..) (by have := HG50.out; have := Z0.out; omega)
        have HL63 : Hid (LiesQ W45 (Par w V0.heap.size (w22.heap.size :: []) P) y.u.kids _) := par_set (par_grow HLyu.out (kept_trans Kk16.out (kept_trans Kk21.out (kept_trans Kk43.out Kk49.out))) (List.forall_mem_cons.2 ⟨(Or.inr (Nat.le_trans (Below.size (kept_trans Kk16.out (kept_trans Kk21.out Kk43.out))) (Nat.le_refl w22.heap.size))), (fun _ h => nomatch h)⟩)) hW45 (List.mem_cons_self ..) (by have := HG50.out; have := Z0.out; omega)
        have HL64 : Hid (LiesQ W45 (Par w V0.heap.size (w22.heap.size :: []) P) y.v.kids _) := par_set (par_grow HLyv.out (kept_trans Kk16.out (kept_trans Kk21.out (kept_trans Kk43.out Kk49.out))) (List.forall_mem_cons.2 ⟨(Or.inr (Nat.le_trans (Below.size (kept_trans Kk16.out (kept_trans Kk21.out Kk43.out))) (Nat.le_refl w22.heap.size))), (fun _ h => nomatch h)⟩)) hW45 (List.mem_cons_self ..) (by have := HG50.out; have := Z0.out; omega)
        have HL65 : Hid (LiesQ W45 (Par w V0.heap.size (w22.heap.size :: []) P) y.a.kids _) := par_set (par_grow HLyx.out (kept_trans Kk16.out (kept_trans Kk21.out (kept_trans Kk43.out Kk49.out))) (List.forall_mem_cons.2 ⟨(Or.inr (Nat.le_trans (Below.size (kept_trans Kk16.out (kept_trans Kk21.out Kk43.out))) (Nat.le_refl w22.heap.size))), (fun _ h => nomatch h)⟩)) hW45 (List.mem_cons_self ..) (by have := HG50.out; have := Z0.out; omega)
        have HL66 : Hid (LiesQ W45 (Par w V0.heap.size (w22.heap.size :: []) P) z.u.kids _) := par_set (par_grow HLzu.out (kept_trans Kk16.out (kept_trans Kk21.out (kept_trans Kk43.out Kk49.out))) (List.forall_mem_cons.2 ⟨(Or.inr (Nat.le_trans (Below.size (kept_trans Kk16.out (kept_trans Kk21.out Kk43.out))) (Nat.le_refl w22.heap.size))), (fun _ h => nomatch h)⟩)) hW45 (List.mem_cons_self ..) (by have := HG50.out; have := Z0.out; omega)
        have HL67 : Hid (LiesQ W45 (Par w V0.heap.size (w22.heap.size :: []) P) z.v.kids _) := par_set (par_grow HLzv.out (kept_trans Kk16.out (kept_trans Kk21.out (kept_trans Kk43.out Kk49.out))) (List.forall_mem_cons.2 ⟨(Or.inr (Nat.le_trans (Below.size (kept_trans Kk16.out (kept_trans Kk21.out Kk43.out))) (Nat.le_refl w22.heap.size))), (fun _ h => nomatch h)⟩)) hW45 (List.mem_cons_self ..) (by have := HG50.out; have := Z0.out; omega)
        have HL68 : Hid (LiesQ W45 (Par w V0.heap.size (w22.heap.size :: []) P) z.a.kids _) := par_set (par_grow HLzx.out (kept_trans Kk16.out (kept_trans Kk21.out (kept_trans Kk43.out Kk49.out))) (List.forall_mem_cons.2 ⟨(Or.inr (Nat.le_trans (Below.size (kept_trans Kk16.out (kept_trans Kk21.out Kk43.out))) (Nat.le_refl w22.heap.size))), (fun _ h => nomatch h)⟩)) hW45 (List.mem_cons_self ..) (by have := HG50.out; have := Z0.out; omega)
        have XL69 := Lib.hid (xlt_set XL51.out hW45)
        have HX70 := Lib.hid (blk_same Hx46.out hW45)
        clear hW45
        have ld71 := partN_cell (r := V0.heap.size) HX70.out trivial 0 (.bool J25.eq) rfl
        have ld72 := partN_cell (r := V0.heap.size) HX70.out trivial 16 (.int .i64 J25.i) rfl
        have kvV0 : SeesN V0 V0.heap.size W45 := seesN_kept _ KB53.out
        have kvW45 : SeesN W45 V0.heap.size W45 := seesN_kept _ (kept_refl _)
        go_wp2_with fail
        clear kvV0
        clear kvW45
        refine (of12two_any c y z (Par w V0.heap.size (w22.heap.size :: []) P) W45 ((.slice ac c.length cc)) bmo omo capmo _ _ _ ((.slice ayu y.u.kids.length cyu)) ((.slice ayv y.v.kids.length cyv)) ((.slice ayx y.a.kids.length cyx)) ((.slice azu z.u.kids.length czu)) ((.slice azv z.v.kids.length czv)) ((.slice azx z.a.kids.length czx)) (HEc.out.keep KB52.out) Gy.out Gz.out HL63.out HL64.out HL65.out HL66.out HL67.out HL68.out (blk_at HBmo.out KB53.out) HSmo0.out HSmo1.out (Nat.le_trans HIhg20.out.1.1 (by decide)) (Nat.le_trans (HIhg20.out.2.2 _ (List.mem_cons_self ..)).1 (by decide)) (Nat.le_trans (HIhg20.out.2.2 _ (List.mem_cons_of_mem _ (List.mem_cons_self ..))).2.1 (by decide))).mono ?_
        rintro e w73 ⟨rb75, J76, s77, s78, s79, rfl, hf83, ⟨hl80, hl81, hl82⟩, hi84, k74⟩
        cases rb75 with
        | false =>
          have Hhf83 := Lib.hid hf83
          clear hf83
          (try clear hi84)
          obtain ⟨a85, c86, S87, rfl, -⟩ := hl80.out
          obtain ⟨a88, c89, S90, rfl, -⟩ := hl81.out
          obtain ⟨a91, c92, S93, rfl, -⟩ := hl82.out
          have Kk94 := Lib.hid k74
          clear k74
          have Hhl80 : Hid (LiesQ w73 (Par w V0.heap.size (w22.heap.size :: []) P) J76.u.kids _) := par_give hl80 (Below.size KB53.out) XL69.out
          have Hhl81 : Hid (LiesQ w73 (Par w V0.heap.size (w22.heap.size :: []) P) J76.v.kids _) := par_give hl81 (Below.size KB53.out) XL69.out
          have Hhl82 : Hid (LiesQ w73 (Par w V0.heap.size (w22.heap.size :: []) P) J76.a.kids _) := par_give hl82 (Below.size KB53.out) XL69.out
          clear hl80 hl81 hl82
          have kvV0 : SeesN V0 V0.heap.size w73 := seesN_kept _ (kept_trans KB53.out Kk94.out)
          have kvW45 : SeesN W45 V0.heap.size w73 := seesN_kept _ Kk94.out
          go_wp2_with (refine stop_store 34 (.tmp 9) (.tmp 29) rfl ?_)
          intro _
          refine wpList_store_part_n (by rfl) 34 (.tmp 9) (.tmp 29) rfl (w73.heap.size) 0 #[.bool J76.eq, .int .i64 J76.u.k, .int .i64 J76.u.i, .int .i64 J76.u.j, .int .i64 J76.u.n, (.slice a85 J76.u.kids.length c86), .int .i64 J76.v.k, .int .i64 J76.v.i, .int .i64 J76.v.j, .int .i64 J76.v.n, (.slice a88 J76.v.kids.length c89), .int .i64 J76.a.k, .int .i64 J76.a.i, .int .i64 J76.a.j, .int .i64 J76.a.n, (.slice a91 J76.a.kids.length c92), .int .i64 J76.i] (by rfl) (by rfl) 34 (by kernel_rfl) (row_ok rfl) ?_
          intro W95 hW95
          clear kvV0
          clear kvW45
          obtain ⟨k98, x97, z99⟩ := alloc1 hW95
          have Kk100 := Lib.hid k98
          clear k98
          have Hx97 := Lib.hid x97
          have Hz99 := Lib.hid z99
          clear x97 z99 hW95
          have HG101 : Hid (V0.heap.size ≤ w73.heap.size) := (Below.size (kept_trans KB53.out Kk94.out))
          have AP102 : Hid (w22.heap.size < w73.heap.size) := block_lt (blk_at HX70.out Kk94.out)
          have XL103 : Hid (XLt (w73.heap.size :: (w22.heap.size :: [])) W95) := (xlt_more (xlt_later XL69.out Kk94.out) Kk100.out (by have := Hz99.out; omega))
          refine ⟨_, #[.bool J76.eq, .int .i64 J76.u.k, .int .i64 J76.u.i, .int .i64 J76.u.j, .int .i64 J76.u.n, (.slice a85 J76.u.kids.length c86), .int .i64 J76.v.k, .int .i64 J76.v.i, .int .i64 J76.v.j, .int .i64 J76.v.n, (.slice a88 J76.v.kids.length c89), .int .i64 J76.a.k, .int .i64 J76.a.i, .int .i64 J76.a.j, .int .i64 J76.a.n, (.slice a91 J76.a.kids.length c92), .int .i64 J76.i], Hx97.out, rfl, Nat.le_of_ble_eq_true rfl, ?_⟩
          intro W96 hW96
          have KB104 := Lib.hid (kept_set (kept_trans KB52.out (kept_trans Kk94.out Kk100.out)) hW96 (by have := HG101.out; have := Z0.out; omega))
          have KB105 := Lib.hid (kept_set (kept_trans KB53.out (kept_trans Kk94.out Kk100.out)) hW96 HG101.out)
          have HL106 : Hid (LiesQ W96 (Par w V0.heap.size (w73.heap.size :: (w22.heap.size :: [])) P) J25.u.kids _) := par_set (par_grow HL54.out (kept_trans Kk94.out Kk100.out) (List.forall_mem_cons.2 ⟨(Or.inr (Nat.le_trans (Below.size Kk94.out) (Nat.le_refl w73.heap.size))), (List.forall_mem_cons.2 ⟨(Or.inl (List.mem_cons_self ..)), (fun _ h => nomatch h)⟩)⟩)) hW96 (List.mem_cons_self ..) (by have := HG101.out; have := Z0.out; omega)
          have HL107 : Hid (LiesQ W96 (Par w V0.heap.size (w73.heap.size :: (w22.heap.size :: [])) P) J25.v.kids _) := par_set (par_grow HL55.out (kept_trans Kk94.out Kk100.out) (List.forall_mem_cons.2 ⟨(Or.inr (Nat.le_trans (Below.size Kk94.out) (Nat.le_refl w73.heap.size))), (List.forall_mem_cons.2 ⟨(Or.inl (List.mem_cons_self ..)), (fun _ h => nomatch h)⟩)⟩)) hW96 (List.mem_cons_self ..) (by have := HG101.out; have := Z0.out; omega)
          have HL108 : Hid (LiesQ W96 (Par w V0.heap.size (w73.heap.size :: (w22.heap.size :: [])) P) J25.a.kids _) := par_set (par_grow HL56.out (kept_trans Kk94.out Kk100.out) (List.forall_mem_cons.2 ⟨(Or.inr (Nat.le_trans (Below.size Kk94.out) (Nat.le_refl w73.heap.size))), (List.forall_mem_cons.2 ⟨(Or.inl (List.mem_cons_self ..)), (fun _ h => nomatch h)⟩)⟩)) hW96 (List.mem_cons_self ..) (by have := HG101.out; have := Z0.out; omega)
          have HL109 : Hid (LiesQ W96 (Par w V0.heap.size (w73.heap.size :: (w22.heap.size :: [])) P) J76.u.kids _) := par_set (par_grow Hhl80.out Kk100.out (List.forall_mem_cons.2 ⟨(Or.inr (Nat.le_refl w73.heap.size)), (List.forall_mem_cons.2 ⟨(Or.inl (List.mem_cons_self ..)), (fun _ h => nomatch h)⟩)⟩)) hW96 (List.mem_cons_self ..) (by have := HG101.out; have := Z0.out; omega)
          have HL110 : Hid (LiesQ W96 (Par w V0.heap.size (w73.heap.size :: (w22.heap.size :: [])) P) J76.v.kids _) := par_set (par_grow Hhl81.out Kk100.out (List.forall_mem_cons.2 ⟨(Or.inr (Nat.le_refl w73.heap.size)), (List.forall_mem_cons.2 ⟨(Or.inl (List.mem_cons_self ..)), (fun _ h => nomatch h)⟩)⟩)) hW96 (List.mem_cons_self ..) (by have := HG101.out; have := Z0.out; omega)
          have HL111 : Hid (LiesQ W96 (Par w V0.heap.size (w73.heap.size :: (w22.heap.size :: [])) P) J76.a.kids _) := par_set (par_grow Hhl82.out Kk100.out (List.forall_mem_cons.2 ⟨(Or.inr (Nat.le_refl w73.heap.size)), (List.forall_mem_cons.2 ⟨(Or.inl (List.mem_cons_self ..)), (fun _ h => nomatch h)⟩)⟩)) hW96 (List.mem_cons_self ..) (by have := HG101.out; have := Z0.out; omega)
          have HL112 : Hid (LiesQ W96 (Par w V0.heap.size (w73.heap.size :: (w22.heap.size :: [])) P) p.u.kids _) := par_set (par_grow HL57.out (kept_trans Kk94.out Kk100.out) (List.forall_mem_cons.2 ⟨(Or.inr (Nat.le_trans (Below.size Kk94.out) (Nat.le_refl w73.heap.size))), (List.forall_mem_cons.2 ⟨(Or.inl (List.mem_cons_self ..)), (fun _ h => nomatch h)⟩)⟩)) hW96 (List.mem_cons_self ..) (by have := HG101.out; have := Z0.out; omega)
          have HL113 : Hid (LiesQ W96 (Par w V0.heap.size (w73.heap.size :: (w22.heap.size :: [])) P) p.v.kids _) := par_set (par_grow HL58.out (kept_trans Kk94.out Kk100.out) (List.forall_mem_cons.2 ⟨(Or.inr (Nat.le_trans (Below.size Kk94.out) (Nat.le_refl w73.heap.size))), (List.forall_mem_cons.2 ⟨(Or.inl (List.mem_cons_self ..)), (fun _ h => nomatch h)⟩)⟩)) hW96 (List.mem_cons_self ..) (by have := HG101.out; have := Z0.out; omega)
          have HL114 : Hid (LiesQ W96 (Par w V0.heap.size (w73.heap.size :: (w22.heap.size :: [])) P) p.a.kids _) := par_set (par_grow HL59.out (kept_trans Kk94.out Kk100.out) (List.forall_mem_cons.2 ⟨(Or.inr (Nat.le_trans (Below.size Kk94.out) (Nat.le_refl w73.heap.size))), (List.forall_mem_cons.2 ⟨(Or.inl (List.mem_cons_self ..)), (fun _ h => nomatch h)⟩)⟩)) hW96 (List.mem_cons_self ..) (by have := HG101.out; have := Z0.out; omega)
          have HL115 : Hid (LiesQ W96 (Par w V0.heap.size (w73.heap.size :: (w22.heap.size :: [])) P) q.u.kids _) := par_set (par_grow HL60.out (kept_trans Kk94.out Kk100.out) (List.forall_mem_cons.2 ⟨(Or.inr (Nat.le_trans (Below.size Kk94.out) (Nat.le_refl w73.heap.size))), (List.forall_mem_cons.2 ⟨(Or.inl (List.mem_cons_self ..)), (fun _ h => nomatch h)⟩)⟩)) hW96 (List.mem_cons_self ..) (by have := HG101.out; have := Z0.out; omega)
          have HL116 : Hid (LiesQ W96 (Par w V0.heap.size (w73.heap.size :: (w22.heap.size :: [])) P) q.v.kids _) := par_set (par_grow HL61.out (kept_trans Kk94.out Kk100.out) (List.forall_mem_cons.2 ⟨(Or.inr (Nat.le_trans (Below.size Kk94.out) (Nat.le_refl w73.heap.size))), (List.forall_mem_cons.2 ⟨(Or.inl (List.mem_cons_self ..)), (fun _ h => nomatch h)⟩)⟩)) hW96 (List.mem_cons_self ..) (by have := HG101.out; have := Z0.out; omega)
          have HL117 : Hid (LiesQ W96 (Par w V0.heap.size (w73.heap.size :: (w22.heap.size :: [])) P) q.a.kids _) := par_set (par_grow HL62.out (kept_trans Kk94.out Kk100.out) (List.forall_mem_cons.2 ⟨(Or.inr (Nat.le_trans (Below.size Kk94.out) (Nat.le_refl w73.heap.size))), (List.forall_mem_cons.2 ⟨(Or.inl (List.mem_cons_self ..)), (fun _ h => nomatch h)⟩)⟩)) hW96 (List.mem_cons_self ..) (by have := HG101.out; have := Z0.out; omega)
          have HL118 : Hid (LiesQ W96 (Par w V0.heap.size (w73.heap.size :: (w22.heap.size :: [])) P) y.u.kids _) := par_set (par_grow HL63.out (kept_trans Kk94.out Kk100.out) (List.forall_mem_cons.2 ⟨(Or.inr (Nat.le_trans (Below.size Kk94.out) (Nat.le_refl w73.heap.size))), (List.forall_mem_cons.2 ⟨(Or.inl (List.mem_cons_self ..)), (fun _ h => nomatch h)⟩)⟩)) hW96 (List.mem_cons_self ..) (by have := HG101.out; have := Z0.out; omega)
          have HL119 : Hid (LiesQ W96 (Par w V0.heap.size (w73.heap.size :: (w22.heap.size :: [])) P) y.v.kids _) := par_set (par_grow HL64.out (kept_trans Kk94.out Kk100.out) (List.forall_mem_cons.2 ⟨(Or.inr (Nat.le_trans (Below.size Kk94.out) (Nat.le_refl w73.heap.size))), (List.forall_mem_cons.2 ⟨(Or.inl (List.mem_cons_self ..)), (fun _ h => nomatch h)⟩)⟩)) hW96 (List.mem_cons_self ..) (by have := HG101.out; have := Z0.out; omega)
          have HL120 : Hid (LiesQ W96 (Par w V0.heap.size (w73.heap.size :: (w22.heap.size :: [])) P) y.a.kids _) := par_set (par_grow HL65.out (kept_trans Kk94.out Kk100.out) (List.forall_mem_cons.2 ⟨(Or.inr (Nat.le_trans (Below.size Kk94.out) (Nat.le_refl w73.heap.size))), (List.forall_mem_cons.2 ⟨(Or.inl (List.mem_cons_self ..)), (fun _ h => nomatch h)⟩)⟩)) hW96 (List.mem_cons_self ..) (by have := HG101.out; have := Z0.out; omega)
          have HL121 : Hid (LiesQ W96 (Par w V0.heap.size (w73.heap.size :: (w22.heap.size :: [])) P) z.u.kids _) := par_set (par_grow HL66.out (kept_trans Kk94.out Kk100.out) (List.forall_mem_cons.2 ⟨(Or.inr (Nat.le_trans (Below.size Kk94.out) (Nat.le_refl w73.heap.size))), (List.forall_mem_cons.2 ⟨(Or.inl (List.mem_cons_self ..)), (fun _ h => nomatch h)⟩)⟩)) hW96 (List.mem_cons_self ..) (by have := HG101.out; have := Z0.out; omega)
          have HL122 : Hid (LiesQ W96 (Par w V0.heap.size (w73.heap.size :: (w22.heap.size :: [])) P) z.v.kids _) := par_set (par_grow HL67.out (kept_trans Kk94.out Kk100.out) (List.forall_mem_cons.2 ⟨(Or.inr (Nat.le_trans (Below.size Kk94.out) (Nat.le_refl w73.heap.size))), (List.forall_mem_cons.2 ⟨(Or.inl (List.mem_cons_self ..)), (fun _ h => nomatch h)⟩)⟩)) hW96 (List.mem_cons_self ..) (by have := HG101.out; have := Z0.out; omega)
          have HL123 : Hid (LiesQ W96 (Par w V0.heap.size (w73.heap.size :: (w22.heap.size :: [])) P) z.a.kids _) := par_set (par_grow HL68.out (kept_trans Kk94.out Kk100.out) (List.forall_mem_cons.2 ⟨(Or.inr (Nat.le_trans (Below.size Kk94.out) (Nat.le_refl w73.heap.size))), (List.forall_mem_cons.2 ⟨(Or.inl (List.mem_cons_self ..)), (fun _ h => nomatch h)⟩)⟩)) hW96 (List.mem_cons_self ..) (by have := HG101.out; have := Z0.out; omega)
          have XL124 := Lib.hid (xlt_set XL103.out hW96)
          have HX125 := Lib.hid (blk_other (blk_at HX70.out (kept_trans Kk94.out Kk100.out)) hW96 (by have := AP102.out; omega))
          have HX126 := Lib.hid (blk_same Hx97.out hW96)
          (try clear ld71)
          (try clear ld72)
          clear hW96
          have ld127 := partN_cell (r := V0.heap.size) HX125.out trivial 0 (.bool J25.eq) rfl
          have ld128 := partN_cell (r := V0.heap.size) HX125.out trivial 16 (.int .i64 J25.i) rfl
          have ld129 := partN_cell (r := V0.heap.size) HX126.out trivial 16 (.int .i64 J76.i) rfl
          have kvV0 : SeesN V0 V0.heap.size W96 := seesN_kept _ KB105.out
          have kvW96 : SeesN W96 V0.heap.size W96 := seesN_kept _ (kept_refl _)
          go_wp2_with fail
          clear kvV0
          clear kvW96
          refine (wakes15_any _).mono ?_
          rintro e w130 ⟨rfl, k131⟩
          have Kk132 := Lib.hid k131
          clear k131
          have kvV0 : SeesN V0 V0.heap.size w130 := seesN_kept _ (kept_trans KB105.out Kk132.out)
          have kvW96 : SeesN W96 V0.heap.size w130 := seesN_kept _ Kk132.out
          go_wp2
          go_ret
          exact ⟨rfl, (kept_trans KB104.out Kk132.out)⟩
        | true =>
          obtain rfl := hi84 rfl
          (try clear hf83 hi84)
          obtain ⟨a133, c134, S135, rfl, -⟩ := hl80.out
          obtain ⟨a136, c137, S138, rfl, -⟩ := hl81.out
          obtain ⟨a139, c140, S141, rfl, -⟩ := hl82.out
          have Kk142 := Lib.hid k74
          clear k74
          have Hhl80 : Hid (LiesQ w73 (Par w V0.heap.size (w22.heap.size :: []) P) y.u.kids _) := par_give hl80 (Below.size KB53.out) XL69.out
          have Hhl81 : Hid (LiesQ w73 (Par w V0.heap.size (w22.heap.size :: []) P) Tm.zero.kids _) := par_give hl81 (Below.size KB53.out) XL69.out
          have Hhl82 : Hid (LiesQ w73 (Par w V0.heap.size (w22.heap.size :: []) P) z.v.kids _) := par_give hl82 (Below.size KB53.out) XL69.out
          clear hl80 hl81 hl82
          have kvV0 : SeesN V0 V0.heap.size w73 := seesN_kept _ (kept_trans KB53.out Kk142.out)
          have kvW45 : SeesN W45 V0.heap.size w73 := seesN_kept _ Kk142.out
          go_wp2_with (refine stop_store 34 (.tmp 9) (.tmp 29) rfl ?_)
          intro _
          refine wpList_store_part_n (by rfl) 34 (.tmp 9) (.tmp 29) rfl (w73.heap.size) 0 #[.bool false, .int .i64 y.u.k, .int .i64 y.u.i, .int .i64 y.u.j, .int .i64 y.u.n, (.slice a133 y.u.kids.length c134), .int .i64 Tm.zero.k, .int .i64 Tm.zero.i, .int .i64 Tm.zero.j, .int .i64 Tm.zero.n, (.slice a136 Tm.zero.kids.length c137), .int .i64 z.v.k, .int .i64 z.v.i, .int .i64 z.v.j, .int .i64 z.v.n, (.slice a139 z.v.kids.length c140), .int .i64 y.i] (by rfl) (by rfl) 34 (by kernel_rfl) (row_ok rfl) ?_
          intro W143 hW143
          clear kvV0
          clear kvW45
          obtain ⟨k146, x145, z147⟩ := alloc1 hW143
          have Kk148 := Lib.hid k146
          clear k146
          have Hx145 := Lib.hid x145
          have Hz147 := Lib.hid z147
          clear x145 z147 hW143
          have HG149 : Hid (V0.heap.size ≤ w73.heap.size) := (Below.size (kept_trans KB53.out Kk142.out))
          have AP150 : Hid (w22.heap.size < w73.heap.size) := block_lt (blk_at HX70.out Kk142.out)
          have XL151 : Hid (XLt (w73.heap.size :: (w22.heap.size :: [])) W143) := (xlt_more (xlt_later XL69.out Kk142.out) Kk148.out (by have := Hz147.out; omega))
          refine ⟨_, #[.bool false, .int .i64 y.u.k, .int .i64 y.u.i, .int .i64 y.u.j, .int .i64 y.u.n, (.slice a133 y.u.kids.length c134), .int .i64 Tm.zero.k, .int .i64 Tm.zero.i, .int .i64 Tm.zero.j, .int .i64 Tm.zero.n, (.slice a136 Tm.zero.kids.length c137), .int .i64 z.v.k, .int .i64 z.v.i, .int .i64 z.v.j, .int .i64 z.v.n, (.slice a139 z.v.kids.length c140), .int .i64 y.i], Hx145.out, rfl, Nat.le_of_ble_eq_true rfl, ?_⟩
          intro W144 hW144
          have KB152 := Lib.hid (kept_set (kept_trans KB52.out (kept_trans Kk142.out Kk148.out)) hW144 (by have := HG149.out; have := Z0.out; omega))
          have KB153 := Lib.hid (kept_set (kept_trans KB53.out (kept_trans Kk142.out Kk148.out)) hW144 HG149.out)
          have HL154 : Hid (LiesQ W144 (Par w V0.heap.size (w73.heap.size :: (w22.heap.size :: [])) P) J25.u.kids _) := par_set (par_grow HL54.out (kept_trans Kk142.out Kk148.out) (List.forall_mem_cons.2 ⟨(Or.inr (Nat.le_trans (Below.size Kk142.out) (Nat.le_refl w73.heap.size))), (List.forall_mem_cons.2 ⟨(Or.inl (List.mem_cons_self ..)), (fun _ h => nomatch h)⟩)⟩)) hW144 (List.mem_cons_self ..) (by have := HG149.out; have := Z0.out; omega)
          have HL155 : Hid (LiesQ W144 (Par w V0.heap.size (w73.heap.size :: (w22.heap.size :: [])) P) J25.v.kids _) := par_set (par_grow HL55.out (kept_trans Kk142.out Kk148.out) (List.forall_mem_cons.2 ⟨(Or.inr (Nat.le_trans (Below.size Kk142.out) (Nat.le_refl w73.heap.size))), (List.forall_mem_cons.2 ⟨(Or.inl (List.mem_cons_self ..)), (fun _ h => nomatch h)⟩)⟩)) hW144 (List.mem_cons_self ..) (by have := HG149.out; have := Z0.out; omega)
          have HL156 : Hid (LiesQ W144 (Par w V0.heap.size (w73.heap.size :: (w22.heap.size :: [])) P) J25.a.kids _) := par_set (par_grow HL56.out (kept_trans Kk142.out Kk148.out) (List.forall_mem_cons.2 ⟨(Or.inr (Nat.le_trans (Below.size Kk142.out) (Nat.le_refl w73.heap.size))), (List.forall_mem_cons.2 ⟨(Or.inl (List.mem_cons_self ..)), (fun _ h => nomatch h)⟩)⟩)) hW144 (List.mem_cons_self ..) (by have := HG149.out; have := Z0.out; omega)
          have HL157 : Hid (LiesQ W144 (Par w V0.heap.size (w73.heap.size :: (w22.heap.size :: [])) P) y.u.kids _) := par_set (par_grow Hhl80.out Kk148.out (List.forall_mem_cons.2 ⟨(Or.inr (Nat.le_refl w73.heap.size)), (List.forall_mem_cons.2 ⟨(Or.inl (List.mem_cons_self ..)), (fun _ h => nomatch h)⟩)⟩)) hW144 (List.mem_cons_self ..) (by have := HG149.out; have := Z0.out; omega)
          have HL158 : Hid (LiesQ W144 (Par w V0.heap.size (w73.heap.size :: (w22.heap.size :: [])) P) Tm.zero.kids _) := par_set (par_grow Hhl81.out Kk148.out (List.forall_mem_cons.2 ⟨(Or.inr (Nat.le_refl w73.heap.size)), (List.forall_mem_cons.2 ⟨(Or.inl (List.mem_cons_self ..)), (fun _ h => nomatch h)⟩)⟩)) hW144 (List.mem_cons_self ..) (by have := HG149.out; have := Z0.out; omega)
          have HL159 : Hid (LiesQ W144 (Par w V0.heap.size (w73.heap.size :: (w22.heap.size :: [])) P) z.v.kids _) := par_set (par_grow Hhl82.out Kk148.out (List.forall_mem_cons.2 ⟨(Or.inr (Nat.le_refl w73.heap.size)), (List.forall_mem_cons.2 ⟨(Or.inl (List.mem_cons_self ..)), (fun _ h => nomatch h)⟩)⟩)) hW144 (List.mem_cons_self ..) (by have := HG149.out; have := Z0.out; omega)
          have HL160 : Hid (LiesQ W144 (Par w V0.heap.size (w73.heap.size :: (w22.heap.size :: [])) P) p.u.kids _) := par_set (par_grow HL57.out (kept_trans Kk142.out Kk148.out) (List.forall_mem_cons.2 ⟨(Or.inr (Nat.le_trans (Below.size Kk142.out) (Nat.le_refl w73.heap.size))), (List.forall_mem_cons.2 ⟨(Or.inl (List.mem_cons_self ..)), (fun _ h => nomatch h)⟩)⟩)) hW144 (List.mem_cons_self ..) (by have := HG149.out; have := Z0.out; omega)
          have HL161 : Hid (LiesQ W144 (Par w V0.heap.size (w73.heap.size :: (w22.heap.size :: [])) P) p.v.kids _) := par_set (par_grow HL58.out (kept_trans Kk142.out Kk148.out) (List.forall_mem_cons.2 ⟨(Or.inr (Nat.le_trans (Below.size Kk142.out) (Nat.le_refl w73.heap.size))), (List.forall_mem_cons.2 ⟨(Or.inl (List.mem_cons_self ..)), (fun _ h => nomatch h)⟩)⟩)) hW144 (List.mem_cons_self ..) (by have := HG149.out; have := Z0.out; omega)
          have HL162 : Hid (LiesQ W144 (Par w V0.heap.size (w73.heap.size :: (w22.heap.size :: [])) P) p.a.kids _) := par_set (par_grow HL59.out (kept_trans Kk142.out Kk148.out) (List.forall_mem_cons.2 ⟨(Or.inr (Nat.le_trans (Below.size Kk142.out) (Nat.le_refl w73.heap.size))), (List.forall_mem_cons.2 ⟨(Or.inl (List.mem_cons_self ..)), (fun _ h => nomatch h)⟩)⟩)) hW144 (List.mem_cons_self ..) (by have := HG149.out; have := Z0.out; omega)
          have HL163 : Hid (LiesQ W144 (Par w V0.heap.size (w73.heap.size :: (w22.heap.size :: [])) P) q.u.kids _) := par_set (par_grow HL60.out (kept_trans Kk142.out Kk148.out) (List.forall_mem_cons.2 ⟨(Or.inr (Nat.le_trans (Below.size Kk142.out) (Nat.le_refl w73.heap.size))), (List.forall_mem_cons.2 ⟨(Or.inl (List.mem_cons_self ..)), (fun _ h => nomatch h)⟩)⟩)) hW144 (List.mem_cons_self ..) (by have := HG149.out; have := Z0.out; omega)
          have HL164 : Hid (LiesQ W144 (Par w V0.heap.size (w73.heap.size :: (w22.heap.size :: [])) P) q.v.kids _) := par_set (par_grow HL61.out (kept_trans Kk142.out Kk148.out) (List.forall_mem_cons.2 ⟨(Or.inr (Nat.le_trans (Below.size Kk142.out) (Nat.le_refl w73.heap.size))), (List.forall_mem_cons.2 ⟨(Or.inl (List.mem_cons_self ..)), (fun _ h => nomatch h)⟩)⟩)) hW144 (List.mem_cons_self ..) (by have := HG149.out; have := Z0.out; omega)
          have HL165 : Hid (LiesQ W144 (Par w V0.heap.size (w73.heap.size :: (w22.heap.size :: [])) P) q.a.kids _) := par_set (par_grow HL62.out (kept_trans Kk142.out Kk148.out) (List.forall_mem_cons.2 ⟨(Or.inr (Nat.le_trans (Below.size Kk142.out) (Nat.le_refl w73.heap.size))), (List.forall_mem_cons.2 ⟨(Or.inl (List.mem_cons_self ..)), (fun _ h => nomatch h)⟩)⟩)) hW144 (List.mem_cons_self ..) (by have := HG149.out; have := Z0.out; omega)
          have HL166 : Hid (LiesQ W144 (Par w V0.heap.size (w73.heap.size :: (w22.heap.size :: [])) P) y.u.kids _) := par_set (par_grow HL63.out (kept_trans Kk142.out Kk148.out) (List.forall_mem_cons.2 ⟨(Or.inr (Nat.le_trans (Below.size Kk142.out) (Nat.le_refl w73.heap.size))), (List.forall_mem_cons.2 ⟨(Or.inl (List.mem_cons_self ..)), (fun _ h => nomatch h)⟩)⟩)) hW144 (List.mem_cons_self ..) (by have := HG149.out; have := Z0.out; omega)
          have HL167 : Hid (LiesQ W144 (Par w V0.heap.size (w73.heap.size :: (w22.heap.size :: [])) P) y.v.kids _) := par_set (par_grow HL64.out (kept_trans Kk142.out Kk148.out) (List.forall_mem_cons.2 ⟨(Or.inr (Nat.le_trans (Below.size Kk142.out) (Nat.le_refl w73.heap.size))), (List.forall_mem_cons.2 ⟨(Or.inl (List.mem_cons_self ..)), (fun _ h => nomatch h)⟩)⟩)) hW144 (List.mem_cons_self ..) (by have := HG149.out; have := Z0.out; omega)
          have HL168 : Hid (LiesQ W144 (Par w V0.heap.size (w73.heap.size :: (w22.heap.size :: [])) P) y.a.kids _) := par_set (par_grow HL65.out (kept_trans Kk142.out Kk148.out) (List.forall_mem_cons.2 ⟨(Or.inr (Nat.le_trans (Below.size Kk142.out) (Nat.le_refl w73.heap.size))), (List.forall_mem_cons.2 ⟨(Or.inl (List.mem_cons_self ..)), (fun _ h => nomatch h)⟩)⟩)) hW144 (List.mem_cons_self ..) (by have := HG149.out; have := Z0.out; omega)
          have HL169 : Hid (LiesQ W144 (Par w V0.heap.size (w73.heap.size :: (w22.heap.size :: [])) P) z.u.kids _) := par_set (par_grow HL66.out (kept_trans Kk142.out Kk148.out) (List.forall_mem_cons.2 ⟨(Or.inr (Nat.le_trans (Below.size Kk142.out) (Nat.le_refl w73.heap.size))), (List.forall_mem_cons.2 ⟨(Or.inl (List.mem_cons_self ..)), (fun _ h => nomatch h)⟩)⟩)) hW144 (List.mem_cons_self ..) (by have := HG149.out; have := Z0.out; omega)
          have HL170 : Hid (LiesQ W144 (Par w V0.heap.size (w73.heap.size :: (w22.heap.size :: [])) P) z.v.kids _) := par_set (par_grow HL67.out (kept_trans Kk142.out Kk148.out) (List.forall_mem_cons.2 ⟨(Or.inr (Nat.le_trans (Below.size Kk142.out) (Nat.le_refl w73.heap.size))), (List.forall_mem_cons.2 ⟨(Or.inl (List.mem_cons_self ..)), (fun _ h => nomatch h)⟩)⟩)) hW144 (List.mem_cons_self ..) (by have := HG149.out; have := Z0.out; omega)
          have HL171 : Hid (LiesQ W144 (Par w V0.heap.size (w73.heap.size :: (w22.heap.size :: [])) P) z.a.kids _) := par_set (par_grow HL68.out (kept_trans Kk142.out Kk148.out) (List.forall_mem_cons.2 ⟨(Or.inr (Nat.le_trans (Below.size Kk142.out) (Nat.le_refl w73.heap.size))), (List.forall_mem_cons.2 ⟨(Or.inl (List.mem_cons_self ..)), (fun _ h => nomatch h)⟩)⟩)) hW144 (List.mem_cons_self ..) (by have := HG149.out; have := Z0.out; omega)
          have XL172 := Lib.hid (xlt_set XL151.out hW144)
          have HX173 := Lib.hid (blk_other (blk_at HX70.out (kept_trans Kk142.out Kk148.out)) hW144 (by have := AP150.out; omega))
          have HX174 := Lib.hid (blk_same Hx145.out hW144)
          (try clear ld71)
          (try clear ld72)
          clear hW144
          have ld175 := partN_cell (r := V0.heap.size) HX173.out trivial 0 (.bool J25.eq) rfl
          have ld176 := partN_cell (r := V0.heap.size) HX173.out trivial 16 (.int .i64 J25.i) rfl
          have ld177 := partN_cell (r := V0.heap.size) HX174.out trivial 16 (.int .i64 y.i) rfl
          have kvV0 : SeesN V0 V0.heap.size W144 := seesN_kept _ KB153.out
          have kvW144 : SeesN W144 V0.heap.size W144 := seesN_kept _ (kept_refl _)
          go_wp2_with fail
          clear kvV0
          clear kvW144
          refine (wakes15_any _).mono ?_
          rintro e w178 ⟨rfl, k179⟩
          have Kk180 := Lib.hid k179
          clear k179
          have kvV0 : SeesN V0 V0.heap.size w178 := seesN_kept _ (kept_trans KB153.out Kk180.out)
          have kvW144 : SeesN W144 V0.heap.size w178 := seesN_kept _ Kk180.out
          go_wp2
          go_ret
          exact ⟨rfl, (kept_trans KB152.out Kk180.out)⟩
      | true =>
        obtain rfl := hi33 rfl
        (try clear hf32 hi33)
        obtain ⟨a181, c182, S183, rfl, -⟩ := hl29.out
        obtain ⟨a184, c185, S186, rfl, -⟩ := hl30.out
        obtain ⟨a187, c188, S189, rfl, -⟩ := hl31.out
        have Kk190 := Lib.hid k23
        clear k23
        have Hhl29 : Hid (LiesQ w22 (Par w V0.heap.size [] P) p.u.kids _) := par_give hl29 (Below.size (kept_trans Kk16.out Kk21.out)) (xlt_nil _)
        have Hhl30 : Hid (LiesQ w22 (Par w V0.heap.size [] P) Tm.zero.kids _) := par_give hl30 (Below.size (kept_trans Kk16.out Kk21.out)) (xlt_nil _)
        have Hhl31 : Hid (LiesQ w22 (Par w V0.heap.size [] P) q.v.kids _) := par_give hl31 (Below.size (kept_trans Kk16.out Kk21.out)) (xlt_nil _)
        clear hl29 hl30 hl31
        have kvV0 : SeesN V0 V0.heap.size w22 := seesN_kept _ (kept_trans Kk16.out (kept_trans Kk21.out Kk190.out))
        go_wp2_with (refine stop_store 34 (.tmp 7) (.tmp 23) rfl ?_)
        intro _
        refine wpList_store_part_n (by rfl) 34 (.tmp 7) (.tmp 23) rfl (w22.heap.size) 0 #[.bool false, .int .i64 p.u.k, .int .i64 p.u.i, .int .i64 p.u.j, .int .i64 p.u.n, (.slice a181 p.u.kids.length c182), .int .i64 Tm.zero.k, .int .i64 Tm.zero.i, .int .i64 Tm.zero.j, .int .i64 Tm.zero.n, (.slice a184 Tm.zero.kids.length c185), .int .i64 q.v.k, .int .i64 q.v.i, .int .i64 q.v.j, .int .i64 q.v.n, (.slice a187 q.v.kids.length c188), .int .i64 p.i] (by rfl) (by rfl) 34 (by kernel_rfl) (row_ok rfl) ?_
        intro W191 hW191
        clear kvV0
        obtain ⟨k194, x193, z195⟩ := alloc1 hW191
        have Kk196 := Lib.hid k194
        clear k194
        have Hx193 := Lib.hid x193
        have Hz195 := Lib.hid z195
        clear x193 z195 hW191
        have HG197 : Hid (V0.heap.size ≤ w22.heap.size) := (Below.size (kept_trans Kk16.out (kept_trans Kk21.out Kk190.out)))
        have XL198 : Hid (XLt (w22.heap.size :: []) W191) := (xlt_more (xlt_nil _) Kk196.out (by have := Hz195.out; omega))
        refine ⟨_, #[.bool false, .int .i64 p.u.k, .int .i64 p.u.i, .int .i64 p.u.j, .int .i64 p.u.n, (.slice a181 p.u.kids.length c182), .int .i64 Tm.zero.k, .int .i64 Tm.zero.i, .int .i64 Tm.zero.j, .int .i64 Tm.zero.n, (.slice a184 Tm.zero.kids.length c185), .int .i64 q.v.k, .int .i64 q.v.i, .int .i64 q.v.j, .int .i64 q.v.n, (.slice a187 q.v.kids.length c188), .int .i64 p.i], Hx193.out, rfl, Nat.le_of_ble_eq_true rfl, ?_⟩
        intro W192 hW192
        have KB199 := Lib.hid (kept_set (kept_trans Kk3.out (kept_trans Kk16.out (kept_trans Kk21.out (kept_trans Kk190.out Kk196.out)))) hW192 (by have := HG197.out; have := Z0.out; omega))
        have KB200 := Lib.hid (kept_set (kept_trans Kk16.out (kept_trans Kk21.out (kept_trans Kk190.out Kk196.out))) hW192 HG197.out)
        have HL201 : Hid (LiesQ W192 (Par w V0.heap.size (w22.heap.size :: []) P) p.u.kids _) := par_set (par_grow Hhl29.out Kk196.out (List.forall_mem_cons.2 ⟨(Or.inr (Nat.le_refl w22.heap.size)), (fun _ h => nomatch h)⟩)) hW192 (List.mem_cons_self ..) (by have := HG197.out; have := Z0.out; omega)
        have HL202 : Hid (LiesQ W192 (Par w V0.heap.size (w22.heap.size :: []) P) Tm.zero.kids _) := par_set (par_grow Hhl30.out Kk196.out (List.forall_mem_cons.2 ⟨(Or.inr (Nat.le_refl w22.heap.size)), (fun _ h => nomatch h)⟩)) hW192 (List.mem_cons_self ..) (by have := HG197.out; have := Z0.out; omega)
        have HL203 : Hid (LiesQ W192 (Par w V0.heap.size (w22.heap.size :: []) P) q.v.kids _) := par_set (par_grow Hhl31.out Kk196.out (List.forall_mem_cons.2 ⟨(Or.inr (Nat.le_refl w22.heap.size)), (fun _ h => nomatch h)⟩)) hW192 (List.mem_cons_self ..) (by have := HG197.out; have := Z0.out; omega)
        have HL204 : Hid (LiesQ W192 (Par w V0.heap.size (w22.heap.size :: []) P) p.u.kids _) := par_set (par_grow HLpu.out (kept_trans Kk16.out (kept_trans Kk21.out (kept_trans Kk190.out Kk196.out))) (List.forall_mem_cons.2 ⟨(Or.inr (Nat.le_trans (Below.size (kept_trans Kk16.out (kept_trans Kk21.out Kk190.out))) (Nat.le_refl w22.heap.size))), (fun _ h => nomatch h)⟩)) hW192 (List.mem_cons_self ..) (by have := HG197.out; have := Z0.out; omega)
        have HL205 : Hid (LiesQ W192 (Par w V0.heap.size (w22.heap.size :: []) P) p.v.kids _) := par_set (par_grow HLpv.out (kept_trans Kk16.out (kept_trans Kk21.out (kept_trans Kk190.out Kk196.out))) (List.forall_mem_cons.2 ⟨(Or.inr (Nat.le_trans (Below.size (kept_trans Kk16.out (kept_trans Kk21.out Kk190.out))) (Nat.le_refl w22.heap.size))), (fun _ h => nomatch h)⟩)) hW192 (List.mem_cons_self ..) (by have := HG197.out; have := Z0.out; omega)
        have HL206 : Hid (LiesQ W192 (Par w V0.heap.size (w22.heap.size :: []) P) p.a.kids _) := par_set (par_grow HLpx.out (kept_trans Kk16.out (kept_trans Kk21.out (kept_trans Kk190.out Kk196.out))) (List.forall_mem_cons.2 ⟨(Or.inr (Nat.le_trans (Below.size (kept_trans Kk16.out (kept_trans Kk21.out Kk190.out))) (Nat.le_refl w22.heap.size))), (fun _ h => nomatch h)⟩)) hW192 (List.mem_cons_self ..) (by have := HG197.out; have := Z0.out; omega)
        have HL207 : Hid (LiesQ W192 (Par w V0.heap.size (w22.heap.size :: []) P) q.u.kids _) := par_set (par_grow HLqu.out (kept_trans Kk16.out (kept_trans Kk21.out (kept_trans Kk190.out Kk196.out))) (List.forall_mem_cons.2 ⟨(Or.inr (Nat.le_trans (Below.size (kept_trans Kk16.out (kept_trans Kk21.out Kk190.out))) (Nat.le_refl w22.heap.size))), (fun _ h => nomatch h)⟩)) hW192 (List.mem_cons_self ..) (by have := HG197.out; have := Z0.out; omega)
        have HL208 : Hid (LiesQ W192 (Par w V0.heap.size (w22.heap.size :: []) P) q.v.kids _) := par_set (par_grow HLqv.out (kept_trans Kk16.out (kept_trans Kk21.out (kept_trans Kk190.out Kk196.out))) (List.forall_mem_cons.2 ⟨(Or.inr (Nat.le_trans (Below.size (kept_trans Kk16.out (kept_trans Kk21.out Kk190.out))) (Nat.le_refl w22.heap.size))), (fun _ h => nomatch h)⟩)) hW192 (List.mem_cons_self ..) (by have := HG197.out; have := Z0.out; omega)
        have HL209 : Hid (LiesQ W192 (Par w V0.heap.size (w22.heap.size :: []) P) q.a.kids _) := par_set (par_grow HLqx.out (kept_trans Kk16.out (kept_trans Kk21.out (kept_trans Kk190.out Kk196.out))) (List.forall_mem_cons.2 ⟨(Or.inr (Nat.le_trans (Below.size (kept_trans Kk16.out (kept_trans Kk21.out Kk190.out))) (Nat.le_refl w22.heap.size))), (fun _ h => nomatch h)⟩)) hW192 (List.mem_cons_self ..) (by have := HG197.out; have := Z0.out; omega)
        have HL210 : Hid (LiesQ W192 (Par w V0.heap.size (w22.heap.size :: []) P) y.u.kids _) := par_set (par_grow HLyu.out (kept_trans Kk16.out (kept_trans Kk21.out (kept_trans Kk190.out Kk196.out))) (List.forall_mem_cons.2 ⟨(Or.inr (Nat.le_trans (Below.size (kept_trans Kk16.out (kept_trans Kk21.out Kk190.out))) (Nat.le_refl w22.heap.size))), (fun _ h => nomatch h)⟩)) hW192 (List.mem_cons_self ..) (by have := HG197.out; have := Z0.out; omega)
        have HL211 : Hid (LiesQ W192 (Par w V0.heap.size (w22.heap.size :: []) P) y.v.kids _) := par_set (par_grow HLyv.out (kept_trans Kk16.out (kept_trans Kk21.out (kept_trans Kk190.out Kk196.out))) (List.forall_mem_cons.2 ⟨(Or.inr (Nat.le_trans (Below.size (kept_trans Kk16.out (kept_trans Kk21.out Kk190.out))) (Nat.le_refl w22.heap.size))), (fun _ h => nomatch h)⟩)) hW192 (List.mem_cons_self ..) (by have := HG197.out; have := Z0.out; omega)
        have HL212 : Hid (LiesQ W192 (Par w V0.heap.size (w22.heap.size :: []) P) y.a.kids _) := par_set (par_grow HLyx.out (kept_trans Kk16.out (kept_trans Kk21.out (kept_trans Kk190.out Kk196.out))) (List.forall_mem_cons.2 ⟨(Or.inr (Nat.le_trans (Below.size (kept_trans Kk16.out (kept_trans Kk21.out Kk190.out))) (Nat.le_refl w22.heap.size))), (fun _ h => nomatch h)⟩)) hW192 (List.mem_cons_self ..) (by have := HG197.out; have := Z0.out; omega)
        have HL213 : Hid (LiesQ W192 (Par w V0.heap.size (w22.heap.size :: []) P) z.u.kids _) := par_set (par_grow HLzu.out (kept_trans Kk16.out (kept_trans Kk21.out (kept_trans Kk190.out Kk196.out))) (List.forall_mem_cons.2 ⟨(Or.inr (Nat.le_trans (Below.size (kept_trans Kk16.out (kept_trans Kk21.out Kk190.out))) (Nat.le_refl w22.heap.size))), (fun _ h => nomatch h)⟩)) hW192 (List.mem_cons_self ..) (by have := HG197.out; have := Z0.out; omega)
        have HL214 : Hid (LiesQ W192 (Par w V0.heap.size (w22.heap.size :: []) P) z.v.kids _) := par_set (par_grow HLzv.out (kept_trans Kk16.out (kept_trans Kk21.out (kept_trans Kk190.out Kk196.out))) (List.forall_mem_cons.2 ⟨(Or.inr (Nat.le_trans (Below.size (kept_trans Kk16.out (kept_trans Kk21.out Kk190.out))) (Nat.le_refl w22.heap.size))), (fun _ h => nomatch h)⟩)) hW192 (List.mem_cons_self ..) (by have := HG197.out; have := Z0.out; omega)
        have HL215 : Hid (LiesQ W192 (Par w V0.heap.size (w22.heap.size :: []) P) z.a.kids _) := par_set (par_grow HLzx.out (kept_trans Kk16.out (kept_trans Kk21.out (kept_trans Kk190.out Kk196.out))) (List.forall_mem_cons.2 ⟨(Or.inr (Nat.le_trans (Below.size (kept_trans Kk16.out (kept_trans Kk21.out Kk190.out))) (Nat.le_refl w22.heap.size))), (fun _ h => nomatch h)⟩)) hW192 (List.mem_cons_self ..) (by have := HG197.out; have := Z0.out; omega)
        have XL216 := Lib.hid (xlt_set XL198.out hW192)
        have HX217 := Lib.hid (blk_same Hx193.out hW192)
        clear hW192
        have ld218 := partN_cell (r := V0.heap.size) HX217.out trivial 0 (.bool false) rfl
        have ld219 := partN_cell (r := V0.heap.size) HX217.out trivial 16 (.int .i64 p.i) rfl
        have kvV0 : SeesN V0 V0.heap.size W192 := seesN_kept _ KB200.out
        have kvW192 : SeesN W192 V0.heap.size W192 := seesN_kept _ (kept_refl _)
        go_wp2_with fail
        clear kvV0
        clear kvW192
        refine (of12two_any c y z (Par w V0.heap.size (w22.heap.size :: []) P) W192 ((.slice ac c.length cc)) bmo omo capmo _ _ _ ((.slice ayu y.u.kids.length cyu)) ((.slice ayv y.v.kids.length cyv)) ((.slice ayx y.a.kids.length cyx)) ((.slice azu z.u.kids.length czu)) ((.slice azv z.v.kids.length czv)) ((.slice azx z.a.kids.length czx)) (HEc.out.keep KB199.out) Gy.out Gz.out HL210.out HL211.out HL212.out HL213.out HL214.out HL215.out (blk_at HBmo.out KB200.out) HSmo0.out HSmo1.out (Nat.le_trans HIhg20.out.1.1 (by decide)) (Nat.le_trans (HIhg20.out.2.2 _ (List.mem_cons_self ..)).1 (by decide)) (Nat.le_trans (HIhg20.out.2.2 _ (List.mem_cons_of_mem _ (List.mem_cons_self ..))).2.1 (by decide))).mono ?_
        rintro e w220 ⟨rb222, J223, s224, s225, s226, rfl, hf230, ⟨hl227, hl228, hl229⟩, hi231, k221⟩
        cases rb222 with
        | false =>
          have Hhf230 := Lib.hid hf230
          clear hf230
          (try clear hi231)
          obtain ⟨a232, c233, S234, rfl, -⟩ := hl227.out
          obtain ⟨a235, c236, S237, rfl, -⟩ := hl228.out
          obtain ⟨a238, c239, S240, rfl, -⟩ := hl229.out
          have Kk241 := Lib.hid k221
          clear k221
          have Hhl227 : Hid (LiesQ w220 (Par w V0.heap.size (w22.heap.size :: []) P) J223.u.kids _) := par_give hl227 (Below.size KB200.out) XL216.out
          have Hhl228 : Hid (LiesQ w220 (Par w V0.heap.size (w22.heap.size :: []) P) J223.v.kids _) := par_give hl228 (Below.size KB200.out) XL216.out
          have Hhl229 : Hid (LiesQ w220 (Par w V0.heap.size (w22.heap.size :: []) P) J223.a.kids _) := par_give hl229 (Below.size KB200.out) XL216.out
          clear hl227 hl228 hl229
          have kvV0 : SeesN V0 V0.heap.size w220 := seesN_kept _ (kept_trans KB200.out Kk241.out)
          have kvW192 : SeesN W192 V0.heap.size w220 := seesN_kept _ Kk241.out
          go_wp2_with (refine stop_store 34 (.tmp 9) (.tmp 29) rfl ?_)
          intro _
          refine wpList_store_part_n (by rfl) 34 (.tmp 9) (.tmp 29) rfl (w220.heap.size) 0 #[.bool J223.eq, .int .i64 J223.u.k, .int .i64 J223.u.i, .int .i64 J223.u.j, .int .i64 J223.u.n, (.slice a232 J223.u.kids.length c233), .int .i64 J223.v.k, .int .i64 J223.v.i, .int .i64 J223.v.j, .int .i64 J223.v.n, (.slice a235 J223.v.kids.length c236), .int .i64 J223.a.k, .int .i64 J223.a.i, .int .i64 J223.a.j, .int .i64 J223.a.n, (.slice a238 J223.a.kids.length c239), .int .i64 J223.i] (by rfl) (by rfl) 34 (by kernel_rfl) (row_ok rfl) ?_
          intro W242 hW242
          clear kvV0
          clear kvW192
          obtain ⟨k245, x244, z246⟩ := alloc1 hW242
          have Kk247 := Lib.hid k245
          clear k245
          have Hx244 := Lib.hid x244
          have Hz246 := Lib.hid z246
          clear x244 z246 hW242
          have HG248 : Hid (V0.heap.size ≤ w220.heap.size) := (Below.size (kept_trans KB200.out Kk241.out))
          have AP249 : Hid (w22.heap.size < w220.heap.size) := block_lt (blk_at HX217.out Kk241.out)
          have XL250 : Hid (XLt (w220.heap.size :: (w22.heap.size :: [])) W242) := (xlt_more (xlt_later XL216.out Kk241.out) Kk247.out (by have := Hz246.out; omega))
          refine ⟨_, #[.bool J223.eq, .int .i64 J223.u.k, .int .i64 J223.u.i, .int .i64 J223.u.j, .int .i64 J223.u.n, (.slice a232 J223.u.kids.length c233), .int .i64 J223.v.k, .int .i64 J223.v.i, .int .i64 J223.v.j, .int .i64 J223.v.n, (.slice a235 J223.v.kids.length c236), .int .i64 J223.a.k, .int .i64 J223.a.i, .int .i64 J223.a.j, .int .i64 J223.a.n, (.slice a238 J223.a.kids.length c239), .int .i64 J223.i], Hx244.out, rfl, Nat.le_of_ble_eq_true rfl, ?_⟩
          intro W243 hW243
          have KB251 := Lib.hid (kept_set (kept_trans KB199.out (kept_trans Kk241.out Kk247.out)) hW243 (by have := HG248.out; have := Z0.out; omega))
          have KB252 := Lib.hid (kept_set (kept_trans KB200.out (kept_trans Kk241.out Kk247.out)) hW243 HG248.out)
          have HL253 : Hid (LiesQ W243 (Par w V0.heap.size (w220.heap.size :: (w22.heap.size :: [])) P) p.u.kids _) := par_set (par_grow HL201.out (kept_trans Kk241.out Kk247.out) (List.forall_mem_cons.2 ⟨(Or.inr (Nat.le_trans (Below.size Kk241.out) (Nat.le_refl w220.heap.size))), (List.forall_mem_cons.2 ⟨(Or.inl (List.mem_cons_self ..)), (fun _ h => nomatch h)⟩)⟩)) hW243 (List.mem_cons_self ..) (by have := HG248.out; have := Z0.out; omega)
          have HL254 : Hid (LiesQ W243 (Par w V0.heap.size (w220.heap.size :: (w22.heap.size :: [])) P) Tm.zero.kids _) := par_set (par_grow HL202.out (kept_trans Kk241.out Kk247.out) (List.forall_mem_cons.2 ⟨(Or.inr (Nat.le_trans (Below.size Kk241.out) (Nat.le_refl w220.heap.size))), (List.forall_mem_cons.2 ⟨(Or.inl (List.mem_cons_self ..)), (fun _ h => nomatch h)⟩)⟩)) hW243 (List.mem_cons_self ..) (by have := HG248.out; have := Z0.out; omega)
          have HL255 : Hid (LiesQ W243 (Par w V0.heap.size (w220.heap.size :: (w22.heap.size :: [])) P) q.v.kids _) := par_set (par_grow HL203.out (kept_trans Kk241.out Kk247.out) (List.forall_mem_cons.2 ⟨(Or.inr (Nat.le_trans (Below.size Kk241.out) (Nat.le_refl w220.heap.size))), (List.forall_mem_cons.2 ⟨(Or.inl (List.mem_cons_self ..)), (fun _ h => nomatch h)⟩)⟩)) hW243 (List.mem_cons_self ..) (by have := HG248.out; have := Z0.out; omega)
          have HL256 : Hid (LiesQ W243 (Par w V0.heap.size (w220.heap.size :: (w22.heap.size :: [])) P) J223.u.kids _) := par_set (par_grow Hhl227.out Kk247.out (List.forall_mem_cons.2 ⟨(Or.inr (Nat.le_refl w220.heap.size)), (List.forall_mem_cons.2 ⟨(Or.inl (List.mem_cons_self ..)), (fun _ h => nomatch h)⟩)⟩)) hW243 (List.mem_cons_self ..) (by have := HG248.out; have := Z0.out; omega)
          have HL257 : Hid (LiesQ W243 (Par w V0.heap.size (w220.heap.size :: (w22.heap.size :: [])) P) J223.v.kids _) := par_set (par_grow Hhl228.out Kk247.out (List.forall_mem_cons.2 ⟨(Or.inr (Nat.le_refl w220.heap.size)), (List.forall_mem_cons.2 ⟨(Or.inl (List.mem_cons_self ..)), (fun _ h => nomatch h)⟩)⟩)) hW243 (List.mem_cons_self ..) (by have := HG248.out; have := Z0.out; omega)
          have HL258 : Hid (LiesQ W243 (Par w V0.heap.size (w220.heap.size :: (w22.heap.size :: [])) P) J223.a.kids _) := par_set (par_grow Hhl229.out Kk247.out (List.forall_mem_cons.2 ⟨(Or.inr (Nat.le_refl w220.heap.size)), (List.forall_mem_cons.2 ⟨(Or.inl (List.mem_cons_self ..)), (fun _ h => nomatch h)⟩)⟩)) hW243 (List.mem_cons_self ..) (by have := HG248.out; have := Z0.out; omega)
          have HL259 : Hid (LiesQ W243 (Par w V0.heap.size (w220.heap.size :: (w22.heap.size :: [])) P) p.u.kids _) := par_set (par_grow HL204.out (kept_trans Kk241.out Kk247.out) (List.forall_mem_cons.2 ⟨(Or.inr (Nat.le_trans (Below.size Kk241.out) (Nat.le_refl w220.heap.size))), (List.forall_mem_cons.2 ⟨(Or.inl (List.mem_cons_self ..)), (fun _ h => nomatch h)⟩)⟩)) hW243 (List.mem_cons_self ..) (by have := HG248.out; have := Z0.out; omega)
          have HL260 : Hid (LiesQ W243 (Par w V0.heap.size (w220.heap.size :: (w22.heap.size :: [])) P) p.v.kids _) := par_set (par_grow HL205.out (kept_trans Kk241.out Kk247.out) (List.forall_mem_cons.2 ⟨(Or.inr (Nat.le_trans (Below.size Kk241.out) (Nat.le_refl w220.heap.size))), (List.forall_mem_cons.2 ⟨(Or.inl (List.mem_cons_self ..)), (fun _ h => nomatch h)⟩)⟩)) hW243 (List.mem_cons_self ..) (by have := HG248.out; have := Z0.out; omega)
          have HL261 : Hid (LiesQ W243 (Par w V0.heap.size (w220.heap.size :: (w22.heap.size :: [])) P) p.a.kids _) := par_set (par_grow HL206.out (kept_trans Kk241.out Kk247.out) (List.forall_mem_cons.2 ⟨(Or.inr (Nat.le_trans (Below.size Kk241.out) (Nat.le_refl w220.heap.size))), (List.forall_mem_cons.2 ⟨(Or.inl (List.mem_cons_self ..)), (fun _ h => nomatch h)⟩)⟩)) hW243 (List.mem_cons_self ..) (by have := HG248.out; have := Z0.out; omega)
          have HL262 : Hid (LiesQ W243 (Par w V0.heap.size (w220.heap.size :: (w22.heap.size :: [])) P) q.u.kids _) := par_set (par_grow HL207.out (kept_trans Kk241.out Kk247.out) (List.forall_mem_cons.2 ⟨(Or.inr (Nat.le_trans (Below.size Kk241.out) (Nat.le_refl w220.heap.size))), (List.forall_mem_cons.2 ⟨(Or.inl (List.mem_cons_self ..)), (fun _ h => nomatch h)⟩)⟩)) hW243 (List.mem_cons_self ..) (by have := HG248.out; have := Z0.out; omega)
          have HL263 : Hid (LiesQ W243 (Par w V0.heap.size (w220.heap.size :: (w22.heap.size :: [])) P) q.v.kids _) := par_set (par_grow HL208.out (kept_trans Kk241.out Kk247.out) (List.forall_mem_cons.2 ⟨(Or.inr (Nat.le_trans (Below.size Kk241.out) (Nat.le_refl w220.heap.size))), (List.forall_mem_cons.2 ⟨(Or.inl (List.mem_cons_self ..)), (fun _ h => nomatch h)⟩)⟩)) hW243 (List.mem_cons_self ..) (by have := HG248.out; have := Z0.out; omega)
          have HL264 : Hid (LiesQ W243 (Par w V0.heap.size (w220.heap.size :: (w22.heap.size :: [])) P) q.a.kids _) := par_set (par_grow HL209.out (kept_trans Kk241.out Kk247.out) (List.forall_mem_cons.2 ⟨(Or.inr (Nat.le_trans (Below.size Kk241.out) (Nat.le_refl w220.heap.size))), (List.forall_mem_cons.2 ⟨(Or.inl (List.mem_cons_self ..)), (fun _ h => nomatch h)⟩)⟩)) hW243 (List.mem_cons_self ..) (by have := HG248.out; have := Z0.out; omega)
          have HL265 : Hid (LiesQ W243 (Par w V0.heap.size (w220.heap.size :: (w22.heap.size :: [])) P) y.u.kids _) := par_set (par_grow HL210.out (kept_trans Kk241.out Kk247.out) (List.forall_mem_cons.2 ⟨(Or.inr (Nat.le_trans (Below.size Kk241.out) (Nat.le_refl w220.heap.size))), (List.forall_mem_cons.2 ⟨(Or.inl (List.mem_cons_self ..)), (fun _ h => nomatch h)⟩)⟩)) hW243 (List.mem_cons_self ..) (by have := HG248.out; have := Z0.out; omega)
          have HL266 : Hid (LiesQ W243 (Par w V0.heap.size (w220.heap.size :: (w22.heap.size :: [])) P) y.v.kids _) := par_set (par_grow HL211.out (kept_trans Kk241.out Kk247.out) (List.forall_mem_cons.2 ⟨(Or.inr (Nat.le_trans (Below.size Kk241.out) (Nat.le_refl w220.heap.size))), (List.forall_mem_cons.2 ⟨(Or.inl (List.mem_cons_self ..)), (fun _ h => nomatch h)⟩)⟩)) hW243 (List.mem_cons_self ..) (by have := HG248.out; have := Z0.out; omega)
          have HL267 : Hid (LiesQ W243 (Par w V0.heap.size (w220.heap.size :: (w22.heap.size :: [])) P) y.a.kids _) := par_set (par_grow HL212.out (kept_trans Kk241.out Kk247.out) (List.forall_mem_cons.2 ⟨(Or.inr (Nat.le_trans (Below.size Kk241.out) (Nat.le_refl w220.heap.size))), (List.forall_mem_cons.2 ⟨(Or.inl (List.mem_cons_self ..)), (fun _ h => nomatch h)⟩)⟩)) hW243 (List.mem_cons_self ..) (by have := HG248.out; have := Z0.out; omega)
          have HL268 : Hid (LiesQ W243 (Par w V0.heap.size (w220.heap.size :: (w22.heap.size :: [])) P) z.u.kids _) := par_set (par_grow HL213.out (kept_trans Kk241.out Kk247.out) (List.forall_mem_cons.2 ⟨(Or.inr (Nat.le_trans (Below.size Kk241.out) (Nat.le_refl w220.heap.size))), (List.forall_mem_cons.2 ⟨(Or.inl (List.mem_cons_self ..)), (fun _ h => nomatch h)⟩)⟩)) hW243 (List.mem_cons_self ..) (by have := HG248.out; have := Z0.out; omega)
          have HL269 : Hid (LiesQ W243 (Par w V0.heap.size (w220.heap.size :: (w22.heap.size :: [])) P) z.v.kids _) := par_set (par_grow HL214.out (kept_trans Kk241.out Kk247.out) (List.forall_mem_cons.2 ⟨(Or.inr (Nat.le_trans (Below.size Kk241.out) (Nat.le_refl w220.heap.size))), (List.forall_mem_cons.2 ⟨(Or.inl (List.mem_cons_self ..)), (fun _ h => nomatch h)⟩)⟩)) hW243 (List.mem_cons_self ..) (by have := HG248.out; have := Z0.out; omega)
          have HL270 : Hid (LiesQ W243 (Par w V0.heap.size (w220.heap.size :: (w22.heap.size :: [])) P) z.a.kids _) := par_set (par_grow HL215.out (kept_trans Kk241.out Kk247.out) (List.forall_mem_cons.2 ⟨(Or.inr (Nat.le_trans (Below.size Kk241.out) (Nat.le_refl w220.heap.size))), (List.forall_mem_cons.2 ⟨(Or.inl (List.mem_cons_self ..)), (fun _ h => nomatch h)⟩)⟩)) hW243 (List.mem_cons_self ..) (by have := HG248.out; have := Z0.out; omega)
          have XL271 := Lib.hid (xlt_set XL250.out hW243)
          have HX272 := Lib.hid (blk_other (blk_at HX217.out (kept_trans Kk241.out Kk247.out)) hW243 (by have := AP249.out; omega))
          have HX273 := Lib.hid (blk_same Hx244.out hW243)
          (try clear ld218)
          (try clear ld219)
          clear hW243
          have ld274 := partN_cell (r := V0.heap.size) HX272.out trivial 0 (.bool false) rfl
          have ld275 := partN_cell (r := V0.heap.size) HX272.out trivial 16 (.int .i64 p.i) rfl
          have ld276 := partN_cell (r := V0.heap.size) HX273.out trivial 16 (.int .i64 J223.i) rfl
          have kvV0 : SeesN V0 V0.heap.size W243 := seesN_kept _ KB252.out
          have kvW243 : SeesN W243 V0.heap.size W243 := seesN_kept _ (kept_refl _)
          go_wp2_with fail
          clear kvV0
          clear kvW243
          refine (wakes15_any _).mono ?_
          rintro e w277 ⟨rfl, k278⟩
          have Kk279 := Lib.hid k278
          clear k278
          have kvV0 : SeesN V0 V0.heap.size w277 := seesN_kept _ (kept_trans KB252.out Kk279.out)
          have kvW243 : SeesN W243 V0.heap.size w277 := seesN_kept _ Kk279.out
          go_wp2
          go_ret
          exact ⟨rfl, (kept_trans KB251.out Kk279.out)⟩
        | true =>
          obtain rfl := hi231 rfl
          (try clear hf230 hi231)
          obtain ⟨a280, c281, S282, rfl, -⟩ := hl227.out
          obtain ⟨a283, c284, S285, rfl, -⟩ := hl228.out
          obtain ⟨a286, c287, S288, rfl, -⟩ := hl229.out
          have Kk289 := Lib.hid k221
          clear k221
          have Hhl227 : Hid (LiesQ w220 (Par w V0.heap.size (w22.heap.size :: []) P) y.u.kids _) := par_give hl227 (Below.size KB200.out) XL216.out
          have Hhl228 : Hid (LiesQ w220 (Par w V0.heap.size (w22.heap.size :: []) P) Tm.zero.kids _) := par_give hl228 (Below.size KB200.out) XL216.out
          have Hhl229 : Hid (LiesQ w220 (Par w V0.heap.size (w22.heap.size :: []) P) z.v.kids _) := par_give hl229 (Below.size KB200.out) XL216.out
          clear hl227 hl228 hl229
          have kvV0 : SeesN V0 V0.heap.size w220 := seesN_kept _ (kept_trans KB200.out Kk289.out)
          have kvW192 : SeesN W192 V0.heap.size w220 := seesN_kept _ Kk289.out
          go_wp2_with (refine stop_store 34 (.tmp 9) (.tmp 29) rfl ?_)
          intro _
          refine wpList_store_part_n (by rfl) 34 (.tmp 9) (.tmp 29) rfl (w220.heap.size) 0 #[.bool false, .int .i64 y.u.k, .int .i64 y.u.i, .int .i64 y.u.j, .int .i64 y.u.n, (.slice a280 y.u.kids.length c281), .int .i64 Tm.zero.k, .int .i64 Tm.zero.i, .int .i64 Tm.zero.j, .int .i64 Tm.zero.n, (.slice a283 Tm.zero.kids.length c284), .int .i64 z.v.k, .int .i64 z.v.i, .int .i64 z.v.j, .int .i64 z.v.n, (.slice a286 z.v.kids.length c287), .int .i64 y.i] (by rfl) (by rfl) 34 (by kernel_rfl) (row_ok rfl) ?_
          intro W290 hW290
          clear kvV0
          clear kvW192
          obtain ⟨k293, x292, z294⟩ := alloc1 hW290
          have Kk295 := Lib.hid k293
          clear k293
          have Hx292 := Lib.hid x292
          have Hz294 := Lib.hid z294
          clear x292 z294 hW290
          have HG296 : Hid (V0.heap.size ≤ w220.heap.size) := (Below.size (kept_trans KB200.out Kk289.out))
          have AP297 : Hid (w22.heap.size < w220.heap.size) := block_lt (blk_at HX217.out Kk289.out)
          have XL298 : Hid (XLt (w220.heap.size :: (w22.heap.size :: [])) W290) := (xlt_more (xlt_later XL216.out Kk289.out) Kk295.out (by have := Hz294.out; omega))
          refine ⟨_, #[.bool false, .int .i64 y.u.k, .int .i64 y.u.i, .int .i64 y.u.j, .int .i64 y.u.n, (.slice a280 y.u.kids.length c281), .int .i64 Tm.zero.k, .int .i64 Tm.zero.i, .int .i64 Tm.zero.j, .int .i64 Tm.zero.n, (.slice a283 Tm.zero.kids.length c284), .int .i64 z.v.k, .int .i64 z.v.i, .int .i64 z.v.j, .int .i64 z.v.n, (.slice a286 z.v.kids.length c287), .int .i64 y.i], Hx292.out, rfl, Nat.le_of_ble_eq_true rfl, ?_⟩
          intro W291 hW291
          have KB299 := Lib.hid (kept_set (kept_trans KB199.out (kept_trans Kk289.out Kk295.out)) hW291 (by have := HG296.out; have := Z0.out; omega))
          have KB300 := Lib.hid (kept_set (kept_trans KB200.out (kept_trans Kk289.out Kk295.out)) hW291 HG296.out)
          have HL301 : Hid (LiesQ W291 (Par w V0.heap.size (w220.heap.size :: (w22.heap.size :: [])) P) p.u.kids _) := par_set (par_grow HL201.out (kept_trans Kk289.out Kk295.out) (List.forall_mem_cons.2 ⟨(Or.inr (Nat.le_trans (Below.size Kk289.out) (Nat.le_refl w220.heap.size))), (List.forall_mem_cons.2 ⟨(Or.inl (List.mem_cons_self ..)), (fun _ h => nomatch h)⟩)⟩)) hW291 (List.mem_cons_self ..) (by have := HG296.out; have := Z0.out; omega)
          have HL302 : Hid (LiesQ W291 (Par w V0.heap.size (w220.heap.size :: (w22.heap.size :: [])) P) Tm.zero.kids _) := par_set (par_grow HL202.out (kept_trans Kk289.out Kk295.out) (List.forall_mem_cons.2 ⟨(Or.inr (Nat.le_trans (Below.size Kk289.out) (Nat.le_refl w220.heap.size))), (List.forall_mem_cons.2 ⟨(Or.inl (List.mem_cons_self ..)), (fun _ h => nomatch h)⟩)⟩)) hW291 (List.mem_cons_self ..) (by have := HG296.out; have := Z0.out; omega)
          have HL303 : Hid (LiesQ W291 (Par w V0.heap.size (w220.heap.size :: (w22.heap.size :: [])) P) q.v.kids _) := par_set (par_grow HL203.out (kept_trans Kk289.out Kk295.out) (List.forall_mem_cons.2 ⟨(Or.inr (Nat.le_trans (Below.size Kk289.out) (Nat.le_refl w220.heap.size))), (List.forall_mem_cons.2 ⟨(Or.inl (List.mem_cons_self ..)), (fun _ h => nomatch h)⟩)⟩)) hW291 (List.mem_cons_self ..) (by have := HG296.out; have := Z0.out; omega)
          have HL304 : Hid (LiesQ W291 (Par w V0.heap.size (w220.heap.size :: (w22.heap.size :: [])) P) y.u.kids _) := par_set (par_grow Hhl227.out Kk295.out (List.forall_mem_cons.2 ⟨(Or.inr (Nat.le_refl w220.heap.size)), (List.forall_mem_cons.2 ⟨(Or.inl (List.mem_cons_self ..)), (fun _ h => nomatch h)⟩)⟩)) hW291 (List.mem_cons_self ..) (by have := HG296.out; have := Z0.out; omega)
          have HL305 : Hid (LiesQ W291 (Par w V0.heap.size (w220.heap.size :: (w22.heap.size :: [])) P) Tm.zero.kids _) := par_set (par_grow Hhl228.out Kk295.out (List.forall_mem_cons.2 ⟨(Or.inr (Nat.le_refl w220.heap.size)), (List.forall_mem_cons.2 ⟨(Or.inl (List.mem_cons_self ..)), (fun _ h => nomatch h)⟩)⟩)) hW291 (List.mem_cons_self ..) (by have := HG296.out; have := Z0.out; omega)
          have HL306 : Hid (LiesQ W291 (Par w V0.heap.size (w220.heap.size :: (w22.heap.size :: [])) P) z.v.kids _) := par_set (par_grow Hhl229.out Kk295.out (List.forall_mem_cons.2 ⟨(Or.inr (Nat.le_refl w220.heap.size)), (List.forall_mem_cons.2 ⟨(Or.inl (List.mem_cons_self ..)), (fun _ h => nomatch h)⟩)⟩)) hW291 (List.mem_cons_self ..) (by have := HG296.out; have := Z0.out; omega)
          have HL307 : Hid (LiesQ W291 (Par w V0.heap.size (w220.heap.size :: (w22.heap.size :: [])) P) p.u.kids _) := par_set (par_grow HL204.out (kept_trans Kk289.out Kk295.out) (List.forall_mem_cons.2 ⟨(Or.inr (Nat.le_trans (Below.size Kk289.out) (Nat.le_refl w220.heap.size))), (List.forall_mem_cons.2 ⟨(Or.inl (List.mem_cons_self ..)), (fun _ h => nomatch h)⟩)⟩)) hW291 (List.mem_cons_self ..) (by have := HG296.out; have := Z0.out; omega)
          have HL308 : Hid (LiesQ W291 (Par w V0.heap.size (w220.heap.size :: (w22.heap.size :: [])) P) p.v.kids _) := par_set (par_grow HL205.out (kept_trans Kk289.out Kk295.out) (List.forall_mem_cons.2 ⟨(Or.inr (Nat.le_trans (Below.size Kk289.out) (Nat.le_refl w220.heap.size))), (List.forall_mem_cons.2 ⟨(Or.inl (List.mem_cons_self ..)), (fun _ h => nomatch h)⟩)⟩)) hW291 (List.mem_cons_self ..) (by have := HG296.out; have := Z0.out; omega)
          have HL309 : Hid (LiesQ W291 (Par w V0.heap.size (w220.heap.size :: (w22.heap.size :: [])) P) p.a.kids _) := par_set (par_grow HL206.out (kept_trans Kk289.out Kk295.out) (List.forall_mem_cons.2 ⟨(Or.inr (Nat.le_trans (Below.size Kk289.out) (Nat.le_refl w220.heap.size))), (List.forall_mem_cons.2 ⟨(Or.inl (List.mem_cons_self ..)), (fun _ h => nomatch h)⟩)⟩)) hW291 (List.mem_cons_self ..) (by have := HG296.out; have := Z0.out; omega)
          have HL310 : Hid (LiesQ W291 (Par w V0.heap.size (w220.heap.size :: (w22.heap.size :: [])) P) q.u.kids _) := par_set (par_grow HL207.out (kept_trans Kk289.out Kk295.out) (List.forall_mem_cons.2 ⟨(Or.inr (Nat.le_trans (Below.size Kk289.out) (Nat.le_refl w220.heap.size))), (List.forall_mem_cons.2 ⟨(Or.inl (List.mem_cons_self ..)), (fun _ h => nomatch h)⟩)⟩)) hW291 (List.mem_cons_self ..) (by have := HG296.out; have := Z0.out; omega)
          have HL311 : Hid (LiesQ W291 (Par w V0.heap.size (w220.heap.size :: (w22.heap.size :: [])) P) q.v.kids _) := par_set (par_grow HL208.out (kept_trans Kk289.out Kk295.out) (List.forall_mem_cons.2 ⟨(Or.inr (Nat.le_trans (Below.size Kk289.out) (Nat.le_refl w220.heap.size))), (List.forall_mem_cons.2 ⟨(Or.inl (List.mem_cons_self ..)), (fun _ h => nomatch h)⟩)⟩)) hW291 (List.mem_cons_self ..) (by have := HG296.out; have := Z0.out; omega)
          have HL312 : Hid (LiesQ W291 (Par w V0.heap.size (w220.heap.size :: (w22.heap.size :: [])) P) q.a.kids _) := par_set (par_grow HL209.out (kept_trans Kk289.out Kk295.out) (List.forall_mem_cons.2 ⟨(Or.inr (Nat.le_trans (Below.size Kk289.out) (Nat.le_refl w220.heap.size))), (List.forall_mem_cons.2 ⟨(Or.inl (List.mem_cons_self ..)), (fun _ h => nomatch h)⟩)⟩)) hW291 (List.mem_cons_self ..) (by have := HG296.out; have := Z0.out; omega)
          have HL313 : Hid (LiesQ W291 (Par w V0.heap.size (w220.heap.size :: (w22.heap.size :: [])) P) y.u.kids _) := par_set (par_grow HL210.out (kept_trans Kk289.out Kk295.out) (List.forall_mem_cons.2 ⟨(Or.inr (Nat.le_trans (Below.size Kk289.out) (Nat.le_refl w220.heap.size))), (List.forall_mem_cons.2 ⟨(Or.inl (List.mem_cons_self ..)), (fun _ h => nomatch h)⟩)⟩)) hW291 (List.mem_cons_self ..) (by have := HG296.out; have := Z0.out; omega)
          have HL314 : Hid (LiesQ W291 (Par w V0.heap.size (w220.heap.size :: (w22.heap.size :: [])) P) y.v.kids _) := par_set (par_grow HL211.out (kept_trans Kk289.out Kk295.out) (List.forall_mem_cons.2 ⟨(Or.inr (Nat.le_trans (Below.size Kk289.out) (Nat.le_refl w220.heap.size))), (List.forall_mem_cons.2 ⟨(Or.inl (List.mem_cons_self ..)), (fun _ h => nomatch h)⟩)⟩)) hW291 (List.mem_cons_self ..) (by have := HG296.out; have := Z0.out; omega)
          have HL315 : Hid (LiesQ W291 (Par w V0.heap.size (w220.heap.size :: (w22.heap.size :: [])) P) y.a.kids _) := par_set (par_grow HL212.out (kept_trans Kk289.out Kk295.out) (List.forall_mem_cons.2 ⟨(Or.inr (Nat.le_trans (Below.size Kk289.out) (Nat.le_refl w220.heap.size))), (List.forall_mem_cons.2 ⟨(Or.inl (List.mem_cons_self ..)), (fun _ h => nomatch h)⟩)⟩)) hW291 (List.mem_cons_self ..) (by have := HG296.out; have := Z0.out; omega)
          have HL316 : Hid (LiesQ W291 (Par w V0.heap.size (w220.heap.size :: (w22.heap.size :: [])) P) z.u.kids _) := par_set (par_grow HL213.out (kept_trans Kk289.out Kk295.out) (List.forall_mem_cons.2 ⟨(Or.inr (Nat.le_trans (Below.size Kk289.out) (Nat.le_refl w220.heap.size))), (List.forall_mem_cons.2 ⟨(Or.inl (List.mem_cons_self ..)), (fun _ h => nomatch h)⟩)⟩)) hW291 (List.mem_cons_self ..) (by have := HG296.out; have := Z0.out; omega)
          have HL317 : Hid (LiesQ W291 (Par w V0.heap.size (w220.heap.size :: (w22.heap.size :: [])) P) z.v.kids _) := par_set (par_grow HL214.out (kept_trans Kk289.out Kk295.out) (List.forall_mem_cons.2 ⟨(Or.inr (Nat.le_trans (Below.size Kk289.out) (Nat.le_refl w220.heap.size))), (List.forall_mem_cons.2 ⟨(Or.inl (List.mem_cons_self ..)), (fun _ h => nomatch h)⟩)⟩)) hW291 (List.mem_cons_self ..) (by have := HG296.out; have := Z0.out; omega)
          have HL318 : Hid (LiesQ W291 (Par w V0.heap.size (w220.heap.size :: (w22.heap.size :: [])) P) z.a.kids _) := par_set (par_grow HL215.out (kept_trans Kk289.out Kk295.out) (List.forall_mem_cons.2 ⟨(Or.inr (Nat.le_trans (Below.size Kk289.out) (Nat.le_refl w220.heap.size))), (List.forall_mem_cons.2 ⟨(Or.inl (List.mem_cons_self ..)), (fun _ h => nomatch h)⟩)⟩)) hW291 (List.mem_cons_self ..) (by have := HG296.out; have := Z0.out; omega)
          have XL319 := Lib.hid (xlt_set XL298.out hW291)
          have HX320 := Lib.hid (blk_other (blk_at HX217.out (kept_trans Kk289.out Kk295.out)) hW291 (by have := AP297.out; omega))
          have HX321 := Lib.hid (blk_same Hx292.out hW291)
          (try clear ld218)
          (try clear ld219)
          clear hW291
          have ld322 := partN_cell (r := V0.heap.size) HX320.out trivial 0 (.bool false) rfl
          have ld323 := partN_cell (r := V0.heap.size) HX320.out trivial 16 (.int .i64 p.i) rfl
          have ld324 := partN_cell (r := V0.heap.size) HX321.out trivial 16 (.int .i64 y.i) rfl
          have kvV0 : SeesN V0 V0.heap.size W291 := seesN_kept _ KB300.out
          have kvW291 : SeesN W291 V0.heap.size W291 := seesN_kept _ (kept_refl _)
          go_wp2_with fail
          clear kvV0
          clear kvW291
          obtain ⟨W325, h326⟩ : ∃ x, World.drew W291 = x := ⟨_, rfl⟩
          have k327 : Kept W291 W325 := by rw [← h326]; exact kept_drew (kept_refl _)
          have Kk328 := Lib.hid k327
          clear k327
          refine wp_region_held_drew (S := SeesN W325 V0.heap.size) (by kernel_rfl) ?_ (fun hHeld => ?_)
          · (try dsimp only)
            rw [h326]
            exact seesN_kept _ (kept_refl _)
          rw [h326] at hHeld ⊢
          clear h326
          refine take_at 0 46 levels22r9_0 (v := ?_) (Or.inl ⟨by rfl, ?_⟩) ?_
          rotate_left 1
          · ((intro w hSw; (try dsimp only at hSw); unfold levels22r9_0; go_simp) <;> with_reducible rfl)
          (try simp only [Act.put, List.setIfInBounds_toArray, List.set_cons_zero, List.set_cons_succ])
          refine take_at 1 47 levels22r9_1 (v := ?_) (Or.inl ⟨by rfl, ?_⟩) ?_
          rotate_left 1
          · ((intro w hSw; (try dsimp only at hSw); have qV0 := seesN_of (kept_trans KB300.out Kk328.out) hSw; have qW291 := seesN_of Kk328.out hSw; unfold levels22r9_1; go_simp) <;> with_reducible rfl)
          (try simp only [Act.put, List.setIfInBounds_toArray, List.set_cons_zero, List.set_cons_succ])
          refine take_at 2 48 levels22r9_2 (v := ?_) (Or.inl ⟨by rfl, ?_⟩) ?_
          rotate_left 1
          · ((intro w hSw; (try dsimp only at hSw); unfold levels22r9_2; go_simp) <;> with_reducible rfl)
          (try simp only [Act.put, List.setIfInBounds_toArray, List.set_cons_zero, List.set_cons_succ])
          refine take_at 3 49 levels22r9_3 (v := ?_) (Or.inl ⟨by rfl, ?_⟩) ?_
          rotate_left 1
          · ((intro w hSw; (try dsimp only at hSw); unfold levels22r9_3; go_simp) <;> with_reducible rfl)
          (try simp only [Act.put, List.setIfInBounds_toArray, List.set_cons_zero, List.set_cons_succ])
          refine take_at 4 50 levels22r9_4 (v := ?_) (Or.inl ⟨by rfl, ?_⟩) ?_
          rotate_left 1
          · ((intro w hSw; (try dsimp only at hSw); unfold levels22r9_4; go_simp) <;> with_reducible rfl)
          (try simp only [Act.put, List.setIfInBounds_toArray, List.set_cons_zero, List.set_cons_succ])
          refine take_at 5 51 levels22r9_5 (v := ?_) (Or.inl ⟨by rfl, ?_⟩) ?_
          rotate_left 1
          · ((intro w hSw; (try dsimp only at hSw); have qV0 := seesN_of (kept_trans KB300.out Kk328.out) hSw; have qW291 := seesN_of Kk328.out hSw; unfold levels22r9_5; go_simp) <;> with_reducible rfl)
          (try simp only [Act.put, List.setIfInBounds_toArray, List.set_cons_zero, List.set_cons_succ])
          refine take_at 6 52 levels22r9_6 (v := ?_) (Or.inl ⟨by rfl, ?_⟩) ?_
          rotate_left 1
          · ((intro w hSw; (try dsimp only at hSw); unfold levels22r9_6; go_simp) <;> with_reducible rfl)
          (try simp only [Act.put, List.setIfInBounds_toArray, List.set_cons_zero, List.set_cons_succ])
          refine take_at 7 53 levels22r9_7 (v := ?_) (Or.inl ⟨by rfl, ?_⟩) ?_
          rotate_left 1
          · ((intro w hSw; (try dsimp only at hSw); unfold levels22r9_7; go_simp) <;> with_reducible rfl)
          (try simp only [Act.put, List.setIfInBounds_toArray, List.set_cons_zero, List.set_cons_succ])
          refine take_at 8 54 levels22r9_8 (v := ?_) (Or.inl ⟨by rfl, ?_⟩) ?_
          rotate_left 1
          · ((intro w hSw; (try dsimp only at hSw); unfold levels22r9_8; go_simp) <;> with_reducible rfl)
          (try simp only [Act.put, List.setIfInBounds_toArray, List.set_cons_zero, List.set_cons_succ])
          refine take_at 9 55 levels22r9_9 (v := ?_) (Or.inl ⟨by rfl, ?_⟩) ?_
          rotate_left 1
          · ((intro w hSw; (try dsimp only at hSw); have qV0 := seesN_of (kept_trans KB300.out Kk328.out) hSw; have qW291 := seesN_of Kk328.out hSw; unfold levels22r9_9; go_simp) <;> with_reducible rfl)
          (try simp only [Act.put, List.setIfInBounds_toArray, List.set_cons_zero, List.set_cons_succ])
          refine take_at 10 56 levels22r9_10 (v := ?_) (Or.inl ⟨by rfl, ?_⟩) ?_
          rotate_left 1
          · ((intro w hSw; (try dsimp only at hSw); unfold levels22r9_10; go_simp) <;> with_reducible rfl)
          (try simp only [Act.put, List.setIfInBounds_toArray, List.set_cons_zero, List.set_cons_succ])
          refine take_at 11 57 levels22r9_11 (v := ?_) (Or.inl ⟨by rfl, ?_⟩) ?_
          rotate_left 1
          · ((intro w hSw; (try dsimp only at hSw); unfold levels22r9_11; go_simp) <;> with_reducible rfl)
          (try simp only [Act.put, List.setIfInBounds_toArray, List.set_cons_zero, List.set_cons_succ])
          refine take_at 12 58 levels22r9_12 (v := ?_) (Or.inl ⟨by rfl, ?_⟩) ?_
          rotate_left 1
          · ((intro w hSw; (try dsimp only at hSw); unfold levels22r9_12; go_simp) <;> with_reducible rfl)
          (try simp only [Act.put, List.setIfInBounds_toArray, List.set_cons_zero, List.set_cons_succ])
          refine take_at 13 59 levels22r9_13 (v := ?_) (Or.inl ⟨by rfl, ?_⟩) ?_
          rotate_left 1
          · ((intro w hSw; (try dsimp only at hSw); have qV0 := seesN_of (kept_trans KB300.out Kk328.out) hSw; have qW291 := seesN_of Kk328.out hSw; unfold levels22r9_13; go_simp) <;> with_reducible rfl)
          (try simp only [Act.put, List.setIfInBounds_toArray, List.set_cons_zero, List.set_cons_succ])
          refine take_at 14 60 levels22r9_14 (v := ?_) (Or.inl ⟨by rfl, ?_⟩) ?_
          rotate_left 1
          · ((intro w hSw; (try dsimp only at hSw); unfold levels22r9_14; go_simp) <;> with_reducible rfl)
          (try simp only [Act.put, List.setIfInBounds_toArray, List.set_cons_zero, List.set_cons_succ])
          refine take_at 15 61 levels22r9_15 (v := ?_) (Or.inl ⟨by rfl, ?_⟩) ?_
          rotate_left 1
          · ((intro w hSw; (try dsimp only at hSw); unfold levels22r9_15; go_simp) <;> with_reducible rfl)
          (try simp only [Act.put, List.setIfInBounds_toArray, List.set_cons_zero, List.set_cons_succ])
          refine take_at 16 62 levels22r9_16 (v := ?_) (Or.inl ⟨by rfl, ?_⟩) ?_
          rotate_left 1
          · ((intro w hSw; (try dsimp only at hSw); unfold levels22r9_16; go_simp) <;> with_reducible rfl)
          (try simp only [Act.put, List.setIfInBounds_toArray, List.set_cons_zero, List.set_cons_succ])
          refine take_at 17 63 levels22r9_17 (v := ?_) (Or.inl ⟨by rfl, ?_⟩) ?_
          rotate_left 1
          · ((intro w hSw; (try dsimp only at hSw); unfold levels22r9_17; go_simp) <;> with_reducible rfl)
          (try simp only [Act.put, List.setIfInBounds_toArray, List.set_cons_zero, List.set_cons_succ])
          refine take_at 18 64 levels22r9_18 (yields_part (w22.heap.size) (1) 32 (.tmp 63) #[.int .i64 p.u.k, .int .i64 p.u.i, .int .i64 p.u.j, .int .i64 p.u.n, (.slice a181 p.u.kids.length c182)] du (fun _ h => seesN_blk HX320.out trivial (seesN_of Kk328.out h)) (by rfl) rfl (by rfl) (by rfl) hu1 (by cases du <;> first | rfl | exact hu2) size_term) ?_
          (try simp only [Act.put, List.setIfInBounds_toArray, List.set_cons_zero, List.set_cons_succ])
          refine take_at 19 65 levels22r9_19 (v := ?_) (Or.inl ⟨by rfl, ?_⟩) ?_
          rotate_left 1
          · ((intro w hSw; (try dsimp only at hSw); unfold levels22r9_19; go_simp) <;> with_reducible rfl)
          (try simp only [Act.put, List.setIfInBounds_toArray, List.set_cons_zero, List.set_cons_succ])
          refine take_at 20 66 levels22r9_20 (v := ?_) (Or.inl ⟨by rfl, ?_⟩) ?_
          rotate_left 1
          · ((intro w hSw; (try dsimp only at hSw); unfold levels22r9_20; go_simp) <;> with_reducible rfl)
          (try simp only [Act.put, List.setIfInBounds_toArray, List.set_cons_zero, List.set_cons_succ])
          refine take_at 21 67 levels22r9_21 (v := ?_) (Or.inl ⟨by rfl, ?_⟩) ?_
          rotate_left 1
          · ((intro w hSw; (try dsimp only at hSw); unfold levels22r9_21; go_simp) <;> with_reducible rfl)
          (try simp only [Act.put, List.setIfInBounds_toArray, List.set_cons_zero, List.set_cons_succ])
          refine take_at 22 68 levels22r9_22 (yields_part (bon) (oon + 1) 32 (.tmp 67) #[.int .i64 p.u.k, .int .i64 p.u.i, .int .i64 p.u.j, .int .i64 p.u.n, (.slice apu p.u.kids.length cpu)] du (fun _ h => seesN_blk HBon.out trivial (seesN_of (kept_trans KB300.out Kk328.out) h)) (by rfl) rfl (by rfl) (row_subW HSon0.out 1 5 (by decide)) hu1 (by cases du <;> first | rfl | exact hu2) size_term) ?_
          (try simp only [Act.put, List.setIfInBounds_toArray, List.set_cons_zero, List.set_cons_succ])
          refine wpAnyH_ready (rs := [23]) (by kernel_rfl) (by simp) ?_
          refine AllReadyH.cons (o := levels22r9_23) rfl (fun K hK => ?_) ?_
          · unfold levels22r9_23
            go_simp
            have hq331 := keepsame_any p.u p.u W325 ((.slice a181 p.u.kids.length c182)) ((.slice apu p.u.kids.length cpu)) (HL301.out.later Kk328.out).lies (HL307.out.later Kk328.out).lies
            rw [sameB_self p.u] at hq331
            refine hq331.mono ?_
            clear hq331
            rintro e w329 ⟨rfl, k330⟩
            have Kk332 := Lib.hid k330
            clear k330
            clear hHeld
            refine hK.out _ _ (seesN_kept _ Kk332.out) (fun hHeld => ?_)
            clear hK K
            (try simp only [Act.put, List.setIfInBounds_toArray, List.set_cons_zero, List.set_cons_succ])
            refine take_at 24 70 levels22r9_24 (v := ?_) (Or.inl ⟨by rfl, ?_⟩) ?_
            rotate_left 1
            · ((intro w hSw; (try dsimp only at hSw); unfold levels22r9_24; go_simp) <;> with_reducible rfl)
            (try simp only [Act.put, List.setIfInBounds_toArray, List.set_cons_zero, List.set_cons_succ])
            refine take_at 25 71 levels22r9_25 (v := ?_) (Or.inl ⟨by rfl, ?_⟩) ?_
            rotate_left 1
            · ((intro w hSw; (try dsimp only at hSw); unfold levels22r9_25; go_simp) <;> with_reducible rfl)
            (try simp only [Act.put, List.setIfInBounds_toArray, List.set_cons_zero, List.set_cons_succ])
            refine take_at 26 72 levels22r9_26 (v := ?_) (Or.inl ⟨by rfl, ?_⟩) ?_
            rotate_left 1
            · ((intro w hSw; (try dsimp only at hSw); unfold levels22r9_26; go_simp) <;> with_reducible rfl)
            (try simp only [Act.put, List.setIfInBounds_toArray, List.set_cons_zero, List.set_cons_succ])
            refine take_at 27 73 levels22r9_27 (yields_part (w22.heap.size) (11) 32 (.tmp 72) #[.int .i64 q.v.k, .int .i64 q.v.i, .int .i64 q.v.j, .int .i64 q.v.n, (.slice a187 q.v.kids.length c188)] du (fun _ h => seesN_blk HX320.out trivial (seesN_of Kk328.out h)) (by rfl) rfl (by rfl) (by rfl) hu1 (by cases du <;> first | rfl | exact hu2) size_term) ?_
            (try simp only [Act.put, List.setIfInBounds_toArray, List.set_cons_zero, List.set_cons_succ])
            refine take_at 28 74 levels22r9_28 (v := ?_) (Or.inl ⟨by rfl, ?_⟩) ?_
            rotate_left 1
            · ((intro w hSw; (try dsimp only at hSw); unfold levels22r9_28; go_simp) <;> with_reducible rfl)
            (try simp only [Act.put, List.setIfInBounds_toArray, List.set_cons_zero, List.set_cons_succ])
            refine take_at 29 75 levels22r9_29 (v := ?_) (Or.inl ⟨by rfl, ?_⟩) ?_
            rotate_left 1
            · ((intro w hSw; (try dsimp only at hSw); unfold levels22r9_29; go_simp) <;> with_reducible rfl)
            (try simp only [Act.put, List.setIfInBounds_toArray, List.set_cons_zero, List.set_cons_succ])
            refine take_at 30 76 levels22r9_30 (v := ?_) (Or.inl ⟨by rfl, ?_⟩) ?_
            rotate_left 1
            · ((intro w hSw; (try dsimp only at hSw); unfold levels22r9_30; go_simp) <;> with_reducible rfl)
            (try simp only [Act.put, List.setIfInBounds_toArray, List.set_cons_zero, List.set_cons_succ])
            refine take_at 31 77 levels22r9_31 (yields_part (bon) (oon + 17 + 6) 32 (.tmp 76) #[.int .i64 q.v.k, .int .i64 q.v.i, .int .i64 q.v.j, .int .i64 q.v.n, (.slice aqv q.v.kids.length cqv)] du (fun _ h => seesN_blk HBon.out trivial (seesN_of (kept_trans KB300.out Kk328.out) h)) (by rfl) rfl (by rfl) (row_subW HSon1.out 6 5 (by decide)) hu1 (by cases du <;> first | rfl | exact hu2) size_term) ?_
            (try simp only [Act.put, List.setIfInBounds_toArray, List.set_cons_zero, List.set_cons_succ])
            refine wpAnyH_ready (rs := [32]) (by kernel_rfl) (by simp) ?_
            refine AllReadyH.cons (o := levels22r9_32) rfl (fun K hK => ?_) ?_
            · unfold levels22r9_32
              go_simp
              have hq335 := keepsame_any q.v q.v w329 ((.slice a187 q.v.kids.length c188)) ((.slice aqv q.v.kids.length cqv)) (HL303.out.later (kept_trans Kk328.out Kk332.out)).lies (HL311.out.later (kept_trans Kk328.out Kk332.out)).lies
              rw [sameB_self q.v] at hq335
              refine hq335.mono ?_
              clear hq335
              rintro e w333 ⟨rfl, k334⟩
              have Kk336 := Lib.hid k334
              clear k334
              clear hHeld
              refine hK.out _ _ (seesN_kept _ (kept_trans Kk332.out Kk336.out)) (fun hHeld => ?_)
              clear hK K
              (try simp only [Act.put, List.setIfInBounds_toArray, List.set_cons_zero, List.set_cons_succ])
              refine take_at 33 79 levels22r9_33 (v := ?_) (Or.inl ⟨by rfl, ?_⟩) ?_
              rotate_left 1
              · ((intro w hSw; (try dsimp only at hSw); unfold levels22r9_33; go_simp) <;> with_reducible rfl)
              (try simp only [Act.put, List.setIfInBounds_toArray, List.set_cons_zero, List.set_cons_succ])
              refine take_at 34 80 levels22r9_34 (v := ?_) (Or.inl ⟨by rfl, ?_⟩) ?_
              rotate_left 1
              · ((intro w hSw; (try dsimp only at hSw); unfold levels22r9_34; go_simp) <;> with_reducible rfl)
              (try simp only [Act.put, List.setIfInBounds_toArray, List.set_cons_zero, List.set_cons_succ])
              refine take_at 35 81 levels22r9_35 (v := ?_) (Or.inl ⟨by rfl, ?_⟩) ?_
              rotate_left 1
              · ((intro w hSw; (try dsimp only at hSw); unfold levels22r9_35; go_simp) <;> with_reducible rfl)
              (try simp only [Act.put, List.setIfInBounds_toArray, List.set_cons_zero, List.set_cons_succ])
              refine take_at 36 82 levels22r9_36 (v := ?_) (Or.inl ⟨by rfl, ?_⟩) ?_
              rotate_left 1
              · ((intro w hSw; (try dsimp only at hSw); have qV0 := seesN_of (kept_trans KB300.out Kk328.out) hSw; have qW291 := seesN_of Kk328.out hSw; unfold levels22r9_36; go_simp) <;> with_reducible rfl)
              (try simp only [Act.put, List.setIfInBounds_toArray, List.set_cons_zero, List.set_cons_succ])
              refine take_at 37 83 levels22r9_37 (v := ?_) (Or.inl ⟨by rfl, ?_⟩) ?_
              rotate_left 1
              · ((intro w hSw; (try dsimp only at hSw); unfold levels22r9_37; go_simp) <;> with_reducible rfl)
              (try simp only [Act.put, List.setIfInBounds_toArray, List.set_cons_zero, List.set_cons_succ])
              refine take_at 38 84 levels22r9_38 (v := ?_) (Or.inl ⟨by rfl, ?_⟩) ?_
              rotate_left 1
              · ((intro w hSw; (try dsimp only at hSw); unfold levels22r9_38; go_simp) <;> with_reducible rfl)
              (try simp only [Act.put, List.setIfInBounds_toArray, List.set_cons_zero, List.set_cons_succ])
              refine take_at 39 85 levels22r9_39 (v := ?_) (Or.inl ⟨by rfl, ?_⟩) ?_
              rotate_left 1
              · ((intro w hSw; (try dsimp only at hSw); unfold levels22r9_39; go_simp) <;> with_reducible rfl)
              (try simp only [Act.put, List.setIfInBounds_toArray, List.set_cons_zero, List.set_cons_succ])
              refine wpAnyH_ready (rs := [40]) (by kernel_rfl) (by simp) ?_
              refine AllReadyH.cons (o := levels22r9_40) rfl (fun K hK => ?_) ?_
              · unfold levels22r9_40
                go_simp
                refine (wakes15_any _).mono ?_
                rintro e w337 ⟨rfl, k338⟩
                have Kk339 := Lib.hid k338
                clear k338
                clear hHeld
                refine hK.out _ _ (seesN_kept _ (kept_trans Kk332.out (kept_trans Kk336.out Kk339.out))) (fun hHeld => ?_)
                clear hK K
                (try simp only [Act.put, List.setIfInBounds_toArray, List.set_cons_zero, List.set_cons_succ])
                refine take_at 41 87 levels22r9_41 (v := ?_) (Or.inl ⟨by rfl, ?_⟩) ?_
                rotate_left 1
                · ((intro w hSw; (try dsimp only at hSw); unfold levels22r9_41; go_simp) <;> with_reducible rfl)
                (try simp only [Act.put, List.setIfInBounds_toArray, List.set_cons_zero, List.set_cons_succ])
                refine take_at 42 6 levels22r9_42 (v := ?_) (Or.inl ⟨by rfl, ?_⟩) ?_
                rotate_left 1
                · ((intro w hSw; (try dsimp only at hSw); unfold levels22r9_42; go_simp) <;> with_reducible rfl)
                (try simp only [Act.put, List.setIfInBounds_toArray, List.set_cons_zero, List.set_cons_succ])
                refine wpAnyH_done (by kernel_rfl) ?_ _
                clear hHeld
                have kvV0 : SeesN V0 V0.heap.size w337 := seesN_kept _ (kept_trans KB300.out (kept_trans Kk328.out (kept_trans Kk332.out (kept_trans Kk336.out Kk339.out))))
                have kvW291 : SeesN W291 V0.heap.size w337 := seesN_kept _ (kept_trans Kk328.out (kept_trans Kk332.out (kept_trans Kk336.out Kk339.out)))
                go_wp2
                go_ret
                exact ⟨rfl, (kept_trans KB299.out (kept_trans Kk328.out (kept_trans Kk332.out (kept_trans Kk336.out Kk339.out))))⟩
              exact AllReadyH.nil
            exact AllReadyH.nil
          exact AllReadyH.nil
    | true =>
      have kvV0 : SeesN V0 V0.heap.size w17 := seesN_kept _ (kept_trans Kk16.out Kk21.out)
      go_wp2
      go_ret
      exact ⟨rfl, (kept_trans Kk3.out (kept_trans Kk16.out Kk21.out))⟩
  | true =>
    have kvV0 : SeesN V0 V0.heap.size w12 := seesN_kept _ Kk16.out
    go_wp2
    go_ret
    exact ⟨rfl, (kept_trans Kk3.out Kk16.out)⟩

end Go.Proofs.Ytjlppnmckobcfaa
