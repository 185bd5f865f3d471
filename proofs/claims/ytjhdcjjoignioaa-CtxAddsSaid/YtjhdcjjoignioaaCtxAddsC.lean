/-
  CtxAdds holds: for every input the call returns true, and the arguments read as before. No condition.
-/
import Derived.Test.YtjhdcjjoignioaaPcC
import Derived.Test.YtjhdcjjoignioaaPcE
import Derived.Test.YtjhdcjjoignioaaLiftFacts
import Derived.Test.YtjhdcjjoignioaaBox
import Derived.Test.YtjhdcjjoignioaaRows
import Derived.ProofKit
import Derived.OpenShut
import Derived.Carry
import Derived.Deep.Slices
import Derived.Test.YtjhdcjjoignioaaPcA
import Derived.ChangeSlices
import Derived.JoinedOf
/-! The walk of transhiplaw11.CtxAdds. -/
namespace Go.Proofs.Ytjhdcjjoignioaa
open Go.RowKit

theorem liesE_prefix {w : World} {l r : List En} {a : Option Addr} {n cap : Nat} (h : LiesE w (l ++ r) (.slice a n cap)) : LiesE w l (.slice a l.length cap) := by
  obtain ⟨a', cap', S, hs, hc, hm, hf, hn, hk⟩ := h.out
  simp only [Value.slice.injEq] at hs
  obtain ⟨rfl, -, rfl⟩ := hs
  have hle : l.length ≤ (l ++ r).length := by simp
  refine ⟨a, cap, S, rfl, by omega, hm, fun x hx => hf x (List.mem_append_left _ hx), fun i hi => ?_, fun i hi => ?_⟩
  · obtain ⟨b, o, ha, hx⟩ := hn i (by omega)
    rw [List.getElem_append_left hi] at hx
    exact ⟨b, o, ha, hx⟩
  · have := hk i (by omega)
    rwa [List.getElem_append_left hi] at this
theorem liesE_last {w : World} {l : List En} {e : En} {s : Value} (h : LiesE w (l ++ [e]) s) : ∃ (g o cap : Nat) (sk : Value), s = .slice (some ⟨g, o, none⟩) (l.length + 1) cap ∧ l.length + 1 ≤ cap ∧ cap ≤ maxLen ∧ ENode w g (o + l.length * 6) e sk ∧ Lies w e.a.kids sk := by
  obtain ⟨a, cap, S, rfl, hc, hm, hf, hn, hk⟩ := h.out
  have hl : l.length < (l ++ [e]).length := by simp
  obtain ⟨g, o, rfl, hx⟩ := hn l.length hl
  have hk0 := hk l.length hl
  rw [List.getElem_append_right (Nat.le_refl _)] at hx hk0
  simp only [Nat.sub_self, List.getElem_cons_zero] at hx hk0
  simp only [List.length_append, List.length_cons, List.length_nil] at hc ⊢
  exact ⟨g, o, cap, _, rfl, hc, hm, hx, hk0⟩
theorem liesEP_last {w : World} {B : Nat} {l : List En} {e : En} {g n cap : Nat} (h : LiesEP w B (l ++ [e]) (.slice (some ⟨g, 0, none⟩) n cap)) : w.cell? ⟨g, l.length * 6 + 5, none⟩ = some (.int .i64 e.i) ∧ l.length + 1 ≤ cap ∧ cap ≤ maxLen := by
  obtain ⟨a, cap', S, hs, hc, hm, hf, hn, hk⟩ := h.out
  have hl : l.length < (l ++ [e]).length := by simp
  simp only [Value.slice.injEq] at hs
  obtain ⟨rfl, -, rfl⟩ := hs
  obtain ⟨b, ha, -, hx⟩ := hn l.length hl
  simp only [Option.some.injEq, Addr.mk.injEq, and_true] at ha
  subst ha
  rw [List.getElem_append_right (Nat.le_refl _)] at hx
  simp only [Nat.sub_self, List.getElem_cons_zero] at hx
  simp only [List.length_append, List.length_cons, List.length_nil] at hc
  exact ⟨hx.c5, hc, hm⟩
theorem ad_call {w w' wn : World} {b gd od g q : Nat} {t : Tm} {e : En} {s sk : Value} {v : Value} (h : Kept w w' ∧ (w'.cell? ⟨b, 0, none⟩ = some (.int .i64 t.k) ∧ w'.cell? ⟨b, 1, none⟩ = some (.int .i64 t.i) ∧ w'.cell? ⟨b, 2, none⟩ = some (.int .i64 t.j) ∧ w'.cell? ⟨b, 3, none⟩ = some (.int .i64 t.n) ∧ w'.cell? ⟨b, 4, none⟩ = some (s)) ∧ (w'.cell? ⟨gd, od, none⟩ = some (.int .i64 e.a.k) ∧ w'.cell? ⟨gd, od + 1, none⟩ = some (.int .i64 e.a.i) ∧ w'.cell? ⟨gd, od + 2, none⟩ = some (.int .i64 e.a.j) ∧ w'.cell? ⟨gd, od + 3, none⟩ = some (.int .i64 e.a.n) ∧ w'.cell? ⟨gd, od + 4, none⟩ = some (sk) ∧ w'.cell? ⟨gd, od + 5, none⟩ = some (.int .i64 e.i)) ∧ w'.cell? ⟨g, q, none⟩ = some v) (hb : Below w'.heap.size w' wn) : Kept w wn ∧ (wn.cell? ⟨b, 0, none⟩ = some (.int .i64 t.k) ∧ wn.cell? ⟨b, 1, none⟩ = some (.int .i64 t.i) ∧ wn.cell? ⟨b, 2, none⟩ = some (.int .i64 t.j) ∧ wn.cell? ⟨b, 3, none⟩ = some (.int .i64 t.n) ∧ wn.cell? ⟨b, 4, none⟩ = some (s)) ∧ (wn.cell? ⟨gd, od, none⟩ = some (.int .i64 e.a.k) ∧ wn.cell? ⟨gd, od + 1, none⟩ = some (.int .i64 e.a.i) ∧ wn.cell? ⟨gd, od + 2, none⟩ = some (.int .i64 e.a.j) ∧ wn.cell? ⟨gd, od + 3, none⟩ = some (.int .i64 e.a.n) ∧ wn.cell? ⟨gd, od + 4, none⟩ = some (sk) ∧ wn.cell? ⟨gd, od + 5, none⟩ = some (.int .i64 e.i)) ∧ wn.cell? ⟨g, q, none⟩ = some v := by
  obtain ⟨h0, ⟨x0, x1, x2, x3, x4⟩, ⟨y0, y1, y2, y3, y4, y5⟩, z⟩ := h
  exact ⟨kept_call h0 hb, ⟨cell_lat hb x0, cell_lat hb x1, cell_lat hb x2, cell_lat hb x3, cell_lat hb x4⟩, ⟨cell_lat hb y0, cell_lat hb y1, cell_lat hb y2, cell_lat hb y3, cell_lat hb y4, cell_lat hb y5⟩, cell_lat hb z⟩
theorem at_here {l : List En} {q : Nat} (hq : q < l.length) (hr : rightC l = true) : AtIs l (q : Int) ((l[l.length - 1 - q]).a.liftB ((q : Int) + 1) 0) (l[l.length - 1 - q]).i true := .inl ⟨rfl, q, hq, rfl, hr, rfl, rfl⟩
theorem at_last {l : List En} {E : En} (hr : rightC (l ++ [E]) = true) : AtIs (l ++ [E]) 0 (E.a.liftB 1 0) E.i true :=
  .inl ⟨rfl, 0, by simp, rfl, hr, by simp, by simp⟩
theorem at_next {l : List En} {E : En} {q : Nat} (hq : q < l.length) (hr : rightC (l ++ [E]) = true) : AtIs (l ++ [E]) ((q : Int) + 1) ((l[l.length - 1 - q]).a.liftB ((q : Int) + 1 + 1) 0) (l[l.length - 1 - q]).i true := by
  have e : (l ++ [E])[(l ++ [E]).length - 1 - (q + 1)]'(by simp; omega) = l[l.length - 1 - q] := by
    rw [List.getElem_append_left (by simp; omega)]
    congr 1
    simp; omega
  refine .inl ⟨rfl, q + 1, by simp; omega, by push_cast; rfl, hr, ?_, ?_⟩
  · rw [e]; push_cast; rfl
  · rw [e]
theorem add_right {l : List En} {E : En} (hr : rightC l = true) (h : goodE l.length E = true) : rightC (l ++ [E]) = true := by
  unfold rightC at hr ⊢
  rw [rightE_append, hr, Nat.zero_add]
  simp only [rightE, Bool.and_true, Bool.true_and]
  exact h
def tbox (t : Tm) (s : Value) : Obj := .cells #[.int .i64 t.k, .int .i64 t.i, .int .i64 t.j, .int .i64 t.n, s] 26 (0, 0)
def FourB (V : World) (b0 b1 b2 b3 : Nat) (t0 t1 t2 t3 : Tm) (s0 s1 s2 s3 : Value) (w' : World) : Prop := Kept V w' ∧ w'.heap[b0]? = some (tbox t0 s0) ∧ w'.heap[b1]? = some (tbox t1 s1) ∧ w'.heap[b2]? = some (tbox t2 s2) ∧ w'.heap[b3]? = some (tbox t3 s3)
theorem fb_call {V w' wn : World} {b0 b1 b2 b3 : Nat} {t0 t1 t2 t3 : Tm} {s0 s1 s2 s3 : Value} (h : FourB V b0 b1 b2 b3 t0 t1 t2 t3 s0 s1 s2 s3 w') (hb : Below w'.heap.size w' wn) : FourB V b0 b1 b2 b3 t0 t1 t2 t3 s0 s1 s2 s3 wn :=
  ⟨kept_call h.1 hb, (hb.block _ (block_lt h.2.1)).trans h.2.1, (hb.block _ (block_lt h.2.2.1)).trans h.2.2.1, (hb.block _ (block_lt h.2.2.2.1)).trans h.2.2.2.1, (hb.block _ (block_lt h.2.2.2.2)).trans h.2.2.2.2⟩
theorem fb_below {V w' : World} {b0 b1 b2 b3 : Nat} {t0 t1 t2 t3 : Tm} {s0 s1 s2 s3 : Value} (h : FourB V b0 b1 b2 b3 t0 t1 t2 t3 s0 s1 s2 s3 w') : Below V.heap.size V w' := h.1
def ab0 : Oper := { dst := some 149, op := Go.Op.move (Go.Operand.tmp 13), type := 4, pos := "law.go:63", after := #[], guard := none }
def ab1 : Oper := { dst := some 150, op := Go.Op.move (Go.Operand.tmp 149), type := 4, pos := "law.go:63", after := #[{ on := 0, ground := Go.Ground.data }], guard := none }
def ab2 : Oper := { dst := some 151, op := Go.Op.move (Go.Operand.tmp 16), type := 4, pos := "law.go:63", after := #[{ on := 1, ground := Go.Ground.guard }], guard := some (1, true) }
def ab3 : Oper := { dst := some 152, op := Go.Op.pick (Go.Operand.tmp 150) (Go.Operand.tmp 151) (Go.Operand.const (Go.Value.bool false)), type := 4, pos := "law.go:63", after := #[{ on := 1, ground := Go.Ground.data }, { on := 2, ground := Go.Ground.data }], guard := none }
def ab4 : Oper := { dst := some 153, op := Go.Op.move (Go.Operand.tmp 152), type := 4, pos := "law.go:63", after := #[{ on := 3, ground := Go.Ground.data }, { on := 1, ground := Go.Ground.chain }], guard := none }
def ab5 : Oper := { dst := some 154, op := Go.Op.move (Go.Operand.tmp 19), type := 4, pos := "law.go:63", after := #[{ on := 4, ground := Go.Ground.guard }], guard := some (4, true) }
def ab6 : Oper := { dst := some 155, op := Go.Op.pick (Go.Operand.tmp 153) (Go.Operand.tmp 154) (Go.Operand.const (Go.Value.bool false)), type := 4, pos := "law.go:63", after := #[{ on := 4, ground := Go.Ground.data }, { on := 5, ground := Go.Ground.data }], guard := none }
def ab7 : Oper := { dst := some 156, op := Go.Op.move (Go.Operand.tmp 155), type := 4, pos := "law.go:63", after := #[{ on := 6, ground := Go.Ground.data }, { on := 4, ground := Go.Ground.chain }], guard := none }
def ab8 : Oper := { dst := some 157, op := Go.Op.move (Go.Operand.tmp 12), type := 3, pos := "law.go:63", after := #[{ on := 7, ground := Go.Ground.guard }], guard := some (7, true) }
def ab9 : Oper := { dst := some 158, op := Go.Op.move (Go.Operand.tmp 2), type := 3, pos := "law.go:63", after := #[{ on := 7, ground := Go.Ground.guard }], guard := some (7, true) }
def ab10 : Oper := { dst := some 159, op := Go.Op.binOp Go.BinOp.eql 3 (Go.Operand.tmp 157) (Go.Operand.tmp 158) 3, type := 4, pos := "law.go:63", after := #[{ on := 8, ground := Go.Ground.data }, { on := 9, ground := Go.Ground.data }, { on := 7, ground := Go.Ground.guard }], guard := some (7, true) }
def ab11 : Oper := { dst := some 160, op := Go.Op.pick (Go.Operand.tmp 156) (Go.Operand.tmp 159) (Go.Operand.const (Go.Value.bool false)), type := 4, pos := "law.go:63", after := #[{ on := 7, ground := Go.Ground.data }, { on := 10, ground := Go.Ground.data }], guard := none }
def ab12 : Oper := { dst := some 161, op := Go.Op.move (Go.Operand.tmp 160), type := 4, pos := "law.go:63", after := #[{ on := 11, ground := Go.Ground.data }, { on := 7, ground := Go.Ground.chain }], guard := none }
def ab13 : Oper := { dst := some 162, op := Go.Op.move (Go.Operand.tmp 15), type := 3, pos := "law.go:63", after := #[{ on := 12, ground := Go.Ground.guard }], guard := some (12, true) }
def ab14 : Oper := { dst := some 163, op := Go.Op.move (Go.Operand.tmp 18), type := 3, pos := "law.go:63", after := #[{ on := 12, ground := Go.Ground.guard }], guard := some (12, true) }
def ab15 : Oper := { dst := some 164, op := Go.Op.binOp Go.BinOp.eql 3 (Go.Operand.tmp 162) (Go.Operand.tmp 163) 3, type := 4, pos := "law.go:63", after := #[{ on := 13, ground := Go.Ground.data }, { on := 14, ground := Go.Ground.data }, { on := 12, ground := Go.Ground.guard }], guard := some (12, true) }
def ab16 : Oper := { dst := some 165, op := Go.Op.pick (Go.Operand.tmp 161) (Go.Operand.tmp 164) (Go.Operand.const (Go.Value.bool false)), type := 4, pos := "law.go:63", after := #[{ on := 12, ground := Go.Ground.data }, { on := 15, ground := Go.Ground.data }], guard := none }
def ab17 : Oper := { dst := some 166, op := Go.Op.move (Go.Operand.tmp 165), type := 4, pos := "law.go:63", after := #[{ on := 16, ground := Go.Ground.data }, { on := 12, ground := Go.Ground.chain }], guard := none }
def ab18 : Oper := { dst := some 167, op := Go.Op.load 26 (Go.Operand.tmp 11), type := 26, pos := "law.go:63", after := #[{ on := 17, ground := Go.Ground.guard }], guard := some (17, true) }
def ab19 : Oper := { dst := some 168, op := Go.Op.load 26 (Go.Operand.tmp 5), type := 26, pos := "law.go:63", after := #[{ on := 17, ground := Go.Ground.guard }], guard := some (17, true) }
def ab20 : Oper := { dst := some 169, op := Go.Op.call { callee := Go.Callee.value (Go.Operand.func 26), args := #[Go.Operand.tmp 168, Go.Operand.const (Go.Value.int Go.IntKind.i64 1), Go.Operand.const (Go.Value.int Go.IntKind.i64 0)], argTypes := #[26, 3, 3] }, type := 26, pos := "law.go:63", after := #[{ on := 19, ground := Go.Ground.data }, { on := 17, ground := Go.Ground.chain }, { on := 17, ground := Go.Ground.guard }], guard := some (17, true) }
def ab21 : Oper := { dst := some 170, op := Go.Op.call { callee := Go.Callee.value (Go.Operand.func 13), args := #[Go.Operand.tmp 167, Go.Operand.tmp 169], argTypes := #[26, 26] }, type := 4, pos := "law.go:63", after := #[{ on := 18, ground := Go.Ground.data }, { on := 20, ground := Go.Ground.data }, { on := 20, ground := Go.Ground.chain }, { on := 17, ground := Go.Ground.guard }], guard := some (17, true) }
def ab22 : Oper := { dst := some 171, op := Go.Op.pick (Go.Operand.tmp 166) (Go.Operand.tmp 170) (Go.Operand.const (Go.Value.bool false)), type := 4, pos := "law.go:63", after := #[{ on := 17, ground := Go.Ground.data }, { on := 21, ground := Go.Ground.data }], guard := none }
def ab23 : Oper := { dst := some 172, op := Go.Op.move (Go.Operand.tmp 171), type := 4, pos := "law.go:63", after := #[{ on := 22, ground := Go.Ground.data }, { on := 21, ground := Go.Ground.chain }], guard := none }
def ab24 : Oper := { dst := some 173, op := Go.Op.load 26 (Go.Operand.tmp 14), type := 26, pos := "law.go:63", after := #[{ on := 23, ground := Go.Ground.guard }], guard := some (23, true) }
def ab25 : Oper := { dst := some 174, op := Go.Op.load 26 (Go.Operand.tmp 17), type := 26, pos := "law.go:63", after := #[{ on := 23, ground := Go.Ground.guard }], guard := some (23, true) }
def ab26 : Oper := { dst := some 175, op := Go.Op.call { callee := Go.Callee.value (Go.Operand.func 26), args := #[Go.Operand.tmp 174, Go.Operand.const (Go.Value.int Go.IntKind.i64 1), Go.Operand.const (Go.Value.int Go.IntKind.i64 0)], argTypes := #[26, 3, 3] }, type := 26, pos := "law.go:63", after := #[{ on := 25, ground := Go.Ground.data }, { on := 23, ground := Go.Ground.chain }, { on := 23, ground := Go.Ground.guard }], guard := some (23, true) }
def ab27 : Oper := { dst := some 176, op := Go.Op.call { callee := Go.Callee.value (Go.Operand.func 13), args := #[Go.Operand.tmp 173, Go.Operand.tmp 175], argTypes := #[26, 26] }, type := 4, pos := "law.go:63", after := #[{ on := 24, ground := Go.Ground.data }, { on := 26, ground := Go.Ground.data }, { on := 26, ground := Go.Ground.chain }, { on := 23, ground := Go.Ground.guard }], guard := some (23, true) }
def ab28 : Oper := { dst := some 177, op := Go.Op.pick (Go.Operand.tmp 172) (Go.Operand.tmp 176) (Go.Operand.const (Go.Value.bool false)), type := 4, pos := "law.go:63", after := #[{ on := 23, ground := Go.Ground.data }, { on := 27, ground := Go.Ground.data }], guard := none }
def ab29 : Oper := { dst := some 178, op := Go.Op.move (Go.Operand.tmp 177), type := 4, pos := "law.go:63", after := #[{ on := 28, ground := Go.Ground.data }, { on := 27, ground := Go.Ground.chain }], guard := none }
def ab30 : Oper := { dst := some 179, op := Go.Op.call { callee := Go.Callee.value (Go.Operand.func 14), args := #[], argTypes := #[] }, type := 4, pos := "law.go:63", after := #[{ on := 29, ground := Go.Ground.chain }, { on := 29, ground := Go.Ground.guard }], guard := some (29, true) }
def ab31 : Oper := { dst := some 180, op := Go.Op.pick (Go.Operand.tmp 178) (Go.Operand.tmp 179) (Go.Operand.const (Go.Value.bool false)), type := 4, pos := "law.go:63", after := #[{ on := 29, ground := Go.Ground.data }, { on := 30, ground := Go.Ground.data }], guard := none }
def ab32 : Oper := { dst := some 8, op := Go.Op.assign (Go.Operand.tmp 180), type := 4, pos := "law.go:63", after := #[{ on := 31, ground := Go.Ground.data }, { on := 30, ground := Go.Ground.chain }, { on := 0, ground := Go.Ground.phase }, { on := 1, ground := Go.Ground.phase }, { on := 2, ground := Go.Ground.phase }, { on := 3, ground := Go.Ground.phase }, { on := 4, ground := Go.Ground.phase }, { on := 5, ground := Go.Ground.phase }, { on := 6, ground := Go.Ground.phase }, { on := 7, ground := Go.Ground.phase }, { on := 8, ground := Go.Ground.phase }, { on := 9, ground := Go.Ground.phase }, { on := 10, ground := Go.Ground.phase }, { on := 11, ground := Go.Ground.phase }, { on := 12, ground := Go.Ground.phase }, { on := 13, ground := Go.Ground.phase }, { on := 14, ground := Go.Ground.phase }, { on := 15, ground := Go.Ground.phase }, { on := 16, ground := Go.Ground.phase }, { on := 17, ground := Go.Ground.phase }, { on := 18, ground := Go.Ground.phase }, { on := 19, ground := Go.Ground.phase }, { on := 20, ground := Go.Ground.phase }, { on := 21, ground := Go.Ground.phase }, { on := 22, ground := Go.Ground.phase }, { on := 23, ground := Go.Ground.phase }, { on := 24, ground := Go.Ground.phase }, { on := 25, ground := Go.Ground.phase }, { on := 26, ground := Go.Ground.phase }, { on := 27, ground := Go.Ground.phase }, { on := 28, ground := Go.Ground.phase }, { on := 29, ground := Go.Ground.phase }, { on := 30, ground := Go.Ground.phase }, { on := 31, ground := Go.Ground.phase }], guard := none }
def aa0 : Oper := { dst := some 38, op := Go.Op.move (Go.Operand.tmp 10), type := 22, pos := "law.go:54", after := #[], guard := none }
def aa1 : Oper := { dst := some 39, op := Go.Op.call { callee := Go.Callee.builtin Go.Builtin.len, args := #[Go.Operand.tmp 38], argTypes := #[22] }, type := 3, pos := "law.go:54", after := #[{ on := 0, ground := Go.Ground.data }], guard := none }
def aa2 : Oper := { dst := some 40, op := Go.Op.move (Go.Operand.tmp 0), type := 22, pos := "law.go:54", after := #[], guard := none }
def aa3 : Oper := { dst := some 41, op := Go.Op.call { callee := Go.Callee.builtin Go.Builtin.len, args := #[Go.Operand.tmp 40], argTypes := #[22] }, type := 3, pos := "law.go:54", after := #[{ on := 2, ground := Go.Ground.data }], guard := none }
def aa4 : Oper := { dst := some 42, op := Go.Op.binOp Go.BinOp.add 3 (Go.Operand.tmp 41) (Go.Operand.const (Go.Value.int Go.IntKind.i64 1)) 3, type := 3, pos := "law.go:54", after := #[{ on := 3, ground := Go.Ground.data }], guard := none }
def aa5 : Oper := { dst := some 43, op := Go.Op.binOp Go.BinOp.neq 3 (Go.Operand.tmp 39) (Go.Operand.tmp 42) 3, type := 4, pos := "law.go:54", after := #[{ on := 1, ground := Go.Ground.data }, { on := 4, ground := Go.Ground.data }], guard := none }
def aa6 : Oper := { dst := some 44, op := Go.Op.move (Go.Operand.tmp 43), type := 4, pos := "law.go:54", after := #[{ on := 5, ground := Go.Ground.data }], guard := none }
def aa7 : Oper := { dst := some 45, op := Go.Op.move (Go.Operand.tmp 10), type := 22, pos := "law.go:54", after := #[{ on := 6, ground := Go.Ground.guard }], guard := some (6, false) }
def aa8 : Oper := { dst := some 46, op := Go.Op.move (Go.Operand.tmp 0), type := 22, pos := "law.go:54", after := #[{ on := 6, ground := Go.Ground.guard }], guard := some (6, false) }
def aa9 : Oper := { dst := some 47, op := Go.Op.call { callee := Go.Callee.builtin Go.Builtin.len, args := #[Go.Operand.tmp 46], argTypes := #[22] }, type := 3, pos := "law.go:54", after := #[{ on := 8, ground := Go.Ground.data }, { on := 6, ground := Go.Ground.guard }], guard := some (6, false) }
def aa10 : Oper := { dst := some 48, op := Go.Op.slice 22 (Go.Operand.tmp 45) none (some (Go.Operand.tmp 47)) none, type := 22, pos := "law.go:54", after := #[{ on := 7, ground := Go.Ground.data }, { on := 9, ground := Go.Ground.data }, { on := 6, ground := Go.Ground.guard }], guard := some (6, false) }
def aa11 : Oper := { dst := some 49, op := Go.Op.move (Go.Operand.tmp 0), type := 22, pos := "law.go:54", after := #[{ on := 6, ground := Go.Ground.guard }], guard := some (6, false) }
def aa12 : Oper := { dst := some 50, op := Go.Op.call { callee := Go.Callee.value (Go.Operand.func 18), args := #[Go.Operand.tmp 48, Go.Operand.tmp 49], argTypes := #[22, 22] }, type := 4, pos := "law.go:54", after := #[{ on := 10, ground := Go.Ground.data }, { on := 11, ground := Go.Ground.data }, { on := 6, ground := Go.Ground.chain }, { on := 6, ground := Go.Ground.guard }], guard := some (6, false) }
def aa13 : Oper := { dst := some 51, op := Go.Op.unOp Go.UnOp.not 4 (Go.Operand.tmp 50), type := 4, pos := "law.go:54", after := #[{ on := 12, ground := Go.Ground.data }, { on := 6, ground := Go.Ground.guard }], guard := some (6, false) }
def aa14 : Oper := { dst := some 52, op := Go.Op.pick (Go.Operand.tmp 44) (Go.Operand.const (Go.Value.bool true)) (Go.Operand.tmp 51), type := 4, pos := "law.go:54", after := #[{ on := 6, ground := Go.Ground.data }, { on := 13, ground := Go.Ground.data }], guard := none }
def aa15 : Oper := { dst := some 53, op := Go.Op.move (Go.Operand.tmp 52), type := 4, pos := "law.go:54", after := #[{ on := 14, ground := Go.Ground.data }, { on := 12, ground := Go.Ground.chain }], guard := none }
def aa16 : Oper := { dst := some 54, op := Go.Op.move (Go.Operand.tmp 10), type := 22, pos := "law.go:54", after := #[{ on := 15, ground := Go.Ground.guard }], guard := some (15, false) }
def aa17 : Oper := { dst := some 55, op := Go.Op.move (Go.Operand.tmp 0), type := 22, pos := "law.go:54", after := #[{ on := 15, ground := Go.Ground.guard }], guard := some (15, false) }
def aa18 : Oper := { dst := some 56, op := Go.Op.call { callee := Go.Callee.builtin Go.Builtin.len, args := #[Go.Operand.tmp 55], argTypes := #[22] }, type := 3, pos := "law.go:54", after := #[{ on := 17, ground := Go.Ground.data }, { on := 15, ground := Go.Ground.guard }], guard := some (15, false) }
def aa19 : Oper := { dst := some 57, op := Go.Op.indexAddr 22 (Go.Operand.tmp 54) (Go.Operand.tmp 56), type := 0, pos := "law.go:54", after := #[{ on := 16, ground := Go.Ground.data }, { on := 18, ground := Go.Ground.data }, { on := 15, ground := Go.Ground.guard }], guard := some (15, false) }
def aa20 : Oper := { dst := some 58, op := Go.Op.fieldAddr 38 (Go.Operand.tmp 57) 0, type := 0, pos := "law.go:54", after := #[{ on := 19, ground := Go.Ground.data }, { on := 15, ground := Go.Ground.guard }], guard := some (15, false) }
def aa21 : Oper := { dst := some 59, op := Go.Op.load 26 (Go.Operand.tmp 58), type := 26, pos := "law.go:54", after := #[{ on := 20, ground := Go.Ground.data }, { on := 15, ground := Go.Ground.guard }], guard := some (15, false) }
def aa22 : Oper := { dst := some 60, op := Go.Op.load 26 (Go.Operand.tmp 5), type := 26, pos := "law.go:54", after := #[{ on := 15, ground := Go.Ground.guard }], guard := some (15, false) }
def aa23 : Oper := { dst := some 61, op := Go.Op.call { callee := Go.Callee.value (Go.Operand.func 13), args := #[Go.Operand.tmp 59, Go.Operand.tmp 60], argTypes := #[26, 26] }, type := 4, pos := "law.go:54", after := #[{ on := 21, ground := Go.Ground.data }, { on := 22, ground := Go.Ground.data }, { on := 15, ground := Go.Ground.chain }, { on := 15, ground := Go.Ground.guard }], guard := some (15, false) }
def aa24 : Oper := { dst := some 62, op := Go.Op.unOp Go.UnOp.not 4 (Go.Operand.tmp 61), type := 4, pos := "law.go:54", after := #[{ on := 23, ground := Go.Ground.data }, { on := 15, ground := Go.Ground.guard }], guard := some (15, false) }
def aa25 : Oper := { dst := some 63, op := Go.Op.pick (Go.Operand.tmp 53) (Go.Operand.const (Go.Value.bool true)) (Go.Operand.tmp 62), type := 4, pos := "law.go:54", after := #[{ on := 15, ground := Go.Ground.data }, { on := 24, ground := Go.Ground.data }], guard := none }
def aa26 : Oper := { dst := some 64, op := Go.Op.move (Go.Operand.tmp 63), type := 4, pos := "law.go:54", after := #[{ on := 25, ground := Go.Ground.data }, { on := 23, ground := Go.Ground.chain }], guard := none }
def aa27 : Oper := { dst := some 65, op := Go.Op.move (Go.Operand.tmp 10), type := 22, pos := "law.go:54", after := #[{ on := 26, ground := Go.Ground.guard }], guard := some (26, false) }
def aa28 : Oper := { dst := some 66, op := Go.Op.move (Go.Operand.tmp 0), type := 22, pos := "law.go:54", after := #[{ on := 26, ground := Go.Ground.guard }], guard := some (26, false) }
def aa29 : Oper := { dst := some 67, op := Go.Op.call { callee := Go.Callee.builtin Go.Builtin.len, args := #[Go.Operand.tmp 66], argTypes := #[22] }, type := 3, pos := "law.go:54", after := #[{ on := 28, ground := Go.Ground.data }, { on := 26, ground := Go.Ground.guard }], guard := some (26, false) }
def aa30 : Oper := { dst := some 68, op := Go.Op.indexAddr 22 (Go.Operand.tmp 65) (Go.Operand.tmp 67), type := 0, pos := "law.go:54", after := #[{ on := 27, ground := Go.Ground.data }, { on := 29, ground := Go.Ground.data }, { on := 26, ground := Go.Ground.guard }], guard := some (26, false) }
def aa31 : Oper := { dst := some 69, op := Go.Op.fieldAddr 38 (Go.Operand.tmp 68) 1, type := 0, pos := "law.go:54", after := #[{ on := 30, ground := Go.Ground.data }, { on := 26, ground := Go.Ground.guard }], guard := some (26, false) }
def aa32 : Oper := { dst := some 70, op := Go.Op.load 3 (Go.Operand.tmp 69), type := 3, pos := "law.go:54", after := #[{ on := 31, ground := Go.Ground.data }, { on := 26, ground := Go.Ground.guard }], guard := some (26, false) }
def aa33 : Oper := { dst := some 71, op := Go.Op.move (Go.Operand.tmp 2), type := 3, pos := "law.go:54", after := #[{ on := 26, ground := Go.Ground.guard }], guard := some (26, false) }
def aa34 : Oper := { dst := some 72, op := Go.Op.binOp Go.BinOp.neq 3 (Go.Operand.tmp 70) (Go.Operand.tmp 71) 3, type := 4, pos := "law.go:54", after := #[{ on := 32, ground := Go.Ground.data }, { on := 33, ground := Go.Ground.data }, { on := 26, ground := Go.Ground.guard }], guard := some (26, false) }
def aa35 : Oper := { dst := some 73, op := Go.Op.pick (Go.Operand.tmp 64) (Go.Operand.const (Go.Value.bool true)) (Go.Operand.tmp 72), type := 4, pos := "law.go:54", after := #[{ on := 26, ground := Go.Ground.data }, { on := 34, ground := Go.Ground.data }], guard := none }
def aa36 : Oper := { dst := some 74, op := Go.Op.move (Go.Operand.tmp 73), type := 4, pos := "law.go:54", after := #[{ on := 35, ground := Go.Ground.data }, { on := 26, ground := Go.Ground.chain }], guard := none }
def aa37 : Oper := { dst := some 75, op := Go.Op.move (Go.Operand.tmp 9), type := 22, pos := "law.go:54", after := #[{ on := 36, ground := Go.Ground.guard }], guard := some (36, false) }
def aa38 : Oper := { dst := some 76, op := Go.Op.move (Go.Operand.tmp 0), type := 22, pos := "law.go:54", after := #[{ on := 36, ground := Go.Ground.guard }], guard := some (36, false) }
def aa39 : Oper := { dst := some 77, op := Go.Op.call { callee := Go.Callee.builtin Go.Builtin.len, args := #[Go.Operand.tmp 76], argTypes := #[22] }, type := 3, pos := "law.go:54", after := #[{ on := 38, ground := Go.Ground.data }, { on := 36, ground := Go.Ground.guard }], guard := some (36, false) }
def aa40 : Oper := { dst := some 78, op := Go.Op.binOp Go.BinOp.add 3 (Go.Operand.tmp 77) (Go.Operand.const (Go.Value.int Go.IntKind.i64 1)) 3, type := 3, pos := "law.go:54", after := #[{ on := 39, ground := Go.Ground.data }, { on := 36, ground := Go.Ground.guard }], guard := some (36, false) }
def aa41 : Oper := { dst := some 79, op := Go.Op.slice 22 (Go.Operand.tmp 75) none (some (Go.Operand.tmp 78)) none, type := 22, pos := "law.go:54", after := #[{ on := 37, ground := Go.Ground.data }, { on := 40, ground := Go.Ground.data }, { on := 36, ground := Go.Ground.guard }], guard := some (36, false) }
def aa42 : Oper := { dst := some 80, op := Go.Op.move (Go.Operand.tmp 0), type := 22, pos := "law.go:54", after := #[{ on := 36, ground := Go.Ground.guard }], guard := some (36, false) }
def aa43 : Oper := { dst := some 81, op := Go.Op.call { callee := Go.Callee.builtin Go.Builtin.len, args := #[Go.Operand.tmp 80], argTypes := #[22] }, type := 3, pos := "law.go:54", after := #[{ on := 42, ground := Go.Ground.data }, { on := 36, ground := Go.Ground.guard }], guard := some (36, false) }
def aa44 : Oper := { dst := some 82, op := Go.Op.indexAddr 22 (Go.Operand.tmp 79) (Go.Operand.tmp 81), type := 0, pos := "law.go:54", after := #[{ on := 41, ground := Go.Ground.data }, { on := 43, ground := Go.Ground.data }, { on := 36, ground := Go.Ground.guard }], guard := some (36, false) }
def aa45 : Oper := { dst := some 83, op := Go.Op.fieldAddr 38 (Go.Operand.tmp 82) 1, type := 0, pos := "law.go:54", after := #[{ on := 44, ground := Go.Ground.data }, { on := 36, ground := Go.Ground.guard }], guard := some (36, false) }
def aa46 : Oper := { dst := some 84, op := Go.Op.load 3 (Go.Operand.tmp 83), type := 3, pos := "law.go:54", after := #[{ on := 45, ground := Go.Ground.data }, { on := 36, ground := Go.Ground.guard }], guard := some (36, false) }
def aa47 : Oper := { dst := some 85, op := Go.Op.binOp Go.BinOp.neq 3 (Go.Operand.tmp 84) (Go.Operand.const (Go.Value.int Go.IntKind.i64 (-9))) 3, type := 4, pos := "law.go:54", after := #[{ on := 46, ground := Go.Ground.data }, { on := 36, ground := Go.Ground.guard }], guard := some (36, false) }
def aa48 : Oper := { dst := some 86, op := Go.Op.pick (Go.Operand.tmp 74) (Go.Operand.const (Go.Value.bool true)) (Go.Operand.tmp 85), type := 4, pos := "law.go:54", after := #[{ on := 36, ground := Go.Ground.data }, { on := 47, ground := Go.Ground.data }], guard := none }
set_option maxRecDepth 20000 in
set_option maxHeartbeats 8000000 in
theorem ctxAdds_any (l : List En) (t : Tm) (i k : Int) (w : World) (s st : Value) (hl : LiesE w l s) (ht : Lies w t.kids st) (hft : t.fine) (hii : I64 i) (hki : I64 k) : Calls Try.prog 5 #[s, tv t st, .int .i64 i, .int .i64 k] w fun e w' => e = .returned (.bool true) ∧ Below w.heap.size w w' := by
  obtain ⟨a, cap, S, rfl, -⟩ := hl.out
  obtain ⟨at0, ct0, St, rfl, -⟩ := ht.out
  obtain ⟨i0, hi, hz0, hz1, hz2⟩ := info_parts info_entry
  have HI := Lib.hid (And.intro hi (And.intro hz0 (And.intro hz1 hz2)))
  have HL := Lib.hid hl
  have HT := Lib.hid ht
  have HFE : Hid ((⟨t, i⟩ : En).fine) := ⟨hft, hii⟩
  have HKI := Lib.hid hki
  unfold tv
  have hb0 : Below w.heap.size w (w.alloc (.cells #[.int .i64 t.k, .int .i64 t.i, .int .i64 t.j, .int .i64 t.n, (.slice at0 t.kids.length ct0)] 26)) := (Below.refl _ _).alloc (Nat.le_refl _) _
  have hx0 := alloc_new w (.cells #[.int .i64 t.k, .int .i64 t.i, .int .i64 t.j, .int .i64 t.n, (.slice at0 t.kids.length ct0)] 26)
  clear hi hz0 hz1 hz2 hl ht hft hii hki
  go_enter Try.func5, Try.ntmps5
  go_wp2_with fail
  refine (greatctx_any l 300 _ _ (HL.out.keep hb0) (by omega)).mono ?_
  generalize w.alloc (.cells #[.int .i64 t.k, .int .i64 t.i, .int .i64 t.j, .int .i64 t.n, (.slice at0 t.kids.length ct0)] 26) = V at hb0 hx0 ⊢
  rintro e w1 ⟨g1, rfl, hg1, hb1⟩
  have HG1 := Lib.hid hg1
  have HB1 := Lib.hid (below_call hb0 hb1 hb0.size)
  have HX1 := Lib.hid ((hb1.block _ (block_lt hx0)).trans hx0)
  clear hg1 hb1 hb0 hx0
  cases g1 with
  | true =>
    go_wp2
    go_ret
    exact ⟨rfl, HB1.out⟩
  | false =>
  obtain ⟨x0, x1, x2, x3, x4⟩ := five_cells HX1.out
  go_wp2_with fail
  refine (great_any t _ _ 300 (HT.out.keep HB1.out) (by omega) (by omega)).mono ?_
  rintro e w2 ⟨g2, rfl, hg2, hb2⟩
  have HG2 := Lib.hid hg2
  have HB2 := Lib.hid (below_call HB1.out hb2 HB1.out.size)
  have HX2 := Lib.hid ((hb2.block _ (block_lt HX1.out)).trans HX1.out)
  clear hg2 hb2 x0 x1 x2 x3 x4 HB1 HX1
  cases g2 with
  | true =>
    go_wp2
    go_ret
    exact ⟨rfl, HB2.out⟩
  | false =>
  have HLE : Hid (l.length ≤ 300) := (HG1.out (by first | rfl | trivial)).1
  have HSA : Hid (∀ u ∈ l, u.a.size ≤ 1000) := fun u hu => by have := ((HG1.out (by first | rfl | trivial)).2 u hu).1; omega
  have HST : Hid (t.size ≤ 1000) := by have := (HG2.out (by first | rfl | trivial)).1; show t.size ≤ 1000; omega
  clear HG1 HG2
  go_wp2_with fail
  refine (twinrow_any l _ _ (HL.out.keep HB2.out) (by have := HLE.out; omega) (fun u hu => by have := HSA.out u hu; omega)).mono ?_
  rintro e w3 ⟨s3, ps, rfl, hm3, hps, hb3⟩
  have hpl : ps.length = l.length := by have := congrArg List.length hps; simpa using this
  have HB3 := Lib.hid (below_call HB2.out hb3 HB2.out.size)
  have HX3 := Lib.hid ((hb3.block _ (block_lt HX2.out)).trans HX2.out)
  have HM3 := Lib.hid hm3
  have HPS := Lib.hid hps
  have HPL := Lib.hid hpl
  have HS3 := Lib.hid (show w.heap.size ≤ w2.heap.size from HB2.out.size)
  have HS4 := Lib.hid (show w.heap.size < w2.heap.size from block_lt HX2.out)
  have HBA := Lib.hid (show w2.heap.size ≤ w3.heap.size from hb3.size)
  have hown3 : (w3.alloc (.cells #[.int .i64 0, .int .i64 0, .int .i64 0, .int .i64 0, .slice none 0 0, .int .i64 (-9)] 38)).ownsRow w2.heap.size 38 6 s3 l.length (cells6 ps) := by rw [← hpl]; exact (madeE_later hm3 ((Below.refl _ _).alloc (Nat.le_refl _) _)).own
  have HO3 := Lib.hid hown3
  clear hb3 HB2 HX2 hm3 hps hpl hown3
  go_wp2_with (at_builtin; refine wpList_append_lies _ rfl (.tmp 27) (.tmp 29) 22 rfl w2.heap.size 38 i0 _ 6 64 (by kernel_rfl) HI.out.1 HI.out.2.1 HI.out.2.2.1 HI.out.2.2.2 rfl (by decide) s3 l.length (cells6 ps) rfl HO3.out ⟨w3.heap.size, 0, none⟩ 1 1 (cells6 [((⟨.zero, -9⟩ : En), .slice none 0 0)]) rfl rfl ?news ?one (by decide) ?max ?bytes ?base _ rfl ?next)
  case news => exact newsE _ (⟨.zero, -9⟩ : En) _ _
  case one => exact oneE _ _
  case max => have := HLE.out; unfold maxLen; omega
  case bytes => have := HLE.out; omega
  case base => have := HBA.out; simp; omega
  case next =>
  intro g cap4 w4 hown hgrow hat hlt4
  rw [← HPL.out] at hown
  have hMN := madeE_push (t := (⟨.zero, -9⟩ : En)) HM3.out (show (⟨.zero, -9⟩ : En).fine from ⟨zero_fine, by unfold I64; exact ⟨by decide, by decide⟩⟩) HBA.out (Below.refl _ _) (liesP_nil _ _) _ hown hgrow (by simpa using hat)
  have hle4 := madeE_lies hMN
  rw [List.map_append, HPS.out, HPL.out] at hle4
  have hb34 : Below w.heap.size w w4 := ((HB3.out.alloc HB3.out.size _).grown hgrow (by have := HB3.out.size; simp; omega) (fun q hq => Nat.le_trans HS3.out (madeE_above HM3.out q hq)))
  have hx4 : w4.heap[w.heap.size]? = some (.cells #[.int .i64 t.k, .int .i64 t.i, .int .i64 t.j, .int .i64 t.n, (.slice at0 t.kids.length ct0)] 26 (0, 0)) := (hgrow.block _ (by have := block_lt HX3.out; simp; omega) (fun h => by have := madeE_above HM3.out _ h.symm; have := HS4.out; omega)).trans ((Below.heap_alloc _ _ _ (block_lt HX3.out)).trans HX3.out)
  have hlast := liesEP_last hle4
  have hin := liesE_prefix hle4.lies
  have HB4 := Lib.hid hb34
  have HX4 := Lib.hid hx4
  have HLAST := Lib.hid hlast.1
  have HIN := Lib.hid hin
  have hc4 : l.length + 1 ≤ cap4 := hlast.2.1
  have hm4 : cap4 ≤ 9223372036854775807 := hlast.2.2
  clear hown hgrow hat hlt4 hMN hle4 hb34 hx4 hlast hin
  obtain ⟨x0, x1, x2, x3, x4⟩ := five_cells HX4.out
  go_wp2_with fail
  refine (ctxadd_any l t i _ _ _ HIN.out (HT.out.keep HB4.out) HFE.out (by have := HLE.out; omega) (fun u hu => by have := HSA.out u hu; omega) (by have := HST.out; omega)).mono ?_
  rintro e w5 ⟨s5, rfl, hl5, hb5⟩
  have hd := hl5.lies
  obtain ⟨gd, od, capd, sk, rfl, hcd, hmd, hnd, hkd⟩ := liesE_last hd
  obtain ⟨ak, ck, Sk, rfl, -⟩ := hkd.out
  have HB5 := Lib.hid (below_call HB4.out hb5 HB4.out.size)
  have hx5 := (hb5.block _ (block_lt HX4.out)).trans HX4.out
  have hg5 := cell_lat hb5 HLAST.out
  have HD := Lib.hid hd
  have HDP := Lib.hid (liesE_prefix hd)
  have HDK := Lib.hid hkd
  have HND := Lib.hid hnd
  have HX5 := Lib.hid hx5
  have HC5 := Lib.hid (HL.out.keep HB5.out)
  have HT5 := Lib.hid (HT.out.keep HB5.out)
  unfold maxLen at hmd
  have HLN := HLE.out
  clear x0 x1 x2 x3 x4 HB4 HX4 HLAST HIN hb5 hl5 hd hkd
  have hS0 : Kept w5 w5.drew ∧ (w5.drew.cell? ⟨w.heap.size, 0, none⟩ = some (.int .i64 t.k) ∧ w5.drew.cell? ⟨w.heap.size, 1, none⟩ = some (.int .i64 t.i) ∧ w5.drew.cell? ⟨w.heap.size, 2, none⟩ = some (.int .i64 t.j) ∧ w5.drew.cell? ⟨w.heap.size, 3, none⟩ = some (.int .i64 t.n) ∧ w5.drew.cell? ⟨w.heap.size, 4, none⟩ = some ((.slice at0 t.kids.length ct0))) ∧ (w5.drew.cell? ⟨gd, od + l.length * 6, none⟩ = some (.int .i64 t.k) ∧ w5.drew.cell? ⟨gd, od + l.length * 6 + 1, none⟩ = some (.int .i64 t.i) ∧ w5.drew.cell? ⟨gd, od + l.length * 6 + 2, none⟩ = some (.int .i64 t.j) ∧ w5.drew.cell? ⟨gd, od + l.length * 6 + 3, none⟩ = some (.int .i64 t.n) ∧ w5.drew.cell? ⟨gd, od + l.length * 6 + 4, none⟩ = some ((.slice ak t.kids.length ck)) ∧ w5.drew.cell? ⟨gd, od + l.length * 6 + 5, none⟩ = some (.int .i64 i)) ∧ w5.drew.cell? ⟨g, l.length * 6 + 5, none⟩ = some (.int .i64 (-9)) := by
    obtain ⟨y0, y1, y2, y3, y4, y5⟩ := hnd
    exact ⟨kept_drew (kept_start _), five_cells hx5, ⟨y0, y1, y2, y3, y4, y5⟩, hg5⟩
  clear hnd hx5
  go_wp2_with fail
  refine wp_region_held_drew (S := fun w' => Kept w5 w' ∧ (w'.cell? ⟨w.heap.size, 0, none⟩ = some (.int .i64 t.k) ∧ w'.cell? ⟨w.heap.size, 1, none⟩ = some (.int .i64 t.i) ∧ w'.cell? ⟨w.heap.size, 2, none⟩ = some (.int .i64 t.j) ∧ w'.cell? ⟨w.heap.size, 3, none⟩ = some (.int .i64 t.n) ∧ w'.cell? ⟨w.heap.size, 4, none⟩ = some ((.slice at0 t.kids.length ct0))) ∧ (w'.cell? ⟨gd, od + l.length * 6, none⟩ = some (.int .i64 t.k) ∧ w'.cell? ⟨gd, od + l.length * 6 + 1, none⟩ = some (.int .i64 t.i) ∧ w'.cell? ⟨gd, od + l.length * 6 + 2, none⟩ = some (.int .i64 t.j) ∧ w'.cell? ⟨gd, od + l.length * 6 + 3, none⟩ = some (.int .i64 t.n) ∧ w'.cell? ⟨gd, od + l.length * 6 + 4, none⟩ = some ((.slice ak t.kids.length ck)) ∧ w'.cell? ⟨gd, od + l.length * 6 + 5, none⟩ = some (.int .i64 i)) ∧ w'.cell? ⟨g, l.length * 6 + 5, none⟩ = some (.int .i64 (-9))) (by kernel_rfl) ?_ (fun hHeld => ?_)
  · (try dsimp only)
    exact hS0
  generalize w5.drew = wx at hHeld hS0 ⊢
  clear hS0 hg5
  have EW := Lib.hid (show IntKind.i64.wrap ((l.length : Int) + 1) = (l.length : Int) + 1 from IntWalk.i64_in _ (by omega))
  have EN := Lib.hid (show ((l.length : Int) + 1).toNat = l.length + 1 by omega)
  have hcd1 : l.length ≤ capd := by omega
  have EP := Lib.hid (show 0 ≤ (l.length : Int) + 1 ∧ (l.length : Int) + 1 ≤ (cap4 : Int) by omega)
  have EL := Lib.hid (show (l.length : Int) < (l.length : Int) + 1 by omega)
  refine take_at 0 38 aa0 (v := ?_) (Or.inl ⟨by rfl, ?_⟩) ?_
  rotate_left 1
  · ((intro w hSw; (try dsimp only at hSw); unfold aa0; go_simp) <;> with_reducible rfl)
  (try simp only [Act.put, List.setIfInBounds_toArray, List.set_cons_zero, List.set_cons_succ])
  refine take_at 1 39 aa1 (v := ?_) (Or.inl ⟨by rfl, ?_⟩) ?_
  rotate_left 1
  · ((intro w hSw; (try dsimp only at hSw); unfold aa1; go_simp) <;> with_reducible rfl)
  (try simp only [Act.put, List.setIfInBounds_toArray, List.set_cons_zero, List.set_cons_succ])
  refine take_at 2 40 aa2 (v := ?_) (Or.inl ⟨by rfl, ?_⟩) ?_
  rotate_left 1
  · ((intro w hSw; (try dsimp only at hSw); unfold aa2; go_simp) <;> with_reducible rfl)
  (try simp only [Act.put, List.setIfInBounds_toArray, List.set_cons_zero, List.set_cons_succ])
  refine take_at 3 41 aa3 (v := ?_) (Or.inl ⟨by rfl, ?_⟩) ?_
  rotate_left 1
  · ((intro w hSw; (try dsimp only at hSw); unfold aa3; go_simp) <;> with_reducible rfl)
  (try simp only [Act.put, List.setIfInBounds_toArray, List.set_cons_zero, List.set_cons_succ])
  refine take_at 4 42 aa4 (v := ?_) (Or.inl ⟨by rfl, ?_⟩) ?_
  rotate_left 1
  · ((intro w hSw; (try dsimp only at hSw); have eW := EW.out; unfold aa4; go_simp) <;> with_reducible rfl)
  (try simp only [Act.put, List.setIfInBounds_toArray, List.set_cons_zero, List.set_cons_succ])
  refine take_at 5 43 aa5 (v := ?_) (Or.inl ⟨by rfl, ?_⟩) ?_
  rotate_left 1
  · ((intro w hSw; (try dsimp only at hSw); unfold aa5; go_simp) <;> with_reducible rfl)
  (try simp only [Act.put, List.setIfInBounds_toArray, List.set_cons_zero, List.set_cons_succ])
  refine take_at 6 44 aa6 (v := ?_) (Or.inl ⟨by rfl, ?_⟩) ?_
  rotate_left 1
  · ((intro w hSw; (try dsimp only at hSw); unfold aa6; go_simp) <;> with_reducible rfl)
  (try simp only [Act.put, List.setIfInBounds_toArray, List.set_cons_zero, List.set_cons_succ])
  refine take_at 7 45 aa7 (v := ?_) (Or.inl ⟨by rfl, ?_⟩) ?_
  rotate_left 1
  · ((intro w hSw; (try dsimp only at hSw); unfold aa7; go_simp) <;> with_reducible rfl)
  (try simp only [Act.put, List.setIfInBounds_toArray, List.set_cons_zero, List.set_cons_succ])
  refine take_at 8 46 aa8 (v := ?_) (Or.inl ⟨by rfl, ?_⟩) ?_
  rotate_left 1
  · ((intro w hSw; (try dsimp only at hSw); unfold aa8; go_simp) <;> with_reducible rfl)
  (try simp only [Act.put, List.setIfInBounds_toArray, List.set_cons_zero, List.set_cons_succ])
  refine take_at 9 47 aa9 (v := ?_) (Or.inl ⟨by rfl, ?_⟩) ?_
  rotate_left 1
  · ((intro w hSw; (try dsimp only at hSw); unfold aa9; go_simp) <;> with_reducible rfl)
  (try simp only [Act.put, List.setIfInBounds_toArray, List.set_cons_zero, List.set_cons_succ])
  refine take_at 10 48 aa10 (v := ?_) (Or.inl ⟨by rfl, ?_⟩) ?_
  rotate_left 1
  · ((intro w hSw; (try dsimp only at hSw); unfold aa10; go_simp) <;> with_reducible rfl)
  (try simp only [Act.put, List.setIfInBounds_toArray, List.set_cons_zero, List.set_cons_succ])
  refine take_at 11 49 aa11 (v := ?_) (Or.inl ⟨by rfl, ?_⟩) ?_
  rotate_left 1
  · ((intro w hSw; (try dsimp only at hSw); unfold aa11; go_simp) <;> with_reducible rfl)
  (try simp only [Act.put, List.setIfInBounds_toArray, List.set_cons_zero, List.set_cons_succ])
  refine wpAnyH_ready (rs := [12]) (by kernel_rfl) (by simp) ?_
  refine AllReadyH.cons (o := aa12) rfl (fun K hK => ?_) ?_
  · unfold aa12
    go_simp
    (go_at_call 18; (with_reducible refine Calls.mono (keepctx_any l l _ _ _ (HDP.out.keep (kept_below hHeld.1)) (HC5.out.keep (kept_below hHeld.1))) ?_); rw [ctxB_self]; rintro e wa ⟨rfl, hba⟩; have hS12 := ad_call (e := (⟨t, i⟩ : En)) hHeld hba; clear hHeld hba)
    refine hK.out _ _ ?_ (fun hHeld => ?_)
    · (try dsimp only)
      (first | exact hS23 | exact hS12 | exact hS0)
    clear hK K
    (try simp only [Act.put, List.setIfInBounds_toArray, List.set_cons_zero, List.set_cons_succ])
    refine take_at 13 51 aa13 (v := ?_) (Or.inl ⟨by rfl, ?_⟩) ?_
    rotate_left 1
    · ((intro w hSw; (try dsimp only at hSw); unfold aa13; go_simp) <;> with_reducible rfl)
    (try simp only [Act.put, List.setIfInBounds_toArray, List.set_cons_zero, List.set_cons_succ])
    refine take_at 14 52 aa14 (v := ?_) (Or.inl ⟨by rfl, ?_⟩) ?_
    rotate_left 1
    · ((intro w hSw; (try dsimp only at hSw); unfold aa14; go_simp) <;> with_reducible rfl)
    (try simp only [Act.put, List.setIfInBounds_toArray, List.set_cons_zero, List.set_cons_succ])
    refine take_at 15 53 aa15 (v := ?_) (Or.inl ⟨by rfl, ?_⟩) ?_
    rotate_left 1
    · ((intro w hSw; (try dsimp only at hSw); unfold aa15; go_simp) <;> with_reducible rfl)
    (try simp only [Act.put, List.setIfInBounds_toArray, List.set_cons_zero, List.set_cons_succ])
    refine take_at 16 54 aa16 (v := ?_) (Or.inl ⟨by rfl, ?_⟩) ?_
    rotate_left 1
    · ((intro w hSw; (try dsimp only at hSw); unfold aa16; go_simp) <;> with_reducible rfl)
    (try simp only [Act.put, List.setIfInBounds_toArray, List.set_cons_zero, List.set_cons_succ])
    refine take_at 17 55 aa17 (v := ?_) (Or.inl ⟨by rfl, ?_⟩) ?_
    rotate_left 1
    · ((intro w hSw; (try dsimp only at hSw); unfold aa17; go_simp) <;> with_reducible rfl)
    (try simp only [Act.put, List.setIfInBounds_toArray, List.set_cons_zero, List.set_cons_succ])
    refine take_at 18 56 aa18 (v := ?_) (Or.inl ⟨by rfl, ?_⟩) ?_
    rotate_left 1
    · ((intro w hSw; (try dsimp only at hSw); unfold aa18; go_simp) <;> with_reducible rfl)
    (try simp only [Act.put, List.setIfInBounds_toArray, List.set_cons_zero, List.set_cons_succ])
    refine take_at 19 57 aa19 (v := ?_) (Or.inl ⟨by rfl, ?_⟩) ?_
    rotate_left 1
    · ((intro w hSw; (try dsimp only at hSw); have eL := EL.out; unfold aa19; go_simp) <;> with_reducible rfl)
    (try simp only [Act.put, List.setIfInBounds_toArray, List.set_cons_zero, List.set_cons_succ])
    refine take_at 20 58 aa20 (v := ?_) (Or.inl ⟨by rfl, ?_⟩) ?_
    rotate_left 1
    · ((intro w hSw; (try dsimp only at hSw); unfold aa20; go_simp) <;> with_reducible rfl)
    (try simp only [Act.put, List.setIfInBounds_toArray, List.set_cons_zero, List.set_cons_succ])
    refine take_at 21 59 aa21 (v := ?_) (Or.inl ⟨by rfl, ?_⟩) ?_
    rotate_left 1
    · ((intro w hSw; (try dsimp only at hSw); unfold aa21; go_simp) <;> with_reducible rfl)
    (try simp only [Act.put, List.setIfInBounds_toArray, List.set_cons_zero, List.set_cons_succ])
    refine take_at 22 60 aa22 (v := ?_) (Or.inl ⟨by rfl, ?_⟩) ?_
    rotate_left 1
    · ((intro w hSw; (try dsimp only at hSw); unfold aa22; go_simp) <;> with_reducible rfl)
    (try simp only [Act.put, List.setIfInBounds_toArray, List.set_cons_zero, List.set_cons_succ])
    refine wpAnyH_ready (rs := [23]) (by kernel_rfl) (by simp) ?_
    refine AllReadyH.cons (o := aa23) rfl (fun K hK => ?_) ?_
    · unfold aa23
      go_simp
      (go_at_call 13; (with_reducible refine Calls.mono (keepsame_eq t _ _ _ (kept_lies hHeld.1 HDK.out) (kept_lies hHeld.1 HT5.out)) ?_); rintro e wb ⟨rfl, hbb⟩; have hS23 := ad_call (e := (⟨t, i⟩ : En)) hHeld hbb; clear hHeld hbb)
      refine hK.out _ _ ?_ (fun hHeld => ?_)
      · (try dsimp only)
        (first | exact hS23 | exact hS12 | exact hS0)
      clear hK K
      (try simp only [Act.put, List.setIfInBounds_toArray, List.set_cons_zero, List.set_cons_succ])
      refine take_at 24 62 aa24 (v := ?_) (Or.inl ⟨by rfl, ?_⟩) ?_
      rotate_left 1
      · ((intro w hSw; (try dsimp only at hSw); unfold aa24; go_simp) <;> with_reducible rfl)
      (try simp only [Act.put, List.setIfInBounds_toArray, List.set_cons_zero, List.set_cons_succ])
      refine take_at 25 63 aa25 (v := ?_) (Or.inl ⟨by rfl, ?_⟩) ?_
      rotate_left 1
      · ((intro w hSw; (try dsimp only at hSw); unfold aa25; go_simp) <;> with_reducible rfl)
      (try simp only [Act.put, List.setIfInBounds_toArray, List.set_cons_zero, List.set_cons_succ])
      refine take_at 26 64 aa26 (v := ?_) (Or.inl ⟨by rfl, ?_⟩) ?_
      rotate_left 1
      · ((intro w hSw; (try dsimp only at hSw); unfold aa26; go_simp) <;> with_reducible rfl)
      (try simp only [Act.put, List.setIfInBounds_toArray, List.set_cons_zero, List.set_cons_succ])
      refine take_at 27 65 aa27 (v := ?_) (Or.inl ⟨by rfl, ?_⟩) ?_
      rotate_left 1
      · ((intro w hSw; (try dsimp only at hSw); unfold aa27; go_simp) <;> with_reducible rfl)
      (try simp only [Act.put, List.setIfInBounds_toArray, List.set_cons_zero, List.set_cons_succ])
      refine take_at 28 66 aa28 (v := ?_) (Or.inl ⟨by rfl, ?_⟩) ?_
      rotate_left 1
      · ((intro w hSw; (try dsimp only at hSw); unfold aa28; go_simp) <;> with_reducible rfl)
      (try simp only [Act.put, List.setIfInBounds_toArray, List.set_cons_zero, List.set_cons_succ])
      refine take_at 29 67 aa29 (v := ?_) (Or.inl ⟨by rfl, ?_⟩) ?_
      rotate_left 1
      · ((intro w hSw; (try dsimp only at hSw); unfold aa29; go_simp) <;> with_reducible rfl)
      (try simp only [Act.put, List.setIfInBounds_toArray, List.set_cons_zero, List.set_cons_succ])
      refine take_at 30 68 aa30 (v := ?_) (Or.inl ⟨by rfl, ?_⟩) ?_
      rotate_left 1
      · ((intro w hSw; (try dsimp only at hSw); have eL := EL.out; unfold aa30; go_simp) <;> with_reducible rfl)
      (try simp only [Act.put, List.setIfInBounds_toArray, List.set_cons_zero, List.set_cons_succ])
      refine take_at 31 69 aa31 (v := ?_) (Or.inl ⟨by rfl, ?_⟩) ?_
      rotate_left 1
      · ((intro w hSw; (try dsimp only at hSw); unfold aa31; go_simp) <;> with_reducible rfl)
      (try simp only [Act.put, List.setIfInBounds_toArray, List.set_cons_zero, List.set_cons_succ])
      refine take_at 32 70 aa32 (v := ?_) (Or.inl ⟨by rfl, ?_⟩) ?_
      rotate_left 1
      · ((intro w hSw; (try dsimp only at hSw); unfold aa32; go_simp) <;> with_reducible rfl)
      (try simp only [Act.put, List.setIfInBounds_toArray, List.set_cons_zero, List.set_cons_succ])
      refine take_at 33 71 aa33 (v := ?_) (Or.inl ⟨by rfl, ?_⟩) ?_
      rotate_left 1
      · ((intro w hSw; (try dsimp only at hSw); unfold aa33; go_simp) <;> with_reducible rfl)
      (try simp only [Act.put, List.setIfInBounds_toArray, List.set_cons_zero, List.set_cons_succ])
      refine take_at 34 72 aa34 (v := ?_) (Or.inl ⟨by rfl, ?_⟩) ?_
      rotate_left 1
      · ((intro w hSw; (try dsimp only at hSw); unfold aa34; go_simp) <;> with_reducible rfl)
      (try simp only [Act.put, List.setIfInBounds_toArray, List.set_cons_zero, List.set_cons_succ])
      refine take_at 35 73 aa35 (v := ?_) (Or.inl ⟨by rfl, ?_⟩) ?_
      rotate_left 1
      · ((intro w hSw; (try dsimp only at hSw); unfold aa35; go_simp) <;> with_reducible rfl)
      (try simp only [Act.put, List.setIfInBounds_toArray, List.set_cons_zero, List.set_cons_succ])
      refine take_at 36 74 aa36 (v := ?_) (Or.inl ⟨by rfl, ?_⟩) ?_
      rotate_left 1
      · ((intro w hSw; (try dsimp only at hSw); unfold aa36; go_simp) <;> with_reducible rfl)
      (try simp only [Act.put, List.setIfInBounds_toArray, List.set_cons_zero, List.set_cons_succ])
      refine take_at 37 75 aa37 (v := ?_) (Or.inl ⟨by rfl, ?_⟩) ?_
      rotate_left 1
      · ((intro w hSw; (try dsimp only at hSw); unfold aa37; go_simp) <;> with_reducible rfl)
      (try simp only [Act.put, List.setIfInBounds_toArray, List.set_cons_zero, List.set_cons_succ])
      refine take_at 38 76 aa38 (v := ?_) (Or.inl ⟨by rfl, ?_⟩) ?_
      rotate_left 1
      · ((intro w hSw; (try dsimp only at hSw); unfold aa38; go_simp) <;> with_reducible rfl)
      (try simp only [Act.put, List.setIfInBounds_toArray, List.set_cons_zero, List.set_cons_succ])
      refine take_at 39 77 aa39 (v := ?_) (Or.inl ⟨by rfl, ?_⟩) ?_
      rotate_left 1
      · ((intro w hSw; (try dsimp only at hSw); unfold aa39; go_simp) <;> with_reducible rfl)
      (try simp only [Act.put, List.setIfInBounds_toArray, List.set_cons_zero, List.set_cons_succ])
      refine take_at 40 78 aa40 (v := ?_) (Or.inl ⟨by rfl, ?_⟩) ?_
      rotate_left 1
      · ((intro w hSw; (try dsimp only at hSw); have eW := EW.out; unfold aa40; go_simp) <;> with_reducible rfl)
      (try simp only [Act.put, List.setIfInBounds_toArray, List.set_cons_zero, List.set_cons_succ])
      refine take_at 41 79 aa41 (v := ?_) (Or.inl ⟨by rfl, ?_⟩) ?_
      rotate_left 1
      · ((intro w hSw; (try dsimp only at hSw); have eN := EN.out; have eP := EP.out; unfold aa41; go_simp) <;> with_reducible rfl)
      (try simp only [Act.put, List.setIfInBounds_toArray, List.set_cons_zero, List.set_cons_succ])
      refine take_at 42 80 aa42 (v := ?_) (Or.inl ⟨by rfl, ?_⟩) ?_
      rotate_left 1
      · ((intro w hSw; (try dsimp only at hSw); unfold aa42; go_simp) <;> with_reducible rfl)
      (try simp only [Act.put, List.setIfInBounds_toArray, List.set_cons_zero, List.set_cons_succ])
      refine take_at 43 81 aa43 (v := ?_) (Or.inl ⟨by rfl, ?_⟩) ?_
      rotate_left 1
      · ((intro w hSw; (try dsimp only at hSw); unfold aa43; go_simp) <;> with_reducible rfl)
      (try simp only [Act.put, List.setIfInBounds_toArray, List.set_cons_zero, List.set_cons_succ])
      refine take_at 44 82 aa44 (v := ?_) (Or.inl ⟨by rfl, ?_⟩) ?_
      rotate_left 1
      · ((intro w hSw; (try dsimp only at hSw); have eL := EL.out; unfold aa44; go_simp) <;> with_reducible rfl)
      (try simp only [Act.put, List.setIfInBounds_toArray, List.set_cons_zero, List.set_cons_succ])
      refine take_at 45 83 aa45 (v := ?_) (Or.inl ⟨by rfl, ?_⟩) ?_
      rotate_left 1
      · ((intro w hSw; (try dsimp only at hSw); unfold aa45; go_simp) <;> with_reducible rfl)
      (try simp only [Act.put, List.setIfInBounds_toArray, List.set_cons_zero, List.set_cons_succ])
      refine take_at 46 84 aa46 (v := ?_) (Or.inl ⟨by rfl, ?_⟩) ?_
      rotate_left 1
      · ((intro w hSw; (try dsimp only at hSw); unfold aa46; go_simp) <;> with_reducible rfl)
      (try simp only [Act.put, List.setIfInBounds_toArray, List.set_cons_zero, List.set_cons_succ])
      refine take_at 47 85 aa47 (v := ?_) (Or.inl ⟨by rfl, ?_⟩) ?_
      rotate_left 1
      · ((intro w hSw; (try dsimp only at hSw); unfold aa47; go_simp) <;> with_reducible rfl)
      (try simp only [Act.put, List.setIfInBounds_toArray, List.set_cons_zero, List.set_cons_succ])
      refine take_at 48 86 aa48 (v := ?_) (Or.inl ⟨by rfl, ?_⟩) ?_
      rotate_left 1
      · ((intro w hSw; (try dsimp only at hSw); unfold aa48; go_simp) <;> with_reducible rfl)
      (try simp only [Act.put, List.setIfInBounds_toArray, List.set_cons_zero, List.set_cons_succ])
      refine wpAnyH_done (by kernel_rfl) ?_ _
      have HK7 := Lib.hid hHeld.1
      clear hHeld
      obtain ⟨x0, x1, x2, x3, x4⟩ := five_cells ((HK7.out.block _ (block_lt HX5.out)).trans HX5.out)
      have HDL : Hid ((l ++ [(⟨t, i⟩ : En)]).length ≤ 100000) := by show (l ++ [(⟨t, i⟩ : En)]).length ≤ 100000; simp; omega
      have HDD : Hid (∀ u ∈ l ++ [(⟨t, i⟩ : En)], u.a.deep ≤ 100000) := by
        intro u hu
        have := deep_le_size u.a
        rcases List.mem_append.1 hu with h | h
        · have := HSA.out u h; omega
        · rw [List.mem_singleton.1 h]; have := HST.out; have := deep_le_size t; show t.deep ≤ 100000; omega
      by_cases hgood : rightC l = true ∧ t.markedB = true ∧ t.freeB ≤ l.length ∧ 0 ≤ i ∧ i ≤ 1000 ∧ 0 ≤ k ∧ k < l.length
      · obtain ⟨h1, h2, h3, h4, h5, h6, h7⟩ := hgood
        obtain ⟨q, rfl⟩ : ∃ q : Nat, k = (q : Int) := ⟨k.toNat, by omega⟩
        have hq : q < l.length := by omega
        have H1 := Lib.hid h1
        have H2 := Lib.hid h2
        have HRD := Lib.hid (add_right (E := (⟨t, i⟩ : En)) h1 (goodE_iff.2 ⟨h4, h5, h2, h3⟩))
        have HA0 := Lib.hid (at_last HRD.out)
        have HA1 := Lib.hid (at_next hq HRD.out)
        have HA2 := Lib.hid (at_here hq h1)
        have HLM := Lib.hid (List.getElem_mem (show l.length - 1 - q < l.length by omega))
        have hgz := goodE_iff.1 (rightC_at h1 (show l.length - 1 - q < l.length by omega))
        obtain ⟨z, hz⟩ : ∃ z, l[l.length - 1 - q] = z := ⟨_, rfl⟩
        rw [hz] at HA1 HA2 HLM hgz
        obtain ⟨X, hX⟩ : ∃ X, t.liftB 1 0 = X := ⟨_, rfl⟩
        obtain ⟨Z, hZ⟩ : ∃ Z, z.a.liftB ((q : Int) + 1) 0 = Z := ⟨_, rfl⟩
        obtain ⟨Y, hY⟩ : ∃ Y, z.a.liftB ((q : Int) + 1 + 1) 0 = Y := ⟨_, rfl⟩
        have hzs := HSA.out z HLM.out
        have hzr := marked_right hgz.2.2.1
        have hzf : z.a.freeN ≤ 1048576 := by have := hgz.2.2.2; unfold Tm.freeB at this; rw [if_pos hzr] at this; omega
        have HYE : Hid (Z.liftB 1 0 = Y) := by rw [← hZ, ← hY]; exact liftB_twice (by omega) (by omega) (by omega) hzr hzf (by have := deep_le_size z.a; omega)
        have HDZ : Hid (Z.deep ≤ 100000) := by rw [← hZ]; exact liftB_deep _ _ _ (by omega)
        have HDT : Hid (t.deep ≤ 100000) := by have := HST.out; have := deep_le_size t; show t.deep ≤ 100000; omega
        have HXE := Lib.hid hX
        have HI1 := Lib.hid (show I64 1 by unfold I64; omega)
        have HI0 := Lib.hid (show I64 0 by unfold I64; omega)
        have HA0' : Hid (AtIs (l ++ [(⟨t, i⟩ : En)]) 0 X i true) := by rw [← hX]; exact HA0.out
        have HA1' : Hid (AtIs (l ++ [(⟨t, i⟩ : En)]) ((q : Int) + 1) Y z.i true) := by rw [← hY]; exact HA1.out
        have HA2' : Hid (AtIs l (q : Int) Z z.i true) := by rw [← hZ]; exact HA2.out
        have HDM : Hid (∀ u ∈ l, u.a.deep ≤ 100000) := fun u hu => HDD.out u (List.mem_append_left _ hu)
        have f1 : decide ((l.length : Int) < t.freeB) = false := decide_eq_false (by omega)
        have f2 : decide (i < 0) = false := decide_eq_false (by omega)
        have f3 : decide (1000 < i) = false := decide_eq_false (by omega)
        have f4 : decide ((q : Int) < 0) = false := decide_eq_false (by omega)
        have f5 : decide ((l.length : Int) ≤ (q : Int)) = false := decide_eq_false (by omega)
        have f6 : decide (l.length ≤ q) = false := decide_eq_false (by omega)
        clear h1 h2 h3 HA0 HA1 HA2 hgz hz hX hZ hY hzr hzf hzs HLM
        go_wp2_with fail
        refine (refctxright_any l _ _ (HC5.out.keep (kept_below HK7.out))).mono ?_
        rw [H1.out]
        rintro e w8 ⟨rfl, hb8⟩
        have HK8 := Lib.hid (kept_call HK7.out hb8)
        clear x0 x1 x2 x3 x4 hb8
        obtain ⟨x0, x1, x2, x3, x4⟩ := five_cells ((HK8.out.block _ (block_lt HX5.out)).trans HX5.out)
        go_wp2_with fail
        refine (refmarked_any t _ _ (HT5.out.keep (kept_below HK8.out))).mono ?_
        rw [H2.out]
        rintro e w9 ⟨rfl, hb9⟩
        have HK9 := Lib.hid (kept_call HK8.out hb9)
        clear x0 x1 x2 x3 x4 hb9 HK8
        obtain ⟨x0, x1, x2, x3, x4⟩ := five_cells ((HK9.out.block _ (block_lt HX5.out)).trans HX5.out)
        go_wp2_with fail
        refine (refFree_any t _ _ (HT5.out.keep (kept_below HK9.out))).mono ?_
        rintro e w10 ⟨rfl, hb10⟩
        have HK10 := Lib.hid (kept_call HK9.out hb10)
        clear x0 x1 x2 x3 x4 hb10 HK9
        go_wp2_with fail
        refine (ctxat_any (l ++ [(⟨t, i⟩ : En)]) 0 _ _ X i true (HD.out.keep (kept_below HK10.out)) HA0'.out HDL.out HDD.out).mono ?_
        rintro e u1 ⟨s1, rfl, hl1, hq1⟩
        obtain ⟨ax, cx, rfl, -, -⟩ := hl1.out
        have HK11 := Lib.hid (kept_call HK10.out hq1)
        have hlx := hl1.lies
        have hva := (Below.refl u1.heap.size u1).alloc (Nat.le_refl _) (.cells #[.int .i64 X.k, .int .i64 X.i, .int .i64 X.j, .int .i64 X.n, (.slice ax X.kids.length cx)] 26)
        have HV1 := Lib.hid (kept_call HK11.out hva)
        have HBX1 := Lib.hid (alloc_new u1 (.cells #[.int .i64 X.k, .int .i64 X.i, .int .i64 X.j, .int .i64 X.n, (.slice ax X.kids.length cx)] 26))
        have HLX1 := Lib.hid (hlx.keep hva)
        clear hl1 hq1 HK10 hlx hva
        go_wp2_with fail
        obtain ⟨bx, hbx⟩ : ∃ b, u1.heap.size = b := ⟨_, rfl⟩
        rw [hbx] at HBX1
        (try rw [hbx])
        refine (ctxat_any (l ++ [(⟨t, i⟩ : En)]) ((q : Int) + 1) _ _ Y z.i true (HD.out.keep (kept_below HV1.out)) HA1'.out HDL.out HDD.out).mono ?_
        generalize u1.alloc (.cells #[.int .i64 X.k, .int .i64 X.i, .int .i64 X.j, .int .i64 X.n, (.slice ax X.kids.length cx)] 26) = V2 at HV1 HBX1 HLX1 ⊢
        clear hbx HK11
        rintro e u2 ⟨s2, rfl, hl2, hq2⟩
        obtain ⟨ay, cy, rfl, -, -⟩ := hl2.out
        have hly := hl2.lies
        have hva := (Below.refl u2.heap.size u2).alloc (Nat.le_refl _) (.cells #[.int .i64 Y.k, .int .i64 Y.i, .int .i64 Y.j, .int .i64 Y.n, (.slice ay Y.kids.length cy)] 26)
        have hq3 := hq2.trans (Below.mono hva hq2.size)
        have HV2 := Lib.hid (kept_call HV1.out hq3)
        have HBX2 := Lib.hid ((hq3.block _ (block_lt HBX1.out)).trans HBX1.out)
        have HLX2 := Lib.hid (HLX1.out.keep hq3)
        have HBY2 := Lib.hid (alloc_new u2 (.cells #[.int .i64 Y.k, .int .i64 Y.i, .int .i64 Y.j, .int .i64 Y.n, (.slice ay Y.kids.length cy)] 26))
        have HLY2 := Lib.hid (hly.keep hva)
        clear hl2 hq2 hly hva hq3 HV1 HBX1 HLX1
        go_wp2_with fail
        obtain ⟨by', hby⟩ : ∃ b, u2.heap.size = b := ⟨_, rfl⟩
        rw [hby] at HBY2
        (try rw [hby])
        refine (ctxat_any l (q : Int) _ _ Z z.i true (HC5.out.keep (kept_below HV2.out)) HA2'.out (by omega) HDM.out).mono ?_
        generalize u2.alloc (.cells #[.int .i64 Y.k, .int .i64 Y.i, .int .i64 Y.j, .int .i64 Y.n, (.slice ay Y.kids.length cy)] 26) = V3 at HV2 HBX2 HLX2 HBY2 HLY2 ⊢
        clear hby
        rintro e u3 ⟨s3', rfl, hl3, hq3⟩
        obtain ⟨az, cz, rfl, -, -⟩ := hl3.out
        have hlz := hl3.lies
        have hva := (Below.refl u3.heap.size u3).alloc (Nat.le_refl _) (.cells #[.int .i64 Z.k, .int .i64 Z.i, .int .i64 Z.j, .int .i64 Z.n, (.slice az Z.kids.length cz)] 26)
        have hq4 := hq3.trans (Below.mono hva hq3.size)
        have HV3 := Lib.hid (kept_call HV2.out hq4)
        have HBX3 := Lib.hid ((hq4.block _ (block_lt HBX2.out)).trans HBX2.out)
        have HBY3 := Lib.hid ((hq4.block _ (block_lt HBY2.out)).trans HBY2.out)
        have HLX := Lib.hid (HLX2.out.keep hq4)
        have HLY := Lib.hid (HLY2.out.keep hq4)
        have HBZ3 := Lib.hid (alloc_new u3 (.cells #[.int .i64 Z.k, .int .i64 Z.i, .int .i64 Z.j, .int .i64 Z.n, (.slice az Z.kids.length cz)] 26))
        have HLZ := Lib.hid (hlz.keep hva)
        clear hl3 hq3 hlz hva hq4 HV2 HBX2 HLX2 HBY2 HLY2
        go_upto_region 12 with fail
        obtain ⟨bz, hbz⟩ : ∃ b, u3.heap.size = b := ⟨_, rfl⟩
        rw [hbz] at HBZ3
        (try rw [hbz])
        generalize u3.alloc (.cells #[.int .i64 Z.k, .int .i64 Z.i, .int .i64 Z.j, .int .i64 Z.n, (.slice az Z.kids.length cz)] 26) = V4 at HV3 HBX3 HBY3 HLX HLY HBZ3 HLZ ⊢
        clear hbz
        have HBV := Lib.hid (HB5.out.trans (Below.mono (kept_below HV3.out) HB5.out.size))
        have HTV := Lib.hid (HT5.out.keep (kept_below HV3.out))
        obtain ⟨du, hu1, hu2⟩ := under_term
        have hS0 : FourB V4 w.heap.size bx by' bz t X Y Z (.slice at0 t.kids.length ct0) (.slice ax X.kids.length cx) (.slice ay Y.kids.length cy) (.slice az Z.kids.length cz) V4.drew := ⟨kept_drew (kept_start _), ((kept_below HV3.out).block _ (block_lt HX5.out)).trans HX5.out, HBX3.out, HBY3.out, HBZ3.out⟩
        refine wp_region_held_drew (S := fun w' => FourB V4 w.heap.size bx by' bz t X Y Z (.slice at0 t.kids.length ct0) (.slice ax X.kids.length cx) (.slice ay Y.kids.length cy) (.slice az Z.kids.length cz) w') (by kernel_rfl) ?_ (fun hHeld => ?_)
        · (try dsimp only)
          exact hS0
        generalize V4.drew = wx at hHeld hS0 ⊢
        clear hS0 f1 f2 f3 f4 f5 f6
        refine take_at 0 149 ab0 (v := ?_) (Or.inl ⟨by rfl, ?_⟩) ?_
        rotate_left 1
        · ((intro w hSw; (try dsimp only at hSw); unfold ab0; go_simp) <;> with_reducible rfl)
        (try simp only [Act.put, List.setIfInBounds_toArray, List.set_cons_zero, List.set_cons_succ])
        refine take_at 1 150 ab1 (v := ?_) (Or.inl ⟨by rfl, ?_⟩) ?_
        rotate_left 1
        · ((intro w hSw; (try dsimp only at hSw); unfold ab1; go_simp) <;> with_reducible rfl)
        (try simp only [Act.put, List.setIfInBounds_toArray, List.set_cons_zero, List.set_cons_succ])
        refine take_at 2 151 ab2 (v := ?_) (Or.inl ⟨by rfl, ?_⟩) ?_
        rotate_left 1
        · ((intro w hSw; (try dsimp only at hSw); unfold ab2; go_simp) <;> with_reducible rfl)
        (try simp only [Act.put, List.setIfInBounds_toArray, List.set_cons_zero, List.set_cons_succ])
        refine take_at 3 152 ab3 (v := ?_) (Or.inl ⟨by rfl, ?_⟩) ?_
        rotate_left 1
        · ((intro w hSw; (try dsimp only at hSw); unfold ab3; go_simp) <;> with_reducible rfl)
        (try simp only [Act.put, List.setIfInBounds_toArray, List.set_cons_zero, List.set_cons_succ])
        refine take_at 4 153 ab4 (v := ?_) (Or.inl ⟨by rfl, ?_⟩) ?_
        rotate_left 1
        · ((intro w hSw; (try dsimp only at hSw); unfold ab4; go_simp) <;> with_reducible rfl)
        (try simp only [Act.put, List.setIfInBounds_toArray, List.set_cons_zero, List.set_cons_succ])
        refine take_at 5 154 ab5 (v := ?_) (Or.inl ⟨by rfl, ?_⟩) ?_
        rotate_left 1
        · ((intro w hSw; (try dsimp only at hSw); unfold ab5; go_simp) <;> with_reducible rfl)
        (try simp only [Act.put, List.setIfInBounds_toArray, List.set_cons_zero, List.set_cons_succ])
        refine take_at 6 155 ab6 (v := ?_) (Or.inl ⟨by rfl, ?_⟩) ?_
        rotate_left 1
        · ((intro w hSw; (try dsimp only at hSw); unfold ab6; go_simp) <;> with_reducible rfl)
        (try simp only [Act.put, List.setIfInBounds_toArray, List.set_cons_zero, List.set_cons_succ])
        refine take_at 7 156 ab7 (v := ?_) (Or.inl ⟨by rfl, ?_⟩) ?_
        rotate_left 1
        · ((intro w hSw; (try dsimp only at hSw); unfold ab7; go_simp) <;> with_reducible rfl)
        (try simp only [Act.put, List.setIfInBounds_toArray, List.set_cons_zero, List.set_cons_succ])
        refine take_at 8 157 ab8 (v := ?_) (Or.inl ⟨by rfl, ?_⟩) ?_
        rotate_left 1
        · ((intro w hSw; (try dsimp only at hSw); unfold ab8; go_simp) <;> with_reducible rfl)
        (try simp only [Act.put, List.setIfInBounds_toArray, List.set_cons_zero, List.set_cons_succ])
        refine take_at 9 158 ab9 (v := ?_) (Or.inl ⟨by rfl, ?_⟩) ?_
        rotate_left 1
        · ((intro w hSw; (try dsimp only at hSw); unfold ab9; go_simp) <;> with_reducible rfl)
        (try simp only [Act.put, List.setIfInBounds_toArray, List.set_cons_zero, List.set_cons_succ])
        refine take_at 10 159 ab10 (v := ?_) (Or.inl ⟨by rfl, ?_⟩) ?_
        rotate_left 1
        · ((intro w hSw; (try dsimp only at hSw); unfold ab10; go_simp) <;> with_reducible rfl)
        (try simp only [Act.put, List.setIfInBounds_toArray, List.set_cons_zero, List.set_cons_succ])
        refine take_at 11 160 ab11 (v := ?_) (Or.inl ⟨by rfl, ?_⟩) ?_
        rotate_left 1
        · ((intro w hSw; (try dsimp only at hSw); unfold ab11; go_simp) <;> with_reducible rfl)
        (try simp only [Act.put, List.setIfInBounds_toArray, List.set_cons_zero, List.set_cons_succ])
        refine take_at 12 161 ab12 (v := ?_) (Or.inl ⟨by rfl, ?_⟩) ?_
        rotate_left 1
        · ((intro w hSw; (try dsimp only at hSw); unfold ab12; go_simp) <;> with_reducible rfl)
        (try simp only [Act.put, List.setIfInBounds_toArray, List.set_cons_zero, List.set_cons_succ])
        refine take_at 13 162 ab13 (v := ?_) (Or.inl ⟨by rfl, ?_⟩) ?_
        rotate_left 1
        · ((intro w hSw; (try dsimp only at hSw); unfold ab13; go_simp) <;> with_reducible rfl)
        (try simp only [Act.put, List.setIfInBounds_toArray, List.set_cons_zero, List.set_cons_succ])
        refine take_at 14 163 ab14 (v := ?_) (Or.inl ⟨by rfl, ?_⟩) ?_
        rotate_left 1
        · ((intro w hSw; (try dsimp only at hSw); unfold ab14; go_simp) <;> with_reducible rfl)
        (try simp only [Act.put, List.setIfInBounds_toArray, List.set_cons_zero, List.set_cons_succ])
        refine take_at 15 164 ab15 (v := ?_) (Or.inl ⟨by rfl, ?_⟩) ?_
        rotate_left 1
        · ((intro w hSw; (try dsimp only at hSw); unfold ab15; go_simp) <;> with_reducible rfl)
        (try simp only [Act.put, List.setIfInBounds_toArray, List.set_cons_zero, List.set_cons_succ])
        refine take_at 16 165 ab16 (v := ?_) (Or.inl ⟨by rfl, ?_⟩) ?_
        rotate_left 1
        · ((intro w hSw; (try dsimp only at hSw); unfold ab16; go_simp) <;> with_reducible rfl)
        (try simp only [Act.put, List.setIfInBounds_toArray, List.set_cons_zero, List.set_cons_succ])
        refine take_at 17 166 ab17 (v := ?_) (Or.inl ⟨by rfl, ?_⟩) ?_
        rotate_left 1
        · ((intro w hSw; (try dsimp only at hSw); unfold ab17; go_simp) <;> with_reducible rfl)
        (try simp only [Act.put, List.setIfInBounds_toArray, List.set_cons_zero, List.set_cons_succ])
        refine take_at 18 167 ab18 (yields_row bx _ _ _ #[.int .i64 X.k, .int .i64 X.i, .int .i64 X.j, .int .i64 X.n, (.slice ax X.kids.length cx)] _ du (by rfl) rfl (by rfl) (fun w' h => h.2.2.1) hu1 (by cases du <;> first | rfl | exact hu2) size_term) ?_
        (try simp only [Act.put, List.setIfInBounds_toArray, List.set_cons_zero, List.set_cons_succ])
        refine take_at 19 168 ab19 (yields_row w.heap.size _ _ _ #[.int .i64 t.k, .int .i64 t.i, .int .i64 t.j, .int .i64 t.n, (.slice at0 t.kids.length ct0)] _ du (by rfl) rfl (by rfl) (fun w' h => h.2.1) hu1 (by cases du <;> first | rfl | exact hu2) size_term) ?_
        (try simp only [Act.put, List.setIfInBounds_toArray, List.set_cons_zero, List.set_cons_succ])
        refine wpAnyH_ready (rs := [20]) (by kernel_rfl) (by simp) ?_
        refine AllReadyH.cons (o := ab20) rfl (fun K hK => ?_) ?_
        · unfold ab20
          go_simp
          (go_at_call 26; (with_reducible refine Calls.mono (reflift_any t 1 0 _ _ (HTV.out.keep (fb_below hHeld)) HI1.out HI0.out HDT.out) ?_); rw [HXE.out]; rintro e v20 ⟨s20, rfl, hl20, hb20⟩; have hS20 := fb_call hHeld hb20; obtain ⟨al, cl, rfl, -, -⟩ := hl20.out; have HL20 := Lib.hid hl20.lies; clear hl20; clear hHeld hb20)
          refine hK.out _ _ ?_ (fun hHeld => ?_)
          · (try dsimp only)
            (first | exact hS30 | exact hS27 | exact hS26 | exact hS21 | exact hS20 | exact hS0)
          clear hK K
          (try simp only [Act.put, List.setIfInBounds_toArray, List.set_cons_zero, List.set_cons_succ])
          refine wpAnyH_ready (rs := [21]) (by kernel_rfl) (by simp) ?_
          refine AllReadyH.cons (o := ab21) rfl (fun K hK => ?_) ?_
          · unfold ab21
            go_simp
            (go_at_call 13; (with_reducible refine Calls.mono (keepsame_eq X _ _ _ (HLX.out.keep (fb_below hHeld)) HL20.out) ?_); rintro e v21 ⟨rfl, hb21⟩; have hS21 := fb_call hHeld hb21; clear hHeld hb21)
            refine hK.out _ _ ?_ (fun hHeld => ?_)
            · (try dsimp only)
              (first | exact hS30 | exact hS27 | exact hS26 | exact hS21 | exact hS20 | exact hS0)
            clear hK K
            (try simp only [Act.put, List.setIfInBounds_toArray, List.set_cons_zero, List.set_cons_succ])
            refine take_at 22 171 ab22 (v := ?_) (Or.inl ⟨by rfl, ?_⟩) ?_
            rotate_left 1
            · ((intro w hSw; (try dsimp only at hSw); unfold ab22; go_simp) <;> with_reducible rfl)
            (try simp only [Act.put, List.setIfInBounds_toArray, List.set_cons_zero, List.set_cons_succ])
            refine take_at 23 172 ab23 (v := ?_) (Or.inl ⟨by rfl, ?_⟩) ?_
            rotate_left 1
            · ((intro w hSw; (try dsimp only at hSw); unfold ab23; go_simp) <;> with_reducible rfl)
            (try simp only [Act.put, List.setIfInBounds_toArray, List.set_cons_zero, List.set_cons_succ])
            refine take_at 24 173 ab24 (yields_row by' _ _ _ #[.int .i64 Y.k, .int .i64 Y.i, .int .i64 Y.j, .int .i64 Y.n, (.slice ay Y.kids.length cy)] _ du (by rfl) rfl (by rfl) (fun w' h => h.2.2.2.1) hu1 (by cases du <;> first | rfl | exact hu2) size_term) ?_
            (try simp only [Act.put, List.setIfInBounds_toArray, List.set_cons_zero, List.set_cons_succ])
            refine take_at 25 174 ab25 (yields_row bz _ _ _ #[.int .i64 Z.k, .int .i64 Z.i, .int .i64 Z.j, .int .i64 Z.n, (.slice az Z.kids.length cz)] _ du (by rfl) rfl (by rfl) (fun w' h => h.2.2.2.2) hu1 (by cases du <;> first | rfl | exact hu2) size_term) ?_
            (try simp only [Act.put, List.setIfInBounds_toArray, List.set_cons_zero, List.set_cons_succ])
            refine wpAnyH_ready (rs := [26]) (by kernel_rfl) (by simp) ?_
            refine AllReadyH.cons (o := ab26) rfl (fun K hK => ?_) ?_
            · unfold ab26
              go_simp
              (go_at_call 26; (with_reducible refine Calls.mono (reflift_any Z 1 0 _ _ (HLZ.out.keep (fb_below hHeld)) HI1.out HI0.out HDZ.out) ?_); rw [HYE.out]; rintro e v26 ⟨s26, rfl, hl26, hb26⟩; have hS26 := fb_call hHeld hb26; obtain ⟨am, cm, rfl, -, -⟩ := hl26.out; have HL26 := Lib.hid hl26.lies; clear hl26; clear hHeld hb26)
              refine hK.out _ _ ?_ (fun hHeld => ?_)
              · (try dsimp only)
                (first | exact hS30 | exact hS27 | exact hS26 | exact hS21 | exact hS20 | exact hS0)
              clear hK K
              (try simp only [Act.put, List.setIfInBounds_toArray, List.set_cons_zero, List.set_cons_succ])
              refine wpAnyH_ready (rs := [27]) (by kernel_rfl) (by simp) ?_
              refine AllReadyH.cons (o := ab27) rfl (fun K hK => ?_) ?_
              · unfold ab27
                go_simp
                (go_at_call 13; (with_reducible refine Calls.mono (keepsame_eq Y _ _ _ (HLY.out.keep (fb_below hHeld)) HL26.out) ?_); rintro e v27 ⟨rfl, hb27⟩; have hS27 := fb_call hHeld hb27; clear hHeld hb27)
                refine hK.out _ _ ?_ (fun hHeld => ?_)
                · (try dsimp only)
                  (first | exact hS30 | exact hS27 | exact hS26 | exact hS21 | exact hS20 | exact hS0)
                clear hK K
                (try simp only [Act.put, List.setIfInBounds_toArray, List.set_cons_zero, List.set_cons_succ])
                refine take_at 28 177 ab28 (v := ?_) (Or.inl ⟨by rfl, ?_⟩) ?_
                rotate_left 1
                · ((intro w hSw; (try dsimp only at hSw); unfold ab28; go_simp) <;> with_reducible rfl)
                (try simp only [Act.put, List.setIfInBounds_toArray, List.set_cons_zero, List.set_cons_succ])
                refine take_at 29 178 ab29 (v := ?_) (Or.inl ⟨by rfl, ?_⟩) ?_
                rotate_left 1
                · ((intro w hSw; (try dsimp only at hSw); unfold ab29; go_simp) <;> with_reducible rfl)
                (try simp only [Act.put, List.setIfInBounds_toArray, List.set_cons_zero, List.set_cons_succ])
                refine wpAnyH_ready (rs := [30]) (by kernel_rfl) (by simp) ?_
                refine AllReadyH.cons (o := ab30) rfl (fun K hK => ?_) ?_
                · unfold ab30
                  go_simp
                  (go_at_call 14; (with_reducible refine Calls.mono (wakes11_any _) ?_); rintro e v30 ⟨rfl, hb30⟩; have hS30 := fb_call hHeld hb30; clear hHeld hb30)
                  refine hK.out _ _ ?_ (fun hHeld => ?_)
                  · (try dsimp only)
                    (first | exact hS30 | exact hS27 | exact hS26 | exact hS21 | exact hS20 | exact hS0)
                  clear hK K
                  (try simp only [Act.put, List.setIfInBounds_toArray, List.set_cons_zero, List.set_cons_succ])
                  refine take_at 31 180 ab31 (v := ?_) (Or.inl ⟨by rfl, ?_⟩) ?_
                  rotate_left 1
                  · ((intro w hSw; (try dsimp only at hSw); unfold ab31; go_simp) <;> with_reducible rfl)
                  (try simp only [Act.put, List.setIfInBounds_toArray, List.set_cons_zero, List.set_cons_succ])
                  refine take_at 32 8 ab32 (v := ?_) (Or.inl ⟨by rfl, ?_⟩) ?_
                  rotate_left 1
                  · ((intro w hSw; (try dsimp only at hSw); unfold ab32; go_simp) <;> with_reducible rfl)
                  (try simp only [Act.put, List.setIfInBounds_toArray, List.set_cons_zero, List.set_cons_succ])
                  refine wpAnyH_done (by kernel_rfl) ?_ _
                  have hkE := HBV.out.trans (Below.mono (fb_below hHeld) HBV.out.size)
                  clear hHeld
                  go_wp2_with fail
                  go_ret
                  exact ⟨rfl, hkE⟩
                exact AllReadyH.nil
              exact AllReadyH.nil
            exact AllReadyH.nil
          exact AllReadyH.nil
        exact AllReadyH.nil
      · have HNG := Lib.hid hgood
        clear hgood
        go_upto_region 7 with fail
        go_cut [119] (fun s119 wx => s119 = .bool true ∧ Kept w5 wx)
        case first =>
          go_wp2_with fail
          refine (refctxright_any l _ _ (HC5.out.keep (kept_below HK7.out))).mono ?_
          cases h1 : rightC l with
          | false =>
            rintro e w8 ⟨rfl, hb8⟩
            have hk8 := kept_call HK7.out hb8
            go_wp2_with fail
            go_meet
            case rel => exact ⟨rfl, hk8⟩
          | true =>
          have H1 := Lib.hid h1
          rintro e w8 ⟨rfl, hb8⟩
          have HK8 := Lib.hid (kept_call HK7.out hb8)
          clear x0 x1 x2 x3 x4 hb8 h1
          obtain ⟨x0, x1, x2, x3, x4⟩ := five_cells ((HK8.out.block _ (block_lt HX5.out)).trans HX5.out)
          go_wp2_with fail
          refine (refmarked_any t _ _ (HT5.out.keep (kept_below HK8.out))).mono ?_
          cases h2 : t.markedB with
          | false =>
            rintro e w9 ⟨rfl, hb9⟩
            have hk9 := kept_call HK8.out hb9
            go_wp2_with fail
            go_meet
            case rel => exact ⟨rfl, hk9⟩
          | true =>
          have H2 := Lib.hid h2
          rintro e w9 ⟨rfl, hb9⟩
          have HK9 := Lib.hid (kept_call HK8.out hb9)
          clear x0 x1 x2 x3 x4 hb9 HK8 h2
          obtain ⟨x0, x1, x2, x3, x4⟩ := five_cells ((HK9.out.block _ (block_lt HX5.out)).trans HX5.out)
          go_wp2_with fail
          refine (refFree_any t _ _ (HT5.out.keep (kept_below HK9.out))).mono ?_
          rintro e w10 ⟨rfl, hb10⟩
          have HK10 := Lib.hid (kept_call HK9.out hb10)
          clear x0 x1 x2 x3 x4 hb10 HK9
          by_cases h3 : (l.length : Int) < t.freeB
          · have f1 : decide ((l.length : Int) < t.freeB) = true := decide_eq_true h3
            go_wp2_with fail
            go_meet
            case rel => exact ⟨rfl, HK10.out⟩
          have f1 : decide ((l.length : Int) < t.freeB) = false := decide_eq_false h3
          by_cases h4 : i < 0
          · have f2 : decide (i < 0) = true := decide_eq_true h4
            go_wp2_with fail
            go_meet
            case rel => exact ⟨rfl, HK10.out⟩
          have f2 : decide (i < 0) = false := decide_eq_false h4
          by_cases h5 : 1000 < i
          · have f3 : decide (1000 < i) = true := decide_eq_true h5
            go_wp2_with fail
            go_meet
            case rel => exact ⟨rfl, HK10.out⟩
          have f3 : decide (1000 < i) = false := decide_eq_false h5
          by_cases h6 : k < 0
          · have f4 : decide (k < 0) = true := decide_eq_true h6
            go_wp2_with fail
            go_meet
            case rel => exact ⟨rfl, HK10.out⟩
          have f4 : decide (k < 0) = false := decide_eq_false h6
          by_cases h7 : (l.length : Int) ≤ k
          · have f5 : decide ((l.length : Int) ≤ k) = true := decide_eq_true h7
            go_wp2_with fail
            go_meet
            case rel => exact ⟨rfl, HK10.out⟩
          · exact absurd ⟨H1.out, H2.out, by omega, by omega, by omega, by omega, by omega⟩ HNG.out
        case rest =>
          obtain ⟨rfl, hkc⟩ := hcut
          have HKC := Lib.hid hkc
          clear hkc x0 x1 x2 x3 x4
          go_wp2_with fail
          refine (ctxright_any (l ++ [(⟨t, i⟩ : En)]) _ _ (HD.out.keep (kept_below HKC.out))).mono ?_
          obtain ⟨rb, hrb⟩ : ∃ b, rightC (l ++ [(⟨t, i⟩ : En)]) = b := ⟨_, rfl⟩
          rw [hrb]
          have HRB := Lib.hid hrb
          clear hrb
          rintro e w20 ⟨rfl, hb20⟩
          have HK20 := Lib.hid (kept_call HKC.out hb20)
          clear hb20
          go_wp2_with fail
          refine (refctxright_any (l ++ [(⟨t, i⟩ : En)]) _ _ (HD.out.keep (kept_below HK20.out))).mono ?_
          rw [HRB.out]
          rintro e w21 ⟨rfl, hb21⟩
          have HK21 := Lib.hid (kept_call HK20.out hb21)
          clear hb21 HRB
          cases rb
          all_goals
            go_wp2_with fail
            refine (wakes11_any _).mono ?_
            rintro e w22 ⟨rfl, hb22⟩
            have hkE := HB5.out.trans (Below.mono (kept_below (kept_call HK21.out hb22)) HB5.out.size)
            go_wp2
            go_ret
            exact ⟨rfl, hkE⟩
    exact AllReadyH.nil
  exact AllReadyH.nil
end Go.Proofs.Ytjhdcjjoignioaa

/-! A term that is handed in, opened: it is a tree that lies in the world. -/
namespace Go.Proofs.Ytjhdcjjoignioaa
open Go.ChangeShapes Go.WideShapes Go.ChangeAt Go.RowKit

theorem own : ownKnob Try.prog.godebug = none := by kernel_rfl
theorem cells_int : Try.prog.cellsOf 3 = 1 := by kernel_rfl
theorem cells_kids : Try.prog.cellsOf 24 = 1 := by kernel_rfl
theorem cells_term : Try.prog.cellsOf 26 = 5 := by kernel_rfl
theorem laidOut : laidOutB Try.prog = true := by kernel_rfl

instance instOpenTm : Inhabited (Tm × Value) := ⟨(.mk 0 0 0 0 [], .nilIface)⟩

theorem list5 {α : Type} {l : List α} (h : l.length = 5) : ∃ a b c d e, l = [a, b, c, d, e] := by
  match l, h with
  | [a, b, c, d, e], _ => exact ⟨a, b, c, d, e, rfl⟩

theorem wf_I64 {x : Int} (h : (Lit.int .i64 x).wf = true) : I64 x := by
  simp [Lit.wf] at h
  have hm : IntKind.i64.min = -9223372036854775808 := by decide
  rw [hm] at h
  exact h

set_option maxRecDepth 100000 in
theorem open_term {H : Type} {enc : TypeId × Value → H} {w : World} {base : Nat} {sp : Nat → Bool} {hd : Bool} : ∀ (fuel : Nat) (cs : List Value) (x : DataW H × List MemPlace),
    DataW.trod enc Try.prog w base sp hd fuel 26 cs = some x → ∃ (t : Tm) (s : Value), cs = [.int .i64 t.k, .int .i64 t.i, .int .i64 t.j, .int .i64 t.n, s] ∧ t.fine ∧ Lies w t.kids s := by
  intro fuel
  induction fuel using Nat.strongRecOn with
  | _ fuel ih =>
    intro cs x h
    obtain ⟨xs, n, rfl, rfl, hl, hlen, hf⟩ := DataW.trod_struct Try.underlying26 h
    rw [cells_term] at hl
    obtain ⟨v0, v1, v2, v3, v4, rfl⟩ := list5 hl
    obtain ⟨y0, y1, y2, y3, y4, rfl⟩ := list5 hlen
    have g0 := hf 0 _ rfl
    have g1 := hf 1 _ rfl
    have g2 := hf 2 _ rfl
    have g3 := hf 3 _ rfl
    have g4 := hf 4 _ rfl
    simp [cells_int, cells_kids] at g0 g1 g2 g3 g4
    obtain ⟨k, e0, -, w0⟩ := DataW.trod_int Try.underlying3 g0
    obtain ⟨i, e1, -, w1⟩ := DataW.trod_int Try.underlying3 g1
    obtain ⟨j, e2, -, w2⟩ := DataW.trod_int Try.underlying3 g2
    obtain ⟨m, e3, -, w3⟩ := DataW.trod_int Try.underlying3 g3
    simp at e0 e1 e2 e3
    subst e0 e1 e2 e3
    rcases DataW.trod_slice Try.underlying24 g4 with ⟨e4, -⟩ | ⟨a, len, cap, elems, rest, n', rfl, e4, -, hb, hlc, hm, hlen', hel, -, -⟩
    · simp at e4
      subst e4
      exact ⟨.mk k i j m [], _, rfl, ⟨wf_I64 w0, wf_I64 w1, wf_I64 w2, wf_I64 w3⟩, .mk [] none 0 (fun _ => .nilIface) (Nat.le_refl _) (by decide) (fun _ h => by cases h) (fun _ h => by cases h) (fun _ h => by cases h)⟩
    · simp at e4
      subst e4
      have key : ∀ i, i < len → ∃ p : Tm × Value, p.1.fine ∧ Lies w p.1.kids p.2 ∧ ∃ b o, a = ⟨b, o, none⟩ ∧ Node w b (o + i * 5) p.1 p.2 := by
        intro i hi
        have h1 := hel i hi
        rw [cells_term, List.getElem?_eq_getElem (by omega)] at h1
        obtain ⟨cs', h2, h3⟩ := Option.bind_eq_some_iff.1 h1
        obtain ⟨t, s, rfl, hfine, hlies⟩ := ih n' (by omega) _ _ h3
        obtain ⟨-, -, hcell⟩ := World.cells?_some h2
        have hs0 : a.spot = none := by
          have h1 := hel 0 (by omega)
          rw [cells_term, List.getElem?_eq_getElem (by omega)] at h1
          obtain ⟨cs0, h2, -⟩ := Option.bind_eq_some_iff.1 h1
          obtain ⟨-, hl0, hc0⟩ := World.cells?_some h2
          have c0 := hc0 0 (by omega)
          rw [List.getElem?_eq_getElem (by omega)] at c0
          simpa [Addr.add] using World.cell?_spot c0
        obtain ⟨b, o, spot⟩ := a
        simp only at hs0
        subst hs0
        refine ⟨(t, s), hfine, hlies, b, o, rfl, ?_⟩
        have hc : ∀ q, q < 5 → w.cell? ⟨b, o + i * 5 + q, none⟩ = [Value.int .i64 t.k, .int .i64 t.i, .int .i64 t.j, .int .i64 t.n, s][q]? := fun q hq => by
          have := hcell q hq
          rwa [add_plain, add_plain] at this
        exact ⟨hc 0 (by omega), hc 1 (by omega), hc 2 (by omega), hc 3 (by omega), hc 4 (by omega)⟩
      obtain ⟨f, hf'⟩ := Go.Deep.choose_lt (α := Tm × Value) (p := fun i p => p.1.fine ∧ Lies w p.1.kids p.2 ∧ ∃ b o, a = ⟨b, o, none⟩ ∧ Node w b (o + i * 5) p.1 p.2) key
      have hl5 : ((List.range len).map fun i => (f i).1).length = len := by simp
      refine ⟨.mk k i j m ((List.range len).map fun i => (f i).1), _, rfl, ⟨wf_I64 w0, wf_I64 w1, wf_I64 w2, wf_I64 w3⟩, ?_⟩
      have := Lies.mk (w := w) ((List.range len).map fun i => (f i).1) (some a) cap (fun i => (f i).2) (by simpa using hlc) hm
        (fun x hx => by
          obtain ⟨i, hi, rfl⟩ := List.mem_map.1 hx
          exact (hf' i (List.mem_range.1 hi)).1)
        (fun i hi => by
          obtain ⟨b, o, ha, hn⟩ := (hf' i (by simpa using hi)).2.2
          exact ⟨b, o, by rw [ha], by simpa using hn⟩)
        (fun i hi => by simpa using (hf' i (by simpa using hi)).2.1)
      rwa [hl5] at this
set_option maxRecDepth 100000 in
/-- The same for an argument. -/
theorem open_arg {H : Type} {enc : TypeId × Value → H} {W : World} {r : Reach} {b0 base : Nat} {sp : Nat → Bool} {hd : Bool} {v : Value} {d : DataW H} {p : List MemPlace} (hv : Value.okWide Try.prog W r b0 26 v)
    (h : DataW.Trod enc Try.prog W base sp hd 26 v d p) : ∃ (t : Tm) (s : Value), Lies W t.kids s ∧ v = tv t s := by
  obtain ⟨cs, rfl, hsz⟩ := okWide_struct Try.underlying26 hv
  obtain ⟨fuel, hf⟩ := h
  obtain ⟨t, s, hcs, -, hl⟩ := open_term fuel _ _ hf
  refine ⟨t, s, hl, ?_⟩
  have : cs.toList = [.int .i64 t.k, .int .i64 t.i, .int .i64 t.j, .int .i64 t.n, s] := by simpa [Value.cells] using hcs
  rw [show cs = #[.int .i64 t.k, .int .i64 t.i, .int .i64 t.j, .int .i64 t.n, s] from by cases cs; simp_all]

end Go.Proofs.Ytjhdcjjoignioaa

/-! Entries that are handed in, opened. -/
namespace Go.Proofs.Ytjhdcjjoignioaa
open Go.ChangeShapes Go.WideShapes Go.ChangeAt Go.RowKit

theorem cells_entry : Try.prog.cellsOf 38 = 6 := by kernel_rfl
instance instOpenEn : Inhabited (En × Value) := ⟨(⟨.mk 0 0 0 0 [], 0⟩, .nilIface)⟩
theorem list6 {α : Type} {l : List α} (h : l.length = 6) : ∃ a b c d e f, l = [a, b, c, d, e, f] := by
  match l, h with
  | [a, b, c, d, e, f], _ => exact ⟨a, b, c, d, e, f, rfl⟩
theorem list2 {α : Type} {l : List α} (h : l.length = 2) : ∃ a b, l = [a, b] := by
  match l, h with
  | [a, b], _ => exact ⟨a, b, rfl⟩

set_option maxRecDepth 100000 in
theorem open_entry {H : Type} {enc : TypeId × Value → H} {w : World} {base : Nat} {sp : Nat → Bool} {hd : Bool} (fuel : Nat) (cs : List Value) (x : DataW H × List MemPlace)
    (h : DataW.trod enc Try.prog w base sp hd fuel 38 cs = some x) : ∃ (e : En) (s : Value), cs = [.int .i64 e.a.k, .int .i64 e.a.i, .int .i64 e.a.j, .int .i64 e.a.n, s, .int .i64 e.i] ∧ e.fine ∧ Lies w e.a.kids s := by
  obtain ⟨xs, n, rfl, rfl, hl, hlen, hf⟩ := DataW.trod_struct Try.underlying38 h
  rw [cells_entry] at hl
  obtain ⟨v0, v1, v2, v3, v4, v5, rfl⟩ := list6 hl
  obtain ⟨y0, y1, rfl⟩ := list2 hlen
  have g0 := hf 0 _ rfl
  have g1 := hf 1 _ rfl
  simp [cells_int, cells_term] at g0 g1
  obtain ⟨t, s, hcs, hfine, hlies⟩ := open_term n _ _ g0
  obtain ⟨i, e1, -, w1⟩ := DataW.trod_int Try.underlying3 g1
  simp at e1 hcs
  subst e1
  obtain ⟨rfl, rfl, rfl, rfl, rfl⟩ := hcs
  exact ⟨⟨t, i⟩, v4, rfl, ⟨hfine, wf_I64 w1⟩, hlies⟩

set_option maxRecDepth 100000 in
theorem open_argE {H : Type} {enc : TypeId × Value → H} {w : World} {r : Reach} {b0 base : Nat} {sp : Nat → Bool} {hd : Bool} {v : Value} {d : DataW H} {p : List MemPlace} (hv : Value.okWide Try.prog w r b0 22 v)
    (h : DataW.Trod enc Try.prog w base sp hd 22 v d p) : ∃ l : List En, LiesE w l v := by
  obtain ⟨a0, len0, cap0, rfl⟩ := okWide_slice Try.underlying22 hv
  obtain ⟨fuel, hf⟩ := h
  rcases DataW.trod_slice Try.underlying22 hf with ⟨e4, -⟩ | ⟨a, len, cap, elems, rest, n', rfl, e4, -, hb, hlc, hm, hlen', hel, -, -⟩
  · simp [Value.cells] at e4
    obtain ⟨rfl, rfl, rfl⟩ := e4
    exact ⟨[], liesE_nil _⟩
  · simp [Value.cells] at e4
    obtain ⟨rfl, rfl, rfl⟩ := e4
    have key : ∀ i, i < len0 → ∃ p : En × Value, p.1.fine ∧ Lies w p.1.a.kids p.2 ∧ ∃ b o, a = ⟨b, o, none⟩ ∧ ENode w b (o + i * 6) p.1 p.2 := by
      intro i hi
      have h1 := hel i hi
      rw [cells_entry, List.getElem?_eq_getElem (by omega)] at h1
      obtain ⟨cs', h2, h3⟩ := Option.bind_eq_some_iff.1 h1
      obtain ⟨t, s, rfl, hfine, hlies⟩ := open_entry n' _ _ h3
      obtain ⟨-, -, hcell⟩ := World.cells?_some h2
      have hs0 : a.spot = none := by
        have h1 := hel 0 (by omega)
        rw [cells_entry, List.getElem?_eq_getElem (by omega)] at h1
        obtain ⟨cs0, h2, -⟩ := Option.bind_eq_some_iff.1 h1
        obtain ⟨-, hl0, hc0⟩ := World.cells?_some h2
        have c0 := hc0 0 (by omega)
        rw [List.getElem?_eq_getElem (by omega)] at c0
        simpa [Addr.add] using World.cell?_spot c0
      obtain ⟨b, o, spot⟩ := a
      simp only at hs0
      subst hs0
      refine ⟨(t, s), hfine, hlies, b, o, rfl, ?_⟩
      have hc : ∀ q, q < 6 → w.cell? ⟨b, o + i * 6 + q, none⟩ = [Value.int .i64 t.a.k, .int .i64 t.a.i, .int .i64 t.a.j, .int .i64 t.a.n, s, .int .i64 t.i][q]? := fun q hq => by
        have := hcell q hq
        rwa [add_plain, add_plain] at this
      exact ⟨hc 0 (by omega), hc 1 (by omega), hc 2 (by omega), hc 3 (by omega), hc 4 (by omega), hc 5 (by omega)⟩
    obtain ⟨f, hf'⟩ := Go.Deep.choose_lt (α := En × Value) (p := fun i p => p.1.fine ∧ Lies w p.1.a.kids p.2 ∧ ∃ b o, a = ⟨b, o, none⟩ ∧ ENode w b (o + i * 6) p.1 p.2) key
    have hl5 : ((List.range len0).map fun i => (f i).1).length = len0 := by simp
    refine ⟨(List.range len0).map fun i => (f i).1, some a, cap0, (fun i => (f i).2), by rw [hl5], by simpa using hlc, hm, ?_, ?_, ?_⟩
    · intro x hx
      obtain ⟨i, hi, rfl⟩ := List.mem_map.1 hx
      exact (hf' i (List.mem_range.1 hi)).1
    · intro i hi
      obtain ⟨b, o, ha, hn⟩ := (hf' i (by simpa using hi)).2.2
      exact ⟨b, o, by rw [ha], by simpa using hn⟩
    · intro i hi
      simpa using (hf' i (by simpa using hi)).2.1
end Go.Proofs.Ytjhdcjjoignioaa

/-! A term that is handed in, opened: its numbers are of 64 bits. -/
namespace Go.Proofs.Ytjhdcjjoignioaa
open Go.ChangeShapes Go.WideShapes Go.ChangeAt Go.RowKit

set_option maxRecDepth 100000 in
theorem open_argTF {H : Type} {enc : TypeId × Value → H} {W : World} {r : Reach} {b0 base : Nat} {sp : Nat → Bool} {hd : Bool} {v : Value} {d : DataW H} {p : List MemPlace} (hv : Value.okWide Try.prog W r b0 26 v)
    (h : DataW.Trod enc Try.prog W base sp hd 26 v d p) : ∃ (t : Tm) (s : Value), Lies W t.kids s ∧ t.fine ∧ v = tv t s := by
  obtain ⟨cs, rfl, hsz⟩ := okWide_struct Try.underlying26 hv
  obtain ⟨fuel, hf⟩ := h
  obtain ⟨t, s, hcs, hft, hl⟩ := open_term fuel _ _ hf
  refine ⟨t, s, hl, hft, ?_⟩
  have : cs.toList = [.int .i64 t.k, .int .i64 t.i, .int .i64 t.j, .int .i64 t.n, s] := by simpa [Value.cells] using hcs
  rw [show cs = #[.int .i64 t.k, .int .i64 t.i, .int .i64 t.j, .int .i64 t.n, s] from by cases cs; simp_all]
end Go.Proofs.Ytjhdcjjoignioaa

/-! The words of the cut's first line: the facts of a row that ask for them, each made once for all rows of the seat. -/
namespace Go.Proofs.Ytjhdcjjoignioaa
open Go.ChangeShapes Go.WideShapes

def code (l : List Nat) : List Char := l.map Char.ofNat
def joinN : List (List Nat) → List Nat
  | [] => []
  | [a] => a
  | a :: b :: r => a ++ 32 :: joinN (b :: r)

theorem words_one : ∀ a : List Nat, (a.all fun n => Char.ofNat n != Char.ofNat 32) = true → wordsSigns (code a) = [code a]
  | [], _ => rfl
  | n :: a, h => by
    simp only [List.all_cons, Bool.and_eq_true, bne_iff_ne] at h
    have ih := words_one a h.2
    show wordsSigns (Char.ofNat n :: code a) = _
    rw [wordsSigns]
    · rw [ih]; rfl
    · exact h.1
theorem words_more : ∀ (a : List Nat) (r : List Char), (a.all fun n => Char.ofNat n != Char.ofNat 32) = true → wordsSigns (code a ++ Char.ofNat 32 :: r) = code a :: wordsSigns r
  | [], r, _ => by
    show wordsSigns (Char.ofNat 32 :: r) = _
    rw [show Char.ofNat 32 = _ from rfl, wordsSigns]; rfl
  | n :: a, r, h => by
    simp only [List.all_cons, Bool.and_eq_true, bne_iff_ne] at h
    have ih := words_more a r h.2
    show wordsSigns (Char.ofNat n :: (code a ++ Char.ofNat 32 :: r)) = _
    rw [wordsSigns]
    · rw [ih]; rfl
    · exact h.1
theorem words_join : ∀ ws : List (List Nat), ws ≠ [] → (ws.all fun w => w.all fun n => Char.ofNat n != Char.ofNat 32) = true → wordsSigns (code (joinN ws)) = ws.map code
  | [], h, _ => absurd rfl h
  | [a], _, h => by simp only [List.all_cons, List.all_nil, Bool.and_true] at h; exact words_one a h
  | a :: b :: r, _, h => by
    have h' := h
    rw [List.all_cons, Bool.and_eq_true] at h'
    have ih := words_join (b :: r) (by simp) h'.2
    show wordsSigns (code (a ++ 32 :: joinN (b :: r))) = _
    rw [show code (a ++ 32 :: joinN (b :: r)) = code a ++ Char.ofNat 32 :: code (joinN (b :: r)) from by simp [code], words_more a _ h'.1, ih]; rfl

def cutWords : List (List Nat) := [[104, 97, 114, 110, 101, 115, 115],
  [56, 98, 52, 56, 53, 53, 52, 102, 48, 102, 100, 100, 54, 98, 54, 50, 98, 49, 55, 50, 99, 99, 54, 51, 101, 55, 101, 53, 99, 55, 54, 51, 52, 51, 101, 97, 100, 97, 56, 57, 55, 102, 48, 98, 52, 98, 97, 56, 51, 101, 98, 49, 49, 99, 48, 51, 99, 52, 55, 53, 51, 52, 102, 53],
  [99, 117, 116],
  [97, 116],
  [116, 114, 97, 110, 115, 104, 105, 112, 47, 116, 114, 97, 110, 115, 104, 105, 112, 108, 97, 119, 49, 49, 46, 67, 116, 120, 69, 120, 97, 99, 116],
  [116, 114, 97, 110, 115, 104, 105, 112, 47, 116, 114, 97, 110, 115, 104, 105, 112, 108, 97, 119, 49, 49, 46, 67, 116, 120, 70, 111, 114, 109, 115],
  [116, 114, 97, 110, 115, 104, 105, 112, 47, 116, 114, 97, 110, 115, 104, 105, 112, 108, 97, 119, 49, 49, 46, 67, 116, 120, 65, 100, 100, 115],
  [116, 114, 97, 110, 115, 104, 105, 112, 47, 116, 114, 97, 110, 115, 104, 105, 112, 108, 97, 119, 49, 49, 46, 67, 116, 120, 83, 97, 109, 101],
  [116, 114, 97, 110, 115, 104, 105, 112, 47, 116, 114, 97, 110, 115, 104, 105, 112, 108, 97, 119, 49, 50, 46, 68, 101, 114, 105, 118, 80, 97, 116, 104, 115]]

set_option maxRecDepth 100000 in
theorem cut_words : wordsSigns Try.prog.initOrder.toList = cutWords.map code := by
  have h : Try.prog.initOrder.toList = code (joinN cutWords) := by
    show (String.ofList (code (joinN cutWords))).toList = _
    exact String.toList_ofList
  rw [h]
  exact words_join cutWords (by simp [cutWords]) (by decide +kernel)

theorem cut_behind : behindMainWord (cutWords.map code) = code [99, 117, 116] :: cutWords.tail.tail.tail.map code := by kernel_rfl
theorem cut_lifts : stripLifts liftWords (code [99, 117, 116] :: cutWords.tail.tail.tail.map code) = ([], code [99, 117, 116] :: cutWords.tail.tail.tail.map code) := by kernel_rfl
theorem cut1 : (code [99, 117, 116] == "gc".toList) = false := by kernel_rfl
theorem cut2 : (code [99, 117, 116] == "spec".toList) = false := by kernel_rfl
theorem cut3 : (code [99, 117, 116] == "cut".toList) = true := by kernel_rfl
theorem cut_all : behindMainWord (wordsSigns Try.prog.initOrder.toList) = code [99, 117, 116] :: cutWords.tail.tail.tail.map code := by rw [cut_words, cut_behind]
theorem make_of (P : Program) {c : List Char} {rest : List (List Char)} (h : behindMainWord (wordsSigns P.initOrder.toList) = c :: rest) (h1 : (c == "gc".toList) = false) (h2 : (c == "spec".toList) = false) (h3 : (c == "cut".toList) = true) : P.make = some .cut := by
  unfold Program.make; rw [h]
  simp only [h1, h2, h3, Bool.or_self, Bool.false_eq_true, if_false, Bool.true_or, if_true]
theorem mayEnter_of (P : Program) {c : List Char} {rest : List (List Char)} (h : behindMainWord (wordsSigns P.initOrder.toList) = c :: rest) (h3 : ((stripLifts liftWords (c :: rest)).2.head? == some "cut".toList) = true)
    (h4 : (stripLifts liftWords (c :: rest)).1 = []) (h5 : P.laysLater = false) (h6 : P.bearsReflect = false) (h7 : P.doorFits [] = true) : P.mayEnter = true := by
  unfold Program.mayEnter; rw [h]
  refine Bool.or_eq_true_iff.2 (Or.inr ?_)
  rw [h3, h4, h5, h6, h7]; rfl
theorem row_make : Try.prog.make = some .cut := make_of Try.prog cut_all cut1 cut2 cut3
theorem row_mayEnter : Try.prog.mayEnter = true := mayEnter_of Try.prog cut_all (by rw [cut_lifts]; kernel_rfl) (by rw [cut_lifts]) (by kernel_rfl) (by kernel_rfl) (by kernel_rfl)
theorem row_lifts : Try.prog.liftsFinal = false := by unfold Program.liftsFinal Program.headLifts; rw [cut_all, cut_lifts]; kernel_rfl
end Go.Proofs.Ytjhdcjjoignioaa

/-! CtxAdds holds: for every input the call returns true, and the arguments read as before. The walk of the Go text is in the texts that this one imports; no condition. -/
namespace Go.Proofs.Ytjhdcjjoignioaa.lawCtxAdds
open Go.ChangeShapes Go.WideShapes Go.ChangeAt Go.RowKit

set_option maxRecDepth 100000 in
theorem lifted (os : Os) (started : os.Started) (H : Type) (enc : TypeId × Value → H) :
    ReturnsInHanded {} Try.checked os 5 .any (Rows.ctxAddsSpec.pre6 enc Try.prog Try.f5 Rows.ctxAddsRow.domain false) (Rows.ctxAddsSpec.post enc Try.prog Try.f5 false true false false) := by
  refine returnsInHanded_of_change (C := Try.checked) own started (by kernel_rfl) Try.func5
    (ChangeSpec.witness6 (enc := enc) (C := Try.checked) false ⟨#[], #[.slice none 0 0, .agg #[.int .i64 0, .int .i64 0, .int .i64 0, .int .i64 0, .slice none 0 0], .int .i64 0, .int .i64 0], []⟩ 8 (by kernel_rfl) (by kernel_rfl) (by kernel_rfl) (by kernel_rfl)) ?_
  intro W base args ds gs before hval0 hW hcnd _
  have hval : ∀ (j : Nat) t v, Try.f5.params[j]? = some t → args[j]? = some v → Value.okWide Try.prog W .any base t v := hval0
  have hW' := hW
  obtain ⟨p, q, hA0, hV, rfl, hfz, hnd⟩ := hW
  have hA : DataW.TrodAll enc Try.prog W 0 (fun _ => true) true Try.f5.params.toList args.toList ds p := hA0
  rw [Try.params5] at hA hval
  obtain ⟨v0, vs0, d0, ds0, p0, q0, hargs0, rfl, rfl, h0, r0⟩ := trodAll_cons hA
  obtain ⟨v1, vs1, d1, ds1, p1, q1, hargs1, rfl, rfl, h1, r1⟩ := trodAll_cons r0
  obtain ⟨v2, vs2, d2, ds2, p2, q2, hargs2, rfl, rfl, h2, r2⟩ := trodAll_cons r1
  obtain ⟨v3, vs3, d3, ds3, p3, q3, hargs3, rfl, rfl, h3, r3⟩ := trodAll_cons r2
  obtain ⟨rfl, rfl, rfl⟩ := trodAll_nil r3
  obtain rfl : args = #[v0, v1, v2, v3] := by cases args; simp_all
  obtain ⟨rfl, rfl⟩ := trodVars_none hV
  have h0k := h0
  have hlt0 : ∀ x ∈ p0, x.block < W.heap.size := fun x hx => by have := hW'.lt x (by simp [hx]); simpa using this
  obtain ⟨l0, hl0⟩ := open_argE (hval 0 22 v0 rfl rfl) h0
  have h1k := h1
  have hlt1 : ∀ x ∈ p1, x.block < W.heap.size := fun x hx => by have := hW'.lt x (by simp [hx]); simpa using this
  obtain ⟨t1, s1, hl1, hf1, hv1⟩ := open_argTF (hval 1 26 v1 rfl rfl) h1
  subst hv1
  obtain ⟨a2, rfl, rfl, rfl, w2⟩ := open_int Try.underlying3 (hval 2 3 v2 rfl rfl) h2
  obtain ⟨a3, rfl, rfl, rfl, w3⟩ := open_int Try.underlying3 (hval 3 3 v3 rfl rfl) h3
  clear hA0 hval0
  simp only [List.append_nil] at hW'
  refine (ctxAdds_any l0 t1 a2 a3 W v0 s1 hl0 hl1 hf1 (wf_I64 w2) (wf_I64 w3)).mono fun e W' ⟨he, hb⟩ => ?_
  subst he
  exact ⟨_, rfl, _, _, _, [], _, [], hW', trodAll_cons_mk (shut_bool Try.underlying4 _) trodAll_mk0, (trodAll_cons_mk (Below.trod laidOut (by kernel_rfl) (of_decide_eq_true (by kernel_rfl)) h0k hb hlt0) (trodAll_cons_mk (Below.trod laidOut (by kernel_rfl) (of_decide_eq_true (by kernel_rfl)) h1k hb hlt1) (trodAll_cons_mk (shut_int Try.underlying3 w2) (trodAll_cons_mk (shut_int Try.underlying3 w3) trodAll_mk0)))), rfl, hb.frame _, fun h => by cases h⟩

theorem closed : joinedFacts Try.prog 5 Try.f5 Rows.ctxAddsSpec Rows.ctxAddsRow = true := by
  unfold joinedFacts
  rw [row_mayEnter, row_lifts, row_make]
  kernel_rfl

theorem proved : Rows.CtxAddsSaid :=
  OpenClaim.holds_of_wide 5 Try.f5 rfl rfl rfl rfl rfl rfl rfl ⟨rfl, rfl, rfl, rfl, rfl⟩ rfl rfl rfl rfl rfl (by kernel_rfl) Try.func5 closed
    (of_decide_eq_true (by kernel_rfl)) (by unfold Func.isWrapper; first | (rw [if_pos (by decide +kernel)]; kernel_rfl) | (rw [if_neg (by decide +kernel)]; exact ⟨rfl, rfl⟩))
    (fun os started H enc _ => lifted os started H enc)
#print axioms proved
end Go.Proofs.Ytjhdcjjoignioaa.lawCtxAdds
