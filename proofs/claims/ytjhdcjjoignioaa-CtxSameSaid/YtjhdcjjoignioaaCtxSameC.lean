/-
  CtxSame holds: for every input the call returns true, and the arguments read as before. No condition.
-/
import Derived.Test.YtjhdcjjoignioaaPcC
import Derived.Test.YtjhdcjjoignioaaPcD
import Derived.Test.YtjhdcjjoignioaaBox
import Derived.Test.YtjhdcjjoignioaaRows
import Derived.ProofKit
import Derived.OpenShut
import Derived.Carry
import Derived.Deep.Slices
import Derived.Test.YtjhdcjjoignioaaPcA
import Derived.ChangeSlices
import Derived.JoinedOf
/-! The walk of transhiplaw11.CtxSame. -/
namespace Go.Proofs.Ytjhdcjjoignioaa
open Go.RowKit

theorem wpAnyH_weaker {P : Program} {md : Region.Mode} {ops : Array Oper} {Q : Exit → Act → World → Prop} {S S' : World → Prop} (hs : ∀ w, S' w → S w) : ∀ (fuel : Nat) (listed : Array Bool) (a : Act) (w : World), wpAnyH P md ops Q S' fuel listed a w → wpAnyH P md ops Q S fuel listed a w
  | 0, _, _, _, h => h
  | fuel + 1, _, _, _, h => ⟨h.1, fun i hi => wpOp_mono (fun a' w' h' => ⟨hs _ h'.1, wpAnyH_weaker hs fuel _ a' w' h'.2⟩) (h.2 i hi)⟩
theorem jbox_of {w : World} {b : Nat} {j : Jd} {su sv sa : Value} (h : w.heap[b]? = some (.cells #[.bool j.eq, .int .i64 j.u.k, .int .i64 j.u.i, .int .i64 j.u.j, .int .i64 j.u.n, su, .int .i64 j.v.k, .int .i64 j.v.i, .int .i64 j.v.j, .int .i64 j.v.n, sv, .int .i64 j.a.k, .int .i64 j.a.i, .int .i64 j.a.j, .int .i64 j.a.n, sa, .int .i64 j.i] 45 (0, 0))) : JBox w b j su sv sa := by
  have key : ∀ o, w.cell? ⟨b, o, none⟩ = (#[.bool j.eq, .int .i64 j.u.k, .int .i64 j.u.i, .int .i64 j.u.j, .int .i64 j.u.n, su, .int .i64 j.v.k, .int .i64 j.v.i, .int .i64 j.v.j, .int .i64 j.v.n, sv, .int .i64 j.a.k, .int .i64 j.a.i, .int .i64 j.a.j, .int .i64 j.a.n, sa, .int .i64 j.i] : Array Value)[o]? := fun o => by rw [cell_of_row w b o _ _ _ h]
  exact ⟨by rw [key]; rfl, by rw [key]; rfl, by rw [key]; rfl, by rw [key]; rfl, by rw [key]; rfl, by rw [key]; rfl, by rw [key]; rfl, by rw [key]; rfl, by rw [key]; rfl, by rw [key]; rfl, by rw [key]; rfl, by rw [key]; rfl, by rw [key]; rfl, by rw [key]; rfl, by rw [key]; rfl, by rw [key]; rfl, by rw [key]; rfl⟩
def CSW (w : World) (x y : Jd) (s0 s1 s2 r0 r1 r2 : Value) (w' : World) : Prop := Below w.heap.size w w' ∧ w'.heap[w.heap.size]? = some (.cells #[.bool x.eq, .int .i64 x.u.k, .int .i64 x.u.i, .int .i64 x.u.j, .int .i64 x.u.n, s0, .int .i64 x.v.k, .int .i64 x.v.i, .int .i64 x.v.j, .int .i64 x.v.n, s1, .int .i64 x.a.k, .int .i64 x.a.i, .int .i64 x.a.j, .int .i64 x.a.n, s2, .int .i64 x.i] 45 (0, 0)) ∧ w'.heap[w.heap.size + 1]? = some (.cells #[.bool y.eq, .int .i64 y.u.k, .int .i64 y.u.i, .int .i64 y.u.j, .int .i64 y.u.n, r0, .int .i64 y.v.k, .int .i64 y.v.i, .int .i64 y.v.j, .int .i64 y.v.n, r1, .int .i64 y.a.k, .int .i64 y.a.i, .int .i64 y.a.j, .int .i64 y.a.n, r2, .int .i64 y.i] 45 (0, 0))
theorem cs_below {w w' : World} {x y : Jd} {s0 s1 s2 r0 r1 r2 : Value} (h : CSW w x y s0 s1 s2 r0 r1 r2 w') : Below w.heap.size w w' := h.1
theorem cs_call {w w' wn : World} {x y : Jd} {s0 s1 s2 r0 r1 r2 : Value} (h : CSW w x y s0 s1 s2 r0 r1 r2 w') (hb : Below w'.heap.size w' wn) : CSW w x y s0 s1 s2 r0 r1 r2 wn :=
  ⟨below_call h.1 hb h.1.size, (hb.block _ (block_lt h.2.1)).trans h.2.1, (hb.block _ (block_lt h.2.2)).trans h.2.2⟩
theorem cs_open2 {w w' : World} {x y z : Jd} {s0 s1 s2 r0 r1 r2 t0 t1 t2 : Value} {b o : Nat} (h : CSW w x y s0 s1 s2 r0 r1 r2 w' ∧ JNode w' b o z t0 t1 t2) : w'.cell? ⟨b, o, none⟩ = some (.bool z.eq) ∧ w'.cell? ⟨b, o + 1, none⟩ = some (.int .i64 z.u.k) ∧ w'.cell? ⟨b, o + 2, none⟩ = some (.int .i64 z.u.i) ∧ w'.cell? ⟨b, o + 3, none⟩ = some (.int .i64 z.u.j) ∧ w'.cell? ⟨b, o + 4, none⟩ = some (.int .i64 z.u.n) ∧ w'.cell? ⟨b, o + 5, none⟩ = some (t0) ∧ w'.cell? ⟨b, o + 6, none⟩ = some (.int .i64 z.v.k) ∧ w'.cell? ⟨b, o + 7, none⟩ = some (.int .i64 z.v.i) ∧ w'.cell? ⟨b, o + 8, none⟩ = some (.int .i64 z.v.j) ∧ w'.cell? ⟨b, o + 9, none⟩ = some (.int .i64 z.v.n) ∧ w'.cell? ⟨b, o + 10, none⟩ = some (t1) ∧ w'.cell? ⟨b, o + 11, none⟩ = some (.int .i64 z.a.k) ∧ w'.cell? ⟨b, o + 12, none⟩ = some (.int .i64 z.a.i) ∧ w'.cell? ⟨b, o + 13, none⟩ = some (.int .i64 z.a.j) ∧ w'.cell? ⟨b, o + 14, none⟩ = some (.int .i64 z.a.n) ∧ w'.cell? ⟨b, o + 15, none⟩ = some (t2) ∧ w'.cell? ⟨b, o + 16, none⟩ = some (.int .i64 z.i) := h.2
theorem cs_call2 {w w' wn : World} {b o : Nat} {x y z : Jd} {s0 s1 s2 r0 r1 r2 t0 t1 t2 : Value} (h : CSW w x y s0 s1 s2 r0 r1 r2 w' ∧ JNode w' b o z t0 t1 t2) (hb : Below w'.heap.size w' wn) : CSW w x y s0 s1 s2 r0 r1 r2 wn ∧ JNode wn b o z t0 t1 t2 :=
  ⟨cs_call h.1 hb, h.2.keep hb⟩
theorem JBox.node {w : World} {b : Nat} {j : Jd} {su sv sa : Value} (h : JBox w b j su sv sa) : JNode w b 0 j su sv sa := by
  unfold JNode
  simp only [Nat.zero_add]
  exact h
theorem liesJ_one (w : World) (j : Jd) (su sv sa : Value) (hf : j.fine) (hl : JLies w j su sv sa) : LiesJ (w.alloc (.cells #[.bool j.eq, .int .i64 j.u.k, .int .i64 j.u.i, .int .i64 j.u.j, .int .i64 j.u.n, su, .int .i64 j.v.k, .int .i64 j.v.i, .int .i64 j.v.j, .int .i64 j.v.n, sv, .int .i64 j.a.k, .int .i64 j.a.i, .int .i64 j.a.j, .int .i64 j.a.n, sa, .int .i64 j.i] 45)) [j] (.slice (some ⟨w.heap.size, 0, none⟩) 1 1) := by
  have hb : Below w.heap.size w (w.alloc (.cells #[.bool j.eq, .int .i64 j.u.k, .int .i64 j.u.i, .int .i64 j.u.j, .int .i64 j.u.n, su, .int .i64 j.v.k, .int .i64 j.v.i, .int .i64 j.v.j, .int .i64 j.v.n, sv, .int .i64 j.a.k, .int .i64 j.a.i, .int .i64 j.a.j, .int .i64 j.a.n, sa, .int .i64 j.i] 45)) := (Below.refl _ _).alloc (Nat.le_refl _) _
  refine ⟨some ⟨w.heap.size, 0, none⟩, 1, fun _ => (su, sv, sa), rfl, Nat.le_refl _, by decide, ?_, ?_, ?_⟩
  · intro x hx; rw [List.mem_singleton.1 hx]; exact hf
  · intro i hi
    match i, hi with
    | 0, _ => exact ⟨_, 0, rfl, (jbox_new w j su sv sa).node⟩
  · intro i hi
    match i, hi with
    | 0, _ => exact hl.keep hb
theorem liesJ_first {w : World} {j : Jd} {s : Value} (h : LiesJ w [j] s) : ∃ (b o cap : Nat) (t0 t1 t2 : Value), s = .slice (some ⟨b, o, none⟩) 1 cap ∧ JNode w b o j t0 t1 t2 ∧ JLies w j t0 t1 t2 := by
  obtain ⟨a, cap, S, rfl, -, -, -, hn, hk⟩ := h.out
  obtain ⟨b, o, rfl, hx⟩ := hn 0 (by simp)
  have hk0 := hk 0 (by simp)
  simp only [Nat.zero_mul, Nat.add_zero, List.getElem_cons_zero] at hx hk0
  exact ⟨b, o, cap, _, _, _, rfl, hx, hk0⟩
theorem liesJ_two (w : World) (x y : Jd) (s0 s1 s2 r0 r1 r2 : Value) (hfx : x.fine) (hfy : y.fine) (hx : JLies w x s0 s1 s2) (hy : JLies w y r0 r1 r2) :
    LiesJ (w.alloc (.cells #[.bool x.eq, .int .i64 x.u.k, .int .i64 x.u.i, .int .i64 x.u.j, .int .i64 x.u.n, s0, .int .i64 x.v.k, .int .i64 x.v.i, .int .i64 x.v.j, .int .i64 x.v.n, s1, .int .i64 x.a.k, .int .i64 x.a.i, .int .i64 x.a.j, .int .i64 x.a.n, s2, .int .i64 x.i, .bool y.eq, .int .i64 y.u.k, .int .i64 y.u.i, .int .i64 y.u.j, .int .i64 y.u.n, r0, .int .i64 y.v.k, .int .i64 y.v.i, .int .i64 y.v.j, .int .i64 y.v.n, r1, .int .i64 y.a.k, .int .i64 y.a.i, .int .i64 y.a.j, .int .i64 y.a.n, r2, .int .i64 y.i] 45)) [x, y] (.slice (some ⟨w.heap.size, 0, none⟩) 2 2) := by
  have hb : Below w.heap.size w (w.alloc (.cells #[.bool x.eq, .int .i64 x.u.k, .int .i64 x.u.i, .int .i64 x.u.j, .int .i64 x.u.n, s0, .int .i64 x.v.k, .int .i64 x.v.i, .int .i64 x.v.j, .int .i64 x.v.n, s1, .int .i64 x.a.k, .int .i64 x.a.i, .int .i64 x.a.j, .int .i64 x.a.n, s2, .int .i64 x.i, .bool y.eq, .int .i64 y.u.k, .int .i64 y.u.i, .int .i64 y.u.j, .int .i64 y.u.n, r0, .int .i64 y.v.k, .int .i64 y.v.i, .int .i64 y.v.j, .int .i64 y.v.n, r1, .int .i64 y.a.k, .int .i64 y.a.i, .int .i64 y.a.j, .int .i64 y.a.n, r2, .int .i64 y.i] 45)) := (Below.refl _ _).alloc (Nat.le_refl _) _
  have key : ∀ o, (w.alloc (.cells #[.bool x.eq, .int .i64 x.u.k, .int .i64 x.u.i, .int .i64 x.u.j, .int .i64 x.u.n, s0, .int .i64 x.v.k, .int .i64 x.v.i, .int .i64 x.v.j, .int .i64 x.v.n, s1, .int .i64 x.a.k, .int .i64 x.a.i, .int .i64 x.a.j, .int .i64 x.a.n, s2, .int .i64 x.i, .bool y.eq, .int .i64 y.u.k, .int .i64 y.u.i, .int .i64 y.u.j, .int .i64 y.u.n, r0, .int .i64 y.v.k, .int .i64 y.v.i, .int .i64 y.v.j, .int .i64 y.v.n, r1, .int .i64 y.a.k, .int .i64 y.a.i, .int .i64 y.a.j, .int .i64 y.a.n, r2, .int .i64 y.i] 45)).cell? ⟨w.heap.size, o, none⟩ = (#[.bool x.eq, .int .i64 x.u.k, .int .i64 x.u.i, .int .i64 x.u.j, .int .i64 x.u.n, s0, .int .i64 x.v.k, .int .i64 x.v.i, .int .i64 x.v.j, .int .i64 x.v.n, s1, .int .i64 x.a.k, .int .i64 x.a.i, .int .i64 x.a.j, .int .i64 x.a.n, s2, .int .i64 x.i, .bool y.eq, .int .i64 y.u.k, .int .i64 y.u.i, .int .i64 y.u.j, .int .i64 y.u.n, r0, .int .i64 y.v.k, .int .i64 y.v.i, .int .i64 y.v.j, .int .i64 y.v.n, r1, .int .i64 y.a.k, .int .i64 y.a.i, .int .i64 y.a.j, .int .i64 y.a.n, r2, .int .i64 y.i] : Array Value)[o]? := fun o => by rw [World.cell?_alloc_at _ _ _ _ rfl]
  refine ⟨some ⟨w.heap.size, 0, none⟩, 2, fun i => if i = 0 then (s0, s1, s2) else (r0, r1, r2), rfl, Nat.le_refl _, by decide, ?_, ?_, ?_⟩
  · intro z hz
    simp only [List.mem_cons, List.not_mem_nil, or_false] at hz
    rcases hz with rfl | rfl
    · exact hfx
    · exact hfy
  · intro i hi
    match i, hi with
    | 0, _ => exact ⟨_, 0, rfl, by rw [key]; rfl, by rw [key]; rfl, by rw [key]; rfl, by rw [key]; rfl, by rw [key]; rfl, by rw [key]; rfl, by rw [key]; rfl, by rw [key]; rfl, by rw [key]; rfl, by rw [key]; rfl, by rw [key]; rfl, by rw [key]; rfl, by rw [key]; rfl, by rw [key]; rfl, by rw [key]; rfl, by rw [key]; rfl, by rw [key]; rfl⟩
    | 1, _ => exact ⟨_, 0, rfl, by rw [key]; rfl, by rw [key]; rfl, by rw [key]; rfl, by rw [key]; rfl, by rw [key]; rfl, by rw [key]; rfl, by rw [key]; rfl, by rw [key]; rfl, by rw [key]; rfl, by rw [key]; rfl, by rw [key]; rfl, by rw [key]; rfl, by rw [key]; rfl, by rw [key]; rfl, by rw [key]; rfl, by rw [key]; rfl, by rw [key]; rfl⟩
  · intro i hi
    match i, hi with
    | 0, _ => exact hx.keep hb
    | 1, _ => exact hy.keep hb
def cs0 : Oper := { dst := some 21, op := Go.Op.move (Go.Operand.tmp 0), type := 22, pos := "law.go:71", after := #[], guard := none }
def cs1 : Oper := { dst := some 22, op := Go.Op.move (Go.Operand.tmp 1), type := 22, pos := "law.go:71", after := #[], guard := none }
def cs2 : Oper := { dst := some 23, op := Go.Op.call { callee := Go.Callee.value (Go.Operand.func 28), args := #[Go.Operand.tmp 21, Go.Operand.tmp 22], argTypes := #[22, 22] }, type := 4, pos := "law.go:71", after := #[{ on := 0, ground := Go.Ground.data }, { on := 1, ground := Go.Ground.data }], guard := none }
def cs3 : Oper := { dst := some 24, op := Go.Op.move (Go.Operand.tmp 0), type := 22, pos := "law.go:71", after := #[], guard := none }
def cs4 : Oper := { dst := some 25, op := Go.Op.move (Go.Operand.tmp 1), type := 22, pos := "law.go:71", after := #[], guard := none }
def cs5 : Oper := { dst := some 26, op := Go.Op.call { callee := Go.Callee.value (Go.Operand.func 18), args := #[Go.Operand.tmp 24, Go.Operand.tmp 25], argTypes := #[22, 22] }, type := 4, pos := "law.go:71", after := #[{ on := 3, ground := Go.Ground.data }, { on := 4, ground := Go.Ground.data }, { on := 2, ground := Go.Ground.chain }], guard := none }
def cs6 : Oper := { dst := some 27, op := Go.Op.binOp Go.BinOp.eql 4 (Go.Operand.tmp 23) (Go.Operand.tmp 26) 4, type := 4, pos := "law.go:71", after := #[{ on := 2, ground := Go.Ground.data }, { on := 5, ground := Go.Ground.data }], guard := none }
def cs7 : Oper := { dst := some 28, op := Go.Op.move (Go.Operand.tmp 27), type := 4, pos := "law.go:71", after := #[{ on := 6, ground := Go.Ground.data }, { on := 5, ground := Go.Ground.chain }], guard := none }
def cs8 : Oper := { dst := some 29, op := Go.Op.move (Go.Operand.tmp 0), type := 22, pos := "law.go:71", after := #[{ on := 7, ground := Go.Ground.guard }], guard := some (7, true) }
def cs9 : Oper := { dst := some 30, op := Go.Op.move (Go.Operand.tmp 0), type := 22, pos := "law.go:71", after := #[{ on := 7, ground := Go.Ground.guard }], guard := some (7, true) }
def cs10 : Oper := { dst := some 31, op := Go.Op.call { callee := Go.Callee.value (Go.Operand.func 15), args := #[Go.Operand.tmp 30], argTypes := #[22] }, type := 22, pos := "law.go:71", after := #[{ on := 9, ground := Go.Ground.data }, { on := 7, ground := Go.Ground.chain }, { on := 7, ground := Go.Ground.guard }], guard := some (7, true) }
def cs11 : Oper := { dst := some 32, op := Go.Op.call { callee := Go.Callee.value (Go.Operand.func 28), args := #[Go.Operand.tmp 29, Go.Operand.tmp 31], argTypes := #[22, 22] }, type := 4, pos := "law.go:71", after := #[{ on := 8, ground := Go.Ground.data }, { on := 10, ground := Go.Ground.data }, { on := 10, ground := Go.Ground.chain }, { on := 7, ground := Go.Ground.guard }], guard := some (7, true) }
def cs12 : Oper := { dst := some 33, op := Go.Op.pick (Go.Operand.tmp 28) (Go.Operand.tmp 32) (Go.Operand.const (Go.Value.bool false)), type := 4, pos := "law.go:71", after := #[{ on := 7, ground := Go.Ground.data }, { on := 11, ground := Go.Ground.data }], guard := none }
def cs13 : Oper := { dst := some 34, op := Go.Op.move (Go.Operand.tmp 33), type := 4, pos := "law.go:71", after := #[{ on := 12, ground := Go.Ground.data }, { on := 11, ground := Go.Ground.chain }], guard := none }
def cs14 : Oper := { dst := some 35, op := Go.Op.load 45 (Go.Operand.tmp 6), type := 45, pos := "law.go:71", after := #[{ on := 13, ground := Go.Ground.guard }], guard := some (13, true) }
def cs15 : Oper := { dst := some 36, op := Go.Op.load 45 (Go.Operand.tmp 7), type := 45, pos := "law.go:71", after := #[{ on := 13, ground := Go.Ground.guard }], guard := some (13, true) }
def cs16 : Oper := { dst := some 37, op := Go.Op.call { callee := Go.Callee.value (Go.Operand.func 29), args := #[Go.Operand.tmp 35, Go.Operand.tmp 36], argTypes := #[45, 45] }, type := 4, pos := "law.go:71", after := #[{ on := 14, ground := Go.Ground.data }, { on := 15, ground := Go.Ground.data }, { on := 13, ground := Go.Ground.chain }, { on := 13, ground := Go.Ground.guard }], guard := some (13, true) }
def cs17 : Oper := { dst := some 38, op := Go.Op.load 45 (Go.Operand.tmp 6), type := 45, pos := "law.go:71", after := #[{ on := 13, ground := Go.Ground.guard }], guard := some (13, true) }
def cs18 : Oper := { dst := some 39, op := Go.Op.load 45 (Go.Operand.tmp 7), type := 45, pos := "law.go:71", after := #[{ on := 13, ground := Go.Ground.guard }], guard := some (13, true) }
def cs19 : Oper := { dst := some 40, op := Go.Op.call { callee := Go.Callee.value (Go.Operand.func 30), args := #[Go.Operand.tmp 38, Go.Operand.tmp 39], argTypes := #[45, 45] }, type := 4, pos := "law.go:71", after := #[{ on := 17, ground := Go.Ground.data }, { on := 18, ground := Go.Ground.data }, { on := 16, ground := Go.Ground.chain }, { on := 13, ground := Go.Ground.guard }], guard := some (13, true) }
def cs20 : Oper := { dst := some 41, op := Go.Op.binOp Go.BinOp.eql 4 (Go.Operand.tmp 37) (Go.Operand.tmp 40) 4, type := 4, pos := "law.go:71", after := #[{ on := 16, ground := Go.Ground.data }, { on := 19, ground := Go.Ground.data }, { on := 13, ground := Go.Ground.guard }], guard := some (13, true) }
def cs21 : Oper := { dst := some 42, op := Go.Op.pick (Go.Operand.tmp 34) (Go.Operand.tmp 41) (Go.Operand.const (Go.Value.bool false)), type := 4, pos := "law.go:71", after := #[{ on := 13, ground := Go.Ground.data }, { on := 20, ground := Go.Ground.data }], guard := none }
def cs22 : Oper := { dst := some 43, op := Go.Op.move (Go.Operand.tmp 42), type := 4, pos := "law.go:71", after := #[{ on := 21, ground := Go.Ground.data }, { on := 19, ground := Go.Ground.chain }], guard := none }
def cs23 : Oper := { dst := some 44, op := Go.Op.load 45 (Go.Operand.tmp 7), type := 45, pos := "law.go:71", after := #[{ on := 22, ground := Go.Ground.guard }], guard := some (22, true) }
def cs24 : Oper := { dst := some 45, op := Go.Op.load 45 (Go.Operand.tmp 7), type := 45, pos := "law.go:71", after := #[{ on := 22, ground := Go.Ground.guard }], guard := some (22, true) }
def cs25 : Oper := { dst := some 46, op := Go.Op.buildSlice 47 1 #[(0, Go.Operand.tmp 45)], type := 47, pos := "law.go:71", after := #[{ on := 24, ground := Go.Ground.data }, { on := 22, ground := Go.Ground.guard }], guard := some (22, true) }
def cs26 : Oper := { dst := some 47, op := Go.Op.call { callee := Go.Callee.value (Go.Operand.func 31), args := #[Go.Operand.tmp 46], argTypes := #[47] }, type := 47, pos := "law.go:71", after := #[{ on := 25, ground := Go.Ground.data }, { on := 22, ground := Go.Ground.chain }, { on := 22, ground := Go.Ground.guard }], guard := some (22, true) }
def cs27 : Oper := { dst := some 48, op := Go.Op.indexAddr 47 (Go.Operand.tmp 47) (Go.Operand.const (Go.Value.int Go.IntKind.i64 0)), type := 0, pos := "law.go:71", after := #[{ on := 26, ground := Go.Ground.data }, { on := 22, ground := Go.Ground.guard }], guard := some (22, true) }
def cs28 : Oper := { dst := some 49, op := Go.Op.load 45 (Go.Operand.tmp 48), type := 45, pos := "law.go:71", after := #[{ on := 27, ground := Go.Ground.data }, { on := 22, ground := Go.Ground.guard }], guard := some (22, true) }
def cs29 : Oper := { dst := some 50, op := Go.Op.call { callee := Go.Callee.value (Go.Operand.func 29), args := #[Go.Operand.tmp 44, Go.Operand.tmp 49], argTypes := #[45, 45] }, type := 4, pos := "law.go:71", after := #[{ on := 23, ground := Go.Ground.data }, { on := 28, ground := Go.Ground.data }, { on := 26, ground := Go.Ground.chain }, { on := 22, ground := Go.Ground.guard }], guard := some (22, true) }
def cs30 : Oper := { dst := some 51, op := Go.Op.pick (Go.Operand.tmp 43) (Go.Operand.tmp 50) (Go.Operand.const (Go.Value.bool false)), type := 4, pos := "law.go:71", after := #[{ on := 22, ground := Go.Ground.data }, { on := 29, ground := Go.Ground.data }], guard := none }
def cs31 : Oper := { dst := some 52, op := Go.Op.move (Go.Operand.tmp 51), type := 4, pos := "law.go:71", after := #[{ on := 30, ground := Go.Ground.data }, { on := 29, ground := Go.Ground.chain }], guard := none }
def cs32 : Oper := { dst := some 53, op := Go.Op.call { callee := Go.Callee.value (Go.Operand.func 14), args := #[], argTypes := #[] }, type := 4, pos := "law.go:71", after := #[{ on := 31, ground := Go.Ground.chain }, { on := 31, ground := Go.Ground.guard }], guard := some (31, true) }
def cs33 : Oper := { dst := some 54, op := Go.Op.pick (Go.Operand.tmp 52) (Go.Operand.tmp 53) (Go.Operand.const (Go.Value.bool false)), type := 4, pos := "law.go:71", after := #[{ on := 31, ground := Go.Ground.data }, { on := 32, ground := Go.Ground.data }], guard := none }
def cs34 : Oper := { dst := some 8, op := Go.Op.assign (Go.Operand.tmp 54), type := 4, pos := "law.go:71", after := #[{ on := 33, ground := Go.Ground.data }, { on := 32, ground := Go.Ground.chain }, { on := 0, ground := Go.Ground.phase }, { on := 1, ground := Go.Ground.phase }, { on := 2, ground := Go.Ground.phase }, { on := 3, ground := Go.Ground.phase }, { on := 4, ground := Go.Ground.phase }, { on := 5, ground := Go.Ground.phase }, { on := 6, ground := Go.Ground.phase }, { on := 7, ground := Go.Ground.phase }, { on := 8, ground := Go.Ground.phase }, { on := 9, ground := Go.Ground.phase }, { on := 10, ground := Go.Ground.phase }, { on := 11, ground := Go.Ground.phase }, { on := 12, ground := Go.Ground.phase }, { on := 13, ground := Go.Ground.phase }, { on := 14, ground := Go.Ground.phase }, { on := 15, ground := Go.Ground.phase }, { on := 16, ground := Go.Ground.phase }, { on := 17, ground := Go.Ground.phase }, { on := 18, ground := Go.Ground.phase }, { on := 19, ground := Go.Ground.phase }, { on := 20, ground := Go.Ground.phase }, { on := 21, ground := Go.Ground.phase }, { on := 22, ground := Go.Ground.phase }, { on := 23, ground := Go.Ground.phase }, { on := 24, ground := Go.Ground.phase }, { on := 25, ground := Go.Ground.phase }, { on := 26, ground := Go.Ground.phase }, { on := 27, ground := Go.Ground.phase }, { on := 28, ground := Go.Ground.phase }, { on := 29, ground := Go.Ground.phase }, { on := 30, ground := Go.Ground.phase }, { on := 31, ground := Go.Ground.phase }, { on := 32, ground := Go.Ground.phase }, { on := 33, ground := Go.Ground.phase }], guard := none }
set_option maxRecDepth 20000 in
set_option maxHeartbeats 8000000 in
theorem ctxSame_any (l m : List En) (x y : Jd) (w : World) (s r sxu sxv sxa syu syv sya : Value) (hl : LiesE w l s) (hm : LiesE w m r) (hx : JLies w x sxu sxv sxa) (hy : JLies w y syu syv sya) (hfx : x.fine) (hfy : y.fine) :
    Calls Try.prog 6 #[s, r, jv x sxu sxv sxa, jv y syu syv sya] w fun e w' => e = .returned (.bool true) ∧ Below w.heap.size w w' := by
  obtain ⟨a, cap, S, rfl, -⟩ := hl.out
  obtain ⟨a2, cap2, S2, rfl, -⟩ := hm.out
  obtain ⟨axu, cxu, Sxu, rfl, -⟩ := hx.1.out
  obtain ⟨axv, cxv, Sxv, rfl, -⟩ := hx.2.1.out
  obtain ⟨axa, cxa, Sxa, rfl, -⟩ := hx.2.2.out
  obtain ⟨ayu, cyu, Syu, rfl, -⟩ := hy.1.out
  obtain ⟨ayv, cyv, Syv, rfl, -⟩ := hy.2.1.out
  obtain ⟨aya, cya, Sya, rfl, -⟩ := hy.2.2.out
  unfold jv
  have hb0 : Below w.heap.size w ((w.alloc (.cells #[.bool x.eq, .int .i64 x.u.k, .int .i64 x.u.i, .int .i64 x.u.j, .int .i64 x.u.n, (.slice axu x.u.kids.length cxu), .int .i64 x.v.k, .int .i64 x.v.i, .int .i64 x.v.j, .int .i64 x.v.n, (.slice axv x.v.kids.length cxv), .int .i64 x.a.k, .int .i64 x.a.i, .int .i64 x.a.j, .int .i64 x.a.n, (.slice axa x.a.kids.length cxa), .int .i64 x.i] 45)).alloc (.cells #[.bool y.eq, .int .i64 y.u.k, .int .i64 y.u.i, .int .i64 y.u.j, .int .i64 y.u.n, (.slice ayu y.u.kids.length cyu), .int .i64 y.v.k, .int .i64 y.v.i, .int .i64 y.v.j, .int .i64 y.v.n, (.slice ayv y.v.kids.length cyv), .int .i64 y.a.k, .int .i64 y.a.i, .int .i64 y.a.j, .int .i64 y.a.n, (.slice aya y.a.kids.length cya), .int .i64 y.i] 45)) := ((Below.refl _ _).alloc (Nat.le_refl _) _).alloc (by simp) _
  have hb1 : Below (w.alloc (.cells #[.bool x.eq, .int .i64 x.u.k, .int .i64 x.u.i, .int .i64 x.u.j, .int .i64 x.u.n, (.slice axu x.u.kids.length cxu), .int .i64 x.v.k, .int .i64 x.v.i, .int .i64 x.v.j, .int .i64 x.v.n, (.slice axv x.v.kids.length cxv), .int .i64 x.a.k, .int .i64 x.a.i, .int .i64 x.a.j, .int .i64 x.a.n, (.slice axa x.a.kids.length cxa), .int .i64 x.i] 45)).heap.size (w.alloc (.cells #[.bool x.eq, .int .i64 x.u.k, .int .i64 x.u.i, .int .i64 x.u.j, .int .i64 x.u.n, (.slice axu x.u.kids.length cxu), .int .i64 x.v.k, .int .i64 x.v.i, .int .i64 x.v.j, .int .i64 x.v.n, (.slice axv x.v.kids.length cxv), .int .i64 x.a.k, .int .i64 x.a.i, .int .i64 x.a.j, .int .i64 x.a.n, (.slice axa x.a.kids.length cxa), .int .i64 x.i] 45)) ((w.alloc (.cells #[.bool x.eq, .int .i64 x.u.k, .int .i64 x.u.i, .int .i64 x.u.j, .int .i64 x.u.n, (.slice axu x.u.kids.length cxu), .int .i64 x.v.k, .int .i64 x.v.i, .int .i64 x.v.j, .int .i64 x.v.n, (.slice axv x.v.kids.length cxv), .int .i64 x.a.k, .int .i64 x.a.i, .int .i64 x.a.j, .int .i64 x.a.n, (.slice axa x.a.kids.length cxa), .int .i64 x.i] 45)).alloc (.cells #[.bool y.eq, .int .i64 y.u.k, .int .i64 y.u.i, .int .i64 y.u.j, .int .i64 y.u.n, (.slice ayu y.u.kids.length cyu), .int .i64 y.v.k, .int .i64 y.v.i, .int .i64 y.v.j, .int .i64 y.v.n, (.slice ayv y.v.kids.length cyv), .int .i64 y.a.k, .int .i64 y.a.i, .int .i64 y.a.j, .int .i64 y.a.n, (.slice aya y.a.kids.length cya), .int .i64 y.i] 45)) := (Below.refl _ _).alloc (Nat.le_refl _) _
  have hbx := (hb1.block w.heap.size (by simp)).trans (alloc_new w (.cells #[.bool x.eq, .int .i64 x.u.k, .int .i64 x.u.i, .int .i64 x.u.j, .int .i64 x.u.n, (.slice axu x.u.kids.length cxu), .int .i64 x.v.k, .int .i64 x.v.i, .int .i64 x.v.j, .int .i64 x.v.n, (.slice axv x.v.kids.length cxv), .int .i64 x.a.k, .int .i64 x.a.i, .int .i64 x.a.j, .int .i64 x.a.n, (.slice axa x.a.kids.length cxa), .int .i64 x.i] 45))
  have hby := alloc_new (w.alloc (.cells #[.bool x.eq, .int .i64 x.u.k, .int .i64 x.u.i, .int .i64 x.u.j, .int .i64 x.u.n, (.slice axu x.u.kids.length cxu), .int .i64 x.v.k, .int .i64 x.v.i, .int .i64 x.v.j, .int .i64 x.v.n, (.slice axv x.v.kids.length cxv), .int .i64 x.a.k, .int .i64 x.a.i, .int .i64 x.a.j, .int .i64 x.a.n, (.slice axa x.a.kids.length cxa), .int .i64 x.i] 45)) (.cells #[.bool y.eq, .int .i64 y.u.k, .int .i64 y.u.i, .int .i64 y.u.j, .int .i64 y.u.n, (.slice ayu y.u.kids.length cyu), .int .i64 y.v.k, .int .i64 y.v.i, .int .i64 y.v.j, .int .i64 y.v.n, (.slice ayv y.v.kids.length cyv), .int .i64 y.a.k, .int .i64 y.a.i, .int .i64 y.a.j, .int .i64 y.a.n, (.slice aya y.a.kids.length cya), .int .i64 y.i] 45)
  rw [show (w.alloc (.cells #[.bool x.eq, .int .i64 x.u.k, .int .i64 x.u.i, .int .i64 x.u.j, .int .i64 x.u.n, (.slice axu x.u.kids.length cxu), .int .i64 x.v.k, .int .i64 x.v.i, .int .i64 x.v.j, .int .i64 x.v.n, (.slice axv x.v.kids.length cxv), .int .i64 x.a.k, .int .i64 x.a.i, .int .i64 x.a.j, .int .i64 x.a.n, (.slice axa x.a.kids.length cxa), .int .i64 x.i] 45)).heap.size = w.heap.size + 1 by simp] at hby
  obtain ⟨du, hu1, hu2⟩ := under_judg
  have HS0 : Hid (CSW w x y (.slice axu x.u.kids.length cxu) (.slice axv x.v.kids.length cxv) (.slice axa x.a.kids.length cxa) (.slice ayu y.u.kids.length cyu) (.slice ayv y.v.kids.length cyv) (.slice aya y.a.kids.length cya) ((w.alloc (.cells #[.bool x.eq, .int .i64 x.u.k, .int .i64 x.u.i, .int .i64 x.u.j, .int .i64 x.u.n, (.slice axu x.u.kids.length cxu), .int .i64 x.v.k, .int .i64 x.v.i, .int .i64 x.v.j, .int .i64 x.v.n, (.slice axv x.v.kids.length cxv), .int .i64 x.a.k, .int .i64 x.a.i, .int .i64 x.a.j, .int .i64 x.a.n, (.slice axa x.a.kids.length cxa), .int .i64 x.i] 45)).alloc (.cells #[.bool y.eq, .int .i64 y.u.k, .int .i64 y.u.i, .int .i64 y.u.j, .int .i64 y.u.n, (.slice ayu y.u.kids.length cyu), .int .i64 y.v.k, .int .i64 y.v.i, .int .i64 y.v.j, .int .i64 y.v.n, (.slice ayv y.v.kids.length cyv), .int .i64 y.a.k, .int .i64 y.a.i, .int .i64 y.a.j, .int .i64 y.a.n, (.slice aya y.a.kids.length cya), .int .i64 y.i] 45))) := ⟨hb0, hbx, hby⟩
  have HL := Lib.hid hl
  have HM := Lib.hid hm
  have HX := Lib.hid hx
  have HY := Lib.hid hy
  have HFX := Lib.hid hfx
  have HFY := Lib.hid hfy
  clear hb0 hb1 hbx hby hx hy hl hm hfx hfy
  go_enter Try.func6, Try.ntmps6
  go_wp2_with fail
  refine (greatctx_any l 300 _ _ (HL.out.keep HS0.out.1) (by omega)).mono ?_
  generalize (w.alloc (.cells #[.bool x.eq, .int .i64 x.u.k, .int .i64 x.u.i, .int .i64 x.u.j, .int .i64 x.u.n, (.slice axu x.u.kids.length cxu), .int .i64 x.v.k, .int .i64 x.v.i, .int .i64 x.v.j, .int .i64 x.v.n, (.slice axv x.v.kids.length cxv), .int .i64 x.a.k, .int .i64 x.a.i, .int .i64 x.a.j, .int .i64 x.a.n, (.slice axa x.a.kids.length cxa), .int .i64 x.i] 45)).alloc (.cells #[.bool y.eq, .int .i64 y.u.k, .int .i64 y.u.i, .int .i64 y.u.j, .int .i64 y.u.n, (.slice ayu y.u.kids.length cyu), .int .i64 y.v.k, .int .i64 y.v.i, .int .i64 y.v.j, .int .i64 y.v.n, (.slice ayv y.v.kids.length cyv), .int .i64 y.a.k, .int .i64 y.a.i, .int .i64 y.a.j, .int .i64 y.a.n, (.slice aya y.a.kids.length cya), .int .i64 y.i] 45) = V at HS0 ⊢
  rintro e w1 ⟨g1, rfl, hg1, hb1⟩
  have HS1 := Lib.hid (cs_call HS0.out hb1)
  have HG1 := Lib.hid hg1
  clear hg1 hb1 HS0
  cases g1 with
  | true =>
    go_wp2
    go_ret
    exact ⟨rfl, HS1.out.1⟩
  | false =>
  go_wp2_with fail
  refine (greatctx_any m 300 _ _ (HM.out.keep HS1.out.1) (by omega)).mono ?_
  rintro e w2 ⟨g2, rfl, -, hb2⟩
  have HS2 := Lib.hid (cs_call HS1.out hb2)
  clear hb2 HS1
  cases g2 with
  | true =>
    go_wp2
    go_ret
    exact ⟨rfl, HS2.out.1⟩
  | false =>
  have hc2 := HS2.out
  obtain ⟨-, hcx, hcy⟩ := hc2
  have HCX := Lib.hid hcx
  have HCY := Lib.hid hcy
  clear hcx hcy
  go_wp2_with (first | (refine wpList_row_g w.heap.size _ _ _ #[.bool x.eq, .int .i64 x.u.k, .int .i64 x.u.i, .int .i64 x.u.j, .int .i64 x.u.n, (.slice axu x.u.kids.length cxu), .int .i64 x.v.k, .int .i64 x.v.i, .int .i64 x.v.j, .int .i64 x.v.n, (.slice axv x.v.kids.length cxv), .int .i64 x.a.k, .int .i64 x.a.i, .int .i64 x.a.j, .int .i64 x.a.n, (.slice axa x.a.kids.length cxa), .int .i64 x.i] _ du (by rfl) rfl (by rfl) HCX.out hu1 (by cases du <;> first | rfl | exact hu2) size_judg ?_) | (refine wpList_row_g (w.heap.size + 1) _ _ _ #[.bool y.eq, .int .i64 y.u.k, .int .i64 y.u.i, .int .i64 y.u.j, .int .i64 y.u.n, (.slice ayu y.u.kids.length cyu), .int .i64 y.v.k, .int .i64 y.v.i, .int .i64 y.v.j, .int .i64 y.v.n, (.slice ayv y.v.kids.length cyv), .int .i64 y.a.k, .int .i64 y.a.i, .int .i64 y.a.j, .int .i64 y.a.n, (.slice aya y.a.kids.length cya), .int .i64 y.i] _ du (by rfl) rfl (by rfl) HCY.out hu1 (by cases du <;> first | rfl | exact hu2) size_judg ?_))
  have HJ2 := Lib.hid (liesJ_two w2 x y (.slice axu x.u.kids.length cxu) (.slice axv x.v.kids.length cxv) (.slice axa x.a.kids.length cxa) (.slice ayu y.u.kids.length cyu) (.slice ayv y.v.kids.length cyv) (.slice aya y.a.kids.length cya) HFX.out HFY.out (HX.out.keep HS2.out.1) (HY.out.keep HS2.out.1))
  have hb3 : Below w2.heap.size w2 (w2.alloc (.cells #[.bool x.eq, .int .i64 x.u.k, .int .i64 x.u.i, .int .i64 x.u.j, .int .i64 x.u.n, (.slice axu x.u.kids.length cxu), .int .i64 x.v.k, .int .i64 x.v.i, .int .i64 x.v.j, .int .i64 x.v.n, (.slice axv x.v.kids.length cxv), .int .i64 x.a.k, .int .i64 x.a.i, .int .i64 x.a.j, .int .i64 x.a.n, (.slice axa x.a.kids.length cxa), .int .i64 x.i, .bool y.eq, .int .i64 y.u.k, .int .i64 y.u.i, .int .i64 y.u.j, .int .i64 y.u.n, (.slice ayu y.u.kids.length cyu), .int .i64 y.v.k, .int .i64 y.v.i, .int .i64 y.v.j, .int .i64 y.v.n, (.slice ayv y.v.kids.length cyv), .int .i64 y.a.k, .int .i64 y.a.i, .int .i64 y.a.j, .int .i64 y.a.n, (.slice aya y.a.kids.length cya), .int .i64 y.i] 45)) := (Below.refl _ _).alloc (Nat.le_refl _) _
  have HS3 := Lib.hid (cs_call HS2.out hb3)
  refine (greatjudgs_any [x, y] 300 _ _ HJ2.out (by omega)).mono ?_
  clear hb3 HS2
  generalize w2.alloc (.cells #[.bool x.eq, .int .i64 x.u.k, .int .i64 x.u.i, .int .i64 x.u.j, .int .i64 x.u.n, (.slice axu x.u.kids.length cxu), .int .i64 x.v.k, .int .i64 x.v.i, .int .i64 x.v.j, .int .i64 x.v.n, (.slice axv x.v.kids.length cxv), .int .i64 x.a.k, .int .i64 x.a.i, .int .i64 x.a.j, .int .i64 x.a.n, (.slice axa x.a.kids.length cxa), .int .i64 x.i, .bool y.eq, .int .i64 y.u.k, .int .i64 y.u.i, .int .i64 y.u.j, .int .i64 y.u.n, (.slice ayu y.u.kids.length cyu), .int .i64 y.v.k, .int .i64 y.v.i, .int .i64 y.v.j, .int .i64 y.v.n, (.slice ayv y.v.kids.length cyv), .int .i64 y.a.k, .int .i64 y.a.i, .int .i64 y.a.j, .int .i64 y.a.n, (.slice aya y.a.kids.length cya), .int .i64 y.i] 45) = w3 at HS3 ⊢
  rintro e w4 ⟨g3, rfl, hg3, hb4⟩
  have HS4 := Lib.hid (cs_call HS3.out hb4)
  have HG3 := Lib.hid hg3
  clear hb4 HS3 hg3 HJ2
  cases g3 with
  | true =>
    go_wp2
    go_ret
    exact ⟨rfl, HS4.out.1⟩
  | false =>
  have HLE : Hid (l.length ≤ 300) := (HG1.out trivial).1
  have HSZ : Hid (∀ u ∈ l, u.a.size ≤ 1000000) := fun u hu => by have := ((HG1.out trivial).2 u hu).1; omega
  have HSY : Hid (∀ j ∈ [y], j.u.size ≤ 1000000 ∧ j.v.size ≤ 1000000 ∧ j.a.size ≤ 1000000) := fun j hj => by
    rw [List.mem_singleton.1 hj]
    have := (HG3.out rfl).2 y (by simp)
    unfold smallJ at this
    omega
  obtain ⟨cb, hcb⟩ : ∃ b, ctxB l m = b := ⟨_, rfl⟩
  obtain ⟨jb, hjb⟩ : ∃ b, judgB x y = b := ⟨_, rfl⟩
  have HCB := Lib.hid hcb
  have HJB := Lib.hid hjb
  clear hcb hjb HG1 HG3
  go_wp2_with fail
  have hS0 : CSW w x y (.slice axu x.u.kids.length cxu) (.slice axv x.v.kids.length cxv) (.slice axa x.a.kids.length cxa) (.slice ayu y.u.kids.length cyu) (.slice ayv y.v.kids.length cyv) (.slice aya y.a.kids.length cya) w4.drew := ⟨Below.drew HS4.out.1, HS4.out.2⟩
  refine wp_region_held_drew (S := fun w' => CSW w x y (.slice axu x.u.kids.length cxu) (.slice axv x.v.kids.length cxv) (.slice axa x.a.kids.length cxa) (.slice ayu y.u.kids.length cyu) (.slice ayv y.v.kids.length cyv) (.slice aya y.a.kids.length cya) w') (by kernel_rfl) ?_ (fun hHeld => ?_)
  · (try dsimp only)
    exact hS0
  generalize w4.drew = wx at hHeld hS0 ⊢
  clear HS4 hS0
  refine take_at 0 21 cs0 (v := ?_) (Or.inl ⟨by rfl, ?_⟩) ?_
  rotate_left 1
  · ((intro w hSw; (try dsimp only at hSw); unfold cs0; go_simp) <;> with_reducible rfl)
  (try simp only [Act.put, List.setIfInBounds_toArray, List.set_cons_zero, List.set_cons_succ])
  refine take_at 1 22 cs1 (v := ?_) (Or.inl ⟨by rfl, ?_⟩) ?_
  rotate_left 1
  · ((intro w hSw; (try dsimp only at hSw); unfold cs1; go_simp) <;> with_reducible rfl)
  (try simp only [Act.put, List.setIfInBounds_toArray, List.set_cons_zero, List.set_cons_succ])
  refine take_at 3 24 cs3 (v := ?_) (Or.inl ⟨by rfl, ?_⟩) ?_
  rotate_left 1
  · ((intro w hSw; (try dsimp only at hSw); unfold cs3; go_simp) <;> with_reducible rfl)
  (try simp only [Act.put, List.setIfInBounds_toArray, List.set_cons_zero, List.set_cons_succ])
  refine take_at 4 25 cs4 (v := ?_) (Or.inl ⟨by rfl, ?_⟩) ?_
  rotate_left 1
  · ((intro w hSw; (try dsimp only at hSw); unfold cs4; go_simp) <;> with_reducible rfl)
  (try simp only [Act.put, List.setIfInBounds_toArray, List.set_cons_zero, List.set_cons_succ])
  refine wpAnyH_ready (rs := [2]) (by kernel_rfl) (by simp) ?_
  refine AllReadyH.cons (o := cs2) rfl (fun K hK => ?_) ?_
  · unfold cs2
    go_simp
    (go_at_call 28; (with_reducible refine Calls.mono (ctxsame_any l m _ _ _ (HL.out.keep (cs_below hHeld)) (HM.out.keep (cs_below hHeld))) ?_); rw [HCB.out]; rintro e w2 ⟨rfl, hb2⟩; have hS2 := cs_call hHeld hb2; clear hb2; clear hHeld; (try clear hS0))
    refine hK.out _ _ ?_ (fun hHeld => ?_)
    · (try dsimp only)
      (first | exact hS32 | exact hS29 | exact hS26 | exact hS25 | exact hS19 | exact hS16 | exact hS11 | exact hS10 | exact hS5 | exact hS2 | exact hS0)
    clear hK K
    (try simp only [Act.put, List.setIfInBounds_toArray, List.set_cons_zero, List.set_cons_succ])
    refine wpAnyH_ready (rs := [5]) (by kernel_rfl) (by simp) ?_
    refine AllReadyH.cons (o := cs5) rfl (fun K hK => ?_) ?_
    · unfold cs5
      go_simp
      (go_at_call 18; (with_reducible refine Calls.mono (keepctx_any l m _ _ _ (HL.out.keep (cs_below hHeld)) (HM.out.keep (cs_below hHeld))) ?_); rw [HCB.out]; rintro e w5 ⟨rfl, hb5⟩; have hS5 := cs_call hHeld hb5; clear hb5; clear hHeld; (try clear hS2))
      refine hK.out _ _ ?_ (fun hHeld => ?_)
      · (try dsimp only)
        (first | exact hS32 | exact hS29 | exact hS26 | exact hS25 | exact hS19 | exact hS16 | exact hS11 | exact hS10 | exact hS5 | exact hS2 | exact hS0)
      clear hK K
      (try simp only [Act.put, List.setIfInBounds_toArray, List.set_cons_zero, List.set_cons_succ])
      refine take_at 6 27 cs6 (v := ?_) (Or.inl ⟨by rfl, ?_⟩) ?_
      rotate_left 1
      · ((intro w hSw; (try dsimp only at hSw); unfold cs6; go_simp) <;> with_reducible rfl)
      (try simp only [Act.put, List.setIfInBounds_toArray, List.set_cons_zero, List.set_cons_succ])
      refine take_at 7 28 cs7 (v := ?_) (Or.inl ⟨by rfl, ?_⟩) ?_
      rotate_left 1
      · ((intro w hSw; (try dsimp only at hSw); unfold cs7; go_simp) <;> with_reducible rfl)
      (try simp only [Act.put, List.setIfInBounds_toArray, List.set_cons_zero, List.set_cons_succ])
      refine take_at 8 29 cs8 (v := ?_) (Or.inl ⟨by rfl, ?_⟩) ?_
      rotate_left 1
      · ((intro w hSw; (try dsimp only at hSw); unfold cs8; go_simp) <;> with_reducible rfl)
      (try simp only [Act.put, List.setIfInBounds_toArray, List.set_cons_zero, List.set_cons_succ])
      refine take_at 9 30 cs9 (v := ?_) (Or.inl ⟨by rfl, ?_⟩) ?_
      rotate_left 1
      · ((intro w hSw; (try dsimp only at hSw); unfold cs9; go_simp) <;> with_reducible rfl)
      (try simp only [Act.put, List.setIfInBounds_toArray, List.set_cons_zero, List.set_cons_succ])
      refine wpAnyH_ready (rs := [10]) (by kernel_rfl) (by simp) ?_
      refine AllReadyH.cons (o := cs10) rfl (fun K hK => ?_) ?_
      · unfold cs10
        go_simp
        (go_at_call 15; (with_reducible refine Calls.mono (twinctx_any l _ _ (HL.out.keep (cs_below hHeld)) (by have := HLE.out; omega) HSZ.out) ?_); rintro e w10 ⟨s10, rfl, hl10, hb10⟩; have hS10 := cs_call hHeld hb10; have h10 := hl10.lies; obtain ⟨a10, c10, S10, rfl, -⟩ := h10.out; have HT := Lib.hid h10; clear hb10 hl10 h10; clear hHeld; (try clear hS5))
        refine hK.out _ _ ?_ (fun hHeld => ?_)
        · (try dsimp only)
          (first | exact hS32 | exact hS29 | exact hS26 | exact hS25 | exact hS19 | exact hS16 | exact hS11 | exact hS10 | exact hS5 | exact hS2 | exact hS0)
        clear hK K
        (try simp only [Act.put, List.setIfInBounds_toArray, List.set_cons_zero, List.set_cons_succ])
        refine wpAnyH_ready (rs := [11]) (by kernel_rfl) (by simp) ?_
        refine AllReadyH.cons (o := cs11) rfl (fun K hK => ?_) ?_
        · unfold cs11
          go_simp
          (go_at_call 28; (with_reducible refine Calls.mono (ctxsame_any l l _ _ _ (HL.out.keep (cs_below hHeld)) HT.out) ?_); rw [ctxB_self]; rintro e w11 ⟨rfl, hb11⟩; have hS11 := cs_call hHeld hb11; clear hb11; clear hHeld; (try clear hS10))
          refine hK.out _ _ ?_ (fun hHeld => ?_)
          · (try dsimp only)
            (first | exact hS32 | exact hS29 | exact hS26 | exact hS25 | exact hS19 | exact hS16 | exact hS11 | exact hS10 | exact hS5 | exact hS2 | exact hS0)
          clear hK K
          (try simp only [Act.put, List.setIfInBounds_toArray, List.set_cons_zero, List.set_cons_succ])
          refine take_at 12 33 cs12 (v := ?_) (Or.inl ⟨by rfl, ?_⟩) ?_
          rotate_left 1
          · ((intro w hSw; (try dsimp only at hSw); unfold cs12; go_simp) <;> with_reducible rfl)
          (try simp only [Act.put, List.setIfInBounds_toArray, List.set_cons_zero, List.set_cons_succ])
          refine take_at 13 34 cs13 (v := ?_) (Or.inl ⟨by rfl, ?_⟩) ?_
          rotate_left 1
          · ((intro w hSw; (try dsimp only at hSw); unfold cs13; go_simp) <;> with_reducible rfl)
          (try simp only [Act.put, List.setIfInBounds_toArray, List.set_cons_zero, List.set_cons_succ])
          refine take_at 14 35 cs14 (yields_row w.heap.size _ _ _ #[.bool x.eq, .int .i64 x.u.k, .int .i64 x.u.i, .int .i64 x.u.j, .int .i64 x.u.n, (.slice axu x.u.kids.length cxu), .int .i64 x.v.k, .int .i64 x.v.i, .int .i64 x.v.j, .int .i64 x.v.n, (.slice axv x.v.kids.length cxv), .int .i64 x.a.k, .int .i64 x.a.i, .int .i64 x.a.j, .int .i64 x.a.n, (.slice axa x.a.kids.length cxa), .int .i64 x.i] _ du (by rfl) rfl (by rfl) (fun w' h => h.2.1) hu1 (by cases du <;> first | rfl | exact hu2) size_judg) ?_
          (try simp only [Act.put, List.setIfInBounds_toArray, List.set_cons_zero, List.set_cons_succ])
          refine take_at 15 36 cs15 (yields_row (w.heap.size + 1) _ _ _ #[.bool y.eq, .int .i64 y.u.k, .int .i64 y.u.i, .int .i64 y.u.j, .int .i64 y.u.n, (.slice ayu y.u.kids.length cyu), .int .i64 y.v.k, .int .i64 y.v.i, .int .i64 y.v.j, .int .i64 y.v.n, (.slice ayv y.v.kids.length cyv), .int .i64 y.a.k, .int .i64 y.a.i, .int .i64 y.a.j, .int .i64 y.a.n, (.slice aya y.a.kids.length cya), .int .i64 y.i] _ du (by rfl) rfl (by rfl) (fun w' h => h.2.2) hu1 (by cases du <;> first | rfl | exact hu2) size_judg) ?_
          (try simp only [Act.put, List.setIfInBounds_toArray, List.set_cons_zero, List.set_cons_succ])
          refine take_at 17 38 cs17 (yields_row w.heap.size _ _ _ #[.bool x.eq, .int .i64 x.u.k, .int .i64 x.u.i, .int .i64 x.u.j, .int .i64 x.u.n, (.slice axu x.u.kids.length cxu), .int .i64 x.v.k, .int .i64 x.v.i, .int .i64 x.v.j, .int .i64 x.v.n, (.slice axv x.v.kids.length cxv), .int .i64 x.a.k, .int .i64 x.a.i, .int .i64 x.a.j, .int .i64 x.a.n, (.slice axa x.a.kids.length cxa), .int .i64 x.i] _ du (by rfl) rfl (by rfl) (fun w' h => h.2.1) hu1 (by cases du <;> first | rfl | exact hu2) size_judg) ?_
          (try simp only [Act.put, List.setIfInBounds_toArray, List.set_cons_zero, List.set_cons_succ])
          refine take_at 18 39 cs18 (yields_row (w.heap.size + 1) _ _ _ #[.bool y.eq, .int .i64 y.u.k, .int .i64 y.u.i, .int .i64 y.u.j, .int .i64 y.u.n, (.slice ayu y.u.kids.length cyu), .int .i64 y.v.k, .int .i64 y.v.i, .int .i64 y.v.j, .int .i64 y.v.n, (.slice ayv y.v.kids.length cyv), .int .i64 y.a.k, .int .i64 y.a.i, .int .i64 y.a.j, .int .i64 y.a.n, (.slice aya y.a.kids.length cya), .int .i64 y.i] _ du (by rfl) rfl (by rfl) (fun w' h => h.2.2) hu1 (by cases du <;> first | rfl | exact hu2) size_judg) ?_
          (try simp only [Act.put, List.setIfInBounds_toArray, List.set_cons_zero, List.set_cons_succ])
          refine wpAnyH_ready (rs := [16]) (by kernel_rfl) (by simp) ?_
          refine AllReadyH.cons (o := cs16) rfl (fun K hK => ?_) ?_
          · unfold cs16
            go_simp
            (go_at_call 29; (with_reducible refine Calls.mono (samejudg_any x y _ _ _ _ _ _ _ (HX.out.keep (cs_below hHeld)) (HY.out.keep (cs_below hHeld))) ?_); rw [HJB.out]; rintro e w16 ⟨rfl, hb16⟩; have hS16 := cs_call hHeld hb16; clear hb16; clear hHeld; (try clear hS11))
            refine hK.out _ _ ?_ (fun hHeld => ?_)
            · (try dsimp only)
              (first | exact hS32 | exact hS29 | exact hS26 | exact hS25 | exact hS19 | exact hS16 | exact hS11 | exact hS10 | exact hS5 | exact hS2 | exact hS0)
            clear hK K
            (try simp only [Act.put, List.setIfInBounds_toArray, List.set_cons_zero, List.set_cons_succ])
            refine wpAnyH_ready (rs := [19]) (by kernel_rfl) (by simp) ?_
            refine AllReadyH.cons (o := cs19) rfl (fun K hK => ?_) ?_
            · unfold cs19
              go_simp
              (go_at_call 30; (with_reducible refine Calls.mono (keepjudg_any x y _ _ _ _ _ _ _ (HX.out.keep (cs_below hHeld)) (HY.out.keep (cs_below hHeld))) ?_); rw [HJB.out]; rintro e w19 ⟨rfl, hb19⟩; have hS19 := cs_call hHeld hb19; clear hb19; clear hHeld; (try clear hS16))
              refine hK.out _ _ ?_ (fun hHeld => ?_)
              · (try dsimp only)
                (first | exact hS32 | exact hS29 | exact hS26 | exact hS25 | exact hS19 | exact hS16 | exact hS11 | exact hS10 | exact hS5 | exact hS2 | exact hS0)
              clear hK K
              (try simp only [Act.put, List.setIfInBounds_toArray, List.set_cons_zero, List.set_cons_succ])
              refine take_at 20 41 cs20 (v := ?_) (Or.inl ⟨by rfl, ?_⟩) ?_
              rotate_left 1
              · ((intro w hSw; (try dsimp only at hSw); unfold cs20; go_simp) <;> with_reducible rfl)
              (try simp only [Act.put, List.setIfInBounds_toArray, List.set_cons_zero, List.set_cons_succ])
              refine take_at 21 42 cs21 (v := ?_) (Or.inl ⟨by rfl, ?_⟩) ?_
              rotate_left 1
              · ((intro w hSw; (try dsimp only at hSw); unfold cs21; go_simp) <;> with_reducible rfl)
              (try simp only [Act.put, List.setIfInBounds_toArray, List.set_cons_zero, List.set_cons_succ])
              refine take_at 22 43 cs22 (v := ?_) (Or.inl ⟨by rfl, ?_⟩) ?_
              rotate_left 1
              · ((intro w hSw; (try dsimp only at hSw); unfold cs22; go_simp) <;> with_reducible rfl)
              (try simp only [Act.put, List.setIfInBounds_toArray, List.set_cons_zero, List.set_cons_succ])
              refine take_at 23 44 cs23 (yields_row (w.heap.size + 1) _ _ _ #[.bool y.eq, .int .i64 y.u.k, .int .i64 y.u.i, .int .i64 y.u.j, .int .i64 y.u.n, (.slice ayu y.u.kids.length cyu), .int .i64 y.v.k, .int .i64 y.v.i, .int .i64 y.v.j, .int .i64 y.v.n, (.slice ayv y.v.kids.length cyv), .int .i64 y.a.k, .int .i64 y.a.i, .int .i64 y.a.j, .int .i64 y.a.n, (.slice aya y.a.kids.length cya), .int .i64 y.i] _ du (by rfl) rfl (by rfl) (fun w' h => h.2.2) hu1 (by cases du <;> first | rfl | exact hu2) size_judg) ?_
              (try simp only [Act.put, List.setIfInBounds_toArray, List.set_cons_zero, List.set_cons_succ])
              refine take_at 24 45 cs24 (yields_row (w.heap.size + 1) _ _ _ #[.bool y.eq, .int .i64 y.u.k, .int .i64 y.u.i, .int .i64 y.u.j, .int .i64 y.u.n, (.slice ayu y.u.kids.length cyu), .int .i64 y.v.k, .int .i64 y.v.i, .int .i64 y.v.j, .int .i64 y.v.n, (.slice ayv y.v.kids.length cyv), .int .i64 y.a.k, .int .i64 y.a.i, .int .i64 y.a.j, .int .i64 y.a.n, (.slice aya y.a.kids.length cya), .int .i64 y.i] _ du (by rfl) rfl (by rfl) (fun w' h => h.2.2) hu1 (by cases du <;> first | rfl | exact hu2) size_judg) ?_
              (try simp only [Act.put, List.setIfInBounds_toArray, List.set_cons_zero, List.set_cons_succ])
              refine wpAnyH_ready (rs := [25]) (by kernel_rfl) (by simp) ?_
              refine AllReadyH.cons (o := cs25) rfl (fun K hK => ?_) ?_
              · unfold cs25
                go_simp
                have hb25 : Below w19.heap.size w19 (w19.alloc (.cells #[.bool y.eq, .int .i64 y.u.k, .int .i64 y.u.i, .int .i64 y.u.j, .int .i64 y.u.n, (.slice ayu y.u.kids.length cyu), .int .i64 y.v.k, .int .i64 y.v.i, .int .i64 y.v.j, .int .i64 y.v.n, (.slice ayv y.v.kids.length cyv), .int .i64 y.a.k, .int .i64 y.a.i, .int .i64 y.a.j, .int .i64 y.a.n, (.slice aya y.a.kids.length cya), .int .i64 y.i] 45)) := (Below.refl _ _).alloc (Nat.le_refl _) _
                have hS25 := cs_call hHeld hb25
                have HO := Lib.hid (liesJ_one w19 y (.slice ayu y.u.kids.length cyu) (.slice ayv y.v.kids.length cyv) (.slice aya y.a.kids.length cya) HFY.out (HY.out.keep (cs_below hHeld)))
                clear hHeld hb25
                (try clear hS19)
                refine hK.out _ _ ?_ (fun hHeld => ?_)
                · (try dsimp only)
                  (first | exact hS32 | exact hS29 | exact hS26 | exact hS25 | exact hS19 | exact hS16 | exact hS11 | exact hS10 | exact hS5 | exact hS2 | exact hS0)
                clear hK K
                (try simp only [Act.put, List.setIfInBounds_toArray, List.set_cons_zero, List.set_cons_succ])
                refine wpAnyH_ready (rs := [26]) (by kernel_rfl) (by simp) ?_
                refine AllReadyH.cons (o := cs26) rfl (fun K hK => ?_) ?_
                · unfold cs26
                  go_simp
                  (go_at_call 31; (with_reducible refine Calls.mono (twinjudgs_any [y] _ _ HO.out (by simp) HSY.out) ?_); rintro e w26 ⟨s26, rfl, hl26, hb26⟩; have hS26 := cs_call hHeld hb26; obtain ⟨b7, o7, cap7, t0, t1, t2, rfl, hx7, hk7⟩ := liesJ_first hl26; obtain ⟨a7u, c7u, S7u, hs7u, -⟩ := hk7.1.out; obtain ⟨a7v, c7v, S7v, hs7v, -⟩ := hk7.2.1.out; obtain ⟨a7a, c7a, S7a, hs7a, -⟩ := hk7.2.2.out; subst hs7u hs7v hs7a; have HX7 := Lib.hid hx7; have HK7 := Lib.hid hk7; clear hb26 hl26 hx7 hk7; clear hHeld; (try clear hS25))
                  refine hK.out _ _ ?_ (fun hHeld => ?_)
                  · (try dsimp only)
                    (first | exact hS32 | exact hS29 | exact hS26 | exact hS25 | exact hS19 | exact hS16 | exact hS11 | exact hS10 | exact hS5 | exact hS2 | exact hS0)
                  clear hK K
                  (try simp only [Act.put, List.setIfInBounds_toArray, List.set_cons_zero, List.set_cons_succ])
                  refine wpAnyH_weaker (S' := fun w' => CSW w x y (.slice axu x.u.kids.length cxu) (.slice axv x.v.kids.length cxv) (.slice axa x.a.kids.length cxa) (.slice ayu y.u.kids.length cyu) (.slice ayv y.v.kids.length cyv) (.slice aya y.a.kids.length cya) w' ∧ JNode w' b7 o7 y (.slice a7u y.u.kids.length c7u) (.slice a7v y.v.kids.length c7v) (.slice a7a y.a.kids.length c7a)) (fun _ h => h.1) _ _ _ _ ?_
                  have hHeld := And.intro hHeld HX7.out
                  refine take_at 27 48 cs27 (v := ?_) (Or.inl ⟨by rfl, ?_⟩) ?_
                  rotate_left 1
                  · ((intro w hSw; (try dsimp only at hSw); unfold cs27; go_simp) <;> with_reducible rfl)
                  (try simp only [Act.put, List.setIfInBounds_toArray, List.set_cons_zero, List.set_cons_succ])
                  refine take_at 28 49 cs28 (v := ?_) (Or.inl ⟨by rfl, ?_⟩) ?_
                  rotate_left 1
                  · ((intro w hSw; (try dsimp only at hSw); (try have hSw := cs_open2 hSw); unfold cs28; go_simp) <;> with_reducible rfl)
                  (try simp only [Act.put, List.setIfInBounds_toArray, List.set_cons_zero, List.set_cons_succ])
                  refine wpAnyH_ready (rs := [29]) (by kernel_rfl) (by simp) ?_
                  refine AllReadyH.cons (o := cs29) rfl (fun K hK => ?_) ?_
                  · unfold cs29
                    go_simp
                    (go_at_call 29; (with_reducible refine Calls.mono (samejudg_any y y _ _ _ _ _ _ _ (HY.out.keep (cs_below hHeld.1)) HK7.out) ?_); rw [judgB_self]; rintro e w29 ⟨rfl, hb29⟩; have hS29 := cs_call2 hHeld hb29; clear hHeld hb29; (try clear hS26))
                    refine hK.out _ _ ?_ (fun hHeld => ?_)
                    · (try dsimp only)
                      (first | exact hS32 | exact hS29 | exact hS26 | exact hS25 | exact hS19 | exact hS16 | exact hS11 | exact hS10 | exact hS5 | exact hS2 | exact hS0)
                    clear hK K
                    (try simp only [Act.put, List.setIfInBounds_toArray, List.set_cons_zero, List.set_cons_succ])
                    refine take_at 30 51 cs30 (v := ?_) (Or.inl ⟨by rfl, ?_⟩) ?_
                    rotate_left 1
                    · ((intro w hSw; (try dsimp only at hSw); unfold cs30; go_simp) <;> with_reducible rfl)
                    (try simp only [Act.put, List.setIfInBounds_toArray, List.set_cons_zero, List.set_cons_succ])
                    refine take_at 31 52 cs31 (v := ?_) (Or.inl ⟨by rfl, ?_⟩) ?_
                    rotate_left 1
                    · ((intro w hSw; (try dsimp only at hSw); unfold cs31; go_simp) <;> with_reducible rfl)
                    (try simp only [Act.put, List.setIfInBounds_toArray, List.set_cons_zero, List.set_cons_succ])
                    refine wpAnyH_ready (rs := [32]) (by kernel_rfl) (by simp) ?_
                    refine AllReadyH.cons (o := cs32) rfl (fun K hK => ?_) ?_
                    · unfold cs32
                      go_simp
                      (go_at_call 14; (with_reducible refine Calls.mono (wakes11_any _) ?_); rintro e w32 ⟨rfl, hb32⟩; have hS32 := cs_call2 hHeld hb32; clear hHeld hb32; (try clear hS29))
                      refine hK.out _ _ ?_ (fun hHeld => ?_)
                      · (try dsimp only)
                        (first | exact hS32 | exact hS29 | exact hS26 | exact hS25 | exact hS19 | exact hS16 | exact hS11 | exact hS10 | exact hS5 | exact hS2 | exact hS0)
                      clear hK K
                      (try simp only [Act.put, List.setIfInBounds_toArray, List.set_cons_zero, List.set_cons_succ])
                      refine take_at 33 54 cs33 (v := ?_) (Or.inl ⟨by rfl, ?_⟩) ?_
                      rotate_left 1
                      · ((intro w hSw; (try dsimp only at hSw); unfold cs33; go_simp) <;> with_reducible rfl)
                      (try simp only [Act.put, List.setIfInBounds_toArray, List.set_cons_zero, List.set_cons_succ])
                      refine take_at 34 8 cs34 (v := ?_) (Or.inl ⟨by rfl, ?_⟩) ?_
                      rotate_left 1
                      · ((intro w hSw; (try dsimp only at hSw); unfold cs34; go_simp) <;> with_reducible rfl)
                      (try simp only [Act.put, List.setIfInBounds_toArray, List.set_cons_zero, List.set_cons_succ])
                      refine wpAnyH_done (by kernel_rfl) ?_ _
                      have hkE := cs_below hHeld.1
                      clear hHeld
                      go_wp2_with fail
                      go_ret
                      exact ⟨rfl, hkE⟩
                    exact AllReadyH.nil
                  exact AllReadyH.nil
                exact AllReadyH.nil
              exact AllReadyH.nil
            exact AllReadyH.nil
          exact AllReadyH.nil
        exact AllReadyH.nil
      exact AllReadyH.nil
    exact AllReadyH.nil
  exact AllReadyH.nil
end Go.Proofs.Ytjhdcjjoignioaa

/-! A term that is handed in, opened: it is a tree that lies in the world. -/
namespace Go.Proofs.Ytjhdcjjoignioaa
open Go.ChangeShapes Go.WideShapes Go.ChangeAt Go.RowKit

theorem own : ownKnob Try.prog.godebug = none := by kernel_rfl
theorem cells_int : Try.prog.cellsOf 3 = 1 := by kernel_rfl
theorem cells_kids : Try.prog.cellsOf 24 = 1 := by kernel_rfl
theorem cells_term : Try.prog.cellsOf 26 = 5 := by kernel_rfl
theorem laidOut : laidOutB Try.prog = true := by kernel_rfl

instance instOpenTm : Inhabited (Tm × Value) := ⟨(.mk 0 0 0 0 [], .nilIface)⟩

theorem list5 {α : Type} {l : List α} (h : l.length = 5) : ∃ a b c d e, l = [a, b, c, d, e] := by
  match l, h with
  | [a, b, c, d, e], _ => exact ⟨a, b, c, d, e, rfl⟩

theorem wf_I64 {x : Int} (h : (Lit.int .i64 x).wf = true) : I64 x := by
  simp [Lit.wf] at h
  have hm : IntKind.i64.min = -9223372036854775808 := by decide
  rw [hm] at h
  exact h

set_option maxRecDepth 100000 in
theorem open_term {H : Type} {enc : TypeId × Value → H} {w : World} {base : Nat} {sp : Nat → Bool} {hd : Bool} : ∀ (fuel : Nat) (cs : List Value) (x : DataW H × List MemPlace),
    DataW.trod enc Try.prog w base sp hd fuel 26 cs = some x → ∃ (t : Tm) (s : Value), cs = [.int .i64 t.k, .int .i64 t.i, .int .i64 t.j, .int .i64 t.n, s] ∧ t.fine ∧ Lies w t.kids s := by
  intro fuel
  induction fuel using Nat.strongRecOn with
  | _ fuel ih =>
    intro cs x h
    obtain ⟨xs, n, rfl, rfl, hl, hlen, hf⟩ := DataW.trod_struct Try.underlying26 h
    rw [cells_term] at hl
    obtain ⟨v0, v1, v2, v3, v4, rfl⟩ := list5 hl
    obtain ⟨y0, y1, y2, y3, y4, rfl⟩ := list5 hlen
    have g0 := hf 0 _ rfl
    have g1 := hf 1 _ rfl
    have g2 := hf 2 _ rfl
    have g3 := hf 3 _ rfl
    have g4 := hf 4 _ rfl
    simp [cells_int, cells_kids] at g0 g1 g2 g3 g4
    obtain ⟨k, e0, -, w0⟩ := DataW.trod_int Try.underlying3 g0
    obtain ⟨i, e1, -, w1⟩ := DataW.trod_int Try.underlying3 g1
    obtain ⟨j, e2, -, w2⟩ := DataW.trod_int Try.underlying3 g2
    obtain ⟨m, e3, -, w3⟩ := DataW.trod_int Try.underlying3 g3
    simp at e0 e1 e2 e3
    subst e0 e1 e2 e3
    rcases DataW.trod_slice Try.underlying24 g4 with ⟨e4, -⟩ | ⟨a, len, cap, elems, rest, n', rfl, e4, -, hb, hlc, hm, hlen', hel, -, -⟩
    · simp at e4
      subst e4
      exact ⟨.mk k i j m [], _, rfl, ⟨wf_I64 w0, wf_I64 w1, wf_I64 w2, wf_I64 w3⟩, .mk [] none 0 (fun _ => .nilIface) (Nat.le_refl _) (by decide) (fun _ h => by cases h) (fun _ h => by cases h) (fun _ h => by cases h)⟩
    · simp at e4
      subst e4
      have key : ∀ i, i < len → ∃ p : Tm × Value, p.1.fine ∧ Lies w p.1.kids p.2 ∧ ∃ b o, a = ⟨b, o, none⟩ ∧ Node w b (o + i * 5) p.1 p.2 := by
        intro i hi
        have h1 := hel i hi
        rw [cells_term, List.getElem?_eq_getElem (by omega)] at h1
        obtain ⟨cs', h2, h3⟩ := Option.bind_eq_some_iff.1 h1
        obtain ⟨t, s, rfl, hfine, hlies⟩ := ih n' (by omega) _ _ h3
        obtain ⟨-, -, hcell⟩ := World.cells?_some h2
        have hs0 : a.spot = none := by
          have h1 := hel 0 (by omega)
          rw [cells_term, List.getElem?_eq_getElem (by omega)] at h1
          obtain ⟨cs0, h2, -⟩ := Option.bind_eq_some_iff.1 h1
          obtain ⟨-, hl0, hc0⟩ := World.cells?_some h2
          have c0 := hc0 0 (by omega)
          rw [List.getElem?_eq_getElem (by omega)] at c0
          simpa [Addr.add] using World.cell?_spot c0
        obtain ⟨b, o, spot⟩ := a
        simp only at hs0
        subst hs0
        refine ⟨(t, s), hfine, hlies, b, o, rfl, ?_⟩
        have hc : ∀ q, q < 5 → w.cell? ⟨b, o + i * 5 + q, none⟩ = [Value.int .i64 t.k, .int .i64 t.i, .int .i64 t.j, .int .i64 t.n, s][q]? := fun q hq => by
          have := hcell q hq
          rwa [add_plain, add_plain] at this
        exact ⟨hc 0 (by omega), hc 1 (by omega), hc 2 (by omega), hc 3 (by omega), hc 4 (by omega)⟩
      obtain ⟨f, hf'⟩ := Go.Deep.choose_lt (α := Tm × Value) (p := fun i p => p.1.fine ∧ Lies w p.1.kids p.2 ∧ ∃ b o, a = ⟨b, o, none⟩ ∧ Node w b (o + i * 5) p.1 p.2) key
      have hl5 : ((List.range len).map fun i => (f i).1).length = len := by simp
      refine ⟨.mk k i j m ((List.range len).map fun i => (f i).1), _, rfl, ⟨wf_I64 w0, wf_I64 w1, wf_I64 w2, wf_I64 w3⟩, ?_⟩
      have := Lies.mk (w := w) ((List.range len).map fun i => (f i).1) (some a) cap (fun i => (f i).2) (by simpa using hlc) hm
        (fun x hx => by
          obtain ⟨i, hi, rfl⟩ := List.mem_map.1 hx
          exact (hf' i (List.mem_range.1 hi)).1)
        (fun i hi => by
          obtain ⟨b, o, ha, hn⟩ := (hf' i (by simpa using hi)).2.2
          exact ⟨b, o, by rw [ha], by simpa using hn⟩)
        (fun i hi => by simpa using (hf' i (by simpa using hi)).2.1)
      rwa [hl5] at this
set_option maxRecDepth 100000 in
/-- The same for an argument. -/
theorem open_arg {H : Type} {enc : TypeId × Value → H} {W : World} {r : Reach} {b0 base : Nat} {sp : Nat → Bool} {hd : Bool} {v : Value} {d : DataW H} {p : List MemPlace} (hv : Value.okWide Try.prog W r b0 26 v)
    (h : DataW.Trod enc Try.prog W base sp hd 26 v d p) : ∃ (t : Tm) (s : Value), Lies W t.kids s ∧ v = tv t s := by
  obtain ⟨cs, rfl, hsz⟩ := okWide_struct Try.underlying26 hv
  obtain ⟨fuel, hf⟩ := h
  obtain ⟨t, s, hcs, -, hl⟩ := open_term fuel _ _ hf
  refine ⟨t, s, hl, ?_⟩
  have : cs.toList = [.int .i64 t.k, .int .i64 t.i, .int .i64 t.j, .int .i64 t.n, s] := by simpa [Value.cells] using hcs
  rw [show cs = #[.int .i64 t.k, .int .i64 t.i, .int .i64 t.j, .int .i64 t.n, s] from by cases cs; simp_all]

end Go.Proofs.Ytjhdcjjoignioaa

/-! Entries that are handed in, opened. -/
namespace Go.Proofs.Ytjhdcjjoignioaa
open Go.ChangeShapes Go.WideShapes Go.ChangeAt Go.RowKit

theorem cells_entry : Try.prog.cellsOf 38 = 6 := by kernel_rfl
instance instOpenEn : Inhabited (En × Value) := ⟨(⟨.mk 0 0 0 0 [], 0⟩, .nilIface)⟩
theorem list6 {α : Type} {l : List α} (h : l.length = 6) : ∃ a b c d e f, l = [a, b, c, d, e, f] := by
  match l, h with
  | [a, b, c, d, e, f], _ => exact ⟨a, b, c, d, e, f, rfl⟩
theorem list2 {α : Type} {l : List α} (h : l.length = 2) : ∃ a b, l = [a, b] := by
  match l, h with
  | [a, b], _ => exact ⟨a, b, rfl⟩

set_option maxRecDepth 100000 in
theorem open_entry {H : Type} {enc : TypeId × Value → H} {w : World} {base : Nat} {sp : Nat → Bool} {hd : Bool} (fuel : Nat) (cs : List Value) (x : DataW H × List MemPlace)
    (h : DataW.trod enc Try.prog w base sp hd fuel 38 cs = some x) : ∃ (e : En) (s : Value), cs = [.int .i64 e.a.k, .int .i64 e.a.i, .int .i64 e.a.j, .int .i64 e.a.n, s, .int .i64 e.i] ∧ e.fine ∧ Lies w e.a.kids s := by
  obtain ⟨xs, n, rfl, rfl, hl, hlen, hf⟩ := DataW.trod_struct Try.underlying38 h
  rw [cells_entry] at hl
  obtain ⟨v0, v1, v2, v3, v4, v5, rfl⟩ := list6 hl
  obtain ⟨y0, y1, rfl⟩ := list2 hlen
  have g0 := hf 0 _ rfl
  have g1 := hf 1 _ rfl
  simp [cells_int, cells_term] at g0 g1
  obtain ⟨t, s, hcs, hfine, hlies⟩ := open_term n _ _ g0
  obtain ⟨i, e1, -, w1⟩ := DataW.trod_int Try.underlying3 g1
  simp at e1 hcs
  subst e1
  obtain ⟨rfl, rfl, rfl, rfl, rfl⟩ := hcs
  exact ⟨⟨t, i⟩, v4, rfl, ⟨hfine, wf_I64 w1⟩, hlies⟩

set_option maxRecDepth 100000 in
theorem open_argE {H : Type} {enc : TypeId × Value → H} {w : World} {r : Reach} {b0 base : Nat} {sp : Nat → Bool} {hd : Bool} {v : Value} {d : DataW H} {p : List MemPlace} (hv : Value.okWide Try.prog w r b0 22 v)
    (h : DataW.Trod enc Try.prog w base sp hd 22 v d p) : ∃ l : List En, LiesE w l v := by
  obtain ⟨a0, len0, cap0, rfl⟩ := okWide_slice Try.underlying22 hv
  obtain ⟨fuel, hf⟩ := h
  rcases DataW.trod_slice Try.underlying22 hf with ⟨e4, -⟩ | ⟨a, len, cap, elems, rest, n', rfl, e4, -, hb, hlc, hm, hlen', hel, -, -⟩
  · simp [Value.cells] at e4
    obtain ⟨rfl, rfl, rfl⟩ := e4
    exact ⟨[], liesE_nil _⟩
  · simp [Value.cells] at e4
    obtain ⟨rfl, rfl, rfl⟩ := e4
    have key : ∀ i, i < len0 → ∃ p : En × Value, p.1.fine ∧ Lies w p.1.a.kids p.2 ∧ ∃ b o, a = ⟨b, o, none⟩ ∧ ENode w b (o + i * 6) p.1 p.2 := by
      intro i hi
      have h1 := hel i hi
      rw [cells_entry, List.getElem?_eq_getElem (by omega)] at h1
      obtain ⟨cs', h2, h3⟩ := Option.bind_eq_some_iff.1 h1
      obtain ⟨t, s, rfl, hfine, hlies⟩ := open_entry n' _ _ h3
      obtain ⟨-, -, hcell⟩ := World.cells?_some h2
      have hs0 : a.spot = none := by
        have h1 := hel 0 (by omega)
        rw [cells_entry, List.getElem?_eq_getElem (by omega)] at h1
        obtain ⟨cs0, h2, -⟩ := Option.bind_eq_some_iff.1 h1
        obtain ⟨-, hl0, hc0⟩ := World.cells?_some h2
        have c0 := hc0 0 (by omega)
        rw [List.getElem?_eq_getElem (by omega)] at c0
        simpa [Addr.add] using World.cell?_spot c0
      obtain ⟨b, o, spot⟩ := a
      simp only at hs0
      subst hs0
      refine ⟨(t, s), hfine, hlies, b, o, rfl, ?_⟩
      have hc : ∀ q, q < 6 → w.cell? ⟨b, o + i * 6 + q, none⟩ = [Value.int .i64 t.a.k, .int .i64 t.a.i, .int .i64 t.a.j, .int .i64 t.a.n, s, .int .i64 t.i][q]? := fun q hq => by
        have := hcell q hq
        rwa [add_plain, add_plain] at this
      exact ⟨hc 0 (by omega), hc 1 (by omega), hc 2 (by omega), hc 3 (by omega), hc 4 (by omega), hc 5 (by omega)⟩
    obtain ⟨f, hf'⟩ := Go.Deep.choose_lt (α := En × Value) (p := fun i p => p.1.fine ∧ Lies w p.1.a.kids p.2 ∧ ∃ b o, a = ⟨b, o, none⟩ ∧ ENode w b (o + i * 6) p.1 p.2) key
    have hl5 : ((List.range len0).map fun i => (f i).1).length = len0 := by simp
    refine ⟨(List.range len0).map fun i => (f i).1, some a, cap0, (fun i => (f i).2), by rw [hl5], by simpa using hlc, hm, ?_, ?_, ?_⟩
    · intro x hx
      obtain ⟨i, hi, rfl⟩ := List.mem_map.1 hx
      exact (hf' i (List.mem_range.1 hi)).1
    · intro i hi
      obtain ⟨b, o, ha, hn⟩ := (hf' i (by simpa using hi)).2.2
      exact ⟨b, o, by rw [ha], by simpa using hn⟩
    · intro i hi
      simpa using (hf' i (by simpa using hi)).2.1
end Go.Proofs.Ytjhdcjjoignioaa

/-! A judgment that is handed in, opened. -/
namespace Go.Proofs.Ytjhdcjjoignioaa
open Go.ChangeShapes Go.WideShapes Go.ChangeAt Go.RowKit

theorem cells_judg : Try.prog.cellsOf 45 = 17 := by kernel_rfl
theorem cells_bool : Try.prog.cellsOf 4 = 1 := by kernel_rfl
theorem list17 {α : Type} {l : List α} (h : l.length = 17) : ∃ v0 v1 v2 v3 v4 v5 v6 v7 v8 v9 v10 v11 v12 v13 v14 v15 v16, l = [v0, v1, v2, v3, v4, v5, v6, v7, v8, v9, v10, v11, v12, v13, v14, v15, v16] := by
  match l, h with
  | [v0, v1, v2, v3, v4, v5, v6, v7, v8, v9, v10, v11, v12, v13, v14, v15, v16], _ => exact ⟨v0, v1, v2, v3, v4, v5, v6, v7, v8, v9, v10, v11, v12, v13, v14, v15, v16, rfl⟩
set_option maxRecDepth 100000 in
theorem open_judg {H : Type} {enc : TypeId × Value → H} {w : World} {base : Nat} {sp : Nat → Bool} {hd : Bool} (fuel : Nat) (cs : List Value) (x : DataW H × List MemPlace)
    (h : DataW.trod enc Try.prog w base sp hd fuel 45 cs = some x) : ∃ (j : Jd) (su sv sa : Value), cs = [.bool j.eq, .int .i64 j.u.k, .int .i64 j.u.i, .int .i64 j.u.j, .int .i64 j.u.n, su, .int .i64 j.v.k, .int .i64 j.v.i, .int .i64 j.v.j, .int .i64 j.v.n, sv, .int .i64 j.a.k, .int .i64 j.a.i, .int .i64 j.a.j, .int .i64 j.a.n, sa, .int .i64 j.i] ∧ j.fine ∧ JLies w j su sv sa := by
  obtain ⟨xs, n, rfl, rfl, hl, hlen, hf⟩ := DataW.trod_struct Try.underlying45 h
  rw [cells_judg] at hl
  obtain ⟨v0, v1, v2, v3, v4, v5, v6, v7, v8, v9, v10, v11, v12, v13, v14, v15, v16, rfl⟩ := list17 hl
  obtain ⟨y0, y1, y2, y3, y4, rfl⟩ := list5 hlen
  have g0 := hf 0 _ rfl
  have g1 := hf 1 _ rfl
  have g2 := hf 2 _ rfl
  have g3 := hf 3 _ rfl
  have g4 := hf 4 _ rfl
  simp [cells_int, cells_term, cells_bool] at g0 g1 g2 g3 g4
  obtain ⟨e, he, -⟩ := DataW.trod_bool Try.underlying4 g0
  obtain ⟨tu, su, hcu, hfu, hlu⟩ := open_term n _ _ g1
  obtain ⟨tv, sv, hcv, hfv, hlv⟩ := open_term n _ _ g2
  obtain ⟨ta, sa, hca, hfa, hla⟩ := open_term n _ _ g3
  obtain ⟨i, ei, -, wi⟩ := DataW.trod_int Try.underlying3 g4
  simp at he ei hcu hcv hca
  subst he ei
  obtain ⟨rfl, rfl, rfl, rfl, rfl⟩ := hcu
  obtain ⟨rfl, rfl, rfl, rfl, rfl⟩ := hcv
  obtain ⟨rfl, rfl, rfl, rfl, rfl⟩ := hca
  exact ⟨⟨e, tu, tv, ta, i⟩, _, _, _, rfl, ⟨hfu, hfv, hfa, wf_I64 wi⟩, hlu, hlv, hla⟩
set_option maxRecDepth 100000 in
theorem open_argJ {H : Type} {enc : TypeId × Value → H} {W : World} {r : Reach} {b0 base : Nat} {sp : Nat → Bool} {hd : Bool} {v : Value} {d : DataW H} {p : List MemPlace} (hv : Value.okWide Try.prog W r b0 45 v)
    (h : DataW.Trod enc Try.prog W base sp hd 45 v d p) : ∃ (j : Jd) (su sv sa : Value), JLies W j su sv sa ∧ j.fine ∧ v = jv j su sv sa := by
  obtain ⟨cs, rfl, hsz⟩ := okWide_struct Try.underlying45 hv
  obtain ⟨fuel, hf⟩ := h
  obtain ⟨j, su, sv, sa, hcs, hfj, hl⟩ := open_judg fuel _ _ hf
  refine ⟨j, su, sv, sa, hl, hfj, ?_⟩
  have : cs.toList = [.bool j.eq, .int .i64 j.u.k, .int .i64 j.u.i, .int .i64 j.u.j, .int .i64 j.u.n, su, .int .i64 j.v.k, .int .i64 j.v.i, .int .i64 j.v.j, .int .i64 j.v.n, sv, .int .i64 j.a.k, .int .i64 j.a.i, .int .i64 j.a.j, .int .i64 j.a.n, sa, .int .i64 j.i] := by simpa [Value.cells] using hcs
  rw [show cs = #[.bool j.eq, .int .i64 j.u.k, .int .i64 j.u.i, .int .i64 j.u.j, .int .i64 j.u.n, su, .int .i64 j.v.k, .int .i64 j.v.i, .int .i64 j.v.j, .int .i64 j.v.n, sv, .int .i64 j.a.k, .int .i64 j.a.i, .int .i64 j.a.j, .int .i64 j.a.n, sa, .int .i64 j.i] from by cases cs; simp_all]
end Go.Proofs.Ytjhdcjjoignioaa

/-! The words of the cut's first line: the facts of a row that ask for them, each made once for all rows of the seat. -/
namespace Go.Proofs.Ytjhdcjjoignioaa
open Go.ChangeShapes Go.WideShapes

def code (l : List Nat) : List Char := l.map Char.ofNat
def joinN : List (List Nat) → List Nat
  | [] => []
  | [a] => a
  | a :: b :: r => a ++ 32 :: joinN (b :: r)

theorem words_one : ∀ a : List Nat, (a.all fun n => Char.ofNat n != Char.ofNat 32) = true → wordsSigns (code a) = [code a]
  | [], _ => rfl
  | n :: a, h => by
    simp only [List.all_cons, Bool.and_eq_true, bne_iff_ne] at h
    have ih := words_one a h.2
    show wordsSigns (Char.ofNat n :: code a) = _
    rw [wordsSigns]
    · rw [ih]; rfl
    · exact h.1
theorem words_more : ∀ (a : List Nat) (r : List Char), (a.all fun n => Char.ofNat n != Char.ofNat 32) = true → wordsSigns (code a ++ Char.ofNat 32 :: r) = code a :: wordsSigns r
  | [], r, _ => by
    show wordsSigns (Char.ofNat 32 :: r) = _
    rw [show Char.ofNat 32 = _ from rfl, wordsSigns]; rfl
  | n :: a, r, h => by
    simp only [List.all_cons, Bool.and_eq_true, bne_iff_ne] at h
    have ih := words_more a r h.2
    show wordsSigns (Char.ofNat n :: (code a ++ Char.ofNat 32 :: r)) = _
    rw [wordsSigns]
    · rw [ih]; rfl
    · exact h.1
theorem words_join : ∀ ws : List (List Nat), ws ≠ [] → (ws.all fun w => w.all fun n => Char.ofNat n != Char.ofNat 32) = true → wordsSigns (code (joinN ws)) = ws.map code
  | [], h, _ => absurd rfl h
  | [a], _, h => by simp only [List.all_cons, List.all_nil, Bool.and_true] at h; exact words_one a h
  | a :: b :: r, _, h => by
    have h' := h
    rw [List.all_cons, Bool.and_eq_true] at h'
    have ih := words_join (b :: r) (by simp) h'.2
    show wordsSigns (code (a ++ 32 :: joinN (b :: r))) = _
    rw [show code (a ++ 32 :: joinN (b :: r)) = code a ++ Char.ofNat 32 :: code (joinN (b :: r)) from by simp [code], words_more a _ h'.1, ih]; rfl

def cutWords : List (List Nat) := [[104, 97, 114, 110, 101, 115, 115],
  [56, 98, 52, 56, 53, 53, 52, 102, 48, 102, 100, 100, 54, 98, 54, 50, 98, 49, 55, 50, 99, 99, 54, 51, 101, 55, 101, 53, 99, 55, 54, 51, 52, 51, 101, 97, 100, 97, 56, 57, 55, 102, 48, 98, 52, 98, 97, 56, 51, 101, 98, 49, 49, 99, 48, 51, 99, 52, 55, 53, 51, 52, 102, 53],
  [99, 117, 116],
  [97, 116],
  [116, 114, 97, 110, 115, 104, 105, 112, 47, 116, 114, 97, 110, 115, 104, 105, 112, 108, 97, 119, 49, 49, 46, 67, 116, 120, 69, 120, 97, 99, 116],
  [116, 114, 97, 110, 115, 104, 105, 112, 47, 116, 114, 97, 110, 115, 104, 105, 112, 108, 97, 119, 49, 49, 46, 67, 116, 120, 70, 111, 114, 109, 115],
  [116, 114, 97, 110, 115, 104, 105, 112, 47, 116, 114, 97, 110, 115, 104, 105, 112, 108, 97, 119, 49, 49, 46, 67, 116, 120, 65, 100, 100, 115],
  [116, 114, 97, 110, 115, 104, 105, 112, 47, 116, 114, 97, 110, 115, 104, 105, 112, 108, 97, 119, 49, 49, 46, 67, 116, 120, 83, 97, 109, 101],
  [116, 114, 97, 110, 115, 104, 105, 112, 47, 116, 114, 97, 110, 115, 104, 105, 112, 108, 97, 119, 49, 50, 46, 68, 101, 114, 105, 118, 80, 97, 116, 104, 115]]

set_option maxRecDepth 100000 in
theorem cut_words : wordsSigns Try.prog.initOrder.toList = cutWords.map code := by
  have h : Try.prog.initOrder.toList = code (joinN cutWords) := by
    show (String.ofList (code (joinN cutWords))).toList = _
    exact String.toList_ofList
  rw [h]
  exact words_join cutWords (by simp [cutWords]) (by decide +kernel)

theorem cut_behind : behindMainWord (cutWords.map code) = code [99, 117, 116] :: cutWords.tail.tail.tail.map code := by kernel_rfl
theorem cut_lifts : stripLifts liftWords (code [99, 117, 116] :: cutWords.tail.tail.tail.map code) = ([], code [99, 117, 116] :: cutWords.tail.tail.tail.map code) := by kernel_rfl
theorem cut1 : (code [99, 117, 116] == "gc".toList) = false := by kernel_rfl
theorem cut2 : (code [99, 117, 116] == "spec".toList) = false := by kernel_rfl
theorem cut3 : (code [99, 117, 116] == "cut".toList) = true := by kernel_rfl
theorem cut_all : behindMainWord (wordsSigns Try.prog.initOrder.toList) = code [99, 117, 116] :: cutWords.tail.tail.tail.map code := by rw [cut_words, cut_behind]
theorem make_of (P : Program) {c : List Char} {rest : List (List Char)} (h : behindMainWord (wordsSigns P.initOrder.toList) = c :: rest) (h1 : (c == "gc".toList) = false) (h2 : (c == "spec".toList) = false) (h3 : (c == "cut".toList) = true) : P.make = some .cut := by
  unfold Program.make; rw [h]
  simp only [h1, h2, h3, Bool.or_self, Bool.false_eq_true, if_false, Bool.true_or, if_true]
theorem mayEnter_of (P : Program) {c : List Char} {rest : List (List Char)} (h : behindMainWord (wordsSigns P.initOrder.toList) = c :: rest) (h3 : ((stripLifts liftWords (c :: rest)).2.head? == some "cut".toList) = true)
    (h4 : (stripLifts liftWords (c :: rest)).1 = []) (h5 : P.laysLater = false) (h6 : P.bearsReflect = false) (h7 : P.doorFits [] = true) : P.mayEnter = true := by
  unfold Program.mayEnter; rw [h]
  refine Bool.or_eq_true_iff.2 (Or.inr ?_)
  rw [h3, h4, h5, h6, h7]; rfl
theorem row_make : Try.prog.make = some .cut := make_of Try.prog cut_all cut1 cut2 cut3
theorem row_mayEnter : Try.prog.mayEnter = true := mayEnter_of Try.prog cut_all (by rw [cut_lifts]; kernel_rfl) (by rw [cut_lifts]) (by kernel_rfl) (by kernel_rfl) (by kernel_rfl)
theorem row_lifts : Try.prog.liftsFinal = false := by unfold Program.liftsFinal Program.headLifts; rw [cut_all, cut_lifts]; kernel_rfl
end Go.Proofs.Ytjhdcjjoignioaa

/-! CtxSame holds: for every input the call returns true, and the arguments read as before. The walk of the Go text is in the texts that this one imports; no condition. -/
namespace Go.Proofs.Ytjhdcjjoignioaa.lawCtxSame
open Go.ChangeShapes Go.WideShapes Go.ChangeAt Go.RowKit

set_option maxRecDepth 100000 in
theorem lifted (os : Os) (started : os.Started) (H : Type) (enc : TypeId × Value → H) :
    ReturnsInHanded {} Try.checked os 6 .any (Rows.ctxSameSpec.pre6 enc Try.prog Try.f6 Rows.ctxSameRow.domain false) (Rows.ctxSameSpec.post enc Try.prog Try.f6 false true false false) := by
  refine returnsInHanded_of_change (C := Try.checked) own started (by kernel_rfl) Try.func6
    (ChangeSpec.witness6 (enc := enc) (C := Try.checked) false ⟨#[], #[.slice none 0 0, .slice none 0 0, .agg #[.bool false, .int .i64 0, .int .i64 0, .int .i64 0, .int .i64 0, .slice none 0 0, .int .i64 0, .int .i64 0, .int .i64 0, .int .i64 0, .slice none 0 0, .int .i64 0, .int .i64 0, .int .i64 0, .int .i64 0, .slice none 0 0, .int .i64 0], .agg #[.bool false, .int .i64 0, .int .i64 0, .int .i64 0, .int .i64 0, .slice none 0 0, .int .i64 0, .int .i64 0, .int .i64 0, .int .i64 0, .slice none 0 0, .int .i64 0, .int .i64 0, .int .i64 0, .int .i64 0, .slice none 0 0, .int .i64 0]], []⟩ 8 (by kernel_rfl) (by kernel_rfl) (by kernel_rfl) (by kernel_rfl)) ?_
  intro W base args ds gs before hval0 hW hcnd _
  have hval : ∀ (j : Nat) t v, Try.f6.params[j]? = some t → args[j]? = some v → Value.okWide Try.prog W .any base t v := hval0
  have hW' := hW
  obtain ⟨p, q, hA0, hV, rfl, hfz, hnd⟩ := hW
  have hA : DataW.TrodAll enc Try.prog W 0 (fun _ => true) true Try.f6.params.toList args.toList ds p := hA0
  rw [Try.params6] at hA hval
  obtain ⟨v0, vs0, d0, ds0, p0, q0, hargs0, rfl, rfl, h0, r0⟩ := trodAll_cons hA
  obtain ⟨v1, vs1, d1, ds1, p1, q1, hargs1, rfl, rfl, h1, r1⟩ := trodAll_cons r0
  obtain ⟨v2, vs2, d2, ds2, p2, q2, hargs2, rfl, rfl, h2, r2⟩ := trodAll_cons r1
  obtain ⟨v3, vs3, d3, ds3, p3, q3, hargs3, rfl, rfl, h3, r3⟩ := trodAll_cons r2
  obtain ⟨rfl, rfl, rfl⟩ := trodAll_nil r3
  obtain rfl : args = #[v0, v1, v2, v3] := by cases args; simp_all
  obtain ⟨rfl, rfl⟩ := trodVars_none hV
  have h0k := h0
  have hlt0 : ∀ x ∈ p0, x.block < W.heap.size := fun x hx => by have := hW'.lt x (by simp [hx]); simpa using this
  obtain ⟨l0, hl0⟩ := open_argE (hval 0 22 v0 rfl rfl) h0
  have h1k := h1
  have hlt1 : ∀ x ∈ p1, x.block < W.heap.size := fun x hx => by have := hW'.lt x (by simp [hx]); simpa using this
  obtain ⟨l1, hl1⟩ := open_argE (hval 1 22 v1 rfl rfl) h1
  have h2k := h2
  have hlt2 : ∀ x ∈ p2, x.block < W.heap.size := fun x hx => by have := hW'.lt x (by simp [hx]); simpa using this
  obtain ⟨t2, su2, sv2, sa2, hl2, hf2, hv2⟩ := open_argJ (hval 2 45 v2 rfl rfl) h2
  subst hv2
  have h3k := h3
  have hlt3 : ∀ x ∈ p3, x.block < W.heap.size := fun x hx => by have := hW'.lt x (by simp [hx]); simpa using this
  obtain ⟨t3, su3, sv3, sa3, hl3, hf3, hv3⟩ := open_argJ (hval 3 45 v3 rfl rfl) h3
  subst hv3
  clear hA0 hval0
  simp only [List.append_nil] at hW'
  refine (ctxSame_any l0 l1 t2 t3 W v0 v1 su2 sv2 sa2 su3 sv3 sa3 hl0 hl1 hl2 hl3 hf2 hf3).mono fun e W' ⟨he, hb⟩ => ?_
  subst he
  exact ⟨_, rfl, _, _, _, [], _, [], hW', trodAll_cons_mk (shut_bool Try.underlying4 _) trodAll_mk0, (trodAll_cons_mk (Below.trod laidOut (by kernel_rfl) (of_decide_eq_true (by kernel_rfl)) h0k hb hlt0) (trodAll_cons_mk (Below.trod laidOut (by kernel_rfl) (of_decide_eq_true (by kernel_rfl)) h1k hb hlt1) (trodAll_cons_mk (Below.trod laidOut (by kernel_rfl) (of_decide_eq_true (by kernel_rfl)) h2k hb hlt2) (trodAll_cons_mk (Below.trod laidOut (by kernel_rfl) (of_decide_eq_true (by kernel_rfl)) h3k hb hlt3) trodAll_mk0)))), rfl, hb.frame _, fun h => by cases h⟩

theorem closed : joinedFacts Try.prog 6 Try.f6 Rows.ctxSameSpec Rows.ctxSameRow = true := by
  unfold joinedFacts
  rw [row_mayEnter, row_lifts, row_make]
  kernel_rfl

theorem proved : Rows.CtxSameSaid :=
  OpenClaim.holds_of_wide 6 Try.f6 rfl rfl rfl rfl rfl rfl rfl ⟨rfl, rfl, rfl, rfl, rfl⟩ rfl rfl rfl rfl rfl (by kernel_rfl) Try.func6 closed
    (of_decide_eq_true (by kernel_rfl)) (by unfold Func.isWrapper; first | (rw [if_pos (by decide +kernel)]; kernel_rfl) | (rw [if_neg (by decide +kernel)]; exact ⟨rfl, rfl⟩))
    (fun os started H enc _ => lifted os started H enc)
#print axioms proved
end Go.Proofs.Ytjhdcjjoignioaa.lawCtxSame
