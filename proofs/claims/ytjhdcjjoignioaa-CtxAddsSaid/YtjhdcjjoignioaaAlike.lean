/-
  erase.alike: whether two marked terms are the same without their transports.
-/
import Derived.Test.YtjhdcjjoignioaaPure
import Derived.Test.YtjhdcjjoignioaaSameDef
import Derived.Deep.RegionHeld3
import Derived.Deep.RegionLaw
namespace Go.Proofs.Ytjhdcjjoignioaa
open Go.RowKit

/-- Two boxes; they may hold other terms than at first. -/
structure Two (w : World) (x : Tm) (s : Value) (y : Tm) (r : Value) (w' : World) : Prop where
  under : Below w.heap.size w w'
  one : w'.heap[w.heap.size]? = some (boxOf x s)
  two : w'.heap[w.heap.size + 1]? = some (boxOf y r)
theorem two_start (w : World) (a : Tm) (s : Value) (b : Tm) (r : Value) : Two w a s b r ((w.alloc (.cells #[.int .i64 a.k, .int .i64 a.i, .int .i64 a.j, .int .i64 a.n, s] 26)).alloc (.cells #[.int .i64 b.k, .int .i64 b.i, .int .i64 b.j, .int .i64 b.n, r] 26)) :=
  ⟨((Below.refl _ _).alloc (Nat.le_refl _) _).alloc (by simp) _, by rw [Below.heap_alloc _ _ _ (by simp), alloc_new]; rfl, heap_alloc2_new _ _ _⟩
theorem Two.call {w w1 w2 : World} {x y : Tm} {s r : Value} (h : Two w x s y r w1) (hb : Below w1.heap.size w1 w2) : Two w x s y r w2 :=
  ⟨h.under.trans (hb.mono h.under.size), by rw [hb.block _ (block_lt h.one)]; exact h.one, by rw [hb.block _ (block_lt h.two)]; exact h.two⟩
theorem Two.drew {w w1 : World} {x y : Tm} {s r : Value} (h : Two w x s y r w1) : Two w x s y r w1.drew := ⟨h.under.drew, h.one, h.two⟩
theorem Two.put {w w1 : World} {x y : Tm} {s r : Value} (h : Two w x s y r w1) (p : Tm) (sp : Value) (q : Tm) (sq : Value) : Two w p sp q sq (five (five w1 w.heap.size (.int .i64 p.k) (.int .i64 p.i) (.int .i64 p.j) (.int .i64 p.n) sp) (w.heap.size + 1) (.int .i64 q.k) (.int .i64 q.i) (.int .i64 q.j) (.int .i64 q.n) sq) :=
  ⟨below_five (below_five h.under (Nat.le_refl _) _ _ _ _ _) (by omega) _ _ _ _ _, by rw [five_other _ _ _ _ _ _ _ (by omega)]; exact five_set h.one, five_set (by rw [five_other _ _ _ _ _ _ _ (by omega)]; exact h.two)⟩

theorem two_and {w w1 : World} {a b : Tm} {s r : Value} (h : Two w a s b r w1) : Two w a s b r w1 ∧ w1.cell? ⟨w.heap.size, 0, none⟩ = some (.int .i64 a.k) ∧ w1.cell? ⟨w.heap.size, 1, none⟩ = some (.int .i64 a.i) ∧ w1.cell? ⟨w.heap.size, 2, none⟩ = some (.int .i64 a.j) ∧ w1.cell? ⟨w.heap.size, 3, none⟩ = some (.int .i64 a.n) ∧ w1.cell? ⟨w.heap.size, 4, none⟩ = some s ∧ w1.cell? ⟨w.heap.size + 1, 0, none⟩ = some (.int .i64 b.k) ∧ w1.cell? ⟨w.heap.size + 1, 1, none⟩ = some (.int .i64 b.i) ∧ w1.cell? ⟨w.heap.size + 1, 2, none⟩ = some (.int .i64 b.j) ∧ w1.cell? ⟨w.heap.size + 1, 3, none⟩ = some (.int .i64 b.n) ∧ w1.cell? ⟨w.heap.size + 1, 4, none⟩ = some r := by
  obtain ⟨x0, x1, x2, x3, x4⟩ := five_cells h.one
  obtain ⟨y0, y1, y2, y3, y4⟩ := five_cells h.two
  exact ⟨h, x0, x1, x2, x3, x4, y0, y1, y2, y3, y4⟩

/-- What is asked of two terms. -/
theorem pur_same {t u : Tm} (ht : t.markedB = true) (hu : u.markedB = true) : sameB t.pur u.pur = ((t.und.k == u.und.k) && ((t.und.i == u.und.i) && ((t.und.j == u.und.j) && samesB (t.und.kids.map Tm.pur) (u.und.kids.map Tm.pur)))) := by
  rw [pur_und t ht, pur_und u hu, sameB_eq]; simp [Tm.k, Tm.i, Tm.j, Tm.n, Tm.kids]
theorem marked_lens {x y : Tm} (hx : x.markedB = true) (hy : y.markedB = true) (h : x.k = y.k) : x.kids.length = y.kids.length := by
  have h1 := node_length (marked_node hx)
  have h2 := node_length (marked_node hy)
  have h3 := marked_kind hx
  have : kidsN x.k x.n = kidsN y.k y.n := by
    rw [← h]; unfold kidsN; have : x.k = 1 ∨ x.k = 2 ∨ x.k = 3 ∨ x.k = 4 ∨ x.k = 5 ∨ x.k = 6 ∨ x.k = 7 ∨ x.k = 8 ∨ x.k = 9 ∨ x.k = 10 ∨ x.k = 11 ∨ x.k = 12 := by omega
    rcases this with e | e | e | e | e | e | e | e | e | e | e | e <;> simp [e]
  omega

end Go.Proofs.Ytjhdcjjoignioaa
