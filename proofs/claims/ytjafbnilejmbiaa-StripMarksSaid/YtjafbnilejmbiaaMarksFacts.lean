/-
  What StripMarks says, on plain trees; three boxes.
-/
import Derived.Test.YtjafbnilejmbiaaStripFacts
import Derived.Test.YtjafbnilejmbiaaLawKit
namespace Go.Proofs.Ytjafbnilejmbiaa
open Go.RowKit

theorem three_below {w w' : World} {A B C : Obj} (h : Kept (((w.alloc A).alloc B).alloc C) w') : Below w.heap.size w w' := (below_three w A B C).trans (Below.mono h (below_three w A B C).size)
theorem three_size {w w' : World} {A B C : Obj} (h : Kept (((w.alloc A).alloc B).alloc C) w') : w.heap.size + 1 + 1 < w'.heap.size := by have := Below.size h; simp at this; omega
theorem marks_lam {a b t : Tm} {i j : Int} (ha : a.markedB = true) (hb : b.markedB = true) (ht : t.markedB = true) (h0 : 0 ≤ i) (h1 : i ≤ 1000) (h2 : 0 ≤ j) (h3 : j ≤ 1000) : (Tm.mk 4 i j 0 [a, b, t]).stripB = .mk 14 0 0 0 [a.bare, t.bare] := by
  have hm : (Tm.mk 4 i j 0 [a, b, t]).markedB = true := by rw [Tm.markedB_eq]; simp [Tm.nodeB, mk_k, mk_i, mk_j, mk_n, mk_kids, kidsN, numbersN, levelB, markeds, ha, hb, ht, h0, h1, h2, h3]
  rw [stripB_good (marked_right hm), Tm.bare_eq]; rfl
theorem marks_app {a b t u : Tm} {i j : Int} (ha : a.markedB = true) (hb : b.markedB = true) (ht : t.markedB = true) (hu : u.markedB = true) (h0 : 0 ≤ i) (h1 : i ≤ 1000) (h2 : 0 ≤ j) (h3 : j ≤ 1000) : (Tm.mk 5 i j 0 [a, b, t, u]).stripB = .mk 15 0 0 0 [t.bare, u.bare] := by
  have hm : (Tm.mk 5 i j 0 [a, b, t, u]).markedB = true := by rw [Tm.markedB_eq]; simp [Tm.nodeB, mk_k, mk_i, mk_j, mk_n, mk_kids, kidsN, numbersN, levelB, markeds, ha, hb, ht, hu, h0, h1, h2, h3]
  rw [stripB_good (marked_right hm), Tm.bare_eq]; rfl
end Go.Proofs.Ytjafbnilejmbiaa
