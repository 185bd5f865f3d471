/-
  erase.under passes the transports at the top of a term.
-/
import Derived.Test.YtmhmengbhdaodaaPur
import Derived.Test.YtmhmengbhdaodaaEnds
import Derived.Deep.LoopGhost
namespace Go.Proofs.Ytmhmengbhdaodaa
open Go.RowKit

/-- What a call hands back that gives a part of its argument. -/
def Parts (u : Tm) (v w : World) (e : Ending) (w' : World) : Prop := ∃ s' : Value, e = .returned (tv u s') ∧ Lies v u.kids s' ∧ Below w.heap.size w w'

/-- The box, the result; the box may hold another term than at first. -/
structure Pair (w : World) (x : Tm) (s : Value) (w' : World) : Prop where
  under : Below w.heap.size w w'
  box : w'.heap[w.heap.size]? = some (boxOf x s)
  res : w'.heap[w.heap.size + 1]? = some zeroObj
theorem Pair.put {w w1 : World} {x : Tm} {s : Value} (h : Pair w x s w1) (y : Tm) (sy : Value) : Pair w y sy (five w1 w.heap.size (.int .i64 y.k) (.int .i64 y.i) (.int .i64 y.j) (.int .i64 y.n) sy) :=
  ⟨below_five h.under (Nat.le_refl _) _ _ _ _ _, five_set h.box, by rw [five_other _ _ _ _ _ _ _ (by omega)]; exact h.res⟩
theorem pair_start (w : World) (t : Tm) (s : Value) : Pair w t s ((w.alloc (.cells #[.int .i64 t.k, .int .i64 t.i, .int .i64 t.j, .int .i64 t.n, s] 24)).alloc (.cells #[.int .i64 0, .int .i64 0, .int .i64 0, .int .i64 0, .slice none 0 0] 24)) :=
  ⟨((Below.refl _ _).alloc (Nat.le_refl _) _).alloc (by simp) _, by rw [Below.heap_alloc _ _ _ (by simp), alloc_new]; rfl, heap_alloc2_new _ _ _⟩

end Go.Proofs.Ytmhmengbhdaodaa
