/-
  A boxed term and what is new beside it: one word for the regions whose order is open.
-/
import Derived.Test.YtjhdcjjoignioaaBox
import Derived.Deep.RegionHeld3
namespace Go.Proofs.Ytjhdcjjoignioaa
open Go.RowKit

/-- The block of a term by value. -/
def boxOf (t : Tm) (s : Value) : Obj := .cells #[.int .i64 t.k, .int .i64 t.i, .int .i64 t.j, .int .i64 t.n, s] 26

/-- Beside the boxed term there is only what is new. -/
def Held (w : World) (t : Tm) (s : Value) (w' : World) : Prop := Below (w.heap.size + 1) (w.alloc (boxOf t s)) w'

theorem held_start (w : World) (t : Tm) (s : Value) : Held w t s (w.alloc (.cells #[.int .i64 t.k, .int .i64 t.i, .int .i64 t.j, .int .i64 t.n, s] 26)) := Below.refl _ _
theorem held_cells {w w' : World} {t : Tm} {s : Value} (h : Held w t s w') : w'.cell? ⟨w.heap.size, 0, none⟩ = some (.int .i64 t.k) ∧ w'.cell? ⟨w.heap.size, 1, none⟩ = some (.int .i64 t.i) ∧ w'.cell? ⟨w.heap.size, 2, none⟩ = some (.int .i64 t.j) ∧
    w'.cell? ⟨w.heap.size, 3, none⟩ = some (.int .i64 t.n) ∧ w'.cell? ⟨w.heap.size, 4, none⟩ = some s := box_cells h
theorem held_call {w w1 w2 : World} {t : Tm} {s : Value} (h : Held w t s w1) (hb : Below w1.heap.size w1 w2) : Held w t s w2 :=
  below_call h hb (by have := h.size; simpa using this)
theorem held_drew {w w1 : World} {t : Tm} {s : Value} (h : Held w t s w1) : Held w t s w1.drew := Below.drew h
theorem held_lies {w w1 : World} {t : Tm} {s s' : Value} {l : List Tm} (h : Held w t s w1) (hl : Lies w l s') : Lies w1 l s' := hl.keep (below_of_box h)
theorem held_below {w w1 : World} {t : Tm} {s : Value} (h : Held w t s w1) : Below w.heap.size w w1 := below_of_box h
end Go.Proofs.Ytjhdcjjoignioaa
