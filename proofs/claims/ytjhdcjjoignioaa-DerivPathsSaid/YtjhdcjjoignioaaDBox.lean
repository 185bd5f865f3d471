/-
  What the walks over terms ask of later worlds.
-/
import Derived.Test.YtjhdcjjoignioaaDTree
import Derived.Test.YtjhdcjjoignioaaBox
namespace Go.Proofs.Ytjhdcjjoignioaa.Dv
open Go.RowKit

/-- A new block of five cells, asked for later. -/
theorem box_cells {w wr : World} {v0 v1 v2 : Value} {T : TypeId} (h : Below (w.heap.size + 1) (w.alloc (.cells #[v0, v1, v2] T)) wr) :
    wr.cell? ⟨w.heap.size, 0, none⟩ = some v0 ∧ wr.cell? ⟨w.heap.size, 1, none⟩ = some v1 ∧ wr.cell? ⟨w.heap.size, 2, none⟩ = some v2 := by
  have key : ∀ o, wr.cell? ⟨w.heap.size, o, none⟩ = (#[v0, v1, v2] : Array Value)[o]? := fun o => by
    rw [h.cell (p := ⟨w.heap.size, o, none⟩) (by exact Nat.lt_succ_self _), World.cell?_alloc_at _ _ _ _ rfl]
  exact ⟨by rw [key]; rfl, by rw [key]; rfl, by rw [key]; rfl⟩

end Go.Proofs.Ytjhdcjjoignioaa.Dv
