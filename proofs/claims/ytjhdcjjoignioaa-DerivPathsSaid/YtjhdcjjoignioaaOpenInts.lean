/-
  A list of ints that is handed in, opened.
-/
import Derived.Test.YtjhdcjjoignioaaOpen
import Derived.Test.YtjhdcjjoignioaaInts
import Derived.ChangeSlices
namespace Go.Proofs.Ytjhdcjjoignioaa
open Go.ChangeShapes Go.WideShapes Go.ChangeAt Go.RowKit

theorem open_argI {H : Type} {enc : TypeId × Value → H} {W : World} {r : Reach} {b0 base : Nat} {sp : Nat → Bool} {hd : Bool} {v : Value} {d : DataW H} {p : List MemPlace} (hv : Value.okWide Try.prog W r b0 54 v)
    (h : DataW.Trod enc Try.prog W base sp hd 54 v d p) : ∃ l : List Int, LiesI W l v := by
  obtain ⟨a0, len0, cap0, rfl⟩ := okWide_slice Try.underlying54 hv
  obtain ⟨fuel, hf⟩ := h
  rcases open_ints Try.underlying54 Try.underlying3 cells_int hf with ⟨hcs, -⟩ | ⟨a, len, cap, zs, hcs, -, hl, hm, hz, -, hcell, -⟩
  · simp [Value.cells] at hcs
    obtain ⟨rfl, rfl, rfl⟩ := hcs
    exact ⟨[], ⟨none, 0, rfl, Nat.le_refl _, by decide, fun i hi => by simp at hi⟩⟩
  · simp [Value.cells] at hcs
    obtain ⟨rfl, rfl, rfl⟩ := hcs
    have hlz : len0 ≤ zs.length := by rw [hz]; split <;> omega
    refine ⟨zs.take len0, ⟨some a, cap0, by rw [List.length_take, Nat.min_eq_left hlz], by rw [List.length_take]; omega, hm, fun i hi => ?_⟩⟩
    rw [List.length_take] at hi
    have h1 := hcell i (by omega)
    obtain ⟨b, o, spot⟩ := a
    have h0 := hcell 0 (by omega)
    have hs : spot = none := by simpa [Addr.add] using World.cell?_spot h0
    clear h0
    subst hs
    refine ⟨b, o, rfl, ?_⟩
    rw [add_plain] at h1
    rw [h1, List.getElem_take]
    congr 2
    rw [List.getD_eq_getElem?_getD, List.getElem?_eq_getElem (by omega)]; rfl
end Go.Proofs.Ytjhdcjjoignioaa
