/-
  A list of ints behind a slice; the function that lift.Rename hands over.
-/
import Derived.Test.YtjhdcjjoignioaaLiftC
namespace Go.Proofs.Ytjhdcjjoignioaa
open Go.RowKit

/-- Ints that lie behind a slice. -/
structure LiesI (w : World) (l : List Int) (s : Value) : Prop where
  out : ∃ (a : Option Addr) (cap : Nat), s = .slice a l.length cap ∧ l.length ≤ cap ∧ cap ≤ maxLen ∧ ∀ i (h : i < l.length), ∃ b o, a = some ⟨b, o, none⟩ ∧ w.cell? ⟨b, o + i, none⟩ = some (.int .i64 l[i])
theorem LiesI.keep {w w' : World} {l : List Int} {s : Value} (h : LiesI w l s) (hb : Below w.heap.size w w') : LiesI w' l s := by
  obtain ⟨a, cap, hs, hc, hm, hn⟩ := h.out
  refine ⟨a, cap, hs, hc, hm, fun i hi => ?_⟩
  obtain ⟨b, o, ha, hx⟩ := hn i hi
  exact ⟨b, o, ha, (hb.cell (World.block_lt_of_cell? _ _ hx)).trans hx⟩

theorem goodTo_get {to : List Int} (h : goodTo to = true) {i : Nat} {x : Int} (hx : to[i]? = some x) : 0 ≤ x ∧ x ≤ 1073741824 := by
  unfold goodTo at h
  rw [List.all_eq_true] at h
  have := h x (List.mem_of_getElem? hx)
  simpa using this

theorem good_bad {to : List Int} {q : Nat} (h : q < to.length) (hx : to[q] < 0 ∨ 1073741824 < to[q]) : goodTo to = false := by
  cases hg : goodTo to with
  | false => rfl
  | true => have := goodTo_get hg (List.getElem?_eq_getElem h); omega
theorem good_next {to : List Int} {q : Nat} (h : q < to.length) (hg : goodTo (to.take q) = true) (h0 : ¬ to[q] < 0) (h1 : ¬ 1073741824 < to[q]) : goodTo (to.take (q + 1)) = true := by
  unfold goodTo at hg ⊢
  rw [List.take_succ_eq_append_getElem h, List.all_append, hg]
  simp; omega

theorem ren_fine {to : List Int} (hg : goodTo to = true) {x u : Tm} {b : Int} (hr : x.rightB = true) (hb : 0 ≤ b) (hb2 : b ≤ 1000000) (h : x.each (renF to) b = some u) : u.fine := by
  by_cases hk : x.k = 2
  · rw [Tm.each_var _ _ _ hk] at h
    simp only [Option.map_eq_some_iff] at h
    obtain ⟨v, hv, rfl⟩ := h
    have hv2 := x.right_var hr hk
    refine ⟨by show I64 2; unfold I64; omega, ?_, by show I64 0; unfold I64; omega, by show I64 0; unfold I64; omega⟩
    show I64 v
    unfold renF at hv
    split at hv
    · have := Option.some.inj hv; unfold I64; omega
    · simp only [Option.map_eq_some_iff] at hv
      obtain ⟨y, hy, rfl⟩ := hv
      have := goodTo_get hg hy
      unfold I64; omega
  · rw [Tm.each_node _ _ _ hk] at h
    simp only [Option.map_eq_some_iff] at h
    obtain ⟨m, -, rfl⟩ := h
    have := right_fine hr
    exact this

end Go.Proofs.Ytjhdcjjoignioaa
