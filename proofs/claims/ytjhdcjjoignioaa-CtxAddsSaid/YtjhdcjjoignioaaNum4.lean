/-
  term.numbers and the page's: whether a term has the numbers of its kind.
-/
import Derived.Test.YtjhdcjjoignioaaRefKids
import Derived.Test.YtjhdcjjoignioaaTree
namespace Go.Proofs.Ytjhdcjjoignioaa
open Go.RowKit

def numbersN (k i j n : Int) : Bool :=
  if k = 2 then decide (0 ≤ i) && (decide (i ≤ 2147483647) && ((j == 0) && (n == 0)))
  else if k = 1 ∨ k = 10 ∨ k = 11 ∨ k = 12 then levelB i && ((j == 0) && (n == 0))
  else if k = 3 ∨ k = 4 ∨ k = 5 ∨ k = 6 ∨ k = 7 ∨ k = 8 ∨ k = 9 then levelB i && (levelB j && (n == 0))
  else if k = 23 then levelB i && levelB j else (i == 0) && ((j == 0) && (n == 0))

set_option maxHeartbeats 2000000 in
theorem numbers_any (t : Tm) (s : Value) (w : World) : Calls Try.prog 83 #[tv t s] w fun e w' => e = .returned (.bool (numbersN t.k t.i t.j t.n)) ∧ Below w.heap.size w w' := by
  unfold tv
  generalize t.k = k, t.i = i, t.j = j, t.n = n
  go_enter Try.func83, Try.ntmps83
  go_wp2_with (go_at_call 88; refine (level_any _ _).mono ?_; rintro e w' ⟨rfl, rfl⟩)
  all_goals go_ret
  all_goals exact ⟨ret_bool (by simp only [beq_iff_eq, beq_eq_false_iff_ne, ne_eq] at *; unfold numbersN; (simp [*] <;> omega)), (Below.refl _ _).alloc (Nat.le_refl _) _⟩

set_option maxHeartbeats 2000000 in
theorem refnumbers_any (t : Tm) (s : Value) (w : World) : Calls Try.prog 77 #[tv t s] w fun e w' => e = .returned (.bool (numbersN t.k t.i t.j t.n)) ∧ Below w.heap.size w w' := by
  unfold tv
  generalize t.k = k, t.i = i, t.j = j, t.n = n
  go_enter Try.func77, Try.ntmps77
  go_wp2_with (go_at_call 86; refine (reflevel_any _ _).mono ?_; rintro e w' ⟨rfl, rfl⟩)
  all_goals go_ret
  all_goals exact ⟨ret_bool (by simp only [beq_iff_eq, beq_eq_false_iff_ne, ne_eq] at *; unfold numbersN; (simp [*] <;> omega)), (Below.refl _ _).alloc (Nat.le_refl _) _⟩
end Go.Proofs.Ytjhdcjjoignioaa
