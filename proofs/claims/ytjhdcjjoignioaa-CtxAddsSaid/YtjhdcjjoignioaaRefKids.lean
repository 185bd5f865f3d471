/-
  The page's own tables: transhipref04.Kids, Binds, level.
-/
import Derived.Test.YtjhdcjjoignioaaKids
namespace Go.Proofs.Ytjhdcjjoignioaa
open Go.RowKit

theorem symbol_cases {s : Int} (h1 : 1 ≤ s) (h2 : s ≤ 21) : s = 1 ∨ s = 2 ∨ s = 3 ∨ s = 4 ∨ s = 5 ∨ s = 6 ∨ s = 7 ∨ s = 8 ∨ s = 9 ∨ s = 10 ∨ s = 11 ∨ s = 12 ∨ s = 13 ∨ s = 14 ∨ s = 15 ∨ s = 16 ∨ s = 17 ∨ s = 18 ∨ s = 19 ∨ s = 20 ∨ s = 21 := by omega

set_option maxHeartbeats 2000000 in
theorem refkids_use (s : Int) (w : World) : Calls Try.prog 76 #[.int .i64 23, .int .i64 s] w fun e w' => e = .returned (.int .i64 (kidsN 23 s)) ∧ Below w.heap.size w w' := by
  by_cases h1 : 1 ≤ s
  · by_cases h2 : s ≤ 21
    · rcases symbol_cases h1 h2 with rfl | rfl | rfl | rfl | rfl | rfl | rfl | rfl | rfl | rfl | rfl | rfl | rfl | rfl | rfl | rfl | rfl | rfl | rfl | rfl | rfl
      all_goals
        go_enter Try.func76, Try.ntmps76
        go_wp2
        go_ret
        exact ⟨rfl, (Below.refl _ _).alloc (Nat.le_refl _) _⟩
    · have h3 : decide (s ≤ 21) = false := by simpa using h2
      have h4 : decide ((1 : Int) ≤ s) = true := by simpa using h1
      go_enter Try.func76, Try.ntmps76
      go_wp2
      go_ret
      exact ⟨ret_int (by unfold kidsN givenN; (repeat' split) <;> omega), (Below.refl _ _).alloc (Nat.le_refl _) _⟩
  · have h4 : decide ((1 : Int) ≤ s) = false := by simpa using h1
    go_enter Try.func76, Try.ntmps76
    go_wp2
    go_ret
    exact ⟨ret_int (by unfold kidsN givenN; (repeat' split) <;> omega), (Below.refl _ _).alloc (Nat.le_refl _) _⟩

set_option maxHeartbeats 2000000 in
theorem refkids_any (k s : Int) (w : World) : Calls Try.prog 76 #[.int .i64 k, .int .i64 s] w fun e w' => e = .returned (.int .i64 (kidsN k s)) ∧ Below w.heap.size w w' := by
  by_cases hk : k = 23
  · subst hk; exact refkids_use s w
  · have hk' : (k == 23) = false := by simpa using hk
    go_enter Try.func76, Try.ntmps76
    go_wp2
    all_goals go_ret
    all_goals exact ⟨ret_int (by simp only [beq_iff_eq, beq_eq_false_iff_ne, ne_eq] at *; unfold kidsN; (repeat' split) <;> omega), Below.refl _ _⟩

set_option maxHeartbeats 1000000 in
theorem refbinds_any (k i : Int) (w : World) : Calls Try.prog 78 #[.int .i64 k, .int .i64 i] w fun e w' => e = .returned (.int .i64 (bindsN k i)) ∧ w = w' := by
  go_enter Try.func78, Try.ntmps78
  go_wp2
  all_goals go_ret
  all_goals exact ⟨ret_int (by simp only [beq_iff_eq, beq_eq_false_iff_ne, ne_eq] at *; unfold bindsN; (repeat' split) <;> omega), rfl⟩

set_option maxHeartbeats 1000000 in
theorem reflevel_any (i : Int) (w : World) : Calls Try.prog 86 #[.int .i64 i] w fun e w' => e = .returned (.bool (levelB i)) ∧ w = w' := by
  go_enter Try.func86, Try.ntmps86
  go_wp2
  all_goals go_ret
  all_goals exact ⟨ret_bool (by unfold levelB; first | (simp_all; done) | (simp_all; omega)), rfl⟩
end Go.Proofs.Ytjhdcjjoignioaa
