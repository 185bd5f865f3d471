/-
  term.Kids, term.Binds, term.level: the tables of the kinds.
-/
import Derived.Test.YtjhdcjjoignioaaRows
import Derived.WalkKit
import Derived.Lib.Hide
namespace Go.Proofs.Ytjhdcjjoignioaa
open Go.RowKit

def givenN (s : Int) : Int := if s = 3 ∨ s = 5 ∨ s = 6 ∨ s = 8 ∨ s = 10 ∨ s = 11 then 4 else if s = 1 ∨ s = 2 ∨ s = 7 ∨ s = 9 then 5 else if s = 4 ∨ s = 12 ∨ s = 13 ∨ s = 14 ∨ s = 21 then 6 else if s = 15 ∨ s = 18 ∨ s = 19 ∨ s = 20 then 9 else if s = 16 ∨ s = 17 then 12 else -1

def kidsN (k s : Int) : Int :=
  if k = 1 ∨ k = 2 then 0 else if k = 18 ∨ k = 19 then 1 else if k = 3 ∨ k = 6 ∨ k = 13 ∨ k = 14 ∨ k = 15 ∨ k = 16 ∨ k = 21 ∨ k = 11 then 2
  else if k = 4 ∨ k = 8 ∨ k = 9 ∨ k = 10 ∨ k = 20 then 3 else if k = 5 ∨ k = 7 ∨ k = 12 ∨ k = 17 then 4 else if k = 22 then 6 else if k = 23 then givenN s else -1

def bindsN (k i : Int) : Int :=
  if k = 3 ∨ k = 5 ∨ k = 6 ∨ k = 7 ∨ k = 8 ∨ k = 9 ∨ k = 13 ∨ k = 14 ∨ k = 16 ∨ k = 17 then (if i = 1 then 1 else 0)
  else if k = 4 then (if i = 1 ∨ i = 2 then 1 else 0) else if k = 22 then (if i = 2 then 2 else 0) else 0

theorem ret_int {a b : Int} (h : a = b) : Ending.returned (.int .i64 a) = .returned (.int .i64 b) := by rw [h]
theorem ret_bool {a b : Bool} (h : a = b) : Ending.returned (.bool a) = .returned (.bool b) := by rw [h]

set_option maxHeartbeats 1000000 in
theorem given_any (s : Int) (w : World) : Calls Try.prog 87 #[.int .i64 s] w fun e w' => e = .returned (.int .i64 (givenN s)) ∧ w = w' := by
  go_enter Try.func87, Try.ntmps87
  go_wp2
  all_goals go_ret
  all_goals exact ⟨ret_int (by simp only [beq_iff_eq, beq_eq_false_iff_ne, ne_eq] at *; unfold givenN; (repeat' split) <;> omega), rfl⟩

set_option maxHeartbeats 1000000 in
theorem kids_any (k s : Int) (w : World) : Calls Try.prog 82 #[.int .i64 k, .int .i64 s] w fun e w' => e = .returned (.int .i64 (kidsN k s)) ∧ w = w' := by
  go_enter Try.func82, Try.ntmps82
  go_wp2_with (go_at_call 87; refine (given_any _ _).mono ?_; rintro e w' ⟨rfl, rfl⟩)
  all_goals go_ret
  all_goals exact ⟨ret_int (by simp only [beq_iff_eq, beq_eq_false_iff_ne, ne_eq] at *; unfold kidsN; (repeat' split) <;> omega), rfl⟩

set_option maxHeartbeats 1000000 in
theorem binds_any (k i : Int) (w : World) : Calls Try.prog 81 #[.int .i64 k, .int .i64 i] w fun e w' => e = .returned (.int .i64 (bindsN k i)) ∧ w = w' := by
  go_enter Try.func81, Try.ntmps81
  go_wp2
  all_goals go_ret
  all_goals exact ⟨ret_int (by simp only [beq_iff_eq, beq_eq_false_iff_ne, ne_eq] at *; unfold bindsN; (repeat' split) <;> omega), rfl⟩

def levelB (i : Int) : Bool := decide (0 ≤ i) && decide (i ≤ 1000)
set_option maxHeartbeats 1000000 in
theorem level_any (i : Int) (w : World) : Calls Try.prog 88 #[.int .i64 i] w fun e w' => e = .returned (.bool (levelB i)) ∧ w = w' := by
  go_enter Try.func88, Try.ntmps88
  go_wp2
  all_goals go_ret
  all_goals exact ⟨ret_bool (by unfold levelB; first | (simp_all; done) | (simp_all; omega)), rfl⟩
end Go.Proofs.Ytjhdcjjoignioaa
