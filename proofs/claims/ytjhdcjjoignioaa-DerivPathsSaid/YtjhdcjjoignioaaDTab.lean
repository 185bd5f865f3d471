/-
  The rules of derivations: their premises, their words; deriv's tables and the page's own.
-/
import Derived.Test.YtjhdcjjoignioaaRows
import Derived.Test.YtjhdcjjoignioaaKids
import Derived.WalkKit
import Derived.Lib.Hide
import Derived.Laws.Rows
import Derived.KernelRfl
import Derived.IntWalk
namespace Go.Proofs.Ytjhdcjjoignioaa.Dv
open Go.RowKit

def wordsL : List ByteArray := [⟨#[115, 111, 114, 116]⟩, ⟨#[118, 97, 114]⟩, ⟨#[112, 105]⟩, ⟨#[108, 97, 109]⟩, ⟨#[97, 112, 112]⟩, ⟨#[115, 105, 103]⟩, ⟨#[112, 97, 105, 114]⟩, ⟨#[102, 115, 116]⟩, ⟨#[115, 110, 100]⟩, ⟨#[101, 113]⟩, ⟨#[114, 101, 102, 108]⟩, ⟨#[99, 111, 110, 118]⟩, ⟨#[115, 97, 109, 101]⟩, ⟨#[115, 121, 109]⟩, ⟨#[116, 114, 97, 110, 115]⟩, ⟨#[99, 111, 110, 118, 115]⟩, ⟨#[114, 101, 102, 108, 101, 99, 116]⟩, ⟨#[98, 101, 116, 97]⟩, ⟨#[102, 105, 114, 115, 116]⟩, ⟨#[115, 101, 99, 111, 110, 100]⟩, ⟨#[101, 116, 97]⟩, ⟨#[115, 117, 114, 106]⟩, ⟨#[114, 101, 112, 108]⟩, ⟨#[105, 114, 114]⟩, ⟨#[120, 112, 105]⟩, ⟨#[120, 115, 105, 103]⟩, ⟨#[120, 108, 97, 109]⟩, ⟨#[120, 112, 97, 105, 114]⟩]
def kidsL : List Int := [0, 0, 2, 2, 2, 2, 3, 1, 1, 2, 1, 2, 1, 1, 2, 2, 1, 2, 3, 3, 1, 1, 2, 2, 2, 2, 3, 4]
def wordN (r : Int) : ByteArray := if 1 ≤ r ∧ r ≤ 28 then (wordsL[(r - 1).toNat]?).getD ⟨#[]⟩ else ⟨#[]⟩
def dkidsN (r : Int) : Int := if 1 ≤ r ∧ r ≤ 28 then (kidsL[(r - 1).toNat]?).getD 0 else -1
def innerB (r k : Int) : Bool := if r = 3 ∨ r = 6 ∨ r = 4 ∨ r = 7 ∨ r = 19 ∨ r = 20 ∨ r = 18 ∨ r = 23 ∨ r = 25 ∨ r = 26 ∨ r = 28 then k == 1 else if r = 27 then (k == 1 || k == 2) else false
def equalB (r : Int) : Bool := decide (13 ≤ r) && decide (r ≤ 28)
theorem ret_str {a b : ByteArray} (h : a = b) : Ending.returned (.string a) = .returned (.string b) := by rw [h]
theorem in28 {r : Int} (h : 1 ≤ r ∧ r ≤ 28) : r = 1 ∨ r = 2 ∨ r = 3 ∨ r = 4 ∨ r = 5 ∨ r = 6 ∨ r = 7 ∨ r = 8 ∨ r = 9 ∨ r = 10 ∨ r = 11 ∨ r = 12 ∨ r = 13 ∨ r = 14 ∨ r = 15 ∨ r = 16 ∨ r = 17 ∨ r = 18 ∨ r = 19 ∨ r = 20 ∨ r = 21 ∨ r = 22 ∨ r = 23 ∨ r = 24 ∨ r = 25 ∨ r = 26 ∨ r = 27 ∨ r = 28 := by omega
theorem out_word {r : Int} (h : ¬ (1 ≤ r ∧ r ≤ 28)) : wordN r = ⟨#[]⟩ := if_neg h
theorem out_kids {r : Int} (h : ¬ (1 ≤ r ∧ r ≤ 28)) : dkidsN r = -1 := if_neg h

set_option maxHeartbeats 1000000 in
theorem dkids_any (r : Int) (w : World) : Calls Try.prog 59 #[.int .i64 r] w fun e w' => e = .returned (.int .i64 (dkidsN r)) ∧ w' = w := by
  by_cases h : 1 ≤ r ∧ r ≤ 28
  · rcases in28 h with rfl | rfl | rfl | rfl | rfl | rfl | rfl | rfl | rfl | rfl | rfl | rfl | rfl | rfl | rfl | rfl | rfl | rfl | rfl | rfl | rfl | rfl | rfl | rfl | rfl | rfl | rfl | rfl
    all_goals
      clear h
      go_enter Try.func59, Try.ntmps59
      go_wp2
      go_ret
      exact ⟨ret_int (by decide), rfl⟩
  · rw [out_kids h]
    go_enter Try.func59, Try.ntmps59
    go_wp2
    all_goals go_ret
    all_goals exact ⟨ret_int (by first | rfl | (exfalso; simp only [beq_iff_eq] at *; omega)), rfl⟩

def kidsObj : Obj := .cells (kidsL.map (Value.int .i64)).toArray 3
theorem kids_cell {w : World} {g : Nat} (h : w.heap[g]? = some kidsObj) (i : Nat) (hi : i < 28) : w.cell? ⟨g, i, none⟩ = some (.int .i64 (dkidsN ((i : Int) + 1))) := by
  rw [cell_of_row w g _ _ _ _ h]
  have hl : kidsL.length = 28 := rfl
  have : dkidsN ((i : Int) + 1) = kidsL[i] := by
    unfold dkidsN
    rw [if_pos (by omega), show ((i : Int) + 1 - 1).toNat = i by omega, List.getElem?_eq_getElem (by omega)]; rfl
  rw [this, List.getElem?_toArray, List.getElem?_map, List.getElem?_eq_getElem (by omega)]
  rfl
set_option maxHeartbeats 1000000 in
theorem dinner_any (r k : Int) (w : World) : Calls Try.prog 60 #[.int .i64 r, .int .i64 k] w fun e w' => e = .returned (.bool (innerB r k)) ∧ w' = w := by
  go_enter Try.func60, Try.ntmps60
  go_wp2
  all_goals go_ret
  all_goals exact ⟨ret_bool (by unfold innerB; simp only [beq_iff_eq, beq_eq_false_iff_ne, ne_eq] at *; (repeat' split) <;> first | rfl | omega | (simp_all; done) | (exfalso; omega) | (simp; omega)), rfl⟩
set_option maxHeartbeats 1000000 in
theorem dequal_any (r : Int) (w : World) : Calls Try.prog 79 #[.int .i64 r] w fun e w' => e = .returned (.bool (equalB r)) ∧ w' = w := by
  go_enter Try.func79, Try.ntmps79
  go_wp2
  all_goals go_ret
  all_goals exact ⟨ret_bool (by unfold equalB; first | (simp_all; done) | (simp_all; omega)), rfl⟩
end Go.Proofs.Ytjhdcjjoignioaa.Dv
