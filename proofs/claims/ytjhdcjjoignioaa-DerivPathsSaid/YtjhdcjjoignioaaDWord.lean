/-
  The words of the rules: deriv.Word and Rule, and the page's own.
-/
import Derived.Test.YtjhdcjjoignioaaDTab
import Derived.Laws.StructEq
namespace Go.Proofs.Ytjhdcjjoignioaa.Dv
open Go.RowKit

set_option maxHeartbeats 2000000 in
theorem wordeq_any (r : Int) (w : World) (h : 13 ≤ r ∧ r ≤ 28) : Calls Try.prog 80 #[.int .i64 r] w fun e w' => e = .returned (.string (wordN r)) ∧ w' = w := by
  rcases (show r = 13 ∨ r = 14 ∨ r = 15 ∨ r = 16 ∨ r = 17 ∨ r = 18 ∨ r = 19 ∨ r = 20 ∨ r = 21 ∨ r = 22 ∨ r = 23 ∨ r = 24 ∨ r = 25 ∨ r = 26 ∨ r = 27 ∨ r = 28 by omega) with rfl | rfl | rfl | rfl | rfl | rfl | rfl | rfl | rfl | rfl | rfl | rfl | rfl | rfl | rfl | rfl
  all_goals
    clear h
    go_enter Try.func80, Try.ntmps80
    go_wp2
    go_ret
    exact ⟨ret_str (by rfl), rfl⟩

set_option maxHeartbeats 2000000 in
theorem dword_any (r : Int) (w : World) : Calls Try.prog 61 #[.int .i64 r] w fun e w' => e = .returned (.string (wordN r)) ∧ w' = w := by
  by_cases h : 13 ≤ r ∧ r ≤ 28
  · have he : equalB r = true := by unfold equalB; simp; omega
    go_enter Try.func61, Try.ntmps61
    go_wp2_with fail
    refine (dequal_any r w).mono ?_
    rw [he]
    rintro e w1 ⟨rfl, rfl⟩
    go_wp2_with fail
    refine (wordeq_any r _ h).mono ?_
    rintro e w2 ⟨rfl, rfl⟩
    go_wp2
    go_ret
    exact ⟨rfl, rfl⟩
  · have he : equalB r = false := by unfold equalB; simp; omega
    by_cases h1 : 1 ≤ r ∧ r ≤ 12
    · rcases (show r = 1 ∨ r = 2 ∨ r = 3 ∨ r = 4 ∨ r = 5 ∨ r = 6 ∨ r = 7 ∨ r = 8 ∨ r = 9 ∨ r = 10 ∨ r = 11 ∨ r = 12 by omega) with rfl | rfl | rfl | rfl | rfl | rfl | rfl | rfl | rfl | rfl | rfl | rfl
      all_goals
        clear h h1
        go_enter Try.func61, Try.ntmps61
        go_wp2_with fail
        refine (dequal_any _ w).mono ?_
        rw [he]
        rintro e w1 ⟨rfl, rfl⟩
        clear he
        go_wp2
        go_ret
        exact ⟨ret_str (by rfl), rfl⟩
    · rw [out_word (by omega)]
      go_enter Try.func61, Try.ntmps61
      go_wp2_with fail
      refine (dequal_any r w).mono ?_
      rw [he]
      rintro e w1 ⟨rfl, rfl⟩
      go_wp2
      all_goals go_ret
      all_goals exact ⟨ret_str (by first | rfl | (exfalso; simp only [beq_iff_eq, beq_eq_false_iff_ne, ne_eq] at *; omega)), rfl⟩

def wordsObj : Obj := .cells (wordsL.map Value.string).toArray 9
theorem words_cell {w : World} {g : Nat} (h : w.heap[g]? = some wordsObj) (i : Nat) (hi : i < 28) : w.cell? ⟨g, i, none⟩ = some (.string (wordN ((i : Int) + 1))) := by
  rw [cell_of_row w g _ _ _ _ h]
  have hl : wordsL.length = 28 := rfl
  have : wordN ((i : Int) + 1) = wordsL[i] := by
    unfold wordN
    rw [if_pos (by omega), show ((i : Int) + 1 - 1).toNat = i by omega, List.getElem?_eq_getElem (by omega)]; rfl
  rw [this, List.getElem?_toArray, List.getElem?_map, List.getElem?_eq_getElem (by omega)]
  rfl

theorem bytes_iff (x y : ByteArray) : (x.toList == y.toList) = true ↔ x = y := by
  rw [beq_iff_eq]
  refine ⟨fun h => ?_, fun h => by rw [h]⟩
  rw [ByteArray.toList_eq, ByteArray.toList_eq] at h
  cases x; cases y
  simp only [ByteArray.mk.injEq]
  exact Array.toList_inj.1 h
theorem bytes_ne {x y : ByteArray} (h : (x.toList == y.toList) = false) : x ≠ y := fun e => by rw [(bytes_iff x y).2 e] at h; cases h
/-- The rule of a word: the first one that bears it, or 0. -/
def RuleIs (s : ByteArray) (r : Int) : Prop := (∃ k : Nat, 1 ≤ k ∧ k ≤ 28 ∧ wordN k = s ∧ (∀ j : Nat, 1 ≤ j → j < k → wordN j ≠ s) ∧ r = k) ∨ ((∀ j : Nat, 1 ≤ j → j ≤ 28 → wordN j ≠ s) ∧ r = 0)
theorem RuleIs.same {s : ByteArray} {r q : Int} (h : RuleIs s r) (h' : RuleIs s q) : r = q := by
  rcases h with ⟨k, k1, k2, k3, k4, rfl⟩ | ⟨k4, rfl⟩ <;> rcases h' with ⟨j, j1, j2, j3, j4, rfl⟩ | ⟨j4, rfl⟩
  · rcases Nat.lt_trichotomy k j with hlt | rfl | hlt
    · exact absurd k3 (j4 k k1 hlt)
    · rfl
    · exact absurd j3 (k4 j j1 hlt)
  · exact absurd k3 (j4 k k1 k2)
  · exact absurd j3 (k4 j j1 j2)
  · rfl
theorem ruleIs_any (s : ByteArray) : ∃ r, RuleIs s r ∧ 0 ≤ r ∧ r ≤ 28 := by
  have key : ∀ n : Nat, n ≤ 28 → (∃ k : Nat, 1 ≤ k ∧ k ≤ n ∧ wordN k = s ∧ ∀ j : Nat, 1 ≤ j → j < k → wordN j ≠ s) ∨ ∀ j : Nat, 1 ≤ j → j ≤ n → wordN j ≠ s := by
    intro n
    induction n with
    | zero => intro _; exact Or.inr (fun j h1 h2 => by omega)
    | succ n ih =>
      intro hn
      rcases ih (by omega) with ⟨k, k1, k2, k3, k4⟩ | h
      · exact Or.inl ⟨k, k1, by omega, k3, k4⟩
      · by_cases e : wordN ((n + 1 : Nat) : Int) = s
        · exact Or.inl ⟨n + 1, by omega, Nat.le_refl _, e, fun j h1 h2 => h j h1 (by omega)⟩
        · refine Or.inr (fun j h1 h2 => ?_)
          by_cases ej : j = n + 1
          · subst ej; exact e
          · exact h j h1 (by omega)
  rcases key 28 (Nat.le_refl _) with ⟨k, k1, k2, k3, k4⟩ | h
  · exact ⟨k, Or.inl ⟨k, k1, k2, k3, k4, rfl⟩, by omega, by omega⟩
  · exact ⟨0, Or.inr ⟨h, rfl⟩, by omega, by omega⟩
theorem words_apart : ∀ i : Fin 28, ∀ j : Fin 28, wordN ((i.val : Int) + 1) = wordN ((j.val : Int) + 1) → i = j := by decide +kernel
theorem ruleIs_word {r : Int} (h : 1 ≤ r ∧ r ≤ 28) : RuleIs (wordN r) r := by
  obtain ⟨n, rfl⟩ : ∃ n : Nat, r = (n : Int) + 1 := ⟨(r - 1).toNat, by omega⟩
  refine Or.inl ⟨n + 1, by omega, by omega, rfl, fun j h1 h2 e => ?_, rfl⟩
  have := words_apart ⟨j - 1, by omega⟩ ⟨n, by omega⟩ (by rw [← e]; congr 1; simp; omega)
  have := Fin.val_eq_of_eq this
  simp at this
  omega
theorem word_some : ∀ i : Fin 28, ((wordN ((i.val : Int) + 1)).toList == (⟨#[]⟩ : ByteArray).toList) = false := by decide +kernel
theorem word_full {r : Int} (h : 1 ≤ r ∧ r ≤ 28) : ((wordN r).toList == (⟨#[]⟩ : ByteArray).toList) = false := by
  have := word_some ⟨(r - 1).toNat, by omega⟩
  rwa [show (((r - 1).toNat : Nat) : Int) + 1 = r by omega] at this

set_option maxHeartbeats 1000000 in
theorem drule_any (s : ByteArray) (R : Int) (hR : RuleIs s R) (w : World) : Calls Try.prog 62 #[.string s] w fun e w' => e = .returned (.int .i64 R) ∧ w' = w := by
  have HR := Lib.hid hR
  clear hR
  go_enter Try.func62, Try.ntmps62
  go_wp2
  go_loopw [3] (fun rv wr => ∃ k : Nat, 1 ≤ k ∧ k ≤ 29 ∧ rv = .int .i64 k ∧ Hid (∀ j : Nat, 1 ≤ j → j < k → wordN j ≠ s) ∧ wr = w) (fun rv _ => 29 - (intOf rv).toNat)
  case atStart => exact ⟨1, Nat.le_refl _, by omega, rfl, fun j h1 h2 => by omega, rfl⟩
  case round =>
    obtain ⟨k, hk1, hk2, rfl, hno, rfl⟩ := hrel
    by_cases hlt : k ≤ 28
    · go_wp2_with fail
      refine (dword_any _ _).mono ?_
      rintro e w1 ⟨rfl, rfl⟩
      cases hs : ((wordN (k : Int)).toList == s.toList)
      · go_wp2
        go_roundw
        case rel => exact ⟨k + 1, by omega, by omega, by go_num, fun j h1 h2 => by
          by_cases e : j = k
          · subst e; exact bytes_ne hs
          · exact hno.out j h1 (by omega), trivial⟩
        case measure => simp [intOf]; omega
      · have hi : RuleIs s k := Or.inl ⟨k, hk1, hlt, (bytes_iff _ _).1 hs, hno.out, rfl⟩
        have HQ := Lib.hid (hi.same HR.out)
        clear hi
        go_wp2
        go_ret
        exact ⟨ret_int HQ.out, rfl⟩
    · have HQ := Lib.hid ((show RuleIs s 0 from Or.inr ⟨fun j h1 h2 => hno.out j h1 (by omega), rfl⟩).same HR.out)
      go_wp2
      go_ret
      exact ⟨ret_int HQ.out, rfl⟩

end Go.Proofs.Ytjhdcjjoignioaa.Dv
