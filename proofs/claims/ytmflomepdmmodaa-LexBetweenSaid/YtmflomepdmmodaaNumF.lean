/-
  Numbers as text: plain facts; no walk.
-/
import Derived.Lib.ItoaNum
import Derived.Lib.ItoaLen
namespace Go.Proofs.Ytmflomepdmmodaa
open Go.Lib

/-- What a list of digits says. -/
def val (l : List UInt8) : Nat := l.foldl (fun n c => 10 * n + (c.toNat - 48)) 0
def isd (c : UInt8) : Bool := decide (48 ≤ c.toNat) && decide (c.toNat ≤ 57)
def digs (l : List UInt8) : Bool := l.all isd

theorem val_snoc (l : List UInt8) (c : UInt8) : val (l ++ [c]) = 10 * val l + (c.toNat - 48) := by simp [val]
theorem digs_snoc (l : List UInt8) (c : UInt8) : digs (l ++ [c]) = (digs l && isd c) := by simp [digs]

theorem foldl_mono (l : List UInt8) : ∀ a : Nat, a ≤ l.foldl (fun n c => 10 * n + (c.toNat - 48)) a := by
  induction l with
  | nil => intro a; exact Nat.le_refl _
  | cons c l ih => intro a; simp only [List.foldl_cons]; exact Nat.le_trans (by omega) (ih _)
theorem foldl_pow (l : List UInt8) : ∀ a : Nat, a * 10 ^ l.length ≤ l.foldl (fun n c => 10 * n + (c.toNat - 48)) a := by
  induction l with
  | nil => intro a; simp
  | cons c l ih =>
    intro a
    simp only [List.foldl_cons, List.length_cons, Nat.pow_succ]
    refine Nat.le_trans ?_ (ih _)
    rw [Nat.mul_comm (10 ^ l.length) 10, ← Nat.mul_assoc, Nat.mul_comm a 10]
    exact Nat.mul_le_mul_right _ (by omega)
theorem val_append (l m : List UInt8) : val l ≤ val (l ++ m) := by
  simp only [val, List.foldl_append]; exact foldl_mono _ _

/-- The number that a text says, if it says one. -/
def getB (l : List UInt8) : Option Nat :=
  if l = [] ∨ (1 < l.length ∧ l.head? = some 48) then none
  else if digs l = true ∧ val l ≤ 1000000 then some (val l) else none

theorem ofNat_toNat (k : Nat) (h : k < 10) : (UInt8.ofNat (48 + k)).toNat = 48 + k := by
  rw [UInt8.toNat_ofNat']; omega
theorem dec_val (u : Nat) : val (decDigits u) = u := by
  induction u using Nat.strongRecOn with
  | ind u ih =>
    by_cases h : u < 10
    · rw [decDigits_one h]; simp only [val, List.foldl_cons, List.foldl_nil]; rw [ofNat_toNat u h]; omega
    · rw [decDigits, dif_neg h, val_snoc, ih (u / 10) (by omega), ofNat_toNat _ (by omega)]; omega
theorem dec_digs (u : Nat) : digs (decDigits u) = true := by
  induction u using Nat.strongRecOn with
  | ind u ih =>
    by_cases h : u < 10
    · rw [decDigits_one h]; simp only [digs, List.all_cons, List.all_nil, Bool.and_true, isd]; rw [ofNat_toNat u h]; simp; omega
    · rw [decDigits, dif_neg h, digs_snoc, ih (u / 10) (by omega)]; simp only [isd]; rw [ofNat_toNat _ (by omega)]; simp; omega
theorem dec_head (u : Nat) : ∃ c l, decDigits u = c :: l ∧ (u ≠ 0 → c ≠ 48) ∧ (u < 10 → l = []) := by
  induction u using Nat.strongRecOn with
  | ind u ih =>
    by_cases h : u < 10
    · refine ⟨_, [], decDigits_one h, fun h0 e => ?_, fun _ => rfl⟩
      have := congrArg UInt8.toNat e
      rw [ofNat_toNat u h] at this
      simp at this; omega
    · obtain ⟨c, l, e, h1, -⟩ := ih (u / 10) (by omega)
      refine ⟨c, l ++ [UInt8.ofNat (48 + u % 10)], by rw [decDigits, dif_neg h, e]; rfl, fun _ => h1 (by omega), fun h' => absurd h' h⟩

theorem dec_zero : decDigits 0 = [48] := by rw [decDigits_one (by omega)]; rfl
theorem get_dec (u : Nat) : getB (decDigits u) = if u ≤ 1000000 then some u else none := by
  obtain ⟨c, l, e, h1, h2⟩ := dec_head u
  have hd := dec_digs u
  have hv := dec_val u
  unfold getB
  rw [if_neg (by
    rw [e]
    rintro (h | ⟨h, h'⟩)
    · cases h
    · simp only [List.head?_cons, Option.some.injEq] at h'
      by_cases h0 : u = 0
      · have := h2 (by omega); subst this; simp at h
      · exact h1 h0 h')]
  rw [hd, hv]
  simp
theorem get_neg (l : List UInt8) : getB (45 :: l) = none := by
  unfold getB
  split
  · rfl
  · rw [if_neg]; simp [digs, isd]
/-- What is put is got. -/
theorem get_itoa (n : Int) : getB (itoa n) = if 0 ≤ n ∧ n ≤ 1000000 then some n.toNat else none := by
  unfold itoa
  by_cases h : n < 0
  · rw [if_pos h, get_neg, if_neg (by omega)]
  · rw [if_neg h, get_dec]
    by_cases h2 : n ≤ 1000000
    · rw [if_pos (by omega), if_pos (by omega)]
    · rw [if_neg (by omega), if_neg (by omega)]
theorem dec_inj {a b : Nat} (h : decDigits a = decDigits b) : a = b := by rw [← dec_val a, h, dec_val]
theorem dec_not_neg (u : Nat) (l : List UInt8) : decDigits u ≠ 45 :: l := fun h => by
  have := dec_digs u; rw [h] at this; simp [digs, isd] at this
theorem itoa_inj {a b : Int} (h : itoa a = itoa b) : a = b := by
  unfold itoa at h
  by_cases ha : a < 0 <;> by_cases hb : b < 0
  · rw [if_pos ha, if_pos hb] at h; have := dec_inj (List.cons.inj h).2; omega
  · rw [if_pos ha, if_neg hb] at h; exact absurd h.symm (dec_not_neg _ _)
  · rw [if_neg ha, if_pos hb] at h; exact absurd h (dec_not_neg _ _)
  · rw [if_neg ha, if_neg hb] at h; have := dec_inj h; omega
theorem dec_digit {n d : Nat} (hn : 1 ≤ n) (hd : d ≤ 9) : decDigits (10 * n + d) = decDigits n ++ decDigits d := by
  rw [decDigits, dif_neg (by omega), decDigits_one (show d < 10 by omega), show (10 * n + d) / 10 = n by omega, show (10 * n + d) % 10 = d by omega]
theorem itoa_digit {n d : Int} (hn : 1 ≤ n) (hd0 : 0 ≤ d) (hd : d ≤ 9) : itoa (10 * n + d) = itoa n ++ itoa d := by
  unfold itoa
  rw [if_neg (by omega), if_neg (by omega), if_neg (by omega), ← dec_digit (by omega) (by omega)]
  congr 1; omega
theorem itoa_digit_neg {n d : Int} (hn : 1 ≤ n) (hd0 : 0 ≤ d) (hd : d ≤ 9) : itoa (-10 * n - d) = 45 :: (itoa n ++ itoa d) := by
  rw [← itoa_digit hn hd0 hd]
  unfold itoa
  rw [if_pos (by omega), if_neg (by omega)]
  congr 2; omega

/-- The page's bound on the length says nothing more. -/
theorem get_long {l : List UInt8} (h : 7 < l.length) : getB l = none := by
  unfold getB
  by_cases h1 : l = [] ∨ (1 < l.length ∧ l.head? = some 48)
  · rw [if_pos h1]
  · rw [if_neg h1, if_neg]
    rintro ⟨hd, hv⟩
    match l, h with
    | c :: l, h =>
      have hc : c ≠ 48 := fun e => h1 (Or.inr ⟨by omega, by rw [e]; rfl⟩)
      simp only [digs, List.all_cons, Bool.and_eq_true, isd, decide_eq_true_eq] at hd
      have hc2 : c.toNat ≠ 48 := fun e => hc (UInt8.toNat_inj.1 (by rw [e]; rfl))
      have hp := foldl_pow l (10 * 0 + (c.toNat - 48))
      have hl : 7 ≤ l.length := by simp at h; omega
      have hpow : 10 ^ 7 ≤ 10 ^ l.length := Nat.pow_le_pow_right (by omega) hl
      simp only [val, List.foldl_cons] at hv
      have : 1 * 10 ^ 7 ≤ (10 * 0 + (c.toNat - 48)) * 10 ^ l.length := Nat.mul_le_mul (by omega) hpow
      omega
end Go.Proofs.Ytmflomepdmmodaa
