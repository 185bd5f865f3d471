/-
  Words of a text: plain facts; no walk.
-/
import Derived.Test.YtmflomepdmmodaaNumF
namespace Go.Proofs.Ytmflomepdmmodaa

def blankC (c : UInt8) : Bool := c.toNat == 32 || c.toNat == 9 || c.toNat == 10
def lineC (c : UInt8) : Bool := !(c.toNat == 10)
def letterC (c : UInt8) : Bool := (decide (97 ≤ c.toNat) && decide (c.toNat ≤ 122)) || (decide (65 ≤ c.toNat) && decide (c.toNat ≤ 90))
def wordC (c : UInt8) : Bool := letterC c || isd c
/-- How many of the first bytes are of a sort. -/
def runL (p : UInt8 → Bool) : List UInt8 → Nat
  | [] => 0
  | c :: r => if p c = true then runL p r + 1 else 0
theorem runL_le (p : UInt8 → Bool) : ∀ l, runL p l ≤ l.length
  | [] => Nat.le_refl _
  | c :: r => by unfold runL; split <;> simp <;> have := runL_le p r <;> omega
theorem runL_yes {p : UInt8 → Bool} {c : UInt8} {r : List UInt8} (h : p c = true) : runL p (c :: r) = runL p r + 1 := by rw [runL, if_pos h]
theorem runL_no {p : UInt8 → Bool} {c : UInt8} {r : List UInt8} (h : p c = false) : runL p (c :: r) = 0 := by rw [runL, if_neg (by rw [h]; decide)]
/-- How many bytes of blanks and remarks stand first. -/
def skipL (l : List UInt8) : Nat :=
  match l with
  | [] => 0
  | c :: r => if blankC c = true then skipL r + 1
    else if c.toNat = 59 then runL lineC r + 1 + skipL (r.drop (runL lineC r))
    else 0
termination_by l.length
decreasing_by
  · simp
  · simp; omega
theorem skipL_nil : skipL [] = 0 := by rw [skipL]
theorem skipL_blank {c : UInt8} {r : List UInt8} (h : blankC c = true) : skipL (c :: r) = skipL r + 1 := by rw [skipL, if_pos h]
theorem skipL_note {c : UInt8} {r : List UInt8} (h : blankC c = false) (h2 : c.toNat = 59) : skipL (c :: r) = runL lineC r + 1 + skipL (r.drop (runL lineC r)) := by rw [skipL, if_neg (by rw [h]; decide), if_pos h2]
theorem skipL_stop {c : UInt8} {r : List UInt8} (h : blankC c = false) (h2 : ¬ c.toNat = 59) : skipL (c :: r) = 0 := by rw [skipL, if_neg (by rw [h]; decide), if_neg h2]
theorem skipL_le : ∀ n (l : List UInt8), l.length ≤ n → skipL l ≤ l.length := by
  intro n
  induction n with
  | zero => intro l h; have : l = [] := List.eq_nil_of_length_eq_zero (by omega); subst this; rw [skipL_nil]; exact Nat.le_refl _
  | succ n ih =>
    intro l h
    match l with
    | [] => rw [skipL_nil]; exact Nat.le_refl _
    | c :: r =>
      simp only [List.length_cons] at h ⊢
      cases hb : blankC c with
      | true => rw [skipL_blank hb]; have := ih r (by omega); omega
      | false =>
        by_cases h2 : c.toNat = 59
        · rw [skipL_note hb h2]
          have h3 := ih (r.drop (runL lineC r)) (by rw [List.length_drop]; omega)
          rw [List.length_drop] at h3
          have := runL_le lineC r
          omega
        · rw [skipL_stop hb h2]; omega
/-- The kind and the length of the token that stands first. -/
def nextL (l : List UInt8) : Option (Nat × Nat) :=
  match l with
  | [] => none
  | c :: r =>
    if c.toNat = 40 then some (1, 1)
    else if c.toNat = 41 then some (2, 1)
    else if letterC c = true then (if 20 < runL wordC (c :: r) then none else some (3, runL wordC (c :: r)))
    else if isd c = true then (if getB ((c :: r).take (runL isd (c :: r))) = none ∨ ((((c :: r).drop (runL isd (c :: r))).head?.map letterC).getD false) = true then none else some (4, runL isd (c :: r)))
    else none
theorem nextL_range {l : List UInt8} {k n : Nat} (h : nextL l = some (k, n)) : 1 ≤ n ∧ n ≤ l.length ∧ 1 ≤ k ∧ k ≤ 4 := by
  match l with
  | [] => cases h
  | c :: r =>
    have hw := runL_le wordC (c :: r)
    have hd := runL_le isd (c :: r)
    rw [nextL] at h
    by_cases c1 : c.toNat = 40
    · rw [if_pos c1] at h; cases h; simp
    rw [if_neg c1] at h
    by_cases c2 : c.toNat = 41
    · rw [if_pos c2] at h; cases h; simp
    rw [if_neg c2] at h
    by_cases c3 : letterC c = true
    · rw [if_pos c3] at h
      by_cases c4 : 20 < runL wordC (c :: r)
      · rw [if_pos c4] at h; cases h
      · rw [if_neg c4] at h
        cases h
        have : runL wordC (c :: r) = runL wordC r + 1 := runL_yes (by unfold wordC; rw [c3]; rfl)
        omega
    rw [if_neg c3] at h
    by_cases c5 : isd c = true
    · rw [if_pos c5] at h
      by_cases c6 : getB ((c :: r).take (runL isd (c :: r))) = none ∨ ((((c :: r).drop (runL isd (c :: r))).head?.map letterC).getD false) = true
      · rw [if_pos c6] at h; cases h
      · rw [if_neg c6] at h
        cases h
        have : runL isd (c :: r) = runL isd r + 1 := runL_yes c5
        omega
    · rw [if_neg c5] at h; cases h
structure Tok where
  k : Nat
  s : List UInt8
  at_ : Nat
/-- The tokens from a place on, and the place of the first fault. -/
def lexL (l : List UInt8) (p : Nat) : List Tok × Option Nat :=
  if _h : p + skipL (l.drop p) < l.length then
    match _hn : nextL (l.drop (p + skipL (l.drop p))) with
    | none => ([], some (p + skipL (l.drop p)))
    | some (k, n) =>
      let r := lexL l (p + skipL (l.drop p) + n)
      (⟨k, (l.drop (p + skipL (l.drop p))).take n, p + skipL (l.drop p)⟩ :: r.1, r.2)
  else ([], none)
termination_by l.length - p
decreasing_by
  have := nextL_range _hn
  omega
theorem lexL_end {l : List UInt8} {p : Nat} (h : ¬ p + skipL (l.drop p) < l.length) : lexL l p = ([], none) := by rw [lexL, dif_neg h]
theorem lexL_fault {l : List UInt8} {p q : Nat} (hq : p + skipL (l.drop p) = q) (h : q < l.length) (hn : nextL (l.drop q) = none) : lexL l p = ([], some q) := by
  subst hq
  rw [lexL, dif_pos h]
  split
  · rfl
  · rename_i e; rw [hn] at e; cases e
theorem lexL_next {l : List UInt8} {p q k n : Nat} (hq : p + skipL (l.drop p) = q) (h : q < l.length) (hn : nextL (l.drop q) = some (k, n)) : lexL l p = (⟨k, (l.drop q).take n, q⟩ :: (lexL l (q + n)).1, (lexL l (q + n)).2) := by
  subst hq
  rw [lexL, dif_pos h]
  split
  · rename_i e; rw [hn] at e; cases e
  · rename_i e; rw [hn] at e; cases e; rfl
/-- Two places with the same token behind them. -/
theorem lexL_same {l : List UInt8} {p q : Nat} (h : p + skipL (l.drop p) = q + skipL (l.drop q)) : lexL l p = lexL l q := by
  by_cases h1 : q + skipL (l.drop q) < l.length
  · cases hn : nextL (l.drop (q + skipL (l.drop q))) with
    | none => rw [lexL_fault h h1 hn, lexL_fault rfl h1 hn]
    | some x => obtain ⟨k, n⟩ := x; rw [lexL_next h h1 hn, lexL_next rfl h1 hn]
  · rw [lexL_end h1, lexL_end (by rw [h]; exact h1)]
/-- The tokens ahead, and what is still to be read. -/
def lexTo (acc : List Tok) (r : List Tok × Option Nat) : List Tok × Option Nat := (acc ++ r.1, r.2)
end Go.Proofs.Ytmflomepdmmodaa
