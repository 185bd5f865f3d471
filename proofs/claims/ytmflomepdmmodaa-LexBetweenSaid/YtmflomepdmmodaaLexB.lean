/-
  lex: two texts, one behind the other's line: plain facts.
-/
import Derived.Test.YtmflomepdmmodaaLexS
namespace Go.Proofs.Ytmflomepdmmodaa

/-- Behind a list stands something whose first byte ends every row of bytes. -/
def Ends10 (B : List UInt8) : List UInt8 := (10 : UInt8) :: B
theorem runL_end {p : UInt8 → Bool} (hp : p 10 = false) (B : List UInt8) : ∀ X, runL p (X ++ Ends10 B) = runL p X
  | [] => runL_no hp
  | c :: r => by
    by_cases h : p c = true
    · rw [List.cons_append, runL_yes h, runL_yes h, runL_end hp B r]
    · have h' : p c = false := by simpa using h
      rw [List.cons_append, runL_no h', runL_no h']
theorem skip_end (B : List UInt8) : ∀ n (X : List UInt8), X.length ≤ n → (skipL X < X.length → skipL (X ++ Ends10 B) = skipL X) ∧ (¬ skipL X < X.length → skipL (X ++ Ends10 B) = X.length + 1 + skipL B) := by
  intro n
  induction n with
  | zero =>
    intro X h
    have : X = [] := List.eq_nil_of_length_eq_zero (by omega)
    subst this
    refine ⟨fun h => by simp at h, fun _ => ?_⟩
    show skipL (10 :: B) = _
    rw [skipL_blank (by decide)]; simp; omega
  | succ n ih =>
    intro X h
    match X with
    | [] =>
      refine ⟨fun h => by simp at h, fun _ => ?_⟩
      show skipL (10 :: B) = _
      rw [skipL_blank (by decide)]; simp; omega
    | c :: r =>
      simp only [List.length_cons] at h ⊢
      cases hb : blankC c with
      | true =>
        obtain ⟨i1, i2⟩ := ih r (by omega)
        rw [List.cons_append, skipL_blank hb, skipL_blank hb]
        exact ⟨fun h1 => by rw [i1 (by omega)], fun h1 => by rw [i2 (by omega)]; omega⟩
      | false =>
        by_cases h2 : c.toNat = 59
        · have hrn := runL_end (p := lineC) (by decide) B r
          have hle := runL_le lineC r
          rw [List.cons_append, skipL_note hb h2, skipL_note hb h2, hrn, List.drop_append_of_le_length hle]
          obtain ⟨i1, i2⟩ := ih (r.drop (runL lineC r)) (by rw [List.length_drop]; omega)
          rw [List.length_drop] at i1 i2
          exact ⟨fun h1 => by rw [i1 (by omega)], fun h1 => by rw [i2 (by omega)]; omega⟩
        · rw [List.cons_append, skipL_stop hb h2, skipL_stop hb h2]
          exact ⟨fun _ => rfl, fun h1 => by omega⟩
theorem next_end (B : List UInt8) (c : UInt8) (r : List UInt8) : nextL ((c :: r) ++ Ends10 B) = nextL (c :: r) := by
  have hw := runL_end (p := wordC) (by decide) B (c :: r)
  have hd := runL_end (p := isd) (by decide) B (c :: r)
  have hle := runL_le isd (c :: r)
  rw [List.cons_append] at hw hd ⊢
  have ht : (c :: (r ++ Ends10 B)).take (runL isd (c :: r)) = (c :: r).take (runL isd (c :: r)) := by
    rw [← List.cons_append, List.take_append_of_le_length hle]
  have hh : (((c :: (r ++ Ends10 B)).drop (runL isd (c :: r))).head?.map letterC).getD false = (((c :: r).drop (runL isd (c :: r))).head?.map letterC).getD false := by
    rw [← List.cons_append, List.drop_append_of_le_length hle]
    cases hx : (c :: r).drop (runL isd (c :: r)) with
    | nil => rfl
    | cons d r' => rfl
  rw [nextL, nextL, hw, hd, ht, hh]

/-- Tokens of a text that stands m bytes further on. -/
def shB (m : Nat) (R : List Tok × Option Nat) : List Tok × Option Nat := (R.1.map (fun t => ⟨t.k, t.s, t.at_ + m⟩), R.2.map (· + m))
theorem lex_shift (pre l : List UInt8) : ∀ n p, l.length - p ≤ n → lexL (pre ++ l) (p + pre.length) = shB pre.length (lexL l p) := by
  intro n
  have dr : ∀ q, (pre ++ l).drop (q + pre.length) = l.drop q := fun q => by rw [Nat.add_comm, List.drop_append, List.drop_of_length_le (by omega), List.nil_append, Nat.add_sub_cancel_left]
  induction n with
  | zero =>
    intro p h
    rw [lexL_end (l := l) (p := p) (by omega), lexL_end (by rw [List.length_append]; omega)]
    rfl
  | succ n ih =>
    intro p h
    by_cases h1 : p + skipL (l.drop p) < l.length
    · obtain ⟨q, hq⟩ : ∃ q, p + skipL (l.drop p) = q := ⟨_, rfl⟩
      have hq2 : p + pre.length + skipL ((pre ++ l).drop (p + pre.length)) = q + pre.length := by rw [dr]; omega
      rw [hq] at h1
      have hlt : q + pre.length < (pre ++ l).length := by rw [List.length_append]; omega
      cases hn : nextL (l.drop q) with
      | none => rw [lexL_fault hq h1 hn, lexL_fault hq2 hlt (by rw [dr]; exact hn)]; rfl
      | some x =>
        obtain ⟨k, m⟩ := x
        have hrg := nextL_range hn
        rw [lexL_next hq h1 hn, lexL_next hq2 hlt (by rw [dr]; exact hn), dr, show q + pre.length + m = q + m + pre.length by omega, ih (q + m) (by omega)]
        rfl
    · rw [lexL_end h1, lexL_end (by rw [dr, List.length_append]; omega)]
      rfl

/-- A, a line's end, B: the tokens of A, and then, if A has no fault, those of B. -/
theorem lex_two (A B : List UInt8) : ∀ (ta : List Tok) (p : Nat) (o : Option Nat), p ≤ A.length → lexL A p = (ta, o) → lexL (A ++ Ends10 B) p = match o with
    | some q => (ta, some q)
    | none => lexTo ta (shB (A.length + 1) (lexL B 0))
  | [], p, o, hp, h => by
    by_cases h1 : p + skipL (A.drop p) < A.length
    · obtain ⟨q, hq⟩ : ∃ q, p + skipL (A.drop p) = q := ⟨_, rfl⟩
      have hsk := (skip_end B _ (A.drop p) (Nat.le_refl _)).1 (by rw [List.length_drop]; omega)
      rw [← List.drop_append_of_le_length hp] at hsk
      rw [hq] at h1
      have hne := next_end B
      cases hn : nextL (A.drop q) with
      | none =>
        rw [lexL_fault hq h1 hn] at h
        cases h
        refine lexL_fault (by rw [hsk]; exact hq) (by rw [List.length_append]; omega) ?_
        rw [List.drop_append_of_le_length (Nat.le_of_lt h1), List.drop_eq_getElem_cons h1, hne, ← List.drop_eq_getElem_cons h1]
        exact hn
      | some x => obtain ⟨k, n⟩ := x; rw [lexL_next hq h1 hn] at h; cases h
    · rw [lexL_end h1] at h
      cases h
      have hsk := (skip_end B _ (A.drop p) (Nat.le_refl _)).2 (by rw [List.length_drop]; omega)
      have hle := skipL_le _ (A.drop p) (Nat.le_refl _)
      rw [List.length_drop] at hle hsk
      rw [← List.drop_append_of_le_length hp] at hsk
      have h3 := lex_shift (A ++ [10]) B _ 0 (Nat.le_refl _)
      have e : A ++ [10] ++ B = A ++ Ends10 B := by simp [Ends10]
      rw [e, Nat.zero_add, List.length_append, show ([10] : List UInt8).length = 1 from rfl] at h3
      show _ = lexTo [] _
      rw [← h3, show ∀ r, lexTo [] r = r from fun r => by simp [lexTo]]
      refine lexL_same ?_
      have hd2 : (A ++ Ends10 B).drop (A.length + 1) = B := by rw [← e, show A.length + 1 = (A ++ [(10 : UInt8)]).length by simp, List.drop_left]
      rw [hsk, hd2]
      omega
  | t :: r, p, o, hp, h => by
    obtain ⟨q, k, n, hq, hq2, hn, rfl, hr⟩ := lexL_inv h
    have hrg := nextL_range hn
    rw [List.length_drop] at hrg
    have hsk := (skip_end B _ (A.drop p) (Nat.le_refl _)).1 (by rw [List.length_drop]; omega)
    rw [← List.drop_append_of_le_length hp] at hsk
    have ih := lex_two A B r (q + n) o (by omega) hr
    have hdq : (A ++ Ends10 B).drop q = A.drop q ++ Ends10 B := List.drop_append_of_le_length (Nat.le_of_lt hq2)
    rw [lexL_next (q := q) (k := k) (n := n) (by rw [hsk]; exact hq) (by rw [List.length_append]; omega) (by
      rw [hdq, List.drop_eq_getElem_cons hq2, next_end B, ← List.drop_eq_getElem_cons hq2]; exact hn), ih, hdq,
      List.take_append_of_le_length (by rw [List.length_drop]; omega)]
    cases o with
    | some q' => rfl
    | none => simp [lexTo]
end Go.Proofs.Ytmflomepdmmodaa
