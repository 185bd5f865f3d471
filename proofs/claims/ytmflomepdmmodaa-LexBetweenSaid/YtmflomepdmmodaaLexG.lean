/-
  lex: tokens laid one behind the other, with gaps between: plain facts.
-/
import Derived.Test.YtmflomepdmmodaaLexB
namespace Go.Proofs.Ytmflomepdmmodaa

/-- What stands behind a token ends it. -/
def Stops (Y : List UInt8) : Prop := ∀ c r, Y = c :: r → wordC c = false
theorem wordC_no {c : UInt8} (h : wordC c = false) : letterC c = false ∧ isd c = false := by unfold wordC at h; simpa using h
theorem runL_cut {p : UInt8 → Bool} {Y : List UInt8} (hY : ∀ c r, Y = c :: r → p c = false) : ∀ X, runL p (X.take (runL p X) ++ Y) = runL p X
  | [] => by
    match Y, hY with
    | [], _ => rfl
    | c :: r, hY => exact runL_no (hY c r rfl)
  | c :: r => by
    by_cases h : p c = true
    · rw [runL_yes h, List.take_succ_cons, List.cons_append, runL_yes h, runL_cut hY r]
    · have h' : p c = false := by simpa using h
      rw [runL_no h', List.take_zero, List.nil_append]
      match Y, hY with
      | [], _ => rfl
      | c :: r, hY => exact runL_no (hY c r rfl)
/-- A token by itself: it is read again wherever something stands behind it that ends it. -/
def Solid (t : Tok) : Prop := ∀ Y, Stops Y → nextL (t.s ++ Y) = some (t.k, t.s.length) ∧ skipL (t.s ++ Y) = 0
theorem solid_of {X : List UInt8} {k n a : Nat} (h : nextL X = some (k, n)) : Solid ⟨k, X.take n, a⟩ := by
  intro Y hY
  match X, h with
  | [], h => cases h
  | c :: r, h =>
    show nextL ((c :: r).take n ++ Y) = some (k, ((c :: r).take n).length) ∧ skipL ((c :: r).take n ++ Y) = 0
    by_cases c1 : c.toNat = 40
    · rw [next_open c1] at h
      cases h
      exact ⟨next_open c1, skipL_stop (by unfold blankC; rw [c1]; rfl) (by omega)⟩
    by_cases c2 : c.toNat = 41
    · rw [next_close c2] at h
      cases h
      exact ⟨next_close c2, skipL_stop (by unfold blankC; rw [c2]; rfl) (by omega)⟩
    have hw := runL_cut (p := wordC) (Y := Y) (fun c r e => hY c r e) (c :: r)
    have hd := runL_cut (p := isd) (Y := Y) (fun c r e => (wordC_no (hY c r e)).2) (c :: r)
    have hlw := runL_le wordC (c :: r)
    have hld := runL_le isd (c :: r)
    by_cases c3 : letterC c = true
    · have hy : runL wordC (c :: r) = runL wordC r + 1 := runL_yes (by unfold wordC; rw [c3]; rfl)
      by_cases c4 : 20 < runL wordC (c :: r)
      · rw [next_long c1 c2 c3 c4] at h; cases h
      · rw [next_word c1 c2 c3 c4] at h
        cases h
        have hl : ((c :: r).take (runL wordC (c :: r))).length = runL wordC (c :: r) := by rw [List.length_take]; omega
        rw [hl]
        rw [hy, List.take_succ_cons, List.cons_append] at hw ⊢
        refine ⟨?_, skipL_stop ?_ ?_⟩
        · rw [next_word c1 c2 c3 (by omega), hw]
        · unfold letterC at c3
          unfold blankC
          have h2 : (97 ≤ c.toNat ∧ c.toNat ≤ 122) ∨ (65 ≤ c.toNat ∧ c.toNat ≤ 90) := by simpa using c3
          rw [beq_eq_false_iff_ne.2 (by omega : c.toNat ≠ 32), beq_eq_false_iff_ne.2 (by omega : c.toNat ≠ 9), beq_eq_false_iff_ne.2 (by omega : c.toNat ≠ 10)]; rfl
        · unfold letterC at c3
          have h2 : (97 ≤ c.toNat ∧ c.toNat ≤ 122) ∨ (65 ≤ c.toNat ∧ c.toNat ≤ 90) := by simpa using c3
          omega
    have c3' : letterC c = false := by simpa using c3
    by_cases c5 : isd c = true
    · have hy : runL isd (c :: r) = runL isd r + 1 := runL_yes c5
      by_cases c6 : getB ((c :: r).take (runL isd (c :: r))) = none ∨ ((((c :: r).drop (runL isd (c :: r))).head?.map letterC).getD false) = true
      · rw [next_bad c1 c2 c3' c5 c6] at h; cases h
      · rw [next_num c1 c2 c3' c5 c6] at h
        cases h
        have hl : ((c :: r).take (runL isd (c :: r))).length = runL isd (c :: r) := by rw [List.length_take]; omega
        have hg : getB ((c :: r).take (runL isd (c :: r))) ≠ none := fun e => c6 (Or.inl e)
        have ht : ((c :: r).take (runL isd (c :: r)) ++ Y).take (runL isd (c :: r)) = (c :: r).take (runL isd (c :: r)) := by
          conv => lhs; rw [List.take_append_of_le_length (by rw [hl]; exact Nat.le_refl _)]
          rw [List.take_take, Nat.min_self]
        have hdr : ((c :: r).take (runL isd (c :: r)) ++ Y).drop (runL isd (c :: r)) = Y := List.drop_left' hl
        have hY2 : (Y.head?.map letterC).getD false = false := by
          match Y, hY with
          | [], _ => rfl
          | d :: s, hY => exact (wordC_no (hY d s rfl)).1
        rw [hl]
        generalize hX : (c :: r).take (runL isd (c :: r)) = X at *
        have hX2 : X = c :: r.take (runL isd r) := by rw [← hX, hy, List.take_succ_cons]
        rw [hX2, List.cons_append] at hd ht hdr ⊢
        refine ⟨?_, skipL_stop ?_ ?_⟩
        · rw [next_num c1 c2 c3' c5 (by rw [hd, ht, hdr, hY2, ← hX2]; rintro (e | e); exact hg e; cases e), hd]
        · unfold isd at c5
          have h2 : 48 ≤ c.toNat ∧ c.toNat ≤ 57 := by simpa using c5
          unfold blankC
          rw [beq_eq_false_iff_ne.2 (by omega : c.toNat ≠ 32), beq_eq_false_iff_ne.2 (by omega : c.toNat ≠ 9), beq_eq_false_iff_ne.2 (by omega : c.toNat ≠ 10)]; rfl
        · unfold isd at c5
          have h2 : 48 ≤ c.toNat ∧ c.toNat ≤ 57 := by simpa using c5
          omega
    · rw [next_other c1 c2 c3' (by simpa using c5)] at h; cases h
theorem solid_all {l : List UInt8} {o : Option Nat} : ∀ (ts : List Tok) (p : Nat), lexL l p = (ts, o) → ∀ t ∈ ts, Solid t
  | [], _, _, _, h => by cases h
  | t :: r, p, h, x, hx => by
    obtain ⟨q, k, n, -, hq, hn, rfl, hr⟩ := lexL_inv h
    rcases List.mem_cons.1 hx with rfl | hx
    · exact solid_of hn
    · exact solid_all r _ hr x hx

/-- A gap: blanks and remarks that are passed over whole. -/
def Gap (g : List UInt8) : Prop := (∀ X, skipL (g ++ X) = g.length + skipL X) ∧ ∀ X, Stops (g ++ X)
def gapL : List (List UInt8) := [[32], [10], [9, 32], [59, 32, 97, 32, 40, 32, 98, 10], [32, 59, 10, 59, 41, 10]]
theorem gap_all : ∀ g ∈ gapL, Gap g := by
  intro g hg
  simp only [gapL, List.mem_cons, List.not_mem_nil, or_false] at hg
  rcases hg with rfl | rfl | rfl | rfl | rfl
  · exact ⟨fun X => by rw [List.cons_append, skipL_blank (by decide)]; simp; omega, fun X c r e => by cases e; decide⟩
  · exact ⟨fun X => by rw [List.cons_append, skipL_blank (by decide)]; simp; omega, fun X c r e => by cases e; decide⟩
  · exact ⟨fun X => by rw [List.cons_append, skipL_blank (by decide), List.cons_append, skipL_blank (by decide)]; simp; omega, fun X c r e => by cases e; decide⟩
  · refine ⟨fun X => ?_, fun X c r e => by cases e; decide⟩
    rw [List.cons_append, skipL_note (by decide) (by decide)]
    rw [show runL lineC ([32, 97, 32, 40, 32, 98, 10] ++ X) = 6 from by simp only [List.cons_append]; iterate 6 rw [runL_yes (by decide)]
                                                                        rw [runL_no (by decide)]]
    show 6 + 1 + skipL (10 :: X) = _
    rw [skipL_blank (by decide)]; simp; omega
  · refine ⟨fun X => ?_, fun X c r e => by cases e; decide⟩
    rw [List.cons_append, skipL_blank (by decide), List.cons_append, skipL_note (by decide) (by decide)]
    rw [show runL lineC ([10, 59, 41, 10] ++ X) = 0 from runL_no (by decide)]
    show 0 + 1 + skipL (10 :: 59 :: 41 :: 10 :: X) + 1 = _
    rw [skipL_blank (by decide), skipL_note (by decide) (by decide), show runL lineC (41 :: 10 :: X) = 1 from by rw [runL_yes (by decide), runL_no (by decide)]]
    show 0 + 1 + (1 + 1 + skipL (10 :: X) + 1) + 1 = _
    rw [skipL_blank (by decide)]; simp; omega

/-- Gaps and tokens, one behind the other. -/
def layL : List (List UInt8 × Tok) → List UInt8
  | [] => []
  | (g, t) :: r => g ++ t.s ++ layL r
theorem layL_append : ∀ a b, layL (a ++ b) = layL a ++ layL b
  | [], b => rfl
  | (g, t) :: r, b => by show g ++ t.s ++ layL (r ++ b) = g ++ t.s ++ layL r ++ layL b; rw [layL_append r b]; simp
def endL : List UInt8 := [59, 101, 110, 100]
theorem lay_stops : ∀ ps : List (List UInt8 × Tok), (∀ x ∈ ps, Gap x.1) → Stops (layL ps ++ endL)
  | [], _ => fun c r e => by cases e; decide
  | (g, t) :: r, h => by
    show Stops (g ++ t.s ++ layL r ++ endL)
    rw [List.append_assoc, List.append_assoc]
    exact (h (g, t) (List.mem_cons_self ..)).2 _
theorem lay_lex : ∀ ps : List (List UInt8 × Tok), (∀ x ∈ ps, Gap x.1) → (∀ x ∈ ps, Solid x.2) → (lexL (layL ps ++ endL) 0).2 = none ∧ (lexL (layL ps ++ endL) 0).1.map (fun t => (t.k, t.s)) = ps.map (fun x => (x.2.k, x.2.s))
  | [], _, _ => by
    rw [lexL_end (by show ¬ 0 + skipL endL < 4; unfold endL; rw [skipL_note (by decide) (by decide), show runL lineC [101, 110, 100] = 3 by decide]; omega)]
    exact ⟨rfl, rfl⟩
  | (g, t) :: r, hg, hs => by
    obtain ⟨i1, i2⟩ := lay_lex r (fun x hx => hg x (List.mem_cons_of_mem _ hx)) (fun x hx => hs x (List.mem_cons_of_mem _ hx))
    obtain ⟨g1, -⟩ := hg (g, t) (List.mem_cons_self ..)
    obtain ⟨n1, n2⟩ := hs (g, t) (List.mem_cons_self ..) _ (lay_stops r (fun x hx => hg x (List.mem_cons_of_mem _ hx)))
    have e : layL ((g, t) :: r) ++ endL = g ++ (t.s ++ (layL r ++ endL)) := by show g ++ t.s ++ layL r ++ endL = _; simp
    have hpos := nextL_range n1
    simp only at n1 n2 g1
    have hx := lex_shift (g ++ t.s) (layL r ++ endL) _ 0 (Nat.le_refl _)
    rw [Nat.zero_add, List.length_append, List.append_assoc] at hx
    rw [e, lexL_next (q := g.length) (k := t.k) (n := t.s.length) (by rw [List.drop_zero, g1, n2]; omega) (by simp at hpos ⊢; omega) (by rw [List.drop_left]; exact n1), hx]
    refine ⟨?_, ?_⟩
    · show (lexL (layL r ++ endL) 0).2.map _ = none
      rw [i1]; rfl
    · rw [List.drop_left, List.take_left]
      simp only [List.map_cons]
      rw [← i2]
      simp [shB]
end Go.Proofs.Ytmflomepdmmodaa
