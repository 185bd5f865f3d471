/-
  The walk of transhiplaw02.LexNames.
-/
import Derived.Test.YtmflomepdmmodaaWakes2
namespace Go.Proofs.Ytmflomepdmmodaa
open Go.RowKit

theorem letter_sort {c : UInt8} (h : letterC c = true) : c.toNat ≠ 40 ∧ c.toNat ≠ 41 ∧ c.toNat ≠ 59 ∧ blankC c = false := by
  unfold letterC at h
  have h2 : (97 ≤ c.toNat ∧ c.toNat ≤ 122) ∨ (65 ≤ c.toNat ∧ c.toNat ≤ 90) := by simpa using h
  refine ⟨by omega, by omega, by omega, ?_⟩
  unfold blankC
  rw [beq_eq_false_iff_ne.2 (by omega : c.toNat ≠ 32), beq_eq_false_iff_ne.2 (by omega : c.toNat ≠ 9), beq_eq_false_iff_ne.2 (by omega : c.toNat ≠ 10)]; rfl
theorem lex_name {l : List UInt8} (h : nameL l = true) : lexL l 0 = ([⟨3, l, 0⟩], none) := by
  match l, h with
  | [], h => cases h
  | c :: r, h =>
    unfold nameL at h
    simp only [Bool.and_eq_true, beq_iff_eq, decide_eq_true_eq] at h
    obtain ⟨⟨h1, h2⟩, h3⟩ := h
    have h1' : letterC c = true := h1
    obtain ⟨a1, a2, a3, a4⟩ := letter_sort h1'
    rw [lexL_next (q := 0) (k := 3) (n := (c :: r).length) (by show 0 + skipL (c :: r) = 0; rw [skipL_stop a4 a3]) (by simp) (by show nextL (c :: r) = _; rw [next_word a1 a2 h1' (by omega), h2])]
    rw [lexL_end (by simp)]
    rw [List.drop_zero, List.take_length]

set_option maxHeartbeats 1000000 in
theorem lexNames_any (s : ByteArray) (w : World) : Calls Try.prog 4 #[.string s] w fun e w' => e = .returned (.bool true) ∧ Below w.heap.size w w' := by
  by_cases h1 : 100 < s.size
  · have h1' : 100 < (s.size : Int) := by omega
    go_enter Try.func4, Try.ntmps4
    go_wp2
    go_ret
    exact ⟨rfl, Below.refl _ _⟩
  have h1' : ¬ 100 < (s.size : Int) := by omega
  have HLX := Lib.hid fun w => lex_any s w (by omega)
  have HNM := Lib.hid fun w => name_any s w (by omega)
  have HPN := Lib.hid fun w => pname_any s w (by omega)
  cases hn : nameL s.data.toList with
  | true =>
    rw [hn] at HNM HPN
    have HX := Lib.hid (lex_name hn)
    clear hn h1
    go_enter Try.func4, Try.ntmps4
    go_wp2_with fail
    refine (HNM.out _).mono ?_
    rintro e w1 ⟨rfl, rfl⟩
    go_wp2_with fail
    refine (HPN.out _).mono ?_
    rintro e w1 ⟨rfl, rfl⟩
    go_wp2_with fail
    refine (HLX.out _).mono ?_
    intro e w2 h2
    obtain ⟨hb2, h2⟩ := h2
    rw [HX.out] at h2
    obtain ⟨v, ht, rfl⟩ := h2
    have HB2 := Lib.hid hb2
    obtain ⟨g, cap, rfl, hcell⟩ := toks_form ht
    have c0 : w2.cell? ⟨g, 0, none⟩ = some (.int .i64 3) := hcell 0 (Nat.zero_lt_one) 0 (by decide)
    have c1 : w2.cell? ⟨g, 1, none⟩ = some (.string s) := hcell 0 (Nat.zero_lt_one) 1 (by decide)
    have c2 : w2.cell? ⟨g, 2, none⟩ = some (.int .i64 0) := hcell 0 (Nat.zero_lt_one) 2 (by decide)
    clear hcell ht hb2
    go_wp2_with fail
    refine (HNM.out _).mono ?_
    rintro e w3 ⟨rfl, rfl⟩
    go_wp2_with fail
    refine (wakes_any _).mono ?_
    rintro e w4 ⟨rfl, hb4⟩
    go_wp2
    go_ret
    exact ⟨rfl, HB2.out.trans (hb4.mono HB2.out.size)⟩
  | false =>
    rw [hn] at HNM HPN
    clear hn h1
    go_enter Try.func4, Try.ntmps4
    go_wp2_with fail
    refine (HNM.out _).mono ?_
    rintro e w1 ⟨rfl, rfl⟩
    go_wp2_with fail
    refine (HPN.out _).mono ?_
    rintro e w1 ⟨rfl, rfl⟩
    go_wp2_with fail
    refine (HLX.out _).mono ?_
    intro e w2 h2
    obtain ⟨hb2, h2⟩ := h2
    have h3 : ∃ v a b, e = .returned (.tuple #[v, .int .i64 a, .int .i64 b]) := by
      revert h2
      split
      · rintro ⟨v, -, rfl⟩; exact ⟨v, 0, 0, rfl⟩
      · rintro rfl; exact ⟨_, 2, _, rfl⟩
    obtain ⟨v, a, b, rfl⟩ := h3
    have HB2 := Lib.hid hb2
    clear h2 hb2
    go_wp2_with fail
    refine (HNM.out _).mono ?_
    rintro e w3 ⟨rfl, rfl⟩
    go_wp2_with fail
    refine (wakes_any _).mono ?_
    rintro e w4 ⟨rfl, hb4⟩
    go_wp2
    go_ret
    exact ⟨rfl, HB2.out.trans (hb4.mono HB2.out.size)⟩
end Go.Proofs.Ytmflomepdmmodaa
