/-
  lex: the sorts of bytes, run, skip, next.
-/
import Derived.Test.YtmflomepdmmodaaLexF
import Derived.Test.YtmflomepdmmodaaNumG
import Derived.Test.YtmflomepdmmodaaRows
import Derived.IntWalk
import Derived.Lib.Strings
namespace Go.Proofs.Ytmflomepdmmodaa
open Go.RowKit

theorem ret_bool {a b : Bool} (h : a = b) : Ending.returned (.bool a) = .returned (.bool b) := by rw [h]
theorem drop_at (s : ByteArray) (k : Nat) (h : k < s.size) : s.data.toList.drop k = s[k] :: s.data.toList.drop (k + 1) := by
  have h' : k < s.data.toList.length := by simpa using h
  rw [List.drop_eq_getElem_cons h']; rfl
theorem u8_eq {c : UInt8} {n : Nat} : (((c.toNat : Int)) == (n : Int)) = (c.toNat == n) := by
  by_cases h : c.toNat = n
  · rw [h]; simp
  · have h2 : ¬ (c.toNat : Int) = n := by omega
    rw [beq_eq_false_iff_ne.2 h2, beq_eq_false_iff_ne.2 h]
theorem letter_any (c : UInt8) (w : World) : Calls Try.prog 20 #[.int .u8 (c.toNat : Int)] w fun e w' => e = .returned (.bool (letterC c)) ∧ w' = w := by
  by_cases c0 : 97 ≤ (c.toNat : Int)
  all_goals by_cases c1 : (c.toNat : Int) ≤ 122
  all_goals by_cases c2 : 65 ≤ (c.toNat : Int)
  all_goals by_cases c3 : (c.toNat : Int) ≤ 90
  all_goals
    have HR : Hid (letterC c = letterC c) := rfl
    go_enter Try.func20, Try.ntmps20
    go_wp2
    all_goals
      go_ret
      exact ⟨ret_bool (by unfold letterC; simp; omega), rfl⟩
theorem pletter_any (c : UInt8) (w : World) : Calls Try.prog 17 #[.int .u8 (c.toNat : Int)] w fun e w' => e = .returned (.bool (letterC c)) ∧ w' = w := by
  by_cases c0 : 97 ≤ (c.toNat : Int)
  all_goals by_cases c1 : (c.toNat : Int) ≤ 122
  all_goals by_cases c2 : 65 ≤ (c.toNat : Int)
  all_goals by_cases c3 : (c.toNat : Int) ≤ 90
  all_goals
    have HR : Hid (letterC c = letterC c) := rfl
    go_enter Try.func17, Try.ntmps17
    go_wp2
    all_goals
      go_ret
      exact ⟨ret_bool (by unfold letterC; simp; omega), rfl⟩
theorem digit_any (c : UInt8) (w : World) : Calls Try.prog 25 #[.int .u8 (c.toNat : Int)] w fun e w' => e = .returned (.bool (isd c)) ∧ w' = w := by
  by_cases c0 : 48 ≤ (c.toNat : Int)
  all_goals by_cases c1 : (c.toNat : Int) ≤ 57
  all_goals
    have HR : Hid (isd c = isd c) := rfl
    go_enter Try.func25, Try.ntmps25
    go_wp2
    all_goals
      go_ret
      exact ⟨ret_bool (by unfold isd; simp; omega), rfl⟩
theorem pdigit_any (c : UInt8) (w : World) : Calls Try.prog 18 #[.int .u8 (c.toNat : Int)] w fun e w' => e = .returned (.bool (isd c)) ∧ w' = w := by
  by_cases c0 : 48 ≤ (c.toNat : Int)
  all_goals by_cases c1 : (c.toNat : Int) ≤ 57
  all_goals
    have HR : Hid (isd c = isd c) := rfl
    go_enter Try.func18, Try.ntmps18
    go_wp2
    all_goals
      go_ret
      exact ⟨ret_bool (by unfold isd; simp; omega), rfl⟩
theorem blank_any (c : UInt8) (w : World) : Calls Try.prog 23 #[.int .u8 (c.toNat : Int)] w fun e w' => e = .returned (.bool (blankC c)) ∧ w' = w := by
  obtain ⟨q0, hq0⟩ : ∃ q, (c.toNat == 32) = q := ⟨_, rfl⟩
  have b0 : ((c.toNat : Int) == 32) = q0 := (u8_eq (n := 32)).trans hq0
  obtain ⟨q1, hq1⟩ : ∃ q, (c.toNat == 9) = q := ⟨_, rfl⟩
  have b1 : ((c.toNat : Int) == 9) = q1 := (u8_eq (n := 9)).trans hq1
  obtain ⟨q2, hq2⟩ : ∃ q, (c.toNat == 10) = q := ⟨_, rfl⟩
  have b2 : ((c.toNat : Int) == 10) = q2 := (u8_eq (n := 10)).trans hq2
  have HR := Lib.hid (show blankC c = (q0 || q1 || q2) by unfold blankC; rw [hq0, hq1, hq2])
  clear hq0 hq1 hq2
  cases q0 <;> cases q1 <;> cases q2
  all_goals
    go_enter Try.func23, Try.ntmps23
    go_wp2
    go_ret
    exact ⟨ret_bool HR.out.symm, rfl⟩
theorem inLine_any (c : UInt8) (w : World) : Calls Try.prog 24 #[.int .u8 (c.toNat : Int)] w fun e w' => e = .returned (.bool (lineC c)) ∧ w' = w := by
  obtain ⟨q0, hq0⟩ : ∃ q, (c.toNat == 10) = q := ⟨_, rfl⟩
  have b0 : ((c.toNat : Int) == 10) = q0 := (u8_eq (n := 10)).trans hq0
  have HR := Lib.hid (show lineC c = (!q0) by unfold lineC; rw [hq0])
  have n0 : ((c.toNat : Int) != 10) = (!q0) := by rw [bne, b0]
  clear hq0
  cases q0
  all_goals
    go_enter Try.func24, Try.ntmps24
    go_wp2
    go_ret
    exact ⟨ret_bool HR.out.symm, rfl⟩
theorem wordly_any (c : UInt8) (w : World) : Calls Try.prog 22 #[.int .u8 (c.toNat : Int)] w fun e w' => e = .returned (.bool (wordC c)) ∧ w' = w := by
  have HL := Lib.hid (letter_any c)
  have HD := Lib.hid (digit_any c)
  cases h : letterC c with
  | true =>
    have HR := Lib.hid (show wordC c = true by unfold wordC; rw [h]; rfl)
    rw [h] at HL
    go_enter Try.func22, Try.ntmps22
    go_wp2_with fail
    refine (HL.out _).mono ?_
    rintro e w1 ⟨rfl, rfl⟩
    go_wp2
    go_ret
    exact ⟨ret_bool HR.out.symm, rfl⟩
  | false =>
    have HR := Lib.hid (show wordC c = isd c by unfold wordC; rw [h]; rfl)
    rw [h] at HL
    go_enter Try.func22, Try.ntmps22
    go_wp2_with fail
    refine (HL.out _).mono ?_
    rintro e w1 ⟨rfl, rfl⟩
    go_wp2_with fail
    refine (HD.out _).mono ?_
    rintro e w1 ⟨rfl, rfl⟩
    go_wp2
    all_goals
      go_ret
      exact ⟨ret_bool HR.out.symm, rfl⟩

/-- The place behind the longest row of bytes of a sort. -/
theorem runW_any (s : ByteArray) (k0 : Nat) (w : World) (hs : s.size ≤ maxLen) (hk0 : k0 ≤ s.size) :
    Calls Try.prog 21 #[.string s, .int .i64 k0, .func (.func 22) #[] #[]] w fun e w' => e = .returned (.int .i64 ((k0 + runL wordC (s.data.toList.drop k0) : Nat) : Int)) ∧ w' = w := by
  unfold maxLen at hs
  have HP := Lib.hid wordly_any
  obtain ⟨R, hR⟩ : ∃ R, k0 + runL wordC (s.data.toList.drop k0) = R := ⟨_, rfl⟩
  rw [hR]
  have HRR := Lib.hid hR
  clear hR
  go_enter Try.func21, Try.ntmps21
  go_wp2
  go_loop [1] (fun i => ∃ k : Nat, k ≤ s.size ∧ i = .int .i64 k ∧ Hid (k + runL wordC (s.data.toList.drop k) = R)) (fun i => s.size - (intOf i).toNat)
  case atStart => exact ⟨k0, hk0, rfl, HRR.out⟩
  case round =>
    obtain ⟨k, hk, rfl, hq⟩ := hrel
    by_cases hlt : k < s.size
    · have hd := hq.out
      rw [drop_at s k hlt] at hd
      cases hpc : wordC s[k] with
      | true =>
        rw [runL_yes hpc] at hd
        have HQ := Lib.hid (show k + 1 + runL wordC (s.data.toList.drop (k + 1)) = R by omega)
        have HC := Lib.hid (HP.out s[k])
        rw [hpc] at HC
        clear hd hq hpc
        go_wp2_with fail
        refine (HC.out _).mono ?_
        rintro e w1 ⟨rfl, rfl⟩
        go_wp2
        go_round
        case rel => exact ⟨k + 1, hlt, by go_num, HQ.out⟩
        case measure => simp [intOf]; omega
      | false =>
        rw [runL_no hpc] at hd
        have HC := Lib.hid (HP.out s[k])
        rw [hpc] at HC
        obtain rfl : k = R := by omega
        clear hd hq hpc
        go_wp2_with fail
        refine (HC.out _).mono ?_
        rintro e w1 ⟨rfl, rfl⟩
        go_wp2
        go_ret
        exact ⟨rfl, rfl⟩
    · have hd := hq.out
      rw [List.drop_of_length_le (by simp; omega)] at hd
      obtain rfl : k = R := by simpa [runL] using hd
      clear hd hq
      go_wp2
      go_ret
      exact ⟨rfl, rfl⟩
/-- The place behind the longest row of bytes of a sort. -/
theorem runD_any (s : ByteArray) (k0 : Nat) (w : World) (hs : s.size ≤ maxLen) (hk0 : k0 ≤ s.size) :
    Calls Try.prog 21 #[.string s, .int .i64 k0, .func (.func 25) #[] #[]] w fun e w' => e = .returned (.int .i64 ((k0 + runL isd (s.data.toList.drop k0) : Nat) : Int)) ∧ w' = w := by
  unfold maxLen at hs
  have HP := Lib.hid digit_any
  obtain ⟨R, hR⟩ : ∃ R, k0 + runL isd (s.data.toList.drop k0) = R := ⟨_, rfl⟩
  rw [hR]
  have HRR := Lib.hid hR
  clear hR
  go_enter Try.func21, Try.ntmps21
  go_wp2
  go_loop [1] (fun i => ∃ k : Nat, k ≤ s.size ∧ i = .int .i64 k ∧ Hid (k + runL isd (s.data.toList.drop k) = R)) (fun i => s.size - (intOf i).toNat)
  case atStart => exact ⟨k0, hk0, rfl, HRR.out⟩
  case round =>
    obtain ⟨k, hk, rfl, hq⟩ := hrel
    by_cases hlt : k < s.size
    · have hd := hq.out
      rw [drop_at s k hlt] at hd
      cases hpc : isd s[k] with
      | true =>
        rw [runL_yes hpc] at hd
        have HQ := Lib.hid (show k + 1 + runL isd (s.data.toList.drop (k + 1)) = R by omega)
        have HC := Lib.hid (HP.out s[k])
        rw [hpc] at HC
        clear hd hq hpc
        go_wp2_with fail
        refine (HC.out _).mono ?_
        rintro e w1 ⟨rfl, rfl⟩
        go_wp2
        go_round
        case rel => exact ⟨k + 1, hlt, by go_num, HQ.out⟩
        case measure => simp [intOf]; omega
      | false =>
        rw [runL_no hpc] at hd
        have HC := Lib.hid (HP.out s[k])
        rw [hpc] at HC
        obtain rfl : k = R := by omega
        clear hd hq hpc
        go_wp2_with fail
        refine (HC.out _).mono ?_
        rintro e w1 ⟨rfl, rfl⟩
        go_wp2
        go_ret
        exact ⟨rfl, rfl⟩
    · have hd := hq.out
      rw [List.drop_of_length_le (by simp; omega)] at hd
      obtain rfl : k = R := by simpa [runL] using hd
      clear hd hq
      go_wp2
      go_ret
      exact ⟨rfl, rfl⟩
/-- The place behind the longest row of bytes of a sort. -/
theorem runN_any (s : ByteArray) (k0 : Nat) (w : World) (hs : s.size ≤ maxLen) (hk0 : k0 ≤ s.size) :
    Calls Try.prog 21 #[.string s, .int .i64 k0, .func (.func 24) #[] #[]] w fun e w' => e = .returned (.int .i64 ((k0 + runL lineC (s.data.toList.drop k0) : Nat) : Int)) ∧ w' = w := by
  unfold maxLen at hs
  have HP := Lib.hid inLine_any
  obtain ⟨R, hR⟩ : ∃ R, k0 + runL lineC (s.data.toList.drop k0) = R := ⟨_, rfl⟩
  rw [hR]
  have HRR := Lib.hid hR
  clear hR
  go_enter Try.func21, Try.ntmps21
  go_wp2
  go_loop [1] (fun i => ∃ k : Nat, k ≤ s.size ∧ i = .int .i64 k ∧ Hid (k + runL lineC (s.data.toList.drop k) = R)) (fun i => s.size - (intOf i).toNat)
  case atStart => exact ⟨k0, hk0, rfl, HRR.out⟩
  case round =>
    obtain ⟨k, hk, rfl, hq⟩ := hrel
    by_cases hlt : k < s.size
    · have hd := hq.out
      rw [drop_at s k hlt] at hd
      cases hpc : lineC s[k] with
      | true =>
        rw [runL_yes hpc] at hd
        have HQ := Lib.hid (show k + 1 + runL lineC (s.data.toList.drop (k + 1)) = R by omega)
        have HC := Lib.hid (HP.out s[k])
        rw [hpc] at HC
        clear hd hq hpc
        go_wp2_with fail
        refine (HC.out _).mono ?_
        rintro e w1 ⟨rfl, rfl⟩
        go_wp2
        go_round
        case rel => exact ⟨k + 1, hlt, by go_num, HQ.out⟩
        case measure => simp [intOf]; omega
      | false =>
        rw [runL_no hpc] at hd
        have HC := Lib.hid (HP.out s[k])
        rw [hpc] at HC
        obtain rfl : k = R := by omega
        clear hd hq hpc
        go_wp2_with fail
        refine (HC.out _).mono ?_
        rintro e w1 ⟨rfl, rfl⟩
        go_wp2
        go_ret
        exact ⟨rfl, rfl⟩
    · have hd := hq.out
      rw [List.drop_of_length_le (by simp; omega)] at hd
      obtain rfl : k = R := by simpa [runL] using hd
      clear hd hq
      go_wp2
      go_ret
      exact ⟨rfl, rfl⟩
theorem runL_at (p : UInt8 → Bool) (s : ByteArray) (k : Nat) (hk : k ≤ s.size) : k + runL p (s.data.toList.drop k) ≤ s.size := by
  have := runL_le p (s.data.toList.drop k)
  rw [List.length_drop] at this
  have h2 : s.data.toList.length = s.size := by simp
  omega

theorem skip_any (s : ByteArray) (k0 : Nat) (w : World) (hs : s.size ≤ maxLen) (hk0 : k0 ≤ s.size) :
    Calls Try.prog 15 #[.string s, .int .i64 k0] w fun e w' => e = .returned (.int .i64 ((k0 + skipL (s.data.toList.drop k0) : Nat) : Int)) ∧ w' = w := by
  have HRUN := Lib.hid fun k w (h : k ≤ s.size) => runN_any s k w hs h
  unfold maxLen at hs
  obtain ⟨R, hR⟩ : ∃ R, k0 + skipL (s.data.toList.drop k0) = R := ⟨_, rfl⟩
  rw [hR]
  have HRR := Lib.hid hR
  clear hR
  go_enter Try.func15, Try.ntmps15
  go_wp2
  go_loop [1] (fun i => ∃ k : Nat, k ≤ s.size ∧ i = .int .i64 k ∧ Hid (k + skipL (s.data.toList.drop k) = R)) (fun i => s.size - (intOf i).toNat)
  case atStart => exact ⟨k0, hk0, rfl, HRR.out⟩
  case round =>
    obtain ⟨k, hk, rfl, hq⟩ := hrel
    by_cases hlt : k < s.size
    · have hd := hq.out
      rw [drop_at s k hlt] at hd
      have HC := Lib.hid (blank_any s[k])
      cases hb : blankC s[k] with
      | true =>
        rw [skipL_blank hb] at hd
        have HQ := Lib.hid (show k + 1 + skipL (s.data.toList.drop (k + 1)) = R by omega)
        rw [hb] at HC
        clear hd hq hb
        go_wp2_with fail
        refine (HC.out _).mono ?_
        rintro e w1 ⟨rfl, rfl⟩
        go_wp2
        go_round
        case rel => exact ⟨k + 1, hlt, by go_num, HQ.out⟩
        case measure => simp [intOf]; omega
      | false =>
        rw [hb] at HC
        by_cases h59 : s[k].toNat = 59
        · rw [skipL_note hb h59] at hd
          have hline : lineC s[k] = true := by unfold lineC; rw [h59]; rfl
          have hrl : runL lineC (s.data.toList.drop k) = runL lineC (s.data.toList.drop (k + 1)) + 1 := by rw [drop_at s k hlt, runL_yes hline]
          have hle := runL_at lineC s k hk
          rw [hrl] at hle
          have HQ := Lib.hid (show k + (runL lineC (s.data.toList.drop (k + 1)) + 1) + skipL (s.data.toList.drop (k + (runL lineC (s.data.toList.drop (k + 1)) + 1))) = R by
            rw [List.drop_drop] at hd
            rw [show k + (runL lineC (s.data.toList.drop (k + 1)) + 1) = k + 1 + runL lineC (s.data.toList.drop (k + 1)) by omega]
            omega)
          have HR2 := Lib.hid fun w => HRUN.out k w hk
          rw [hrl] at HR2
          generalize runL lineC (s.data.toList.drop (k + 1)) = m at HQ HR2 hle
          have e59 : ((s[k].toNat : Int) == 59) = true := by rw [h59]; rfl
          clear hd hq hb hline hrl h59
          go_wp2_with fail
          refine (HC.out _).mono ?_
          rintro e w1 ⟨rfl, rfl⟩
          go_wp2_with fail
          refine (HR2.out _).mono ?_
          rintro e w1 ⟨rfl, rfl⟩
          go_wp2
          go_round
          case rel => exact ⟨k + (m + 1), hle, rfl, HQ.out⟩
          case measure => simp [intOf]; omega
        · rw [skipL_stop hb h59] at hd
          obtain rfl : k = R := by omega
          have e59 : ((s[k].toNat : Int) == 59) = false := by
            have : ¬ (s[k].toNat : Int) = 59 := by omega
            simpa using this
          clear hd hq hb h59
          go_wp2_with fail
          refine (HC.out _).mono ?_
          rintro e w1 ⟨rfl, rfl⟩
          go_wp2
          go_ret
          exact ⟨rfl, rfl⟩
    · have hd := hq.out
      rw [List.drop_of_length_le (by simp; omega), skipL_nil] at hd
      obtain rfl : k = R := hd
      clear hq
      go_wp2
      go_ret
      exact ⟨rfl, rfl⟩
end Go.Proofs.Ytmflomepdmmodaa
