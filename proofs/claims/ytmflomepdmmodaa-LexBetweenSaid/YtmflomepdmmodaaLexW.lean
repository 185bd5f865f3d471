/-
  lex: Name, and the page's.
-/
import Derived.Test.YtmflomepdmmodaaLexM
namespace Go.Proofs.Ytmflomepdmmodaa
open Go.RowKit

def nameL (l : List UInt8) : Bool := ((l.head?.map letterC).getD false) && (runL wordC l == l.length) && decide (l.length ≤ 20)

set_option maxHeartbeats 1000000 in
theorem name_any (s : ByteArray) (w : World) (hs : s.size ≤ 1000000) :
    Calls Try.prog 12 #[.string s] w fun e w' => e = .returned (.bool (nameL s.data.toList)) ∧ w' = w := by
  have hmax : s.size ≤ maxLen := by unfold maxLen; omega
  have hsl : s.data.toList.length = s.size := by simp
  by_cases h0 : s.size = 0
  · have hl : s.data.toList = [] := List.eq_nil_of_length_eq_zero (by omega)
    have hl2 : s.toList = [] := by rw [ByteArray.toList_eq]; exact hl
    have HV := Lib.hid (show nameL s.data.toList = false by rw [hl]; rfl)
    clear hl hsl
    go_enter Try.func12, Try.ntmps12
    go_wp2
    go_ret
    exact ⟨ret_bool HV.out.symm, rfl⟩
  have hne : s.data.toList ≠ [] := fun h => by rw [h] at hsl; simp at hsl; omega
  have hne2 : (!s.toList.isEmpty) = true := by rw [ByteArray.toList_eq]; simpa using hne
  have hne3 : ¬ s.toList = [] := by rw [ByteArray.toList_eq]; exact hne
  have hne4 : s.toList.isEmpty = false := by simpa using hne2
  have h0' : 0 < s.size := by omega
  have hh := head_at s h0'
  have HL := Lib.hid (letter_any s[0])
  have HR := Lib.hid (fun w => runW_any s 0 w hmax (Nat.zero_le _))
  obtain ⟨n, hn⟩ : ∃ n, runL wordC s.data.toList = n := ⟨_, rfl⟩
  rw [List.drop_zero, Nat.zero_add, hn] at HR
  cases hc : letterC s[0] with
  | false =>
    have HV := Lib.hid (show nameL s.data.toList = false by unfold nameL; rw [hh, show ((some s[0]).map letterC).getD false = letterC s[0] from rfl, hc]; rfl)
    rw [hc] at HL
    clear hh hc hn hsl hne hmax
    go_enter Try.func12, Try.ntmps12
    go_wp2_with fail
    refine (HL.out _).mono ?_
    rintro e w1 ⟨rfl, rfl⟩
    go_wp2
    go_ret
    exact ⟨ret_bool HV.out.symm, rfl⟩
  | true =>
    have HV := Lib.hid (show nameL s.data.toList = ((n == s.size) && decide (s.size ≤ 20)) by unfold nameL; rw [hh, show ((some s[0]).map letterC).getD false = letterC s[0] from rfl, hc, hn, hsl]; rfl)
    rw [hc] at HL
    clear hh hc hn hsl hne hmax
    by_cases e1 : n = s.size
    · subst e1
      by_cases e2 : s.size ≤ 20
      · have e2' : ((s.size : Int)) ≤ 20 := by omega
        have HV2 := Lib.hid (HV.out.trans (by simp [e2]) : nameL s.data.toList = true)
        go_enter Try.func12, Try.ntmps12
        go_wp2_with fail
        refine (HL.out _).mono ?_
        rintro e w1 ⟨rfl, rfl⟩
        go_wp2_with fail
        refine (HR.out _).mono ?_
        rintro e w1 ⟨rfl, rfl⟩
        go_wp2
        go_ret
        exact ⟨ret_bool HV2.out.symm, rfl⟩
      · have e2' : ¬ ((s.size : Int)) ≤ 20 := by omega
        have HV2 := Lib.hid (HV.out.trans (by simp [e2]) : nameL s.data.toList = false)
        go_enter Try.func12, Try.ntmps12
        go_wp2_with fail
        refine (HL.out _).mono ?_
        rintro e w1 ⟨rfl, rfl⟩
        go_wp2_with fail
        refine (HR.out _).mono ?_
        rintro e w1 ⟨rfl, rfl⟩
        go_wp2
        go_ret
        exact ⟨ret_bool (by rw [HV2.out]; exact decide_eq_false (by omega)), rfl⟩
    · have e1' : ((n : Int) == (s.size : Int)) = false := by simp; omega
      have HV2 := Lib.hid (HV.out.trans (by simp [e1]) : nameL s.data.toList = false)
      go_enter Try.func12, Try.ntmps12
      go_wp2_with fail
      refine (HL.out _).mono ?_
      rintro e w1 ⟨rfl, rfl⟩
      go_wp2_with fail
      refine (HR.out _).mono ?_
      rintro e w1 ⟨rfl, rfl⟩
      go_wp2
      go_ret
      exact ⟨ret_bool HV2.out.symm, rfl⟩

theorem runL_full {p : UInt8 → Bool} : ∀ {l : List UInt8}, runL p l = l.length ↔ l.all p = true
  | [] => by simp [runL]
  | c :: r => by
    have := runL_full (p := p) (l := r)
    have hle := runL_le p r
    by_cases h : p c = true
    · rw [runL_yes h]; simp [h]; simpa using this
    · have h' : p c = false := by simpa using h
      rw [runL_no h']; simp [h']
theorem nameL_eq (l : List UInt8) : nameL l = ((l.head?.map letterC).getD false && l.all wordC && decide (l.length ≤ 20)) := by
  unfold nameL
  rw [show (runL wordC l == l.length) = l.all wordC from by
    by_cases h : l.all wordC = true
    · rw [h]; simpa using runL_full.2 h
    · have h2 : ¬ runL wordC l = l.length := fun e => h (runL_full.1 e)
      rw [beq_eq_false_iff_ne.2 h2]; simpa using (Bool.eq_false_iff.2 h).symm]

set_option maxHeartbeats 1000000 in
theorem pname_any (s : ByteArray) (w : World) (hs : s.size ≤ 1000000) :
    Calls Try.prog 13 #[.string s] w fun e w' => e = .returned (.bool (nameL s.data.toList)) ∧ w' = w := by
  have hmax : s.size ≤ maxLen := by unfold maxLen; omega
  have hsl : s.data.toList.length = s.size := by simp
  by_cases h0 : s.size = 0
  · have hl : s.data.toList = [] := List.eq_nil_of_length_eq_zero (by omega)
    have HV := Lib.hid (show nameL s.data.toList = false by rw [hl]; rfl)
    clear hl hsl
    go_enter Try.func13, Try.ntmps13
    go_wp2
    go_ret
    exact ⟨ret_bool HV.out.symm, rfl⟩
  have h0' : 0 < s.size := by omega
  have h0z : ((s.size : Int) == 0) = false := beq_eq_false_iff_ne.2 (by omega)
  have hh := head_at s h0'
  by_cases h20 : 20 < s.size
  · have h20' : 20 < (s.size : Int) := by omega
    have HV := Lib.hid (show nameL s.data.toList = false by rw [nameL_eq, hsl, show decide (s.size ≤ 20) = false from decide_eq_false (by omega), Bool.and_false])
    clear hh hsl
    go_enter Try.func13, Try.ntmps13
    go_wp2
    go_ret
    exact ⟨ret_bool HV.out.symm, rfl⟩
  have h20' : ¬ 20 < (s.size : Int) := by omega
  have HL := Lib.hid (pletter_any s[0])
  cases hc : letterC s[0] with
  | false =>
    have HV := Lib.hid (show nameL s.data.toList = false by unfold nameL; rw [hh, show ((some s[0]).map letterC).getD false = letterC s[0] from rfl, hc]; rfl)
    rw [hc] at HL
    clear hh hc hsl hmax
    go_enter Try.func13, Try.ntmps13
    go_wp2_with fail
    refine (HL.out _).mono ?_
    rintro e w1 ⟨rfl, rfl⟩
    go_wp2
    go_ret
    exact ⟨ret_bool HV.out.symm, rfl⟩
  | true =>
    have HV := Lib.hid (show nameL s.data.toList = s.data.toList.all wordC by rw [nameL_eq, hh, show ((some s[0]).map letterC).getD false = letterC s[0] from rfl, hc, hsl, show decide (s.size ≤ 20) = true from decide_eq_true (by omega), Bool.and_true, Bool.true_and])
    rw [hc] at HL
    have HPL := Lib.hid pletter_any
    have HPD := Lib.hid pdigit_any
    have HSL := Lib.hid hsl
    clear hh hc hsl hmax
    go_enter Try.func13, Try.ntmps13
    go_wp2_with fail
    refine (HL.out _).mono ?_
    rintro e w1 ⟨rfl, rfl⟩
    go_wp2_with fail
    go_loop [3] (fun i => ∃ k : Nat, k ≤ s.size ∧ i = .int .i64 k ∧ Hid (nameL s.data.toList = (s.data.toList.drop k).all wordC)) (fun i => s.size - (intOf i).toNat)
    case atStart => exact ⟨0, Nat.zero_le _, rfl, HV.out⟩
    case round =>
      obtain ⟨k, hk, rfl, hv⟩ := hrel
      by_cases hlt : k < s.size
      · have hd := hv.out
        rw [drop_at s k hlt, List.all_cons] at hd
        have HCL := Lib.hid (HPL.out s[k])
        have HCD := Lib.hid (HPD.out s[k])
        cases c1 : letterC s[k] with
        | true =>
          have HN := Lib.hid (show nameL s.data.toList = (s.data.toList.drop (k + 1)).all wordC by rw [hd]; unfold wordC; rw [c1]; rfl)
          rw [c1] at HCL
          clear hd hv c1
          go_wp2_with fail
          refine (HCL.out _).mono ?_
          rintro e w1 ⟨rfl, rfl⟩
          go_wp2
          go_round
          case rel => exact ⟨k + 1, hlt, by go_num, HN.out⟩
          case measure => simp [intOf]; omega
        | false =>
          rw [c1] at HCL
          cases c2 : isd s[k] with
          | true =>
            have HN := Lib.hid (show nameL s.data.toList = (s.data.toList.drop (k + 1)).all wordC by rw [hd]; unfold wordC; rw [c1, c2]; rfl)
            rw [c2] at HCD
            clear hd hv c1 c2
            go_wp2_with fail
            refine (HCL.out _).mono ?_
            rintro e w1 ⟨rfl, rfl⟩
            go_wp2_with fail
            refine (HCD.out _).mono ?_
            rintro e w1 ⟨rfl, rfl⟩
            go_wp2
            go_round
            case rel => exact ⟨k + 1, hlt, by go_num, HN.out⟩
            case measure => simp [intOf]; omega
          | false =>
            have HN := Lib.hid (show nameL s.data.toList = false by rw [hd]; unfold wordC; rw [c1, c2]; rfl)
            rw [c2] at HCD
            clear hd hv c1 c2
            go_wp2_with fail
            refine (HCL.out _).mono ?_
            rintro e w1 ⟨rfl, rfl⟩
            go_wp2_with fail
            refine (HCD.out _).mono ?_
            rintro e w1 ⟨rfl, rfl⟩
            go_wp2
            go_ret
            exact ⟨ret_bool HN.out.symm, rfl⟩
      · have hd := hv.out
        rw [List.drop_of_length_le (by rw [HSL.out]; omega)] at hd
        have HN := Lib.hid (show nameL s.data.toList = true by rw [hd]; rfl)
        clear hd hv
        go_wp2
        go_ret
        exact ⟨ret_bool HN.out.symm, rfl⟩
end Go.Proofs.Ytmflomepdmmodaa
