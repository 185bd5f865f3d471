/-
  lex: next.
-/
import Derived.Test.YtmflomepdmmodaaLexC
import Derived.Laws.Strings2
namespace Go.Proofs.Ytmflomepdmmodaa
open Go.RowKit

/-- What next hands back at a place. -/
def nextV (l : List UInt8) (at_ : Nat) : Value := match nextL l with
  | none => .tuple #[.int .i64 0, .int .i64 0]
  | some (k, n) => .tuple #[.int .i64 k, .int .i64 ((at_ + n : Nat) : Int)]
theorem nextV_none {l : List UInt8} {a : Nat} (h : nextL l = none) : nextV l a = .tuple #[.int .i64 0, .int .i64 0] := by unfold nextV; rw [h]
theorem nextV_some {l : List UInt8} {a k n : Nat} (h : nextL l = some (k, n)) : nextV l a = .tuple #[.int .i64 k, .int .i64 ((a + n : Nat) : Int)] := by unfold nextV; rw [h]
theorem next_open {c : UInt8} {r : List UInt8} (h : c.toNat = 40) : nextL (c :: r) = some (1, 1) := by rw [nextL, if_pos h]
theorem next_close {c : UInt8} {r : List UInt8} (h : c.toNat = 41) : nextL (c :: r) = some (2, 1) := by rw [nextL, if_neg (by omega), if_pos h]
theorem next_long {c : UInt8} {r : List UInt8} (h1 : c.toNat ≠ 40) (h2 : c.toNat ≠ 41) (h3 : letterC c = true) (h4 : 20 < runL wordC (c :: r)) : nextL (c :: r) = none := by rw [nextL, if_neg h1, if_neg h2, if_pos h3, if_pos h4]
theorem next_word {c : UInt8} {r : List UInt8} (h1 : c.toNat ≠ 40) (h2 : c.toNat ≠ 41) (h3 : letterC c = true) (h4 : ¬ 20 < runL wordC (c :: r)) : nextL (c :: r) = some (3, runL wordC (c :: r)) := by rw [nextL, if_neg h1, if_neg h2, if_pos h3, if_neg h4]
theorem next_bad {c : UInt8} {r : List UInt8} (h1 : c.toNat ≠ 40) (h2 : c.toNat ≠ 41) (h3 : letterC c = false) (h4 : isd c = true) (h5 : getB ((c :: r).take (runL isd (c :: r))) = none ∨ ((((c :: r).drop (runL isd (c :: r))).head?.map letterC).getD false) = true) : nextL (c :: r) = none := by rw [nextL, if_neg h1, if_neg h2, if_neg (by rw [h3]; decide), if_pos h4, if_pos h5]
theorem next_num {c : UInt8} {r : List UInt8} (h1 : c.toNat ≠ 40) (h2 : c.toNat ≠ 41) (h3 : letterC c = false) (h4 : isd c = true) (h5 : ¬ (getB ((c :: r).take (runL isd (c :: r))) = none ∨ ((((c :: r).drop (runL isd (c :: r))).head?.map letterC).getD false) = true)) : nextL (c :: r) = some (4, runL isd (c :: r)) := by rw [nextL, if_neg h1, if_neg h2, if_neg (by rw [h3]; decide), if_pos h4, if_neg h5]
theorem next_other {c : UInt8} {r : List UInt8} (h1 : c.toNat ≠ 40) (h2 : c.toNat ≠ 41) (h3 : letterC c = false) (h4 : isd c = false) : nextL (c :: r) = none := by rw [nextL, if_neg h1, if_neg h2, if_neg (by rw [h3]; decide), if_neg (by rw [h4]; decide)]
theorem head_drop (s : ByteArray) (k n : Nat) (h : k + n < s.size) : ((s.data.toList.drop k).drop n).head? = some s[k + n] := by
  rw [List.drop_drop, drop_at s (k + n) h]; rfl
theorem head_none (s : ByteArray) (k n : Nat) (h : ¬ k + n < s.size) : ((s.data.toList.drop k).drop n).head? = none := by
  rw [List.drop_drop, List.drop_of_length_le (by simp; omega)]; rfl

theorem slice_at {P : Program} {t : TypeId} (w : World) (s : ByteArray) (k n : Nat) (ht : P.underlying t = some .string) (h : k + n ≤ s.size) :
    (Instr.slice t (.string s) (some (.int .i64 (k : Int))) (some (.int .i64 ((k : Int) + (n : Int)))) none).run P w = .ok (.string (s.extract k (k + n))) w := by
  rw [run_slice_string w t s .i64 .i64 _ _ ht (by omega) (by omega) (by omega)]
  rfl

set_option maxHeartbeats 2000000 in
theorem next_any (s : ByteArray) (k : Nat) (w : World) (hs : s.size ≤ maxLen) (hlt : k < s.size) :
    Calls Try.prog 16 #[.string s, .int .i64 k] w fun e w' => e = .returned (nextV (s.data.toList.drop k) k) ∧ w' = w := by
  have HRW := Lib.hid fun w => runW_any s k w hs (Nat.le_of_lt hlt)
  have HRD := Lib.hid fun w => runD_any s k w hs (Nat.le_of_lt hlt)
  have HLE := Lib.hid (letter_any)
  have HGET := Lib.hid fun t w (h : t.size ≤ maxLen) => get_any t w h
  have hrw := runL_at wordC s k (Nat.le_of_lt hlt)
  have hrd := runL_at isd s k (Nat.le_of_lt hlt)
  have hmax := hs
  unfold maxLen at hs
  have hda := drop_at s k hlt
  have HDA := Lib.hid hda
  have HL := Lib.hid (letter_any s[k])
  have HD := Lib.hid (digit_any s[k])
  clear hda
  by_cases c40 : s[k].toNat = 40
  · have HV := Lib.hid (nextV_some (a := k) (show nextL (s.data.toList.drop k) = some (1, 1) by rw [HDA.out]; exact next_open c40))
    have b40 : ((s[k].toNat : Int) == 40) = true := (u8_eq (n := 40)).trans (by rw [c40]; rfl)
    clear c40 hrw hrd hmax
    go_enter Try.func16, Try.ntmps16
    go_wp2
    go_ret2
    exact ⟨by rw [HV.out]; rfl, rfl⟩
  have b40 : ((s[k].toNat : Int) == 40) = false := (u8_eq (n := 40)).trans (by exact beq_eq_false_iff_ne.2 c40)
  by_cases c41 : s[k].toNat = 41
  · have HV := Lib.hid (nextV_some (a := k) (show nextL (s.data.toList.drop k) = some (2, 1) by rw [HDA.out]; exact next_close c41))
    have b41 : ((s[k].toNat : Int) == 41) = true := (u8_eq (n := 41)).trans (by rw [c41]; rfl)
    clear c40 c41 hrw hrd hmax
    go_enter Try.func16, Try.ntmps16
    go_wp2
    go_ret2
    exact ⟨by rw [HV.out]; rfl, rfl⟩
  have b41 : ((s[k].toNat : Int) == 41) = false := (u8_eq (n := 41)).trans (by exact beq_eq_false_iff_ne.2 c41)
  cases hl : letterC s[k] with
  | true =>
    rw [hl] at HL
    obtain ⟨n, hn⟩ : ∃ n, runL wordC (s.data.toList.drop k) = n := ⟨_, rfl⟩
    have hsub : IntKind.i64.wrap (((k + n : Nat) : Int) - (k : Int)) = (n : Int) := by rw [show ((k + n : Nat) : Int) - (k : Int) = n by omega]; exact IntWalk.i64_in _ (by rw [hn] at hrw; omega)
    by_cases h20 : 20 < n
    · have HV := Lib.hid (nextV_none (a := k) (show nextL (s.data.toList.drop k) = none by rw [HDA.out]; exact next_long c40 c41 hl (by rw [← HDA.out, hn]; exact h20)))
      have h20' : 20 < (n : Int) := by omega
      rw [hn] at HRW hrw
      clear c40 c41 hl hn hrd hmax h20
      go_enter Try.func16, Try.ntmps16
      go_wp2_with fail
      refine (HL.out _).mono ?_
      rintro e w1 ⟨rfl, rfl⟩
      go_wp2_with fail
      refine (HRW.out _).mono ?_
      rintro e w1 ⟨rfl, rfl⟩
      go_wp2
      go_ret2
      exact ⟨by rw [HV.out]; rfl, rfl⟩
    · have HV := Lib.hid (nextV_some (a := k) (show nextL (s.data.toList.drop k) = some (3, n) by rw [HDA.out, ← hn, HDA.out]; exact next_word c40 c41 hl (by rw [← HDA.out, hn]; exact h20)))
      have h20' : ¬ 20 < (n : Int) := by omega
      rw [hn] at HRW hrw
      clear c40 c41 hl hn hrd hmax h20
      go_enter Try.func16, Try.ntmps16
      go_wp2_with fail
      refine (HL.out _).mono ?_
      rintro e w1 ⟨rfl, rfl⟩
      go_wp2_with fail
      refine (HRW.out _).mono ?_
      rintro e w1 ⟨rfl, rfl⟩
      go_wp2
      go_ret2
      exact ⟨by rw [HV.out]; rfl, rfl⟩
  | false =>
  rw [hl] at HL
  cases hd : isd s[k] with
  | false =>
    rw [hd] at HD
    have HV := Lib.hid (nextV_none (a := k) (show nextL (s.data.toList.drop k) = none by rw [HDA.out]; exact next_other c40 c41 hl hd))
    clear c40 c41 hl hd hrd hrw hmax
    go_enter Try.func16, Try.ntmps16
    go_wp2_with fail
    refine (HL.out _).mono ?_
    rintro e w1 ⟨rfl, rfl⟩
    go_wp2_with fail
    refine (HD.out _).mono ?_
    rintro e w1 ⟨rfl, rfl⟩
    go_wp2
    go_ret2
    exact ⟨by rw [HV.out]; rfl, rfl⟩
  | true =>
    rw [hd] at HD
    obtain ⟨n, hn⟩ : ∃ n, runL isd (s.data.toList.drop k) = n := ⟨_, rfl⟩
    rw [hn] at HRD hrd
    obtain ⟨p, hp⟩ : ∃ p, s.extract k (k + n) = p := ⟨_, rfl⟩
    have hsli : ∀ w', (Instr.slice 9 (.string s) (some (.int .i64 (k : Int))) (some (.int .i64 ((k : Int) + (n : Int)))) none).run Try.prog w' = .ok (.string p) w' := fun w' => by rw [← hp]; exact slice_at w' s k n rfl hrd
    have hpl : p.data.toList = (s.data.toList.drop k).take n := by rw [← hp]; exact (Lib.extract_data s k (k + n)).trans (by congr 1; omega)
    have hpm : p.size ≤ maxLen := by
      have h1 : p.data.toList.length = p.size := by simp
      rw [hpl, List.length_take] at h1
      have : n ≤ s.size := by omega
      omega
    have HG := Lib.hid fun w => HGET.out p w hpm
    rw [hpl] at HG
    clear hp hpm hpl
    cases hg : getB ((s.data.toList.drop k).take n) with
    | none =>
      have HV := Lib.hid (nextV_none (a := k) (show nextL (s.data.toList.drop k) = none by
        rw [HDA.out]; exact next_bad c40 c41 hl hd (by rw [← HDA.out, hn]; exact Or.inl hg)))
      rw [getV_none hg] at HG
      clear c40 c41 hl hd hn hg hrw hmax
      go_enter Try.func16, Try.ntmps16
      go_wp2_with fail
      refine (HL.out _).mono ?_
      rintro e w1 ⟨rfl, rfl⟩
      go_wp2_with fail
      refine (HD.out _).mono ?_
      rintro e w1 ⟨rfl, rfl⟩
      go_wp2_with fail
      refine (HRD.out _).mono ?_
      rintro e w1 ⟨rfl, rfl⟩
      go_wp2_with fail
      refine (HG.out _).mono ?_
      rintro e w1 ⟨rfl, rfl⟩
      go_wp2
      go_ret2
      exact ⟨by rw [HV.out]; rfl, rfl⟩
    | some v =>
      rw [getV_some hg] at HG
      by_cases he : k + n < s.size
      · have hhd := head_drop s k n he
        have HL2 := Lib.hid (letter_any s[k + n])
        cases hl2 : letterC s[k + n] with
        | true =>
          have HV := Lib.hid (nextV_none (a := k) (show nextL (s.data.toList.drop k) = none by
            rw [HDA.out]; exact next_bad c40 c41 hl hd (by rw [← HDA.out, hn]; exact Or.inr (by rw [hhd]; exact hl2))))
          rw [hl2] at HL2
          clear c40 c41 hl hd hn hg hrw hmax hhd hl2
          go_enter Try.func16, Try.ntmps16
          go_wp2_with fail
          refine (HL.out _).mono ?_
          rintro e w1 ⟨rfl, rfl⟩
          go_wp2_with fail
          refine (HD.out _).mono ?_
          rintro e w1 ⟨rfl, rfl⟩
          go_wp2_with fail
          refine (HRD.out _).mono ?_
          rintro e w1 ⟨rfl, rfl⟩
          go_wp2_with fail
          refine (HG.out _).mono ?_
          rintro e w1 ⟨rfl, rfl⟩
          go_wp2_with fail
          refine (HL2.out _).mono ?_
          rintro e w1 ⟨rfl, rfl⟩
          go_wp2
          go_ret2
          exact ⟨by rw [HV.out]; rfl, rfl⟩
        | false =>
          have HV := Lib.hid (nextV_some (a := k) (show nextL (s.data.toList.drop k) = some (4, n) by
            have h0 := next_num c40 c41 hl hd (r := s.data.toList.drop (k + 1)) (by rw [← HDA.out, hn, hhd, hg]; rintro (h | h); cases h; rw [show ((some s[k + n]).map letterC).getD false = letterC s[k + n] from rfl, hl2] at h; cases h)
            rw [← HDA.out, hn] at h0; exact h0))
          rw [hl2] at HL2
          clear c40 c41 hl hd hn hg hrw hmax hhd hl2
          go_enter Try.func16, Try.ntmps16
          go_wp2_with fail
          refine (HL.out _).mono ?_
          rintro e w1 ⟨rfl, rfl⟩
          go_wp2_with fail
          refine (HD.out _).mono ?_
          rintro e w1 ⟨rfl, rfl⟩
          go_wp2_with fail
          refine (HRD.out _).mono ?_
          rintro e w1 ⟨rfl, rfl⟩
          go_wp2_with fail
          refine (HG.out _).mono ?_
          rintro e w1 ⟨rfl, rfl⟩
          go_wp2_with fail
          refine (HL2.out _).mono ?_
          rintro e w1 ⟨rfl, rfl⟩
          go_wp2
          go_ret2
          exact ⟨by rw [HV.out]; rfl, rfl⟩
      · have hhd := head_none s k n he
        have HV := Lib.hid (nextV_some (a := k) (show nextL (s.data.toList.drop k) = some (4, n) by
          have h0 := next_num c40 c41 hl hd (r := s.data.toList.drop (k + 1)) (by rw [← HDA.out, hn, hhd, hg]; rintro (h | h); cases h; cases h)
          rw [← HDA.out, hn] at h0; exact h0))
        clear c40 c41 hl hd hn hg hrw hmax hhd
        go_enter Try.func16, Try.ntmps16
        go_wp2_with fail
        refine (HL.out _).mono ?_
        rintro e w1 ⟨rfl, rfl⟩
        go_wp2_with fail
        refine (HD.out _).mono ?_
        rintro e w1 ⟨rfl, rfl⟩
        go_wp2_with fail
        refine (HRD.out _).mono ?_
        rintro e w1 ⟨rfl, rfl⟩
        go_wp2_with fail
        refine (HG.out _).mono ?_
        rintro e w1 ⟨rfl, rfl⟩
        go_wp2
        go_ret2
        exact ⟨by rw [HV.out]; rfl, rfl⟩
end Go.Proofs.Ytmflomepdmmodaa
