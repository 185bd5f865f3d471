/-
  lex: what stands between tokens.
-/
import Derived.Test.YtmflomepdmmodaaWakes2
namespace Go.Proofs.Ytmflomepdmmodaa
open Go.RowKit

/-- Blanks and remarks alone? -/
def nothL (note : Bool) : List UInt8 → Bool
  | [] => true
  | c :: r => if c.toNat = 10 then nothL false r else if c.toNat = 59 then nothL true r else if note = false ∧ c.toNat ≠ 32 ∧ c.toNat ≠ 9 then false else nothL note r
theorem noth_line {n : Bool} {c : UInt8} {r : List UInt8} (h : c.toNat = 10) : nothL n (c :: r) = nothL false r := by rw [nothL, if_pos h]
theorem noth_note {n : Bool} {c : UInt8} {r : List UInt8} (h : c.toNat = 59) : nothL n (c :: r) = nothL true r := by rw [nothL, if_neg (by omega), if_pos h]
theorem noth_bad {c : UInt8} {r : List UInt8} (h1 : c.toNat ≠ 10) (h2 : c.toNat ≠ 59) (h3 : c.toNat ≠ 32) (h4 : c.toNat ≠ 9) : nothL false (c :: r) = false := by rw [nothL, if_neg h1, if_neg h2, if_pos ⟨rfl, h3, h4⟩]
theorem noth_in {c : UInt8} {r : List UInt8} (h1 : c.toNat ≠ 10) : nothL true (c :: r) = nothL true r := by
  by_cases h2 : c.toNat = 59
  · exact noth_note h2
  · rw [nothL, if_neg h1, if_neg h2, if_neg (by rintro ⟨h, -⟩; cases h)]
theorem noth_sp {n : Bool} {c : UInt8} {r : List UInt8} (h : c.toNat = 32 ∨ c.toNat = 9) : nothL n (c :: r) = nothL n r := by rw [nothL, if_neg (by omega), if_neg (by omega), if_neg (by rintro ⟨-, h1, h2⟩; omega)]
theorem noth_run : ∀ (r x : List UInt8), nothL true (r.take (runL lineC r) ++ x) = nothL true x
  | [], x => rfl
  | c :: r, x => by
    by_cases h : lineC c = true
    · rw [runL_yes h, List.take_succ_cons, List.cons_append, noth_in (by unfold lineC at h; simpa using h)]
      exact noth_run r x
    · rw [runL_no (by simpa using h)]; rfl
theorem run_stop (p : UInt8 → Bool) : ∀ l : List UInt8, l.drop (runL p l) = [] ∨ ∃ c r, l.drop (runL p l) = c :: r ∧ p c = false
  | [] => Or.inl rfl
  | c :: r => by
    by_cases h : p c = true
    · rw [runL_yes h]; exact run_stop p r
    · have h' : p c = false := by simpa using h
      rw [runL_no h']; exact Or.inr ⟨c, r, rfl, h'⟩
theorem noth_skip : ∀ n (l : List UInt8), l.length ≤ n → nothL false (l.take (skipL l)) = true := by
  intro n
  induction n with
  | zero => intro l h; have : l = [] := List.eq_nil_of_length_eq_zero (by omega); subst this; rw [skipL_nil]; rfl
  | succ n ih =>
    intro l h
    match l with
    | [] => rw [skipL_nil]; rfl
    | c :: r =>
      simp only [List.length_cons] at h
      cases hb : blankC c with
      | true =>
        rw [skipL_blank hb, List.take_succ_cons]
        have h1 : c.toNat = 32 ∨ c.toNat = 9 ∨ c.toNat = 10 := by
          unfold blankC at hb
          simp only [Bool.or_eq_true, beq_iff_eq] at hb
          omega
        by_cases h10 : c.toNat = 10
        · rw [noth_line h10]; exact ih r (by omega)
        · rw [noth_sp (by omega)]; exact ih r (by omega)
      | false =>
        by_cases h2 : c.toNat = 59
        · rw [skipL_note hb h2, show runL lineC r + 1 + skipL (r.drop (runL lineC r)) = (runL lineC r + skipL (r.drop (runL lineC r))) + 1 by omega, List.take_succ_cons, noth_note h2, List.take_add, noth_run]
          rcases run_stop lineC r with h3 | ⟨d, r3, h3, h4⟩
          · rw [h3, skipL_nil]; rfl
          · have h5 := h3
            rw [h3]
            have h6 : d.toNat = 10 := by unfold lineC at h4; simpa using h4
            have h7 : blankC d = true := by unfold blankC; rw [h6]; rfl
            rw [skipL_blank h7, List.take_succ_cons, noth_line h6]
            refine ih r3 ?_
            have := congrArg List.length h5
            rw [List.length_drop, List.length_cons] at this
            omega
        · rw [skipL_stop hb h2]; rfl

theorem lexL_inv {l : List UInt8} {p : Nat} {t : Tok} {r : List Tok} {o : Option Nat} (h : lexL l p = (t :: r, o)) : ∃ q k n, p + skipL (l.drop p) = q ∧ q < l.length ∧ nextL (l.drop q) = some (k, n) ∧ t = ⟨k, (l.drop q).take n, q⟩ ∧ lexL l (q + n) = (r, o) := by
  by_cases h1 : p + skipL (l.drop p) < l.length
  · cases hn : nextL (l.drop (p + skipL (l.drop p))) with
    | none => rw [lexL_fault rfl h1 hn] at h; cases h
    | some x =>
      obtain ⟨k, n⟩ := x
      rw [lexL_next rfl h1 hn] at h
      obtain ⟨h2, h3⟩ := Prod.mk.inj h
      obtain ⟨h4, h5⟩ := List.cons.inj h2
      exact ⟨_, k, n, rfl, h1, hn, h4.symm, Prod.ext h5 h3⟩
  · rw [lexL_end h1] at h; cases h
theorem lexL_inv_nil {l : List UInt8} {p : Nat} (h : lexL l p = ([], none)) : ¬ p + skipL (l.drop p) < l.length := by
  intro h1
  cases hn : nextL (l.drop (p + skipL (l.drop p))) with
  | none => rw [lexL_fault rfl h1 hn] at h; cases h
  | some x => obtain ⟨k, n⟩ := x; rw [lexL_next rfl h1 hn] at h; cases h

theorem lexL_count {l : List UInt8} {o : Option Nat} : ∀ (ts : List Tok) (p : Nat), lexL l p = (ts, o) → ts = [] ∨ ts.length + p ≤ l.length
  | [], _, _ => Or.inl rfl
  | t :: r, p, h => by
    obtain ⟨q, k, n, hq, hq2, hn, -, hr⟩ := lexL_inv h
    have hrg := nextL_range hn
    rw [List.length_drop] at hrg
    rcases lexL_count r (q + n) hr with h1 | h1
    · subst h1; right; simp; omega
    · right; simp; omega
theorem lexL_few {l : List UInt8} {ts : List Tok} {o : Option Nat} (h : lexL l 0 = (ts, o)) : ts.length ≤ l.length := by
  rcases lexL_count ts 0 h with h1 | h1
  · subst h1; exact Nat.zero_le _
  · exact h1

set_option maxHeartbeats 1000000 in
theorem nothing_any (s : ByteArray) (w : World) (hs : s.size ≤ 1000000) : Calls Try.prog 14 #[.string s] w fun e w' => e = .returned (.bool (nothL false s.data.toList)) ∧ w' = w := by
  obtain ⟨R, hR⟩ : ∃ R, nothL false s.data.toList = R := ⟨_, rfl⟩
  rw [hR]
  have HRR := Lib.hid hR
  have hsl : s.data.toList.length = s.size := by simp
  have HSL := Lib.hid hsl
  clear hR hsl
  go_enter Try.func14, Try.ntmps14
  go_wp2_with fail
  go_loop [3, 4] (fun b i => ∃ (k : Nat) (bb : Bool), k ≤ s.size ∧ b = .bool bb ∧ i = .int .i64 k ∧ Hid (nothL bb (s.data.toList.drop k) = R)) (fun _ i => s.size - (intOf i).toNat)
  case atStart => exact ⟨0, false, Nat.zero_le _, rfl, rfl, HRR.out⟩
  case round =>
    obtain ⟨k, bb, hk, rfl, rfl, hv⟩ := hrel
    by_cases hlt : k < s.size
    · have hd := hv.out
      rw [drop_at s k hlt] at hd
      by_cases c10 : s[k].toNat = 10
      · have b10 : ((s[k].toNat : Int) == 10) = true := (u8_eq (n := 10)).trans (by rw [c10]; rfl)
        rw [noth_line c10] at hd
        have HD := Lib.hid hd
        clear hd hv c10
        go_wp2
        go_round
        case rel => exact ⟨k + 1, false, hlt, rfl, by go_num, HD.out⟩
        case measure => simp [intOf]; omega
      have b10 : ((s[k].toNat : Int) == 10) = false := (u8_eq (n := 10)).trans (beq_eq_false_iff_ne.2 c10)
      by_cases c59 : s[k].toNat = 59
      · have b59 : ((s[k].toNat : Int) == 59) = true := (u8_eq (n := 59)).trans (by rw [c59]; rfl)
        rw [noth_note c59] at hd
        have HD := Lib.hid hd
        clear hd hv c10 c59
        go_wp2
        go_round
        case rel => exact ⟨k + 1, true, hlt, rfl, by go_num, HD.out⟩
        case measure => simp [intOf]; omega
      have b59 : ((s[k].toNat : Int) == 59) = false := (u8_eq (n := 59)).trans (beq_eq_false_iff_ne.2 c59)
      cases bb with
      | true =>
        rw [noth_in c10] at hd
        have HD := Lib.hid hd
        clear hd hv c10 c59
        go_wp2
        go_round
        case rel => exact ⟨k + 1, true, hlt, rfl, by go_num, HD.out⟩
        case measure => simp [intOf]; omega
      | false =>
        by_cases c32 : s[k].toNat = 32
        · have b32 : ((s[k].toNat : Int) == 32) = true := (u8_eq (n := 32)).trans (by rw [c32]; rfl)
          have n32 : ((s[k].toNat : Int) != 32) = false := by rw [bne, b32]; rfl
          rw [noth_sp (Or.inl c32)] at hd
          have HD := Lib.hid hd
          clear hd hv c10 c59 c32
          go_wp2
          go_round
          case rel => exact ⟨k + 1, false, hlt, rfl, by go_num, HD.out⟩
          case measure => simp [intOf]; omega
        have b32 : ((s[k].toNat : Int) == 32) = false := (u8_eq (n := 32)).trans (beq_eq_false_iff_ne.2 c32)
        have n32 : ((s[k].toNat : Int) != 32) = true := by rw [bne, b32]; rfl
        by_cases c9 : s[k].toNat = 9
        · have b9 : ((s[k].toNat : Int) == 9) = true := (u8_eq (n := 9)).trans (by rw [c9]; rfl)
          have n9 : ((s[k].toNat : Int) != 9) = false := by rw [bne, b9]; rfl
          rw [noth_sp (Or.inr c9)] at hd
          have HD := Lib.hid hd
          clear hd hv c10 c59 c32 c9
          go_wp2
          go_round
          case rel => exact ⟨k + 1, false, hlt, rfl, by go_num, HD.out⟩
          case measure => simp [intOf]; omega
        have b9 : ((s[k].toNat : Int) == 9) = false := (u8_eq (n := 9)).trans (beq_eq_false_iff_ne.2 c9)
        have n9 : ((s[k].toNat : Int) != 9) = true := by rw [bne, b9]; rfl
        rw [noth_bad c10 c59 c32 c9] at hd
        have HD := Lib.hid hd
        clear hd hv c10 c59 c32 c9
        go_wp2
        go_ret
        exact ⟨ret_bool HD.out, rfl⟩
    · have hd := hv.out
      rw [List.drop_of_length_le (by rw [HSL.out]; omega)] at hd
      have HD := Lib.hid (show true = R from hd)
      clear hd hv
      go_wp2
      go_ret
      exact ⟨ret_bool HD.out, rfl⟩
end Go.Proofs.Ytmflomepdmmodaa
