/-
  Floats: at most; the nearest float of a whole number goes up with the number. Plain facts; no walk.
-/
import GoSem.Core.Float
namespace Go.Proofs.Ytjoolpmaehnhpaa.Fl
open Ieee

theorem cmp_le {a b : Int} : (compare a b == .lt || compare a b == .eq) = decide (a ≤ b) := by
  by_cases h : a < b
  · have : compare a b = .lt := Int.compare_eq_lt.2 h
    rw [this]; simp; omega
  · by_cases h2 : a = b
    · subst h2
      have : compare a a = .eq := Int.compare_eq_eq.2 rfl
      rw [this]; simp
    · have : compare a b = .gt := Int.compare_eq_gt.2 (by omega)
      rw [this]; simp; omega

/-- At most. -/
def leD (x y : Datum) : Bool := x.order y == some .lt || x.order y == some .eq
/-- The number at a base. -/
def sg (s : Bool) (m : Nat) : Int := if s then -(m : Int) else m
theorem signed_eq (s : Bool) (m u : Nat) : signed s m u = sg s m * 2 ^ u := by
  unfold signed sg
  rw [Nat.shiftLeft_eq]
  cases s <;> simp [Int.neg_mul]
theorem pow_split {base base' i : Int} (h : base' ≤ base) (h2 : base ≤ i) : (2 : Int) ^ (i - base').toNat = 2 ^ (i - base).toNat * 2 ^ (base - base').toNat := by
  rw [← Int.pow_add]; congr 1; omega
theorem order_num (s t : Bool) (m n : Nat) (i j base : Int) (hi : base ≤ i) (hj : base ≤ j) : leD (.number s m i) (.number t n j) = decide (sg s m * 2 ^ (i - base).toNat ≤ sg t n * 2 ^ (j - base).toNat) := by
  have h0 : leD (.number s m i) (.number t n j) = decide (sg s m * 2 ^ (i - min i j).toNat ≤ sg t n * 2 ^ (j - min i j).toNat) := by
    unfold leD
    simp only [Datum.order]
    rw [signed_eq, signed_eq, ← cmp_le]
    rfl
  rw [h0, pow_split (show base ≤ min i j by omega) (show min i j ≤ i by omega), pow_split (show base ≤ min i j by omega) (show min i j ≤ j by omega), ← Int.mul_assoc, ← Int.mul_assoc]
  have hp : (0 : Int) < 2 ^ (min i j - base).toNat := Int.pow_pos (by decide)
  rw [decide_eq_decide]
  exact ⟨fun h => Int.mul_le_mul_of_nonneg_right h (Int.le_of_lt hp), fun h => Int.le_of_mul_le_mul_right h hp⟩
theorem leD_trans {a b c : Datum} (h1 : leD a b = true) (h2 : leD b c = true) : leD a c = true := by
  cases a with
  | nan s t => simp [leD, Datum.order] at h1
  | infinity s =>
    cases b with
    | nan s t => simp [leD, Datum.order] at h1
    | infinity t =>
      cases c with
      | nan s t => simp [leD, Datum.order] at h2
      | infinity u => cases s <;> cases t <;> cases u <;> revert h1 h2 <;> decide
      | number u n j => cases s <;> cases t <;> simp [leD, Datum.order] at h1 h2 ⊢ <;> revert h1 <;> decide
    | number t n j =>
      cases c with
      | nan s t => simp [leD, Datum.order] at h2
      | infinity u => cases s <;> cases u <;> simp [leD, Datum.order] at h1 h2 ⊢ <;> decide
      | number u n j => cases s <;> simp [leD, Datum.order] at h1 h2 ⊢
  | number s m i =>
    cases b with
    | nan s t => simp [leD, Datum.order] at h1
    | infinity t =>
      cases c with
      | nan s t => simp [leD, Datum.order] at h2
      | infinity u => cases t <;> cases u <;> simp [leD, Datum.order] at h1 h2 ⊢ <;> revert h2 <;> decide
      | number u n j => cases t <;> simp [leD, Datum.order] at h1 h2 ⊢
    | number t n j =>
      cases c with
      | nan s t => simp [leD, Datum.order] at h2
      | infinity u => cases u <;> simp [leD, Datum.order] at h1 h2 ⊢
      | number u k l =>
        have hb : ∃ base, base ≤ i ∧ base ≤ j ∧ base ≤ l := ⟨min i (min j l), by omega, by omega, by omega⟩
        obtain ⟨base, b1, b2, b3⟩ := hb
        rw [order_num s t m n i j base b1 b2, decide_eq_true_eq] at h1
        rw [order_num t u n k j l base b2 b3, decide_eq_true_eq] at h2
        rw [order_num s u m k i l base b1 b3, decide_eq_true_eq]
        exact Int.le_trans h1 h2
theorem leD_right {a b : Datum} (h : leD a b = true) : b.order b = some .eq := by
  cases b with
  | nan s t => cases a <;> simp [leD, Datum.order] at h
  | infinity t => cases t <;> decide
  | number t n j => simp only [Datum.order]; rw [Int.compare_eq_eq.2 rfl]
theorem geD {a b : Datum} : (b.order a == some .gt || b.order a == some .eq) = leD a b := by
  cases a with
  | nan s t => cases b <;> simp [leD, Datum.order]
  | infinity s =>
    cases b with
    | nan s t => simp [leD, Datum.order]
    | infinity t => cases s <;> cases t <;> decide
    | number t n j => cases s <;> simp [leD, Datum.order]
  | number s m i =>
    cases b with
    | nan s t => simp [leD, Datum.order]
    | infinity t => cases t <;> simp [leD, Datum.order]
    | number t n j =>
      rw [order_num s t m n i j (min i j) (by omega) (by omega)]
      simp only [Datum.order]
      rw [signed_eq, signed_eq, Int.min_comm j i]
      generalize sg s m * 2 ^ (i - min i j).toNat = A
      generalize sg t n * 2 ^ (j - min i j).toNat = B
      by_cases h : B < A
      · rw [Int.compare_eq_lt.2 h]; simp; omega
      · by_cases h2 : B = A
        · rw [Int.compare_eq_eq.2 h2]; simp; omega
        · rw [Int.compare_eq_gt.2 (by omega)]; simp; omega

/-! The nearest word of a whole number goes up with the number. -/
theorem dbl_sw : double.signWeight = 2 ^ 63 := by decide
theorem dbl_bin : double.binade = 2 ^ 52 := by decide
theorem dbl_inf : double.infRung = 2047 * 2 ^ 52 := by decide
theorem dbl_least : double.leastPlace = -1074 := by decide
theorem dbl_fb : double.fractionBits = 52 := rfl

/-- A rung's number at the least place. -/
def rv (r : Nat) : Nat := if r < 2 ^ 52 then r else (2 ^ 52 + r % 2 ^ 52) * 2 ^ (r / 2 ^ 52 - 1)
theorem rv_succ (r : Nat) : rv r ≤ rv (r + 1) := by
  unfold rv
  by_cases h : r + 1 < 2 ^ 52
  · rw [if_pos (by omega), if_pos h]; omega
  · rw [if_neg h]
    by_cases h2 : r < 2 ^ 52
    · have e : r + 1 = 2 ^ 52 := by omega
      rw [if_pos h2, e]; simp; omega
    · rw [if_neg h2]
      by_cases h3 : r % 2 ^ 52 + 1 = 2 ^ 52
      · have e1 : (r + 1) % 2 ^ 52 = 0 := by omega
        have e2 : (r + 1) / 2 ^ 52 = r / 2 ^ 52 + 1 := by omega
        have e3 : 1 ≤ r / 2 ^ 52 := by omega
        obtain ⟨q, hq⟩ : ∃ q, r / 2 ^ 52 = q + 1 := ⟨r / 2 ^ 52 - 1, by omega⟩
        have hm : r % 2 ^ 52 < 2 ^ 52 := Nat.mod_lt _ (by omega)
        rw [e1, e2, hq, Nat.add_sub_cancel, Nat.add_sub_cancel]
        generalize r % 2 ^ 52 = m at hm
        have hp : 2 ^ (q + 1) = 2 ^ q * 2 := Nat.pow_succ ..
        rw [hp]
        refine Nat.le_trans (Nat.mul_le_mul_right (2 ^ q) (show 2 ^ 52 + m ≤ 2 ^ 53 by omega)) ?_
        generalize 2 ^ q = x
        omega
      · have e1 : (r + 1) % 2 ^ 52 = r % 2 ^ 52 + 1 := by omega
        have e2 : (r + 1) / 2 ^ 52 = r / 2 ^ 52 := by omega
        rw [e1, e2]
        exact Nat.mul_le_mul_right _ (by omega)
theorem rv_mono {r r' : Nat} (h : r ≤ r') : rv r ≤ rv r' := by
  induction r' with
  | zero => have : r = 0 := by omega
            subst this; exact Nat.le_refl _
  | succ n ih =>
    by_cases h2 : r = n + 1
    · subst h2; exact Nat.le_refl _
    · exact Nat.le_trans (ih (by omega)) (rv_succ n)

theorem read_word (s : Bool) (r : Nat) (h : r ≤ 2047 * 2 ^ 52) : double.read (double.word s r) =
    if r < 2 ^ 52 then .number s r (-1074) else if r < 2047 * 2 ^ 52 then .number s (2 ^ 52 + r % 2 ^ 52) (-1074 + (r / 2 ^ 52 - 1 : Nat)) else .infinity s := by
  unfold Format.read Format.word
  rw [dbl_sw, dbl_bin, dbl_inf, dbl_least]
  have e1 : ((if s = true then 2 ^ 63 + r else r) / 2 ^ 63 % 2 == 1) = s := by
    cases s <;> simp <;> omega
  have e2 : (if s = true then 2 ^ 63 + r else r) % 2 ^ 63 = r := by
    cases s <;> simp <;> omega
  simp only [e1, e2]
  split
  · rfl
  · split
    · rfl
    · rw [if_pos (by omega)]
theorem le_word_num {s t : Bool} {r r' : Nat} (h : r < 2047 * 2 ^ 52) (h' : r' < 2047 * 2 ^ 52) (hs : sg s (rv r) ≤ sg t (rv r')) : leD (double.read (double.word s r)) (double.read (double.word t r')) = true := by
  have key : ∀ (s : Bool) (r : Nat), r < 2047 * 2 ^ 52 → ∃ m i, double.read (double.word s r) = .number s m i ∧ -1074 ≤ i ∧ sg s m * 2 ^ (i - (-1074)).toNat = sg s (rv r) := by
    intro s r hr
    rw [read_word s r (by omega)]
    by_cases h1 : r < 2 ^ 52
    · refine ⟨r, -1074, by rw [if_pos h1], by omega, ?_⟩
      unfold rv; rw [if_pos h1]; simp
    · refine ⟨_, _, by rw [if_neg h1, if_pos hr], by omega, ?_⟩
      unfold rv; rw [if_neg h1]
      have e : (-1074 + ((r / 2 ^ 52 - 1 : Nat) : Int) - -1074).toNat = r / 2 ^ 52 - 1 := by omega
      rw [e]
      cases s <;> simp [sg, Int.neg_mul]
  obtain ⟨m, i, e1, b1, v1⟩ := key s r h
  obtain ⟨n, j, e2, b2, v2⟩ := key t r' h'
  rw [e1, e2, order_num s t m n i j (-1074) b1 b2, v1, v2]
  simpa using hs

/-- The rung of the nearest word to a whole number. -/
def rung (m : Nat) : Nat := if m = 0 then 0 else (m.log2 + 1022) * 2 ^ 52 + (if m.log2 ≤ 52 then m * 2 ^ (52 - m.log2) else Toward.even.cut false m (m.log2 - 52))
theorem cut_neg (s : Bool) (n d : Nat) : Toward.even.cut s n d = Toward.even.cut false n d := rfl
theorem cut_zero (n : Nat) : Toward.even.cut false n 0 = n := by
  unfold Toward.cut
  simp [Nat.mod_one]
theorem nearest_int (s : Bool) (m : Nat) (h : rung m ≤ 2047 * 2 ^ 52) : double.nearest s m 0 = double.word s (rung m) := by
  unfold Format.nearest rung at *
  by_cases h0 : m = 0
  · rw [if_pos h0, if_pos h0]
  · rw [if_neg h0] at h
    rw [if_neg h0, if_neg h0, dbl_least, dbl_fb, dbl_bin, dbl_inf]
    have e1 : max (0 + (m.log2 : Int) - ((52 : Nat) : Int)) (-1074) = (m.log2 : Int) - 52 := by omega
    have e2 : ((m.log2 : Int) - 52 - -1074).toNat = m.log2 + 1022 := by omega
    simp only [e1, e2, cut_neg s]
    have e3 : Toward.even.cut false (m <<< (0 - ((m.log2 : Int) - 52)).toNat) ((m.log2 : Int) - 52 - 0).toNat = (if m.log2 ≤ 52 then m * 2 ^ (52 - m.log2) else Toward.even.cut false m (m.log2 - 52)) := by
      by_cases hl : m.log2 ≤ 52
      · rw [if_pos hl, show ((m.log2 : Int) - 52 - 0).toNat = 0 by omega, cut_zero, Nat.shiftLeft_eq, show (0 - ((m.log2 : Int) - 52)).toNat = 52 - m.log2 by omega]
      · rw [if_neg hl, show (0 - ((m.log2 : Int) - 52)).toNat = 0 by omega, show ((m.log2 : Int) - 52 - 0).toNat = m.log2 - 52 by omega]; rfl
    rw [e3, Nat.min_eq_left h]
theorem cut_gap {m d : Nat} (h : d ≤ m.log2 + 2) : Toward.even.cut false m d = m / 2 ^ d + (decide (2 ^ d < 2 * (m % 2 ^ d)) || (2 ^ d == 2 * (m % 2 ^ d) && (m / 2 ^ d) % 2 == 1)).toNat := by
  unfold Toward.cut
  simp only [Nat.min_eq_left h, Nat.shiftLeft_eq, Nat.one_mul]
theorem cut_mono {a b d : Nat} (ha : d ≤ a.log2 + 2) (hb : d ≤ b.log2 + 2) (h : a ≤ b) : Toward.even.cut false a d ≤ Toward.even.cut false b d := by
  rw [cut_gap ha, cut_gap hb]
  obtain ⟨g, hg⟩ : ∃ g, 2 ^ d = g := ⟨_, rfl⟩
  have hgp : 0 < g := by rw [← hg]; exact Nat.two_pow_pos d
  rw [hg]
  have hq := Nat.div_le_div_right (c := g) h
  by_cases he : a / g = b / g
  · have hr : a % g ≤ b % g := by
      have h1 := Nat.div_add_mod a g
      have h2 := Nat.div_add_mod b g
      rw [he] at h1; omega
    rw [he]
    refine Nat.add_le_add_left ?_ _
    by_cases c1 : g < 2 * (b % g)
    · simp [c1]; exact Bool.toNat_le _
    · by_cases c2 : g = 2 * (b % g)
      · by_cases c3 : g < 2 * (a % g)
        · omega
        · by_cases c4 : g = 2 * (a % g)
          · have : a % g = b % g := by omega
            rw [this]; exact Nat.le_refl _
          · have c5 : (g == 2 * (a % g)) = false := by simpa using c4
            simp [c3, c5]
      · have c3 : ¬ g < 2 * (a % g) := by omega
        have c4 : ¬ g = 2 * (a % g) := by omega
        have c5 : (g == 2 * (a % g)) = false := by simpa using c4
        simp [c3, c5]
  · have h1 : a / g + 1 ≤ b / g := by omega
    have h2 := Bool.toNat_le (decide (g < 2 * (a % g)) || (g == 2 * (a % g) && (a / g) % 2 == 1))
    omega
theorem kept_range {m : Nat} (h0 : m ≠ 0) : 2 ^ 52 ≤ (if m.log2 ≤ 52 then m * 2 ^ (52 - m.log2) else Toward.even.cut false m (m.log2 - 52)) ∧ (if m.log2 ≤ 52 then m * 2 ^ (52 - m.log2) else Toward.even.cut false m (m.log2 - 52)) ≤ 2 ^ 53 := by
  have hl := Nat.log2_self_le h0
  have hu := @Nat.lt_log2_self m
  by_cases h : m.log2 ≤ 52
  · rw [if_pos h]
    have hp : 2 ^ m.log2 * 2 ^ (52 - m.log2) = 2 ^ 52 := by rw [← Nat.pow_add]; congr 1; omega
    have hp2 : 2 ^ (m.log2 + 1) * 2 ^ (52 - m.log2) = 2 ^ 53 := by rw [← Nat.pow_add]; congr 1; omega
    exact ⟨by rw [← hp]; exact Nat.mul_le_mul_right _ hl, by rw [← hp2]; exact Nat.mul_le_mul_right _ (Nat.le_of_lt hu)⟩
  · rw [if_neg h, cut_gap (by omega)]
    have hg : 0 < 2 ^ (m.log2 - 52) := Nat.two_pow_pos _
    have hp : 2 ^ m.log2 = 2 ^ 52 * 2 ^ (m.log2 - 52) := by rw [← Nat.pow_add]; congr 1; omega
    have hp2 : 2 ^ (m.log2 + 1) = 2 ^ 53 * 2 ^ (m.log2 - 52) := by rw [← Nat.pow_add]; congr 1; omega
    have q1 : 2 ^ 52 ≤ m / 2 ^ (m.log2 - 52) := (Nat.le_div_iff_mul_le hg).2 (by rw [← hp]; exact hl)
    have q2 : m / 2 ^ (m.log2 - 52) < 2 ^ 53 := (Nat.div_lt_iff_lt_mul hg).2 (by rw [← hp2]; exact hu)
    have h2 := Bool.toNat_le (decide (2 ^ (m.log2 - 52) < 2 * (m % 2 ^ (m.log2 - 52))) || (2 ^ (m.log2 - 52) == 2 * (m % 2 ^ (m.log2 - 52)) && (m / 2 ^ (m.log2 - 52)) % 2 == 1))
    exact ⟨by omega, by omega⟩
theorem log2_mono {a b : Nat} (ha : a ≠ 0) (h : a ≤ b) : a.log2 ≤ b.log2 :=
  (Nat.le_log2 (by omega)).2 (Nat.le_trans (Nat.log2_self_le ha) h)
theorem rung_mono {a b : Nat} (h : a ≤ b) : rung a ≤ rung b := by
  unfold rung
  by_cases ha : a = 0
  · rw [if_pos ha]; exact Nat.zero_le _
  have hb : b ≠ 0 := by omega
  rw [if_neg ha, if_neg hb]
  have hl := log2_mono ha h
  have ka := kept_range ha
  have kb := kept_range hb
  by_cases he : a.log2 = b.log2
  · rw [← he]
    refine Nat.add_le_add_left ?_ _
    by_cases hs : a.log2 ≤ 52
    · rw [if_pos hs, if_pos hs]; exact Nat.mul_le_mul_right _ h
    · rw [if_neg hs, if_neg hs]; exact cut_mono (by omega) (by omega) h
  · omega
theorem rung_small {m : Nat} (h : m ≤ 2 ^ 64) : rung m < 2047 * 2 ^ 52 := by
  unfold rung
  by_cases h0 : m = 0
  · rw [if_pos h0]; omega
  · rw [if_neg h0]
    have k := kept_range h0
    have : m.log2 ≤ 64 := by
      have := log2_mono h0 h
      rw [show (2 ^ 64 : Nat).log2 = 64 by decide +kernel] at this
      exact this
    omega
/-- The float of an int. -/
def fi (n : Int) : Datum := double.read (double.nearest (decide (n < 0)) n.natAbs 0)
theorem fi_mono {m n : Int} (hm : m.natAbs ≤ 2 ^ 64) (hn : n.natAbs ≤ 2 ^ 64) (h : m ≤ n) : leD (fi m) (fi n) = true := by
  have r1 := rung_small hm
  have r2 := rung_small hn
  unfold fi
  rw [nearest_int _ _ (Nat.le_of_lt r1), nearest_int _ _ (Nat.le_of_lt r2)]
  refine le_word_num r1 r2 ?_
  by_cases c1 : m < 0
  · by_cases c2 : n < 0
    · have := rv_mono (rung_mono (show n.natAbs ≤ m.natAbs by omega))
      simp [sg, c1, c2]; omega
    · simp [sg, c1, c2] <;> omega
  · have c2 : ¬ n < 0 := by omega
    have := rv_mono (rung_mono (show m.natAbs ≤ n.natAbs by omega))
    simp [sg, c1, c2]; omega
end Go.Proofs.Ytjoolpmaehnhpaa.Fl
