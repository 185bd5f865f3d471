/-
  budget: Left.
-/
import Derived.Test.YtjoolpmaehnhpaaBud
namespace Go.Proofs.Ytjoolpmaehnhpaa
open Go.RowKit

theorem isnan_any (m : Nat) (w : World) : Calls Try.prog 71 #[.float .f64 m] w fun e w' => e = .returned (.bool (FloatKind.f64.format.order m m != some .eq)) ∧ w' = w := by
  go_enter Try.func71, Try.ntmps71
  go_wp2
  go_ret
  exact ⟨rfl, rfl⟩
theorem isinf_any (m : Nat) (w : World) : Calls Try.prog 72 #[.float .f64 m, .int .i64 1] w fun e w' => e = .returned (.bool (FloatKind.f64.format.order m 9218868437227405311 == some .gt)) ∧ w' = w := by
  go_enter Try.func72, Try.ntmps72
  go_wp2
  go_ret
  exact ⟨rfl, rfl⟩
theorem nan_of (m : Nat) (h : (FloatKind.f64.format.order m m != some .eq) = false) : (FloatKind.f64.decode m).isNaN = false := by
  unfold Ieee.Format.order at h
  show (FloatKind.f64.format.read m).isNaN = false
  cases e : FloatKind.f64.format.read m with
  | nan s t => rw [e] at h; simp [Ieee.Datum.order] at h
  | infinity s => rfl
  | number s n i => rfl
/-- What Left hands back. -/
def leftB (m : Nat) (u : Int) : Nat :=
  if (FloatKind.f64.format.order m m != some .eq) = true then 0
  else if (FloatKind.f64.format.order m 9218868437227405311 == some .gt) = true then m
  else if (FloatKind.f64.format.order (floatOfInt .f64 u) (truncB m) == some .gt || FloatKind.f64.format.order (floatOfInt .f64 u) (truncB m) == some .eq) = true then 0
  else (floatBits .sub .f64 (truncB m) (floatOfInt .f64 u)).getD 0
theorem read_write (d : Ieee.Datum) (h : d.isNaN = false) : (Ieee.double.read (Ieee.double.write d)).isNaN = false := by
  have key : ∀ (s : Bool) (r : Nat), r ≤ 2047 * 2 ^ 52 → (Ieee.double.read (Ieee.double.word s r)).isNaN = false := by
    intro s r hr
    rw [Fl.read_word s r hr]
    split
    · rfl
    · split <;> rfl
  cases d with
  | nan s t => cases h
  | infinity s => exact key s _ (by rw [Fl.dbl_inf]; exact Nat.le_refl _)
  | number s n i =>
    show (Ieee.double.read (Ieee.double.nearest s n i)).isNaN = false
    unfold Ieee.Format.nearest
    split
    · exact key s 0 (Nat.zero_le _)
    · exact key s _ (by rw [Fl.dbl_inf]; exact Nat.min_le_right _ _)
theorem fi_num (u : Int) (hu : u.natAbs ≤ 2 ^ 64) : ∃ s n i, Ieee.double.read (floatOfInt .f64 u) = .number s n i := by
  have r1 := Fl.rung_small hu
  show ∃ s n i, Ieee.double.read (Ieee.double.nearest (decide (u < 0)) u.natAbs 0) = .number s n i
  rw [Fl.nearest_int _ _ (Nat.le_of_lt r1), Fl.read_word _ _ (Nat.le_of_lt r1)]
  split
  · exact ⟨_, _, _, rfl⟩
  · exact ⟨_, _, _, rfl⟩
theorem sub_some (m : Nat) (u : Int) (h : (FloatKind.f64.decode m).isNaN = false) (hu : u.natAbs ≤ 2 ^ 64) : ∃ r, floatBits .sub .f64 (truncB m) (floatOfInt .f64 u) = some r := by
  obtain ⟨s, n, i, e⟩ := fi_num u hu
  have hw : (Ieee.double.read (truncB m)).isNaN = false := read_write _ (by
    show ((FloatKind.f64.decode m).integral .zero).isNaN = false
    cases e : FloatKind.f64.decode m with
    | nan s t => rw [e] at h; cases h
    | infinity s => rfl
    | number s n i => rfl)
  show ∃ r, ((Ieee.double.read (truncB m)).sum (Ieee.double.read (floatOfInt .f64 u)).opposite).map Ieee.double.write = some r
  rw [e]
  cases e2 : Ieee.double.read (truncB m) with
  | nan s t => rw [e2] at hw; cases hw
  | infinity s => exact ⟨_, rfl⟩
  | number s n i => exact ⟨_, rfl⟩

set_option maxHeartbeats 1000000 in
theorem left_any (b m : Nat) (u : Int) (w : World) (h : w.heap[b]? = some (budObj m u)) (hu : u.natAbs ≤ 2 ^ 64) : Calls Try.prog 21 #[.pointer (some ⟨b, 0, none⟩)] w fun e w' => e = .returned (.float .f64 (leftB m u)) ∧ ∃ k, w' = w.drewN k := by
  obtain ⟨c0, c1⟩ := bud_cells h
  have HN := Lib.hid (isnan_any m)
  have HI := Lib.hid (isinf_any m)
  have HL : ∀ r, leftB m u = r → Hid (leftB m u = r) := fun _ h => h
  clear h
  cases hN : (FloatKind.f64.format.order m m != some .eq) with
  | true =>
    have HR := HL 0 (by unfold leftB; rw [if_pos hN])
    rw [hN] at HN
    clear HL hN hu
    go_enter Try.func21, Try.ntmps21
    go_wp2_with fail
    refine (HN.out _).mono ?_
    rintro e w' ⟨rfl, rfl⟩
    go_wp2
    go_ret
    exact ⟨by rw [HR.out]; rfl, 0, rfl⟩
  | false =>
  have HT := Lib.hid fun w => trunc_any m w (nan_of m hN)
  obtain ⟨r, hr⟩ := sub_some m u (nan_of m hN) hu
  cases hI : (FloatKind.f64.format.order m 9218868437227405311 == some .gt) with
  | true =>
    have HR := HL m (by unfold leftB; rw [if_neg (by rw [hN]; decide), if_pos hI])
    rw [hN] at HN
    rw [hI] at HI
    clear HL hN hI hu hr HT
    go_enter Try.func21, Try.ntmps21
    go_wp2_with fail
    refine (HN.out _).mono ?_
    rintro e w' ⟨rfl, rfl⟩
    go_wp2_with fail
    refine (HI.out _).mono ?_
    rintro e w' ⟨rfl, rfl⟩
    go_wp2
    go_ret
    exact ⟨by rw [HR.out]; rfl, 0, rfl⟩
  | false =>
  cases hG : (FloatKind.f64.format.order (floatOfInt .f64 u) (truncB m) == some .gt || FloatKind.f64.format.order (floatOfInt .f64 u) (truncB m) == some .eq) with
  | true =>
    have HR := HL 0 (by unfold leftB; rw [if_neg (by rw [hN]; decide), if_neg (by rw [hI]; decide), if_pos hG])
    rw [hN] at HN
    rw [hI] at HI
    clear HL hN hI hu hr
    go_enter Try.func21, Try.ntmps21
    go_wp2_with fail
    refine (HN.out _).mono ?_
    rintro e w' ⟨rfl, rfl⟩
    go_wp2_with fail
    refine (HI.out _).mono ?_
    rintro e w' ⟨rfl, rfl⟩
    go_wp2_with fail
    go_quiet ((go_at_call 73; exact Calls.quiet_of_same (HT.out _)))
    go_wp2
    go_ret
    exact ⟨by rw [HR.out]; rfl, _, rfl⟩
  | false =>
    have HR := HL r (by unfold leftB; rw [if_neg (by rw [hN]; decide), if_neg (by rw [hI]; decide), if_neg (by rw [hG]; decide), hr]; rfl)
    have hsub : ∀ (t : TypeId) (w : World), (binOp .sub t (.float .f64 (truncB m)) (.float .f64 (floatOfInt .f64 u))).run Try.prog w = .ok (.float .f64 r) w := fun t w => run_float_arith w .sub t .f64 _ _ r hr
    rw [hN] at HN
    rw [hI] at HI
    clear HL hN hI hu hr
    go_enter Try.func21, Try.ntmps21
    go_wp2_with fail
    refine (HN.out _).mono ?_
    rintro e w' ⟨rfl, rfl⟩
    go_wp2_with fail
    refine (HI.out _).mono ?_
    rintro e w' ⟨rfl, rfl⟩
    go_wp2_with fail
    go_quiet ((go_at_call 73; exact Calls.quiet_of_same (HT.out _)))
    go_wp2
    go_ret
    exact ⟨by rw [HR.out]; rfl, _, rfl⟩
end Go.Proofs.Ytjoolpmaehnhpaa
