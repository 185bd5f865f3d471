/-
  The walk of transhiplaw03.BudgetWithin.
-/
import Derived.Test.YtjoolpmaehnhpaaWakes3
namespace Go.Proofs.Ytjoolpmaehnhpaa
open Go.RowKit

theorem within_more {n : Int} {a b : Nat} (h : withinB n a = true) (hg : (FloatKind.f64.format.order b a == some .gt || FloatKind.f64.format.order b a == some .eq) = true) : withinB n b = true := by
  rw [withinB_eq] at h ⊢
  exact Fl.leD_trans h (Fl.geD.symm.trans hg)
theorem within_less {n m : Int} {a : Nat} (h : withinB n a = true) (hm : m.natAbs ≤ 2 ^ 64) (hn : n.natAbs ≤ 2 ^ 64) (hl : m ≤ n) : withinB m a = true := by
  rw [withinB_eq] at h ⊢
  exact Fl.leD_trans (Fl.fi_mono hm hn hl) h
theorem within_num {n : Int} {a : Nat} (h : withinB n a = true) : (FloatKind.f64.format.order a a != some .eq) = false := by
  rw [withinB_eq] at h
  have := Fl.leD_right h
  show ((Ieee.double.read a).order (Ieee.double.read a) != some .eq) = false
  rw [this]; decide

set_option maxHeartbeats 1000000 in
theorem budgetWithin_any (n m : Int) (a b : Nat) (w : World) (hn : I64 n) (hm : I64 m) : Calls Try.prog 4 #[.int .i64 n, .int .i64 m, .float .f64 a, .float .f64 b] w fun e w' => e = .returned (.bool true) ∧ Below w.heap.size w w' := by
  have hn2 : n.natAbs ≤ 2 ^ 64 := by unfold I64 at hn; omega
  have hm2 : m.natAbs ≤ 2 ^ 64 := by unfold I64 at hm; omega
  clear hn hm
  have HW := Lib.hid fun n m w => within_any n m w
  have HP := Lib.hid fun n m w => pwithin_any n m w
  cases hx : withinB n a with
  | false =>
    have HX := Lib.hid hx
    cases hN : (FloatKind.f64.format.order a a != some .eq) with
    | true =>
      clear hx hn2 hm2
      go_enter Try.func4, Try.ntmps4
      go_wp2_with fail
      refine (HW.out _ _ _).mono ?_
      rw [HX.out]
      rintro e w1 ⟨rfl, rfl⟩
      go_wp2_with fail
      refine (HP.out _ _ _).mono ?_
      rw [HX.out]
      rintro e w1 ⟨rfl, rfl⟩
      go_wp2_with fail
      refine (wakes3_any _).mono ?_
      rintro e w2 ⟨rfl, hb⟩
      go_wp2
      go_ret
      exact ⟨rfl, hb⟩
    | false =>
      clear hx hn2 hm2
      go_enter Try.func4, Try.ntmps4
      go_wp2_with fail
      refine (HW.out _ _ _).mono ?_
      rw [HX.out]
      rintro e w1 ⟨rfl, rfl⟩
      go_wp2_with fail
      refine (HP.out _ _ _).mono ?_
      rw [HX.out]
      rintro e w1 ⟨rfl, rfl⟩
      go_wp2_with fail
      refine (wakes3_any _).mono ?_
      rintro e w2 ⟨rfl, hb⟩
      go_wp2
      go_ret
      exact ⟨rfl, hb⟩
  | true =>
    have HX := Lib.hid hx
    have hN := within_num hx
    cases hG : (FloatKind.f64.format.order b a == some .gt || FloatKind.f64.format.order b a == some .eq) with
    | true =>
      have HM := Lib.hid (within_more hx hG)
      by_cases hl : m ≤ n
      · have HL := Lib.hid (within_less hx hm2 hn2 hl)
        clear hx hn2 hm2
        go_enter Try.func4, Try.ntmps4
        go_wp2_with fail
        refine (HW.out _ _ _).mono ?_
        rw [HX.out]
        rintro e w1 ⟨rfl, rfl⟩
        go_wp2_with fail
        refine (HP.out _ _ _).mono ?_
        rw [HX.out]
        rintro e w1 ⟨rfl, rfl⟩
        go_wp2_with fail
        refine (HW.out _ _ _).mono ?_
        rw [HM.out]
        rintro e w1 ⟨rfl, rfl⟩
        go_wp2_with fail
        refine (HW.out _ _ _).mono ?_
        rw [HL.out]
        rintro e w1 ⟨rfl, rfl⟩
        go_wp2_with fail
        refine (wakes3_any _).mono ?_
        rintro e w2 ⟨rfl, hb⟩
        go_wp2
        go_ret
        exact ⟨rfl, hb⟩
      · clear hx hn2 hm2
        go_enter Try.func4, Try.ntmps4
        go_wp2_with fail
        refine (HW.out _ _ _).mono ?_
        rw [HX.out]
        rintro e w1 ⟨rfl, rfl⟩
        go_wp2_with fail
        refine (HP.out _ _ _).mono ?_
        rw [HX.out]
        rintro e w1 ⟨rfl, rfl⟩
        go_wp2_with fail
        refine (HW.out _ _ _).mono ?_
        rw [HM.out]
        rintro e w1 ⟨rfl, rfl⟩
        go_wp2_with fail
        refine (wakes3_any _).mono ?_
        rintro e w2 ⟨rfl, hb⟩
        go_wp2
        go_ret
        exact ⟨rfl, hb⟩
    | false =>
      by_cases hl : m ≤ n
      · have HL := Lib.hid (within_less hx hm2 hn2 hl)
        clear hx hn2 hm2
        go_enter Try.func4, Try.ntmps4
        go_wp2_with fail
        refine (HW.out _ _ _).mono ?_
        rw [HX.out]
        rintro e w1 ⟨rfl, rfl⟩
        go_wp2_with fail
        refine (HP.out _ _ _).mono ?_
        rw [HX.out]
        rintro e w1 ⟨rfl, rfl⟩
        go_wp2_with fail
        refine (HW.out _ _ _).mono ?_
        rw [HL.out]
        rintro e w1 ⟨rfl, rfl⟩
        go_wp2_with fail
        refine (wakes3_any _).mono ?_
        rintro e w2 ⟨rfl, hb⟩
        go_wp2
        go_ret
        exact ⟨rfl, hb⟩
      · clear hx hn2 hm2
        go_enter Try.func4, Try.ntmps4
        go_wp2_with fail
        refine (HW.out _ _ _).mono ?_
        rw [HX.out]
        rintro e w1 ⟨rfl, rfl⟩
        go_wp2_with fail
        refine (HP.out _ _ _).mono ?_
        rw [HX.out]
        rintro e w1 ⟨rfl, rfl⟩
        go_wp2_with fail
        refine (wakes3_any _).mono ?_
        rintro e w2 ⟨rfl, hb⟩
        go_wp2
        go_ret
        exact ⟨rfl, hb⟩
end Go.Proofs.Ytjoolpmaehnhpaa
