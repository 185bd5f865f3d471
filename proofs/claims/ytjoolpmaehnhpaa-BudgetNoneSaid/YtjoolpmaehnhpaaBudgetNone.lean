/-
  The walk of transhiplaw03.BudgetNone.
-/
import Derived.Test.YtjoolpmaehnhpaaBudgetWithin
namespace Go.Proofs.Ytjoolpmaehnhpaa
open Go.RowKit

theorem within_zero {n : Int} (hn : 0 < n) (h2 : n.natAbs ≤ 2 ^ 64) : withinB n 0 = false := by
  cases h : withinB n 0 with
  | false => rfl
  | true =>
    have h1 := within_less (m := 1) h (by decide) h2 (by omega)
    rw [show withinB 1 0 = false by decide +kernel] at h1
    cases h1
theorem signbit_c (w : World) : Calls Try.prog 28 #[.float .f64 0] w fun e w' => e = .returned (.bool false) ∧ w' = w := by
  have h1 := bits_run 0
  go_enter Try.func28, Try.ntmps28
  go_wp2
  go_ret
  exact ⟨rfl, rfl⟩

set_option maxHeartbeats 1000000 in
theorem budgetNone_any (n : Int) (w : World) (hn : I64 n) : Calls Try.prog 7 #[.int .i64 n] w fun e w' => e = .returned (.bool true) ∧ Below w.heap.size w w' := by
  obtain ⟨hn0, hn1⟩ := hn
  have h1 : (w.alloc (budObj 0 0)).heap[w.heap.size]? = some (budObj 0 0) := heap_alloc_new w _
  have hw0 : Below w.heap.size w (w.alloc (budObj 0 0)) := (Below.refl _ _).alloc (Nat.le_refl _) _
  have H1 := Lib.hid h1
  have HW0 := Lib.hid hw0
  have z0 : (FloatKind.f64.format.order 0 0 == some Ordering.eq) = true := by decide +kernel
  clear h1 hw0
  by_cases c1 : n < 0
  · have e1 : (n == 0) = false := by simp; omega
    go_enter Try.func7, Try.ntmps7
    go_wp2_with fail
    refine (take_nil n _).mono ?_
    rintro e w1 ⟨rfl, k1, rfl⟩
    go_wp2_with fail
    refine (used_nil _).mono ?_
    rintro e w2 ⟨rfl, rfl⟩
    go_wp2_with fail
    refine (left_nil _).mono ?_
    rintro e w2 ⟨rfl, rfl⟩
    go_wp2_with fail
    refine (left_nil _).mono ?_
    rintro e w2 ⟨rfl, rfl⟩
    go_wp2_with fail
    refine (signbit_c _).mono ?_
    rintro e w2 ⟨rfl, rfl⟩
    have H2 := Lib.hid (bud_drew (k := k1) H1.out)
    have HW2 := Lib.hid (below_drewN HW0.out k1)
    generalize (w.alloc (budObj 0 0)).drewN k1 = W2 at H2 HW2 ⊢
    go_wp2_with fail
    refine (take_neg w.heap.size 0 0 n _ H2.out c1).mono ?_
    rintro e w3 ⟨rfl, k3, rfl⟩
    have H3 := Lib.hid (bud_drew (k := k3) H2.out)
    have HW3 := Lib.hid (below_drewN HW2.out k3)
    generalize W2.drewN k3 = W3 at H3 HW3 ⊢
    go_wp2_with fail
    refine (used_any w.heap.size 0 0 _ H3.out).mono ?_
    rintro e w4 ⟨rfl, rfl⟩
    go_wp2_with fail
    refine (left_any w.heap.size 0 0 _ H3.out (by decide)).mono ?_
    rw [show leftB 0 0 = 0 by decide +kernel]
    rintro e w5 ⟨rfl, k5, rfl⟩
    have HW5 := Lib.hid (below_drewN HW3.out k5)
    go_wp2_with fail
    refine (wakes3_any _).mono ?_
    rintro e w6 ⟨rfl, hb6⟩
    go_wp2
    go_ret
    exact ⟨rfl, HW5.out.trans (hb6.mono HW5.out.size)⟩
  by_cases c2 : n = 0
  · subst c2
    go_enter Try.func7, Try.ntmps7
    go_wp2_with fail
    refine (take_nil 0 _).mono ?_
    rintro e w1 ⟨rfl, k1, rfl⟩
    go_wp2_with fail
    refine (used_nil _).mono ?_
    rintro e w2 ⟨rfl, rfl⟩
    go_wp2_with fail
    refine (left_nil _).mono ?_
    rintro e w2 ⟨rfl, rfl⟩
    go_wp2_with fail
    refine (left_nil _).mono ?_
    rintro e w2 ⟨rfl, rfl⟩
    go_wp2_with fail
    refine (signbit_c _).mono ?_
    rintro e w2 ⟨rfl, rfl⟩
    have H2 := Lib.hid (bud_drew (k := k1) H1.out)
    have HW2 := Lib.hid (below_drewN HW0.out k1)
    generalize (w.alloc (budObj 0 0)).drewN k1 = W2 at H2 HW2 ⊢
    go_wp2_with fail
    refine (take_yes w.heap.size 0 0 0 _ H2.out (by decide) (by decide) (by decide) (by decide +kernel)).mono ?_
    rintro e w3 ⟨rfl, k3, rfl⟩
    have H3 := Lib.hid (bud_set (k := k3) (v := 0 + 0) H2.out)
    have HW3 := Lib.hid ((below_drewN HW2.out k3).setCell (Nat.le_refl w.heap.size) (p := ⟨w.heap.size, 1, none⟩) (.int .i64 (0 + 0)))
    generalize (W2.drewN k3).setCell ⟨w.heap.size, 1, none⟩ (.int .i64 (0 + 0)) = W3 at H3 HW3 ⊢
    go_wp2_with fail
    refine (used_any w.heap.size 0 0 _ H3.out).mono ?_
    rintro e w4 ⟨rfl, rfl⟩
    go_wp2_with fail
    refine (left_any w.heap.size 0 0 _ H3.out (by decide)).mono ?_
    rw [show leftB 0 0 = 0 by decide +kernel]
    rintro e w5 ⟨rfl, k5, rfl⟩
    have HW5 := Lib.hid (below_drewN HW3.out k5)
    go_wp2_with fail
    refine (wakes3_any _).mono ?_
    rintro e w6 ⟨rfl, hb6⟩
    go_wp2
    go_ret
    exact ⟨rfl, HW5.out.trans (hb6.mono HW5.out.size)⟩
  · have e1 : (n == 0) = false := by simpa using c2
    have HO := Lib.hid (within_zero (n := 0 + n) (by omega) (by omega))
    go_enter Try.func7, Try.ntmps7
    go_wp2_with fail
    refine (take_nil n _).mono ?_
    rintro e w1 ⟨rfl, k1, rfl⟩
    go_wp2_with fail
    refine (used_nil _).mono ?_
    rintro e w2 ⟨rfl, rfl⟩
    go_wp2_with fail
    refine (left_nil _).mono ?_
    rintro e w2 ⟨rfl, rfl⟩
    go_wp2_with fail
    refine (left_nil _).mono ?_
    rintro e w2 ⟨rfl, rfl⟩
    go_wp2_with fail
    refine (signbit_c _).mono ?_
    rintro e w2 ⟨rfl, rfl⟩
    have H2 := Lib.hid (bud_drew (k := k1) H1.out)
    have HW2 := Lib.hid (below_drewN HW0.out k1)
    generalize (w.alloc (budObj 0 0)).drewN k1 = W2 at H2 HW2 ⊢
    go_wp2_with fail
    refine (take_out w.heap.size 0 0 n _ H2.out (by omega) (by decide) (by omega) HO.out).mono ?_
    rintro e w3 ⟨rfl, k3, rfl⟩
    have H3 := Lib.hid (bud_drew (k := k3) H2.out)
    have HW3 := Lib.hid (below_drewN HW2.out k3)
    generalize W2.drewN k3 = W3 at H3 HW3 ⊢
    go_wp2_with fail
    refine (used_any w.heap.size 0 0 _ H3.out).mono ?_
    rintro e w4 ⟨rfl, rfl⟩
    go_wp2_with fail
    refine (left_any w.heap.size 0 0 _ H3.out (by decide)).mono ?_
    rw [show leftB 0 0 = 0 by decide +kernel]
    rintro e w5 ⟨rfl, k5, rfl⟩
    have HW5 := Lib.hid (below_drewN HW3.out k5)
    go_wp2_with fail
    refine (wakes3_any _).mono ?_
    rintro e w6 ⟨rfl, hb6⟩
    go_wp2
    go_ret
    exact ⟨rfl, HW5.out.trans (hb6.mono HW5.out.size)⟩
end Go.Proofs.Ytjoolpmaehnhpaa
