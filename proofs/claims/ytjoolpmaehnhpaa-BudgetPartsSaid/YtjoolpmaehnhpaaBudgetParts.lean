/-
  The walk of transhiplaw03.BudgetParts.
-/
import Derived.Test.YtjoolpmaehnhpaaBudgetWithin
namespace Go.Proofs.Ytjoolpmaehnhpaa
open Go.RowKit

theorem bud_other {w : World} {b c k : Nat} {o : Obj} {v : Value} (h : w.heap[c]? = some o) (hc : c ≠ b) : ((w.drewN k).setCell ⟨b, 1, none⟩ v).heap[c]? = some o := by
  rw [Below.heap_setCell _ _ _ _ (by exact hc)]; exact h

set_option maxHeartbeats 2000000 in
theorem budgetParts_any (m : Nat) (a b : Int) (w : World) : Calls Try.prog 6 #[.float .f64 m, .int .i64 a, .int .i64 b] w fun e w' => e = .returned (.bool true) ∧ Below w.heap.size w w' := by
  by_cases c1 : a < 0
  · go_enter Try.func6, Try.ntmps6
    go_wp2
    go_ret
    exact ⟨rfl, Below.refl _ _⟩
  by_cases c2 : b < 0
  · go_enter Try.func6, Try.ntmps6
    go_wp2
    go_ret
    exact ⟨rfl, Below.refl _ _⟩
  by_cases c3 : 2305843009213693952 < a
  · go_enter Try.func6, Try.ntmps6
    go_wp2
    go_ret
    exact ⟨rfl, Below.refl _ _⟩
  by_cases c4 : 2305843009213693952 < b
  · go_enter Try.func6, Try.ntmps6
    go_wp2
    go_ret
    exact ⟨rfl, Below.refl _ _⟩
  have h1 : ((w.alloc (budObj m 0)).alloc (budObj m 0)).heap[w.heap.size]? = some (budObj m 0) := by
    rw [Below.heap_alloc _ _ _ (by simp)]; exact heap_alloc_new w _
  have h2 : ((w.alloc (budObj m 0)).alloc (budObj m 0)).heap[w.heap.size + 1]? = some (budObj m 0) := by
    have := heap_alloc_new (w.alloc (budObj m 0)) (budObj m 0)
    rwa [show (w.alloc (budObj m 0)).heap.size = w.heap.size + 1 by simp] at this
  have hw0 : Below w.heap.size w ((w.alloc (budObj m 0)).alloc (budObj m 0)) := ((Below.refl _ _).alloc (Nat.le_refl _) _).alloc (by simp) _
  have X1 := Lib.hid h1
  have Y1 := Lib.hid h2
  have HW1 := Lib.hid hw0
  have hM : ∀ n, n ≤ a + b → 0 ≤ n → withinB (a + b) m = true → withinB n m = true := fun n h h0 ht => within_less ht (by omega) (by omega) h
  have ha0 : 0 ≤ a := by omega
  have hb0 : 0 ≤ b := by omega
  have hN : (w.alloc (budObj m 0)).heap.size = w.heap.size + 1 := by simp
  clear h1 h2 hw0
  have HN := Lib.hid hN
  clear hN
  cases hT : withinB (a + b) m with
  | true =>
    have HF := Lib.hid (hM a (by omega) ha0 hT)
    have HT := Lib.hid hT
    clear hT hM
    go_enter Try.func6, Try.ntmps6
    go_wp2_with fail
    refine (new_any _ _).mono ?_
    rintro e w1 ⟨rfl, rfl⟩
    go_wp2_with fail
    refine (new_any _ _).mono ?_
    rw [HN.out]
    rintro e w1 ⟨rfl, rfl⟩
    go_wp2_with fail
    refine (take_yes (w.heap.size) m (0) (a) _ X1.out (by omega) (by omega) (by omega) (by rw [Int.zero_add]; exact HF.out)).mono ?_
    rw [Int.zero_add]
    rintro e w3 ⟨rfl, k1, rfl⟩
    have X2 := Lib.hid (bud_set (k := k1) (v := a) X1.out)
    have Y2 := Lib.hid (bud_other (b := w.heap.size) (k := k1) (v := .int .i64 (a)) Y1.out (by omega))
    have HW2 := Lib.hid ((below_drewN HW1.out k1).setCell (p := ⟨w.heap.size, 1, none⟩) (by simp) (.int .i64 (a)))
    generalize (((w.alloc (budObj m 0)).alloc (budObj m 0)).drewN k1).setCell ⟨w.heap.size, 1, none⟩ (.int .i64 (a)) = W2 at X2 Y2 HW2 ⊢
    go_wp2_with fail
    refine (take_yes (w.heap.size) m (a) (b) _ X2.out (by omega) (by omega) (by omega) HT.out).mono ?_
    rintro e w3 ⟨rfl, k2, rfl⟩
    have X3 := Lib.hid (bud_set (k := k2) (v := a + b) X2.out)
    have Y3 := Lib.hid (bud_other (b := w.heap.size) (k := k2) (v := .int .i64 (a + b)) Y2.out (by omega))
    have HW3 := Lib.hid ((below_drewN HW2.out k2).setCell (p := ⟨w.heap.size, 1, none⟩) (by simp) (.int .i64 (a + b)))
    generalize (W2.drewN k2).setCell ⟨w.heap.size, 1, none⟩ (.int .i64 (a + b)) = W3 at X3 Y3 HW3 ⊢
    go_wp2_with fail
    refine (take_yes (w.heap.size + 1) m (0) ((a + b)) _ Y3.out (by omega) (by omega) (by omega) (by rw [Int.zero_add]; exact HT.out)).mono ?_
    rw [Int.zero_add]
    rintro e w3 ⟨rfl, k3, rfl⟩
    have Y4 := Lib.hid (bud_set (k := k3) (v := (a + b)) Y3.out)
    have X4 := Lib.hid (bud_other (b := w.heap.size + 1) (k := k3) (v := .int .i64 ((a + b))) X3.out (by omega))
    have HW4 := Lib.hid ((below_drewN HW3.out k3).setCell (p := ⟨w.heap.size + 1, 1, none⟩) (by simp) (.int .i64 ((a + b))))
    generalize (W3.drewN k3).setCell ⟨w.heap.size + 1, 1, none⟩ (.int .i64 ((a + b))) = W4 at X4 Y4 HW4 ⊢
    go_wp2_with fail
    refine (used_any w.heap.size m (a + b) _ X4.out).mono ?_
    rintro e w4 ⟨rfl, rfl⟩
    go_wp2_with fail
    refine (wakes3_any _).mono ?_
    rintro e w6 ⟨rfl, hb6⟩
    go_wp2
    go_ret
    exact ⟨rfl, HW4.out.trans (hb6.mono HW4.out.size)⟩
  | false =>
  have HT := Lib.hid hT
  clear hM
  cases hF : withinB a m with
  | true =>
    have HF := Lib.hid hF
    clear hT hF
    go_enter Try.func6, Try.ntmps6
    go_wp2_with fail
    refine (new_any _ _).mono ?_
    rintro e w1 ⟨rfl, rfl⟩
    go_wp2_with fail
    refine (new_any _ _).mono ?_
    rw [HN.out]
    rintro e w1 ⟨rfl, rfl⟩
    go_wp2_with fail
    refine (take_yes (w.heap.size) m (0) (a) _ X1.out (by omega) (by omega) (by omega) (by rw [Int.zero_add]; exact HF.out)).mono ?_
    rw [Int.zero_add]
    rintro e w3 ⟨rfl, k1, rfl⟩
    have X2 := Lib.hid (bud_set (k := k1) (v := a) X1.out)
    have Y2 := Lib.hid (bud_other (b := w.heap.size) (k := k1) (v := .int .i64 (a)) Y1.out (by omega))
    have HW2 := Lib.hid ((below_drewN HW1.out k1).setCell (p := ⟨w.heap.size, 1, none⟩) (by simp) (.int .i64 (a)))
    generalize (((w.alloc (budObj m 0)).alloc (budObj m 0)).drewN k1).setCell ⟨w.heap.size, 1, none⟩ (.int .i64 (a)) = W2 at X2 Y2 HW2 ⊢
    go_wp2_with fail
    refine (take_out (w.heap.size) m (a) (b) _ X2.out (by omega) (by omega) (by omega) HT.out).mono ?_
    rintro e w3 ⟨rfl, k2, rfl⟩
    have X3 := Lib.hid (bud_drew (k := k2) X2.out)
    have Y3 := Lib.hid (bud_drew (k := k2) Y2.out)
    have HW3 := Lib.hid (below_drewN HW2.out k2)
    generalize W2.drewN k2 = W3 at X3 Y3 HW3 ⊢
    go_wp2_with fail
    refine (take_out (w.heap.size + 1) m (0) ((a + b)) _ Y3.out (by omega) (by omega) (by omega) (by rw [Int.zero_add]; exact HT.out)).mono ?_
    rintro e w3 ⟨rfl, k3, rfl⟩
    have X4 := Lib.hid (bud_drew (k := k3) X3.out)
    have Y4 := Lib.hid (bud_drew (k := k3) Y3.out)
    have HW4 := Lib.hid (below_drewN HW3.out k3)
    generalize W3.drewN k3 = W4 at X4 Y4 HW4 ⊢
    go_wp2_with fail
    refine (used_any w.heap.size m (a) _ X4.out).mono ?_
    rintro e w4 ⟨rfl, rfl⟩
    go_wp2_with fail
    refine (wakes3_any _).mono ?_
    rintro e w6 ⟨rfl, hb6⟩
    go_wp2
    go_ret
    exact ⟨rfl, HW4.out.trans (hb6.mono HW4.out.size)⟩
  | false =>
  have HF := Lib.hid hF
  cases hS : withinB b m with
  | true =>
    have HS := Lib.hid hS
    clear hT hF hS
    go_enter Try.func6, Try.ntmps6
    go_wp2_with fail
    refine (new_any _ _).mono ?_
    rintro e w1 ⟨rfl, rfl⟩
    go_wp2_with fail
    refine (new_any _ _).mono ?_
    rw [HN.out]
    rintro e w1 ⟨rfl, rfl⟩
    go_wp2_with fail
    refine (take_out (w.heap.size) m (0) (a) _ X1.out (by omega) (by omega) (by omega) (by rw [Int.zero_add]; exact HF.out)).mono ?_
    rintro e w3 ⟨rfl, k1, rfl⟩
    have X2 := Lib.hid (bud_drew (k := k1) X1.out)
    have Y2 := Lib.hid (bud_drew (k := k1) Y1.out)
    have HW2 := Lib.hid (below_drewN HW1.out k1)
    generalize ((w.alloc (budObj m 0)).alloc (budObj m 0)).drewN k1 = W2 at X2 Y2 HW2 ⊢
    go_wp2_with fail
    refine (take_yes (w.heap.size) m (0) (b) _ X2.out (by omega) (by omega) (by omega) (by rw [Int.zero_add]; exact HS.out)).mono ?_
    rw [Int.zero_add]
    rintro e w3 ⟨rfl, k2, rfl⟩
    have X3 := Lib.hid (bud_set (k := k2) (v := b) X2.out)
    have Y3 := Lib.hid (bud_other (b := w.heap.size) (k := k2) (v := .int .i64 (b)) Y2.out (by omega))
    have HW3 := Lib.hid ((below_drewN HW2.out k2).setCell (p := ⟨w.heap.size, 1, none⟩) (by simp) (.int .i64 (b)))
    generalize (W2.drewN k2).setCell ⟨w.heap.size, 1, none⟩ (.int .i64 (b)) = W3 at X3 Y3 HW3 ⊢
    go_wp2_with fail
    refine (take_out (w.heap.size + 1) m (0) ((a + b)) _ Y3.out (by omega) (by omega) (by omega) (by rw [Int.zero_add]; exact HT.out)).mono ?_
    rintro e w3 ⟨rfl, k3, rfl⟩
    have X4 := Lib.hid (bud_drew (k := k3) X3.out)
    have Y4 := Lib.hid (bud_drew (k := k3) Y3.out)
    have HW4 := Lib.hid (below_drewN HW3.out k3)
    generalize W3.drewN k3 = W4 at X4 Y4 HW4 ⊢
    go_wp2_with fail
    refine (used_any w.heap.size m (b) _ X4.out).mono ?_
    rintro e w4 ⟨rfl, rfl⟩
    go_wp2_with fail
    refine (wakes3_any _).mono ?_
    rintro e w6 ⟨rfl, hb6⟩
    go_wp2
    go_ret
    exact ⟨rfl, HW4.out.trans (hb6.mono HW4.out.size)⟩
  | false =>
    have HS := Lib.hid hS
    clear hT hF hS
    go_enter Try.func6, Try.ntmps6
    go_wp2_with fail
    refine (new_any _ _).mono ?_
    rintro e w1 ⟨rfl, rfl⟩
    go_wp2_with fail
    refine (new_any _ _).mono ?_
    rw [HN.out]
    rintro e w1 ⟨rfl, rfl⟩
    go_wp2_with fail
    refine (take_out (w.heap.size) m (0) (a) _ X1.out (by omega) (by omega) (by omega) (by rw [Int.zero_add]; exact HF.out)).mono ?_
    rintro e w3 ⟨rfl, k1, rfl⟩
    have X2 := Lib.hid (bud_drew (k := k1) X1.out)
    have Y2 := Lib.hid (bud_drew (k := k1) Y1.out)
    have HW2 := Lib.hid (below_drewN HW1.out k1)
    generalize ((w.alloc (budObj m 0)).alloc (budObj m 0)).drewN k1 = W2 at X2 Y2 HW2 ⊢
    go_wp2_with fail
    refine (take_out (w.heap.size) m (0) (b) _ X2.out (by omega) (by omega) (by omega) (by rw [Int.zero_add]; exact HS.out)).mono ?_
    rintro e w3 ⟨rfl, k2, rfl⟩
    have X3 := Lib.hid (bud_drew (k := k2) X2.out)
    have Y3 := Lib.hid (bud_drew (k := k2) Y2.out)
    have HW3 := Lib.hid (below_drewN HW2.out k2)
    generalize W2.drewN k2 = W3 at X3 Y3 HW3 ⊢
    go_wp2_with fail
    refine (take_out (w.heap.size + 1) m (0) ((a + b)) _ Y3.out (by omega) (by omega) (by omega) (by rw [Int.zero_add]; exact HT.out)).mono ?_
    rintro e w3 ⟨rfl, k3, rfl⟩
    have X4 := Lib.hid (bud_drew (k := k3) X3.out)
    have Y4 := Lib.hid (bud_drew (k := k3) Y3.out)
    have HW4 := Lib.hid (below_drewN HW3.out k3)
    generalize W3.drewN k3 = W4 at X4 Y4 HW4 ⊢
    go_wp2_with fail
    refine (used_any w.heap.size m (0) _ X4.out).mono ?_
    rintro e w4 ⟨rfl, rfl⟩
    go_wp2_with fail
    refine (wakes3_any _).mono ?_
    rintro e w6 ⟨rfl, hb6⟩
    go_wp2
    go_ret
    exact ⟨rfl, HW4.out.trans (hb6.mono HW4.out.size)⟩
end Go.Proofs.Ytjoolpmaehnhpaa
