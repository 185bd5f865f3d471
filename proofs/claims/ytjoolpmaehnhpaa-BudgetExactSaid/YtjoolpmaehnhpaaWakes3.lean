/-
  transhiplaw03.wakes.
-/
import Derived.Test.YtjoolpmaehnhpaaBudL
namespace Go.Proofs.Ytjoolpmaehnhpaa
open Go.RowKit

theorem bud_set {w : World} {b m k : Nat} {u v : Int} (h : w.heap[b]? = some (budObj m u)) : ((w.drewN k).setCell ⟨b, 1, none⟩ (.int .i64 v)).heap[b]? = some (budObj m v) :=
  heap_setCell_same _ _ _ _ _ _ (show (w.drewN k).heap[b]? = _ from h)
theorem below_drewN {B : Nat} {a w : World} (h : Below B a w) (k : Nat) : Below B a (w.drewN k) := ⟨h.os, h.tape, h.output, h.size, h.block⟩
theorem bud_drew {w : World} {b m k : Nat} {u : Int} (h : w.heap[b]? = some (budObj m u)) : (w.drewN k).heap[b]? = some (budObj m u) := h
set_option maxRecDepth 100000 in
theorem copysign_c (w : World) : Calls Try.prog 74 #[.float .f64 0, .float .f64 13830554455654793216] w fun e w' => e = .returned (.float .f64 9223372036854775808) ∧ w' = w := by
  have h1 := bits_run 0
  have h2 := bits_run 13830554455654793216
  have h3 : ∀ w, (callFunc 117 #[.int .u64 (bits .or .u64 (bits .andNot .u64 0 9223372036854775808) (bits .and .u64 13830554455654793216 9223372036854775808))]).run Try.prog w = .ok (.value (.float .f64 9223372036854775808)) w := fun w => by
    rw [frombits_run, show (bits .or .u64 (bits .andNot .u64 0 9223372036854775808) (bits .and .u64 13830554455654793216 9223372036854775808)).toNat = 9223372036854775808 by decide +kernel]
  go_enter Try.func74, Try.ntmps74
  go_wp2
  go_ret
  exact ⟨rfl, rfl⟩
theorem nan_c (w : World) : Calls Try.prog 75 #[] w fun e w' => e = .returned (.float .f64 9221120237041090561) ∧ w' = w := by
  have h3 := frombits_run 9221120237041090561
  go_enter Try.func75, Try.ntmps75
  go_wp2
  go_ret
  exact ⟨rfl, rfl⟩
theorem inf_c (w : World) : Calls Try.prog 76 #[.int .i64 1] w fun e w' => e = .returned (.float .f64 9218868437227405312) ∧ w' = w := by
  have h3 := frombits_run 9218868437227405312
  go_enter Try.func76, Try.ntmps76
  go_wp2
  go_ret
  exact ⟨rfl, rfl⟩

set_option maxRecDepth 100000 in
set_option maxHeartbeats 1000000 in
theorem wakes3_any (w : World) : Calls Try.prog 23 #[] w fun e w' => e = .returned (.bool true) ∧ Below w.heap.size w w' := by
  have h1 : (w.alloc (budObj 4612811918334230528 0)).heap[w.heap.size]? = some (budObj 4612811918334230528 0) := heap_alloc_new w _
  have hw0 : Below w.heap.size w (w.alloc (budObj 4612811918334230528 0)) := (Below.refl _ _).alloc (Nat.le_refl _) _
  have H1 := Lib.hid h1
  have HW0 := Lib.hid hw0
  clear h1 hw0
  go_enter Try.func23, Try.ntmps23
  go_wp2_with fail
  refine (new_any _ _).mono ?_
  rintro e w1 ⟨rfl, rfl⟩
  go_wp2_with fail
  refine (take_yes w.heap.size 4612811918334230528 0 2 _ H1.out (by decide) (by decide) (by decide) (by decide +kernel)).mono ?_
  rintro e w2 ⟨rfl, k2, rfl⟩
  have H2 := Lib.hid (bud_set (k := k2) (v := 0 + 2) H1.out)
  have HW2 := Lib.hid ((show Below w.heap.size w ((w.alloc (budObj 4612811918334230528 0)).drewN k2) from below_drewN HW0.out k2).setCell (Nat.le_refl w.heap.size) (p := ⟨w.heap.size, 1, none⟩) (.int .i64 (0 + 2)))
  generalize ((w.alloc (budObj 4612811918334230528 0)).drewN k2).setCell ⟨w.heap.size, 1, none⟩ (.int .i64 (0 + 2)) = W2 at H2 HW2 ⊢
  go_wp2_with fail
  refine (take_out w.heap.size 4612811918334230528 (0 + 2) 1 _ H2.out (by decide) (by decide) (by decide) (by decide +kernel)).mono ?_
  rintro e w3 ⟨rfl, k3, rfl⟩
  have H3 := Lib.hid (bud_drew (k := k3) H2.out)
  have HW3 := Lib.hid (below_drewN HW2.out k3)
  generalize W2.drewN k3 = W3 at H3 HW3 ⊢
  go_wp2_with fail
  refine (used_any w.heap.size 4612811918334230528 (0 + 2) _ H3.out).mono ?_
  rintro e w4 ⟨rfl, rfl⟩
  go_wp2_with fail
  refine (left_any w.heap.size 4612811918334230528 (0 + 2) _ H3.out (by decide)).mono ?_
  rw [show leftB 4612811918334230528 (0 + 2) = 0 by decide +kernel]
  rintro e w5 ⟨rfl, k5, rfl⟩
  have HW5 := Lib.hid (below_drewN HW3.out k5)
  have z0 : (FloatKind.f64.format.order 0 0 == some Ordering.eq) = true := by decide +kernel
  go_wp2_with fail
  refine (copysign_c _).mono ?_
  rintro e w6 ⟨rfl, rfl⟩
  go_wp2_with fail
  refine (within_any _ _ _).mono ?_
  rw [show withinB 0 9223372036854775808 = true by decide +kernel]
  rintro e w7 ⟨rfl, rfl⟩
  go_wp2_with fail
  refine (nan_c _).mono ?_
  rintro e w8 ⟨rfl, rfl⟩
  go_wp2_with fail
  refine (within_any _ _ _).mono ?_
  rw [show withinB 0 9221120237041090561 = false by decide +kernel]
  rintro e w9 ⟨rfl, rfl⟩
  go_wp2_with fail
  refine (inf_c _).mono ?_
  rintro e w10 ⟨rfl, rfl⟩
  go_wp2_with fail
  refine (within_any _ _ _).mono ?_
  rw [show withinB 4611686018427387904 9218868437227405312 = true by decide +kernel]
  rintro e w11 ⟨rfl, rfl⟩
  go_wp2
  go_ret
  exact ⟨rfl, HW5.out⟩
end Go.Proofs.Ytjoolpmaehnhpaa
