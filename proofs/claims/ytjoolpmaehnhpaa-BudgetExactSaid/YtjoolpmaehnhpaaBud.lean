/-
  budget: Within, Take, Used, Left.
-/
import Derived.Test.YtjoolpmaehnhpaaFl
import Derived.Test.YtjoolpmaehnhpaaRows
import Derived.ProofKit
import Derived.WalkKit
import Derived.LoopTactic
import Derived.Lib.Hide
import Derived.Below
import Derived.IntWalk
import Derived.Laws.Cover2
import Derived.Laws.FloatArith
import Derived.Laws.Externs
import Derived.Deep.QuietTactic
import Derived.BigQuiet
namespace Go.Proofs.Ytjoolpmaehnhpaa
open Go.RowKit

/-- Is a number within an allowance? -/
def withinB (n : Int) (m : Nat) : Bool := FloatKind.f64.format.order (floatOfInt .f64 n) m == some .lt || FloatKind.f64.format.order (floatOfInt .f64 n) m == some .eq
theorem withinB_eq (n : Int) (m : Nat) : withinB n m = Fl.leD (Fl.fi n) (Ieee.double.read m) := rfl
theorem within_any (n : Int) (m : Nat) (w : World) : Calls Try.prog 24 #[.int .i64 n, .float .f64 m] w fun e w' => e = .returned (.bool (withinB n m)) ∧ w' = w := by
  go_enter Try.func24, Try.ntmps24
  go_wp2
  go_ret
  exact ⟨rfl, rfl⟩
theorem pwithin_any (n : Int) (m : Nat) (w : World) : Calls Try.prog 25 #[.int .i64 n, .float .f64 m] w fun e w' => e = .returned (.bool (withinB n m)) ∧ w' = w := by
  go_enter Try.func25, Try.ntmps25
  go_wp2
  go_ret
  exact ⟨rfl, rfl⟩
theorem bits_run (x : Nat) (w : World) : (callFunc 70 #[.float .f64 x]).run Try.prog w = .ok (.value (.int .u64 x)) w := by
  rw [run_callFunc_extern (e := Extern.MathFloatBits.float64bits) Try.func70 (by kernel_rfl) (by kernel_rfl) (by kernel_rfl) (by kernel_rfl)]; rfl
theorem frombits_run (x : Int) (w : World) : (callFunc 117 #[.int .u64 x]).run Try.prog w = .ok (.value (.float .f64 x.toNat)) w := by
  rw [run_callFunc_extern (e := Extern.MathFloatBits.float64frombits) Try.func117 (by kernel_rfl) (by kernel_rfl) (by kernel_rfl) (by kernel_rfl)]; rfl
theorem trunc_run (x : Nat) (w : World) : (callFunc 115 #[.float .f64 x]).run Try.prog w = ((Extern.MathFloor.toIntegral "math.archTrunc" .zero #[.float .f64 x]).run Try.prog w).andThen fun v w' => .ok (.value v) w' := by
  rw [run_callFunc_extern (e := Extern.MathFloor.toIntegral "math.archTrunc" .zero) Try.func115 (by kernel_rfl) (by kernel_rfl) (by kernel_rfl) (by kernel_rfl)]

def I64 (x : Int) : Prop := -9223372036854775808 ≤ x ∧ x ≤ 9223372036854775807
theorem wf_I64 {x : Int} (h : (Lit.int .i64 x).wf = true) : I64 x := by
  simp [Lit.wf] at h
  have hm : IntKind.i64.min = -9223372036854775808 := by decide
  rw [hm] at h
  exact h
/-- A budget lies here. -/
abbrev budObj (m : Nat) (u : Int) : Obj := .cells #[.float .f64 m, .int .i64 u] 43
theorem bud_cells {w : World} {b : Nat} {x y : Value} {T : TypeId} {fr : Nat × Nat} (h : w.heap[b]? = some (.cells #[x, y] T fr)) : w.cell? ⟨b, 0, none⟩ = some x ∧ w.cell? ⟨b, 1, none⟩ = some y :=
  ⟨by rw [cell_of_row w b 0 _ _ _ h]; rfl, by rw [cell_of_row w b 1 _ _ _ h]; rfl⟩
theorem bud_unfrozen {w : World} {b : Nat} {cs : Array Value} {T : TypeId} (h : w.heap[b]? = some (.cells cs T (0, 0))) (q : Nat) : w.frozen? ⟨b, q, none⟩ = false := by
  unfold World.frozen?
  rw [show (⟨b, q, none⟩ : Addr).block = b from rfl, h]; rfl
theorem new_any (m : Nat) (w : World) : Calls Try.prog 16 #[.float .f64 m] w fun e w' => e = .returned (.pointer (some ⟨w.heap.size, 0, none⟩)) ∧ w' = w.alloc (budObj m 0) := by
  go_enter Try.func16, Try.ntmps16
  go_wp2
  go_ret
  exact ⟨rfl, rfl⟩

set_option maxHeartbeats 1000000 in
theorem take_nil (n : Int) (w : World) : Calls Try.prog 17 #[.pointer none, .int .i64 n] w fun e w' => e = .returned (.bool false) ∧ ∃ k, w' = w.drewN k := by
  go_enter Try.func17, Try.ntmps17
  go_wp2_with fail
  go_quiet (fail)
  go_wp2
  go_ret
  exact ⟨rfl, _, rfl⟩
set_option maxHeartbeats 1000000 in
theorem take_neg (b m : Nat) (u n : Int) (w : World) (h : w.heap[b]? = some (budObj m u)) (hn : n < 0) : Calls Try.prog 17 #[.pointer (some ⟨b, 0, none⟩), .int .i64 n] w fun e w' => e = .returned (.bool false) ∧ ∃ k, w' = w.drewN k := by
  have e1 : decide (n < 0) = true := by simpa using hn
  obtain ⟨c0, c1⟩ := bud_cells h
  clear h hn
  go_enter Try.func17, Try.ntmps17
  go_wp2_with fail
  go_quiet (fail)
  go_wp2
  go_ret
  exact ⟨rfl, _, rfl⟩
set_option maxHeartbeats 1000000 in
theorem take_over (b m : Nat) (u n : Int) (w : World) (h : w.heap[b]? = some (budObj m u)) (h0 : 0 ≤ n) (hu : 0 ≤ u) (hu1 : u ≤ 9223372036854775807) (hn : 9223372036854775807 - u < n) : Calls Try.prog 17 #[.pointer (some ⟨b, 0, none⟩), .int .i64 n] w fun e w' => e = .returned (.bool false) ∧ ∃ k, w' = w.drewN k := by
  have e1 : decide (n < 0) = false := by simpa using h0
  have e2 : decide (9223372036854775807 - u < n) = true := by simpa using hn
  obtain ⟨c0, c1⟩ := bud_cells h
  clear h hn
  go_enter Try.func17, Try.ntmps17
  go_wp2_with fail
  go_quiet (fail)
  go_wp2
  go_ret
  exact ⟨rfl, _, rfl⟩
set_option maxHeartbeats 1000000 in
theorem take_out (b m : Nat) (u n : Int) (w : World) (h : w.heap[b]? = some (budObj m u)) (h0 : 0 ≤ n) (hu : 0 ≤ u) (hn : n ≤ 9223372036854775807 - u) (hw : withinB (u + n) m = false) : Calls Try.prog 17 #[.pointer (some ⟨b, 0, none⟩), .int .i64 n] w fun e w' => e = .returned (.bool false) ∧ ∃ k, w' = w.drewN k := by
  have e1 : decide (n < 0) = false := by simpa using h0
  have e2 : decide (9223372036854775807 - u < n) = false := by simpa using hn
  obtain ⟨c0, c1⟩ := bud_cells h
  have HW := Lib.hid fun w => within_any (u + n) m w
  rw [hw] at HW
  have hs : IntKind.i64.wrap (u + n) = u + n := IntWalk.i64_in _ (by omega)
  clear h hw
  go_enter Try.func17, Try.ntmps17
  go_wp2_with fail
  go_quiet ((go_at_call 24; exact Calls.quiet_of_same (HW.out _)))
  go_wp2
  go_ret
  exact ⟨rfl, _, rfl⟩
set_option maxHeartbeats 1000000 in
theorem take_yes (b m : Nat) (u n : Int) (w : World) (h : w.heap[b]? = some (budObj m u)) (h0 : 0 ≤ n) (hu : 0 ≤ u) (hn : n ≤ 9223372036854775807 - u) (hw : withinB (u + n) m = true) : Calls Try.prog 17 #[.pointer (some ⟨b, 0, none⟩), .int .i64 n] w fun e w' => e = .returned (.bool true) ∧ ∃ k, w' = (w.drewN k).setCell ⟨b, 1, none⟩ (.int .i64 (u + n)) := by
  have e1 : decide (n < 0) = false := by simpa using h0
  have e2 : decide (9223372036854775807 - u < n) = false := by simpa using hn
  obtain ⟨c0, c1⟩ := bud_cells h
  have HW := Lib.hid fun w => within_any (u + n) m w
  rw [hw] at HW
  have hs : IntKind.i64.wrap (u + n) = u + n := IntWalk.i64_in _ (by omega)
  have f1 := bud_unfrozen h 1
  clear h hw
  go_enter Try.func17, Try.ntmps17
  go_wp2_with fail
  go_quiet ((go_at_call 24; exact Calls.quiet_of_same (HW.out _)))
  go_wp2
  go_ret
  exact ⟨rfl, _, rfl⟩
theorem used_nil (w : World) : Calls Try.prog 19 #[.pointer none] w fun e w' => e = .returned (.int .i64 0) ∧ w' = w := by
  go_enter Try.func19, Try.ntmps19
  go_wp2
  go_ret
  exact ⟨rfl, rfl⟩
theorem used_any (b m : Nat) (u : Int) (w : World) (h : w.heap[b]? = some (budObj m u)) : Calls Try.prog 19 #[.pointer (some ⟨b, 0, none⟩)] w fun e w' => e = .returned (.int .i64 u) ∧ w' = w := by
  obtain ⟨c0, c1⟩ := bud_cells h
  clear h
  go_enter Try.func19, Try.ntmps19
  go_wp2
  go_ret
  exact ⟨rfl, rfl⟩
theorem left_nil (w : World) : Calls Try.prog 21 #[.pointer none] w fun e w' => e = .returned (.float .f64 0) ∧ w' = w := by
  go_enter Try.func21, Try.ntmps21
  go_wp2
  go_ret
  exact ⟨rfl, rfl⟩
/-- What Trunc hands back of a number. -/
def truncB (m : Nat) : Nat := FloatKind.f64.encode ((FloatKind.f64.decode m).integral .zero)
theorem trunc_any (m : Nat) (w : World) (h : (FloatKind.f64.decode m).isNaN = false) : Calls Try.prog 73 #[.float .f64 m] w fun e w' => e = .returned (.float .f64 (truncB m)) ∧ w' = w := by
  have hr : ∀ w, (callFunc 115 #[.float .f64 m]).run Try.prog w = .ok (.value (.float .f64 (truncB m))) w := fun w => by
    rw [trunc_run]
    unfold truncB
    have key : ∀ d : Ieee.Datum, FloatKind.f64.decode m = d → d.isNaN = false → (Extern.MathFloor.toIntegral "math.archTrunc" .zero #[.float .f64 m]).run Try.prog w = .ok (.float .f64 (FloatKind.f64.encode (d.integral .zero))) w := by
      intro d hd hn
      change Sem.run Try.prog (match FloatKind.f64.decode m with
        | .nan _ _ => _
        | d => pure (Value.float .f64 (FloatKind.f64.encode (d.integral .zero)))) w = _
      rw [hd]
      cases d with
      | nan s t => cases hn
      | infinity s => rfl
      | number s n i => rfl
    rw [key _ rfl h]; rfl
  clear h
  go_enter Try.func73, Try.ntmps73
  go_wp2
  go_ret
  exact ⟨rfl, rfl⟩
end Go.Proofs.Ytjoolpmaehnhpaa
