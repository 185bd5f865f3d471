/-
  The page's budget; both Takes as one contract each; the page's Left.
-/
import Derived.Test.YtjoolpmaehnhpaaBudgetLeast
import Derived.Deep.RegionHeld3
namespace Go.Proofs.Ytjoolpmaehnhpaa
open Go.RowKit

abbrev pbudObj (m : Nat) (u : Int) : Obj := .cells #[.float .f64 m, .int .i64 u] 28
set_option maxHeartbeats 1000000 in
theorem ptake_neg (b m : Nat) (u n : Int) (w : World) (h : w.heap[b]? = some (pbudObj m u)) (hn : n < 0) : Calls Try.prog 18 #[.pointer (some ⟨b, 0, none⟩), .int .i64 n] w fun e w' => e = .returned (.bool false) ∧ ∃ k, w' = w.drewN k := by
  have e1 : decide (n < 0) = true := by simpa using hn
  obtain ⟨c0, c1⟩ := bud_cells h
  clear h hn
  go_enter Try.func18, Try.ntmps18
  go_wp2_with fail
  go_quiet (fail)
  go_wp2
  go_ret
  exact ⟨rfl, _, rfl⟩
set_option maxHeartbeats 1000000 in
theorem ptake_over (b m : Nat) (u n : Int) (w : World) (h : w.heap[b]? = some (pbudObj m u)) (h0 : 0 ≤ n) (hu : 0 ≤ u) (hu1 : u ≤ 9223372036854775807) (hn : 9223372036854775807 - u < n) : Calls Try.prog 18 #[.pointer (some ⟨b, 0, none⟩), .int .i64 n] w fun e w' => e = .returned (.bool false) ∧ ∃ k, w' = w.drewN k := by
  have e1 : decide (n < 0) = false := by simpa using h0
  have e2 : decide (9223372036854775807 - u < n) = true := by simpa using hn
  obtain ⟨c0, c1⟩ := bud_cells h
  clear h hn
  go_enter Try.func18, Try.ntmps18
  go_wp2_with fail
  go_quiet (fail)
  go_wp2
  go_ret
  exact ⟨rfl, _, rfl⟩
set_option maxHeartbeats 1000000 in
theorem ptake_out (b m : Nat) (u n : Int) (w : World) (h : w.heap[b]? = some (pbudObj m u)) (h0 : 0 ≤ n) (hu : 0 ≤ u) (hn : n ≤ 9223372036854775807 - u) (hw : withinB (u + n) m = false) : Calls Try.prog 18 #[.pointer (some ⟨b, 0, none⟩), .int .i64 n] w fun e w' => e = .returned (.bool false) ∧ ∃ k, w' = w.drewN k := by
  have e1 : decide (n < 0) = false := by simpa using h0
  have e2 : decide (9223372036854775807 - u < n) = false := by simpa using hn
  obtain ⟨c0, c1⟩ := bud_cells h
  have HW := Lib.hid fun w => pwithin_any (u + n) m w
  rw [hw] at HW
  have hs : IntKind.i64.wrap (u + n) = u + n := IntWalk.i64_in _ (by omega)
  clear h hw
  go_enter Try.func18, Try.ntmps18
  go_wp2_with fail
  go_quiet ((go_at_call 25; exact Calls.quiet_of_same (HW.out _)))
  go_wp2
  go_ret
  exact ⟨rfl, _, rfl⟩
set_option maxHeartbeats 1000000 in
theorem ptake_yes (b m : Nat) (u n : Int) (w : World) (h : w.heap[b]? = some (pbudObj m u)) (h0 : 0 ≤ n) (hu : 0 ≤ u) (hn : n ≤ 9223372036854775807 - u) (hw : withinB (u + n) m = true) : Calls Try.prog 18 #[.pointer (some ⟨b, 0, none⟩), .int .i64 n] w fun e w' => e = .returned (.bool true) ∧ ∃ k, w' = (w.drewN k).setCell ⟨b, 1, none⟩ (.int .i64 (u + n)) := by
  have e1 : decide (n < 0) = false := by simpa using h0
  have e2 : decide (9223372036854775807 - u < n) = false := by simpa using hn
  obtain ⟨c0, c1⟩ := bud_cells h
  have HW := Lib.hid fun w => pwithin_any (u + n) m w
  rw [hw] at HW
  have hs : IntKind.i64.wrap (u + n) = u + n := IntWalk.i64_in _ (by omega)
  have f1 := bud_unfrozen h 1
  clear h hw
  go_enter Try.func18, Try.ntmps18
  go_wp2_with fail
  go_quiet ((go_at_call 25; exact Calls.quiet_of_same (HW.out _)))
  go_wp2
  go_ret
  exact ⟨rfl, _, rfl⟩

/-- Only this block has turned. -/
structure Upd (b : Nat) (o : Obj) (w w' : World) : Prop where
  here : w'.heap[b]? = some o
  other : ∀ c, c ≠ b → w'.heap[c]? = w.heap[c]?
  os : w'.os = w.os
  tape : w'.tape = w.tape
  output : w'.output = w.output
  size : w'.heap.size = w.heap.size
theorem Upd.below {b B : Nat} {o : Obj} {w w' : World} (h : Upd b o w w') (hB : B ≤ b) : Below B w w' := ⟨h.os, h.tape, h.output, by rw [h.size]; exact Nat.le_refl _, fun k hk => h.other k (by omega)⟩
theorem upd_drew {w : World} {b k : Nat} {o : Obj} (h : w.heap[b]? = some o) : Upd b o w (w.drewN k) := ⟨h, fun _ _ => rfl, rfl, rfl, rfl, rfl⟩
theorem upd_set {w : World} {b m k : Nat} {u v : Int} {T : TypeId} (h : w.heap[b]? = some (.cells #[.float .f64 m, .int .i64 u] T (0, 0))) : Upd b (.cells #[.float .f64 m, .int .i64 v] T) w ((w.drewN k).setCell ⟨b, 1, none⟩ (.int .i64 v)) :=
  ⟨heap_setCell_same _ _ _ _ _ _ (show (w.drewN k).heap[b]? = _ from h), fun c hc => Below.heap_setCell _ _ _ _ (by exact hc), rfl, rfl, rfl, by simp [World.setCell]⟩
def takeB (u n : Int) (m : Nat) : Bool := decide (0 ≤ n) && (decide (n ≤ 9223372036854775807 - u) && withinB (u + n) m)
def nextU (u n : Int) (m : Nat) : Int := if takeB u n m = true then u + n else u
theorem take_ways (u n : Int) (m : Nat) : (n < 0 ∧ takeB u n m = false) ∨ (0 ≤ n ∧ 9223372036854775807 - u < n ∧ takeB u n m = false) ∨ (0 ≤ n ∧ n ≤ 9223372036854775807 - u ∧ withinB (u + n) m = false ∧ takeB u n m = false) ∨ (0 ≤ n ∧ n ≤ 9223372036854775807 - u ∧ withinB (u + n) m = true ∧ takeB u n m = true) := by
  unfold takeB
  by_cases h0 : n < 0
  · exact Or.inl ⟨h0, by simp; omega⟩
  · by_cases h1 : 9223372036854775807 - u < n
    · exact Or.inr (Or.inl ⟨by omega, h1, by simp; omega⟩)
    · cases h : withinB (u + n) m with
      | false => exact Or.inr (Or.inr (Or.inl ⟨by omega, by omega, rfl, by simp⟩))
      | true => exact Or.inr (Or.inr (Or.inr ⟨by omega, by omega, rfl, by simp; omega⟩))
theorem nextU_no {u n : Int} {m : Nat} (h : takeB u n m = false) : nextU u n m = u := by unfold nextU; rw [if_neg (by rw [h]; decide)]
theorem nextU_yes {u n : Int} {m : Nat} (h : takeB u n m = true) : nextU u n m = u + n := by unfold nextU; rw [if_pos h]
theorem nextU_range {u n : Int} {m : Nat} (h0 : 0 ≤ u) (h1 : u ≤ 9223372036854775807) : 0 ≤ nextU u n m ∧ nextU u n m ≤ 9223372036854775807 := by
  rcases take_ways u n m with ⟨-, h⟩ | ⟨-, -, h⟩ | ⟨-, -, -, h⟩ | ⟨a, b, -, h⟩
  · rw [nextU_no h]; omega
  · rw [nextU_no h]; omega
  · rw [nextU_no h]; omega
  · rw [nextU_yes h]; omega
theorem take_all (b m : Nat) (u n : Int) (w : World) (h : w.heap[b]? = some (budObj m u)) (hu : 0 ≤ u) (hu1 : u ≤ 9223372036854775807) : Calls Try.prog 17 #[.pointer (some ⟨b, 0, none⟩), .int .i64 n] w fun e w' => e = .returned (.bool (takeB u n m)) ∧ Upd b (budObj m (nextU u n m)) w w' := by
  rcases take_ways u n m with ⟨a1, e⟩ | ⟨a1, a2, e⟩ | ⟨a1, a2, a3, e⟩ | ⟨a1, a2, a3, e⟩
  · rw [nextU_no e, e]
    refine (take_neg b m u n w h a1).mono ?_
    rintro e w' ⟨rfl, k, rfl⟩
    exact ⟨rfl, upd_drew h⟩
  · rw [nextU_no e, e]
    refine (take_over b m u n w h a1 hu hu1 a2).mono ?_
    rintro e w' ⟨rfl, k, rfl⟩
    exact ⟨rfl, upd_drew h⟩
  · rw [nextU_no e, e]
    refine (take_out b m u n w h a1 hu a2 a3).mono ?_
    rintro e w' ⟨rfl, k, rfl⟩
    exact ⟨rfl, upd_drew h⟩
  · rw [nextU_yes e, e]
    refine (take_yes b m u n w h a1 hu a2 a3).mono ?_
    rintro e w' ⟨rfl, k, rfl⟩
    exact ⟨rfl, upd_set h⟩
theorem ptake_all (b m : Nat) (u n : Int) (w : World) (h : w.heap[b]? = some (pbudObj m u)) (hu : 0 ≤ u) (hu1 : u ≤ 9223372036854775807) : Calls Try.prog 18 #[.pointer (some ⟨b, 0, none⟩), .int .i64 n] w fun e w' => e = .returned (.bool (takeB u n m)) ∧ Upd b (pbudObj m (nextU u n m)) w w' := by
  rcases take_ways u n m with ⟨a1, e⟩ | ⟨a1, a2, e⟩ | ⟨a1, a2, a3, e⟩ | ⟨a1, a2, a3, e⟩
  · rw [nextU_no e, e]
    refine (ptake_neg b m u n w h a1).mono ?_
    rintro e w' ⟨rfl, k, rfl⟩
    exact ⟨rfl, upd_drew h⟩
  · rw [nextU_no e, e]
    refine (ptake_over b m u n w h a1 hu hu1 a2).mono ?_
    rintro e w' ⟨rfl, k, rfl⟩
    exact ⟨rfl, upd_drew h⟩
  · rw [nextU_no e, e]
    refine (ptake_out b m u n w h a1 hu a2 a3).mono ?_
    rintro e w' ⟨rfl, k, rfl⟩
    exact ⟨rfl, upd_drew h⟩
  · rw [nextU_yes e, e]
    refine (ptake_yes b m u n w h a1 hu a2 a3).mono ?_
    rintro e w' ⟨rfl, k, rfl⟩
    exact ⟨rfl, upd_set h⟩
theorem nan_run (m : Nat) (h : (FloatKind.f64.decode m).isNaN = true) (w : World) : ∃ r k, (callFunc 115 #[.float .f64 m]).run Try.prog w = .ok (.value (.float .f64 r)) (w.drewN k) := by
  rw [trunc_run]
  have key : ∀ d : Ieee.Datum, FloatKind.f64.decode m = d → d.isNaN = true → ∃ r k, (Extern.MathFloor.toIntegral "math.archTrunc" .zero #[.float .f64 m]).run Try.prog w = .ok (.float .f64 r) (w.drewN k) := by
    intro d hd hn
    cases d with
    | infinity s => cases hn
    | number s n i => cases hn
    | nan s t =>
      by_cases hq : FloatKind.f64.format.quiet t = t
      · refine ⟨m, 0, ?_⟩
        change Sem.run Try.prog (match FloatKind.f64.decode m with
          | .nan s t => if FloatKind.f64.format.quiet t = t then pure (Value.float .f64 m) else _
          | d => _) w = _
        rw [hd]
        simp only [if_pos hq]
        rfl
      · suffices hs : ∃ r, (Extern.MathFloor.toIntegral "math.archTrunc" .zero #[.float .f64 m]).run Try.prog w = .ok (.float .f64 r) (w.drewN 1) from ⟨hs.choose, 1, hs.choose_spec⟩
        change ∃ r, Sem.run Try.prog (match FloatKind.f64.decode m with
          | .nan s t => if FloatKind.f64.format.quiet t = t then pure (Value.float .f64 m) else _
          | d => _) w = Result.ok (Value.float .f64 r) (w.drewN 1)
        rw [hd]
        simp only [if_neg hq]
        exact ⟨_, rfl⟩
  obtain ⟨r, k, hr⟩ := key _ rfl h
  exact ⟨r, k, by rw [hr]; rfl⟩
set_option maxRecDepth 100000 in
theorem trunc_at (m : Nat) (h : (FloatKind.f64.decode m).isNaN = true) (w : World) : Calls Try.prog 73 #[.float .f64 m] w fun e w' => ∃ r, e = .returned (.float .f64 r) ∧ ∃ k, w' = w.drewN k := by
  obtain ⟨r, k, hr⟩ := nan_run m h w
  clear h
  go_enter Try.func73, Try.ntmps73
  go_wp2_with fail
  go_ret
  exact ⟨r, rfl, k, rfl⟩
/-- Only draws. -/
def Drawn (w w' : World) : Prop := ∃ k, w' = w.drewN k
theorem drawn_start (w : World) : Drawn w w := ⟨0, rfl⟩
theorem drawn_drew {w w1 : World} (h : Drawn w w1) : Drawn w w1.drew := by obtain ⟨k, rfl⟩ := h; exact ⟨k + 1, (World.drewN_drewN _ _ 1)⟩
theorem drawn_n {w w1 : World} (h : Drawn w w1) (k : Nat) : Drawn w (w1.drewN k) := by obtain ⟨q, rfl⟩ := h; exact ⟨q + k, (World.drewN_drewN _ _ _)⟩
theorem drawn_any (w : World) (k : Nat) : Drawn w (w.drewN k) := ⟨k, rfl⟩
theorem drawn_cells {w w' : World} {b : Nat} {x y : Value} (h : Drawn w w') (H : w.cell? ⟨b, 0, none⟩ = some x ∧ w.cell? ⟨b, 1, none⟩ = some y) : Drawn w w' ∧ w'.cell? ⟨b, 0, none⟩ = some x ∧ w'.cell? ⟨b, 1, none⟩ = some y := by
  refine ⟨h, ?_⟩
  obtain ⟨k, rfl⟩ := h
  exact H
theorem drawn_below {w w' : World} {B : Nat} (h : Drawn w w') : Below B w w' := by obtain ⟨k, rfl⟩ := h; exact below_drewN (Below.refl _ _) k
theorem inf_nan (m : Nat) (h : (FloatKind.f64.format.order m m != some .eq) = true) : (FloatKind.f64.decode m).isNaN = true ∧ (FloatKind.f64.format.order m 9218868437227405311 == some .gt) = false := by
  have hn : nanB m = true := h
  rw [nan_iff] at hn
  refine ⟨hn, ?_⟩
  show ((Ieee.double.read m).order (Ieee.double.read 9218868437227405311) == some .gt) = false
  cases e : Ieee.double.read m with
  | nan s t => rfl
  | infinity s => rw [e] at hn; cases hn
  | number s n i => rw [e] at hn; cases hn

set_option maxHeartbeats 2000000 in
theorem pleft_any (b m : Nat) (u : Int) (w : World) (h : w.heap[b]? = some (pbudObj m u)) (hu : u.natAbs ≤ 2 ^ 64) : Calls Try.prog 22 #[.pointer (some ⟨b, 0, none⟩)] w fun e w' => e = .returned (.float .f64 (leftB m u)) ∧ Drawn w w' := by
  have hcc := bud_cells h
  obtain ⟨c0, c1⟩ := hcc
  have HC := Lib.hid (And.intro c0 c1)
  have HI := Lib.hid (isinf_any m)
  have HL : ∀ r, leftB m u = r → Hid (leftB m u = r) := fun _ h => h
  clear h
  cases hN : (FloatKind.f64.format.order m m != some .eq) with
  | true =>
    have HR := HL 0 (by unfold leftB; rw [if_pos hN])
    obtain ⟨hna, hI⟩ := inf_nan m hN
    have HT := Lib.hid (trunc_at m hna)
    rw [hI] at HI
    have hD0 := drawn_start w
    clear HL hI hu hna
    go_enter Try.func22, Try.ntmps22
    go_wp2_with fail
    refine (HI.out _).mono ?_
    rintro e w2 ⟨rfl, hw⟩
    obtain rfl := hw.symm
    go_wp2_with fail
    go_region_held3 (fun w' => Drawn w w' ∧ w'.cell? ⟨b, 0, none⟩ = some (.float .f64 m) ∧ w'.cell? ⟨b, 1, none⟩ = some (.int .i64 u))
      (((with_reducible refine drawn_cells ?_ HC.out); repeat (first | with_reducible assumption | with_reducible exact hD0 | with_reducible exact drawn_any _ _ | with_reducible refine drawn_drew ?_)))
      (first | (go_at_call 73; have hS := (‹Drawn w _ ∧ _›).1; ((with_reducible refine Calls.mono (HT.out _) ?_); rintro e wn ⟨r, rfl, k, rfl⟩; have hh := drawn_n hS k; obtain ⟨-, x0, x1⟩ := drawn_cells hh HC.out)))
    go_wp2_with fail
    go_quiet (fail)
    go_wp2
    go_ret
    exact ⟨by rw [HR.out]; rfl, by first | exact drawn_any _ _ | exact drawn_n (drawn_any _ _) _⟩
  | false =>
  have HT := Lib.hid fun w => trunc_any m w (nan_of m hN)
  obtain ⟨r, hr⟩ := sub_some m u (nan_of m hN) hu
  cases hI : (FloatKind.f64.format.order m 9218868437227405311 == some .gt) with
  | true =>
    have HR := HL m (by unfold leftB; rw [if_neg (by rw [hN]; decide), if_pos hI])
    rw [hI] at HI
    clear HL hN hI hu hr HT
    go_enter Try.func22, Try.ntmps22
    go_wp2_with fail
    refine (HI.out _).mono ?_
    rintro e w2 ⟨rfl, hw⟩
    obtain rfl := hw.symm
    go_wp2
    go_ret
    exact ⟨by rw [HR.out]; rfl, drawn_start _⟩
  | false =>
  cases hG : (FloatKind.f64.format.order (floatOfInt .f64 u) (truncB m) == some .gt || FloatKind.f64.format.order (floatOfInt .f64 u) (truncB m) == some .eq) with
  | true =>
    have HR := HL 0 (by unfold leftB; rw [if_neg (by rw [hN]; decide), if_neg (by rw [hI]; decide), if_pos hG])
    rw [hI] at HI
    clear HL hI hu hr
    go_enter Try.func22, Try.ntmps22
    go_wp2_with fail
    refine (HI.out _).mono ?_
    rintro e w2 ⟨rfl, hw⟩
    obtain rfl := hw.symm
    go_wp2_with fail
    go_quiet ((go_at_call 73; exact Calls.quiet_of_same (HT.out _)))
    go_wp2_with fail
    go_quiet (fail)
    go_wp2
    go_ret
    exact ⟨by rw [HR.out]; rfl, by first | exact drawn_any _ _ | exact drawn_n (drawn_any _ _) _⟩
  | false =>
    have HR := HL r (by unfold leftB; rw [if_neg (by rw [hN]; decide), if_neg (by rw [hI]; decide), if_neg (by rw [hG]; decide), hr]; rfl)
    have hsub : ∀ (t : TypeId) (w : World), (binOp .sub t (.float .f64 (truncB m)) (.float .f64 (floatOfInt .f64 u))).run Try.prog w = .ok (.float .f64 r) w := fun t w => run_float_arith w .sub t .f64 _ _ r hr
    rw [hI] at HI
    clear HL hI hu hr
    go_enter Try.func22, Try.ntmps22
    go_wp2_with fail
    refine (HI.out _).mono ?_
    rintro e w2 ⟨rfl, hw⟩
    obtain rfl := hw.symm
    go_wp2_with fail
    go_quiet ((go_at_call 73; exact Calls.quiet_of_same (HT.out _)))
    go_wp2_with fail
    go_quiet (fail)
    go_wp2
    go_ret
    exact ⟨by rw [HR.out]; rfl, by first | exact drawn_any _ _ | exact drawn_n (drawn_any _ _) _⟩
end Go.Proofs.Ytjoolpmaehnhpaa
