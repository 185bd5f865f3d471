/-
  ParseRight holds: for every input the call returns true, and the arguments read as before. No condition.
-/
import Derived.Lib.ItoaNum
import Derived.Lib.ItoaLen
import Derived.Test.YtgglkpfcaniciaaRows
import Derived.WalkKit
import Derived.Lib.Hide
import Derived.ProofKit
import Derived.LoopTactic
import Derived.Below
import Derived.IntWalk
import Derived.Lib.Strings
import Derived.Laws.Strings2
import Derived.Deep.AppendLies
import Derived.Laws.Rows
import Derived.OwnWalk
import Derived.KernelRfl
import Derived.Deep.RegionHeld3
import Derived.Lib.Builder
import Derived.WalkSmall
import Derived.Maps.GroupsBeside
import Derived.Maps.StringElems
import Derived.Laws.OwnMore
import Derived.Deep.RegionLaw
import Derived.Maps.AppendAt
import Derived.Deep.Cut
import Derived.Deep.DeepCutAuto
import Derived.Maps.OwnOps
import Derived.Maps.OwnSet
import Derived.Lib.MinMax
import Derived.Laws.IdiomCopy
import Derived.Deep.Slices
import Derived.Lib.QuietBelow
import Derived.StillTailTactics
import Derived.BigQuiet
import Derived.Deep.RegionWith
import Derived.OrdersHeld
import Derived.Laws.StructEq
import GoSem.Core.Float
import Derived.Laws.Cover2
import Derived.Laws.FloatArith
import Derived.Laws.Externs
import Derived.Deep.QuietTactic
import Derived.Laws.AppendOwn
import Derived.Recover
import Derived.RegionTactic
import Derived.OpenShut
import Derived.Carry
import Derived.JoinedOf
import Derived.ChangeMaps5
import Derived.Test.YtgglkpfcaniciaaParseRightQ2
namespace Go.Proofs.Ytgglkpfcaniciaa.Dv
open Go.RowKit

def mostN (r : Int) : Int := if r = 1 ∨ r = 2 then 1000000 else 0
def nodeOk (k i : Int) (n : Nat) : Bool := decide (0 ≤ dkidsN k) && ((n : Int) == dkidsN k) && decide (0 ≤ i) && decide (i ≤ mostN k)
mutual
def Tm.rightB : Tm → Bool
  | .mk k i l => nodeOk k i l.length && rights l
def rights : List Tm → Bool
  | [] => true
  | x :: r => x.rightB && rights r
end
theorem Tm.rightB_eq (t : Tm) : t.rightB = (nodeOk t.k t.i t.kids.length && rights t.kids) := by cases t; simp only [Tm.rightB]; rfl
theorem rights_take : ∀ (l : List Tm) (k : Nat) (h : k < l.length), rights (l.take (k + 1)) = (rights (l.take k) && (l[k]).rightB)
  | x :: r, 0, _ => by simp [rights]
  | x :: r, k + 1, h => by
    simp only [List.take_succ_cons, rights, List.getElem_cons_succ]
    rw [rights_take r k (by simpa using h), Bool.and_assoc]
theorem rights_of : ∀ (l : List Tm) (k : Nat) (h : k < l.length), (l[k]).rightB = false → rights l = false
  | x :: r, 0, _, hs => by simp only [List.getElem_cons_zero] at hs; simp [rights, hs]
  | x :: r, k + 1, h, hs => by
    simp only [List.getElem_cons_succ] at hs
    simp [rights, rights_of r k (by simpa using h) hs]
theorem right_bad {t : Tm} (h : nodeOk t.k t.i t.kids.length = false) : t.rightB = false := by rw [t.rightB_eq, h]; rfl
theorem bad1 {k i : Int} {n : Nat} (h : dkidsN k < 0) : nodeOk k i n = false := by unfold nodeOk; rw [decide_eq_false (by omega)]; simp
theorem bad2 {k i : Int} {n : Nat} (h : ¬ (n : Int) = dkidsN k) : nodeOk k i n = false := by unfold nodeOk; rw [beq_eq_false_iff_ne.2 h]; simp
theorem bad3 {k i : Int} {n : Nat} (h : i < 0) : nodeOk k i n = false := by unfold nodeOk; rw [decide_eq_false (by omega : ¬ 0 ≤ i)]; simp
theorem bad4 {k i : Int} {n : Nat} (h : mostN k < i) : nodeOk k i n = false := by unfold nodeOk; rw [decide_eq_false (by omega : ¬ i ≤ mostN k)]; simp
theorem good_node {k i : Int} {n : Nat} (h1 : 0 ≤ dkidsN k) (h2 : (n : Int) = dkidsN k) (h3 : 0 ≤ i) (h4 : i ≤ mostN k) : nodeOk k i n = true := by unfold nodeOk; simp [h1, h2, h3, h4]

def numberedB (r : Int) : Bool := r == 1 || r == 2
theorem numbered_any (r : Int) (w : World) : Calls Try.prog 35 #[.int .i64 r] w fun e w' => e = .returned (.bool (numberedB r)) ∧ w' = w := by
  go_enter Try.func35, Try.ntmps35
  go_wp2
  all_goals go_ret
  all_goals exact ⟨ret_bool (by unfold numberedB; simp_all), rfl⟩

theorem held_grown {w w1 : World} {t : Tm} {s : Value} (h : Held w t s w1) (d : Nat) (os : Array Obj) : Held w t s (Go.Sort.grow (redrawn w1 d) os) := held_call h (below_regrown w1 d os)
theorem numbered_most {r : Int} (h : numberedB r = true) : mostN r = 1000000 := by unfold numberedB at h; unfold mostN; simp at h; rw [if_pos h]
theorem numbered_least {r : Int} (h : numberedB r = false) : mostN r = 0 := by unfold numberedB at h; unfold mostN; simp at h; rw [if_neg (by omega)]
theorem most_le (r : Int) : mostN r ≤ 1000000 := by unfold mostN; split <;> omega
set_option maxRecDepth 20000 in
set_option maxHeartbeats 4000000 in
theorem drefright_any (t : Tm) : ∀ (w : World) (s : Value), Lies w t.kids s → Calls Try.prog 16 #[tv t s] w fun e w' => e = .returned (.bool t.rightB) ∧ Below w.heap.size w w' := by
  induction t using Tm.ind with
  | h t ih =>
    intro w s hl
    obtain ⟨a, cap, S, rfl, hc, hm, hf, hn, hk⟩ := hl.out
    unfold tv
    unfold maxLen at hm
    have H0 := held_start w t (.slice a t.kids.length cap)
    obtain ⟨d0, d1, d2⟩ := held_cells H0
    have IH := Lib.hid ih
    have HN := Lib.hid hn
    have HK := Lib.hid hk
    clear ih hn hk hf hl
    obtain ⟨n, hnn⟩ : ∃ n, dkidsN t.k = n := ⟨_, rfl⟩
    have HNN := Lib.hid hnn
    obtain ⟨nb, hnb⟩ : ∃ nb, numberedB t.k = nb := ⟨_, rfl⟩
    have HNB := Lib.hid hnb
    clear hnn hnb
    by_cases h1 : n < 0
    · have HB := Lib.hid (right_bad (t := t) (bad1 (by rw [HNN.out]; exact h1)))
      have e1 : decide (n < 0) = true := by simpa using h1
      go_enter Try.func16, Try.ntmps16
      go_wp2_with fail
      generalize w.alloc (.cells #[.int .i64 t.k, .int .i64 t.i, .slice a t.kids.length cap] 25) = w2 at H0 d0 d1 d2 ⊢
      have k0 := cell_regrown d0
      have k1 := cell_regrown d1
      have k2 := cell_regrown d2
      have cK : ∀ d os, Calls Try.prog 34 #[.int .i64 t.k] (Go.Sort.grow (redrawn w2 d) os) fun e w'' => e = .returned (.int .i64 n) ∧ ∃ p : Regrown, w'' = Go.Sort.grow (redrawn w2 p.d) p.os := fun d os => Calls.regrown_of ((drefkids_any t.k _).mono fun e w' ⟨he, hb⟩ => ⟨by rw [he, HNN.out], hb⟩)
      have cN : ∀ d os, Calls Try.prog 35 #[.int .i64 t.k] (Go.Sort.grow (redrawn w2 d) os) fun e w'' => e = .returned (.bool nb) ∧ ∃ p : Regrown, w'' = Go.Sort.grow (redrawn w2 p.d) p.os := fun d os => Calls.regrown_of ((numbered_any t.k _).mono fun e w' ⟨he, hw⟩ => ⟨by rw [he, HNB.out], by rw [hw]; exact Below.refl _ _⟩)
      refine wp_region_quiet_below (by kernel_rfl) (by kernel_rfl) ?_
      repeat (any_goals (first | go_big_quiet_step (first | with_reducible exact cK _ _ | with_reducible exact cN _ _) | quiet_step (first | with_reducible exact cK _ _ | with_reducible exact cN _ _)))
      refine wpQuiet_nil ?_
      intro _ hw'
      obtain ⟨⟨dq, osq⟩, hw''⟩ := hw'
      subst hw''
      have H1 := held_grown H0 dq osq
      clear H0 k0 k1 k2 cK cN d0 d1 d2
      go_wp2
      go_ret
      exact ⟨ret_bool HB.out.symm, held_below H1⟩
    have e1 : decide (n < 0) = false := by simpa using h1
    by_cases h2 : (t.kids.length : Int) = n
    rotate_left
    · have HB := Lib.hid (right_bad (t := t) (bad2 (by rw [HNN.out]; exact h2)))
      have e2 : ((t.kids.length : Int) == n) = false := by simpa using h2
      have e2' : ((t.kids.length : Int) != n) = true := by simpa using h2
      clear h2
      go_enter Try.func16, Try.ntmps16
      go_wp2_with fail
      generalize w.alloc (.cells #[.int .i64 t.k, .int .i64 t.i, .slice a t.kids.length cap] 25) = w2 at H0 d0 d1 d2 ⊢
      have k0 := cell_regrown d0
      have k1 := cell_regrown d1
      have k2 := cell_regrown d2
      have cK : ∀ d os, Calls Try.prog 34 #[.int .i64 t.k] (Go.Sort.grow (redrawn w2 d) os) fun e w'' => e = .returned (.int .i64 n) ∧ ∃ p : Regrown, w'' = Go.Sort.grow (redrawn w2 p.d) p.os := fun d os => Calls.regrown_of ((drefkids_any t.k _).mono fun e w' ⟨he, hb⟩ => ⟨by rw [he, HNN.out], hb⟩)
      have cN : ∀ d os, Calls Try.prog 35 #[.int .i64 t.k] (Go.Sort.grow (redrawn w2 d) os) fun e w'' => e = .returned (.bool nb) ∧ ∃ p : Regrown, w'' = Go.Sort.grow (redrawn w2 p.d) p.os := fun d os => Calls.regrown_of ((numbered_any t.k _).mono fun e w' ⟨he, hw⟩ => ⟨by rw [he, HNB.out], by rw [hw]; exact Below.refl _ _⟩)
      refine wp_region_quiet_below (by kernel_rfl) (by kernel_rfl) ?_
      repeat (any_goals (first | go_big_quiet_step (first | with_reducible exact cK _ _ | with_reducible exact cN _ _) | quiet_step (first | with_reducible exact cK _ _ | with_reducible exact cN _ _)))
      refine wpQuiet_nil ?_
      intro _ hw'
      obtain ⟨⟨dq, osq⟩, hw''⟩ := hw'
      subst hw''
      have H1 := held_grown H0 dq osq
      clear H0 k0 k1 k2 cK cN d0 d1 d2
      go_wp2
      go_ret
      exact ⟨ret_bool HB.out.symm, held_below H1⟩
    have e2 : ((t.kids.length : Int) == n) = true := by simpa using h2
    have e2' : ((t.kids.length : Int) != n) = false := by simpa using h2
    have H2 := Lib.hid h2
    clear h2
    by_cases h3 : t.i < 0
    · have HB := Lib.hid (right_bad (t := t) (bad3 (n := t.kids.length) h3))
      have e3 : decide (t.i < 0) = true := by simpa using h3
      go_enter Try.func16, Try.ntmps16
      go_wp2_with fail
      generalize w.alloc (.cells #[.int .i64 t.k, .int .i64 t.i, .slice a t.kids.length cap] 25) = w2 at H0 d0 d1 d2 ⊢
      have k0 := cell_regrown d0
      have k1 := cell_regrown d1
      have k2 := cell_regrown d2
      have cK : ∀ d os, Calls Try.prog 34 #[.int .i64 t.k] (Go.Sort.grow (redrawn w2 d) os) fun e w'' => e = .returned (.int .i64 n) ∧ ∃ p : Regrown, w'' = Go.Sort.grow (redrawn w2 p.d) p.os := fun d os => Calls.regrown_of ((drefkids_any t.k _).mono fun e w' ⟨he, hb⟩ => ⟨by rw [he, HNN.out], hb⟩)
      have cN : ∀ d os, Calls Try.prog 35 #[.int .i64 t.k] (Go.Sort.grow (redrawn w2 d) os) fun e w'' => e = .returned (.bool nb) ∧ ∃ p : Regrown, w'' = Go.Sort.grow (redrawn w2 p.d) p.os := fun d os => Calls.regrown_of ((numbered_any t.k _).mono fun e w' ⟨he, hw⟩ => ⟨by rw [he, HNB.out], by rw [hw]; exact Below.refl _ _⟩)
      refine wp_region_quiet_below (by kernel_rfl) (by kernel_rfl) ?_
      repeat (any_goals (first | go_big_quiet_step (first | with_reducible exact cK _ _ | with_reducible exact cN _ _) | quiet_step (first | with_reducible exact cK _ _ | with_reducible exact cN _ _)))
      refine wpQuiet_nil ?_
      intro _ hw'
      obtain ⟨⟨dq, osq⟩, hw''⟩ := hw'
      subst hw''
      have H1 := held_grown H0 dq osq
      clear H0 k0 k1 k2 cK cN d0 d1 d2
      go_wp2
      go_ret
      exact ⟨ret_bool HB.out.symm, held_below H1⟩
    have e3 : decide (t.i < 0) = false := by simpa using h3
    by_cases h4 : 1000000 < t.i
    · have HB := Lib.hid (right_bad (t := t) (bad4 (n := t.kids.length) (by have := most_le t.k; omega)))
      have e4 : decide (1000000 < t.i) = true := by simpa using h4
      go_enter Try.func16, Try.ntmps16
      go_wp2_with fail
      generalize w.alloc (.cells #[.int .i64 t.k, .int .i64 t.i, .slice a t.kids.length cap] 25) = w2 at H0 d0 d1 d2 ⊢
      have k0 := cell_regrown d0
      have k1 := cell_regrown d1
      have k2 := cell_regrown d2
      have cK : ∀ d os, Calls Try.prog 34 #[.int .i64 t.k] (Go.Sort.grow (redrawn w2 d) os) fun e w'' => e = .returned (.int .i64 n) ∧ ∃ p : Regrown, w'' = Go.Sort.grow (redrawn w2 p.d) p.os := fun d os => Calls.regrown_of ((drefkids_any t.k _).mono fun e w' ⟨he, hb⟩ => ⟨by rw [he, HNN.out], hb⟩)
      have cN : ∀ d os, Calls Try.prog 35 #[.int .i64 t.k] (Go.Sort.grow (redrawn w2 d) os) fun e w'' => e = .returned (.bool nb) ∧ ∃ p : Regrown, w'' = Go.Sort.grow (redrawn w2 p.d) p.os := fun d os => Calls.regrown_of ((numbered_any t.k _).mono fun e w' ⟨he, hw⟩ => ⟨by rw [he, HNB.out], by rw [hw]; exact Below.refl _ _⟩)
      refine wp_region_quiet_below (by kernel_rfl) (by kernel_rfl) ?_
      repeat (any_goals (first | go_big_quiet_step (first | with_reducible exact cK _ _ | with_reducible exact cN _ _) | quiet_step (first | with_reducible exact cK _ _ | with_reducible exact cN _ _)))
      refine wpQuiet_nil ?_
      intro _ hw'
      obtain ⟨⟨dq, osq⟩, hw''⟩ := hw'
      subst hw''
      have H1 := held_grown H0 dq osq
      clear H0 k0 k1 k2 cK cN d0 d1 d2
      go_wp2
      go_ret
      exact ⟨ret_bool HB.out.symm, held_below H1⟩
    have e4 : decide (1000000 < t.i) = false := by simpa using h4
    by_cases h5 : 0 < t.i
    · have e5 : decide (0 < t.i) = true := by simpa using h5
      cases nb with
      | false =>
        have HB := Lib.hid (right_bad (t := t) (bad4 (n := t.kids.length) (by rw [numbered_least HNB.out]; exact h5)))
        go_enter Try.func16, Try.ntmps16
        go_wp2_with fail
        generalize w.alloc (.cells #[.int .i64 t.k, .int .i64 t.i, .slice a t.kids.length cap] 25) = w2 at H0 d0 d1 d2 ⊢
        have k0 := cell_regrown d0
        have k1 := cell_regrown d1
        have k2 := cell_regrown d2
        have cK : ∀ d os, Calls Try.prog 34 #[.int .i64 t.k] (Go.Sort.grow (redrawn w2 d) os) fun e w'' => e = .returned (.int .i64 n) ∧ ∃ p : Regrown, w'' = Go.Sort.grow (redrawn w2 p.d) p.os := fun d os => Calls.regrown_of ((drefkids_any t.k _).mono fun e w' ⟨he, hb⟩ => ⟨by rw [he, HNN.out], hb⟩)
        have cN : ∀ d os, Calls Try.prog 35 #[.int .i64 t.k] (Go.Sort.grow (redrawn w2 d) os) fun e w'' => e = .returned (.bool false) ∧ ∃ p : Regrown, w'' = Go.Sort.grow (redrawn w2 p.d) p.os := fun d os => Calls.regrown_of ((numbered_any t.k _).mono fun e w' ⟨he, hw⟩ => ⟨by rw [he, HNB.out], by rw [hw]; exact Below.refl _ _⟩)
        refine wp_region_quiet_below (by kernel_rfl) (by kernel_rfl) ?_
        repeat (any_goals (first | go_big_quiet_step (first | with_reducible exact cK _ _ | with_reducible exact cN _ _) | quiet_step (first | with_reducible exact cK _ _ | with_reducible exact cN _ _)))
        refine wpQuiet_nil ?_
        intro _ hw'
        obtain ⟨⟨dq, osq⟩, hw''⟩ := hw'
        subst hw''
        have H1 := held_grown H0 dq osq
        clear H0 k0 k1 k2 cK cN d0 d1 d2
        go_wp2
        go_ret
        exact ⟨ret_bool HB.out.symm, held_below H1⟩
      | true =>
        have HG := Lib.hid (show t.rightB = rights t.kids by rw [t.rightB_eq, good_node (by rw [HNN.out]; omega) (by rw [HNN.out]; exact H2.out) (by omega) (by rw [numbered_most HNB.out]; omega)]; rfl)
        go_enter Try.func16, Try.ntmps16
        go_wp2_with fail
        generalize w.alloc (.cells #[.int .i64 t.k, .int .i64 t.i, .slice a t.kids.length cap] 25) = w2 at H0 d0 d1 d2 ⊢
        have k0 := cell_regrown d0
        have k1 := cell_regrown d1
        have k2 := cell_regrown d2
        have cK : ∀ d os, Calls Try.prog 34 #[.int .i64 t.k] (Go.Sort.grow (redrawn w2 d) os) fun e w'' => e = .returned (.int .i64 n) ∧ ∃ p : Regrown, w'' = Go.Sort.grow (redrawn w2 p.d) p.os := fun d os => Calls.regrown_of ((drefkids_any t.k _).mono fun e w' ⟨he, hb⟩ => ⟨by rw [he, HNN.out], hb⟩)
        have cN : ∀ d os, Calls Try.prog 35 #[.int .i64 t.k] (Go.Sort.grow (redrawn w2 d) os) fun e w'' => e = .returned (.bool true) ∧ ∃ p : Regrown, w'' = Go.Sort.grow (redrawn w2 p.d) p.os := fun d os => Calls.regrown_of ((numbered_any t.k _).mono fun e w' ⟨he, hw⟩ => ⟨by rw [he, HNB.out], by rw [hw]; exact Below.refl _ _⟩)
        refine wp_region_quiet_below (by kernel_rfl) (by kernel_rfl) ?_
        repeat (any_goals (first | go_big_quiet_step (first | with_reducible exact cK _ _ | with_reducible exact cN _ _) | quiet_step (first | with_reducible exact cK _ _ | with_reducible exact cN _ _)))
        refine wpQuiet_nil ?_
        intro _ hw'
        obtain ⟨⟨dq, osq⟩, hw''⟩ := hw'
        subst hw''
        have H1 := held_grown H0 dq osq
        clear H0 k0 k1 k2 cK cN d0 d1 d2
        generalize Go.Sort.grow (redrawn w2 dq) osq = w3 at H1 ⊢
        go_wp2_with fail
        go_loopw [3] (fun iv wr => ∃ q : Nat, q ≤ t.kids.length ∧ iv = .int .i64 q ∧ Hid (rights (t.kids.take q) = true) ∧ Held w t (.slice a t.kids.length cap) wr) (fun iv _ => t.kids.length - (intOf iv).toNat)
        case atStart => exact ⟨0, Nat.zero_le _, rfl, by simp [Hid, rights], H1⟩
        case round =>
          clear H1
          obtain ⟨q, hq0, rfl, hgood, hh⟩ := hrel
          have hb := held_below hh
          obtain ⟨d0, d1, d2⟩ := held_cells hh
          by_cases hlt : q < t.kids.length
          · obtain ⟨b, o, rfl, hx⟩ := HN.out q hlt
            obtain ⟨c0, c1, c2⟩ := hx.below hb hx.lt
            have hq := (HK.out q hlt).keep hb
            obtain ⟨a', cap', S', hS, -⟩ := hq.out
            rw [hS] at c2 hq
            have HQ := Lib.hid hq
            have HM := Lib.hid (List.getElem_mem hlt)
            clear hS hq
            go_wp2_with fail
            refine (IH.out _ HM.out _ _ HQ.out).mono ?_
            rintro e wn ⟨rfl, hbn⟩
            have hh3 := held_call hh hbn
            clear hbn hb d0 d1 d2
            cases hr : (t.kids[q]).rightB
            · have HR := Lib.hid (rights_of t.kids q hlt hr)
              go_wp2
              go_ret
              exact ⟨ret_bool (by rw [HG.out]; exact HR.out.symm), held_below hh3⟩
            · go_wp2
              go_roundw
              case rel => exact ⟨q + 1, by omega, by go_num, by show _ = true; rw [rights_take _ _ hlt, hgood.out, hr]; rfl, hh3⟩
              case measure => simp [intOf]; omega
          · have : q = t.kids.length := by omega
            subst this
            go_wp2
            go_ret
            exact ⟨ret_bool (by have := hgood.out; rw [List.take_length] at this; rw [HG.out]; exact this.symm), hb⟩
    · have e5 : decide (0 < t.i) = false := by simpa using h5
      have HG := Lib.hid (show t.rightB = rights t.kids by rw [t.rightB_eq, good_node (by rw [HNN.out]; omega) (by rw [HNN.out]; exact H2.out) (by omega) (by unfold mostN; split <;> omega)]; rfl)
      go_enter Try.func16, Try.ntmps16
      go_wp2_with fail
      generalize w.alloc (.cells #[.int .i64 t.k, .int .i64 t.i, .slice a t.kids.length cap] 25) = w2 at H0 d0 d1 d2 ⊢
      have k0 := cell_regrown d0
      have k1 := cell_regrown d1
      have k2 := cell_regrown d2
      have cK : ∀ d os, Calls Try.prog 34 #[.int .i64 t.k] (Go.Sort.grow (redrawn w2 d) os) fun e w'' => e = .returned (.int .i64 n) ∧ ∃ p : Regrown, w'' = Go.Sort.grow (redrawn w2 p.d) p.os := fun d os => Calls.regrown_of ((drefkids_any t.k _).mono fun e w' ⟨he, hb⟩ => ⟨by rw [he, HNN.out], hb⟩)
      have cN : ∀ d os, Calls Try.prog 35 #[.int .i64 t.k] (Go.Sort.grow (redrawn w2 d) os) fun e w'' => e = .returned (.bool nb) ∧ ∃ p : Regrown, w'' = Go.Sort.grow (redrawn w2 p.d) p.os := fun d os => Calls.regrown_of ((numbered_any t.k _).mono fun e w' ⟨he, hw⟩ => ⟨by rw [he, HNB.out], by rw [hw]; exact Below.refl _ _⟩)
      refine wp_region_quiet_below (by kernel_rfl) (by kernel_rfl) ?_
      repeat (any_goals (first | go_big_quiet_step (first | with_reducible exact cK _ _ | with_reducible exact cN _ _) | quiet_step (first | with_reducible exact cK _ _ | with_reducible exact cN _ _)))
      refine wpQuiet_nil ?_
      intro _ hw'
      obtain ⟨⟨dq, osq⟩, hw''⟩ := hw'
      subst hw''
      have H1 := held_grown H0 dq osq
      clear H0 k0 k1 k2 cK cN d0 d1 d2
      generalize Go.Sort.grow (redrawn w2 dq) osq = w3 at H1 ⊢
      go_wp2_with fail
      go_loopw [3] (fun iv wr => ∃ q : Nat, q ≤ t.kids.length ∧ iv = .int .i64 q ∧ Hid (rights (t.kids.take q) = true) ∧ Held w t (.slice a t.kids.length cap) wr) (fun iv _ => t.kids.length - (intOf iv).toNat)
      case atStart => exact ⟨0, Nat.zero_le _, rfl, by simp [Hid, rights], H1⟩
      case round =>
        clear H1
        obtain ⟨q, hq0, rfl, hgood, hh⟩ := hrel
        have hb := held_below hh
        obtain ⟨d0, d1, d2⟩ := held_cells hh
        by_cases hlt : q < t.kids.length
        · obtain ⟨b, o, rfl, hx⟩ := HN.out q hlt
          obtain ⟨c0, c1, c2⟩ := hx.below hb hx.lt
          have hq := (HK.out q hlt).keep hb
          obtain ⟨a', cap', S', hS, -⟩ := hq.out
          rw [hS] at c2 hq
          have HQ := Lib.hid hq
          have HM := Lib.hid (List.getElem_mem hlt)
          clear hS hq
          go_wp2_with fail
          refine (IH.out _ HM.out _ _ HQ.out).mono ?_
          rintro e wn ⟨rfl, hbn⟩
          have hh3 := held_call hh hbn
          clear hbn hb d0 d1 d2
          cases hr : (t.kids[q]).rightB
          · have HR := Lib.hid (rights_of t.kids q hlt hr)
            go_wp2
            go_ret
            exact ⟨ret_bool (by rw [HG.out]; exact HR.out.symm), held_below hh3⟩
          · go_wp2
            go_roundw
            case rel => exact ⟨q + 1, by omega, by go_num, by show _ = true; rw [rights_take _ _ hlt, hgood.out, hr]; rfl, hh3⟩
            case measure => simp [intOf]; omega
        · have : q = t.kids.length := by omega
          subst this
          go_wp2
          go_ret
          exact ⟨ret_bool (by have := hgood.out; rw [List.take_length] at this; rw [HG.out]; exact this.symm), hb⟩
end Go.Proofs.Ytgglkpfcaniciaa.Dv

namespace Go.Proofs.Ytgglkpfcaniciaa.Dv

theorem getB_most (l : List UInt8) : (getB l).getD 0 ≤ 1000000 := by
  cases e : getB l with
  | none => simp
  | some n =>
    unfold getB at e
    split at e
    · cases e
    · split at e
      · cases e; simp; omega
      · cases e
def DpR (dp : DP) : Prop := ∀ d u ts t u2 r, dp d u ts = .ok (t, u2, r) → t.rightB = true
theorem kidsD_right {dp : DP} (h : DpR dp) {d : Nat} : ∀ {c u : Nat} {ts r : List Tok} {l : List Tm} {u2 : Nat}, kidsD dp d c u ts = .ok (l, u2, r) → rights l = true
  | 0, u, ts, r, l, u2, e => by unfold kidsD at e; cases e; rfl
  | c + 1, u, ts, r, l, u2, e => by
    unfold kidsD at e
    split at e
    · cases e
    · rename_i t u1 r1 h1
      split at e
      · cases e
      · rename_i l2 u3 r2 h2
        have l2 := kidsD_right h h2
        cases e
        simp only [rights]
        rw [h _ _ _ _ _ _ h1, l2]
        rfl
theorem numD_range {E : Nat} {k : Int} {ts r : List Tok} {n : Int} (h : numD E k ts = .ok (n, r)) : 0 ≤ n ∧ n ≤ mostN k := by
  unfold numD at h
  unfold mostN
  split at h
  · rename_i hk
    split at h
    · cases h
    · cases h
      rw [if_pos hk]
      have := getB_most
      exact ⟨by omega, by have := this (by assumption : Tok).s; omega⟩
  · rename_i hk
    cases h
    rw [if_neg hk]
    exact ⟨Int.le_refl _, Int.le_refl _⟩
theorem ruleD_right {dp : DP} (hd : DpL dp) (hr : DpR dp) {E d u : Nat} {ts r : List Tok} {t : Tm} {u2 : Nat} (h : ruleD dp E d u ts = .ok (t, u2, r)) : t.rightB = true := by
  unfold ruleD at h
  split at h
  · cases h
  · rename_i w r1 h1
    split at h
    · cases h
    · rename_i hne
      have hrg := ruleN_range w.s
      have hkn := dkids_nn (r := ruleN w.s) (by omega)
      split at h
      · cases h
      · rename_i n r2 h2
        have hn := numD_range h2
        split at h
        · cases h
        · rename_i l u3 r3 h3
          have l3 := kidsD_len hd h3
          have l4 := kidsD_right hr h3
          split at h
          · cases h
          · cases h
            rw [Tm.rightB_eq]
            show (nodeOk (ruleN w.s) n l.length && rights l) = true
            rw [l4, good_node hkn.1 (by omega) hn.1 hn.2]
            rfl
theorem derP_right {deep nodes E : Nat} : ∀ f, DpR (derP deep nodes E f)
  | 0 => fun d u ts t u2 r h => by cases h
  | f + 1 => fun d u ts t u2 r h => by
    unfold derP at h
    split at h
    · cases h
    · split at h
      · cases h
      · split at h
        · cases h
        · exact ruleD_right (derP_len f) (derP_right f) h
theorem ctxD_right {dp : DP} (hd : DpR dp) {E : Nat} : ∀ {f u : Nat} {ts r : List Tok} {l : List Tm} {u2 : Nat}, ctxD dp E f u ts = .ok (l, u2, r) → rights l = true
  | 0, u, ts, r, l, u2, h => by cases h
  | f + 1, u, ts, r, l, u2, h => by
    unfold ctxD at h
    split at h
    · cases h; rfl
    · split at h
      · cases h
      · rename_i t u1 r1 h1
        split at h
        · cases h
        · rename_i l2 u3 r2 h2
          have l2 := ctxD_right hd h2
          cases h
          simp only [rights]
          rw [hd _ _ _ _ _ _ h1, l2]
          rfl
theorem fileP_inv {dp : DP} {E f : Nat} {ts r : List Tok} {l : List Tm} {t : Tm} (h : fileP dp E f ts = .ok ((l, t), r)) : ∃ r3 u r4 r5 u2 r6, ctxD dp E f 0 r3 = .ok (l, u, r4) ∧ dp 1 u r5 = .ok (t, u2, r6) ∧ r3.length + 3 = ts.length ∧ r5.length + 1 = r4.length := by
  unfold fileP at h
  split at h; · cases h
  rename_i o1 r1 h1
  split at h; · cases h
  rename_i w r2 h2
  split at h
  · split at h; · cases h
    rename_i o3 r3 h3
    split at h; · cases h
    rename_i c u r4 h4
    split at h; · cases h
    rename_i o5 r5 h5
    split at h; · cases h
    rename_i t' u2 r6 h6
    split at h; · cases h
    cases h
    have l1 := takeT_len h1
    have l2 := takeT_len h2
    have l3 := takeT_len h3
    have l5 := takeT_len h5
    exact ⟨r3, u, r4, r5, u2, r6, h4, h6, by omega, by omega⟩
  · cases h
theorem parseB_right {s : List UInt8} {deep nodes : Nat} {l : List Tm} {t : Tm} (h : parseB s deep nodes = .ok (l, t)) : rights l = true ∧ t.rightB = true := by
  unfold parseB at h
  split at h; · cases h
  rename_i x r hx
  split at h; · cases h
  cases h
  obtain ⟨r3, u, r4, r5, u2, r6, h1, h2, -⟩ := fileP_inv hx
  exact ⟨ctxD_right (derP_right _) h1, derP_right _ _ _ _ _ _ _ h2⟩
/-- Tokens and the end within a bound. -/
def AtsIn (M : Nat) (ts : List Tok) : Prop := ∀ t ∈ ts, t.at_ ≤ M
theorem here_in {M E : Nat} {ts : List Tok} (hE : E ≤ M) (h : AtsIn M ts) : hereT E ts ≤ M := by
  match ts, h with
  | [], _ => exact hE
  | t :: r, h => exact h t List.mem_cons_self
theorem take_in {M E k : Nat} {ts : List Tok} (hE : E ≤ M) (h : AtsIn M ts) : (∀ a, takeT E k ts = .error a → a ≤ M) ∧ ∀ t r, takeT E k ts = .ok (t, r) → t.at_ ≤ M ∧ AtsIn M r := by
  match ts, h with
  | [], _ => exact ⟨fun a e => (by (try dsimp only at e); cases e; exact hE), fun t r e => (by (try dsimp only at e); cases e)⟩
  | t :: r, h =>
    by_cases hk : t.k = k
    · rw [show takeT E k (t :: r) = .ok (t, r) from if_pos hk]
      exact ⟨fun a e => (by cases e), fun t' r' e => (by cases e; exact ⟨h t List.mem_cons_self, fun x hx => h x (List.mem_cons_of_mem _ hx)⟩)⟩
    · rw [show takeT E k (t :: r) = .error t.at_ from if_neg hk]
      exact ⟨fun a e => (by cases e; exact h t List.mem_cons_self), fun t' r' e => (by cases e)⟩
/-- What the parsing of a derivation says of places. -/
def DpE (M : Nat) (dp : DP) : Prop := ∀ d u ts, AtsIn M ts → (∀ k a, dp d u ts = .error (k, a) → a ≤ M ∧ k ≤ 2) ∧ ∀ t u2 r, dp d u ts = .ok (t, u2, r) → AtsIn M r
theorem kidsD_in {M : Nat} {dp : DP} (h : DpE M dp) {d : Nat} : ∀ {c u : Nat} {ts : List Tok}, AtsIn M ts → (∀ k a, kidsD dp d c u ts = .error (k, a) → a ≤ M ∧ k ≤ 2) ∧ ∀ l u2 r, kidsD dp d c u ts = .ok (l, u2, r) → AtsIn M r
  | 0, u, ts, hi => ⟨fun k a e => (by unfold kidsD at e; (try dsimp only at e); cases e), fun l u2 r e => (by unfold kidsD at e; (try dsimp only at e); cases e; exact hi)⟩
  | c + 1, u, ts, hi => by
    obtain ⟨e1, e2⟩ := h d u ts hi
    unfold kidsD
    cases hx : dp d u ts with
    | error p => obtain ⟨k0, a0⟩ := p; exact ⟨fun k a e => (by (try dsimp only at e); cases e; exact e1 _ _ hx), fun l u2 r e => (by (try dsimp only at e); cases e)⟩
    | ok m =>
      obtain ⟨t, u1, r1⟩ := m
      obtain ⟨g1, g2⟩ := kidsD_in h (d := d) (c := c) (u := u1) (e2 _ _ _ hx)
      dsimp only
      cases hy : kidsD dp d c u1 r1 with
      | error p => obtain ⟨k0, a0⟩ := p; exact ⟨fun k a e => (by (try dsimp only at e); cases e; exact g1 _ _ hy), fun l u2 r e => (by (try dsimp only at e); cases e)⟩
      | ok m2 => obtain ⟨l2, u3, r2⟩ := m2; exact ⟨fun k a e => (by (try dsimp only at e); cases e), fun l u2 r e => (by (try dsimp only at e); cases e; exact g2 _ _ _ hy)⟩
theorem numD_in {M E : Nat} (hE : E ≤ M) {k : Int} {ts : List Tok} (hi : AtsIn M ts) : (∀ q a, numD E k ts = .error (q, a) → a ≤ M ∧ q ≤ 2) ∧ ∀ n r, numD E k ts = .ok (n, r) → AtsIn M r := by
  unfold numD
  split
  · obtain ⟨e1, e2⟩ := take_in (k := 4) hE hi
    cases hx : takeT E 4 ts with
    | error p => exact ⟨fun q a e => (by (try dsimp only at e); cases e; exact ⟨e1 _ hx, by omega⟩), fun n r e => (by (try dsimp only at e); cases e)⟩
    | ok m => obtain ⟨t, q⟩ := m; exact ⟨fun q a e => (by (try dsimp only at e); cases e), fun n r e => (by (try dsimp only at e); cases e; exact (e2 _ _ hx).2)⟩
  · exact ⟨fun q a e => (by (try dsimp only at e); cases e), fun n r e => (by (try dsimp only at e); cases e; exact hi)⟩
theorem ruleD_in {M E : Nat} (hE : E ≤ M) {dp : DP} (h : DpE M dp) {d u : Nat} {ts : List Tok} (hi : AtsIn M ts) : (∀ k a, ruleD dp E d u ts = .error (k, a) → a ≤ M ∧ k ≤ 2) ∧ ∀ t u2 r, ruleD dp E d u ts = .ok (t, u2, r) → AtsIn M r := by
  unfold ruleD
  obtain ⟨e1, e2⟩ := take_in (k := 3) hE hi
  cases hx : takeT E 3 ts with
  | error p => exact ⟨fun q a e => (by (try dsimp only at e); cases e; exact ⟨e1 _ hx, by omega⟩), fun t u2 r e => (by (try dsimp only at e); cases e)⟩
  | ok m =>
    obtain ⟨w, r1⟩ := m
    obtain ⟨hw, hr1⟩ := e2 _ _ hx
    dsimp only
    split
    · exact ⟨fun q a e => (by (try dsimp only at e); cases e; exact ⟨hw, by omega⟩), fun t u2 r e => (by (try dsimp only at e); cases e)⟩
    · obtain ⟨n1, n2⟩ := numD_in hE (k := ruleN w.s) hr1
      cases hy : numD E (ruleN w.s) r1 with
      | error p => obtain ⟨k0, a0⟩ := p; exact ⟨fun q a e => (by (try dsimp only at e); cases e; exact n1 _ _ hy), fun t u2 r e => (by (try dsimp only at e); cases e)⟩
      | ok m2 =>
        obtain ⟨n, r2⟩ := m2
        have hr2 := n2 _ _ hy
        dsimp only
        obtain ⟨k1, k2⟩ := kidsD_in h (d := d + 1) (c := (dkidsN (ruleN w.s)).toNat) (u := u + 1) hr2
        cases hz : kidsD dp (d + 1) (dkidsN (ruleN w.s)).toNat (u + 1) r2 with
        | error p => obtain ⟨k0, a0⟩ := p; exact ⟨fun q a e => (by (try dsimp only at e); cases e; exact k1 _ _ hz), fun t u2 r e => (by (try dsimp only at e); cases e)⟩
        | ok m3 =>
          obtain ⟨l, u3, r3⟩ := m3
          have hr3 := k2 _ _ _ hz
          dsimp only
          obtain ⟨f1, f2⟩ := take_in (k := 2) hE hr3
          cases hq : takeT E 2 r3 with
          | error p => exact ⟨fun q a e => (by (try dsimp only at e); cases e; exact ⟨f1 _ hq, by omega⟩), fun t u2 r e => (by (try dsimp only at e); cases e)⟩
          | ok m4 => obtain ⟨z, r4⟩ := m4; exact ⟨fun q a e => (by (try dsimp only at e); cases e), fun t u2 r e => (by (try dsimp only at e); cases e; exact (f2 _ _ hq).2)⟩
theorem derP_in {M deep nodes E : Nat} (hE : E ≤ M) : ∀ f, DpE M (derP deep nodes E f)
  | 0 => fun d u ts hi => ⟨fun k a e => (by (try dsimp only at e); cases e; exact ⟨here_in hE hi, by omega⟩), fun t u2 r e => (by (try dsimp only at e); cases e)⟩
  | f + 1 => fun d u ts hi => by
    unfold derP
    obtain ⟨e1, e2⟩ := take_in (k := 1) hE hi
    cases hx : takeT E 1 ts with
    | error p => exact ⟨fun q a e => (by (try dsimp only at e); cases e; exact ⟨e1 _ hx, by omega⟩), fun t u2 r e => (by (try dsimp only at e); cases e)⟩
    | ok m =>
      obtain ⟨o, r1⟩ := m
      obtain ⟨ho, hr1⟩ := e2 _ _ hx
      dsimp only
      split
      · exact ⟨fun q a e => (by (try dsimp only at e); cases e; exact ⟨ho, by omega⟩), fun t u2 r e => (by (try dsimp only at e); cases e)⟩
      · split
        · exact ⟨fun q a e => (by (try dsimp only at e); cases e; exact ⟨ho, by omega⟩), fun t u2 r e => (by (try dsimp only at e); cases e)⟩
        · exact ruleD_in hE (derP_in hE f) hr1
theorem ctxD_in {M E : Nat} (hE : E ≤ M) {dp : DP} (h : DpE M dp) : ∀ {f u : Nat} {ts : List Tok}, AtsIn M ts → (∀ k a, ctxD dp E f u ts = .error (k, a) → a ≤ M ∧ k ≤ 2) ∧ ∀ l u2 r, ctxD dp E f u ts = .ok (l, u2, r) → AtsIn M r
  | 0, u, ts, hi => ⟨fun k a e => (by (try dsimp only at e); cases e; exact ⟨here_in hE hi, by omega⟩), fun l u2 r e => (by (try dsimp only at e); cases e)⟩
  | f + 1, u, ts, hi => by
    unfold ctxD
    split
    · exact ⟨fun k a e => (by (try dsimp only at e); cases e), fun l u2 r e => (by (try dsimp only at e); cases e; exact hi)⟩
    · obtain ⟨e1, e2⟩ := h 1 u ts hi
      cases hx : dp 1 u ts with
      | error p => obtain ⟨k0, a0⟩ := p; exact ⟨fun k a e => (by (try dsimp only at e); cases e; exact e1 _ _ hx), fun l u2 r e => (by (try dsimp only at e); cases e)⟩
      | ok m =>
        obtain ⟨t, u1, r1⟩ := m
        obtain ⟨g1, g2⟩ := ctxD_in hE h (f := f) (u := u1) (e2 _ _ _ hx)
        dsimp only
        cases hy : ctxD dp E f u1 r1 with
        | error p => obtain ⟨k0, a0⟩ := p; exact ⟨fun k a e => (by (try dsimp only at e); cases e; exact g1 _ _ hy), fun l u2 r e => (by (try dsimp only at e); cases e)⟩
        | ok m2 => obtain ⟨l2, u3, r2⟩ := m2; exact ⟨fun k a e => (by (try dsimp only at e); cases e), fun l u2 r e => (by (try dsimp only at e); cases e; exact g2 _ _ _ hy)⟩
theorem fileP_in {M E f : Nat} (hE : E ≤ M) {dp : DP} (h : DpE M dp) {ts : List Tok} (hi : AtsIn M ts) : (∀ k a, fileP dp E f ts = .error (k, a) → a ≤ M ∧ k ≤ 2) ∧ ∀ x r, fileP dp E f ts = .ok (x, r) → AtsIn M r := by
  unfold fileP
  obtain ⟨a1, a2⟩ := take_in (k := 1) hE hi
  cases h1 : takeT E 1 ts with
  | error p => exact ⟨fun q a e => (by (try dsimp only at e); cases e; exact ⟨a1 _ h1, by omega⟩), fun x r e => (by (try dsimp only at e); cases e)⟩
  | ok m1 =>
  obtain ⟨o1, r1⟩ := m1
  have i1 := (a2 _ _ h1).2
  dsimp only
  obtain ⟨b1, b2⟩ := take_in (k := 3) hE i1
  cases h2 : takeT E 3 r1 with
  | error p => exact ⟨fun q a e => (by (try dsimp only at e); cases e; exact ⟨b1 _ h2, by omega⟩), fun x r e => (by (try dsimp only at e); cases e)⟩
  | ok m2 =>
  obtain ⟨w, r2⟩ := m2
  obtain ⟨iw, i2⟩ := b2 _ _ h2
  dsimp only
  split
  · obtain ⟨c1, c2⟩ := take_in (k := 1) hE i2
    cases h3 : takeT E 1 r2 with
    | error p => exact ⟨fun q a e => (by (try dsimp only at e); cases e; exact ⟨c1 _ h3, by omega⟩), fun x r e => (by (try dsimp only at e); cases e)⟩
    | ok m3 =>
    obtain ⟨o3, r3⟩ := m3
    have i3 := (c2 _ _ h3).2
    dsimp only
    obtain ⟨d1, d2⟩ := ctxD_in hE h (f := f) (u := 0) i3
    cases h4 : ctxD dp E f 0 r3 with
    | error p => obtain ⟨k0, a0⟩ := p; exact ⟨fun q a e => (by (try dsimp only at e); cases e; exact d1 _ _ h4), fun x r e => (by (try dsimp only at e); cases e)⟩
    | ok m4 =>
    obtain ⟨c, u, r4⟩ := m4
    have i4 := d2 _ _ _ h4
    dsimp only
    obtain ⟨e1, e2⟩ := take_in (k := 2) hE i4
    cases h5 : takeT E 2 r4 with
    | error p => exact ⟨fun q a e => (by (try dsimp only at e); cases e; exact ⟨e1 _ h5, by omega⟩), fun x r e => (by (try dsimp only at e); cases e)⟩
    | ok m5 =>
    obtain ⟨o5, r5⟩ := m5
    have i5 := (e2 _ _ h5).2
    dsimp only
    obtain ⟨f1, f2⟩ := h 1 u r5 i5
    cases h6 : dp 1 u r5 with
    | error p => obtain ⟨k0, a0⟩ := p; exact ⟨fun q a e => (by (try dsimp only at e); cases e; exact f1 _ _ h6), fun x r e => (by (try dsimp only at e); cases e)⟩
    | ok m6 =>
    obtain ⟨t, u2, r6⟩ := m6
    have i6 := f2 _ _ _ h6
    dsimp only
    obtain ⟨g1, g2⟩ := take_in (k := 2) hE i6
    cases h7 : takeT E 2 r6 with
    | error p => exact ⟨fun q a e => (by (try dsimp only at e); cases e; exact ⟨g1 _ h7, by omega⟩), fun x r e => (by (try dsimp only at e); cases e)⟩
    | ok m7 => obtain ⟨o7, r7⟩ := m7; exact ⟨fun q a e => (by (try dsimp only at e); cases e), fun x r e => (by (try dsimp only at e); cases e; exact (g2 _ _ h7).2)⟩
  · exact ⟨fun q a e => (by (try dsimp only at e); cases e; exact ⟨iw, by omega⟩), fun x r e => (by (try dsimp only at e); cases e)⟩
theorem parseB_in {s : List UInt8} {deep nodes k a : Nat} (h : parseB s deep nodes = .error (k, a)) : a ≤ s.length ∧ k ≤ 2 := by
  have hb := ofL_bound s
  obtain ⟨g1, g2⟩ := fileP_in (M := s.length) hb.2.1 (derP_in (deep := deep) (nodes := nodes) hb.2.1 ((ofL s).1.length + 1)) (f := (ofL s).1.length + 1) (ts := (ofL s).1) (fun t ht => (hb.2.2 t ht).2)
  unfold parseB at h
  split at h
  · rename_i e hx
    cases h
    exact g1 _ _ hx
  · rename_i x r hx
    have hr := g2 _ _ hx
    split at h
    · rename_i a0 hy
      cases h
      unfold endP at hy
      split at hy
      · cases hy
      · cases hy
        exact ⟨here_in hb.2.1 hr, by omega⟩
    · cases h
end Go.Proofs.Ytgglkpfcaniciaa.Dv

namespace Go.Proofs.Ytgglkpfcaniciaa.Dv
theorem pk1 : parseB [40, 102, 105, 108, 101, 32, 40, 40, 115, 111, 114, 116, 32, 48, 41, 41, 32, 40, 118, 97, 114, 32, 48, 41, 41] 4611686018427387904 4611686018427387904 = .ok ([.mk 1 0 []], .mk 2 0 []) := by kernel_rfl
theorem pk2 : parseB [40, 102, 105, 108, 101, 32, 40, 41, 32, 40, 115, 111, 114, 116, 41, 41] 4621256167635550208 4621256167635550208 = .error (0, 14) := by kernel_rfl
theorem pk3 : parseB [40, 102, 105, 108, 101, 32, 40, 41, 32, 40, 114, 101, 102, 108, 32, 40, 115, 111, 114, 116, 32, 48, 41, 41, 41] 4607182418800017408 4621256167635550208 = .error (1, 15) := by kernel_rfl
end Go.Proofs.Ytgglkpfcaniciaa.Dv

namespace Go.Proofs.Ytgglkpfcaniciaa.Dv
open Go.RowKit

set_option maxHeartbeats 2000000 in
theorem drights_any (l : List Tm) (w : World) (s : Value) (hl : Lies w l s) : Calls Try.prog 15 #[s] w fun e w' => e = .returned (.bool (rights l)) ∧ Below w.heap.size w w' := by
  obtain ⟨a, cap, S, rfl, hc, hm, hf, hn, hk⟩ := hl.out
  unfold maxLen at hm
  have HN := Lib.hid hn
  have HK := Lib.hid hk
  clear hn hk hf hl
  go_enter Try.func15, Try.ntmps15
  go_wp2_with fail
  go_loopw [3] (fun iv wr => ∃ k : Nat, k ≤ l.length ∧ iv = .int .i64 k ∧ Hid (rights (l.take k) = true) ∧ Below w.heap.size w wr) (fun iv _ => l.length - (intOf iv).toNat)
  case atStart => exact ⟨0, Nat.zero_le _, rfl, rfl, Below.refl _ _⟩
  case round =>
    obtain ⟨k, hkl, rfl, hg, hb⟩ := hrel
    by_cases hlt : k < l.length
    · obtain ⟨b, o, rfl, hx⟩ := HN.out k hlt
      obtain ⟨c0, c1, c2⟩ := hx.below hb hx.lt
      have hq := (HK.out k hlt).keep hb
      obtain ⟨a', cap', S', hS, -⟩ := hq.out
      rw [hS] at c2 hq
      have HC := Lib.hid (drefright_any l[k] _ _ hq)
      have HTK := Lib.hid (rights_take l k hlt)
      have HO := Lib.hid (fun h => rights_of l k hlt h)
      generalize l[k] = x at c0 c1 c2 HC HTK HO
      clear hS hq hx
      go_wp2_with fail
      refine HC.out.mono ?_
      rintro e w2 ⟨rfl, hb2⟩
      have HB := Lib.hid (hb.trans (hb2.mono hb.size))
      clear hb hb2
      cases hr : x.rightB with
      | false =>
        have h0 := HO.out hr
        go_wp2
        go_ret
        exact ⟨by rw [h0]; rfl, HB.out⟩
      | true =>
        have hw1 : IntKind.i64.wrap ((k : Int) + 1) = (k : Int) + 1 := IntWalk.i64_in _ (by omega)
        go_wp2_with fail
        go_roundw
        case rel => exact ⟨k + 1, hlt, by go_num, by show _ = true; rw [HTK.out, hg.out, hr]; rfl, HB.out⟩
        case measure => simp [intOf]; omega
    · have hk2 : k = l.length := by omega
      have HGG := Lib.hid (show rights l = true by have := hg.out; rwa [hk2, List.take_length] at this)
      subst hk2
      go_wp2
      go_ret
      exact ⟨by rw [HGG.out]; rfl, hb⟩
set_option maxHeartbeats 4000000 in
set_option maxRecDepth 20000 in
theorem wakes13_any (w : World) : Calls Try.prog 11 #[] w fun e w' => e = .returned (.bool true) ∧ Below w.heap.size w w' := by
  have H1 := Lib.hid (fun w => parse_any ⟨#[40, 102, 105, 108, 101, 32, 40, 40, 115, 111, 114, 116, 32, 48, 41, 41, 32, 40, 118, 97, 114, 32, 48, 41, 41]⟩ 4611686018427387904 4611686018427387904 w (by decide))
  have H2 := Lib.hid (fun w => parse_any ⟨#[40, 102, 105, 108, 101, 32, 40, 41, 32, 40, 115, 111, 114, 116, 41, 41]⟩ 4621256167635550208 4621256167635550208 w (by decide))
  have H3 := Lib.hid (fun w => parse_any ⟨#[40, 102, 105, 108, 101, 32, 40, 41, 32, 40, 114, 101, 102, 108, 32, 40, 115, 111, 114, 116, 32, 48, 41, 41, 41]⟩ 4607182418800017408 4621256167635550208 w (by decide))
  go_enter Try.func11, Try.ntmps11
  go_wp2_with fail
  refine (H1.out w).mono ?_
  intro e w1 hg
  obtain ⟨l1, hl1⟩ : ∃ l1, ([.mk 1 0 []] : List Tm) = l1 := ⟨_, rfl⟩
  obtain ⟨t1, ht1⟩ : ∃ t1, Tm.mk 2 0 [] = t1 := ⟨_, rfl⟩
  rw [show parseB (ByteArray.mk #[40, 102, 105, 108, 101, 32, 40, 40, 115, 111, 114, 116, 32, 48, 41, 41, 32, 40, 118, 97, 114, 32, 48, 41, 41]).data.toList 4611686018427387904 4611686018427387904 = .ok ([.mk 1 0 []], .mk 2 0 []) from pk1, hl1, ht1] at hg
  obtain ⟨hb1, cv, s, rfl, hl, hlt, hfi⟩ := hg
  obtain ⟨a1, c1, rfl, -, -⟩ := hl.out
  obtain ⟨a2, c2, rfl, -, -⟩ := hlt.out
  have hba := (Below.refl w1.heap.size w1).alloc (Nat.le_refl _) (.cells #[.slice a1 l1.length c1, .int .i64 t1.k, .int .i64 t1.i, .slice a2 t1.kids.length c2] 27)
  have hn := alloc_new w1 (.cells #[.slice a1 l1.length c1, .int .i64 t1.k, .int .i64 t1.i, .slice a2 t1.kids.length c2] 27)
  have HB2 := Lib.hid (hb1.trans (hba.mono hb1.size))
  have HLL := Lib.hid (And.intro hl1 ht1)
  clear hl hlt hfi hb1 hba hl1 ht1
  unfold fv
  go_upto_region 2 with fail
  obtain ⟨W1, hW1⟩ : ∃ W1, W1 = w1.alloc (.cells #[.slice a1 l1.length c1, .int .i64 t1.k, .int .i64 t1.i, .slice a2 t1.kids.length c2] 27) := ⟨_, rfl⟩
  rw [← hW1] at HB2 hn
  rw [← hW1]
  have hlt1 := hltD hn
  have HN := Lib.hid hn
  clear hW1 hn H1
  go_wp2_with fail
  refine (H2.out W1).mono ?_
  intro e w2 hg
  rw [show parseB (ByteArray.mk #[40, 102, 105, 108, 101, 32, 40, 41, 32, 40, 115, 111, 114, 116, 41, 41]).data.toList 4621256167635550208 4621256167635550208 = .error (0, 14) from pk2] at hg
  obtain ⟨hb2, hg⟩ := hg
  have he : e = .returned (.tuple #[.agg #[.slice none 0 0, .int .i64 0, .int .i64 0, .slice none 0 0], .int .i64 2, .int .i64 14, .string ⟨#[]⟩]) := hg
  subst he
  have hba := (Below.refl w2.heap.size w2).alloc (Nat.le_refl _) (.cells #[.slice none 0 0, .int .i64 0, .int .i64 0, .slice none 0 0] 27)
  have HB3 := Lib.hid (HB2.out.trans ((hb2.trans (hba.mono hb2.size)).mono HB2.out.size))
  have HN2 := Lib.hid (((hb2.trans (hba.mono hb2.size)).block _ hlt1).trans HN.out)
  clear hb2 hg hba H2 HN hlt1 HB2
  go_upto_region 3 with fail
  obtain ⟨W2, hW2⟩ : ∃ W2, W2 = w2.alloc (.cells #[.slice none 0 0, .int .i64 0, .int .i64 0, .slice none 0 0] 27) := ⟨_, rfl⟩
  rw [← hW2] at HB3 HN2
  rw [← hW2]
  have hlt2 := hltD HN2.out
  clear hW2
  go_wp2_with fail
  refine (H3.out W2).mono ?_
  intro e w3 hg
  rw [show parseB (ByteArray.mk #[40, 102, 105, 108, 101, 32, 40, 41, 32, 40, 114, 101, 102, 108, 32, 40, 115, 111, 114, 116, 32, 48, 41, 41, 41]).data.toList 4607182418800017408 4621256167635550208 = .error (1, 15) from pk3] at hg
  obtain ⟨hb3, hg⟩ := hg
  have he : e = .returned (.tuple #[.agg #[.slice none 0 0, .int .i64 0, .int .i64 0, .slice none 0 0], .int .i64 4, .int .i64 15, .string ⟨#[100, 101, 101, 112]⟩]) := hg
  subst he
  have hba := (Below.refl w3.heap.size w3).alloc (Nat.le_refl _) (.cells #[.slice none 0 0, .int .i64 0, .int .i64 0, .slice none 0 0] 27)
  have HB4 := Lib.hid (HB3.out.trans ((hb3.trans (hba.mono hb3.size)).mono HB3.out.size))
  have hn4 := ((hb3.trans (hba.mono hb3.size)).block _ hlt2).trans HN2.out
  clear hb3 hg hba H3 HN2 hlt2 HB3
  go_upto_region 4 with fail
  obtain ⟨W3, hW3⟩ : ∃ W3, W3 = w3.alloc (.cells #[.slice none 0 0, .int .i64 0, .int .i64 0, .slice none 0 0] 27) := ⟨_, rfl⟩
  rw [← hW3] at HB4 hn4
  rw [← hW3]
  clear hW3
  obtain ⟨y0, y1, y2, y3⟩ := four_cells hn4
  clear hn4
  rw [show l1.length = 1 by rw [← HLL.out.1]; rfl] at y0
  rw [show t1.k = 2 by rw [← HLL.out.2]; rfl] at y1
  go_wp2
  go_ret
  exact ⟨rfl, HB4.out⟩
end Go.Proofs.Ytgglkpfcaniciaa.Dv

namespace Go.Proofs.Ytgglkpfcaniciaa.Dv
open Go.RowKit

set_option maxHeartbeats 4000000 in
set_option maxRecDepth 20000 in
theorem parseRight_any (s : ByteArray) (deep nodes : Nat) (w : World) : Calls Try.prog 7 #[.string s, .float .f64 deep, .float .f64 nodes] w fun e w' => e = .returned (.bool true) ∧ Below w.heap.size w w' := by
  by_cases hbig : 3000 < s.size
  · go_enter Try.func7, Try.ntmps7
    go_wp2
    go_ret
    exact ⟨rfl, Below.refl _ _⟩
  have HP := Lib.hid (parse_any s deep nodes w (by omega))
  have hsl : s.data.toList.length = s.size := by simp
  go_enter Try.func7, Try.ntmps7
  go_wp2_with fail
  refine HP.out.mono ?_
  intro e w1 hg
  cases hx : parseB s.data.toList deep nodes with
  | error p =>
    obtain ⟨k, a⟩ := p
    obtain ⟨hin, hk2⟩ := parseB_in hx
    rw [hx] at hg
    obtain ⟨hb1, hg⟩ := hg
    have hle : (a : Int) ≤ (s.size : Int) := by omega
    have h0 : (0 : Int) ≤ (a : Int) := by omega
    have hba := (Below.refl w1.heap.size w1).alloc (Nat.le_refl _) (.cells #[.slice none 0 0, .int .i64 0, .int .i64 0, .slice none 0 0] 27)
    have HB2 := Lib.hid (hb1.trans (hba.mono hb1.size))
    have HK := Lib.hid (wakes13_any (w1.alloc (.cells #[.slice none 0 0, .int .i64 0, .int .i64 0, .slice none 0 0] 27)))
    clear hb1 hba hx HP hin hsl
    match k, hk2 with
    | 0, _ =>
      have he : e = .returned (.tuple #[.agg #[.slice none 0 0, .int .i64 0, .int .i64 0, .slice none 0 0], .int .i64 2, .int .i64 a, .string ⟨#[]⟩]) := hg
      subst he
      clear hg
      go_wp2_with fail
      refine HK.out.mono ?_
      rintro e w3 ⟨rfl, hb3⟩
      have HB3 := Lib.hid (HB2.out.trans (hb3.mono HB2.out.size))
      clear hb3 HK
      go_wp2
      go_ret
      exact ⟨rfl, HB3.out⟩
    | 1, _ =>
      have he : e = .returned (.tuple #[.agg #[.slice none 0 0, .int .i64 0, .int .i64 0, .slice none 0 0], .int .i64 4, .int .i64 a, .string ⟨#[100, 101, 101, 112]⟩]) := hg
      subst he
      clear hg
      go_wp2_with fail
      refine HK.out.mono ?_
      rintro e w3 ⟨rfl, hb3⟩
      have HB3 := Lib.hid (HB2.out.trans (hb3.mono HB2.out.size))
      clear hb3 HK
      go_wp2
      go_ret
      exact ⟨rfl, HB3.out⟩
    | 2, _ =>
      have he : e = .returned (.tuple #[.agg #[.slice none 0 0, .int .i64 0, .int .i64 0, .slice none 0 0], .int .i64 4, .int .i64 a, .string ⟨#[110, 111, 100, 101, 115]⟩]) := hg
      subst he
      clear hg
      go_wp2_with fail
      refine HK.out.mono ?_
      rintro e w3 ⟨rfl, hb3⟩
      have HB3 := Lib.hid (HB2.out.trans (hb3.mono HB2.out.size))
      clear hb3 HK
      go_wp2
      go_ret
      exact ⟨rfl, HB3.out⟩
  | ok p =>
    obtain ⟨l, t⟩ := p
    obtain ⟨hr1, hr2⟩ := parseB_right hx
    rw [hx] at hg
    obtain ⟨hb1, cv, sv, rfl, hl, hlt, hfi⟩ := hg
    obtain ⟨a1, c1, rfl, -, -⟩ := hl.out
    obtain ⟨a2, c2, rfl, -, -⟩ := hlt.out
    have hba := (Below.refl w1.heap.size w1).alloc (Nat.le_refl _) (.cells #[.slice a1 l.length c1, .int .i64 t.k, .int .i64 t.i, .slice a2 t.kids.length c2] 27)
    have hn := alloc_new w1 (.cells #[.slice a1 l.length c1, .int .i64 t.k, .int .i64 t.i, .slice a2 t.kids.length c2] 27)
    have HB2 := Lib.hid (hb1.trans (hba.mono hb1.size))
    have HL := Lib.hid (hl.later hba).lies
    have HT := Lib.hid (hlt.later hba).lies
    have HR := Lib.hid (And.intro hr1 hr2)
    clear hl hlt hfi hb1 hba hx HP hr1 hr2 hsl
    unfold fv
    go_upto_region 4 with fail
    obtain ⟨W, hW⟩ : ∃ W, W = w1.alloc (.cells #[.slice a1 l.length c1, .int .i64 t.k, .int .i64 t.i, .slice a2 t.kids.length c2] 27) := ⟨_, rfl⟩
    rw [← hW] at HB2 hn HL HT
    rw [← hW]
    clear hW
    have HN := Lib.hid hn
    have hlt1 := hltD hn
    obtain ⟨y0, y1, y2, y3⟩ := four_cells hn
    clear hn
    go_wp2_with fail
    refine (drights_any l W _ HL.out).mono ?_
    rintro e w2 ⟨rfl, hb2⟩
    rw [HR.out.1]
    have HB3 := Lib.hid (HB2.out.trans (hb2.mono HB2.out.size))
    have hn := (hb2.block _ hlt1).trans HN.out
    have HT2 := Lib.hid (HT.out.keep hb2)
    clear y0 y1 y2 y3 hb2
    obtain ⟨y0, y1, y2, y3⟩ := four_cells hn
    clear hn
    go_wp2_with fail
    refine (drefright_any t _ _ HT2.out).mono ?_
    rintro e w3 ⟨rfl, hb3⟩
    rw [HR.out.2]
    have HB4 := Lib.hid (HB3.out.trans (hb3.mono HB3.out.size))
    clear hb3 y0 y1 y2 y3
    go_wp2_with fail
    refine (wakes13_any _).mono ?_
    rintro e w4 ⟨rfl, hb4⟩
    have HB5 := Lib.hid (HB4.out.trans (hb4.mono HB4.out.size))
    clear hb4
    go_wp2
    go_ret
    exact ⟨rfl, HB5.out⟩
end Go.Proofs.Ytgglkpfcaniciaa.Dv

namespace Go.Proofs.Ytgglkpfcaniciaa
open Go.RowKit Go.ChangeShapes Go.WideShapes Go.ChangeAt
theorem own : ownKnob Try.prog.godebug = none := by kernel_rfl
end Go.Proofs.Ytgglkpfcaniciaa

namespace Go.Proofs.Ytgglkpfcaniciaa
open Go.ChangeShapes Go.WideShapes

def code (l : List Nat) : List Char := l.map Char.ofNat
def joinN : List (List Nat) → List Nat
  | [] => []
  | [a] => a
  | a :: b :: r => a ++ 32 :: joinN (b :: r)

theorem words_one : ∀ a : List Nat, (a.all fun n => Char.ofNat n != Char.ofNat 32) = true → wordsSigns (code a) = [code a]
  | [], _ => rfl
  | n :: a, h => by
    simp only [List.all_cons, Bool.and_eq_true, bne_iff_ne] at h
    have ih := words_one a h.2
    show wordsSigns (Char.ofNat n :: code a) = _
    rw [wordsSigns]
    · rw [ih]; rfl
    · exact h.1
theorem words_more : ∀ (a : List Nat) (r : List Char), (a.all fun n => Char.ofNat n != Char.ofNat 32) = true → wordsSigns (code a ++ Char.ofNat 32 :: r) = code a :: wordsSigns r
  | [], r, _ => by
    show wordsSigns (Char.ofNat 32 :: r) = _
    rw [show Char.ofNat 32 = _ from rfl, wordsSigns]; rfl
  | n :: a, r, h => by
    simp only [List.all_cons, Bool.and_eq_true, bne_iff_ne] at h
    have ih := words_more a r h.2
    show wordsSigns (Char.ofNat n :: (code a ++ Char.ofNat 32 :: r)) = _
    rw [wordsSigns]
    · rw [ih]; rfl
    · exact h.1
theorem words_join : ∀ ws : List (List Nat), ws ≠ [] → (ws.all fun w => w.all fun n => Char.ofNat n != Char.ofNat 32) = true → wordsSigns (code (joinN ws)) = ws.map code
  | [], h, _ => absurd rfl h
  | [a], _, h => by simp only [List.all_cons, List.all_nil, Bool.and_true] at h; exact words_one a h
  | a :: b :: r, _, h => by
    have h' := h
    rw [List.all_cons, Bool.and_eq_true] at h'
    have ih := words_join (b :: r) (by simp) h'.2
    show wordsSigns (code (a ++ 32 :: joinN (b :: r))) = _
    rw [show code (a ++ 32 :: joinN (b :: r)) = code a ++ Char.ofNat 32 :: code (joinN (b :: r)) from by simp [code], words_more a _ h'.1, ih]; rfl

def cutWords : List (List Nat) := [[104, 97, 114, 110, 101, 115, 115],
  [99, 51, 56, 48, 55, 57, 100, 52, 57, 56, 52, 101, 53, 48, 51, 101, 56, 56, 102, 56, 101, 48, 50, 53, 54, 57, 54, 57, 98, 100, 48, 54, 49, 102, 99, 51, 49, 50, 98, 55, 49, 102, 57, 53, 54, 102, 56, 48, 102, 57, 50, 52, 56, 99, 98, 53, 50, 55, 50, 50, 57, 49, 99, 98],
  [99, 117, 116],
  [97, 116],
  [116, 114, 97, 110, 115, 104, 105, 112, 47, 116, 114, 97, 110, 115, 104, 105, 112, 108, 97, 119, 49, 51, 46, 80, 97, 114, 115, 101, 69, 120, 97, 99, 116],
  [116, 114, 97, 110, 115, 104, 105, 112, 47, 116, 114, 97, 110, 115, 104, 105, 112, 108, 97, 119, 49, 51, 46, 80, 97, 114, 115, 101, 77, 111, 114, 101],
  [116, 114, 97, 110, 115, 104, 105, 112, 47, 116, 114, 97, 110, 115, 104, 105, 112, 108, 97, 119, 49, 51, 46, 80, 97, 114, 115, 101, 76, 105, 109, 105, 116, 115],
  [116, 114, 97, 110, 115, 104, 105, 112, 47, 116, 114, 97, 110, 115, 104, 105, 112, 108, 97, 119, 49, 51, 46, 80, 97, 114, 115, 101, 66, 101, 116, 119, 101, 101, 110],
  [116, 114, 97, 110, 115, 104, 105, 112, 47, 116, 114, 97, 110, 115, 104, 105, 112, 108, 97, 119, 49, 51, 46, 80, 97, 114, 115, 101, 82, 105, 103, 104, 116]]

set_option maxRecDepth 100000 in
theorem cut_words : wordsSigns Try.prog.initOrder.toList = cutWords.map code := by
  have h : Try.prog.initOrder.toList = code (joinN cutWords) := by
    show (String.ofList (code (joinN cutWords))).toList = _
    exact String.toList_ofList
  rw [h]
  exact words_join cutWords (by simp [cutWords]) (by decide +kernel)

theorem cut_behind : behindMainWord (cutWords.map code) = code [99, 117, 116] :: cutWords.tail.tail.tail.map code := by kernel_rfl
theorem cut_lifts : stripLifts liftWords (code [99, 117, 116] :: cutWords.tail.tail.tail.map code) = ([], code [99, 117, 116] :: cutWords.tail.tail.tail.map code) := by kernel_rfl
theorem cut1 : (code [99, 117, 116] == "gc".toList) = false := by kernel_rfl
theorem cut2 : (code [99, 117, 116] == "spec".toList) = false := by kernel_rfl
theorem cut3 : (code [99, 117, 116] == "cut".toList) = true := by kernel_rfl
theorem cut_all : behindMainWord (wordsSigns Try.prog.initOrder.toList) = code [99, 117, 116] :: cutWords.tail.tail.tail.map code := by rw [cut_words, cut_behind]
theorem make_of (P : Program) {c : List Char} {rest : List (List Char)} (h : behindMainWord (wordsSigns P.initOrder.toList) = c :: rest) (h1 : (c == "gc".toList) = false) (h2 : (c == "spec".toList) = false) (h3 : (c == "cut".toList) = true) : P.make = some .cut := by
  unfold Program.make; rw [h]
  simp only [h1, h2, h3, Bool.or_self, Bool.false_eq_true, if_false, Bool.true_or, if_true]
theorem mayEnter_of (P : Program) {c : List Char} {rest : List (List Char)} (h : behindMainWord (wordsSigns P.initOrder.toList) = c :: rest) (h3 : ((stripLifts liftWords (c :: rest)).2.head? == some "cut".toList) = true)
    (h4 : (stripLifts liftWords (c :: rest)).1 = []) (h5 : P.laysLater = false) (h6 : P.bearsReflect = false) (h7 : P.doorFits [] = true) : P.mayEnter = true := by
  unfold Program.mayEnter; rw [h]
  refine Bool.or_eq_true_iff.2 (Or.inr ?_)
  rw [h3, h4, h5, h6, h7]; rfl
theorem row_make : Try.prog.make = some .cut := make_of Try.prog cut_all cut1 cut2 cut3
theorem row_mayEnter : Try.prog.mayEnter = true := mayEnter_of Try.prog cut_all (by rw [cut_lifts]; kernel_rfl) (by rw [cut_lifts]) (by kernel_rfl) (by kernel_rfl) (by kernel_rfl)
theorem row_lifts : Try.prog.liftsFinal = false := by unfold Program.liftsFinal Program.headLifts; rw [cut_all, cut_lifts]; kernel_rfl
end Go.Proofs.Ytgglkpfcaniciaa

namespace Go.Proofs.Ytgglkpfcaniciaa.lawParseRight
open Go.ChangeShapes Go.WideShapes Go.ChangeAt Go.RowKit Go.ChangeMaps

set_option maxRecDepth 100000 in
theorem lifted (os : Os) (started : os.Started) (H : Type) (enc : TypeId × Value → H) :
    ReturnsInHanded {} Try.checked os 7 .any (Rows.parseRightSpec.pre6 enc Try.prog Try.f7 Rows.parseRightRow.domain false) (Rows.parseRightSpec.post enc Try.prog Try.f7 false true false false) := by
  refine returnsInHanded_of_change (C := Try.checked) own started (by kernel_rfl) Try.func7
    (ChangeSpec.witness6 (enc := enc) (C := Try.checked) false ⟨#[], #[.string ⟨#[]⟩, .float .f64 0, .float .f64 0], []⟩ 8 (by kernel_rfl) (by kernel_rfl) (by kernel_rfl) (by kernel_rfl)) ?_
  intro W base args ds gs before hval0 hW hcnd _
  have hval : ∀ (j : Nat) t v, Try.f7.params[j]? = some t → args[j]? = some v → Value.okWide Try.prog W .any base t v := hval0
  have hW' := hW
  obtain ⟨p, q, hA0, hV, rfl, hfz, hnd⟩ := hW
  have hA : DataW.TrodAll enc Try.prog W 0 (fun _ => true) true Try.f7.params.toList args.toList ds p := hA0
  rw [Try.params7] at hA hval
  obtain ⟨v0, vs0, d0, ds0, p0, q0, hargs0, rfl, rfl, h0, r0⟩ := trodAll_cons hA
  obtain ⟨v1, vs1, d1, ds1, p1, q1, hargs1, rfl, rfl, h1, r1⟩ := trodAll_cons r0
  obtain ⟨v2, vs2, d2, ds2, p2, q2, hargs2, rfl, rfl, h2, r2⟩ := trodAll_cons r1
  obtain ⟨rfl, rfl, rfl⟩ := trodAll_nil r2
  obtain rfl : args = #[v0, v1, v2] := by cases args; simp_all
  obtain ⟨rfl, rfl⟩ := trodVars_none hV
  obtain ⟨a0, rfl, rfl, rfl, w0⟩ := open_string Try.underlying9 (hval 0 9 v0 rfl rfl) h0
  obtain ⟨a1, rfl, rfl, rfl, w1⟩ := open_float Try.underlying22 (hval 1 22 v1 rfl rfl) h1
  obtain ⟨a2, rfl, rfl, rfl, w2⟩ := open_float Try.underlying22 (hval 2 22 v2 rfl rfl) h2
  clear hA0 hval0
  simp only [List.append_nil] at hW'
  refine (Dv.parseRight_any a0 a1 a2 W).mono fun e W' ⟨he, hb⟩ => ?_
  subst he
  exact ⟨_, rfl, _, _, _, [], _, [], hW', trodAll_cons_mk (shut_bool Try.underlying4 _) trodAll_mk0, (trodAll_cons_mk (shut_string Try.underlying9 w0) (trodAll_cons_mk (shut_float Try.underlying22 w1) (trodAll_cons_mk (shut_float Try.underlying22 w2) trodAll_mk0))), rfl, hb.frame _, fun h => by cases h⟩

theorem closed : joinedFacts Try.prog 7 Try.f7 Rows.parseRightSpec Rows.parseRightRow = true := by
  unfold joinedFacts
  rw [row_mayEnter, row_lifts, row_make]
  kernel_rfl

theorem proved : Rows.ParseRightSaid :=
  OpenClaim.holds_of_wide 7 Try.f7 rfl rfl rfl rfl rfl rfl rfl ⟨rfl, rfl, rfl, rfl, rfl⟩ rfl rfl rfl rfl rfl (by kernel_rfl) Try.func7 closed
    (of_decide_eq_true (by kernel_rfl)) (by unfold Func.isWrapper; first | (rw [if_pos (by decide +kernel)]; kernel_rfl) | (rw [if_neg (by decide +kernel)]; exact ⟨rfl, rfl⟩))
    (fun os started H enc _ => lifted os started H enc)
#print axioms proved
end Go.Proofs.Ytgglkpfcaniciaa.lawParseRight
