/-
  deriv.Right, and the page's own.
-/
import Derived.Test.YtjhdcjjoignioaaDTab
import Derived.Test.YtjhdcjjoignioaaDDesk
import Derived.BigQuiet
import Derived.Deep.QuietTactic
import Derived.Lib.QuietBelow
namespace Go.Proofs.Ytjhdcjjoignioaa.Dv
open Go.RowKit

def mostN (r : Int) : Int := if r = 1 ∨ r = 2 then 1000000 else 0
def nodeOk (k i : Int) (n : Nat) : Bool := decide (0 ≤ dkidsN k) && ((n : Int) == dkidsN k) && decide (0 ≤ i) && decide (i ≤ mostN k)
mutual
def Tm.rightB : Tm → Bool
  | .mk k i l => nodeOk k i l.length && rights l
def rights : List Tm → Bool
  | [] => true
  | x :: r => x.rightB && rights r
end
theorem Tm.rightB_eq (t : Tm) : t.rightB = (nodeOk t.k t.i t.kids.length && rights t.kids) := by cases t; simp only [Tm.rightB]; rfl
theorem rights_take : ∀ (l : List Tm) (k : Nat) (h : k < l.length), rights (l.take (k + 1)) = (rights (l.take k) && (l[k]).rightB)
  | x :: r, 0, _ => by simp [rights]
  | x :: r, k + 1, h => by
    simp only [List.take_succ_cons, rights, List.getElem_cons_succ]
    rw [rights_take r k (by simpa using h), Bool.and_assoc]
theorem rights_of : ∀ (l : List Tm) (k : Nat) (h : k < l.length), (l[k]).rightB = false → rights l = false
  | x :: r, 0, _, hs => by simp only [List.getElem_cons_zero] at hs; simp [rights, hs]
  | x :: r, k + 1, h, hs => by
    simp only [List.getElem_cons_succ] at hs
    simp [rights, rights_of r k (by simpa using h) hs]
theorem right_bad {t : Tm} (h : nodeOk t.k t.i t.kids.length = false) : t.rightB = false := by rw [t.rightB_eq, h]; rfl
theorem bad1 {k i : Int} {n : Nat} (h : dkidsN k < 0) : nodeOk k i n = false := by unfold nodeOk; rw [decide_eq_false (by omega)]; simp
theorem bad2 {k i : Int} {n : Nat} (h : ¬ (n : Int) = dkidsN k) : nodeOk k i n = false := by unfold nodeOk; rw [beq_eq_false_iff_ne.2 h]; simp
theorem bad3 {k i : Int} {n : Nat} (h : i < 0) : nodeOk k i n = false := by unfold nodeOk; rw [decide_eq_false (by omega : ¬ 0 ≤ i)]; simp
theorem bad4 {k i : Int} {n : Nat} (h : mostN k < i) : nodeOk k i n = false := by unfold nodeOk; rw [decide_eq_false (by omega : ¬ i ≤ mostN k)]; simp
theorem good_node {k i : Int} {n : Nat} (h1 : 0 ≤ dkidsN k) (h2 : (n : Int) = dkidsN k) (h3 : 0 ≤ i) (h4 : i ≤ mostN k) : nodeOk k i n = true := by unfold nodeOk; simp [h1, h2, h3, h4]

theorem dmost_any (r : Int) (w : World) : Calls Try.prog 63 #[.int .i64 r] w fun e w' => e = .returned (.int .i64 (mostN r)) ∧ w' = w := by
  go_enter Try.func63, Try.ntmps63
  go_wp2
  all_goals go_ret
  all_goals exact ⟨ret_int (by unfold mostN; split <;> first | rfl | (simp_all; done) | (simp only [beq_iff_eq, beq_eq_false_iff_ne, ne_eq] at *; omega)), rfl⟩
def numberedB (r : Int) : Bool := r == 1 || r == 2
theorem held_drewN {w w1 : World} {t : Tm} {s : Value} (h : Held w t s w1) (n : Nat) : Held w t s (w1.drewN n) := Below.trans h ⟨rfl, rfl, rfl, Nat.le_refl _, fun _ _ => rfl⟩
theorem held_grown {w w1 : World} {t : Tm} {s : Value} (h : Held w t s w1) (d : Nat) (os : Array Obj) : Held w t s (Go.Sort.grow (redrawn w1 d) os) := held_call h (below_regrown w1 d os)
theorem five_cells_box {w wr : World} {t : Tm} {s : Value} (h : Held w t s wr) : wr.cell? ⟨w.heap.size, 0, none⟩ = some (.int .i64 t.k) ∧ wr.cell? ⟨w.heap.size, 1, none⟩ = some (.int .i64 t.i) ∧ wr.cell? ⟨w.heap.size, 2, none⟩ = some s := held_cells h

set_option maxHeartbeats 2000000 in
theorem dright_any (t : Tm) : ∀ (w : World) (s : Value), Lies w t.kids s → Calls Try.prog 35 #[tv t s] w fun e w' => e = .returned (.bool t.rightB) ∧ Below w.heap.size w w' := by
  induction t using Tm.ind with
  | h t ih =>
    intro w s hl
    obtain ⟨a, cap, S, rfl, hc, hm, hf, hn, hk⟩ := hl.out
    unfold tv
    unfold maxLen at hm
    have H0 := held_start w t (.slice a t.kids.length cap)
    have IH := Lib.hid ih
    have HN := Lib.hid hn
    have HK := Lib.hid hk
    clear ih hn hk hf hl
    obtain ⟨n, hnn⟩ : ∃ n, dkidsN t.k = n := ⟨_, rfl⟩
    have HNN := Lib.hid hnn
    have CK := Lib.hid (fun w' => dkids_any t.k w')
    rw [hnn] at CK
    obtain ⟨m, hmm⟩ : ∃ m, mostN t.k = m := ⟨_, rfl⟩
    have HMM := Lib.hid hmm
    have CM := Lib.hid (fun w' => dmost_any t.k w')
    rw [hmm] at CM
    clear hnn hmm
    by_cases h1 : n < 0
    · have HB := Lib.hid (right_bad (t := t) (bad1 (by rw [HNN.out]; exact h1)))
      have e1 : decide (n < 0) = true := by simpa using h1
      go_enter Try.func35, Try.ntmps35
      go_wp2_with fail
      refine (CK.out _).mono ?_
      rintro e w1 ⟨rfl, rfl⟩
      go_wp2_with fail
      go_quiet ((go_at_call 63; exact Calls.quiet_of_same (CM.out _)))
      go_wp2_with fail
      go_ret
      exact ⟨ret_bool HB.out.symm, held_below (held_drewN H0 _)⟩
    have e1 : decide (n < 0) = false := by simpa using h1
    by_cases h2 : (t.kids.length : Int) = n
    rotate_left
    · have HB := Lib.hid (right_bad (t := t) (bad2 (by rw [HNN.out]; exact h2)))
      have e2 : ((t.kids.length : Int) == n) = false := by simpa using h2
      have e2' : ((t.kids.length : Int) != n) = true := by simpa using h2
      clear h2
      go_enter Try.func35, Try.ntmps35
      go_wp2_with fail
      refine (CK.out _).mono ?_
      rintro e w1 ⟨rfl, rfl⟩
      go_wp2_with fail
      go_quiet ((go_at_call 63; exact Calls.quiet_of_same (CM.out _)))
      go_wp2_with fail
      all_goals go_ret
      all_goals exact ⟨ret_bool HB.out.symm, held_below (held_drewN H0 _)⟩
    have e2 : ((t.kids.length : Int) == n) = true := by simpa using h2
    have e2' : ((t.kids.length : Int) != n) = false := by simpa using h2
    have H2 := Lib.hid h2
    clear h2
    by_cases h3 : t.i < 0
    · have HB := Lib.hid (right_bad (t := t) (bad3 (n := t.kids.length) h3))
      have e3 : decide (t.i < 0) = true := by simpa using h3
      go_enter Try.func35, Try.ntmps35
      go_wp2_with fail
      refine (CK.out _).mono ?_
      rintro e w1 ⟨rfl, rfl⟩
      go_wp2_with fail
      go_quiet ((go_at_call 63; exact Calls.quiet_of_same (CM.out _)))
      go_wp2_with fail
      all_goals go_ret
      all_goals exact ⟨ret_bool HB.out.symm, held_below (held_drewN H0 _)⟩
    have e3 : decide (t.i < 0) = false := by simpa using h3
    by_cases h4 : m < t.i
    · have HB := Lib.hid (right_bad (t := t) (bad4 (n := t.kids.length) (by rw [HMM.out]; exact h4)))
      have e4 : decide (m < t.i) = true := by simpa using h4
      go_enter Try.func35, Try.ntmps35
      go_wp2_with fail
      refine (CK.out _).mono ?_
      rintro e w1 ⟨rfl, rfl⟩
      go_wp2_with fail
      go_quiet ((go_at_call 63; exact Calls.quiet_of_same (CM.out _)))
      go_wp2_with fail
      all_goals go_ret
      all_goals exact ⟨ret_bool HB.out.symm, held_below (held_drewN H0 _)⟩
    have e4 : decide (m < t.i) = false := by simpa using h4
    have HG := Lib.hid (show t.rightB = rights t.kids by rw [t.rightB_eq, good_node (by rw [HNN.out]; omega) (by rw [HNN.out]; exact H2.out) (by omega) (by rw [HMM.out]; omega)]; rfl)
    go_enter Try.func35, Try.ntmps35
    go_wp2_with fail
    refine (CK.out _).mono ?_
    rintro e w1 ⟨rfl, rfl⟩
    go_wp2_with fail
    go_quiet ((go_at_call 63; exact Calls.quiet_of_same (CM.out _)))
    go_wp2_with fail
    go_loopw [34] (fun iv wr => ∃ q : Nat, q ≤ t.kids.length ∧ iv = .int .i64 q ∧ Hid (rights (t.kids.take q) = true) ∧ Held w t (.slice a t.kids.length cap) wr) (fun iv _ => t.kids.length - (intOf iv).toNat)
    case atStart => exact ⟨0, Nat.zero_le _, rfl, by simp [Hid, rights], held_drewN H0 _⟩
    case round =>
      clear H0
      obtain ⟨q, hq0, rfl, hgood, hh⟩ := hrel
      have hb := held_below hh
      by_cases hlt : q < t.kids.length
      · obtain ⟨b, o, rfl, hx⟩ := HN.out q hlt
        obtain ⟨c0, c1, c2⟩ := hx.below hb hx.lt
        have hq := (HK.out q hlt).keep hb
        obtain ⟨a', cap', S', hS, -⟩ := hq.out
        rw [hS] at c2 hq
        have HQ := Lib.hid hq
        have HM := Lib.hid (List.getElem_mem hlt)
        have hh2 := held_alloc hh (.cells #[.int .i64 t.kids[q].k, .int .i64 t.kids[q].i, .slice a' t.kids[q].kids.length cap'] 53)
        have HNEW := Lib.hid ((Below.refl wr.heap.size wr).alloc (Nat.le_refl _) (.cells #[.int .i64 t.kids[q].k, .int .i64 t.kids[q].i, .slice a' t.kids[q].kids.length cap'] 53))
        clear hS hq
        go_wp2_with fail
        refine (IH.out _ HM.out _ _ (HQ.out.keep HNEW.out)).mono ?_
        rintro e wn ⟨rfl, hbn⟩
        have hh3 := held_call hh2 hbn
        clear hbn hh2 hb
        cases hr : (t.kids[q]).rightB
        · have HR := Lib.hid (rights_of t.kids q hlt hr)
          go_wp2
          go_ret
          exact ⟨ret_bool (by rw [HG.out]; exact HR.out.symm), held_below hh3⟩
        · go_wp2
          go_roundw
          case rel => exact ⟨q + 1, by omega, by go_num, by show _ = true; rw [rights_take _ _ hlt, hgood.out, hr]; rfl, hh3⟩
          case measure => simp [intOf]; omega
      · have : q = t.kids.length := by omega
        subst this
        go_wp2
        go_ret
        exact ⟨ret_bool (by have := hgood.out; rw [List.take_length] at this; rw [HG.out]; exact this.symm), hb⟩

theorem numbered_most {r : Int} (h : numberedB r = true) : mostN r = 1000000 := by unfold numberedB at h; unfold mostN; simp at h; rw [if_pos h]
theorem numbered_least {r : Int} (h : numberedB r = false) : mostN r = 0 := by unfold numberedB at h; unfold mostN; simp at h; rw [if_neg (by omega)]
theorem most_le (r : Int) : mostN r ≤ 1000000 := by unfold mostN; split <;> omega
end Go.Proofs.Ytjhdcjjoignioaa.Dv
