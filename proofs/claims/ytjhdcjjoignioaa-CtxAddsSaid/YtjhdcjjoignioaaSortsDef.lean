/-
  Which terms are marked, which are plain: on trees alone.
-/
import Derived.Test.YtjhdcjjoignioaaNum4
namespace Go.Proofs.Ytjhdcjjoignioaa
open Go.RowKit

mutual
def Tm.plainB : Tm → Bool
  | .mk k i j n l => (k == 1 || (k == 2 || (decide (13 ≤ k) && decide (k ≤ 23)))) && (((l.length : Int) == kidsN k n) && (numbersN k i j n && plains l))
def plains : List Tm → Bool
  | [] => true
  | t :: r => t.plainB && plains r
end

mutual
def Tm.markedB : Tm → Bool
  | .mk k i j n l => (decide (1 ≤ k) && decide (k ≤ 12)) && (((l.length : Int) == kidsN k n) && (numbersN k i j n && markeds (k == 12) 0 l))
def markeds : Bool → Nat → List Tm → Bool
  | _, _, [] => true
  | tr, p, t :: r => (if tr && p == 2 then t.plainB else t.markedB) && markeds tr (p + 1) r
end

/-- A node has as many kids, and the numbers, that its kind says. -/
def Tm.nodeB (t : Tm) : Bool := ((t.kids.length : Int) == kidsN t.k t.n) && numbersN t.k t.i t.j t.n

theorem Tm.plainB_eq (t : Tm) : t.plainB = ((t.k == 1 || (t.k == 2 || (decide (13 ≤ t.k) && decide (t.k ≤ 23)))) && (t.nodeB && plains t.kids)) := by
  cases t; simp only [Tm.plainB, Tm.nodeB, Tm.k, Tm.i, Tm.j, Tm.n, Tm.kids, Bool.and_assoc]; rfl
theorem Tm.markedB_eq (t : Tm) : t.markedB = ((decide (1 ≤ t.k) && decide (t.k ≤ 12)) && (t.nodeB && markeds (t.k == 12) 0 t.kids)) := by
  cases t; simp only [Tm.markedB, Tm.nodeB, Tm.k, Tm.i, Tm.j, Tm.n, Tm.kids, Bool.and_assoc]; rfl

theorem plains_take (l : List Tm) (k : Nat) (h : k < l.length) : plains (l.take (k + 1)) = (plains (l.take k) && (l[k]).plainB) := by
  induction l generalizing k with
  | nil => simp at h
  | cons a r ih =>
    cases k with
    | zero => simp [plains]
    | succ k => simp only [List.take_succ_cons, plains, List.getElem_cons_succ]; rw [ih k (by simpa using h), Bool.and_assoc]

theorem plains_of (l : List Tm) (k : Nat) (h : k < l.length) (hp : (l[k]).plainB = false) : plains l = false := by
  induction l generalizing k with
  | nil => simp at h
  | cons a r ih =>
    cases k with
    | zero => simp only [List.getElem_cons_zero] at hp; simp [plains, hp]
    | succ k => simp only [List.getElem_cons_succ] at hp; simp [plains, ih k (by simpa using h) hp]

/-- What is asked of the kid number k of a marked term. -/
def Tm.kidB (t : Tm) (tr : Bool) (k : Nat) : Bool := if tr && k == 2 then t.plainB else t.markedB

theorem markeds_take (tr : Bool) (l : List Tm) (p k : Nat) (h : k < l.length) : markeds tr p (l.take (k + 1)) = (markeds tr p (l.take k) && (l[k]).kidB tr (p + k)) := by
  induction l generalizing p k with
  | nil => simp at h
  | cons a r ih =>
    cases k with
    | zero => simp [markeds, Tm.kidB]
    | succ k =>
      simp only [List.take_succ_cons, markeds, List.getElem_cons_succ]
      rw [ih (p + 1) k (by simpa using h), Bool.and_assoc, show p + 1 + k = p + (k + 1) by omega]

theorem markeds_of (tr : Bool) (l : List Tm) (p k : Nat) (h : k < l.length) (hp : (l[k]).kidB tr (p + k) = false) : markeds tr p l = false := by
  induction l generalizing p k with
  | nil => simp at h
  | cons a r ih =>
    cases k with
    | zero => simp only [List.getElem_cons_zero, Nat.add_zero, Tm.kidB] at hp; simp only [markeds, hp, Bool.false_and]
    | succ k =>
      simp only [List.getElem_cons_succ] at hp
      simp only [markeds]
      rw [ih (p + 1) k (by simpa using h) (by rw [show p + 1 + k = p + (k + 1) by omega]; exact hp), Bool.and_false]

theorem kidsN_nonneg {k n : Int} (h : 0 ≤ kidsN k n) : 1 ≤ k ∧ k ≤ 23 := by
  unfold kidsN at h; (repeat' split at h) <;> omega
theorem kidsN_two {k n : Int} (h1 : 1 ≤ k) (h2 : k ≤ 2) : kidsN k n = 0 := by
  unfold kidsN; rw [if_pos (by omega)]

theorem Tm.node_kind {t : Tm} (h : t.nodeB = true) : 1 ≤ t.k ∧ t.k ≤ 23 := by
  simp only [Tm.nodeB, Bool.and_eq_true, beq_iff_eq] at h
  exact kidsN_nonneg (n := t.n) (by omega)

/-- Its sorts: 1 for marked, 2 for plain, 3 for both. -/
def Tm.sortsN (t : Tm) : Int := (if t.markedB then 1 else 0) + (if t.plainB then 2 else 0)

theorem sorts_bad {t : Tm} (h : t.nodeB = false) : t.sortsN = 0 := by
  simp [Tm.sortsN, Tm.plainB_eq, Tm.markedB_eq, h]
theorem sorts_two {t : Tm} (h : t.nodeB = true) (h2 : t.k ≤ 2) : t.sortsN = 3 ∧ t.kids = [] := by
  have hk := (Tm.node_kind h).1
  have hl : t.kids = [] := by
    simp only [Tm.nodeB, Bool.and_eq_true, beq_iff_eq] at h
    rw [kidsN_two hk h2] at h
    exact List.eq_nil_of_length_eq_zero (by omega)
  have h3 : (t.k == 1 || (t.k == 2 || (decide (13 ≤ t.k) && decide (t.k ≤ 23)))) = true := by
    have : t.k = 1 ∨ t.k = 2 := by omega
    rcases this with e | e <;> simp [e]
  have h4 : (decide (1 ≤ t.k) && decide (t.k ≤ 12)) = true := by simp; omega
  refine ⟨?_, hl⟩
  simp [Tm.sortsN, Tm.plainB_eq, Tm.markedB_eq, h, h3, h4, hl, plains, markeds]
theorem sorts_marked {t : Tm} (h : t.nodeB = true) (h2 : 2 < t.k) (h3 : t.k ≤ 12) : t.sortsN = if markeds (t.k == 12) 0 t.kids then 1 else 0 := by
  have h4 : (decide (1 ≤ t.k) && decide (t.k ≤ 12)) = true := by simp; omega
  have h5 : (t.k == 1 || (t.k == 2 || (decide (13 ≤ t.k) && decide (t.k ≤ 23)))) = false := by
    simp; omega
  simp [Tm.sortsN, Tm.plainB_eq, Tm.markedB_eq, h, h4, h5]
theorem sorts_plain {t : Tm} (h : t.nodeB = true) (h2 : 12 < t.k) : t.sortsN = if plains t.kids then 2 else 0 := by
  have hk := (Tm.node_kind h).2
  have h4 : (decide (1 ≤ t.k) && decide (t.k ≤ 12)) = false := by simp; omega
  have h5 : (t.k == 1 || (t.k == 2 || (decide (13 ≤ t.k) && decide (t.k ≤ 23)))) = true := by
    simp; omega
  simp [Tm.sortsN, Tm.plainB_eq, Tm.markedB_eq, h, h4, h5]
end Go.Proofs.Ytjhdcjjoignioaa
