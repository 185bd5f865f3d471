/-
  Facts and contracts that the proof of ShapeWays uses.
-/
import Derived.Test.YtgododpkbiaacaaGreatRows
import Derived.WalkKit
import Derived.Lib.Hide
import Derived.KernelRfl
import Derived.Deep.RegionWith
import Derived.Deep.RegionHeld3
import Derived.Deep.AppendLies
import Derived.Laws.Rows
import Derived.Laws.IdiomCopy
import Derived.Deep.Slices
import Derived.Lib.QuietBelow
import Derived.StillTailTactics
import Derived.BigQuiet
import Derived.IntWalk
import Derived.OwnWalk
import Derived.Deep.RegionLaw
import Derived.Deep.QuietTactic
import Derived.Deep.LoopGhost
import Derived.Deep.DeepCutAuto
import Derived.OrdersHeld
import Derived.Deep.MidRow
import Derived.Laws.Tables
import Derived.Laws.CopyOwn
import Derived.Laws.CopyRow
import Derived.Deep.RegionHeld
import Derived.Lib.MinMax
import Derived.ProofKit
import Derived.OpenShut
import Derived.Carry
import Derived.ChangeSlices
import Derived.JoinedOf
namespace Go.Proofs.YtgododpkbiaacaaGreat
open Go.RowKit

def givenN (s : Int) : Int := if s = 3 ∨ s = 5 ∨ s = 6 ∨ s = 8 ∨ s = 10 ∨ s = 11 then 4 else if s = 1 ∨ s = 2 ∨ s = 7 ∨ s = 9 then 5 else if s = 4 ∨ s = 12 ∨ s = 13 ∨ s = 14 ∨ s = 21 then 6 else if s = 15 ∨ s = 18 ∨ s = 19 ∨ s = 20 then 9 else if s = 16 ∨ s = 17 then 12 else -1

def kidsN (k s : Int) : Int :=
  if k = 1 ∨ k = 2 then 0 else if k = 18 ∨ k = 19 then 1 else if k = 3 ∨ k = 6 ∨ k = 13 ∨ k = 14 ∨ k = 15 ∨ k = 16 ∨ k = 21 ∨ k = 11 then 2
  else if k = 4 ∨ k = 8 ∨ k = 9 ∨ k = 10 ∨ k = 20 then 3 else if k = 5 ∨ k = 7 ∨ k = 12 ∨ k = 17 then 4 else if k = 22 then 6 else if k = 23 then givenN s else -1

def bindsN (k i : Int) : Int :=
  if k = 3 ∨ k = 5 ∨ k = 6 ∨ k = 7 ∨ k = 8 ∨ k = 9 ∨ k = 13 ∨ k = 14 ∨ k = 16 ∨ k = 17 then (if i = 1 then 1 else 0)
  else if k = 4 then (if i = 1 ∨ i = 2 then 1 else 0) else if k = 22 then (if i = 2 then 2 else 0) else 0

theorem ret_int {a b : Int} (h : a = b) : Ending.returned (.int .i64 a) = .returned (.int .i64 b) := by rw [h]
theorem ret_bool {a b : Bool} (h : a = b) : Ending.returned (.bool a) = .returned (.bool b) := by rw [h]

set_option maxHeartbeats 1000000 in
theorem given_any (s : Int) (w : World) : Calls Tryz.prog 83 #[.int .i64 s] w fun e w' => e = .returned (.int .i64 (givenN s)) ∧ w = w' := by
  go_enter Tryz.func83, Tryz.ntmps83
  go_wp2
  all_goals go_ret
  all_goals exact ⟨ret_int (by simp only [beq_iff_eq, beq_eq_false_iff_ne, ne_eq] at *; unfold givenN; (repeat' split) <;> omega), rfl⟩

set_option maxHeartbeats 1000000 in
theorem kids_any (k s : Int) (w : World) : Calls Tryz.prog 76 #[.int .i64 k, .int .i64 s] w fun e w' => e = .returned (.int .i64 (kidsN k s)) ∧ w = w' := by
  go_enter Tryz.func76, Tryz.ntmps76
  go_wp2_with (go_at_call 83; refine (given_any _ _).mono ?_; rintro e w' ⟨rfl, rfl⟩)
  all_goals go_ret
  all_goals exact ⟨ret_int (by simp only [beq_iff_eq, beq_eq_false_iff_ne, ne_eq] at *; unfold kidsN; (repeat' split) <;> omega), rfl⟩

set_option maxHeartbeats 1000000 in
theorem binds_any (k i : Int) (w : World) : Calls Tryz.prog 68 #[.int .i64 k, .int .i64 i] w fun e w' => e = .returned (.int .i64 (bindsN k i)) ∧ w = w' := by
  go_enter Tryz.func68, Tryz.ntmps68
  go_wp2
  all_goals go_ret
  all_goals exact ⟨ret_int (by simp only [beq_iff_eq, beq_eq_false_iff_ne, ne_eq] at *; unfold bindsN; (repeat' split) <;> omega), rfl⟩

def levelB (i : Int) : Bool := decide (0 ≤ i) && decide (i ≤ 1000)
set_option maxHeartbeats 1000000 in
theorem level_any (i : Int) (w : World) : Calls Tryz.prog 84 #[.int .i64 i] w fun e w' => e = .returned (.bool (levelB i)) ∧ w = w' := by
  go_enter Tryz.func84, Tryz.ntmps84
  go_wp2
  all_goals go_ret
  all_goals exact ⟨ret_bool (by unfold levelB; first | (simp_all; done) | (simp_all; omega)), rfl⟩
end Go.Proofs.YtgododpkbiaacaaGreat

namespace Go.Proofs.YtgododpkbiaacaaGreat
open Go.RowKit

theorem symbol_cases {s : Int} (h1 : 1 ≤ s) (h2 : s ≤ 21) : s = 1 ∨ s = 2 ∨ s = 3 ∨ s = 4 ∨ s = 5 ∨ s = 6 ∨ s = 7 ∨ s = 8 ∨ s = 9 ∨ s = 10 ∨ s = 11 ∨ s = 12 ∨ s = 13 ∨ s = 14 ∨ s = 15 ∨ s = 16 ∨ s = 17 ∨ s = 18 ∨ s = 19 ∨ s = 20 ∨ s = 21 := by omega

set_option maxHeartbeats 2000000 in
theorem refkids_use (s : Int) (w : World) : Calls Tryz.prog 61 #[.int .i64 23, .int .i64 s] w fun e w' => e = .returned (.int .i64 (kidsN 23 s)) ∧ Below w.heap.size w w' := by
  by_cases h1 : 1 ≤ s
  · by_cases h2 : s ≤ 21
    · rcases symbol_cases h1 h2 with rfl | rfl | rfl | rfl | rfl | rfl | rfl | rfl | rfl | rfl | rfl | rfl | rfl | rfl | rfl | rfl | rfl | rfl | rfl | rfl | rfl
      all_goals
        go_enter Tryz.func61, Tryz.ntmps61
        go_wp2
        go_ret
        exact ⟨rfl, (Below.refl _ _).alloc (Nat.le_refl _) _⟩
    · have h3 : decide (s ≤ 21) = false := by simpa using h2
      have h4 : decide ((1 : Int) ≤ s) = true := by simpa using h1
      go_enter Tryz.func61, Tryz.ntmps61
      go_wp2
      go_ret
      exact ⟨ret_int (by unfold kidsN givenN; (repeat' split) <;> omega), (Below.refl _ _).alloc (Nat.le_refl _) _⟩
  · have h4 : decide ((1 : Int) ≤ s) = false := by simpa using h1
    go_enter Tryz.func61, Tryz.ntmps61
    go_wp2
    go_ret
    exact ⟨ret_int (by unfold kidsN givenN; (repeat' split) <;> omega), (Below.refl _ _).alloc (Nat.le_refl _) _⟩

set_option maxHeartbeats 2000000 in
theorem refkids_any (k s : Int) (w : World) : Calls Tryz.prog 61 #[.int .i64 k, .int .i64 s] w fun e w' => e = .returned (.int .i64 (kidsN k s)) ∧ Below w.heap.size w w' := by
  by_cases hk : k = 23
  · subst hk; exact refkids_use s w
  · have hk' : (k == 23) = false := by simpa using hk
    go_enter Tryz.func61, Tryz.ntmps61
    go_wp2
    all_goals go_ret
    all_goals exact ⟨ret_int (by simp only [beq_iff_eq, beq_eq_false_iff_ne, ne_eq] at *; unfold kidsN; (repeat' split) <;> omega), Below.refl _ _⟩

set_option maxHeartbeats 1000000 in
theorem refbinds_any (k i : Int) (w : World) : Calls Tryz.prog 82 #[.int .i64 k, .int .i64 i] w fun e w' => e = .returned (.int .i64 (bindsN k i)) ∧ w = w' := by
  go_enter Tryz.func82, Tryz.ntmps82
  go_wp2
  all_goals go_ret
  all_goals exact ⟨ret_int (by simp only [beq_iff_eq, beq_eq_false_iff_ne, ne_eq] at *; unfold bindsN; (repeat' split) <;> omega), rfl⟩

set_option maxHeartbeats 1000000 in
theorem reflevel_any (i : Int) (w : World) : Calls Tryz.prog 80 #[.int .i64 i] w fun e w' => e = .returned (.bool (levelB i)) ∧ w = w' := by
  go_enter Tryz.func80, Tryz.ntmps80
  go_wp2
  all_goals go_ret
  all_goals exact ⟨ret_bool (by unfold levelB; first | (simp_all; done) | (simp_all; omega)), rfl⟩
end Go.Proofs.YtgododpkbiaacaaGreat

namespace Go.Proofs.YtgododpkbiaacaaGreat
open Go.RowKit

/-- A term: its kind, its three numbers, its kids. -/
inductive Tm where
  | mk (k i j n : Int) (l : List Tm)

namespace Tm
def k : Tm → Int | .mk k _ _ _ _ => k
def i : Tm → Int | .mk _ i _ _ _ => i
def j : Tm → Int | .mk _ _ j _ _ => j
def n : Tm → Int | .mk _ _ _ n _ => n
def kids : Tm → List Tm | .mk _ _ _ _ l => l
theorem eta (t : Tm) : Tm.mk t.k t.i t.j t.n t.kids = t := by cases t; rfl

theorem ind {P : Tm → Prop} (h : ∀ t, (∀ x ∈ t.kids, P x) → P t) : ∀ t, P t
  | .mk k i j n l => h (.mk k i j n l) (fun x (_ : x ∈ l) => ind h x)
end Tm

def I64 (x : Int) : Prop := -9223372036854775808 ≤ x ∧ x ≤ 9223372036854775807
def Tm.fine (t : Tm) : Prop := I64 t.k ∧ I64 t.i ∧ I64 t.j ∧ I64 t.n

/-- A term by value: s is the slice of its kids. -/
abbrev tv (t : Tm) (s : Value) : Value := .agg #[.int .i64 t.k, .int .i64 t.i, .int .i64 t.j, .int .i64 t.n, s]

/-- The five cells of a term at a place. -/
structure Node (w : World) (b o : Nat) (t : Tm) (s : Value) : Prop where
  c0 : w.cell? ⟨b, o, none⟩ = some (.int .i64 t.k)
  c1 : w.cell? ⟨b, o + 1, none⟩ = some (.int .i64 t.i)
  c2 : w.cell? ⟨b, o + 2, none⟩ = some (.int .i64 t.j)
  c3 : w.cell? ⟨b, o + 3, none⟩ = some (.int .i64 t.n)
  c4 : w.cell? ⟨b, o + 4, none⟩ = some s

/-- Terms that lie behind a slice. -/
inductive Lies (w : World) : List Tm → Value → Prop
  | mk (l : List Tm) (a : Option Addr) (cap : Nat) (S : Nat → Value) (hc : l.length ≤ cap) (hm : cap ≤ maxLen) (hf : ∀ x ∈ l, x.fine)
      (hn : ∀ i (h : i < l.length), ∃ b o, a = some ⟨b, o, none⟩ ∧ Node w b (o + i * 5) l[i] (S i)) (hk : ∀ i (h : i < l.length), Lies w (l[i]).kids (S i)) : Lies w l (.slice a l.length cap)

theorem Lies.out {w : World} {l : List Tm} {s : Value} (h : Lies w l s) : ∃ (a : Option Addr) (cap : Nat) (S : Nat → Value), s = .slice a l.length cap ∧ l.length ≤ cap ∧ cap ≤ maxLen ∧ (∀ x ∈ l, x.fine) ∧
    (∀ i (h : i < l.length), ∃ b o, a = some ⟨b, o, none⟩ ∧ Node w b (o + i * 5) l[i] (S i)) ∧ (∀ i (h : i < l.length), Lies w (l[i]).kids (S i)) := by
  cases h with
  | mk l a cap S hc hm hf hn hk => exact ⟨a, cap, S, rfl, hc, hm, hf, hn, hk⟩

theorem Node.lt {w : World} {b o : Nat} {t : Tm} {s : Value} (h : Node w b o t s) : b < w.heap.size := World.block_lt_of_cell? _ _ h.c0

theorem Node.below {w w' : World} {b o B : Nat} {t : Tm} {s : Value} (h : Node w b o t s) (hb : Below B w w') (hB : b < B) : Node w' b o t s :=
  ⟨(hb.cell (by exact hB)).trans h.c0, (hb.cell (by exact hB)).trans h.c1, (hb.cell (by exact hB)).trans h.c2, (hb.cell (by exact hB)).trans h.c3, (hb.cell (by exact hB)).trans h.c4⟩

/-- What lies in a world lies in every later one. -/
theorem Lies.keep {w w' : World} {l : List Tm} {s : Value} (h : Lies w l s) (hb : Below w.heap.size w w') : Lies w' l s := by
  induction h with
  | mk l a cap S hc hm hf hn hk ih =>
    exact .mk l a cap S hc hm hf (fun i hi => by obtain ⟨b, o, ha, hx⟩ := hn i hi; exact ⟨b, o, ha, hx.below hb hx.lt⟩) ih

end Go.Proofs.YtgododpkbiaacaaGreat

namespace Go.Proofs.YtgododpkbiaacaaGreat
open Go.RowKit

def numbersN (k i j n : Int) : Bool :=
  if k = 2 then decide (0 ≤ i) && (decide (i ≤ 2147483647) && ((j == 0) && (n == 0)))
  else if k = 1 ∨ k = 10 ∨ k = 11 ∨ k = 12 then levelB i && ((j == 0) && (n == 0))
  else if k = 3 ∨ k = 4 ∨ k = 5 ∨ k = 6 ∨ k = 7 ∨ k = 8 ∨ k = 9 then levelB i && (levelB j && (n == 0))
  else if k = 23 then levelB i && levelB j else (i == 0) && ((j == 0) && (n == 0))

set_option maxHeartbeats 2000000 in
theorem numbers_any (t : Tm) (s : Value) (w : World) : Calls Tryz.prog 77 #[tv t s] w fun e w' => e = .returned (.bool (numbersN t.k t.i t.j t.n)) ∧ Below w.heap.size w w' := by
  unfold tv
  generalize t.k = k, t.i = i, t.j = j, t.n = n
  go_enter Tryz.func77, Tryz.ntmps77
  go_wp2_with (go_at_call 84; refine (level_any _ _).mono ?_; rintro e w' ⟨rfl, rfl⟩)
  all_goals go_ret
  all_goals exact ⟨ret_bool (by simp only [beq_iff_eq, beq_eq_false_iff_ne, ne_eq] at *; unfold numbersN; (simp [*] <;> omega)), (Below.refl _ _).alloc (Nat.le_refl _) _⟩

set_option maxHeartbeats 2000000 in
theorem refnumbers_any (t : Tm) (s : Value) (w : World) : Calls Tryz.prog 62 #[tv t s] w fun e w' => e = .returned (.bool (numbersN t.k t.i t.j t.n)) ∧ Below w.heap.size w w' := by
  unfold tv
  generalize t.k = k, t.i = i, t.j = j, t.n = n
  go_enter Tryz.func62, Tryz.ntmps62
  go_wp2_with (go_at_call 80; refine (reflevel_any _ _).mono ?_; rintro e w' ⟨rfl, rfl⟩)
  all_goals go_ret
  all_goals exact ⟨ret_bool (by simp only [beq_iff_eq, beq_eq_false_iff_ne, ne_eq] at *; unfold numbersN; (simp [*] <;> omega)), (Below.refl _ _).alloc (Nat.le_refl _) _⟩
end Go.Proofs.YtgododpkbiaacaaGreat

namespace Go.Proofs.YtgododpkbiaacaaGreat
open Go.RowKit

mutual
def Tm.plainB : Tm → Bool
  | .mk k i j n l => (k == 1 || (k == 2 || (decide (13 ≤ k) && decide (k ≤ 23)))) && (((l.length : Int) == kidsN k n) && (numbersN k i j n && plains l))
def plains : List Tm → Bool
  | [] => true
  | t :: r => t.plainB && plains r
end

mutual
def Tm.markedB : Tm → Bool
  | .mk k i j n l => (decide (1 ≤ k) && decide (k ≤ 12)) && (((l.length : Int) == kidsN k n) && (numbersN k i j n && markeds (k == 12) 0 l))
def markeds : Bool → Nat → List Tm → Bool
  | _, _, [] => true
  | tr, p, t :: r => (if tr && p == 2 then t.plainB else t.markedB) && markeds tr (p + 1) r
end

/-- A node has as many kids, and the numbers, that its kind says. -/
def Tm.nodeB (t : Tm) : Bool := ((t.kids.length : Int) == kidsN t.k t.n) && numbersN t.k t.i t.j t.n

theorem Tm.plainB_eq (t : Tm) : t.plainB = ((t.k == 1 || (t.k == 2 || (decide (13 ≤ t.k) && decide (t.k ≤ 23)))) && (t.nodeB && plains t.kids)) := by
  cases t; simp only [Tm.plainB, Tm.nodeB, Tm.k, Tm.i, Tm.j, Tm.n, Tm.kids, Bool.and_assoc]; rfl
theorem Tm.markedB_eq (t : Tm) : t.markedB = ((decide (1 ≤ t.k) && decide (t.k ≤ 12)) && (t.nodeB && markeds (t.k == 12) 0 t.kids)) := by
  cases t; simp only [Tm.markedB, Tm.nodeB, Tm.k, Tm.i, Tm.j, Tm.n, Tm.kids, Bool.and_assoc]; rfl

theorem plains_take (l : List Tm) (k : Nat) (h : k < l.length) : plains (l.take (k + 1)) = (plains (l.take k) && (l[k]).plainB) := by
  induction l generalizing k with
  | nil => simp at h
  | cons a r ih =>
    cases k with
    | zero => simp [plains]
    | succ k => simp only [List.take_succ_cons, plains, List.getElem_cons_succ]; rw [ih k (by simpa using h), Bool.and_assoc]

theorem plains_of (l : List Tm) (k : Nat) (h : k < l.length) (hp : (l[k]).plainB = false) : plains l = false := by
  induction l generalizing k with
  | nil => simp at h
  | cons a r ih =>
    cases k with
    | zero => simp only [List.getElem_cons_zero] at hp; simp [plains, hp]
    | succ k => simp only [List.getElem_cons_succ] at hp; simp [plains, ih k (by simpa using h) hp]

/-- What is asked of the kid number k of a marked term. -/
def Tm.kidB (t : Tm) (tr : Bool) (k : Nat) : Bool := if tr && k == 2 then t.plainB else t.markedB

theorem markeds_take (tr : Bool) (l : List Tm) (p k : Nat) (h : k < l.length) : markeds tr p (l.take (k + 1)) = (markeds tr p (l.take k) && (l[k]).kidB tr (p + k)) := by
  induction l generalizing p k with
  | nil => simp at h
  | cons a r ih =>
    cases k with
    | zero => simp [markeds, Tm.kidB]
    | succ k =>
      simp only [List.take_succ_cons, markeds, List.getElem_cons_succ]
      rw [ih (p + 1) k (by simpa using h), Bool.and_assoc, show p + 1 + k = p + (k + 1) by omega]

theorem markeds_of (tr : Bool) (l : List Tm) (p k : Nat) (h : k < l.length) (hp : (l[k]).kidB tr (p + k) = false) : markeds tr p l = false := by
  induction l generalizing p k with
  | nil => simp at h
  | cons a r ih =>
    cases k with
    | zero => simp only [List.getElem_cons_zero, Nat.add_zero, Tm.kidB] at hp; simp only [markeds, hp, Bool.false_and]
    | succ k =>
      simp only [List.getElem_cons_succ] at hp
      simp only [markeds]
      rw [ih (p + 1) k (by simpa using h) (by rw [show p + 1 + k = p + (k + 1) by omega]; exact hp), Bool.and_false]

theorem kidsN_nonneg {k n : Int} (h : 0 ≤ kidsN k n) : 1 ≤ k ∧ k ≤ 23 := by
  unfold kidsN at h; (repeat' split at h) <;> omega
theorem kidsN_two {k n : Int} (h1 : 1 ≤ k) (h2 : k ≤ 2) : kidsN k n = 0 := by
  unfold kidsN; rw [if_pos (by omega)]

theorem Tm.node_kind {t : Tm} (h : t.nodeB = true) : 1 ≤ t.k ∧ t.k ≤ 23 := by
  simp only [Tm.nodeB, Bool.and_eq_true, beq_iff_eq] at h
  exact kidsN_nonneg (n := t.n) (by omega)

/-- Its sorts: 1 for marked, 2 for plain, 3 for both. -/
def Tm.sortsN (t : Tm) : Int := (if t.markedB then 1 else 0) + (if t.plainB then 2 else 0)

theorem sorts_bad {t : Tm} (h : t.nodeB = false) : t.sortsN = 0 := by
  simp [Tm.sortsN, Tm.plainB_eq, Tm.markedB_eq, h]
theorem sorts_two {t : Tm} (h : t.nodeB = true) (h2 : t.k ≤ 2) : t.sortsN = 3 ∧ t.kids = [] := by
  have hk := (Tm.node_kind h).1
  have hl : t.kids = [] := by
    simp only [Tm.nodeB, Bool.and_eq_true, beq_iff_eq] at h
    rw [kidsN_two hk h2] at h
    exact List.eq_nil_of_length_eq_zero (by omega)
  have h3 : (t.k == 1 || (t.k == 2 || (decide (13 ≤ t.k) && decide (t.k ≤ 23)))) = true := by
    have : t.k = 1 ∨ t.k = 2 := by omega
    rcases this with e | e <;> simp [e]
  have h4 : (decide (1 ≤ t.k) && decide (t.k ≤ 12)) = true := by simp; omega
  refine ⟨?_, hl⟩
  simp [Tm.sortsN, Tm.plainB_eq, Tm.markedB_eq, h, h3, h4, hl, plains, markeds]
theorem sorts_marked {t : Tm} (h : t.nodeB = true) (h2 : 2 < t.k) (h3 : t.k ≤ 12) : t.sortsN = if markeds (t.k == 12) 0 t.kids then 1 else 0 := by
  have h4 : (decide (1 ≤ t.k) && decide (t.k ≤ 12)) = true := by simp; omega
  have h5 : (t.k == 1 || (t.k == 2 || (decide (13 ≤ t.k) && decide (t.k ≤ 23)))) = false := by
    simp; omega
  simp [Tm.sortsN, Tm.plainB_eq, Tm.markedB_eq, h, h4, h5]
theorem sorts_plain {t : Tm} (h : t.nodeB = true) (h2 : 12 < t.k) : t.sortsN = if plains t.kids then 2 else 0 := by
  have hk := (Tm.node_kind h).2
  have h4 : (decide (1 ≤ t.k) && decide (t.k ≤ 12)) = false := by simp; omega
  have h5 : (t.k == 1 || (t.k == 2 || (decide (13 ≤ t.k) && decide (t.k ≤ 23)))) = true := by
    simp; omega
  simp [Tm.sortsN, Tm.plainB_eq, Tm.markedB_eq, h, h4, h5]
end Go.Proofs.YtgododpkbiaacaaGreat

namespace Go.Proofs.YtgododpkbiaacaaGreat
open Go.RowKit

mutual
def Tm.size : Tm → Nat
  | .mk _ _ _ _ l => sizes l + 1
def sizes : List Tm → Nat
  | [] => 0
  | t :: r => t.size + sizes r
end

theorem sizes_take (l : List Tm) (k : Nat) (h : k < l.length) : sizes (l.take (k + 1)) = sizes (l.take k) + (l[k]).size := by
  induction l generalizing k with
  | nil => simp at h
  | cons a r ih =>
    cases k with
    | zero => simp [sizes]
    | succ k => simp only [List.take_succ_cons, sizes, List.getElem_cons_succ]; rw [ih k (by simpa using h)]; omega

theorem Tm.size_eq (t : Tm) : t.size = sizes t.kids + 1 := by cases t; rfl

end Go.Proofs.YtgododpkbiaacaaGreat

namespace Go.Proofs.YtgododpkbiaacaaGreat
open Go.RowKit

mutual
def Tm.deep : Tm → Nat
  | .mk _ _ _ _ l => deeps l + 1
def deeps : List Tm → Nat
  | [] => 0
  | t :: r => max t.deep (deeps r)
end

theorem deeps_take (l : List Tm) (k : Nat) (h : k < l.length) : deeps (l.take (k + 1)) = max (deeps (l.take k)) (l[k]).deep := by
  induction l generalizing k with
  | nil => simp at h
  | cons a r ih =>
    cases k with
    | zero => simp [deeps]
    | succ k => simp only [List.take_succ_cons, deeps, List.getElem_cons_succ]; rw [ih k (by simpa using h)]; omega

theorem Tm.deep_eq (t : Tm) : t.deep = deeps t.kids + 1 := by cases t; rfl

end Go.Proofs.YtgododpkbiaacaaGreat

namespace Go.Proofs.YtgododpkbiaacaaGreat
open Go.RowKit

def Weighed (t : Tm) (most deep : Int) (w : World) (e : Ending) (w' : World) : Prop :=
  ∃ r : Int, e = .returned (.int .i64 r) ∧ 1 ≤ r ∧ r ≤ most + 1 ∧ (r ≤ most → r = t.size ∧ (t.deep : Int) ≤ deep + 1) ∧ Below w.heap.size w w'

set_option maxHeartbeats 800000 in
theorem weigh_any (t : Tm) : ∀ (w : World) (s : Value) (most deep : Int), Lies w t.kids s → 0 ≤ most → most ≤ 100000 → -1 ≤ deep → deep ≤ 100000 →
    Calls Tryz.prog 37 #[tv t s, .int .i64 most, .int .i64 deep] w (Weighed t most deep w) := by
  induction t using Tm.ind with
  | h t ih =>
    intro w s most deep hl h0 h1 h2 h3
    obtain ⟨a, cap, S, rfl, hc, hm, hf, hn, hk⟩ := hl.out
    unfold tv
    have hsz := t.size_eq
    have hdp := t.deep_eq
    unfold maxLen at hm
    have IH := Lib.hid ih
    have HN := Lib.hid hn
    have HK := Lib.hid hk
    have HSZ := Lib.hid hsz
    have HDP := Lib.hid hdp
    clear ih hn hk hf hl hsz hdp
    by_cases hd : deep < 0
    · go_enter Tryz.func37, Tryz.ntmps37
      go_wp2
      go_ret
      exact ⟨most + 1, rfl, by omega, by omega, fun h => by omega, (Below.refl _ _).alloc (Nat.le_refl _) _⟩
    go_enter Tryz.func37, Tryz.ntmps37
    have hcell : ∀ (wr : World), Below (w.heap.size + 1) (w.alloc (.cells #[.int .i64 t.k, .int .i64 t.i, .int .i64 t.j, .int .i64 t.n, .slice a t.kids.length cap] 25)) wr → wr.cell? ⟨w.heap.size, 4, none⟩ = some (.slice a t.kids.length cap) := fun wr h => by
      rw [h.cell (p := ⟨w.heap.size, 4, none⟩) (by exact Nat.lt_succ_self _), World.cell?_alloc_at _ _ _ _ rfl]; rfl
    have HC := Lib.hid hcell
    clear hcell
    go_wp2
    go_loopw [7, 8] (fun nv iv wr => ∃ (k : Nat) (n : Int), k ≤ t.kids.length ∧ iv = .int .i64 k ∧ nv = .int .i64 n ∧ 1 ≤ n ∧ n ≤ most + 1 ∧ Hid (n ≤ most → n = ((1 + sizes (t.kids.take k) : Nat) : Int) ∧ (deeps (t.kids.take k) : Int) ≤ deep) ∧
        Below (w.heap.size + 1) (w.alloc (.cells #[.int .i64 t.k, .int .i64 t.i, .int .i64 t.j, .int .i64 t.n, .slice a t.kids.length cap] 25)) wr) (fun _ i _ => t.kids.length - (intOf i).toNat)
    case atStart => exact ⟨0, 1, Nat.zero_le _, rfl, rfl, by omega, by omega, fun _ => ⟨by simp [sizes], by simp [deeps]; omega⟩, Below.refl _ _⟩
    case round =>
      obtain ⟨k, n, hk, rfl, rfl, hn1, hn2, hrel, hb⟩ := hrel
      have hc4 := HC.out wr hb
      have hb0 : Below w.heap.size w wr := ((Below.refl _ _).alloc (Nat.le_refl _) _).trans (hb.mono (by omega))
      by_cases hlt : k < t.kids.length
      · by_cases hnm : n ≤ most
        · obtain ⟨b, o, rfl, hx⟩ := HN.out k hlt
          have hy := hx.below hb0 hx.lt
          obtain ⟨c0, c1, c2, c3, c4⟩ := hy
          have hq := HK.out k hlt
          obtain ⟨a', cap', S', hS, -⟩ := hq.out
          rw [hS] at c4 hq
          have HQ := Lib.hid (hq.keep hb0)
          clear hS hq
          have HM := Lib.hid (List.getElem_mem hlt)
          have HT := Lib.hid (sizes_take t.kids k hlt)
          have HT2 := Lib.hid (deeps_take t.kids k hlt)
          go_wp2_with fail
          refine (IH.out _ HM.out _ _ _ _ HQ.out (by omega) (by omega) (by omega) (by omega)).mono ?_
          rintro e w' ⟨r, rfl, hr1, hr2, hr3, hb'⟩
          have HR3 := Lib.hid hr3
          have HB' := hb.trans (hb'.mono (by have := hb.size; simpa using this))
          clear hb' hb hb0 hc4 hr3
          go_wp2
          go_roundw
          case rel =>
            refine ⟨k + 1, n + r, by omega, by go_num, rfl, by omega, by omega, ?_, HB'⟩
            intro hle
            obtain ⟨e1, e2⟩ := hrel.out hnm
            obtain ⟨e3, e4⟩ := HR3.out (by omega)
            rw [HT.out, HT2.out, e1, e3]
            exact ⟨by simp; omega, by omega⟩
          case measure => simp [intOf]; omega
        · go_wp2
          go_ret
          exact ⟨n, rfl, by omega, by omega, fun h => absurd h (by omega), hb0⟩
      · have : k = t.kids.length := by omega
        subst this
        go_wp2
        all_goals go_ret
        all_goals
          refine ⟨n, rfl, by omega, by omega, fun h => ?_, hb0⟩
          obtain ⟨e1, e2⟩ := hrel.out h
          rw [List.take_length] at e1 e2
          rw [HSZ.out, HDP.out]
          exact ⟨by rw [e1]; simp; omega, by omega⟩

end Go.Proofs.YtgododpkbiaacaaGreat

namespace Go.Proofs.YtgododpkbiaacaaGreat
open Go.RowKit

/-- A new block of five cells, asked for later. -/
theorem box_cells {w wr : World} {v0 v1 v2 v3 v4 : Value} {T : TypeId} (h : Below (w.heap.size + 1) (w.alloc (.cells #[v0, v1, v2, v3, v4] T)) wr) :
    wr.cell? ⟨w.heap.size, 0, none⟩ = some v0 ∧ wr.cell? ⟨w.heap.size, 1, none⟩ = some v1 ∧ wr.cell? ⟨w.heap.size, 2, none⟩ = some v2 ∧ wr.cell? ⟨w.heap.size, 3, none⟩ = some v3 ∧ wr.cell? ⟨w.heap.size, 4, none⟩ = some v4 := by
  have key : ∀ o, wr.cell? ⟨w.heap.size, o, none⟩ = (#[v0, v1, v2, v3, v4] : Array Value)[o]? := fun o => by
    rw [h.cell (p := ⟨w.heap.size, o, none⟩) (by exact Nat.lt_succ_self _), World.cell?_alloc_at _ _ _ _ rfl]
  exact ⟨by rw [key]; rfl, by rw [key]; rfl, by rw [key]; rfl, by rw [key]; rfl, by rw [key]; rfl⟩

/-- What is new beside a new block is new. -/
theorem below_of_box {w wr : World} {o : Obj} (h : Below (w.heap.size + 1) (w.alloc o) wr) : Below w.heap.size w wr :=
  ((Below.refl _ _).alloc (Nat.le_refl _) _).trans (h.mono (Nat.le_succ _))

/-- A call in a later world: it leaves alone what was there. -/
theorem below_call {B : Nat} {a w w' : World} (h : Below B a w) (h' : Below w.heap.size w w') (hB : B ≤ w.heap.size) : Below B a w' := h.trans (h'.mono hB)

end Go.Proofs.YtgododpkbiaacaaGreat

namespace Go.Proofs.YtgododpkbiaacaaGreat
open Go.RowKit

theorem bits_table : bits BinOp.and IntKind.i64 0 1 = 0 ∧ bits BinOp.and IntKind.i64 1 1 = 1 ∧ bits BinOp.and IntKind.i64 2 1 = 0 ∧ bits BinOp.and IntKind.i64 3 1 = 1 ∧
    bits BinOp.and IntKind.i64 0 2 = 0 ∧ bits BinOp.and IntKind.i64 1 2 = 0 ∧ bits BinOp.and IntKind.i64 2 2 = 2 ∧ bits BinOp.and IntKind.i64 3 2 = 2 := by
  refine ⟨?_, ?_, ?_, ?_, ?_, ?_, ?_, ?_⟩ <;> kernel_rfl

set_option maxHeartbeats 800000 in
theorem sorts_any (t : Tm) : ∀ (w : World) (s : Value), Lies w t.kids s → Calls Tryz.prog 57 #[tv t s] w fun e w' => e = .returned (.int .i64 t.sortsN) ∧ Below w.heap.size w w' := by
  induction t using Tm.ind with
  | h t ih =>
    intro w s hl
    obtain ⟨a, cap, S, rfl, hc, hm, hf, hn, hk⟩ := hl.out
    unfold tv
    unfold maxLen at hm
    have IH := Lib.hid ih
    have HN := Lib.hid hn
    have HK := Lib.hid hk
    have HBX := Lib.hid (fun (wr : World) => box_cells (w := w) (wr := wr) (v0 := .int .i64 t.k) (v1 := .int .i64 t.i) (v2 := .int .i64 t.j) (v3 := .int .i64 t.n) (v4 := .slice a t.kids.length cap) (T := 25))
    clear ih hn hk hf hl
    by_cases h1 : kidsN t.k t.n < 0
    · have hv : t.sortsN = 0 := sorts_bad (by simp only [Tm.nodeB, Bool.and_eq_false_iff]; left; simp; omega)
      have HV := Lib.hid hv
      clear hv
      go_enter Tryz.func57, Tryz.ntmps57
      go_wp2_with (go_at_call 76; refine (kids_any _ _ _).mono ?_; rintro e w' ⟨rfl, rfl⟩)
      go_ret
      exact ⟨by rw [HV.out]; rfl, (Below.refl _ _).alloc (Nat.le_refl _) _⟩
    by_cases h2 : (t.kids.length : Int) = kidsN t.k t.n
    rotate_left
    · have hv : t.sortsN = 0 := sorts_bad (by simp only [Tm.nodeB, Bool.and_eq_false_iff]; left; simp; omega)
      have HV := Lib.hid hv
      have h3 : ((t.kids.length : Int) == kidsN t.k t.n) = false := by simpa using h2
      have h4 : ((t.kids.length : Int) != kidsN t.k t.n) = true := by simpa using h2
      clear hv
      go_enter Tryz.func57, Tryz.ntmps57
      go_wp2_with (go_at_call 76; refine (kids_any _ _ _).mono ?_; rintro e w' ⟨rfl, rfl⟩)
      go_ret
      exact ⟨by rw [HV.out]; rfl, (Below.refl _ _).alloc (Nat.le_refl _) _⟩
    have h3 : ((t.kids.length : Int) == kidsN t.k t.n) = true := by simpa using h2
    have h4 : ((t.kids.length : Int) != kidsN t.k t.n) = false := by simpa using h2
    have H2 := Lib.hid h2
    clear h2
    cases h5 : numbersN t.k t.i t.j t.n with
    | false =>
      have hv : t.sortsN = 0 := sorts_bad (by simp only [Tm.nodeB, Bool.and_eq_false_iff]; right; exact h5)
      have HV := Lib.hid hv
      clear hv
      go_enter Tryz.func57, Tryz.ntmps57
      go_wp2_with (first | (go_at_call 76; refine (kids_any _ _ _).mono ?_; rintro e w' ⟨rfl, rfl⟩) | (go_at_call 77; refine (numbers_any t _ _).mono ?_; rintro e w' ⟨rfl, hb'⟩; have HB' := ((Below.refl w.heap.size w).alloc (Nat.le_refl _) _).trans (hb'.mono (by simp)); clear hb'; rw [h5]))
      go_ret
      exact ⟨by rw [HV.out]; rfl, HB'⟩
    | true =>
      have hnode : t.nodeB = true := by simp only [Tm.nodeB, h5, Bool.and_true]; simpa using H2.out
      by_cases k2 : t.k ≤ 2
      · have hv := sorts_two hnode k2
        have hl0 : t.kids.length = 0 := by rw [hv.2]; rfl
        have HL0 := Lib.hid hl0
        clear hl0
        have HV := Lib.hid hv.1
        clear hv hnode
        go_enter Tryz.func57, Tryz.ntmps57
        go_wp2_with (first | (go_at_call 76; refine (kids_any _ _ _).mono ?_; rintro e w' ⟨rfl, rfl⟩) | (go_at_call 77; refine (numbers_any t _ _).mono ?_; rintro e w' ⟨rfl, hb'⟩; have HB' := below_call (Below.refl (w.heap.size + 1) _) hb' (by simp); clear hb'; obtain ⟨d0, d1, d2, d3, d4⟩ := HBX.out _ HB'; rw [h5]))
        have hl0 := HL0.out
        refine wp_loop_rounds 1 ?_
        rw [rounds_succ]
        go_wp2
        go_ret
        exact ⟨by rw [HV.out]; rfl, below_of_box HB'⟩
      by_cases k12 : t.k ≤ 12
      · have hv := sorts_marked hnode (by omega) k12
        have HV := Lib.hid hv
        clear hv hnode
        go_enter Tryz.func57, Tryz.ntmps57
        go_wp2_with (first | (go_at_call 76; refine (kids_any _ _ _).mono ?_; rintro e w' ⟨rfl, rfl⟩) | (go_at_call 77; refine (numbers_any t _ _).mono ?_; rintro e w' ⟨rfl, hb'⟩; have HB' := below_call (Below.refl (w.heap.size + 1) _) hb' (by simp); clear hb'; obtain ⟨d0, d1, d2, d3, d4⟩ := HBX.out _ HB'; rw [h5]))
        go_loopw [36] (fun iv wr => ∃ k : Nat, k ≤ t.kids.length ∧ iv = .int .i64 k ∧ Hid (markeds (t.k == 12) 0 (t.kids.take k) = true) ∧ Below (w.heap.size + 1) (w.alloc (.cells #[.int .i64 t.k, .int .i64 t.i, .int .i64 t.j, .int .i64 t.n, .slice a t.kids.length cap] 25)) wr) (fun i _ => t.kids.length - (intOf i).toNat)
        case atStart => exact ⟨0, Nat.zero_le _, rfl, by simp [Hid, markeds], HB'⟩
        case round =>
          obtain ⟨k, hk, rfl, hgood, hb⟩ := hrel
          obtain ⟨d0, d1, d2, d3, d4⟩ := HBX.out _ hb
          have hb0 := below_of_box hb
          by_cases hlt : k < t.kids.length
          · obtain ⟨b, o, rfl, hx⟩ := HN.out k hlt
            have hy := hx.below hb0 hx.lt
            obtain ⟨c0, c1, c2, c3, c4⟩ := hy
            have hq := HK.out k hlt
            obtain ⟨a', cap', S', hS, -⟩ := hq.out
            rw [hS] at c4 hq
            have HM := Lib.hid (List.getElem_mem hlt)
            have HB2 : Below (w.heap.size + 1) (w.alloc (.cells #[.int .i64 t.k, .int .i64 t.i, .int .i64 t.j, .int .i64 t.n, .slice (some ⟨b, o, none⟩) t.kids.length cap] 25)) (wr.alloc (.cells #[.int .i64 t.kids[k].k, .int .i64 t.kids[k].i, .int .i64 t.kids[k].j, .int .i64 t.kids[k].n, .slice a' t.kids[k].kids.length cap'] 25)) := hb.alloc (by have := hb.size; simpa using this) _
            have hq2 := hq.keep (below_of_box HB2)
            have HQ := Lib.hid hq2
            have hsz2 : w.heap.size + 1 ≤ wr.heap.size := by have := hb.size; simpa using this
            obtain ⟨y0, y1, y2, y3, y4⟩ := HBX.out _ HB2
            clear hS hq hq2 hb HB'
            cases e12 : (t.k == 12) <;> cases e2 : ((k : Int) == 2)
            all_goals
              go_wp2_with fail
              refine (IH.out _ HM.out _ _ HQ.out).mono ?_
              rintro e w' ⟨he, hb'⟩
              have HB3 := below_call HB2 hb' (by simp; omega)
              obtain ⟨x0, x1, x2, x3, x4⟩ := HBX.out _ HB3
              have e2' : (k == 2) = ((k : Int) == 2) := by rw [e2]; simp at e2 ⊢; omega
              have HE2 := Lib.hid e2'
              clear e2' hb' HB2 d0 d1 d2 d3 d4 y0 y1 y2 y3 y4 hb0
              cases hm : (t.kids[k]).markedB <;> cases hp : (t.kids[k]).plainB
              all_goals
                simp [Tm.sortsN, hm, hp] at he
                subst he
                obtain ⟨t1, t2, t3, t4, t5, t6, t7, t8⟩ := bits_table
                go_wp2
                first
                | (go_ret
                   exact ⟨by rw [HV.out, if_neg (by rw [markeds_of _ t.kids 0 k hlt (by simp [Tm.kidB, e12, HE2.out, e2, hm, hp])]; simp)]; rfl, below_of_box HB3⟩)
                | (go_roundw
                   case rel => exact ⟨k + 1, by omega, by go_num, by have hg := hgood.out; rw [e12] at hg; show _ = true; rw [markeds_take _ _ _ _ hlt, hg]; simp [Tm.kidB, HE2.out, e2, hm, hp], HB3⟩
                   case measure => simp [intOf]; omega)
          · have : k = t.kids.length := by omega
            subst this
            go_wp2
            go_ret
            exact ⟨by rw [HV.out, if_pos (by have := hgood.out; rwa [List.take_length] at this)]; rfl, hb0⟩
      · have hv := sorts_plain hnode (by omega)
        have HV := Lib.hid hv
        clear hv hnode
        go_enter Tryz.func57, Tryz.ntmps57
        go_wp2_with (first | (go_at_call 76; refine (kids_any _ _ _).mono ?_; rintro e w' ⟨rfl, rfl⟩) | (go_at_call 77; refine (numbers_any t _ _).mono ?_; rintro e w' ⟨rfl, hb'⟩; have HB' := below_call (Below.refl (w.heap.size + 1) _) hb' (by simp); clear hb'; obtain ⟨d0, d1, d2, d3, d4⟩ := HBX.out _ HB'; rw [h5]))
        go_loopw [36] (fun iv wr => ∃ k : Nat, k ≤ t.kids.length ∧ iv = .int .i64 k ∧ Hid (plains (t.kids.take k) = true) ∧ Below (w.heap.size + 1) (w.alloc (.cells #[.int .i64 t.k, .int .i64 t.i, .int .i64 t.j, .int .i64 t.n, .slice a t.kids.length cap] 25)) wr) (fun i _ => t.kids.length - (intOf i).toNat)
        case atStart => exact ⟨0, Nat.zero_le _, rfl, by simp [Hid, plains], HB'⟩
        case round =>
          obtain ⟨k, hk, rfl, hgood, hb⟩ := hrel
          obtain ⟨d0, d1, d2, d3, d4⟩ := HBX.out _ hb
          have hb0 := below_of_box hb
          by_cases hlt : k < t.kids.length
          · obtain ⟨b, o, rfl, hx⟩ := HN.out k hlt
            have hy := hx.below hb0 hx.lt
            obtain ⟨c0, c1, c2, c3, c4⟩ := hy
            have hq := HK.out k hlt
            obtain ⟨a', cap', S', hS, -⟩ := hq.out
            rw [hS] at c4 hq
            have HM := Lib.hid (List.getElem_mem hlt)
            have HB2 : Below (w.heap.size + 1) (w.alloc (.cells #[.int .i64 t.k, .int .i64 t.i, .int .i64 t.j, .int .i64 t.n, .slice (some ⟨b, o, none⟩) t.kids.length cap] 25)) (wr.alloc (.cells #[.int .i64 t.kids[k].k, .int .i64 t.kids[k].i, .int .i64 t.kids[k].j, .int .i64 t.kids[k].n, .slice a' t.kids[k].kids.length cap'] 25)) := hb.alloc (by have := hb.size; simpa using this) _
            have hq2 := hq.keep (below_of_box HB2)
            have HQ := Lib.hid hq2
            have hsz2 : w.heap.size + 1 ≤ wr.heap.size := by have := hb.size; simpa using this
            obtain ⟨y0, y1, y2, y3, y4⟩ := HBX.out _ HB2
            clear hS hq hq2 hb HB'
            have e12 : (t.k == 12) = false := by simp; omega
            cases e2 : ((k : Int) == 2)
            all_goals
              go_wp2_with fail
              refine (IH.out _ HM.out _ _ HQ.out).mono ?_
              rintro e w' ⟨he, hb'⟩
              have HB3 := below_call HB2 hb' (by simp; omega)
              obtain ⟨x0, x1, x2, x3, x4⟩ := HBX.out _ HB3
              have e2' : (k == 2) = ((k : Int) == 2) := by rw [e2]; simp at e2 ⊢; omega
              have HE2 := Lib.hid e2'
              clear e2' hb' HB2 d0 d1 d2 d3 d4 y0 y1 y2 y3 y4 hb0
              cases hm : (t.kids[k]).markedB <;> cases hp : (t.kids[k]).plainB
              all_goals
                simp [Tm.sortsN, hm, hp] at he
                subst he
                obtain ⟨t1, t2, t3, t4, t5, t6, t7, t8⟩ := bits_table
                go_wp2
                first
                | (go_ret
                   exact ⟨by rw [HV.out, if_neg (by rw [plains_of t.kids k hlt hp]; simp)]; rfl, below_of_box HB3⟩)
                | (go_roundw
                   case rel => exact ⟨k + 1, by omega, by go_num, by show _ = true; rw [plains_take _ _ hlt, hgood.out]; simp [hp], HB3⟩
                   case measure => simp [intOf]; omega)
          · have : k = t.kids.length := by omega
            subst this
            go_wp2
            go_ret
            exact ⟨by rw [HV.out, if_pos (by have := hgood.out; rwa [List.take_length] at this)]; rfl, hb0⟩
end Go.Proofs.YtgododpkbiaacaaGreat

namespace Go.Proofs.YtgododpkbiaacaaGreat
open Go.RowKit

mutual
def Tm.freeN : Tm → Int
  | .mk k i _ _ l => if k = 2 then i + 1 else frees k 0 l
def frees : Int → Nat → List Tm → Int
  | _, _, [] => 0
  | k, p, t :: r => max (t.freeN - bindsN k p) (frees k (p + 1) r)
end
theorem Tm.freeN_eq (t : Tm) : t.freeN = if t.k = 2 then t.i + 1 else frees t.k 0 t.kids := by cases t; rfl

theorem frees_nonneg (k : Int) (l : List Tm) (p : Nat) : 0 ≤ frees k p l := by
  induction l generalizing p with
  | nil => simp [frees]
  | cons a r ih => simp only [frees]; have := ih (p + 1); omega

theorem frees_take (k : Int) (l : List Tm) (p m : Nat) (h : m < l.length) : frees k p (l.take (m + 1)) = max (frees k p (l.take m)) ((l[m]).freeN - bindsN k ((p + m : Nat) : Int)) := by
  induction l generalizing p m with
  | nil => simp at h
  | cons a r ih =>
    cases m with
    | zero => simp [frees]; omega
    | succ m => simp only [List.take_succ_cons, frees, List.getElem_cons_succ]; rw [ih (p + 1) m (by simpa using h), show p + 1 + m = p + (m + 1) by omega]; omega

def Tm.rightB (t : Tm) : Bool := t.markedB || t.plainB

theorem plains_mem {l : List Tm} (h : plains l = true) : ∀ x ∈ l, x.plainB = true := by
  induction l with
  | nil => simp
  | cons a r ih =>
    simp only [plains, Bool.and_eq_true] at h
    intro x hx
    rcases List.mem_cons.1 hx with rfl | hx
    · exact h.1
    · exact ih h.2 x hx
theorem markeds_mem {tr : Bool} {l : List Tm} {p : Nat} (h : markeds tr p l = true) : ∀ x ∈ l, x.rightB = true := by
  induction l generalizing p with
  | nil => simp
  | cons a r ih =>
    simp only [markeds, Bool.and_eq_true] at h
    intro x hx
    rcases List.mem_cons.1 hx with rfl | hx
    · have := h.1; simp only [Tm.rightB]; split at this <;> simp [this]
    · exact ih h.2 x hx
theorem Tm.right_node {t : Tm} (h : t.rightB = true) : t.nodeB = true := by
  simp only [Tm.rightB, Tm.markedB_eq, Tm.plainB_eq, Bool.or_eq_true, Bool.and_eq_true] at h
  rcases h with h | h
  · exact h.2.1
  · exact h.2.1
theorem Tm.right_kids {t : Tm} (h : t.rightB = true) : ∀ x ∈ t.kids, x.rightB = true := by
  simp only [Tm.rightB, Tm.markedB_eq, Tm.plainB_eq, Bool.or_eq_true, Bool.and_eq_true] at h
  rcases h with h | h
  · exact markeds_mem h.2.2
  · intro x hx; simp only [Tm.rightB, Bool.or_eq_true]; right; exact plains_mem h.2.2 x hx
theorem Tm.right_var {t : Tm} (h : t.rightB = true) (hk : t.k = 2) : 0 ≤ t.i ∧ t.i ≤ 2147483647 := by
  have := t.right_node h
  simp only [Tm.nodeB, numbersN, hk, Bool.and_eq_true, if_true, decide_eq_true_eq] at this
  exact ⟨this.2.1, this.2.2.1⟩
theorem frees_le (k : Int) (B : Int) (hB : 0 ≤ B) (l : List Tm) (p : Nat) (h : ∀ x ∈ l, x.freeN ≤ B) : frees k p l ≤ B := by
  induction l generalizing p with
  | nil => simpa [frees] using hB
  | cons a r ih =>
    simp only [frees]
    have h1 := ih (p + 1) (fun x hx => h x (List.mem_cons_of_mem _ hx))
    have h2 := h a List.mem_cons_self
    have h3 : 0 ≤ bindsN k p := by unfold bindsN; (repeat' split) <;> omega
    omega
theorem binds_range (k i : Int) : 0 ≤ bindsN k i ∧ bindsN k i ≤ 2 := by unfold bindsN; (repeat' split) <;> omega
theorem Tm.free_range (t : Tm) : t.rightB = true → 0 ≤ t.freeN ∧ t.freeN ≤ 2147483648 := by
  induction t using Tm.ind with
  | h t ih =>
    intro h
    rw [t.freeN_eq]
    split
    · rename_i hk; have := t.right_var h hk; omega
    · exact ⟨frees_nonneg _ _ _, frees_le _ _ (by omega) _ _ (fun x hx => (ih x hx (t.right_kids h x hx)).2)⟩

set_option maxHeartbeats 800000 in
theorem free_any (t : Tm) : ∀ (w : World) (s : Value), Lies w t.kids s → t.rightB = true → Calls Tryz.prog 64 #[tv t s] w fun e w' => e = .returned (.int .i64 t.freeN) ∧ Below w.heap.size w w' := by
  induction t using Tm.ind with
  | h t ih =>
    intro w s hl hr
    obtain ⟨a, cap, S, rfl, hc, hm, hf, hn, hk⟩ := hl.out
    unfold tv
    unfold maxLen at hm
    have HF := Lib.hid (t.freeN_eq)
    have HR := Lib.hid (t.right_kids hr)
    have IH := Lib.hid ih
    have HN := Lib.hid hn
    have HK := Lib.hid hk
    have HBX := Lib.hid (fun (wr : World) => box_cells (w := w) (wr := wr) (v0 := .int .i64 t.k) (v1 := .int .i64 t.i) (v2 := .int .i64 t.j) (v3 := .int .i64 t.n) (v4 := .slice a t.kids.length cap) (T := 25))
    clear ih hn hk hf hl
    by_cases h2 : t.k = 2
    · have hv := t.right_var hr h2
      have e2 : (t.k == 2) = true := by simpa using h2
      have H2 := Lib.hid h2
      clear h2 hr
      go_enter Tryz.func64, Tryz.ntmps64
      go_wp2
      go_ret
      exact ⟨ret_int (by rw [HF.out, if_pos H2.out]), (Below.refl _ _).alloc (Nat.le_refl _) _⟩
    have e2 : (t.k == 2) = false := by simpa using h2
    have H2 := Lib.hid h2
    have HFB := Lib.hid (fun (x : Tm) (hx : x ∈ t.kids) => x.free_range (t.right_kids hr x hx))
    clear h2 hr
    go_enter Tryz.func64, Tryz.ntmps64
    go_wp2
    go_loopw [3, 15] (fun n i wr => ∃ k : Nat, k ≤ t.kids.length ∧ i = .int .i64 k ∧ n = .int .i64 (frees t.k 0 (t.kids.take k)) ∧ Below (w.heap.size + 1) (w.alloc (.cells #[.int .i64 t.k, .int .i64 t.i, .int .i64 t.j, .int .i64 t.n, .slice a t.kids.length cap] 25)) wr) (fun n i _ => t.kids.length - (intOf i).toNat)
    case atStart => exact ⟨0, Nat.zero_le _, rfl, by simp [frees], Below.refl _ _⟩
    case round =>
      obtain ⟨k, hk, rfl, rfl, hb⟩ := hrel
      obtain ⟨d0, d1, d2, d3, d4⟩ := HBX.out _ hb
      have hb0 := below_of_box hb
      by_cases hlt : k < t.kids.length
      · obtain ⟨b, o, rfl, hx⟩ := HN.out k hlt
        have hy := hx.below hb0 hx.lt
        obtain ⟨c0, c1, c2, c3, c4⟩ := hy
        have hq := HK.out k hlt
        obtain ⟨a', cap', S', hS, -⟩ := hq.out
        rw [hS] at c4 hq
        have HM := Lib.hid (List.getElem_mem hlt)
        have HB2 : Below (w.heap.size + 1) (w.alloc (.cells #[.int .i64 t.k, .int .i64 t.i, .int .i64 t.j, .int .i64 t.n, .slice (some ⟨b, o, none⟩) t.kids.length cap] 25)) (wr.alloc (.cells #[.int .i64 t.kids[k].k, .int .i64 t.kids[k].i, .int .i64 t.kids[k].j, .int .i64 t.kids[k].n, .slice a' t.kids[k].kids.length cap'] 25)) := hb.alloc (by have := hb.size; simpa using this) _
        have HQ := Lib.hid (hq.keep (below_of_box HB2))
        have hsz2 : w.heap.size + 1 ≤ wr.heap.size := by have := hb.size; simpa using this
        obtain ⟨y0, y1, y2, y3, y4⟩ := HBX.out _ HB2
        clear hS hq
        have hfr := HFB.out _ HM.out
        have hbr := binds_range t.k k
        have HT := Lib.hid (frees_take t.k t.kids 0 k hlt)
        have hfn := frees_nonneg t.k (t.kids.take k) 0
        have HRK := Lib.hid (HR.out _ HM.out)
        have hfl : frees t.k 0 (t.kids.take k) ≤ 2147483648 := frees_le _ _ (by omega) _ _ (fun x hx => (HFB.out x (List.mem_of_mem_take hx)).2)
        go_wp2_with fail
        go_region_with (first | (go_at_call 68; refine (binds_any _ _ _).mono ?_; rintro e w' ⟨rfl, rfl⟩) | (go_at_call 64; refine (IH.out _ HM.out _ _ (HQ.out.keep (Below.refl _ _).drew) HRK.out).mono ?_; rintro e w' ⟨rfl, hb'⟩; have HB3 := below_call HB2.drew hb' (by simp; omega); obtain ⟨x0, x1, x2, x3, x4⟩ := HBX.out _ HB3))
        all_goals
          clear hfn hfl hb0
          go_wp2
          go_roundw
          case rel => exact ⟨k + 1, by omega, by go_num, by rw [HT.out, Nat.zero_add]; all_goals ((try split) <;> go_num), HB3⟩
          case measure => simp [intOf]; omega
      · have : k = t.kids.length := by omega
        subst this
        go_wp2
        go_ret
        refine ⟨?_, hb0⟩
        rw [HF.out, if_neg H2.out, List.take_length]
        rfl

set_option maxHeartbeats 800000 in
theorem reffree_any (t : Tm) : ∀ (w : World) (s : Value), Lies w t.kids s → t.rightB = true → Calls Tryz.prog 81 #[tv t s] w fun e w' => e = .returned (.int .i64 t.freeN) ∧ Below w.heap.size w w' := by
  induction t using Tm.ind with
  | h t ih =>
    intro w s hl hr
    obtain ⟨a, cap, S, rfl, hc, hm, hf, hn, hk⟩ := hl.out
    unfold tv
    unfold maxLen at hm
    have HF := Lib.hid (t.freeN_eq)
    have HR := Lib.hid (t.right_kids hr)
    have IH := Lib.hid ih
    have HN := Lib.hid hn
    have HK := Lib.hid hk
    have HBX := Lib.hid (fun (wr : World) => box_cells (w := w) (wr := wr) (v0 := .int .i64 t.k) (v1 := .int .i64 t.i) (v2 := .int .i64 t.j) (v3 := .int .i64 t.n) (v4 := .slice a t.kids.length cap) (T := 25))
    clear ih hn hk hf hl
    by_cases h2 : t.k = 2
    · have hv := t.right_var hr h2
      have e2 : (t.k == 2) = true := by simpa using h2
      have H2 := Lib.hid h2
      clear h2 hr
      go_enter Tryz.func81, Tryz.ntmps81
      go_wp2
      go_ret
      exact ⟨ret_int (by rw [HF.out, if_pos H2.out]), (Below.refl _ _).alloc (Nat.le_refl _) _⟩
    have e2 : (t.k == 2) = false := by simpa using h2
    have H2 := Lib.hid h2
    have HFB := Lib.hid (fun (x : Tm) (hx : x ∈ t.kids) => x.free_range (t.right_kids hr x hx))
    clear h2 hr
    go_enter Tryz.func81, Tryz.ntmps81
    go_wp2
    go_loopw [3, 4] (fun n i wr => ∃ k : Nat, k ≤ t.kids.length ∧ i = .int .i64 k ∧ n = .int .i64 (frees t.k 0 (t.kids.take k)) ∧ Below (w.heap.size + 1) (w.alloc (.cells #[.int .i64 t.k, .int .i64 t.i, .int .i64 t.j, .int .i64 t.n, .slice a t.kids.length cap] 25)) wr) (fun n i _ => t.kids.length - (intOf i).toNat)
    case atStart => exact ⟨0, Nat.zero_le _, rfl, by simp [frees], Below.refl _ _⟩
    case round =>
      obtain ⟨k, hk, rfl, rfl, hb⟩ := hrel
      obtain ⟨d0, d1, d2, d3, d4⟩ := HBX.out _ hb
      have hb0 := below_of_box hb
      by_cases hlt : k < t.kids.length
      · obtain ⟨b, o, rfl, hx⟩ := HN.out k hlt
        have hy := hx.below hb0 hx.lt
        obtain ⟨c0, c1, c2, c3, c4⟩ := hy
        have hq := HK.out k hlt
        obtain ⟨a', cap', S', hS, -⟩ := hq.out
        rw [hS] at c4 hq
        have HQ := Lib.hid (hq.keep hb0)
        clear hS hq
        have HM := Lib.hid (List.getElem_mem hlt)
        have hfr := HFB.out _ HM.out
        have hbr := binds_range t.k k
        have HT := Lib.hid (frees_take t.k t.kids 0 k hlt)
        have hfn := frees_nonneg t.k (t.kids.take k) 0
        have HRK := Lib.hid (HR.out _ HM.out)
        have hfl : frees t.k 0 (t.kids.take k) ≤ 2147483648 := frees_le _ _ (by omega) _ _ (fun x hx => (HFB.out x (List.mem_of_mem_take hx)).2)
        go_wp2_with fail
        go_region_with (first | (go_at_call 82; refine (refbinds_any _ _ _).mono ?_; rintro e w' ⟨rfl, rfl⟩) | (go_at_call 81; refine (IH.out _ HM.out _ _ (HQ.out.keep (Below.refl _ _).drew) HRK.out).mono ?_; rintro e w' ⟨rfl, hb'⟩; have HB3 := below_call hb.drew hb' (by have := hb.size; simpa using this); obtain ⟨x0, x1, x2, x3, x4⟩ := HBX.out _ HB3))
        all_goals
          clear hfn hfl hb0
          go_wp2
          go_roundw
          case rel => exact ⟨k + 1, by omega, by go_num, by rw [HT.out, Nat.zero_add]; all_goals ((try split) <;> go_num), HB3⟩
          case measure => simp [intOf]; omega
      · have : k = t.kids.length := by omega
        subst this
        go_wp2
        go_ret
        refine ⟨?_, hb0⟩
        rw [HF.out, if_neg H2.out, List.take_length]
        rfl

end Go.Proofs.YtgododpkbiaacaaGreat

namespace Go.Proofs.YtgododpkbiaacaaGreat

mutual
/-- Each variable v beneath b binders becomes f v b; nothing if one has no image. -/
def Tm.each (f : Int → Int → Option Int) : Tm → Int → Option Tm
  | .mk k i j n l, b => if k = 2 then (f i b).map (fun v => .mk 2 v 0 0 []) else (eaches f k 0 b l).map (fun l' => .mk k i j n l')
def eaches (f : Int → Int → Option Int) : Int → Nat → Int → List Tm → Option (List Tm)
  | _, _, _, [] => some []
  | k, p, b, t :: r => (t.each f (b + bindsN k p)).bind fun x => (eaches f k (p + 1) b r).map fun y => x :: y
end

theorem Tm.each_eq (f : Int → Int → Option Int) (t : Tm) (b : Int) : t.each f b = if t.k = 2 then (f t.i b).map (fun v => .mk 2 v 0 0 []) else (eaches f t.k 0 b t.kids).map (fun l => .mk t.k t.i t.j t.n l) := by
  cases t; simp only [Tm.each]; rfl

theorem eaches_length (f : Int → Int → Option Int) (k b : Int) : ∀ (l : List Tm) (p : Nat) (m : List Tm), eaches f k p b l = some m → m.length = l.length
  | [], p, m, h => by simp only [eaches, Option.some.injEq] at h; subst h; rfl
  | t :: r, p, m, h => by
    simp only [eaches, Option.bind_eq_some_iff, Option.map_eq_some_iff] at h
    obtain ⟨x, _, y, hy, rfl⟩ := h
    simp [eaches_length f k b r (p + 1) y hy]

theorem right_var_eq {t : Tm} (h : t.rightB = true) (hk : t.k = 2) : t = .mk 2 t.i 0 0 [] := by
  have h2 := t.right_node h
  have h0 : t.kids = [] := (sorts_two h2 (by omega)).2
  simp only [Tm.nodeB, numbersN, hk, Bool.and_eq_true, if_true, decide_eq_true_eq] at h2
  have h3 := h2.2
  have hj : t.j = 0 := by simp at h3; omega
  have hn : t.n = 0 := by simp at h3; omega
  rw [← t.eta, hk, hj, hn, h0]; rfl

/-- A right term stays, where each of its variables stays. -/
theorem each_stays (f : Int → Int → Option Int) (t : Tm) : ∀ b, t.rightB = true → 0 ≤ b → (∀ v c, 0 ≤ v → v ≤ 2147483647 → b ≤ c → v < t.freeN + c - b → f v c = some v) → t.each f b = some t := by
  induction t using Tm.ind with
  | h t ih =>
    intro b hr hb hf
    rw [Tm.each_eq]
    have hm := t.right_kids hr
    by_cases hk : t.k = 2
    · have hv := t.right_var hr hk
      have hfr : t.freeN = t.i + 1 := by rw [t.freeN_eq, if_pos hk]
      rw [if_pos hk, hf t.i b hv.1 hv.2 (Int.le_refl _) (by omega)]
      exact congrArg some (right_var_eq hr hk).symm
    · rw [if_neg hk]
      have hfr : t.freeN = frees t.k 0 t.kids := by rw [t.freeN_eq, if_neg hk]
      have key : ∀ (l : List Tm) (p : Nat), (∀ x ∈ l, ∀ b, x.rightB = true → 0 ≤ b → (∀ v c, 0 ≤ v → v ≤ 2147483647 → b ≤ c → v < x.freeN + c - b → f v c = some v) → x.each f b = some x) → (∀ x ∈ l, x.rightB = true) → frees t.k p l ≤ t.freeN → eaches f t.k p b l = some l := by
        intro l
        induction l with
        | nil => intro p _ _ _; simp [eaches]
        | cons x r ihr =>
          intro p h1 h2 h3
          simp only [frees] at h3
          have hbd := binds_range t.k (p : Int)
          have e1 := h1 x (List.mem_cons_self ..) (b + bindsN t.k p) (h2 x (List.mem_cons_self ..)) (by omega) (fun v c hv hv2 hc hlt => hf v c hv hv2 (by omega) (by omega))
          have e2 := ihr (p + 1) (fun y hy => h1 y (List.mem_cons_of_mem _ hy)) (fun y hy => h2 y (List.mem_cons_of_mem _ hy)) (by omega)
          simp only [eaches, e1, e2, Option.bind_some, Option.map_some]
      rw [key t.kids 0 ih hm (by omega)]
      exact congrArg some t.eta

theorem var_sorts {t : Tm} (h : t.nodeB = true) (hk : t.k = 2) : t.markedB = true ∧ t.plainB = true := by
  have h3 := (sorts_two h (by omega)).1
  unfold Tm.sortsN at h3
  cases hm : t.markedB <;> cases hp : t.plainB <;> simp [hm, hp] at h3 ⊢

/-- Sort and size stay. -/
theorem each_keeps (f : Int → Int → Option Int) (hf : ∀ v b w, 0 ≤ v → v ≤ 2147483647 → f v b = some w → 0 ≤ w ∧ w ≤ 2147483647) (t : Tm) :
    ∀ b u, t.rightB = true → t.each f b = some u → u.markedB = t.markedB ∧ u.plainB = t.plainB ∧ u.size = t.size := by
  induction t using Tm.ind with
  | h t ih =>
    intro b u hr he
    have hm := t.right_kids hr
    rw [Tm.each_eq] at he
    by_cases hk : t.k = 2
    · rw [if_pos hk] at he
      simp only [Option.map_eq_some_iff] at he
      obtain ⟨v, hv, rfl⟩ := he
      have hr2 := t.right_var hr hk
      have hv2 := hf _ _ _ hr2.1 hr2.2 hv
      have hnode : (Tm.mk 2 v 0 0 []).nodeB = true := by simp [Tm.nodeB, Tm.k, Tm.i, Tm.j, Tm.n, Tm.kids, numbersN, kidsN, hv2.1, hv2.2]
      have a1 := var_sorts hnode rfl
      have a2 := var_sorts (t.right_node hr) hk
      refine ⟨by rw [a1.1, a2.1], by rw [a1.2, a2.2], ?_⟩
      rw [right_var_eq hr hk]; simp [Tm.size, sizes]
    · rw [if_neg hk] at he
      simp only [Option.map_eq_some_iff] at he
      obtain ⟨m, hm2, rfl⟩ := he
      have key : ∀ (l : List Tm) (p q : Nat) (m : List Tm), (∀ x ∈ l, ∀ b u, x.rightB = true → x.each f b = some u → u.markedB = x.markedB ∧ u.plainB = x.plainB ∧ u.size = x.size) → (∀ x ∈ l, x.rightB = true) → eaches f t.k p b l = some m →
          plains m = plains l ∧ (∀ tr, markeds tr q m = markeds tr q l) ∧ sizes m = sizes l := by
        intro l
        induction l with
        | nil => intro p q m _ _ h; simp only [eaches, Option.some.injEq] at h; subst h; exact ⟨rfl, fun _ => rfl, rfl⟩
        | cons x r ihr =>
          intro p q m h1 h2 h
          simp only [eaches, Option.bind_eq_some_iff, Option.map_eq_some_iff] at h
          obtain ⟨x', hx, r', hr', rfl⟩ := h
          obtain ⟨e1, e2, e3⟩ := h1 x (List.mem_cons_self ..) _ _ (h2 x (List.mem_cons_self ..)) hx
          obtain ⟨g1, g2, g3⟩ := ihr (p + 1) (q + 1) r' (fun y hy => h1 y (List.mem_cons_of_mem _ hy)) (fun y hy => h2 y (List.mem_cons_of_mem _ hy)) hr'
          exact ⟨by simp only [plains, e2, g1], fun tr => by simp only [markeds, e1, e2, g2], by simp only [sizes, e3, g3]⟩
      obtain ⟨g1, g2, g3⟩ := key t.kids 0 0 m ih hm hm2
      have hlen := eaches_length _ _ _ _ _ _ hm2
      have hnode : (Tm.mk t.k t.i t.j t.n m).nodeB = t.nodeB := by
        show (((m.length : Int) == kidsN t.k t.n) && numbersN t.k t.i t.j t.n) = _
        rw [hlen]; rfl
      refine ⟨?_, ?_, ?_⟩
      · rw [Tm.markedB_eq, Tm.markedB_eq, hnode]; show (_ && (_ && markeds (t.k == 12) 0 m)) = _; rw [g2]; rfl
      · rw [Tm.plainB_eq, Tm.plainB_eq, hnode]; show (_ && (_ && plains m)) = _; rw [g1]; rfl
      · rw [Tm.size_eq, Tm.size_eq]; show sizes m + 1 = _; rw [g3]

def liftF (k from' : Int) (v b : Int) : Option Int := if v - b < from' then some v else if k > 2147483647 - v then none else some (v + k)

theorem liftF_range (k c : Int) (hk : 0 ≤ k) : ∀ v b w, 0 ≤ v → v ≤ 2147483647 → liftF k c v b = some w → 0 ≤ w ∧ w ≤ 2147483647 := by
  intro v b w h0 h1 h
  unfold liftF at h
  split at h
  · have := Option.some.inj h; omega
  · split at h
    · cases h
    · have := Option.some.inj h; omega

end Go.Proofs.YtgododpkbiaacaaGreat

namespace Go.Proofs.YtgododpkbiaacaaGreat

def Tm.zero : Tm := .mk 0 0 0 0 []

/-- Each kid by its place; nothing, if one has no image. -/
def optK (g : Nat → Tm → Option Tm) : Nat → List Tm → Option (List Tm)
  | _, [] => some []
  | p, t :: r => (g p t).bind fun x => (optK g (p + 1) r).map fun y => x :: y

theorem optK_take (g : Nat → Tm → Option Tm) (l : List Tm) (p k : Nat) (h : k < l.length) : optK g p (l.take (k + 1)) = (optK g p (l.take k)).bind fun m => (g (p + k) l[k]).map fun x => m ++ [x] := by
  induction l generalizing p k with
  | nil => simp at h
  | cons a r ih =>
    cases k with
    | zero => simp only [List.take_succ_cons, List.take_zero, optK, List.getElem_cons_zero, Nat.add_zero, Option.map_some, Option.bind_some, List.nil_append]; cases g p a <;> rfl
    | succ k =>
      simp only [List.take_succ_cons, optK, List.getElem_cons_succ]
      rw [ih (p + 1) k (by simpa using h), show p + 1 + k = p + (k + 1) by omega]
      cases g p a with
      | none => rfl
      | some x => simp only [Option.bind_some]; cases optK g (p + 1) (r.take k) with
        | none => rfl
        | some m => simp only [Option.bind_some, Option.map_some]; cases g (p + (k + 1)) (r[k]'(by simpa using h)) <;> rfl

theorem optK_none (g : Nat → Tm → Option Tm) (l : List Tm) (p k : Nat) (h : k < l.length) (hg : g (p + k) l[k] = none) : optK g p l = none := by
  induction l generalizing p k with
  | nil => simp at h
  | cons a r ih =>
    cases k with
    | zero => simp only [List.getElem_cons_zero, Nat.add_zero] at hg; simp only [optK, hg, Option.bind_none]
    | succ k =>
      simp only [List.getElem_cons_succ] at hg
      simp only [optK]
      rw [ih (p + 1) k (by simpa using h) (by rw [show p + 1 + k = p + (k + 1) by omega]; exact hg)]
      cases g p a <;> rfl

/-- One kid more. -/
theorem optK_next {g : Nat → Tm → Option Tm} {l m : List Tm} {k : Nat} (h : k < l.length) (hm : optK g 0 (l.take k) = some m) {x : Tm} (hx : g k l[k] = some x) : optK g 0 (l.take (k + 1)) = some (m ++ [x]) := by
  rw [optK_take g l 0 k h, hm, Option.bind_some, Nat.zero_add, hx, Option.map_some]
theorem optK_stop {g : Nat → Tm → Option Tm} {l : List Tm} {k : Nat} (h : k < l.length) (hx : g k l[k] = none) : optK g 0 l = none := optK_none g l 0 k h (by rw [Nat.zero_add]; exact hx)
theorem optK_length {g : Nat → Tm → Option Tm} : ∀ {l m : List Tm} {p : Nat}, optK g p l = some m → m.length = l.length
  | [], m, p, h => by simp only [optK, Option.some.injEq] at h; subst h; rfl
  | t :: r, m, p, h => by
    simp only [optK, Option.bind_eq_some_iff, Option.map_eq_some_iff] at h
    obtain ⟨x, _, y, hy, rfl⟩ := h
    simp [optK_length hy]
theorem optK_congr {g g' : Nat → Tm → Option Tm} : ∀ (l : List Tm) (p : Nat), (∀ k (h : k < l.length), g (p + k) l[k] = g' (p + k) l[k]) → optK g p l = optK g' p l
  | [], p, _ => rfl
  | t :: r, p, h => by
    have h0 := h 0 (by simp)
    simp only [List.getElem_cons_zero, Nat.add_zero] at h0
    simp only [optK, h0]
    rw [optK_congr r (p + 1) (fun k hk => by have := h (k + 1) (by simpa using hk); simpa [Nat.add_assoc, Nat.add_comm 1 k] using this)]
/-- All of them come. -/
theorem optK_some {g : Nat → Tm → Option Tm} {f : Tm → Tm} : ∀ (l : List Tm) (p : Nat), (∀ k (h : k < l.length), g (p + k) l[k] = some (f l[k])) → optK g p l = some (l.map f)
  | [], p, _ => rfl
  | t :: r, p, h => by
    have h0 := h 0 (by simp)
    simp only [List.getElem_cons_zero, Nat.add_zero] at h0
    simp only [optK, h0, Option.bind_some]
    rw [optK_some r (p + 1) (fun k hk => by have := h (k + 1) (by simpa using hk); simpa [Nat.add_assoc, Nat.add_comm 1 k] using this)]
    rfl

theorem eaches_optK (f : Int → Int → Option Int) (k b : Int) : ∀ (l : List Tm) (p : Nat), eaches f k p b l = optK (fun q t => t.each f (b + bindsN k q)) p l
  | [], p => rfl
  | t :: r, p => by simp only [eaches, optK]; rw [eaches_optK f k b r (p + 1)]

theorem Tm.each_var (f : Int → Int → Option Int) (t : Tm) (b : Int) (h : t.k = 2) : t.each f b = (f t.i b).map (fun v => .mk 2 v 0 0 []) := by rw [t.each_eq, if_pos h]
theorem Tm.each_node (f : Int → Int → Option Int) (t : Tm) (b : Int) (h : t.k ≠ 2) : t.each f b = (optK (fun q x => x.each f (b + bindsN t.k q)) 0 t.kids).map (fun l => .mk t.k t.i t.j t.n l) := by rw [t.each_eq, if_neg h, eaches_optK]

/-- lift.Lift. -/
def Tm.liftB (t : Tm) (k c : Int) : Tm := if k < 0 ∨ c < 0 ∨ t.rightB = false then .zero else (t.each (liftF k c) 0).getD .zero

/-- The page's lift, as it goes: the border moves with the binders, till it is very great. -/
def step62 (c : Int) (k q : Int) : Int := c + (if 4611686018427387904 < c then 0 else bindsN k q)
mutual
def Tm.rlift (k : Int) : Tm → Int → Option Tm
  | .mk K i j n l, c => if K = 2 ∧ c ≤ i ∧ k > 2147483647 - i then none else (rlifts k K 0 c l).map (fun l' => .mk K (if K = 2 ∧ c ≤ i then i + k else i) j n l')
def rlifts (k : Int) : Int → Nat → Int → List Tm → Option (List Tm)
  | _, _, _, [] => some []
  | K, p, c, t :: r => (t.rlift k (step62 c K p)).bind fun x => (rlifts k K (p + 1) c r).map fun y => x :: y
end
theorem rlifts_optK (k K c : Int) : ∀ (l : List Tm) (p : Nat), rlifts k K p c l = optK (fun q t => t.rlift k (step62 c K q)) p l
  | [], p => rfl
  | t :: r, p => by simp only [rlifts, optK]; rw [rlifts_optK k K c r (p + 1)]
theorem Tm.rlift_eq (k : Int) (t : Tm) (c : Int) : t.rlift k c = if t.k = 2 ∧ c ≤ t.i ∧ k > 2147483647 - t.i then none else (optK (fun q x => x.rlift k (step62 c t.k q)) 0 t.kids).map (fun l => .mk t.k (if t.k = 2 ∧ c ≤ t.i then t.i + k else t.i) t.j t.n l) := by
  cases t; simp only [Tm.rlift, rlifts_optK]; rfl

/-- A right term with small variables stays beneath a great border. -/
theorem rlift_stays (k : Int) (t : Tm) : ∀ c, 2147483647 < c → t.rightB = true → t.rlift k c = some t := by
  induction t using Tm.ind with
  | h t ih =>
    intro c hc hr
    rw [Tm.rlift_eq]
    have hv : t.k = 2 → t.i ≤ 2147483647 := fun h => (t.right_var hr h).2
    rw [if_neg (by rintro ⟨h1, h2, -⟩; have := hv h1; omega), if_neg (by rintro ⟨h1, h2⟩; have := hv h1; omega)]
    rw [optK_some (f := id) t.kids 0 (fun q hq => by
      rw [Nat.zero_add]
      refine ih _ (List.getElem_mem hq) _ ?_ (t.right_kids hr _ (List.getElem_mem hq))
      unfold step62; have := binds_range t.k q; split <;> omega)]
    simp [t.eta]

/-- The page's lift is the document's. -/
theorem rlift_each (k : Int) (t : Tm) : ∀ (c b : Int), 0 ≤ b → c + b + 2 * (t.deep : Int) ≤ 4611686018427387904 → t.rightB = true → t.rlift k (c + b) = t.each (liftF k c) b := by
  induction t using Tm.ind with
  | h t ih =>
    intro c b hb hd hr
    rw [Tm.rlift_eq]
    have hm := t.right_kids hr
    by_cases hk : t.k = 2
    · rw [Tm.each_var _ _ _ hk]
      have hv := t.right_var hr hk
      have hkids : t.kids = [] := (sorts_two (t.right_node hr) (by omega)).2
      have he := right_var_eq hr hk
      rw [hkids]
      simp only [optK, Option.map_some, hk, true_and]
      unfold liftF
      by_cases h1 : t.i - b < c
      · rw [if_pos h1, if_neg (by omega), if_neg (by omega)]
        have hj : t.j = 0 := by rw [he]; rfl
        have hn : t.n = 0 := by rw [he]; rfl
        rw [hj, hn]; rfl
      · rw [if_neg h1]
        by_cases h2 : k > 2147483647 - t.i
        · rw [if_pos h2, if_pos ⟨by omega, h2⟩]; rfl
        · rw [if_neg h2, if_neg (by omega), if_pos (by omega)]
          have hj : t.j = 0 := by rw [he]; rfl
          have hn : t.n = 0 := by rw [he]; rfl
          rw [hj, hn]; rfl
    · rw [Tm.each_node _ _ _ hk, if_neg (fun h => hk h.1), if_neg (fun h => hk h.1)]
      rw [optK_congr (g' := fun q x => x.each (liftF k c) (b + bindsN t.k q)) t.kids 0 (fun q hq => by
        have hbd := binds_range t.k q
        have hde : (t.kids[q]).deep + 1 ≤ t.deep := by
          rw [t.deep_eq]
          have : ∀ (l : List Tm) (q : Nat) (h : q < l.length), (l[q]).deep ≤ deeps l := by
            intro l
            induction l with
            | nil => intro q h; simp at h
            | cons a r ihr =>
              intro q h
              cases q with
              | zero => simp only [List.getElem_cons_zero, deeps]; omega
              | succ q => have := ihr q (by simpa using h); simp only [List.getElem_cons_succ, deeps]; omega
          have := this t.kids q hq; omega
        rw [Nat.zero_add]
        have hs : step62 (c + b) t.k q = c + (b + bindsN t.k q) := by unfold step62; rw [if_neg (by omega)]; omega
        rw [hs]
        exact ih _ (List.getElem_mem hq) c (b + bindsN t.k q) (by omega) (by omega) (hm _ (List.getElem_mem hq)))]

/-- Whatever border and step: the page's answer is the program's. -/
theorem rlift_lift (t : Tm) (k c : Int) (_ : 0 ≤ k) (hc : 0 ≤ c) (hd : t.deep ≤ 1000000) (hr : t.rightB = true) : t.rlift k c = t.each (liftF k c) 0 := by
  by_cases h : c ≤ 4000000000000000000
  · have := rlift_each k t c 0 (Int.le_refl _) (by omega) hr
    rwa [Int.add_zero] at this
  · rw [rlift_stays k t c (by omega) hr]
    refine (each_stays _ t 0 hr (Int.le_refl _) (fun v b hv hv2 _ _ => ?_)).symm
    unfold liftF; rw [if_pos (by omega)]

end Go.Proofs.YtgododpkbiaacaaGreat

namespace Go.Proofs.YtgododpkbiaacaaGreat

theorem mk_k (k i j n : Int) (l : List Tm) : (Tm.mk k i j n l).k = k := rfl
theorem mk_i (k i j n : Int) (l : List Tm) : (Tm.mk k i j n l).i = i := rfl
theorem mk_j (k i j n : Int) (l : List Tm) : (Tm.mk k i j n l).j = j := rfl
theorem mk_n (k i j n : Int) (l : List Tm) : (Tm.mk k i j n l).n = n := rfl
theorem mk_kids (k i j n : Int) (l : List Tm) : (Tm.mk k i j n l).kids = l := rfl

def bareKind (k : Int) : Int := if k = 3 then 13 else if k = 4 then 14 else if k = 5 then 15 else if k = 6 then 16 else if k = 7 then 17 else if k = 8 then 18 else if k = 9 then 19 else if k = 10 then 20 else if k = 11 then 21 else if k = 12 then 23 else k
def barePick (k : Int) : List Nat := if k = 3 then [0, 1] else if k = 4 then [0, 2] else if k = 5 then [2, 3] else if k = 6 then [0, 1] else if k = 7 then [0, 1, 2, 3] else if k = 8 then [2] else if k = 9 then [2] else if k = 10 then [0, 1, 2] else if k = 11 then [0, 1] else [0, 1, 2, 3]
def pickT (p : List Nat) (l : List Tm) : List Tm := p.filterMap fun i => l[i]?
def bareNode (k i j n : Int) (l : List Tm) : Tm := if 3 ≤ k ∧ k ≤ 12 then .mk (bareKind k) (if k = 12 then i else 0) 0 (if k = 12 then 5 else 0) (pickT (barePick k) l) else .mk k i j n l
mutual
def Tm.bare : Tm → Tm
  | .mk k i j n l => bareNode k i j n (bares l)
def bares : List Tm → List Tm
  | [] => []
  | t :: r => t.bare :: bares r
end
theorem bares_map : ∀ l : List Tm, bares l = l.map Tm.bare
  | [] => rfl
  | t :: r => by simp only [bares, List.map_cons, bares_map r]
theorem Tm.bare_eq (t : Tm) : t.bare = bareNode t.k t.i t.j t.n (t.kids.map Tm.bare) := by cases t; simp only [Tm.bare, bares_map]; rfl

theorem kids_two {l : List Tm} (h : l.length = 2) : ∃ a b, l = [a, b] := by
  match l, h with | [a, b], _ => exact ⟨a, b, rfl⟩
theorem kids_three {l : List Tm} (h : l.length = 3) : ∃ a b c, l = [a, b, c] := by
  match l, h with | [a, b, c], _ => exact ⟨a, b, c, rfl⟩
theorem kids_four {l : List Tm} (h : l.length = 4) : ∃ a b c d, l = [a, b, c, d] := by
  match l, h with | [a, b, c, d], _ => exact ⟨a, b, c, d, rfl⟩

theorem node_length {t : Tm} (h : t.nodeB = true) : (t.kids.length : Int) = kidsN t.k t.n := by
  simp only [Tm.nodeB, Bool.and_eq_true, beq_iff_eq] at h; exact h.1

/-- The kids of a marked node, by its kind. -/
theorem marked_shape {t : Tm} (h : t.nodeB = true) (h3 : 3 ≤ t.k) (h12 : t.k ≤ 12) :
    ((t.k = 3 ∨ t.k = 6 ∨ t.k = 11) ∧ ∃ a b, t.kids = [a, b]) ∨ ((t.k = 4 ∨ t.k = 8 ∨ t.k = 9 ∨ t.k = 10) ∧ ∃ a b c, t.kids = [a, b, c]) ∨ ((t.k = 5 ∨ t.k = 7 ∨ t.k = 12) ∧ ∃ a b c d, t.kids = [a, b, c, d]) := by
  have hl := node_length h
  have hk : t.k = 3 ∨ t.k = 4 ∨ t.k = 5 ∨ t.k = 6 ∨ t.k = 7 ∨ t.k = 8 ∨ t.k = 9 ∨ t.k = 10 ∨ t.k = 11 ∨ t.k = 12 := by omega
  rcases hk with e | e | e | e | e | e | e | e | e | e <;> rw [e] at hl <;> simp only [kidsN] at hl <;> simp at hl
  · exact Or.inl ⟨by omega, kids_two (by omega)⟩
  · exact Or.inr (Or.inl ⟨by omega, kids_three (by omega)⟩)
  · exact Or.inr (Or.inr ⟨by omega, kids_four (by omega)⟩)
  · exact Or.inl ⟨by omega, kids_two (by omega)⟩
  · exact Or.inr (Or.inr ⟨by omega, kids_four (by omega)⟩)
  · exact Or.inr (Or.inl ⟨by omega, kids_three (by omega)⟩)
  · exact Or.inr (Or.inl ⟨by omega, kids_three (by omega)⟩)
  · exact Or.inr (Or.inl ⟨by omega, kids_three (by omega)⟩)
  · exact Or.inl ⟨by omega, kids_two (by omega)⟩
  · exact Or.inr (Or.inr ⟨by omega, kids_four (by omega)⟩)

theorem plain_kids {t : Tm} (h : t.plainB = true) : ∀ x ∈ t.kids, x.plainB = true := by
  rw [Tm.plainB_eq] at h; simp only [Bool.and_eq_true] at h; exact plains_mem h.2.2
theorem plain_kind {t : Tm} (h : t.plainB = true) : t.k = 1 ∨ t.k = 2 ∨ 13 ≤ t.k := by
  rw [Tm.plainB_eq] at h; simp at h; omega
theorem plain_right {t : Tm} (h : t.plainB = true) : t.rightB = true := by simp [Tm.rightB, h]
theorem marked_right {t : Tm} (h : t.markedB = true) : t.rightB = true := by simp [Tm.rightB, h]

/-- What is plain stays. -/
theorem plain_bare (t : Tm) : t.plainB = true → t.bare = t := by
  induction t using Tm.ind with
  | h t ih =>
    intro h
    have hk := plain_kind h
    rw [Tm.bare_eq, bareNode, if_neg (by omega)]
    have : t.kids.map Tm.bare = t.kids := by
      have hp := plain_kids h
      conv => rhs; rw [← List.map_id t.kids]
      exact List.map_congr_left (fun x hx => ih x hx (hp x hx))
    rw [this]; exact t.eta

theorem right_cases {t : Tm} (h : t.rightB = true) : t.plainB = true ∨ (t.markedB = true ∧ 3 ≤ t.k ∧ t.k ≤ 12) := by
  cases hp : t.plainB
  · right
    simp [Tm.rightB, hp] at h
    refine ⟨h, ?_⟩
    have hn : t.nodeB = true := Tm.right_node (by simp [Tm.rightB, h])
    have h1 := Tm.node_kind hn
    by_cases h2 : t.k ≤ 2
    · have := (sorts_two hn h2).1
      simp [Tm.sortsN, h, hp] at this
    · rw [Tm.markedB_eq] at h; simp at h; omega
  · exact Or.inl rfl

/-- What is stripped is plain. -/
theorem bare_plain (t : Tm) : t.rightB = true → t.bare.plainB = true := by
  induction t using Tm.ind with
  | h t ih =>
    intro h
    rcases right_cases h with hp | ⟨hm, h3, h12⟩
    · rw [plain_bare t hp]; exact hp
    · have hn := t.right_node h
      have hr := t.right_kids h
      have hnum := hn
      simp only [Tm.nodeB, Bool.and_eq_true] at hnum
      replace hnum := hnum.2
      rw [Tm.bare_eq, bareNode, if_pos ⟨h3, h12⟩, Tm.plainB_eq]
      rcases marked_shape hn h3 h12 with ⟨hk, a, b, hkids⟩ | ⟨hk, a, b, c, hkids⟩ | ⟨hk, a, b, c, d, hkids⟩
      · have ea := ih a (by simp [hkids]) (hr a (by simp [hkids]))
        have eb := ih b (by simp [hkids]) (hr b (by simp [hkids]))
        rcases hk with e | e | e <;> simp [e, hkids, bareKind, barePick, pickT, Tm.nodeB, mk_k, mk_i, mk_j, mk_n, mk_kids, kidsN, numbersN, plains, ea, eb]
      · have ea := ih a (by simp [hkids]) (hr a (by simp [hkids]))
        have eb := ih b (by simp [hkids]) (hr b (by simp [hkids]))
        have ec := ih c (by simp [hkids]) (hr c (by simp [hkids]))
        rcases hk with e | e | e | e <;> simp [e, hkids, bareKind, barePick, pickT, Tm.nodeB, mk_k, mk_i, mk_j, mk_n, mk_kids, kidsN, numbersN, plains, ea, eb, ec]
      · have ea := ih a (by simp [hkids]) (hr a (by simp [hkids]))
        have eb := ih b (by simp [hkids]) (hr b (by simp [hkids]))
        have ec := ih c (by simp [hkids]) (hr c (by simp [hkids]))
        have ed := ih d (by simp [hkids]) (hr d (by simp [hkids]))
        rcases hk with e | e | e
        · simp [e, hkids, bareKind, barePick, pickT, Tm.nodeB, mk_k, mk_i, mk_j, mk_n, mk_kids, kidsN, numbersN, plains, ec, ed]
        · simp [e, hkids, bareKind, barePick, pickT, Tm.nodeB, mk_k, mk_i, mk_j, mk_n, mk_kids, kidsN, numbersN, plains, ea, eb, ec, ed]
        · simp [e, numbersN, levelB] at hnum
          simp [e, hkids, bareKind, barePick, pickT, Tm.nodeB, mk_k, mk_i, mk_j, mk_n, mk_kids, kidsN, givenN, numbersN, plains, ea, eb, ec, ed, hnum, levelB]

theorem deeps_get : ∀ (l : List Tm) (q : Nat) (h : q < l.length), (l[q]).deep ≤ deeps l
  | [], q, h => by simp at h
  | a :: r, q, h => by
    cases q with
    | zero => simp only [List.getElem_cons_zero, deeps]; omega
    | succ q => have := deeps_get r q (by simpa using h); simp only [List.getElem_cons_succ, deeps]; omega
end Go.Proofs.YtgododpkbiaacaaGreat

namespace Go.Proofs.YtgododpkbiaacaaGreat
open Go.RowKit

/-- The block of a term by value. -/
def boxOf (t : Tm) (s : Value) : Obj := .cells #[.int .i64 t.k, .int .i64 t.i, .int .i64 t.j, .int .i64 t.n, s] 25

/-- Beside the boxed term there is only what is new. -/
def Held (w : World) (t : Tm) (s : Value) (w' : World) : Prop := Below (w.heap.size + 1) (w.alloc (boxOf t s)) w'

theorem held_start (w : World) (t : Tm) (s : Value) : Held w t s (w.alloc (.cells #[.int .i64 t.k, .int .i64 t.i, .int .i64 t.j, .int .i64 t.n, s] 25)) := Below.refl _ _
theorem held_cells {w w' : World} {t : Tm} {s : Value} (h : Held w t s w') : w'.cell? ⟨w.heap.size, 0, none⟩ = some (.int .i64 t.k) ∧ w'.cell? ⟨w.heap.size, 1, none⟩ = some (.int .i64 t.i) ∧ w'.cell? ⟨w.heap.size, 2, none⟩ = some (.int .i64 t.j) ∧
    w'.cell? ⟨w.heap.size, 3, none⟩ = some (.int .i64 t.n) ∧ w'.cell? ⟨w.heap.size, 4, none⟩ = some s := box_cells h
theorem held_call {w w1 w2 : World} {t : Tm} {s : Value} (h : Held w t s w1) (hb : Below w1.heap.size w1 w2) : Held w t s w2 :=
  below_call h hb (by have := h.size; simpa using this)
theorem held_drew {w w1 : World} {t : Tm} {s : Value} (h : Held w t s w1) : Held w t s w1.drew := Below.drew h
theorem held_lies {w w1 : World} {t : Tm} {s s' : Value} {l : List Tm} (h : Held w t s w1) (hl : Lies w l s') : Lies w1 l s' := hl.keep (below_of_box h)
theorem held_below {w w1 : World} {t : Tm} {s : Value} (h : Held w t s w1) : Below w.heap.size w w1 := below_of_box h
end Go.Proofs.YtgododpkbiaacaaGreat

namespace Go.Proofs.YtgododpkbiaacaaGreat
open Go.RowKit

/-- Terms behind a slice, in blocks of which P speaks. -/
inductive LiesP (w : World) (P : Nat → Prop) : List Tm → Value → Prop
  | mk (l : List Tm) (a : Option Addr) (cap : Nat) (S : Nat → Value) (hc : l.length ≤ cap) (hm : cap ≤ maxLen) (hf : ∀ x ∈ l, x.fine)
      (hn : ∀ i (h : i < l.length), ∃ b, a = some ⟨b, 0, none⟩ ∧ P b ∧ Node w b (i * 5) l[i] (S i)) (hk : ∀ i (h : i < l.length), LiesP w P (l[i]).kids (S i)) : LiesP w P l (.slice a l.length cap)

theorem LiesP.lies {w : World} {P : Nat → Prop} {l : List Tm} {s : Value} (h : LiesP w P l s) : Lies w l s := by
  induction h with
  | mk l a cap S hc hm hf hn hk ih => exact .mk l a cap S hc hm hf (fun i hi => by obtain ⟨b, ha, _, hx⟩ := hn i hi; exact ⟨b, 0, ha, by rw [Nat.zero_add]; exact hx⟩) ih

theorem Node.same {w w' : World} {b o : Nat} {t : Tm} {s : Value} (h : Node w b o t s) (hb : w'.heap[b]? = w.heap[b]?) : Node w' b o t s :=
  ⟨(World.cell?_of_block (a := ⟨b, o, none⟩) hb).trans h.c0, (World.cell?_of_block (a := ⟨b, o + 1, none⟩) hb).trans h.c1, (World.cell?_of_block (a := ⟨b, o + 2, none⟩) hb).trans h.c2,
    (World.cell?_of_block (a := ⟨b, o + 3, none⟩) hb).trans h.c3, (World.cell?_of_block (a := ⟨b, o + 4, none⟩) hb).trans h.c4⟩

/-- They lie in a later world where their blocks are as they were; P may be turned on the way. -/
theorem LiesP.keep {w w' : World} {P Q : Nat → Prop} {l : List Tm} {s : Value} (h : LiesP w P l s) (hb : ∀ b, P b → b < w.heap.size → w'.heap[b]? = w.heap[b]?) (hq : ∀ b, P b → b < w.heap.size → Q b) : LiesP w' Q l s := by
  induction h with
  | mk l a cap S hc hm hf hn hk ih =>
    exact .mk l a cap S hc hm hf (fun i hi => by obtain ⟨b, ha, hp, hx⟩ := hn i hi; exact ⟨b, ha, hq b hp hx.lt, hx.same (hb b hp hx.lt)⟩) ih

/-- A block of the call's own: new since B, and nothing of it is frozen. -/
def Own (B : Nat) (w : World) (b : Nat) : Prop := B ≤ b ∧ ∃ cs, w.heap[b]? = some (.cells cs 25 (0, 0))
theorem Own.lt {B : Nat} {w : World} {b : Nat} (h : Own B w b) : b < w.heap.size := by obtain ⟨-, cs, h⟩ := h; exact (Array.getElem?_eq_some_iff.1 h).1
theorem Own.same {B : Nat} {w w' : World} {b : Nat} (h : Own B w b) (hb : w'.heap[b]? = w.heap[b]?) : Own B w' b := ⟨h.1, by rw [hb]; exact h.2⟩
theorem Own.later {B : Nat} {w w' : World} {b : Nat} (h : Own B w b) (hb : Below w.heap.size w w') : Own B w' b := h.same (hb.block b h.lt)
theorem Own.from {B B' : Nat} {w : World} {b : Nat} (h : Own B w b) (hB : B' ≤ B) : Own B' w b := ⟨Nat.le_trans hB h.1, h.2⟩

/-- What a call has made lies there later, too. -/
theorem LiesP.later {w w' : World} {B : Nat} {l : List Tm} {s : Value} (h : LiesP w (Own B w) l s) (hb : Below w.heap.size w w') : LiesP w' (Own B w') l s := h.keep (fun b _ hlt => hb.block b hlt) (fun _ hp _ => hp.later hb)
theorem LiesP.from {w : World} {B B' : Nat} {l : List Tm} {s : Value} (h : LiesP w (Own B w) l s) (hB : B' ≤ B) : LiesP w (Own B' w) l s := h.keep (fun _ _ _ => rfl) (fun _ hp _ => hp.from hB)

def cells5 : List (Tm × Value) → List Value
  | [] => []
  | (t, s) :: r => .int .i64 t.k :: .int .i64 t.i :: .int .i64 t.j :: .int .i64 t.n :: s :: cells5 r

theorem cells5_length : ∀ ps : List (Tm × Value), (cells5 ps).length = ps.length * 5
  | [] => rfl
  | (t, s) :: r => by simp [cells5, cells5_length r]; omega
theorem cells5_append : ∀ ps qs : List (Tm × Value), cells5 (ps ++ qs) = cells5 ps ++ cells5 qs
  | [], qs => rfl
  | (t, s) :: r, qs => by simp [cells5, cells5_append r qs]
theorem cells5_get : ∀ (ps : List (Tm × Value)) (i : Nat) (h : i < ps.length) (q : Nat), q < 5 → (cells5 ps)[i * 5 + q]? = [Value.int .i64 (ps[i]).1.k, .int .i64 (ps[i]).1.i, .int .i64 (ps[i]).1.j, .int .i64 (ps[i]).1.n, (ps[i]).2][q]?
  | (t, s) :: r, 0, _, q, hq => by
    rw [Nat.zero_mul, Nat.zero_add]
    match q, hq with
    | 0, _ => rfl
    | 1, _ => rfl
    | 2, _ => rfl
    | 3, _ => rfl
    | 4, _ => rfl
  | (t, s) :: r, i + 1, h, q, hq => by
    have := cells5_get r i (by simpa using h) q hq
    rw [show (i + 1) * 5 + q = (i * 5 + q) + 5 by omega]
    simpa [cells5] using this

/-- A list of terms that the call has made so far: v is the slice, ps the terms with the slices of their kids; B: where its own memory begins. -/
structure Made (B : Nat) (w : World) (v : Value) (ps : List (Tm × Value)) : Prop where
  own : w.ownsRow B 25 5 v ps.length (cells5 ps)
  fine : ∀ p ∈ ps, p.1.fine
  kids : ∀ p ∈ ps, LiesP w (fun b => Own B w b ∧ v.ownBlock ≠ some b) p.1.kids p.2

theorem made_nil (B : Nat) (w : World) : Made B w (.slice none 0 0) [] := ⟨⟨rfl, Or.inl ⟨rfl, rfl⟩⟩, (fun _ h => by cases h), (fun _ h => by cases h)⟩

theorem made_later {B : Nat} {w w' : World} {v : Value} {ps : List (Tm × Value)} (h : Made B w v ps) (hb : Below w.heap.size w w') : Made B w' v ps := by
  refine ⟨?_, h.fine, fun p hp => (h.kids p hp).keep (fun b _ hlt => hb.block b hlt) (fun _ hq _ => ⟨hq.1.later hb, hq.2⟩)⟩
  obtain ⟨h1, h2⟩ := h.own
  refine ⟨h1, ?_⟩
  rcases h2 with h2 | ⟨g, cap, cur, hv, hg, hh, r⟩
  · exact Or.inl h2
  · refine Or.inr ⟨g, cap, cur, hv, hg, ?_, r⟩
    rw [hb.block g ?_]; exact hh
    exact (Array.getElem?_eq_some_iff.1 hh).1

/-- The block of the list, if it has one, is none of a new term's. -/
theorem made_block {B : Nat} {w : World} {v : Value} {ps : List (Tm × Value)} (h : Made B w v ps) {b : Nat} (hb : w.heap.size ≤ b) : v.ownBlock ≠ some b := by
  rcases h.own.2 with ⟨rfl, -⟩ | ⟨g, cap, cur, rfl, -, hh, -⟩
  · simp [Value.ownBlock]
  · have := (Array.getElem?_eq_some_iff.1 hh).1
    simp [Value.ownBlock]; omega

theorem made_step {B : Nat} {w w1 : World} {v : Value} {ps : List (Tm × Value)} {p : Tm × Value} {g cap : Nat} (h : Made B w v ps) (hf : p.1.fine) (hk : LiesP w (fun b => Own B w b ∧ v.ownBlock ≠ some b) p.1.kids p.2)
    (hown : w1.ownsRow B 25 5 (.slice (some ⟨g, 0, none⟩) (ps.length + 1) cap) (ps.length + 1) (cells5 ps ++ cells5 [p])) (hgrow : w.grownBy w1 v.ownBlock) (hg : v.ownBlock = some g ∨ g = w.heap.size) :
    Made B w1 (.slice (some ⟨g, 0, none⟩) (ps.length + 1) cap) (ps ++ [p]) := by
  have keep : ∀ q : Tm × Value, LiesP w (fun b => Own B w b ∧ v.ownBlock ≠ some b) q.1.kids q.2 → LiesP w1 (fun b => Own B w1 b ∧ (Value.slice (some ⟨g, 0, none⟩) (ps.length + 1) cap).ownBlock ≠ some b) q.1.kids q.2 := fun q hq =>
    hq.keep (fun b hb hlt => hgrow.block b hlt (fun e => hb.2 e.symm)) (fun b hb hlt => ⟨hb.1.same (hgrow.block b hlt (fun e => hb.2 e.symm)), by
      show some g ≠ some b
      rcases hg with e | e
      · rw [← e]; exact hb.2
      · intro e'; have := Option.some.inj e'; omega⟩)
  refine ⟨by rw [cells5_append]; simpa using hown, fun q hq => ?_, fun q hq => ?_⟩
  · rcases List.mem_append.1 hq with hq | hq
    · exact h.fine q hq
    · rw [List.mem_singleton.1 hq]; exact hf
  · rcases List.mem_append.1 hq with hq | hq
    · exact keep q (h.kids q hq)
    · rw [List.mem_singleton.1 hq]; exact keep p hk

/-- The list as terms that lie in the call's own memory. -/
theorem made_lies {B : Nat} {w : World} {v : Value} {ps : List (Tm × Value)} (h : Made B w v ps) : LiesP w (Own B w) (ps.map (·.1)) v := by
  have fin : ∀ x ∈ ps.map (·.1), x.fine := fun x hx => by obtain ⟨p, hp, rfl⟩ := List.mem_map.1 hx; exact h.fine p hp
  have kid : ∀ i (hi : i < ps.length), LiesP w (Own B w) (ps[i]).1.kids (ps[i]).2 := fun i hi => (h.kids _ (List.getElem_mem hi)).keep (fun _ _ _ => rfl) (fun _ hb _ => hb.1)
  obtain ⟨-, ⟨rfl, hn⟩ | ⟨g, cap, cur, rfl, hg, hh, hnc, hcm, hsz, htk⟩⟩ := h.own
  · obtain rfl : ps = [] := List.eq_nil_of_length_eq_zero hn
    exact .mk [] none 0 (fun _ => .nilIface) (Nat.le_refl _) (by decide) (fun _ h => by cases h) (fun _ h => by cases h) (fun _ h => by cases h)
  · have := LiesP.mk (w := w) (P := Own B w) (ps.map (·.1)) (some ⟨g, 0, none⟩) cap (fun i => (ps[i]?.map (·.2)).getD (.slice none 0 0)) (by simpa using hnc) hcm fin
      (fun i hi => by
        have hi' : i < ps.length := by simpa using hi
        refine ⟨g, rfl, ⟨hg, cur, hh⟩, ?_⟩
        simp only [List.getElem_map, List.getElem?_eq_getElem hi', Option.map_some, Option.getD_some]
        have cellq : ∀ q, q < 5 → w.cell? ⟨g, i * 5 + q, none⟩ = [Value.int .i64 (ps[i]).1.k, .int .i64 (ps[i]).1.i, .int .i64 (ps[i]).1.j, .int .i64 (ps[i]).1.n, (ps[i]).2][q]? := fun q hq => by
          rw [h.own.cellAt (i * 5 + q) (by omega)]; exact cells5_get ps i hi' q hq
        exact ⟨cellq 0 (by omega), cellq 1 (by omega), cellq 2 (by omega), cellq 3 (by omega), cellq 4 (by omega)⟩)
      (fun i hi => by
        have hi' : i < ps.length := by simpa using hi
        simp only [List.getElem_map, List.getElem?_eq_getElem hi', Option.map_some, Option.getD_some]
        exact kid i hi')
    simpa using this

theorem alloc_new (w : World) (o : Obj) : (w.alloc o).heap[w.heap.size]? = some o := by
  unfold World.alloc; simp

/-- The cells of a term that was just laid into a block of its own. -/
theorem news_new (w : World) (t : Tm) (s : Value) (T : TypeId) : ∀ j u, (cells5 [(t, s)])[j]? = some u → (w.alloc (.cells #[.int .i64 t.k, .int .i64 t.i, .int .i64 t.j, .int .i64 t.n, s] T)).cell? ((⟨w.heap.size, 0, none⟩ : Addr).add j) = some u :=
  World.news_of_block (alloc_new w _)

/-- A term is stored into a block of five cells. -/
theorem five_set {w : World} {g : Nat} {T : TypeId} {z0 z1 z2 z3 z4 v0 v1 v2 v3 v4 : Value} (h : w.heap[g]? = some (.cells #[z0, z1, z2, z3, z4] T (0, 0))) :
    (((((w.setCell ⟨g, 0, none⟩ v0).setCell ⟨g, 1, none⟩ v1).setCell ⟨g, 2, none⟩ v2).setCell ⟨g, 3, none⟩ v3).setCell ⟨g, 4, none⟩ v4).heap[g]? = some (.cells #[v0, v1, v2, v3, v4] T (0, 0)) :=
  heap_setCell_same _ _ _ _ _ _ (heap_setCell_same _ _ _ _ _ _ (heap_setCell_same _ _ _ _ _ _ (heap_setCell_same _ _ _ _ _ _ (heap_setCell_same _ _ _ _ _ _ h))))

/-- The value of an owned list lies above the base. -/
theorem made_above {B : Nat} {w : World} {v : Value} {ps : List (Tm × Value)} (h : Made B w v ps) : ∀ k, v.ownBlock = some k → B ≤ k := by
  intro k hk
  rcases h.own.2 with ⟨rfl, -⟩ | ⟨g, cap, cur, rfl, hg, -⟩
  · simp [Value.ownBlock] at hk
  · simp [Value.ownBlock] at hk; omega

/-- A term that a call has just made is appended: the element lies in a block of its own first. -/
theorem made_push {B : Nat} {wr w2 w3 : World} {v : Value} {ps : List (Tm × Value)} {t : Tm} {s2 : Value} {g cap : Nat} (h : Made B wr v ps) (hf : t.fine) (hB : B ≤ wr.heap.size) (hb2 : Below wr.heap.size wr w2) (hk : LiesP w2 (Own wr.heap.size w2) t.kids s2) (o : Obj)
    (hown : w3.ownsRow B 25 5 (.slice (some ⟨g, 0, none⟩) (ps.length + 1) cap) (ps.length + 1) (cells5 ps ++ cells5 [(t, s2)])) (hgrow : (w2.alloc o).grownBy w3 v.ownBlock) (hat : v.ownBlock = some g ∨ g = w2.heap.size + 1) :
    Made B w3 (.slice (some ⟨g, 0, none⟩) (ps.length + 1) cap) (ps ++ [(t, s2)]) :=
  made_step (made_later (made_later h hb2) ((Below.refl _ _).alloc (Nat.le_refl _) _)) hf
    (hk.keep (fun b _ hlt => Below.heap_alloc _ _ _ hlt) (fun b hb hlt => ⟨(hb.same (Below.heap_alloc _ _ _ hlt)).from hB, made_block h hb.1⟩)) hown hgrow (by simpa using hat)

theorem below_push {B : Nat} {w wr w2 w3 : World} {v : Value} {ps : List (Tm × Value)} (h : Made B wr v ps) (hb : Below B w wr) (hB : B ≤ wr.heap.size) (hb2 : Below wr.heap.size wr w2) (o : Obj) (hgrow : (w2.alloc o).grownBy w3 v.ownBlock) : Below B w w3 :=
  ((below_call hb hb2 hB).alloc (Nat.le_trans hB hb2.size) o).grown hgrow (by have := hb2.size; simp; omega) (made_above h)

theorem info_term : (Tryz.prog.info? 25).map (fun i => (i.zero, i.size, i.bytes)) = some (some (.agg #[.int .i64 0, .int .i64 0, .int .i64 0, .int .i64 0, .slice none 0 0]), 5, 56) := by kernel_rfl
end Go.Proofs.YtgododpkbiaacaaGreat

namespace Go.Proofs.YtgododpkbiaacaaGreat
open Go.RowKit

/-- The five cells of an element, written one behind the other. -/
def put5 (w : World) (g o : Nat) (t : Tm) (s : Value) : World := ((((w.setCell ⟨g, o, none⟩ (.int .i64 t.k)).setCell ⟨g, o + 1, none⟩ (.int .i64 t.i)).setCell ⟨g, o + 2, none⟩ (.int .i64 t.j)).setCell ⟨g, o + 3, none⟩ (.int .i64 t.n)).setCell ⟨g, o + 4, none⟩ s

theorem put5_other (w : World) (g o : Nat) (t : Tm) (s : Value) {b : Nat} (h : b ≠ g) : (put5 w g o t s).heap[b]? = w.heap[b]? := by
  unfold put5; repeat rw [Below.heap_setCell _ _ _ _ (by exact h)]
theorem put5_rest (w : World) (g o : Nat) (t : Tm) (s : Value) : (put5 w g o t s).os = w.os ∧ (put5 w g o t s).tape = w.tape ∧ (put5 w g o t s).output = w.output := by simp [put5, World.setCell]
theorem put5_size (w : World) (g o : Nat) (t : Tm) (s : Value) : (put5 w g o t s).heap.size = w.heap.size := by simp [put5, World.setCell]
theorem put5_block {w : World} {g : Nat} {cs : Array Value} {T : TypeId} (o : Nat) (t : Tm) (s : Value) (h : w.heap[g]? = some (.cells cs T (0, 0))) :
    (put5 w g o t s).heap[g]? = some (.cells (((((cs.setIfInBounds o (.int .i64 t.k)).setIfInBounds (o + 1) (.int .i64 t.i)).setIfInBounds (o + 2) (.int .i64 t.j)).setIfInBounds (o + 3) (.int .i64 t.n)).setIfInBounds (o + 4) s) T (0, 0)) :=
  heap_setCell_same _ _ _ _ _ _ (heap_setCell_same _ _ _ _ _ _ (heap_setCell_same _ _ _ _ _ _ (heap_setCell_same _ _ _ _ _ _ (heap_setCell_same _ _ _ _ _ _ h))))
theorem put5_out (w : World) (g o : Nat) (t : Tm) (s : Value) {q : Nat} (h : q < o ∨ o + 5 ≤ q) : (put5 w g o t s).cell? ⟨g, q, none⟩ = w.cell? ⟨g, q, none⟩ := by
  unfold put5
  repeat rw [World.cell?_setCell_other _ _ _ _ (by intro e; have := congrArg Addr.off e; simp only at this; omega)]
theorem put5_node {w : World} {g o : Nat} {t0 : Tm} {s0 : Value} (t : Tm) (s : Value) (h : Node w g o t0 s0) : Node (put5 w g o t s) g o t s := by
  have ne : ∀ p q : Nat, p ≠ q → (⟨g, p, none⟩ : Addr) ≠ ⟨g, q, none⟩ := fun p q hpq e => hpq (congrArg Addr.off e)
  unfold put5
  refine ⟨?_, ?_, ?_, ?_, ?_⟩
  · rw [World.cell?_setCell_other _ _ _ _ (ne _ _ (by omega)), World.cell?_setCell_other _ _ _ _ (ne _ _ (by omega)), World.cell?_setCell_other _ _ _ _ (ne _ _ (by omega)), World.cell?_setCell_other _ _ _ _ (ne _ _ (by omega))]
    exact World.cell?_setCell_same _ _ _ h.c0
  · rw [World.cell?_setCell_other _ _ _ _ (ne _ _ (by omega)), World.cell?_setCell_other _ _ _ _ (ne _ _ (by omega)), World.cell?_setCell_other _ _ _ _ (ne _ _ (by omega))]
    refine World.cell?_setCell_same _ _ _ (u := .int .i64 t0.i) ?_
    rw [World.cell?_setCell_other _ _ _ _ (ne _ _ (by omega))]; exact h.c1
  · rw [World.cell?_setCell_other _ _ _ _ (ne _ _ (by omega)), World.cell?_setCell_other _ _ _ _ (ne _ _ (by omega))]
    refine World.cell?_setCell_same _ _ _ (u := .int .i64 t0.j) ?_
    rw [World.cell?_setCell_other _ _ _ _ (ne _ _ (by omega)), World.cell?_setCell_other _ _ _ _ (ne _ _ (by omega))]; exact h.c2
  · rw [World.cell?_setCell_other _ _ _ _ (ne _ _ (by omega))]
    refine World.cell?_setCell_same _ _ _ (u := .int .i64 t0.n) ?_
    rw [World.cell?_setCell_other _ _ _ _ (ne _ _ (by omega)), World.cell?_setCell_other _ _ _ _ (ne _ _ (by omega)), World.cell?_setCell_other _ _ _ _ (ne _ _ (by omega))]; exact h.c3
  · refine World.cell?_setCell_same _ _ _ (u := s0) ?_
    rw [World.cell?_setCell_other _ _ _ _ (ne _ _ (by omega)), World.cell?_setCell_other _ _ _ _ (ne _ _ (by omega)), World.cell?_setCell_other _ _ _ _ (ne _ _ (by omega)), World.cell?_setCell_other _ _ _ _ (ne _ _ (by omega))]; exact h.c4
/-- Another element's cells stay. -/
theorem put5_keep {w : World} {g o o' b : Nat} {t x : Tm} {s sx : Value} (h : Node w b o' x sx) (hne : b ≠ g ∨ o' + 5 ≤ o ∨ o + 5 ≤ o') : Node (put5 w g o t s) b o' x sx := by
  by_cases hb : b = g
  · subst hb
    have hne' : o' + 5 ≤ o ∨ o + 5 ≤ o' := hne.resolve_left (fun h => h rfl)
    exact ⟨(put5_out _ _ _ _ _ (by omega)).trans h.c0, (put5_out _ _ _ _ _ (by omega)).trans h.c1, (put5_out _ _ _ _ _ (by omega)).trans h.c2, (put5_out _ _ _ _ _ (by omega)).trans h.c3, (put5_out _ _ _ _ _ (by omega)).trans h.c4⟩
  · exact h.same (put5_other _ _ _ _ _ hb)

/-- A list that was made whole and is filled from the left: block g; xs: the terms as they stand there now. -/
structure Full (B : Nat) (w : World) (g : Nat) (xs : List (Tm × Value)) : Prop where
  above : B ≤ g
  open' : ∃ cs, w.heap[g]? = some (.cells cs 25 (0, 0))
  node : ∀ i (h : i < xs.length), Node w g (i * 5) (xs[i]).1 (xs[i]).2
  fine : ∀ p ∈ xs, p.1.fine
  kids : ∀ p ∈ xs, LiesP w (fun b => Own B w b ∧ b ≠ g) p.1.kids p.2

theorem Full.later {B g : Nat} {w w' : World} {xs : List (Tm × Value)} (h : Full B w g xs) (hb : Below w.heap.size w w') : Full B w' g xs := by
  have hg : g < w.heap.size := by obtain ⟨cs, h⟩ := h.open'; exact (Array.getElem?_eq_some_iff.1 h).1
  exact ⟨h.above, by rw [hb.block g hg]; exact h.open', fun i hi => (h.node i hi).below hb hg, h.fine, fun p hp => (h.kids p hp).keep (fun b _ hlt => hb.block b hlt) (fun _ hq _ => ⟨hq.1.later hb, hq.2⟩)⟩

/-- A new term is laid into it. -/
theorem Full.fill {B g k : Nat} {w : World} {xs : List (Tm × Value)} {t : Tm} {s : Value} (h : Full B w g xs) (hk : k < xs.length) (hf : t.fine) (hl : LiesP w (fun b => Own B w b ∧ b ≠ g) t.kids s) :
    Full B (put5 w g (k * 5) t s) g (xs.set k (t, s)) := by
  have keepL : ∀ l s', LiesP w (fun b => Own B w b ∧ b ≠ g) l s' → LiesP (put5 w g (k * 5) t s) (fun b => Own B (put5 w g (k * 5) t s) b ∧ b ≠ g) l s' := fun l s' h' =>
    h'.keep (fun b hb _ => put5_other _ _ _ _ _ hb.2) (fun b hb _ => ⟨hb.1.same (put5_other _ _ _ _ _ hb.2), hb.2⟩)
  refine ⟨h.above, ?_, fun i hi => ?_, fun p hp => ?_, fun p hp => ?_⟩
  · obtain ⟨cs, hcs⟩ := h.open'; exact ⟨_, put5_block _ _ _ hcs⟩
  · have hi' : i < xs.length := by simpa using hi
    by_cases e : k = i
    · subst e
      simp only [List.getElem_set_self]
      exact put5_node t s (h.node k hk)
    · rw [List.getElem_set_ne e]
      exact put5_keep (h.node i hi') (Or.inr (by omega))
  · rcases List.mem_or_eq_of_mem_set hp with hp | rfl
    · exact h.fine p hp
    · exact hf
  · rcases List.mem_or_eq_of_mem_set hp with hp | rfl
    · exact keepL _ _ (h.kids p hp)
    · exact keepL _ _ hl

/-- A term that a call has just made may be laid into it. -/
theorem Full.fresh {B g : Nat} {wr w2 : World} {xs : List (Tm × Value)} {l : List Tm} {s2 : Value} (h : Full B wr g xs) (hB : B ≤ wr.heap.size) (hk : LiesP w2 (Own wr.heap.size w2) l s2) : LiesP w2 (fun b => Own B w2 b ∧ b ≠ g) l s2 := by
  have hg : g < wr.heap.size := by obtain ⟨cs, h⟩ := h.open'; exact (Array.getElem?_eq_some_iff.1 h).1
  exact hk.keep (fun _ _ _ => rfl) (fun b hb _ => ⟨hb.from hB, by have := hb.1; omega⟩)

/-- The whole list as terms of the call's own memory. -/
theorem Full.lies {B g cap : Nat} {w : World} {xs : List (Tm × Value)} (h : Full B w g xs) (hc : xs.length ≤ cap) (hm : cap ≤ maxLen) : LiesP w (Own B w) (xs.map (·.1)) (.slice (some ⟨g, 0, none⟩) xs.length cap) := by
  have := LiesP.mk (w := w) (P := Own B w) (xs.map (·.1)) (some ⟨g, 0, none⟩) cap (fun i => (xs[i]?.map (·.2)).getD (.slice none 0 0)) (by simpa using hc) hm
    (fun x hx => by obtain ⟨p, hp, rfl⟩ := List.mem_map.1 hx; exact h.fine p hp)
    (fun i hi => by
      have hi' : i < xs.length := by simpa using hi
      refine ⟨g, rfl, ⟨h.above, h.open'⟩, ?_⟩
      simp only [List.getElem_map, List.getElem?_eq_getElem hi', Option.map_some, Option.getD_some]
      exact h.node i hi')
    (fun i hi => by
      have hi' : i < xs.length := by simpa using hi
      simp only [List.getElem_map, List.getElem?_eq_getElem hi', Option.map_some, Option.getD_some]
      exact (h.kids _ (List.getElem_mem hi')).keep (fun _ _ _ => rfl) (fun _ hb _ => hb.1))
  simpa using this

theorem liesP_nil (w : World) (P : Nat → Prop) : LiesP w P [] (.slice none 0 0) := .mk [] none 0 (fun _ => .nilIface) (Nat.le_refl _) (by decide) (fun _ h => by cases h) (fun _ h => by cases h) (fun _ h => by cases h)

/-- All blocks of which P speaks are open. -/
def Free (P : Nat → Prop) (w : World) : Prop := ∀ b, P b → ∃ cs, w.heap[b]? = some (.cells cs 25 (0, 0))

/-- Whatever lay there lies there still, no greater than it was; what P doesn't speak of is as it was. -/
def Shr (P : Nat → Prop) (w w' : World) : Prop := Free P w' ∧ w.heap.size ≤ w'.heap.size ∧ (w'.os = w.os ∧ w'.tape = w.tape ∧ w'.output = w.output) ∧ (∀ b, b < w.heap.size → ¬ P b → w'.heap[b]? = w.heap[b]?) ∧ ∀ l s, LiesP w P l s → ∃ l', l'.length = l.length ∧ sizes l' ≤ sizes l ∧ LiesP w' P l' s

theorem sizes_map_le {n : Nat} (f : Nat → Tm) : ∀ (l : List Tm), l.length = n → (∀ i (h : i < l.length), (f i).size ≤ (l[i]).size) → sizes ((List.range n).map f) ≤ sizes l := by
  intro l hl h
  subst hl
  induction l generalizing f with
  | nil => simp [sizes]
  | cons a r ih =>
    have h0 := h 0 (by simp)
    simp only [List.getElem_cons_zero] at h0
    have := ih (fun i => f (i + 1)) (fun i hi => by have := h (i + 1) (by simpa using hi); simpa using this)
    rw [List.length_cons, List.range_succ_eq_map, List.map_cons, List.map_map]
    simp only [sizes]
    have e : ((fun i => f (i + 1))) = f ∘ Nat.succ := rfl
    rw [e] at this
    omega

instance : Inhabited (Tm × Value) := ⟨(.mk 0 0 0 0 [], .nilIface)⟩

/-- An element is overwritten by a term without kids. -/
theorem LiesP.store {w : World} {P : Nat → Prop} {g j : Nat} {z : Tm} (hz : z.kids = []) (hzf : z.fine) {l : List Tm} {s : Value} (h : LiesP w P l s) :
    ∃ l', l'.length = l.length ∧ sizes l' ≤ sizes l ∧ LiesP (put5 w g (j * 5) z (.slice none 0 0)) P l' s := by
  induction h with
  | mk l a cap S hc hm hf hn hk ih =>
    have key : ∀ i, i < l.length → ∃ p : Tm × Value, p.1.fine ∧ (∀ h : i < l.length, p.1.size ≤ (l[i]).size) ∧ LiesP (put5 w g (j * 5) z (.slice none 0 0)) P p.1.kids p.2 ∧ ∃ b, a = some ⟨b, 0, none⟩ ∧ P b ∧ Node (put5 w g (j * 5) z (.slice none 0 0)) b (i * 5) p.1 p.2 := by
      intro i hi
      obtain ⟨b, ha, hp, hx⟩ := hn i hi
      by_cases e : b = g ∧ i = j
      · obtain ⟨rfl, rfl⟩ := e
        refine ⟨(z, .slice none 0 0), hzf, fun _ => ?_, by rw [hz]; exact liesP_nil _ _, b, ha, hp, put5_node _ _ hx⟩
        rw [Tm.size_eq, Tm.size_eq, hz]; simp [sizes]
      · obtain ⟨l', h1, h2, h3⟩ := ih i hi
        have hfi := hf _ (List.getElem_mem hi)
        refine ⟨(.mk (l[i]).k (l[i]).i (l[i]).j (l[i]).n l', S i), hfi, fun _ => ?_, h3, b, ha, hp, ?_⟩
        · rw [Tm.size_eq, Tm.size_eq]; show sizes l' + 1 ≤ _; omega
        · have : Node w b (i * 5) (.mk (l[i]).k (l[i]).i (l[i]).j (l[i]).n l') (S i) := ⟨hx.c0, hx.c1, hx.c2, hx.c3, hx.c4⟩
          exact put5_keep this (by by_cases hb : b = g
                                   · right; have : i ≠ j := fun e' => e ⟨hb, e'⟩; omega
                                   · exact Or.inl hb)
    obtain ⟨f, hf'⟩ := Go.Deep.choose_lt (α := Tm × Value) (p := fun i p => p.1.fine ∧ (∀ h : i < l.length, p.1.size ≤ (l[i]).size) ∧ LiesP (put5 w g (j * 5) z (.slice none 0 0)) P p.1.kids p.2 ∧ ∃ b, a = some ⟨b, 0, none⟩ ∧ P b ∧ Node (put5 w g (j * 5) z (.slice none 0 0)) b (i * 5) p.1 p.2) key
    have hl5 : ((List.range l.length).map fun i => (f i).1).length = l.length := by simp
    refine ⟨(List.range l.length).map fun i => (f i).1, hl5, sizes_map_le (fun i => (f i).1) l rfl (fun i hi => (hf' i hi).2.1 hi), ?_⟩
    have := LiesP.mk (w := put5 w g (j * 5) z (.slice none 0 0)) (P := P) ((List.range l.length).map fun i => (f i).1) a cap (fun i => (f i).2) (by simpa using hc) hm
      (fun x hx => by obtain ⟨i, hi, rfl⟩ := List.mem_map.1 hx; exact (hf' i (List.mem_range.1 hi)).1)
      (fun i hi => by obtain ⟨b, ha, hp, hn⟩ := (hf' i (by simpa using hi)).2.2.2; exact ⟨b, ha, hp, by simpa using hn⟩)
      (fun i hi => by simpa using (hf' i (by simpa using hi)).2.2.1)
    rwa [hl5] at this

theorem Shr.trans {P : Nat → Prop} {w w1 w2 : World} (h : Shr P w w1) (h' : Shr P w1 w2) : Shr P w w2 := by
  obtain ⟨a1, a2, a3, a4, a5⟩ := h
  obtain ⟨b1, b2, b3, b4, b5⟩ := h'
  refine ⟨b1, Nat.le_trans a2 b2, ⟨b3.1.trans a3.1, b3.2.1.trans a3.2.1, b3.2.2.trans a3.2.2⟩, fun b hb hp => (b4 b (by omega) hp).trans (a4 b hb hp), fun l s hl => ?_⟩
  obtain ⟨l1, e1, f1, g1⟩ := a5 l s hl
  obtain ⟨l2, e2, f2, g2⟩ := b5 l1 s g1
  exact ⟨l2, e2.trans e1, Nat.le_trans f2 f1, g2⟩

theorem Shr.put {P : Nat → Prop} {w : World} {g j : Nat} {z : Tm} (hz : z.kids = []) (hzf : z.fine) (hf : Free P w) (hg : P g) : Shr P w (put5 w g (j * 5) z (.slice none 0 0)) := by
  refine ⟨fun b hb => ?_, by rw [put5_size]; exact Nat.le_refl _, put5_rest _ _ _ _ _, fun b _ hp => put5_other _ _ _ _ _ (fun e => hp (e ▸ hg)), fun l s hl => hl.store hz hzf⟩
  by_cases e : b = g
  · subst e; obtain ⟨cs, hcs⟩ := hf b hb; exact ⟨_, put5_block _ _ _ hcs⟩
  · rw [put5_other _ _ _ _ _ e]; exact hf b hb

theorem Shr.alloc {P : Nat → Prop} {w : World} (o : Obj) (hP : ∀ b, P b → b < w.heap.size) (hf : Free P w) : Shr P w (w.alloc o) :=
  ⟨fun b hb => by rw [Below.heap_alloc _ _ _ (hP b hb)]; exact hf b hb, by simp, ⟨rfl, rfl, rfl⟩, fun b hb _ => Below.heap_alloc _ _ _ hb,
    fun l s hl => ⟨l, rfl, Nat.le_refl _, hl.keep (fun b _ hlt => Below.heap_alloc _ _ _ hlt) (fun _ hp _ => hp)⟩⟩

theorem Shr.below {P : Nat → Prop} {w w' : World} {B : Nat} (h : Shr P w w') (hP : ∀ b, P b → B ≤ b) (hB : B ≤ w.heap.size) : Below B w w' :=
  ⟨h.2.2.1.1, h.2.2.1.2.1, h.2.2.1.2.2, h.2.1, fun k hk => h.2.2.2.1 k (by omega) (fun hp => by have := hP k hp; omega)⟩
end Go.Proofs.YtgododpkbiaacaaGreat

namespace Go.Proofs.YtgododpkbiaacaaGreat
open Go.RowKit

theorem results_cell_tmp {P : Program} {fn : Func} {p q : Tmp} {ty : TypeId} (h : fn.results = #[.cell p ty, .tmp q]) (tmps : Array Value) (w : World) (g : Nat) (t : TypeId) (cs : Array Value) (fr : Nat × Nat) (d : TypeDesc)
    (hp : tmps.getD p undef = .pointer (some ⟨g, 0, none⟩)) (hg : w.heap[g]? = some (.cells cs t fr))
    (hu : P.underlying ty = some d) (hd : (match d with | .struct _ | .array _ _ => true | _ => false) = true) (hi : (P.info? ty).map (·.size) = some cs.size) :
    (results fn tmps).run P w = .ok (.tuple #[.agg cs, tmps.getD q undef]) w := by
  have hp' : tmps[p]?.getD undef = .pointer (some ⟨g, 0, none⟩) := by simpa using hp
  simp [results, h, hp', asAddr, run_loadVar_row w g t ty cs fr d hg hu hd hi]

/-- What a call hands back that makes a term, or says that there is none. -/
def Gives (r : Option Tm) (w : World) (e : Ending) (w' : World) : Prop := Below w.heap.size w w' ∧
  ((∃ u s', r = some u ∧ e = .returned (.tuple #[tv u s', .bool true]) ∧ LiesP w' (Own w.heap.size w') u.kids s') ∨ (∃ z : Tm, r = none ∧ z.kids = [] ∧ e = .returned (.tuple #[tv z (.slice none 0 0), .bool false])))

theorem liftc_some (v b c k r : Int) (bf bk : Nat) (w : World) (h : liftF k c v b = some r) (hv : 0 ≤ v) (hv2 : v ≤ 2147483647) (hb : 0 ≤ b) (hb2 : b ≤ 4000000) (hk : I64 k) (hk0 : 0 ≤ k)
    (hc : w.cell? ⟨bf, 0, none⟩ = some (.int .i64 c)) (hck : w.cell? ⟨bk, 0, none⟩ = some (.int .i64 k)) :
    Calls Tryz.prog 47 #[.int .i64 v, .int .i64 b, .pointer (some ⟨bf, 0, none⟩), .pointer (some ⟨bk, 0, none⟩)] w fun e w' => e = .returned (.tuple #[.int .i64 r, .bool true]) ∧ w = w' := by
  unfold liftF at h
  unfold I64 at hk
  obtain ⟨hk1, hk2⟩ := hk
  by_cases h1 : v - b < c
  · rw [if_pos h1] at h
    obtain rfl := Option.some.inj h
    have e1 : decide (v - b < c) = true := by simpa using h1
    clear h h1
    go_enter Tryz.func47, Tryz.ntmps47
    go_wp2
    go_ret2
    exact ⟨rfl, rfl⟩
  · rw [if_neg h1] at h
    by_cases h2 : k > 2147483647 - v
    · rw [if_pos h2] at h; cases h
    · rw [if_neg h2] at h
      obtain rfl := Option.some.inj h
      have e1 : decide (v - b < c) = false := by simpa using h1
      have e2 : decide (2147483647 - v < k) = false := by simpa using h2
      have h2' : k ≤ 2147483647 - v := by omega
      clear h h1 h2
      go_enter Tryz.func47, Tryz.ntmps47
      go_wp2
      go_ret2
      exact ⟨rfl, rfl⟩

theorem liftc_none (v b c k : Int) (bf bk : Nat) (w : World) (h : liftF k c v b = none) (hv : 0 ≤ v) (hv2 : v ≤ 2147483647) (hb : 0 ≤ b) (hb2 : b ≤ 4000000) (hk : I64 k) (_ : 0 ≤ k)
    (hc : w.cell? ⟨bf, 0, none⟩ = some (.int .i64 c)) (hck : w.cell? ⟨bk, 0, none⟩ = some (.int .i64 k)) :
    Calls Tryz.prog 47 #[.int .i64 v, .int .i64 b, .pointer (some ⟨bf, 0, none⟩), .pointer (some ⟨bk, 0, none⟩)] w fun e w' => e = .returned (.tuple #[.int .i64 0, .bool false]) ∧ w = w' := by
  unfold liftF at h
  unfold I64 at hk
  obtain ⟨hk1, hk2⟩ := hk
  by_cases h1 : v - b < c
  · rw [if_pos h1] at h; cases h
  · rw [if_neg h1] at h
    by_cases h2 : k > 2147483647 - v
    · have e1 : decide (v - b < c) = false := by simpa using h1
      have e2 : decide (2147483647 - v < k) = true := by simpa using h2
      clear h h1 h2
      go_enter Tryz.func47, Tryz.ntmps47
      go_wp2
      go_ret2
      exact ⟨rfl, rfl⟩
    · rw [if_neg h2] at h; cases h

theorem level_I64 {i : Int} (h : levelB i = true) : I64 i := by simp [levelB] at h; unfold I64; omega
theorem right_fine {t : Tm} (h : t.rightB = true) : t.fine := by
  have hn := t.right_node h
  have hk := Tm.node_kind hn
  have hl := node_length hn
  simp only [Tm.nodeB, Bool.and_eq_true] at hn
  replace hn := hn.2
  have i0 : I64 0 := by unfold I64; omega
  have gn : 0 ≤ givenN t.n → I64 t.n := fun h => by unfold givenN at h; unfold I64; (repeat' split at h) <;> omega
  refine ⟨by unfold I64; omega, ?_⟩
  unfold numbersN at hn
  split at hn
  · simp at hn; exact ⟨by unfold I64; omega, by rw [hn.2.2.1]; exact i0, by rw [hn.2.2.2]; exact i0⟩
  split at hn
  · simp at hn; exact ⟨level_I64 hn.1, by rw [hn.2.1]; exact i0, by rw [hn.2.2]; exact i0⟩
  split at hn
  · simp at hn; exact ⟨level_I64 hn.1, level_I64 hn.2.1, by rw [hn.2.2]; exact i0⟩
  split at hn
  · rename_i h23
    simp at hn
    rw [h23] at hl
    exact ⟨level_I64 hn.1, level_I64 hn.2, gn (by have : kidsN 23 t.n = givenN t.n := rfl; omega)⟩
  · simp at hn; exact ⟨by rw [hn.1]; exact i0, by rw [hn.2.1]; exact i0, by rw [hn.2.2]; exact i0⟩
theorem kidsN_le (k n : Int) : kidsN k n ≤ 12 := by
  have : givenN n ≤ 12 := by unfold givenN; (repeat' split) <;> omega
  unfold kidsN; (repeat' split) <;> omega
theorem right_len {t : Tm} (h : t.rightB = true) : t.kids.length ≤ 12 := by
  have := node_length (t.right_node h); have := kidsN_le t.k t.n; omega
end Go.Proofs.YtgododpkbiaacaaGreat

namespace Go.Proofs.YtgododpkbiaacaaGreat
open Go.RowKit

/-- What a call hands back that makes the term u: u by value, its kids in new memory. -/
def Makes (u : Tm) (w : World) (e : Ending) (w' : World) : Prop := ∃ s' : Value, e = .returned (tv u s') ∧ LiesP w' (Own w.heap.size w') u.kids s' ∧ Below w.heap.size w w'
/-- The same for a list. -/
def MakesAll (l : List Tm) (w : World) (e : Ending) (w' : World) : Prop := ∃ s' : Value, e = .returned s' ∧ LiesP w' (Own w.heap.size w') l s' ∧ Below w.heap.size w w'

theorem LiesP.out {w : World} {P : Nat → Prop} {l : List Tm} {s : Value} (h : LiesP w P l s) : ∃ (a : Option Addr) (cap : Nat), s = .slice a l.length cap ∧ l.length ≤ cap ∧ cap ≤ maxLen := by
  cases h with
  | mk l a cap S hc hm hf hn hk => exact ⟨a, cap, rfl, hc, hm⟩

/-- The term in its box, and a result in its own behind it. -/
def Boxes (w : World) (t : Tm) (s : Value) (w' : World) : Prop := Below (w.heap.size + 2) ((w.alloc (boxOf t s)).alloc (.cells #[.int .i64 0, .int .i64 0, .int .i64 0, .int .i64 0, .slice none 0 0] 25)) w'
theorem boxes_start (w : World) (t : Tm) (s : Value) : Boxes w t s ((w.alloc (.cells #[.int .i64 t.k, .int .i64 t.i, .int .i64 t.j, .int .i64 t.n, s] 25)).alloc (.cells #[.int .i64 0, .int .i64 0, .int .i64 0, .int .i64 0, .slice none 0 0] 25)) := Below.refl _ _
theorem boxes_held {w w' : World} {t : Tm} {s : Value} (h : Boxes w t s w') : Held w t s w' :=
  ((Below.refl (w.heap.size + 1) (w.alloc (boxOf t s))).alloc (by simp) _).trans (Below.mono h (by omega))
theorem boxes_cells {w w' : World} {t : Tm} {s : Value} (h : Boxes w t s w') : w'.cell? ⟨w.heap.size, 0, none⟩ = some (.int .i64 t.k) ∧ w'.cell? ⟨w.heap.size, 1, none⟩ = some (.int .i64 t.i) ∧ w'.cell? ⟨w.heap.size, 2, none⟩ = some (.int .i64 t.j) ∧ w'.cell? ⟨w.heap.size, 3, none⟩ = some (.int .i64 t.n) ∧ w'.cell? ⟨w.heap.size, 4, none⟩ = some s ∧
    w'.cell? ⟨w.heap.size + 1, 0, none⟩ = some (.int .i64 0) ∧ w'.cell? ⟨w.heap.size + 1, 1, none⟩ = some (.int .i64 0) ∧ w'.cell? ⟨w.heap.size + 1, 2, none⟩ = some (.int .i64 0) ∧ w'.cell? ⟨w.heap.size + 1, 3, none⟩ = some (.int .i64 0) ∧ w'.cell? ⟨w.heap.size + 1, 4, none⟩ = some (.slice none 0 0) ∧ w'.frozen? ⟨w.heap.size + 1, 0, none⟩ = false ∧ w'.frozen? ⟨w.heap.size + 1, 1, none⟩ = false ∧ w'.frozen? ⟨w.heap.size + 1, 2, none⟩ = false ∧ w'.frozen? ⟨w.heap.size + 1, 3, none⟩ = false ∧ w'.frozen? ⟨w.heap.size + 1, 4, none⟩ = false := by
  obtain ⟨h0, h1, h2, h3, h4⟩ := held_cells (boxes_held h)
  have hs : (w.alloc (boxOf t s)).heap.size = w.heap.size + 1 := by simp
  have := box_cells (w := w.alloc (boxOf t s)) (by rw [hs]; exact h)
  rw [hs] at this
  obtain ⟨y0, y1, y2, y3, y4⟩ := this
  have fr : ∀ q, w'.frozen? ⟨w.heap.size + 1, q, none⟩ = false := fun q => by
    rw [Below.frozen h (p := ⟨w.heap.size + 1, q, none⟩) (by simp)]
    unfold World.frozen?
    rw [show (⟨w.heap.size + 1, q, none⟩ : Addr).block = (w.alloc (boxOf t s)).heap.size by simp, alloc_new]
    rfl
  exact ⟨h0, h1, h2, h3, h4, y0, y1, y2, y3, y4, fr _, fr _, fr _, fr _, fr _⟩
theorem boxes_call {w w1 w2 : World} {t : Tm} {s : Value} (h : Boxes w t s w1) (hb : Below w1.heap.size w1 w2) : Boxes w t s w2 := below_call h hb (by have := Below.size h; simpa using this)
theorem held_set {w w1 : World} {t : Tm} {s : Value} (h : Held w t s w1) {p : Addr} (hp : w.heap.size + 1 ≤ p.block) (u : Value) : Held w t s (w1.setCell p u) := Below.setCell h hp u
theorem boxes_block {w w1 : World} {t : Tm} {s : Value} (h : Boxes w t s w1) : w1.heap[w.heap.size + 1]? = some (.cells #[.int .i64 0, .int .i64 0, .int .i64 0, .int .i64 0, .slice none 0 0] 25 (0, 0)) := by
  rw [Below.block h _ (by omega)]
  exact heap_alloc2_new _ _ _
theorem boxes_lies {w w1 : World} {t : Tm} {s s' : Value} {l : List Tm} (h : Boxes w t s w1) (hl : Lies w l s') : Lies w1 l s' := held_lies (boxes_held h) hl

theorem len_sizes : ∀ l : List Tm, l.length ≤ sizes l
  | [] => by simp
  | t :: r => by have := len_sizes r; have := t.size_eq; simp only [sizes, List.length_cons]; omega

theorem size_mem : ∀ (l : List Tm) (x : Tm), x ∈ l → x.size ≤ sizes l
  | t :: r, x, h => by
    simp only [sizes]
    rcases List.mem_cons.1 h with rfl | h
    · omega
    · have := size_mem r x h; omega

theorem under_term : ∃ d, Tryz.prog.underlying 25 = some d ∧ (match d with | .struct _ | .array _ _ => true | _ => false) = true := by
  have h : (Tryz.prog.underlying 25).map (fun d => match d with | .struct _ | .array _ _ => true | _ => false) = some true := by kernel_rfl
  cases e : Tryz.prog.underlying 25 with
  | none => rw [e] at h; cases h
  | some d => rw [e] at h; exact ⟨d, rfl, Option.some.inj h⟩

theorem size_term : (Tryz.prog.info? 25).map (·.size) = some 5 := by kernel_rfl

end Go.Proofs.YtgododpkbiaacaaGreat

namespace Go.Proofs.YtgododpkbiaacaaGreat
open Go.RowKit

theorem Shr.refl {P : Nat → Prop} {w : World} (h : Free P w) : Shr P w w := ⟨h, Nat.le_refl _, ⟨rfl, rfl, rfl⟩, fun _ _ _ => rfl, fun l _ hl => ⟨l, rfl, Nat.le_refl _, hl⟩⟩

theorem open_unfrozen {w : World} {b : Nat} {cs : Array Value} {T : TypeId} (h : w.heap[b]? = some (.cells cs T (0, 0))) (q : Nat) : w.frozen? ⟨b, q, none⟩ = false := by
  unfold World.frozen?
  rw [show (⟨b, q, none⟩ : Addr).block = b from rfl, h]; rfl

end Go.Proofs.YtgododpkbiaacaaGreat

namespace Go.Proofs.YtgododpkbiaacaaGreat
open Go.RowKit

theorem cell_lat {w wx : World} {a : Addr} {v : Value} (hb : Below w.heap.size w wx) (h : w.cell? a = some v) : wx.cell? a = some v := (hb.cell (World.block_lt_of_cell? _ _ h)).trans h
theorem boxes_under {w w' : World} {t : Tm} {s : Value} (h : Boxes w t s w') : Below w.heap.size w w' := held_below (boxes_held h)

abbrev zeroObj : Obj := .cells #[.int .i64 0, .int .i64 0, .int .i64 0, .int .i64 0, .slice none 0 0] 25

/-- The boxed term, the result, and the term that is built, v: the slice of its kids. -/
def Desk (w : World) (t u : Tm) (s v : Value) (w' : World) : Prop := Below (w.heap.size + 3) (((w.alloc (boxOf t s)).alloc zeroObj).alloc (boxOf u v)) w'

theorem heap_three (w : World) (a b c : Obj) : (((w.alloc a).alloc b).alloc c).heap[w.heap.size]? = some a ∧ (((w.alloc a).alloc b).alloc c).heap[w.heap.size + 1]? = some b ∧ (((w.alloc a).alloc b).alloc c).heap[w.heap.size + 2]? = some c ∧ ∀ k, k < w.heap.size → (((w.alloc a).alloc b).alloc c).heap[k]? = w.heap[k]? := by
  refine ⟨?_, ?_, ?_, fun k hk => ?_⟩
  · rw [Below.heap_alloc _ _ _ (by simp; omega), Below.heap_alloc _ _ _ (by simp), alloc_new]
  · rw [Below.heap_alloc _ _ _ (by simp)]
    have := alloc_new (w.alloc a) b
    simpa using this
  · have := alloc_new ((w.alloc a).alloc b) c
    simpa using this
  · rw [Below.heap_alloc _ _ _ (by simp; omega), Below.heap_alloc _ _ _ (by simp; omega), Below.heap_alloc _ _ _ hk]

theorem desk_blocks {w w' : World} {t u : Tm} {s v : Value} (h : Desk w t u s v w') : w'.heap[w.heap.size]? = some (boxOf t s) ∧ w'.heap[w.heap.size + 1]? = some zeroObj ∧ w'.heap[w.heap.size + 2]? = some (boxOf u v) := by
  obtain ⟨h0, h1, h2, -⟩ := heap_three w (boxOf t s) zeroObj (boxOf u v)
  exact ⟨by rw [Below.block h _ (by omega)]; exact h0, by rw [Below.block h _ (by omega)]; exact h1, by rw [Below.block h _ (by omega)]; exact h2⟩

theorem five_cells {w : World} {g : Nat} {v0 v1 v2 v3 v4 : Value} {T : TypeId} (h : w.heap[g]? = some (.cells #[v0, v1, v2, v3, v4] T (0, 0))) :
    w.cell? ⟨g, 0, none⟩ = some v0 ∧ w.cell? ⟨g, 1, none⟩ = some v1 ∧ w.cell? ⟨g, 2, none⟩ = some v2 ∧ w.cell? ⟨g, 3, none⟩ = some v3 ∧ w.cell? ⟨g, 4, none⟩ = some v4 := by
  refine ⟨?_, ?_, ?_, ?_, ?_⟩ <;> (rw [cell_of_row w g _ _ _ _ h]; rfl)
theorem five_free {w : World} {g : Nat} {cs : Array Value} {T : TypeId} (h : w.heap[g]? = some (.cells cs T (0, 0))) :
    w.frozen? ⟨g, 0, none⟩ = false ∧ w.frozen? ⟨g, 1, none⟩ = false ∧ w.frozen? ⟨g, 2, none⟩ = false ∧ w.frozen? ⟨g, 3, none⟩ = false ∧ w.frozen? ⟨g, 4, none⟩ = false :=
  ⟨open_unfrozen h _, open_unfrozen h _, open_unfrozen h _, open_unfrozen h _, open_unfrozen h _⟩

theorem desk_start (w : World) (t u : Tm) (s v : Value) : Desk w t u s v (((w.alloc (.cells #[.int .i64 t.k, .int .i64 t.i, .int .i64 t.j, .int .i64 t.n, s] 25)).alloc (.cells #[.int .i64 0, .int .i64 0, .int .i64 0, .int .i64 0, .slice none 0 0] 25)).alloc (.cells #[.int .i64 u.k, .int .i64 u.i, .int .i64 u.j, .int .i64 u.n, v] 25)) := Below.refl _ _
theorem desk_under {w w' : World} {t u : Tm} {s v : Value} (h : Desk w t u s v w') : Below w.heap.size w w' :=
  ((((Below.refl _ _).alloc (Nat.le_refl _) _).alloc (by simp) _).alloc (by simp; omega) _).trans (h.mono (by omega))
theorem desk_size {w w' : World} {t u : Tm} {s v : Value} (h : Desk w t u s v w') : w.heap.size + 3 ≤ w'.heap.size := by have := Below.size h; simpa using this
theorem desk_later {w w1 w2 : World} {t u : Tm} {s v : Value} (h : Desk w t u s v w1) (hb : Below w1.heap.size w1 w2) : Desk w t u s v w2 := below_call h hb (by have := desk_size h; omega)
theorem desk_trans {w w1 w2 : World} {t u : Tm} {s v : Value} (h : Desk w t u s v w1) (hb : Below (w.heap.size + 3) w1 w2) : Desk w t u s v w2 := Below.trans h hb

/-- The kids of the built term are laid into it. -/
theorem desk_set {w w1 : World} {t u : Tm} {s v v' : Value} (h : Desk w t u s v w1) : Desk w t u s v' (w1.setCell ⟨w.heap.size + 2, 4, none⟩ v') := by
  obtain ⟨h0, h1, h2, h3⟩ := heap_three w (boxOf t s) zeroObj (boxOf u v')
  obtain ⟨g0, g1, g2⟩ := desk_blocks h
  refine ⟨(Below.os h).trans rfl, (Below.tape h).trans rfl, (Below.output h).trans rfl, by have := desk_size h; simp [World.setCell]; omega, fun k hk => ?_⟩
  by_cases e2 : k = w.heap.size + 2
  · subst e2
    rw [h2, heap_setCell_same _ _ _ _ _ _ g2]; rfl
  · rw [Below.heap_setCell _ _ _ _ (by exact e2)]
    by_cases e1 : k = w.heap.size + 1
    · subst e1; rw [h1, g1]
    · by_cases e0 : k = w.heap.size
      · subst e0; rw [h0, g0]
      · rw [h3 k (by omega), (desk_under h).block k (by omega)]

theorem desk_put {w w1 : World} {t u : Tm} {s v : Value} (h : Desk w t u s v w1) {g : Nat} (hg : w.heap.size + 3 ≤ g) (o : Nat) (x : Tm) (sx : Value) : Desk w t u s v (put5 w1 g o x sx) :=
  Below.trans h ⟨(put5_rest _ _ _ _ _).1, (put5_rest _ _ _ _ _).2.1, (put5_rest _ _ _ _ _).2.2, by rw [put5_size]; exact Nat.le_refl _, fun k hk => put5_other _ _ _ _ _ (by omega)⟩

/-- A list that was just made whole: zero terms. -/
theorem cells5_zeros : ∀ n : Nat, (cells5 (List.replicate n (Tm.zero, Value.slice none 0 0))) = (madeCells #[.int .i64 0, .int .i64 0, .int .i64 0, .int .i64 0, .slice none 0 0] (n * 5)).toList := by
  intro n
  apply List.ext_getElem?
  intro j
  by_cases hj : j < n * 5
  · have h5 : j % 5 < 5 := Nat.mod_lt _ (by omega)
    have hd : j / 5 < n := by omega
    have e : j = j / 5 * 5 + j % 5 := by omega
    have h1 := cells5_get (List.replicate n (Tm.zero, Value.slice none 0 0)) (j / 5) (by simpa using hd) (j % 5) h5
    rw [← e] at h1
    rw [h1]
    simp only [List.getElem_replicate]
    have hz : (madeCells #[Value.int .i64 0, .int .i64 0, .int .i64 0, .int .i64 0, .slice none 0 0] (n * 5)).toList[j]? = some (#[Value.int .i64 0, .int .i64 0, .int .i64 0, .int .i64 0, .slice none 0 0][j % 5]!) := by simp [madeCells, hj]
    rw [hz]
    generalize j % 5 = q at h5
    match q, h5 with
    | 0, _ => rfl
    | 1, _ => rfl
    | 2, _ => rfl
    | 3, _ => rfl
    | 4, _ => rfl
  · rw [List.getElem?_eq_none (by rw [cells5_length]; simp; omega), List.getElem?_eq_none (by simp [madeCells]; omega)]

theorem zero_fine : Tm.zero.fine := by simp [Tm.zero, Tm.fine, I64, Tm.k, Tm.i, Tm.j, Tm.n]
theorem full_made {B : Nat} {w : World} {g n : Nat} (h : w.ownsRow B 25 5 (.slice (some ⟨g, 0, none⟩) n n) n (madeCells #[.int .i64 0, .int .i64 0, .int .i64 0, .int .i64 0, .slice none 0 0] (n * 5)).toList) :
    Full B w g (List.replicate n (Tm.zero, .slice none 0 0)) := by
  rw [← cells5_zeros] at h
  have hb : B ≤ g ∧ ∃ cs, w.heap[g]? = some (.cells cs 25 (0, 0)) := by
    obtain ⟨-, ⟨h1, -⟩ | ⟨g', cap, cur, h1, h2, h3, -⟩⟩ := h
    · cases h1
    · obtain rfl : g = g' := by simp only [Value.slice.injEq, Option.some.injEq, Addr.mk.injEq] at h1; exact h1.1.1
      exact ⟨h2, cur, h3⟩
  refine ⟨hb.1, hb.2, fun i hi => ?_, fun p hp => ?_, fun p hp => ?_⟩
  · have cellq : ∀ q, q < 5 → w.cell? ⟨g, i * 5 + q, none⟩ = [Value.int .i64 ((List.replicate n (Tm.zero, Value.slice none 0 0))[i]).1.k, .int .i64 ((List.replicate n (Tm.zero, Value.slice none 0 0))[i]).1.i, .int .i64 ((List.replicate n (Tm.zero, Value.slice none 0 0))[i]).1.j, .int .i64 ((List.replicate n (Tm.zero, Value.slice none 0 0))[i]).1.n, ((List.replicate n (Tm.zero, Value.slice none 0 0))[i]).2][q]? := fun q hq => by
      rw [h.cellAt (i * 5 + q) (by simp at hi; omega)]; exact cells5_get _ i hi q hq
    exact ⟨cellq 0 (by omega), cellq 1 (by omega), cellq 2 (by omega), cellq 3 (by omega), cellq 4 (by omega)⟩
  · rw [(List.mem_replicate.1 hp).2]; exact zero_fine
  · rw [(List.mem_replicate.1 hp).2]; exact liesP_nil _ _

theorem Full.below {B g b o : Nat} {w : World} {xs : List (Tm × Value)} (h : Full B w g xs) (hb : b < B) (v : Value) : Full B (w.setCell ⟨b, o, none⟩ v) g xs := by
  have hg := h.above
  have hk : ∀ b', B ≤ b' → (w.setCell ⟨b, o, none⟩ v).heap[b']? = w.heap[b']? := fun b' hb' => Below.heap_setCell _ _ _ _ (by show b' ≠ b; omega)
  exact ⟨hg, by rw [hk g hg]; exact h.open', fun i hi => (h.node i hi).same (hk g hg), h.fine, fun p hp => (h.kids p hp).keep (fun b' hb' _ => hk b' hb'.1.1) (fun b' hb' _ => ⟨hb'.1.same (hk b' hb'.1.1), hb'.2⟩)⟩

/-- The kid's box, and a cell that was there: what the round's region reads. -/
theorem held_and {w w' : World} {t : Tm} {s v : Value} {p : Addr} (h : Held w t s w') (hp : w.cell? p = some v) : Held w t s w' ∧ w'.cell? p = some v ∧ w'.cell? ⟨w.heap.size, 0, none⟩ = some (.int .i64 t.k) ∧ w'.cell? ⟨w.heap.size, 1, none⟩ = some (.int .i64 t.i) ∧ w'.cell? ⟨w.heap.size, 2, none⟩ = some (.int .i64 t.j) ∧ w'.cell? ⟨w.heap.size, 3, none⟩ = some (.int .i64 t.n) ∧ w'.cell? ⟨w.heap.size, 4, none⟩ = some s :=
  ⟨h, cell_lat (held_below h) hp, held_cells h⟩
theorem held_alloc {w w1 : World} {t : Tm} {s : Value} (h : Held w t s w1) (o : Obj) : Held w t s (w1.alloc o) := Below.alloc h (by have := Below.size h; simpa using this) o
theorem zero_blocks_new {wr wn : World} {A : Obj} (h : Below ((wr.alloc A).alloc zeroObj).drew.heap.size ((wr.alloc A).alloc zeroObj).drew wn) : wn.heap[wr.heap.size + 1]? = some zeroObj := by
  have hN : ((wr.alloc A).alloc zeroObj).heap[wr.heap.size + 1]? = some zeroObj := heap_alloc2_new wr A zeroObj
  have hb := h.block (wr.heap.size + 1) (by have := (Array.getElem?_eq_some_iff.1 hN).1; exact this)
  exact hb.trans hN
theorem below_from {B : Nat} {w w' : World} (h : Below w.heap.size w w') (hB : B ≤ w.heap.size) : Below B w w' := h.mono hB
theorem held_five {w w1 : World} {t : Tm} {s : Value} (h : Held w t s w1) (v0 v1 v2 v3 v4 : Value) : Held w t s (((((w1.setCell ⟨w.heap.size + 1, 0, none⟩ v0).setCell ⟨w.heap.size + 1, 1, none⟩ v1).setCell ⟨w.heap.size + 1, 2, none⟩ v2).setCell ⟨w.heap.size + 1, 3, none⟩ v3).setCell ⟨w.heap.size + 1, 4, none⟩ v4) :=
  held_set (held_set (held_set (held_set (held_set h (Nat.le_refl _) _) (Nat.le_refl _) _) (Nat.le_refl _) _) (Nat.le_refl _) _) (Nat.le_refl _) _
/-- What was made lies there still when an older block of the call's own is written. -/
theorem liesP_five {N : Nat} {w : World} {l : List Tm} {s : Value} (h : LiesP w (Own (N + 2) w) l s) (v0 v1 v2 v3 v4 : Value) :
    LiesP (((((w.setCell ⟨N + 1, 0, none⟩ v0).setCell ⟨N + 1, 1, none⟩ v1).setCell ⟨N + 1, 2, none⟩ v2).setCell ⟨N + 1, 3, none⟩ v3).setCell ⟨N + 1, 4, none⟩ v4) (Own N (((((w.setCell ⟨N + 1, 0, none⟩ v0).setCell ⟨N + 1, 1, none⟩ v1).setCell ⟨N + 1, 2, none⟩ v2).setCell ⟨N + 1, 3, none⟩ v3).setCell ⟨N + 1, 4, none⟩ v4)) l s := by
  have hb : ∀ b, N + 2 ≤ b → (((((w.setCell ⟨N + 1, 0, none⟩ v0).setCell ⟨N + 1, 1, none⟩ v1).setCell ⟨N + 1, 2, none⟩ v2).setCell ⟨N + 1, 3, none⟩ v3).setCell ⟨N + 1, 4, none⟩ v4).heap[b]? = w.heap[b]? := fun b hb => by
    have hne : b ≠ N + 1 := by omega
    repeat rw [Below.heap_setCell _ _ _ _ (by exact hne)]
  exact h.keep (fun b hp _ => hb b hp.1) (fun b hp _ => (hp.from (by omega)).same (hb b hp.1))
theorem take_set_next {α : Type} (l : List α) (q : Nat) (x : α) (h : q < l.length) : (l.set q x).take (q + 1) = l.take q ++ [x] := by
  rw [List.take_succ_eq_append_getElem (by simpa using h), List.getElem_set_self, List.take_set_of_le (Nat.le_refl _)]
/-- The list that was filled, behind the store of the result. -/
theorem five_lies {N n : Nat} {w : World} {l : List Tm} {m : Nat} (h : LiesP w (Own (N + 3) w) l (.slice (some ⟨N + 3, 0, none⟩) m n)) (hm : m = n) (v0 v1 v2 v3 v4 : Value) :
    LiesP (((((w.setCell ⟨N + 1, 0, none⟩ v0).setCell ⟨N + 1, 1, none⟩ v1).setCell ⟨N + 1, 2, none⟩ v2).setCell ⟨N + 1, 3, none⟩ v3).setCell ⟨N + 1, 4, none⟩ v4) (Own N (((((w.setCell ⟨N + 1, 0, none⟩ v0).setCell ⟨N + 1, 1, none⟩ v1).setCell ⟨N + 1, 2, none⟩ v2).setCell ⟨N + 1, 3, none⟩ v3).setCell ⟨N + 1, 4, none⟩ v4)) l (.slice (some ⟨N + 3, 0, none⟩) n n) := by
  subst hm
  exact liesP_five (h.from (by omega)) v0 v1 v2 v3 v4
theorem right_each (f : Int → Int → Option Int) (hf : ∀ v b w, 0 ≤ v → v ≤ 2147483647 → f v b = some w → 0 ≤ w ∧ w ≤ 2147483647) (t : Tm) (b : Int) (u : Tm) (hr : t.rightB = true) (h : t.each f b = some u) : u.rightB = true := by
  obtain ⟨h1, h2, -⟩ := each_keeps f hf t b u hr h
  unfold Tm.rightB at hr ⊢; rw [h1, h2]; exact hr
def GivesNone (w : World) (e : Ending) (w' : World) : Prop := (∃ z : Tm, e = .returned (.tuple #[tv z (.slice none 0 0), .bool false])) ∧ Below w.heap.size w w'
def GivesSome (u : Tm) (w : World) (e : Ending) (w' : World) : Prop := (∃ s', e = .returned (.tuple #[tv u s', .bool true]) ∧ LiesP w' (Own w.heap.size w') u.kids s') ∧ Below w.heap.size w w'
theorem Gives.none {w w' : World} {e : Ending} (h : Gives none w e w') : GivesNone w e w' := by
  obtain ⟨hb, ⟨u, s', h1, -⟩ | ⟨z, -, -, h2⟩⟩ := h
  · cases h1
  · exact ⟨⟨z, h2⟩, hb⟩
theorem Gives.some {u : Tm} {w w' : World} {e : Ending} (h : Gives (some u) w e w') : GivesSome u w e w' := by
  obtain ⟨hb, ⟨u', s', h1, h2, h3⟩ | ⟨z, h1, -⟩⟩ := h
  · cases h1; exact ⟨⟨s', h2, h3⟩, hb⟩
  · cases h1
end Go.Proofs.YtgododpkbiaacaaGreat

namespace Go.Proofs.YtgododpkbiaacaaGreat
open Go.RowKit

/-- Five cells of one block are written. -/
abbrev five (w : World) (g : Nat) (v0 v1 v2 v3 v4 : Value) : World := ((((w.setCell ⟨g, 0, none⟩ v0).setCell ⟨g, 1, none⟩ v1).setCell ⟨g, 2, none⟩ v2).setCell ⟨g, 3, none⟩ v3).setCell ⟨g, 4, none⟩ v4
theorem five_size (w : World) (g : Nat) (v0 v1 v2 v3 v4 : Value) : (five w g v0 v1 v2 v3 v4).heap.size = w.heap.size := by simp [five, World.setCell]
theorem five_other (w : World) (g : Nat) (v0 v1 v2 v3 v4 : Value) {b : Nat} (h : b ≠ g) : (five w g v0 v1 v2 v3 v4).heap[b]? = w.heap[b]? := by
  unfold five; repeat rw [Below.heap_setCell _ _ _ _ (by exact h)]
theorem five_alloc {w : World} {g : Nat} {T : TypeId} {z0 z1 z2 z3 z4 : Value} (h : w.heap[g]? = some (.cells #[z0, z1, z2, z3, z4] T (0, 0))) (v0 v1 v2 v3 v4 : Value) (X : Obj) : ((five w g v0 v1 v2 v3 v4).alloc X).heap[g]? = some (.cells #[v0, v1, v2, v3, v4] T (0, 0)) := by
  rw [Below.heap_alloc _ _ _ (by rw [five_size]; exact (Array.getElem?_eq_some_iff.1 h).1)]
  exact five_set h
theorem below_five {B : Nat} {w w1 : World} (h : Below B w w1) {g : Nat} (hg : B ≤ g) (v0 v1 v2 v3 v4 : Value) : Below B w (five w1 g v0 v1 v2 v3 v4) :=
  ((((h.setCell hg _).setCell hg _).setCell hg _).setCell hg _).setCell hg _
theorem below_five_alloc {B : Nat} {w w1 : World} (h : Below B w w1) (hB : B ≤ w1.heap.size) {g : Nat} (hg : B ≤ g) (v0 v1 v2 v3 v4 : Value) (X : Obj) : Below B w ((five w1 g v0 v1 v2 v3 v4).alloc X) :=
  (below_five h hg v0 v1 v2 v3 v4).alloc (by rw [five_size]; exact hB) X
theorem liesP_fives {B N g : Nat} {w : World} {l : List Tm} {s : Value} (h : LiesP w (Own B w) l s) (hg : g < B) (hN : N ≤ B) (v0 v1 v2 v3 v4 : Value) : LiesP (five w g v0 v1 v2 v3 v4) (Own N (five w g v0 v1 v2 v3 v4)) l s :=
  h.keep (fun b hp _ => five_other w g v0 v1 v2 v3 v4 (by have := hp.1; omega)) (fun b hp _ => (hp.from hN).same (five_other w g v0 v1 v2 v3 v4 (by have := hp.1; omega)))
theorem liesP_fives_alloc {B N g : Nat} {w : World} {l : List Tm} {s : Value} (h : LiesP w (Own B w) l s) (hg : g < B) (hN : N ≤ B) (v0 v1 v2 v3 v4 : Value) (X : Obj) : LiesP ((five w g v0 v1 v2 v3 v4).alloc X) (Own N ((five w g v0 v1 v2 v3 v4).alloc X)) l s :=
  (liesP_fives h hg hN v0 v1 v2 v3 v4).later ((Below.refl _ _).alloc (Nat.le_refl _) _)
theorem liesP_set {B N g o : Nat} {w : World} {l : List Tm} {s : Value} (h : LiesP w (Own B w) l s) (hg : g < B) (hN : N ≤ B) (v : Value) : LiesP (w.setCell ⟨g, o, none⟩ v) (Own N (w.setCell ⟨g, o, none⟩ v)) l s :=
  h.keep (fun b hp _ => Below.heap_setCell _ _ _ _ (by show b ≠ g; have := hp.1; omega)) (fun b hp _ => (hp.from hN).same (Below.heap_setCell _ _ _ _ (by show b ≠ g; have := hp.1; omega)))
theorem below_three (w : World) (a b c : Obj) : Below w.heap.size w (((w.alloc a).alloc b).alloc c) := (((Below.refl _ _).alloc (Nat.le_refl _) _).alloc (by simp) _).alloc (by simp <;> omega) _
/-- The cells of a term that lies in the second of two new blocks. -/
theorem news_new2 (w : World) (o : Obj) (t : Tm) (s : Value) (T : TypeId) : ∀ j u, (cells5 [(t, s)])[j]? = some u → ((w.alloc o).alloc (.cells #[.int .i64 t.k, .int .i64 t.i, .int .i64 t.j, .int .i64 t.n, s] T)).cell? ((⟨w.heap.size + 1, 0, none⟩ : Addr).add j) = some u := by
  have := news_new (w.alloc o) t s T
  simpa using this
/-- What a kid's call has made is appended; the maker's own blocks stay. -/
theorem push_after {w wr w2 w3 : World} {t t' : Tm} {s v vl : Value} {ps : List (Tm × Value)} {u : Tm} {s2 : Value} {g cap : Nat} (hd : Desk w t t' s vl wr) (h : Made (w.heap.size + 3) wr v ps) (hf : u.fine) (hb2 : Below wr.heap.size wr w2) (hk : LiesP w2 (Own wr.heap.size w2) u.kids s2) (o o' : Obj)
    (hown : w3.ownsRow (w.heap.size + 3) 25 5 (.slice (some ⟨g, 0, none⟩) (ps.length + 1) cap) (ps.length + 1) (cells5 ps ++ cells5 [(u, s2)])) (hgrow : ((w2.alloc o).alloc o').grownBy w3 v.ownBlock) (hat : v.ownBlock = some g ∨ g = w2.heap.size + 1 + 1) :
    Made (w.heap.size + 3) w3 (.slice (some ⟨g, 0, none⟩) (ps.length + 1) cap) (ps ++ [(u, s2)]) ∧ Desk w t t' s vl w3 := by
  have hb3 : Below wr.heap.size wr (w2.alloc o) := hb2.alloc hb2.size o
  have hk3 : LiesP (w2.alloc o) (Own wr.heap.size (w2.alloc o)) u.kids s2 := hk.later ((Below.refl _ _).alloc (Nat.le_refl _) _)
  exact ⟨made_push h hf (desk_size hd) hb3 hk3 o' hown hgrow (by simpa using hat), desk_trans hd (below_push h (Below.refl _ _) (desk_size hd) hb3 o' hgrow)⟩
/-- What a kid's call has made is appended at once. -/
theorem push_once {w wr w2 w3 : World} {t t' : Tm} {s v vl : Value} {ps : List (Tm × Value)} {u : Tm} {s2 : Value} {g cap : Nat} (hd : Desk w t t' s vl wr) (h : Made (w.heap.size + 3) wr v ps) (hf : u.fine) (hb2 : Below wr.heap.size wr w2) (hk : LiesP w2 (Own wr.heap.size w2) u.kids s2) (o : Obj)
    (hown : w3.ownsRow (w.heap.size + 3) 25 5 (.slice (some ⟨g, 0, none⟩) (ps.length + 1) cap) (ps.length + 1) (cells5 ps ++ cells5 [(u, s2)])) (hgrow : (w2.alloc o).grownBy w3 v.ownBlock) (hat : v.ownBlock = some g ∨ g = (w2.alloc o).heap.size) :
    Made (w.heap.size + 3) w3 (.slice (some ⟨g, 0, none⟩) (ps.length + 1) cap) (ps ++ [(u, s2)]) ∧ Desk w t t' s vl w3 :=
  ⟨made_push h hf (desk_size hd) hb2 hk o hown hgrow (by simpa using hat), desk_trans hd (below_push h (Below.refl _ _) (desk_size hd) hb2 o hgrow)⟩
theorem one5 (t : Tm) (s : Value) (hs : s.oneCell' = true := by rfl) : ∀ v ∈ cells5 [(t, s)], v.oneCell' = true := by
  intro v hv; simp [cells5] at hv; rcases hv with rfl | rfl | rfl | rfl | rfl
  · rfl
  · rfl
  · rfl
  · rfl
  · exact hs
/-- What a call hands back that makes a term, or the zero term and false. -/
def GivesZ (r : Option Tm) (w : World) (e : Ending) (w' : World) : Prop := Below w.heap.size w w' ∧
  ((∃ u s', r = some u ∧ e = .returned (.tuple #[tv u s', .bool true]) ∧ LiesP w' (Own w.heap.size w') u.kids s') ∨ (r = none ∧ e = .returned (.tuple #[tv Tm.zero (.slice none 0 0), .bool false])))
theorem GivesZ.none {w w' : World} {e : Ending} (h : GivesZ none w e w') : e = .returned (.tuple #[tv Tm.zero (.slice none 0 0), .bool false]) ∧ Below w.heap.size w w' := by
  obtain ⟨hb, ⟨u, s', h1, -⟩ | ⟨-, h2⟩⟩ := h
  · cases h1
  · exact ⟨h2, hb⟩
theorem GivesZ.some {u : Tm} {w w' : World} {e : Ending} (h : GivesZ (some u) w e w') : GivesSome u w e w' := by
  obtain ⟨hb, ⟨u', s', h1, h2, h3⟩ | ⟨h1, -⟩⟩ := h
  · cases h1; exact ⟨⟨s', h2, h3⟩, hb⟩
  · cases h1
theorem above3 (N : Nat) : N ≤ N + 3 := by omega
end Go.Proofs.YtgododpkbiaacaaGreat

namespace Go.Proofs.YtgododpkbiaacaaGreat
open Go.RowKit

/-- Ints that lie behind a slice. -/
structure LiesI (w : World) (l : List Int) (s : Value) : Prop where
  out : ∃ (a : Option Addr) (cap : Nat), s = .slice a l.length cap ∧ l.length ≤ cap ∧ cap ≤ maxLen ∧ ∀ i (h : i < l.length), ∃ b o, a = some ⟨b, o, none⟩ ∧ w.cell? ⟨b, o + i, none⟩ = some (.int .i64 l[i])
theorem LiesI.keep {w w' : World} {l : List Int} {s : Value} (h : LiesI w l s) (hb : Below w.heap.size w w') : LiesI w' l s := by
  obtain ⟨a, cap, hs, hc, hm, hn⟩ := h.out
  refine ⟨a, cap, hs, hc, hm, fun i hi => ?_⟩
  obtain ⟨b, o, ha, hx⟩ := hn i hi
  exact ⟨b, o, ha, (hb.cell (World.block_lt_of_cell? _ _ hx)).trans hx⟩

end Go.Proofs.YtgododpkbiaacaaGreat

namespace Go.Proofs.YtgododpkbiaacaaGreat
open Go.RowKit

/-- The maker's blocks: the boxed term, the result, the list (N + 2), the term that is built (M). -/
structure Desk2 (w : World) (M : Nat) (t u : Tm) (s v : Value) (w' : World) : Prop where
  under : Below w.heap.size w w'
  above : w.heap.size + 3 ≤ M
  box : w'.heap[w.heap.size]? = some (boxOf t s)
  res : w'.heap[w.heap.size + 1]? = some zeroObj
  made : w'.heap[M]? = some (boxOf u v)
theorem Desk2.size {w w' : World} {M : Nat} {t u : Tm} {s v : Value} (h : Desk2 w M t u s v w') : M < w'.heap.size := (Array.getElem?_eq_some_iff.1 h.made).1
theorem Desk2.later {w w1 w2 : World} {M : Nat} {t u : Tm} {s v : Value} (h : Desk2 w M t u s v w1) (hb : Below w1.heap.size w1 w2) : Desk2 w M t u s v w2 := by
  have hs := h.size
  have ha := h.above
  exact ⟨h.under.trans (hb.mono (by omega)), ha, by rw [hb.block _ (by omega)]; exact h.box, by rw [hb.block _ (by omega)]; exact h.res, by rw [hb.block _ (by omega)]; exact h.made⟩
theorem Desk2.set {w w1 : World} {M : Nat} {t u : Tm} {s v : Value} (h : Desk2 w M t u s v w1) (o : Nat) (x : Value) : Desk2 w M t u s v (w1.setCell ⟨w.heap.size + 2, o, none⟩ x) := by
  have ha := h.above
  exact ⟨h.under.setCell (by simp) _, ha, by rw [Below.heap_setCell _ _ _ _ (by show w.heap.size ≠ w.heap.size + 2; omega)]; exact h.box, by rw [Below.heap_setCell _ _ _ _ (by show w.heap.size + 1 ≠ w.heap.size + 2; omega)]; exact h.res, by rw [Below.heap_setCell _ _ _ _ (by show M ≠ w.heap.size + 2; omega)]; exact h.made⟩
theorem Desk2.drew {w w1 : World} {M : Nat} {t u : Tm} {s v : Value} (h : Desk2 w M t u s v w1) : Desk2 w M t u s v w1.drew := ⟨h.under.drew, h.above, h.box, h.res, h.made⟩
theorem desk2_and {w w' : World} {M : Nat} {t u x : Tm} {s v sx : Value} {b o : Nat} (h : Desk2 w M t u s v w') (hx : Node w b o x sx) : Desk2 w M t u s v w' ∧ w'.cell? ⟨w.heap.size, 4, none⟩ = some s ∧ w'.cell? ⟨M, 4, none⟩ = some v ∧
    w'.cell? ⟨b, o, none⟩ = some (.int .i64 x.k) ∧ w'.cell? ⟨b, o + 1, none⟩ = some (.int .i64 x.i) ∧ w'.cell? ⟨b, o + 2, none⟩ = some (.int .i64 x.j) ∧ w'.cell? ⟨b, o + 3, none⟩ = some (.int .i64 x.n) ∧ w'.cell? ⟨b, o + 4, none⟩ = some sx := by
  obtain ⟨-, -, -, -, d4⟩ := five_cells h.box
  obtain ⟨-, -, -, -, e4⟩ := five_cells h.made
  obtain ⟨c0, c1, c2, c3, c4⟩ := hx.below h.under hx.lt
  exact ⟨h, d4, e4, c0, c1, c2, c3, c4⟩
/-- The blocks as they stand when the list has been made. -/
theorem desk2_start {w w1 : World} {t : Tm} {K : Int} {s v : Value} (hb : Below (w.heap.size + 2) ((w.alloc (boxOf t s)).alloc zeroObj) w1) (hs : w.heap.size + 3 ≤ w1.heap.size) : Desk2 w w1.heap.size t (.mk K 0 0 0 []) s v (w1.alloc (.cells #[.int .i64 K, .int .i64 0, .int .i64 0, .int .i64 0, v] 25)) := by
  have h0 : ((w.alloc (boxOf t s)).alloc zeroObj).heap[w.heap.size]? = some (boxOf t s) := by rw [Below.heap_alloc _ _ _ (by simp), alloc_new]
  have h1 : ((w.alloc (boxOf t s)).alloc zeroObj).heap[w.heap.size + 1]? = some zeroObj := heap_alloc2_new _ _ _
  refine ⟨?_, hs, ?_, ?_, alloc_new _ _⟩
  · exact ((((Below.refl _ _).alloc (Nat.le_refl _) _).alloc (by simp) _).trans (hb.mono (by omega))).alloc (by omega) _
  · rw [Below.heap_alloc _ _ _ (by omega), hb.block _ (by omega)]; exact h0
  · rw [Below.heap_alloc _ _ _ (by omega), hb.block _ (by omega)]; exact h1

/-- What strip.plain is to make: the kids that are picked, stripped. -/
def picked (t : Tm) (pk : List Nat) : List Tm := pk.map fun p => ((t.kids[p]?).getD .zero).bare

set_option maxRecDepth 20000 in
set_option maxHeartbeats 2000000 in
theorem plain_of (t : Tm) (ih : ∀ x ∈ t.kids, ∀ (w : World) (s : Value), Lies w x.kids s → x.rightB = true → Calls Tryz.prog 45 #[tv x s] w (Makes x.bare w)) (hr : ∀ x ∈ t.kids, x.rightB = true)
    (K : Int) (pk : List Nat) (hpk : ∀ p ∈ pk, p < t.kids.length) (hp4 : pk.length ≤ 4) (w : World) (s st : Value) (hl : Lies w t.kids s) (hti : LiesI w (pk.map fun (p : Nat) => (p : Int)) st) :
    Calls Tryz.prog 67 #[.int .i64 K, tv t s, st] w (Makes (.mk K 0 0 0 (picked t pk)) w) := by
  obtain ⟨a, cap, S, rfl, hc, hm, -, hn, hkk⟩ := hl.out
  obtain ⟨ta, tcap, rfl, htc, htm, htn⟩ := hti.out
  rw [List.length_map] at htc
  replace htn : ∀ i (h : i < pk.length), ∃ b o, ta = some ⟨b, o, none⟩ ∧ w.cell? ⟨b, o + i, none⟩ = some (.int .i64 (pk[i] : Int)) := fun i h => by
    have := htn i (by rw [List.length_map]; exact h)
    simpa using this
  simp only [List.length_map]
  obtain ⟨du, hu1, hu2⟩ := under_term
  unfold maxLen at hm htm
  have IH := Lib.hid ih
  have HR := Lib.hid hr
  have HPK := Lib.hid hpk
  have HN := Lib.hid hn
  have HK := Lib.hid hkk
  have HTN := Lib.hid htn
  clear ih hr hpk hn hkk htn hl hti
  unfold tv
  obtain ⟨i0, hi, hz0, hz1, hz2⟩ := info_parts info_term
  have HI := Lib.hid (And.intro hi (And.intro hz0 (And.intro hz1 hz2)))
  clear hi hz0 hz1 hz2
  go_enter Tryz.func67, Tryz.ntmps67
  go_wp2_with (at_make; refine wpList_make_full _ rfl _ _ 23 rfl (w.heap.size + 2) 25 i0 _ 5 (by kernel_rfl) HI.out.1 HI.out.2.1 HI.out.2.2.1 _ _ _ _ pk.length rfl rfl rfl rfl ?bytes ?max ?base ?next)
  case bytes => rw [HI.out.2.2.2]; omega
  case max => unfold maxLen; omega
  case base => simp
  case next =>
  intro w1 hown hgrow
  have hful := full_made hown
  have hbel : Below (w.heap.size + 2) _ w1 := (Below.refl _ _).grown hgrow (by simp) (by simp)
  have hs1 : w.heap.size + 3 ≤ w1.heap.size := by
    obtain ⟨cs, hcs⟩ := hful.open'
    have := (Array.getElem?_eq_some_iff.1 hcs).1
    omega
  have hd0 := desk2_start (K := K) (v := .slice (some ⟨w.heap.size + 2, 0, none⟩) pk.length pk.length) hbel hs1
  have hf0 := hful.later ((Below.refl _ _).alloc (Nat.le_refl _) (.cells #[.int .i64 K, .int .i64 0, .int .i64 0, .int .i64 0, .slice (some ⟨w.heap.size + 2, 0, none⟩) pk.length pk.length] 25))
  clear hbel hgrow hown hful
  obtain ⟨M, hM⟩ : ∃ M, w1.heap.size = M := ⟨_, rfl⟩
  rw [hM] at hd0 hs1
  have HM := Lib.hid hM
  go_wp2_with fail
  clear hM
  go_loopw [17] (fun i wr => ∃ (q : Nat) (xs : List (Tm × Value)), q ≤ pk.length ∧ i = .int .i64 q ∧ Hid (xs.length = pk.length) ∧ Hid ((xs.map (·.1)).take q = (picked t pk).take q) ∧ Full (w.heap.size + 2) wr (w.heap.size + 2) xs ∧ Desk2 w M t (.mk K 0 0 0 []) (.slice a t.kids.length cap) (.slice (some ⟨w.heap.size + 2, 0, none⟩) pk.length pk.length) wr) (fun i _ => pk.length - (intOf i).toNat)
  case atStart => exact ⟨0, _, Nat.zero_le _, rfl, List.length_replicate, rfl, hf0, hd0⟩
  case round =>
    clear hf0 hd0
    obtain ⟨q, xs, hq0, rfl, hxl, hxs, hfu, hdk⟩ := hrel
    have HXL := Lib.hid hxl.out
    have HXS := Lib.hid hxs.out
    clear hxl hxs
    obtain ⟨d0, d1, d2, d3, d4⟩ := five_cells hdk.box
    obtain ⟨y0, y1, y2, y3, y4⟩ := five_cells hdk.made
    obtain ⟨z0, z1, z2, z3, z4⟩ := five_cells hdk.res
    obtain ⟨f0, f1, f2, f3, f4⟩ := five_free hdk.res
    have hsz := hdk.size
    by_cases hlt : q < pk.length
    · obtain ⟨p, hp⟩ : ∃ p, pk[q] = p := ⟨_, rfl⟩
      have hplt : p < t.kids.length := HPK.out p (by rw [← hp]; exact List.getElem_mem hlt)
      obtain ⟨b9, o9, rfl, hx9⟩ := HTN.out q hlt
      rw [hp] at hx9
      have hc9 := cell_lat hdk.under hx9
      obtain ⟨b', o, rfl, hx⟩ := HN.out p hplt
      have hq := HK.out p hplt
      obtain ⟨a', cap', S', hS, -⟩ := hq.out
      rw [hS] at hx hq
      have hkid : (t.kids[p]?).getD .zero = t.kids[p] := by rw [List.getElem?_eq_getElem hplt]; rfl
      have HMem := Lib.hid (List.getElem_mem hplt)
      have hrk := HR.out _ HMem.out
      have hfx := right_fine (plain_right (bare_plain _ hrk))
      have CALL := Lib.hid (IH.out _ HMem.out wr.drew _ (hq.keep (hdk.under.trans (Below.refl _ _).drew)) hrk)
      have hpick : (picked t pk).take (q + 1) = (picked t pk).take q ++ [(t.kids[p]).bare] := by
        rw [List.take_succ_eq_append_getElem (by unfold picked; rw [List.length_map]; exact hlt)]
        congr 2
        simp only [picked, List.getElem_map, hp, hkid]
      obtain ⟨x, hxb⟩ : ∃ x, (t.kids[p]).bare = x := ⟨_, rfl⟩
      rw [hxb] at CALL hfx hpick
      have hxq : q < xs.length := by rw [HXL.out]; exact hlt
      have HFX := Lib.hid hfx
      have HPICK := Lib.hid hpick
      have HFU := Lib.hid hfu
      have hnode := hx
      obtain ⟨c0, c1, c2, c3, c4⟩ := hx.below hdk.under hx.lt
      clear hS hq hx hfx hpick hxb hkid hrk hp hx9 hfu
      go_wp2_with fail
      go_region_held3 (fun w' => Desk2 w M t (.mk K 0 0 0 []) (.slice (some ⟨b', o, none⟩) t.kids.length cap) (.slice (some ⟨w.heap.size + 2, 0, none⟩) pk.length pk.length) w' ∧ w'.cell? ⟨w.heap.size, 4, none⟩ = some (.slice (some ⟨b', o, none⟩) t.kids.length cap) ∧ w'.cell? ⟨M, 4, none⟩ = some (.slice (some ⟨w.heap.size + 2, 0, none⟩) pk.length pk.length) ∧ w'.cell? ⟨b', o + p * 5, none⟩ = some (.int .i64 t.kids[p].k) ∧ w'.cell? ⟨b', o + p * 5 + 1, none⟩ = some (.int .i64 t.kids[p].i) ∧ w'.cell? ⟨b', o + p * 5 + 2, none⟩ = some (.int .i64 t.kids[p].j) ∧ w'.cell? ⟨b', o + p * 5 + 3, none⟩ = some (.int .i64 t.kids[p].n) ∧ w'.cell? ⟨b', o + p * 5 + 4, none⟩ = some (.slice a' t.kids[p].kids.length cap'))
        (((with_reducible refine desk2_and ?_ hnode); repeat (first | with_reducible assumption | with_reducible exact hdk | with_reducible refine Desk2.drew ?_ | with_reducible refine Desk2.set ?_ _ _)))
        (first | (go_at_call 45; ((with_reducible refine Calls.mono CALL.out ?_); rintro e wn ⟨s2, rfl, hl2, hbn⟩; obtain ⟨a2, cap2, rfl, -, -⟩ := hl2.out; have hd2 := Desk2.later (Desk2.drew hdk) hbn; have hfw := (HFU.out.later (Below.refl _ _).drew).later hbn; obtain ⟨x0, x1, x2, x3, x4⟩ := hfw.node q hxq; obtain ⟨cs, hcs⟩ := hfw.open'; have g0 := open_unfrozen hcs (q * 5); have g1 := open_unfrozen hcs (q * 5 + 1); have g2 := open_unfrozen hcs (q * 5 + 2); have g3 := open_unfrozen hcs (q * 5 + 3); have g4 := open_unfrozen hcs (q * 5 + 4); have HLF := Lib.hid (HFU.out.fresh (w2 := wn) (by have := hdk.above; omega) hl2); have HFW := Lib.hid hfw; have HD2 := Lib.hid hd2; clear hcs hfw hl2 hbn)))
      go_wp2_with fail
      go_roundw
      case rel => exact ⟨q + 1, xs.set q (x, .slice a2 x.kids.length cap2), hlt, by go_num, by simp [Hid, HXL.out], by rw [Hid, List.map_set, take_set_next _ _ _ (by simpa using hxq), HXS.out, HPICK.out], HFW.out.fill hxq HFX.out HLF.out, ((((HD2.out.set _ _).set _ _).set _ _).set _ _).set _ _⟩
      case measure => simp [intOf]; omega
    · have : q = pk.length := by omega
      subst this
      have hres : xs.map (·.1) = picked t pk := by
        have h1 := HXS.out
        rw [List.take_of_length_le (by rw [List.length_map, HXL.out]; exact Nat.le_refl _), List.take_of_length_le (by unfold picked; rw [List.length_map]; exact Nat.le_refl _)] at h1
        exact h1
      have hll := hfu.lies (cap := pk.length) (by rw [HXL.out]; exact Nat.le_refl _) (by unfold maxLen; omega)
      rw [hres, HXL.out] at hll
      have HLL := Lib.hid hll
      have HPL : Hid ((picked t pk).length = pk.length) := by simp [Hid, picked]
      have q1 := hdk.res
      clear hres hll hfu
      go_wp2
      (try simp only [Exit.inBlock, Exit.then])
      refine bodyPost_ret (results_cell_row rfl _ _ (w.heap.size + 1) _ _ _ du rfl (five_set q1) hu1 (by cases du <;> first | rfl | exact hu2) size_term) rfl ?_
      refine ⟨.slice (some ⟨w.heap.size + 2, 0, none⟩) pk.length pk.length, rfl, ?_, below_five hdk.under (by omega) _ _ _ _ _⟩
      exact liesP_fives HLL.out (by omega) (by omega) _ _ _ _ _
end Go.Proofs.YtgododpkbiaacaaGreat

namespace Go.Proofs.YtgododpkbiaacaaGreat
open Go.RowKit

def Tm.freeB (t : Tm) : Int := if t.rightB then t.freeN else 0

set_option maxHeartbeats 800000 in
theorem right_any (t : Tm) (w : World) (s : Value) (hl : Lies w t.kids s) : Calls Tryz.prog 44 #[tv t s] w fun e w' => e = .returned (.bool t.rightB) ∧ Below w.heap.size w w' := by
  obtain ⟨a, cap, S, hs, -⟩ := hl.out
  subst hs
  have HB := (Below.refl (w.heap.size + 1) (w.alloc (.cells #[.int .i64 t.k, .int .i64 t.i, .int .i64 t.j, .int .i64 t.n, .slice a t.kids.length cap] 25)))
  have HL := Lib.hid (hl.keep (below_of_box HB))
  have HBX := Lib.hid (fun (wr : World) => box_cells (w := w) (wr := wr) (v0 := .int .i64 t.k) (v1 := .int .i64 t.i) (v2 := .int .i64 t.j) (v3 := .int .i64 t.n) (v4 := .slice a t.kids.length cap) (T := 25))
  clear hl
  unfold tv
  go_enter Tryz.func44, Tryz.ntmps44
  go_wp2_with fail
  refine (sorts_any t _ _ HL.out).mono ?_
  rintro e w' ⟨he, hb'⟩
  have HB2 := below_call HB hb' (by simp)
  obtain ⟨d0, d1, d2, d3, d4⟩ := HBX.out _ HB2
  clear hb'
  obtain ⟨t1, t2, t3, t4, t5, t6, t7, t8⟩ := bits_table
  cases hm : t.markedB <;> cases hp : t.plainB
  all_goals
    simp [Tm.sortsN, hm, hp] at he
    subst he
    go_wp2
    go_ret
    exact ⟨ret_bool (by simp [Tm.rightB, hm, hp]), below_of_box HB2⟩

set_option maxHeartbeats 800000 in
theorem marked_any (t : Tm) (w : World) (s : Value) (hl : Lies w t.kids s) : Calls Tryz.prog 28 #[tv t s] w fun e w' => e = .returned (.bool t.markedB) ∧ Below w.heap.size w w' := by
  obtain ⟨a, cap, S, hs, -⟩ := hl.out
  subst hs
  have HB := (Below.refl (w.heap.size + 1) (w.alloc (.cells #[.int .i64 t.k, .int .i64 t.i, .int .i64 t.j, .int .i64 t.n, .slice a t.kids.length cap] 25)))
  have HL := Lib.hid (hl.keep (below_of_box HB))
  have HBX := Lib.hid (fun (wr : World) => box_cells (w := w) (wr := wr) (v0 := .int .i64 t.k) (v1 := .int .i64 t.i) (v2 := .int .i64 t.j) (v3 := .int .i64 t.n) (v4 := .slice a t.kids.length cap) (T := 25))
  clear hl
  unfold tv
  go_enter Tryz.func28, Tryz.ntmps28
  go_wp2_with fail
  refine (sorts_any t _ _ HL.out).mono ?_
  rintro e w' ⟨he, hb'⟩
  have HB2 := below_call HB hb' (by simp)
  obtain ⟨d0, d1, d2, d3, d4⟩ := HBX.out _ HB2
  clear hb'
  obtain ⟨t1, t2, t3, t4, t5, t6, t7, t8⟩ := bits_table
  cases hm : t.markedB <;> cases hp : t.plainB
  all_goals
    simp [Tm.sortsN, hm, hp] at he
    subst he
    go_wp2
    go_ret
    exact ⟨ret_bool (by simp [hm]), below_of_box HB2⟩

set_option maxHeartbeats 800000 in
theorem plain_any (t : Tm) (w : World) (s : Value) (hl : Lies w t.kids s) : Calls Tryz.prog 66 #[tv t s] w fun e w' => e = .returned (.bool t.plainB) ∧ Below w.heap.size w w' := by
  obtain ⟨a, cap, S, hs, -⟩ := hl.out
  subst hs
  have HB := (Below.refl (w.heap.size + 1) (w.alloc (.cells #[.int .i64 t.k, .int .i64 t.i, .int .i64 t.j, .int .i64 t.n, .slice a t.kids.length cap] 25)))
  have HL := Lib.hid (hl.keep (below_of_box HB))
  have HBX := Lib.hid (fun (wr : World) => box_cells (w := w) (wr := wr) (v0 := .int .i64 t.k) (v1 := .int .i64 t.i) (v2 := .int .i64 t.j) (v3 := .int .i64 t.n) (v4 := .slice a t.kids.length cap) (T := 25))
  clear hl
  unfold tv
  go_enter Tryz.func66, Tryz.ntmps66
  go_wp2_with fail
  refine (sorts_any t _ _ HL.out).mono ?_
  rintro e w' ⟨he, hb'⟩
  have HB2 := below_call HB hb' (by simp)
  obtain ⟨d0, d1, d2, d3, d4⟩ := HBX.out _ HB2
  clear hb'
  obtain ⟨t1, t2, t3, t4, t5, t6, t7, t8⟩ := bits_table
  cases hm : t.markedB <;> cases hp : t.plainB
  all_goals
    simp [Tm.sortsN, hm, hp] at he
    subst he
    go_wp2
    go_ret
    exact ⟨ret_bool (by simp [hp]), below_of_box HB2⟩

set_option maxHeartbeats 800000 in
theorem Free_any (t : Tm) (w : World) (s : Value) (hl : Lies w t.kids s) : Calls Tryz.prog 38 #[tv t s] w fun e w' => e = .returned (.int .i64 t.freeB) ∧ Below w.heap.size w w' := by
  obtain ⟨a, cap, S, hs, -⟩ := hl.out
  subst hs
  have HB := (Below.refl (w.heap.size + 1) (w.alloc (.cells #[.int .i64 t.k, .int .i64 t.i, .int .i64 t.j, .int .i64 t.n, .slice a t.kids.length cap] 25)))
  have HL := Lib.hid (hl.keep (below_of_box HB))
  have HBX := Lib.hid (fun (wr : World) => box_cells (w := w) (wr := wr) (v0 := .int .i64 t.k) (v1 := .int .i64 t.i) (v2 := .int .i64 t.j) (v3 := .int .i64 t.n) (v4 := .slice a t.kids.length cap) (T := 25))
  have hl0 := Lib.hid hl
  clear hl
  unfold tv
  go_enter Tryz.func38, Tryz.ntmps38
  go_wp2_with fail
  refine (right_any t _ _ HL.out).mono ?_
  rintro e w' ⟨rfl, hb'⟩
  have HB2 := below_call HB hb' (by simp)
  obtain ⟨d0, d1, d2, d3, d4⟩ := HBX.out _ HB2
  clear hb'
  have HL2 := Lib.hid (hl0.out.keep (below_of_box HB2))
  cases hr : t.rightB
  · go_wp2
    go_ret
    exact ⟨ret_int (by simp [Tm.freeB, hr]), below_of_box HB2⟩
  · go_wp2_with fail
    refine (free_any t _ _ HL2.out hr).mono ?_
    rintro e w2 ⟨rfl, hb'⟩
    have HB3 := below_call HB2 hb' (by have := HB2.size; simpa using this)
    clear hb'
    go_wp2
    go_ret
    exact ⟨ret_int (by simp [Tm.freeB, hr]), below_of_box HB3⟩

end Go.Proofs.YtgododpkbiaacaaGreat
