/-
  Facts and contracts that the proof of RuleLevels uses.
-/
import Derived.Test.YtjlppnmckobcfaaRows
import Derived.WalkKit
import Derived.Lib.Hide
import Derived.KernelRfl
import Derived.Deep.RegionWith
import Derived.Deep.RegionHeld3
import Derived.Deep.AppendLies
import Derived.Laws.Rows
import Derived.Laws.IdiomCopy
import Derived.Deep.Slices
import Derived.Deep.QuietTactic
import Derived.BigQuiet
import Derived.Lib.QuietBelow
import Derived.StillTailTactics
import Derived.IntWalk
import Derived.OwnWalk
import Derived.OrdersHeld
import Derived.Deep.DeepCutAuto
import Derived.Deep.RegionLaw
import Derived.Deep.LoopGhost
import Derived.Deep.MidRow
import Derived.Laws.Tables
import Derived.Laws.CopyOwn
import Derived.Laws.CopyRow
import Derived.Deep.RegionHeld
import Derived.ProofKit
import Derived.OpenShut
import Derived.Carry
import Derived.ChangeSlices
import Derived.JoinedOf
namespace Go.Proofs.Ytjlppnmckobcfaa
open Go.RowKit

def givenN (s : Int) : Int := if s = 3 ∨ s = 5 ∨ s = 6 ∨ s = 8 ∨ s = 10 ∨ s = 11 then 4 else if s = 1 ∨ s = 2 ∨ s = 7 ∨ s = 9 then 5 else if s = 4 ∨ s = 12 ∨ s = 13 ∨ s = 14 ∨ s = 21 then 6 else if s = 15 ∨ s = 18 ∨ s = 19 ∨ s = 20 then 9 else if s = 16 ∨ s = 17 then 12 else -1

def kidsN (k s : Int) : Int :=
  if k = 1 ∨ k = 2 then 0 else if k = 18 ∨ k = 19 then 1 else if k = 3 ∨ k = 6 ∨ k = 13 ∨ k = 14 ∨ k = 15 ∨ k = 16 ∨ k = 21 ∨ k = 11 then 2
  else if k = 4 ∨ k = 8 ∨ k = 9 ∨ k = 10 ∨ k = 20 then 3 else if k = 5 ∨ k = 7 ∨ k = 12 ∨ k = 17 then 4 else if k = 22 then 6 else if k = 23 then givenN s else -1

def bindsN (k i : Int) : Int :=
  if k = 3 ∨ k = 5 ∨ k = 6 ∨ k = 7 ∨ k = 8 ∨ k = 9 ∨ k = 13 ∨ k = 14 ∨ k = 16 ∨ k = 17 then (if i = 1 then 1 else 0)
  else if k = 4 then (if i = 1 ∨ i = 2 then 1 else 0) else if k = 22 then (if i = 2 then 2 else 0) else 0

theorem ret_int {a b : Int} (h : a = b) : Ending.returned (.int .i64 a) = .returned (.int .i64 b) := by rw [h]
theorem ret_bool {a b : Bool} (h : a = b) : Ending.returned (.bool a) = .returned (.bool b) := by rw [h]

set_option maxHeartbeats 1000000 in
theorem given_any (s : Int) (w : World) : Calls Try.prog 100 #[.int .i64 s] w fun e w' => e = .returned (.int .i64 (givenN s)) ∧ w = w' := by
  go_enter Try.func100, Try.ntmps100
  go_wp2
  all_goals go_ret
  all_goals exact ⟨ret_int (by simp only [beq_iff_eq, beq_eq_false_iff_ne, ne_eq] at *; unfold givenN; (repeat' split) <;> omega), rfl⟩

set_option maxHeartbeats 1000000 in
theorem kids_any (k s : Int) (w : World) : Calls Try.prog 97 #[.int .i64 k, .int .i64 s] w fun e w' => e = .returned (.int .i64 (kidsN k s)) ∧ w = w' := by
  go_enter Try.func97, Try.ntmps97
  go_wp2_with (go_at_call 100; refine (given_any _ _).mono ?_; rintro e w' ⟨rfl, rfl⟩)
  all_goals go_ret
  all_goals exact ⟨ret_int (by simp only [beq_iff_eq, beq_eq_false_iff_ne, ne_eq] at *; unfold kidsN; (repeat' split) <;> omega), rfl⟩

set_option maxHeartbeats 1000000 in
theorem binds_any (k i : Int) (w : World) : Calls Try.prog 94 #[.int .i64 k, .int .i64 i] w fun e w' => e = .returned (.int .i64 (bindsN k i)) ∧ w = w' := by
  go_enter Try.func94, Try.ntmps94
  go_wp2
  all_goals go_ret
  all_goals exact ⟨ret_int (by simp only [beq_iff_eq, beq_eq_false_iff_ne, ne_eq] at *; unfold bindsN; (repeat' split) <;> omega), rfl⟩

def levelB (i : Int) : Bool := decide (0 ≤ i) && decide (i ≤ 1000)
set_option maxHeartbeats 1000000 in
theorem level_any (i : Int) (w : World) : Calls Try.prog 101 #[.int .i64 i] w fun e w' => e = .returned (.bool (levelB i)) ∧ w = w' := by
  go_enter Try.func101, Try.ntmps101
  go_wp2
  all_goals go_ret
  all_goals exact ⟨ret_bool (by unfold levelB; first | (simp_all; done) | (simp_all; omega)), rfl⟩
end Go.Proofs.Ytjlppnmckobcfaa

namespace Go.Proofs.Ytjlppnmckobcfaa
open Go.RowKit

/-- A term: its kind, its three numbers, its kids. -/
inductive Tm where
  | mk (k i j n : Int) (l : List Tm)

namespace Tm
def k : Tm → Int | .mk k _ _ _ _ => k
def i : Tm → Int | .mk _ i _ _ _ => i
def j : Tm → Int | .mk _ _ j _ _ => j
def n : Tm → Int | .mk _ _ _ n _ => n
def kids : Tm → List Tm | .mk _ _ _ _ l => l
theorem ind {P : Tm → Prop} (h : ∀ t, (∀ x ∈ t.kids, P x) → P t) : ∀ t, P t
  | .mk k i j n l => h (.mk k i j n l) (fun x (_ : x ∈ l) => ind h x)
end Tm

def I64 (x : Int) : Prop := -9223372036854775808 ≤ x ∧ x ≤ 9223372036854775807
def Tm.fine (t : Tm) : Prop := I64 t.k ∧ I64 t.i ∧ I64 t.j ∧ I64 t.n

/-- A term by value: s is the slice of its kids. -/
abbrev tv (t : Tm) (s : Value) : Value := .agg #[.int .i64 t.k, .int .i64 t.i, .int .i64 t.j, .int .i64 t.n, s]

/-- The five cells of a term at a place. -/
structure Node (w : World) (b o : Nat) (t : Tm) (s : Value) : Prop where
  c0 : w.cell? ⟨b, o, none⟩ = some (.int .i64 t.k)
  c1 : w.cell? ⟨b, o + 1, none⟩ = some (.int .i64 t.i)
  c2 : w.cell? ⟨b, o + 2, none⟩ = some (.int .i64 t.j)
  c3 : w.cell? ⟨b, o + 3, none⟩ = some (.int .i64 t.n)
  c4 : w.cell? ⟨b, o + 4, none⟩ = some s

/-- Terms that lie behind a slice. -/
inductive Lies (w : World) : List Tm → Value → Prop
  | mk (l : List Tm) (a : Option Addr) (cap : Nat) (S : Nat → Value) (hc : l.length ≤ cap) (hm : cap ≤ maxLen) (hf : ∀ x ∈ l, x.fine)
      (hn : ∀ i (h : i < l.length), ∃ b o, a = some ⟨b, o, none⟩ ∧ Node w b (o + i * 5) l[i] (S i)) (hk : ∀ i (h : i < l.length), Lies w (l[i]).kids (S i)) : Lies w l (.slice a l.length cap)

theorem Lies.out {w : World} {l : List Tm} {s : Value} (h : Lies w l s) : ∃ (a : Option Addr) (cap : Nat) (S : Nat → Value), s = .slice a l.length cap ∧ l.length ≤ cap ∧ cap ≤ maxLen ∧ (∀ x ∈ l, x.fine) ∧
    (∀ i (h : i < l.length), ∃ b o, a = some ⟨b, o, none⟩ ∧ Node w b (o + i * 5) l[i] (S i)) ∧ (∀ i (h : i < l.length), Lies w (l[i]).kids (S i)) := by
  cases h with
  | mk l a cap S hc hm hf hn hk => exact ⟨a, cap, S, rfl, hc, hm, hf, hn, hk⟩

theorem Node.lt {w : World} {b o : Nat} {t : Tm} {s : Value} (h : Node w b o t s) : b < w.heap.size := World.block_lt_of_cell? _ _ h.c0

theorem Node.below {w w' : World} {b o B : Nat} {t : Tm} {s : Value} (h : Node w b o t s) (hb : Below B w w') (hB : b < B) : Node w' b o t s :=
  ⟨(hb.cell (by exact hB)).trans h.c0, (hb.cell (by exact hB)).trans h.c1, (hb.cell (by exact hB)).trans h.c2, (hb.cell (by exact hB)).trans h.c3, (hb.cell (by exact hB)).trans h.c4⟩

/-- What lies in a world lies in every later one. -/
theorem Lies.keep {w w' : World} {l : List Tm} {s : Value} (h : Lies w l s) (hb : Below w.heap.size w w') : Lies w' l s := by
  induction h with
  | mk l a cap S hc hm hf hn hk ih =>
    exact .mk l a cap S hc hm hf (fun i hi => by obtain ⟨b, o, ha, hx⟩ := hn i hi; exact ⟨b, o, ha, hx.below hb hx.lt⟩) ih

end Go.Proofs.Ytjlppnmckobcfaa

namespace Go.Proofs.Ytjlppnmckobcfaa
open Go.RowKit

def numbersN (k i j n : Int) : Bool :=
  if k = 2 then decide (0 ≤ i) && (decide (i ≤ 2147483647) && ((j == 0) && (n == 0)))
  else if k = 1 ∨ k = 10 ∨ k = 11 ∨ k = 12 then levelB i && ((j == 0) && (n == 0))
  else if k = 3 ∨ k = 4 ∨ k = 5 ∨ k = 6 ∨ k = 7 ∨ k = 8 ∨ k = 9 then levelB i && (levelB j && (n == 0))
  else if k = 23 then levelB i && levelB j else (i == 0) && ((j == 0) && (n == 0))

set_option maxHeartbeats 2000000 in
theorem numbers_any (t : Tm) (s : Value) (w : World) : Calls Try.prog 98 #[tv t s] w fun e w' => e = .returned (.bool (numbersN t.k t.i t.j t.n)) ∧ Below w.heap.size w w' := by
  unfold tv
  generalize t.k = k, t.i = i, t.j = j, t.n = n
  go_enter Try.func98, Try.ntmps98
  go_wp2_with (go_at_call 101; refine (level_any _ _).mono ?_; rintro e w' ⟨rfl, rfl⟩)
  all_goals go_ret
  all_goals exact ⟨ret_bool (by simp only [beq_iff_eq, beq_eq_false_iff_ne, ne_eq] at *; unfold numbersN; (simp [*] <;> omega)), (Below.refl _ _).alloc (Nat.le_refl _) _⟩

end Go.Proofs.Ytjlppnmckobcfaa

namespace Go.Proofs.Ytjlppnmckobcfaa
open Go.RowKit

mutual
def Tm.plainB : Tm → Bool
  | .mk k i j n l => (k == 1 || (k == 2 || (decide (13 ≤ k) && decide (k ≤ 23)))) && (((l.length : Int) == kidsN k n) && (numbersN k i j n && plains l))
def plains : List Tm → Bool
  | [] => true
  | t :: r => t.plainB && plains r
end

mutual
def Tm.markedB : Tm → Bool
  | .mk k i j n l => (decide (1 ≤ k) && decide (k ≤ 12)) && (((l.length : Int) == kidsN k n) && (numbersN k i j n && markeds (k == 12) 0 l))
def markeds : Bool → Nat → List Tm → Bool
  | _, _, [] => true
  | tr, p, t :: r => (if tr && p == 2 then t.plainB else t.markedB) && markeds tr (p + 1) r
end

/-- A node has as many kids, and the numbers, that its kind says. -/
def Tm.nodeB (t : Tm) : Bool := ((t.kids.length : Int) == kidsN t.k t.n) && numbersN t.k t.i t.j t.n

theorem Tm.plainB_eq (t : Tm) : t.plainB = ((t.k == 1 || (t.k == 2 || (decide (13 ≤ t.k) && decide (t.k ≤ 23)))) && (t.nodeB && plains t.kids)) := by
  cases t; simp only [Tm.plainB, Tm.nodeB, Tm.k, Tm.i, Tm.j, Tm.n, Tm.kids, Bool.and_assoc]; rfl
theorem Tm.markedB_eq (t : Tm) : t.markedB = ((decide (1 ≤ t.k) && decide (t.k ≤ 12)) && (t.nodeB && markeds (t.k == 12) 0 t.kids)) := by
  cases t; simp only [Tm.markedB, Tm.nodeB, Tm.k, Tm.i, Tm.j, Tm.n, Tm.kids, Bool.and_assoc]; rfl

theorem plains_take (l : List Tm) (k : Nat) (h : k < l.length) : plains (l.take (k + 1)) = (plains (l.take k) && (l[k]).plainB) := by
  induction l generalizing k with
  | nil => simp at h
  | cons a r ih =>
    cases k with
    | zero => simp [plains]
    | succ k => simp only [List.take_succ_cons, plains, List.getElem_cons_succ]; rw [ih k (by simpa using h), Bool.and_assoc]

theorem plains_of (l : List Tm) (k : Nat) (h : k < l.length) (hp : (l[k]).plainB = false) : plains l = false := by
  induction l generalizing k with
  | nil => simp at h
  | cons a r ih =>
    cases k with
    | zero => simp only [List.getElem_cons_zero] at hp; simp [plains, hp]
    | succ k => simp only [List.getElem_cons_succ] at hp; simp [plains, ih k (by simpa using h) hp]

/-- What is asked of the kid number k of a marked term. -/
def Tm.kidB (t : Tm) (tr : Bool) (k : Nat) : Bool := if tr && k == 2 then t.plainB else t.markedB

theorem markeds_take (tr : Bool) (l : List Tm) (p k : Nat) (h : k < l.length) : markeds tr p (l.take (k + 1)) = (markeds tr p (l.take k) && (l[k]).kidB tr (p + k)) := by
  induction l generalizing p k with
  | nil => simp at h
  | cons a r ih =>
    cases k with
    | zero => simp [markeds, Tm.kidB]
    | succ k =>
      simp only [List.take_succ_cons, markeds, List.getElem_cons_succ]
      rw [ih (p + 1) k (by simpa using h), Bool.and_assoc, show p + 1 + k = p + (k + 1) by omega]

theorem markeds_of (tr : Bool) (l : List Tm) (p k : Nat) (h : k < l.length) (hp : (l[k]).kidB tr (p + k) = false) : markeds tr p l = false := by
  induction l generalizing p k with
  | nil => simp at h
  | cons a r ih =>
    cases k with
    | zero => simp only [List.getElem_cons_zero, Nat.add_zero, Tm.kidB] at hp; simp only [markeds, hp, Bool.false_and]
    | succ k =>
      simp only [List.getElem_cons_succ] at hp
      simp only [markeds]
      rw [ih (p + 1) k (by simpa using h) (by rw [show p + 1 + k = p + (k + 1) by omega]; exact hp), Bool.and_false]

theorem kidsN_nonneg {k n : Int} (h : 0 ≤ kidsN k n) : 1 ≤ k ∧ k ≤ 23 := by
  unfold kidsN at h; (repeat' split at h) <;> omega
theorem kidsN_two {k n : Int} (h1 : 1 ≤ k) (h2 : k ≤ 2) : kidsN k n = 0 := by
  unfold kidsN; rw [if_pos (by omega)]

theorem Tm.node_kind {t : Tm} (h : t.nodeB = true) : 1 ≤ t.k ∧ t.k ≤ 23 := by
  simp only [Tm.nodeB, Bool.and_eq_true, beq_iff_eq] at h
  exact kidsN_nonneg (n := t.n) (by omega)

/-- Its sorts: 1 for marked, 2 for plain, 3 for both. -/
def Tm.sortsN (t : Tm) : Int := (if t.markedB then 1 else 0) + (if t.plainB then 2 else 0)

theorem sorts_bad {t : Tm} (h : t.nodeB = false) : t.sortsN = 0 := by
  simp [Tm.sortsN, Tm.plainB_eq, Tm.markedB_eq, h]
theorem sorts_two {t : Tm} (h : t.nodeB = true) (h2 : t.k ≤ 2) : t.sortsN = 3 ∧ t.kids = [] := by
  have hk := (Tm.node_kind h).1
  have hl : t.kids = [] := by
    simp only [Tm.nodeB, Bool.and_eq_true, beq_iff_eq] at h
    rw [kidsN_two hk h2] at h
    exact List.eq_nil_of_length_eq_zero (by omega)
  have h3 : (t.k == 1 || (t.k == 2 || (decide (13 ≤ t.k) && decide (t.k ≤ 23)))) = true := by
    have : t.k = 1 ∨ t.k = 2 := by omega
    rcases this with e | e <;> simp [e]
  have h4 : (decide (1 ≤ t.k) && decide (t.k ≤ 12)) = true := by simp; omega
  refine ⟨?_, hl⟩
  simp [Tm.sortsN, Tm.plainB_eq, Tm.markedB_eq, h, h3, h4, hl, plains, markeds]
theorem sorts_marked {t : Tm} (h : t.nodeB = true) (h2 : 2 < t.k) (h3 : t.k ≤ 12) : t.sortsN = if markeds (t.k == 12) 0 t.kids then 1 else 0 := by
  have h4 : (decide (1 ≤ t.k) && decide (t.k ≤ 12)) = true := by simp; omega
  have h5 : (t.k == 1 || (t.k == 2 || (decide (13 ≤ t.k) && decide (t.k ≤ 23)))) = false := by
    simp; omega
  simp [Tm.sortsN, Tm.plainB_eq, Tm.markedB_eq, h, h4, h5]
theorem sorts_plain {t : Tm} (h : t.nodeB = true) (h2 : 12 < t.k) : t.sortsN = if plains t.kids then 2 else 0 := by
  have hk := (Tm.node_kind h).2
  have h4 : (decide (1 ≤ t.k) && decide (t.k ≤ 12)) = false := by simp; omega
  have h5 : (t.k == 1 || (t.k == 2 || (decide (13 ≤ t.k) && decide (t.k ≤ 23)))) = true := by
    simp; omega
  simp [Tm.sortsN, Tm.plainB_eq, Tm.markedB_eq, h, h4, h5]
end Go.Proofs.Ytjlppnmckobcfaa

namespace Go.Proofs.Ytjlppnmckobcfaa
open Go.RowKit

mutual
def Tm.size : Tm → Nat
  | .mk _ _ _ _ l => sizes l + 1
def sizes : List Tm → Nat
  | [] => 0
  | t :: r => t.size + sizes r
end

theorem sizes_take (l : List Tm) (k : Nat) (h : k < l.length) : sizes (l.take (k + 1)) = sizes (l.take k) + (l[k]).size := by
  induction l generalizing k with
  | nil => simp at h
  | cons a r ih =>
    cases k with
    | zero => simp [sizes]
    | succ k => simp only [List.take_succ_cons, sizes, List.getElem_cons_succ]; rw [ih k (by simpa using h)]; omega

theorem Tm.size_eq (t : Tm) : t.size = sizes t.kids + 1 := by cases t; rfl

end Go.Proofs.Ytjlppnmckobcfaa

namespace Go.Proofs.Ytjlppnmckobcfaa
open Go.RowKit

mutual
def Tm.deep : Tm → Nat
  | .mk _ _ _ _ l => deeps l + 1
def deeps : List Tm → Nat
  | [] => 0
  | t :: r => max t.deep (deeps r)
end

theorem deeps_take (l : List Tm) (k : Nat) (h : k < l.length) : deeps (l.take (k + 1)) = max (deeps (l.take k)) (l[k]).deep := by
  induction l generalizing k with
  | nil => simp at h
  | cons a r ih =>
    cases k with
    | zero => simp [deeps]
    | succ k => simp only [List.take_succ_cons, deeps, List.getElem_cons_succ]; rw [ih k (by simpa using h)]; omega

theorem Tm.deep_eq (t : Tm) : t.deep = deeps t.kids + 1 := by cases t; rfl

end Go.Proofs.Ytjlppnmckobcfaa

namespace Go.Proofs.Ytjlppnmckobcfaa
open Go.RowKit

def Weighed (t : Tm) (most deep : Int) (w : World) (e : Ending) (w' : World) : Prop :=
  ∃ r : Int, e = .returned (.int .i64 r) ∧ 1 ≤ r ∧ r ≤ most + 1 ∧ (r ≤ most → r = t.size ∧ (t.deep : Int) ≤ deep + 1) ∧ Below w.heap.size w w'

set_option maxHeartbeats 800000 in
theorem weigh_any (t : Tm) : ∀ (w : World) (s : Value) (most deep : Int), Lies w t.kids s → 0 ≤ most → most ≤ 100000 → -1 ≤ deep → deep ≤ 100000 →
    Calls Try.prog 41 #[tv t s, .int .i64 most, .int .i64 deep] w (Weighed t most deep w) := by
  induction t using Tm.ind with
  | h t ih =>
    intro w s most deep hl h0 h1 h2 h3
    obtain ⟨a, cap, S, rfl, hc, hm, hf, hn, hk⟩ := hl.out
    unfold tv
    have hsz := t.size_eq
    have hdp := t.deep_eq
    unfold maxLen at hm
    have IH := Lib.hid ih
    have HN := Lib.hid hn
    have HK := Lib.hid hk
    have HSZ := Lib.hid hsz
    have HDP := Lib.hid hdp
    clear ih hn hk hf hl hsz hdp
    by_cases hd : deep < 0
    · go_enter Try.func41, Try.ntmps41
      go_wp2
      go_ret
      exact ⟨most + 1, rfl, by omega, by omega, fun h => by omega, (Below.refl _ _).alloc (Nat.le_refl _) _⟩
    go_enter Try.func41, Try.ntmps41
    have hcell : ∀ (wr : World), Below (w.heap.size + 1) (w.alloc (.cells #[.int .i64 t.k, .int .i64 t.i, .int .i64 t.j, .int .i64 t.n, .slice a t.kids.length cap] 32)) wr → wr.cell? ⟨w.heap.size, 4, none⟩ = some (.slice a t.kids.length cap) := fun wr h => by
      rw [h.cell (p := ⟨w.heap.size, 4, none⟩) (by exact Nat.lt_succ_self _), World.cell?_alloc_at _ _ _ _ rfl]; rfl
    have HC := Lib.hid hcell
    clear hcell
    go_wp2
    go_loopw [7, 8] (fun nv iv wr => ∃ (k : Nat) (n : Int), k ≤ t.kids.length ∧ iv = .int .i64 k ∧ nv = .int .i64 n ∧ 1 ≤ n ∧ n ≤ most + 1 ∧ Hid (n ≤ most → n = ((1 + sizes (t.kids.take k) : Nat) : Int) ∧ (deeps (t.kids.take k) : Int) ≤ deep) ∧
        Below (w.heap.size + 1) (w.alloc (.cells #[.int .i64 t.k, .int .i64 t.i, .int .i64 t.j, .int .i64 t.n, .slice a t.kids.length cap] 32)) wr) (fun _ i _ => t.kids.length - (intOf i).toNat)
    case atStart => exact ⟨0, 1, Nat.zero_le _, rfl, rfl, by omega, by omega, fun _ => ⟨by simp [sizes], by simp [deeps]; omega⟩, Below.refl _ _⟩
    case round =>
      obtain ⟨k, n, hk, rfl, rfl, hn1, hn2, hrel, hb⟩ := hrel
      have hc4 := HC.out wr hb
      have hb0 : Below w.heap.size w wr := ((Below.refl _ _).alloc (Nat.le_refl _) _).trans (hb.mono (by omega))
      by_cases hlt : k < t.kids.length
      · by_cases hnm : n ≤ most
        · obtain ⟨b, o, rfl, hx⟩ := HN.out k hlt
          have hy := hx.below hb0 hx.lt
          obtain ⟨c0, c1, c2, c3, c4⟩ := hy
          have hq := HK.out k hlt
          obtain ⟨a', cap', S', hS, -⟩ := hq.out
          rw [hS] at c4 hq
          have HQ := Lib.hid (hq.keep hb0)
          clear hS hq
          have HM := Lib.hid (List.getElem_mem hlt)
          have HT := Lib.hid (sizes_take t.kids k hlt)
          have HT2 := Lib.hid (deeps_take t.kids k hlt)
          go_wp2_with fail
          refine (IH.out _ HM.out _ _ _ _ HQ.out (by omega) (by omega) (by omega) (by omega)).mono ?_
          rintro e w' ⟨r, rfl, hr1, hr2, hr3, hb'⟩
          have HR3 := Lib.hid hr3
          have HB' := hb.trans (hb'.mono (by have := hb.size; simpa using this))
          clear hb' hb hb0 hc4 hr3
          go_wp2
          go_roundw
          case rel =>
            refine ⟨k + 1, n + r, by omega, by go_num, rfl, by omega, by omega, ?_, HB'⟩
            intro hle
            obtain ⟨e1, e2⟩ := hrel.out hnm
            obtain ⟨e3, e4⟩ := HR3.out (by omega)
            rw [HT.out, HT2.out, e1, e3]
            exact ⟨by simp; omega, by omega⟩
          case measure => simp [intOf]; omega
        · go_wp2
          go_ret
          exact ⟨n, rfl, by omega, by omega, fun h => absurd h (by omega), hb0⟩
      · have : k = t.kids.length := by omega
        subst this
        go_wp2
        all_goals go_ret
        all_goals
          refine ⟨n, rfl, by omega, by omega, fun h => ?_, hb0⟩
          obtain ⟨e1, e2⟩ := hrel.out h
          rw [List.take_length] at e1 e2
          rw [HSZ.out, HDP.out]
          exact ⟨by rw [e1]; simp; omega, by omega⟩

end Go.Proofs.Ytjlppnmckobcfaa

namespace Go.Proofs.Ytjlppnmckobcfaa
open Go.RowKit

/-- A new block of five cells, asked for later. -/
theorem box_cells {w wr : World} {v0 v1 v2 v3 v4 : Value} {T : TypeId} (h : Below (w.heap.size + 1) (w.alloc (.cells #[v0, v1, v2, v3, v4] T)) wr) :
    wr.cell? ⟨w.heap.size, 0, none⟩ = some v0 ∧ wr.cell? ⟨w.heap.size, 1, none⟩ = some v1 ∧ wr.cell? ⟨w.heap.size, 2, none⟩ = some v2 ∧ wr.cell? ⟨w.heap.size, 3, none⟩ = some v3 ∧ wr.cell? ⟨w.heap.size, 4, none⟩ = some v4 := by
  have key : ∀ o, wr.cell? ⟨w.heap.size, o, none⟩ = (#[v0, v1, v2, v3, v4] : Array Value)[o]? := fun o => by
    rw [h.cell (p := ⟨w.heap.size, o, none⟩) (by exact Nat.lt_succ_self _), World.cell?_alloc_at _ _ _ _ rfl]
  exact ⟨by rw [key]; rfl, by rw [key]; rfl, by rw [key]; rfl, by rw [key]; rfl, by rw [key]; rfl⟩

/-- What is new beside a new block is new. -/
theorem below_of_box {w wr : World} {o : Obj} (h : Below (w.heap.size + 1) (w.alloc o) wr) : Below w.heap.size w wr :=
  ((Below.refl _ _).alloc (Nat.le_refl _) _).trans (h.mono (Nat.le_succ _))

/-- A call in a later world: it leaves alone what was there. -/
theorem below_call {B : Nat} {a w w' : World} (h : Below B a w) (h' : Below w.heap.size w w') (hB : B ≤ w.heap.size) : Below B a w' := h.trans (h'.mono hB)

end Go.Proofs.Ytjlppnmckobcfaa

namespace Go.Proofs.Ytjlppnmckobcfaa
open Go.RowKit

theorem bits_table : bits BinOp.and IntKind.i64 0 1 = 0 ∧ bits BinOp.and IntKind.i64 1 1 = 1 ∧ bits BinOp.and IntKind.i64 2 1 = 0 ∧ bits BinOp.and IntKind.i64 3 1 = 1 ∧
    bits BinOp.and IntKind.i64 0 2 = 0 ∧ bits BinOp.and IntKind.i64 1 2 = 0 ∧ bits BinOp.and IntKind.i64 2 2 = 2 ∧ bits BinOp.and IntKind.i64 3 2 = 2 := by
  refine ⟨?_, ?_, ?_, ?_, ?_, ?_, ?_, ?_⟩ <;> kernel_rfl

set_option maxHeartbeats 800000 in
theorem sorts_any (t : Tm) : ∀ (w : World) (s : Value), Lies w t.kids s → Calls Try.prog 88 #[tv t s] w fun e w' => e = .returned (.int .i64 t.sortsN) ∧ Below w.heap.size w w' := by
  induction t using Tm.ind with
  | h t ih =>
    intro w s hl
    obtain ⟨a, cap, S, rfl, hc, hm, hf, hn, hk⟩ := hl.out
    unfold tv
    unfold maxLen at hm
    have IH := Lib.hid ih
    have HN := Lib.hid hn
    have HK := Lib.hid hk
    have HBX := Lib.hid (fun (wr : World) => box_cells (w := w) (wr := wr) (v0 := .int .i64 t.k) (v1 := .int .i64 t.i) (v2 := .int .i64 t.j) (v3 := .int .i64 t.n) (v4 := .slice a t.kids.length cap) (T := 32))
    clear ih hn hk hf hl
    by_cases h1 : kidsN t.k t.n < 0
    · have hv : t.sortsN = 0 := sorts_bad (by simp only [Tm.nodeB, Bool.and_eq_false_iff]; left; simp; omega)
      have HV := Lib.hid hv
      clear hv
      go_enter Try.func88, Try.ntmps88
      go_wp2_with (go_at_call 97; refine (kids_any _ _ _).mono ?_; rintro e w' ⟨rfl, rfl⟩)
      go_ret
      exact ⟨by rw [HV.out]; rfl, (Below.refl _ _).alloc (Nat.le_refl _) _⟩
    by_cases h2 : (t.kids.length : Int) = kidsN t.k t.n
    rotate_left
    · have hv : t.sortsN = 0 := sorts_bad (by simp only [Tm.nodeB, Bool.and_eq_false_iff]; left; simp; omega)
      have HV := Lib.hid hv
      have h3 : ((t.kids.length : Int) == kidsN t.k t.n) = false := by simpa using h2
      have h4 : ((t.kids.length : Int) != kidsN t.k t.n) = true := by simpa using h2
      clear hv
      go_enter Try.func88, Try.ntmps88
      go_wp2_with (go_at_call 97; refine (kids_any _ _ _).mono ?_; rintro e w' ⟨rfl, rfl⟩)
      go_ret
      exact ⟨by rw [HV.out]; rfl, (Below.refl _ _).alloc (Nat.le_refl _) _⟩
    have h3 : ((t.kids.length : Int) == kidsN t.k t.n) = true := by simpa using h2
    have h4 : ((t.kids.length : Int) != kidsN t.k t.n) = false := by simpa using h2
    have H2 := Lib.hid h2
    clear h2
    cases h5 : numbersN t.k t.i t.j t.n with
    | false =>
      have hv : t.sortsN = 0 := sorts_bad (by simp only [Tm.nodeB, Bool.and_eq_false_iff]; right; exact h5)
      have HV := Lib.hid hv
      clear hv
      go_enter Try.func88, Try.ntmps88
      go_wp2_with (first | (go_at_call 97; refine (kids_any _ _ _).mono ?_; rintro e w' ⟨rfl, rfl⟩) | (go_at_call 98; refine (numbers_any t _ _).mono ?_; rintro e w' ⟨rfl, hb'⟩; have HB' := ((Below.refl w.heap.size w).alloc (Nat.le_refl _) _).trans (hb'.mono (by simp)); clear hb'; rw [h5]))
      go_ret
      exact ⟨by rw [HV.out]; rfl, HB'⟩
    | true =>
      have hnode : t.nodeB = true := by simp only [Tm.nodeB, h5, Bool.and_true]; simpa using H2.out
      by_cases k2 : t.k ≤ 2
      · have hv := sorts_two hnode k2
        have hl0 : t.kids.length = 0 := by rw [hv.2]; rfl
        have HL0 := Lib.hid hl0
        clear hl0
        have HV := Lib.hid hv.1
        clear hv hnode
        go_enter Try.func88, Try.ntmps88
        go_wp2_with (first | (go_at_call 97; refine (kids_any _ _ _).mono ?_; rintro e w' ⟨rfl, rfl⟩) | (go_at_call 98; refine (numbers_any t _ _).mono ?_; rintro e w' ⟨rfl, hb'⟩; have HB' := below_call (Below.refl (w.heap.size + 1) _) hb' (by simp); clear hb'; obtain ⟨d0, d1, d2, d3, d4⟩ := HBX.out _ HB'; rw [h5]))
        have hl0 := HL0.out
        refine wp_loop_rounds 1 ?_
        rw [rounds_succ]
        go_wp2
        go_ret
        exact ⟨by rw [HV.out]; rfl, below_of_box HB'⟩
      by_cases k12 : t.k ≤ 12
      · have hv := sorts_marked hnode (by omega) k12
        have HV := Lib.hid hv
        clear hv hnode
        go_enter Try.func88, Try.ntmps88
        go_wp2_with (first | (go_at_call 97; refine (kids_any _ _ _).mono ?_; rintro e w' ⟨rfl, rfl⟩) | (go_at_call 98; refine (numbers_any t _ _).mono ?_; rintro e w' ⟨rfl, hb'⟩; have HB' := below_call (Below.refl (w.heap.size + 1) _) hb' (by simp); clear hb'; obtain ⟨d0, d1, d2, d3, d4⟩ := HBX.out _ HB'; rw [h5]))
        go_loopw [36] (fun iv wr => ∃ k : Nat, k ≤ t.kids.length ∧ iv = .int .i64 k ∧ Hid (markeds (t.k == 12) 0 (t.kids.take k) = true) ∧ Below (w.heap.size + 1) (w.alloc (.cells #[.int .i64 t.k, .int .i64 t.i, .int .i64 t.j, .int .i64 t.n, .slice a t.kids.length cap] 32)) wr) (fun i _ => t.kids.length - (intOf i).toNat)
        case atStart => exact ⟨0, Nat.zero_le _, rfl, by simp [Hid, markeds], HB'⟩
        case round =>
          obtain ⟨k, hk, rfl, hgood, hb⟩ := hrel
          obtain ⟨d0, d1, d2, d3, d4⟩ := HBX.out _ hb
          have hb0 := below_of_box hb
          by_cases hlt : k < t.kids.length
          · obtain ⟨b, o, rfl, hx⟩ := HN.out k hlt
            have hy := hx.below hb0 hx.lt
            obtain ⟨c0, c1, c2, c3, c4⟩ := hy
            have hq := HK.out k hlt
            obtain ⟨a', cap', S', hS, -⟩ := hq.out
            rw [hS] at c4 hq
            have HM := Lib.hid (List.getElem_mem hlt)
            have HB2 : Below (w.heap.size + 1) (w.alloc (.cells #[.int .i64 t.k, .int .i64 t.i, .int .i64 t.j, .int .i64 t.n, .slice (some ⟨b, o, none⟩) t.kids.length cap] 32)) (wr.alloc (.cells #[.int .i64 t.kids[k].k, .int .i64 t.kids[k].i, .int .i64 t.kids[k].j, .int .i64 t.kids[k].n, .slice a' t.kids[k].kids.length cap'] 32)) := hb.alloc (by have := hb.size; simpa using this) _
            have hq2 := hq.keep (below_of_box HB2)
            have HQ := Lib.hid hq2
            have hsz2 : w.heap.size + 1 ≤ wr.heap.size := by have := hb.size; simpa using this
            obtain ⟨y0, y1, y2, y3, y4⟩ := HBX.out _ HB2
            clear hS hq hq2 hb HB'
            cases e12 : (t.k == 12) <;> cases e2 : ((k : Int) == 2)
            all_goals
              go_wp2_with fail
              refine (IH.out _ HM.out _ _ HQ.out).mono ?_
              rintro e w' ⟨he, hb'⟩
              have HB3 := below_call HB2 hb' (by simp; omega)
              obtain ⟨x0, x1, x2, x3, x4⟩ := HBX.out _ HB3
              have e2' : (k == 2) = ((k : Int) == 2) := by rw [e2]; simp at e2 ⊢; omega
              have HE2 := Lib.hid e2'
              clear e2' hb' HB2 d0 d1 d2 d3 d4 y0 y1 y2 y3 y4 hb0
              cases hm : (t.kids[k]).markedB <;> cases hp : (t.kids[k]).plainB
              all_goals
                simp [Tm.sortsN, hm, hp] at he
                subst he
                obtain ⟨t1, t2, t3, t4, t5, t6, t7, t8⟩ := bits_table
                go_wp2
                first
                | (go_ret
                   exact ⟨by rw [HV.out, if_neg (by rw [markeds_of _ t.kids 0 k hlt (by simp [Tm.kidB, e12, HE2.out, e2, hm, hp])]; simp)]; rfl, below_of_box HB3⟩)
                | (go_roundw
                   case rel => exact ⟨k + 1, by omega, by go_num, by have hg := hgood.out; rw [e12] at hg; show _ = true; rw [markeds_take _ _ _ _ hlt, hg]; simp [Tm.kidB, HE2.out, e2, hm, hp], HB3⟩
                   case measure => simp [intOf]; omega)
          · have : k = t.kids.length := by omega
            subst this
            go_wp2
            go_ret
            exact ⟨by rw [HV.out, if_pos (by have := hgood.out; rwa [List.take_length] at this)]; rfl, hb0⟩
      · have hv := sorts_plain hnode (by omega)
        have HV := Lib.hid hv
        clear hv hnode
        go_enter Try.func88, Try.ntmps88
        go_wp2_with (first | (go_at_call 97; refine (kids_any _ _ _).mono ?_; rintro e w' ⟨rfl, rfl⟩) | (go_at_call 98; refine (numbers_any t _ _).mono ?_; rintro e w' ⟨rfl, hb'⟩; have HB' := below_call (Below.refl (w.heap.size + 1) _) hb' (by simp); clear hb'; obtain ⟨d0, d1, d2, d3, d4⟩ := HBX.out _ HB'; rw [h5]))
        go_loopw [36] (fun iv wr => ∃ k : Nat, k ≤ t.kids.length ∧ iv = .int .i64 k ∧ Hid (plains (t.kids.take k) = true) ∧ Below (w.heap.size + 1) (w.alloc (.cells #[.int .i64 t.k, .int .i64 t.i, .int .i64 t.j, .int .i64 t.n, .slice a t.kids.length cap] 32)) wr) (fun i _ => t.kids.length - (intOf i).toNat)
        case atStart => exact ⟨0, Nat.zero_le _, rfl, by simp [Hid, plains], HB'⟩
        case round =>
          obtain ⟨k, hk, rfl, hgood, hb⟩ := hrel
          obtain ⟨d0, d1, d2, d3, d4⟩ := HBX.out _ hb
          have hb0 := below_of_box hb
          by_cases hlt : k < t.kids.length
          · obtain ⟨b, o, rfl, hx⟩ := HN.out k hlt
            have hy := hx.below hb0 hx.lt
            obtain ⟨c0, c1, c2, c3, c4⟩ := hy
            have hq := HK.out k hlt
            obtain ⟨a', cap', S', hS, -⟩ := hq.out
            rw [hS] at c4 hq
            have HM := Lib.hid (List.getElem_mem hlt)
            have HB2 : Below (w.heap.size + 1) (w.alloc (.cells #[.int .i64 t.k, .int .i64 t.i, .int .i64 t.j, .int .i64 t.n, .slice (some ⟨b, o, none⟩) t.kids.length cap] 32)) (wr.alloc (.cells #[.int .i64 t.kids[k].k, .int .i64 t.kids[k].i, .int .i64 t.kids[k].j, .int .i64 t.kids[k].n, .slice a' t.kids[k].kids.length cap'] 32)) := hb.alloc (by have := hb.size; simpa using this) _
            have hq2 := hq.keep (below_of_box HB2)
            have HQ := Lib.hid hq2
            have hsz2 : w.heap.size + 1 ≤ wr.heap.size := by have := hb.size; simpa using this
            obtain ⟨y0, y1, y2, y3, y4⟩ := HBX.out _ HB2
            clear hS hq hq2 hb HB'
            have e12 : (t.k == 12) = false := by simp; omega
            cases e2 : ((k : Int) == 2)
            all_goals
              go_wp2_with fail
              refine (IH.out _ HM.out _ _ HQ.out).mono ?_
              rintro e w' ⟨he, hb'⟩
              have HB3 := below_call HB2 hb' (by simp; omega)
              obtain ⟨x0, x1, x2, x3, x4⟩ := HBX.out _ HB3
              have e2' : (k == 2) = ((k : Int) == 2) := by rw [e2]; simp at e2 ⊢; omega
              have HE2 := Lib.hid e2'
              clear e2' hb' HB2 d0 d1 d2 d3 d4 y0 y1 y2 y3 y4 hb0
              cases hm : (t.kids[k]).markedB <;> cases hp : (t.kids[k]).plainB
              all_goals
                simp [Tm.sortsN, hm, hp] at he
                subst he
                obtain ⟨t1, t2, t3, t4, t5, t6, t7, t8⟩ := bits_table
                go_wp2
                first
                | (go_ret
                   exact ⟨by rw [HV.out, if_neg (by rw [plains_of t.kids k hlt hp]; simp)]; rfl, below_of_box HB3⟩)
                | (go_roundw
                   case rel => exact ⟨k + 1, by omega, by go_num, by show _ = true; rw [plains_take _ _ hlt, hgood.out]; simp [hp], HB3⟩
                   case measure => simp [intOf]; omega)
          · have : k = t.kids.length := by omega
            subst this
            go_wp2
            go_ret
            exact ⟨by rw [HV.out, if_pos (by have := hgood.out; rwa [List.take_length] at this)]; rfl, hb0⟩
end Go.Proofs.Ytjlppnmckobcfaa

namespace Go.Proofs.Ytjlppnmckobcfaa
open Go.RowKit

mutual
def Tm.freeN : Tm → Int
  | .mk k i _ _ l => if k = 2 then i + 1 else frees k 0 l
def frees : Int → Nat → List Tm → Int
  | _, _, [] => 0
  | k, p, t :: r => max (t.freeN - bindsN k p) (frees k (p + 1) r)
end
theorem Tm.freeN_eq (t : Tm) : t.freeN = if t.k = 2 then t.i + 1 else frees t.k 0 t.kids := by cases t; rfl

theorem frees_nonneg (k : Int) (l : List Tm) (p : Nat) : 0 ≤ frees k p l := by
  induction l generalizing p with
  | nil => simp [frees]
  | cons a r ih => simp only [frees]; have := ih (p + 1); omega

theorem frees_take (k : Int) (l : List Tm) (p m : Nat) (h : m < l.length) : frees k p (l.take (m + 1)) = max (frees k p (l.take m)) ((l[m]).freeN - bindsN k ((p + m : Nat) : Int)) := by
  induction l generalizing p m with
  | nil => simp at h
  | cons a r ih =>
    cases m with
    | zero => simp [frees]; omega
    | succ m => simp only [List.take_succ_cons, frees, List.getElem_cons_succ]; rw [ih (p + 1) m (by simpa using h), show p + 1 + m = p + (m + 1) by omega]; omega

def Tm.rightB (t : Tm) : Bool := t.markedB || t.plainB

theorem plains_mem {l : List Tm} (h : plains l = true) : ∀ x ∈ l, x.plainB = true := by
  induction l with
  | nil => simp
  | cons a r ih =>
    simp only [plains, Bool.and_eq_true] at h
    intro x hx
    rcases List.mem_cons.1 hx with rfl | hx
    · exact h.1
    · exact ih h.2 x hx
theorem markeds_mem {tr : Bool} {l : List Tm} {p : Nat} (h : markeds tr p l = true) : ∀ x ∈ l, x.rightB = true := by
  induction l generalizing p with
  | nil => simp
  | cons a r ih =>
    simp only [markeds, Bool.and_eq_true] at h
    intro x hx
    rcases List.mem_cons.1 hx with rfl | hx
    · have := h.1; simp only [Tm.rightB]; split at this <;> simp [this]
    · exact ih h.2 x hx
theorem Tm.right_node {t : Tm} (h : t.rightB = true) : t.nodeB = true := by
  simp only [Tm.rightB, Tm.markedB_eq, Tm.plainB_eq, Bool.or_eq_true, Bool.and_eq_true] at h
  rcases h with h | h
  · exact h.2.1
  · exact h.2.1
theorem Tm.right_kids {t : Tm} (h : t.rightB = true) : ∀ x ∈ t.kids, x.rightB = true := by
  simp only [Tm.rightB, Tm.markedB_eq, Tm.plainB_eq, Bool.or_eq_true, Bool.and_eq_true] at h
  rcases h with h | h
  · exact markeds_mem h.2.2
  · intro x hx; simp only [Tm.rightB, Bool.or_eq_true]; right; exact plains_mem h.2.2 x hx
theorem Tm.right_var {t : Tm} (h : t.rightB = true) (hk : t.k = 2) : 0 ≤ t.i ∧ t.i ≤ 2147483647 := by
  have := t.right_node h
  simp only [Tm.nodeB, numbersN, hk, Bool.and_eq_true, if_true, decide_eq_true_eq] at this
  exact ⟨this.2.1, this.2.2.1⟩
theorem frees_le (k : Int) (B : Int) (hB : 0 ≤ B) (l : List Tm) (p : Nat) (h : ∀ x ∈ l, x.freeN ≤ B) : frees k p l ≤ B := by
  induction l generalizing p with
  | nil => simpa [frees] using hB
  | cons a r ih =>
    simp only [frees]
    have h1 := ih (p + 1) (fun x hx => h x (List.mem_cons_of_mem _ hx))
    have h2 := h a List.mem_cons_self
    have h3 : 0 ≤ bindsN k p := by unfold bindsN; (repeat' split) <;> omega
    omega
theorem binds_range (k i : Int) : 0 ≤ bindsN k i ∧ bindsN k i ≤ 2 := by unfold bindsN; (repeat' split) <;> omega
theorem Tm.free_range (t : Tm) : t.rightB = true → 0 ≤ t.freeN ∧ t.freeN ≤ 2147483648 := by
  induction t using Tm.ind with
  | h t ih =>
    intro h
    rw [t.freeN_eq]
    split
    · rename_i hk; have := t.right_var h hk; omega
    · exact ⟨frees_nonneg _ _ _, frees_le _ _ (by omega) _ _ (fun x hx => (ih x hx (t.right_kids h x hx)).2)⟩

set_option maxHeartbeats 800000 in
theorem free_any (t : Tm) : ∀ (w : World) (s : Value), Lies w t.kids s → t.rightB = true → Calls Try.prog 89 #[tv t s] w fun e w' => e = .returned (.int .i64 t.freeN) ∧ Below w.heap.size w w' := by
  induction t using Tm.ind with
  | h t ih =>
    intro w s hl hr
    obtain ⟨a, cap, S, rfl, hc, hm, hf, hn, hk⟩ := hl.out
    unfold tv
    unfold maxLen at hm
    have HF := Lib.hid (t.freeN_eq)
    have HR := Lib.hid (t.right_kids hr)
    have IH := Lib.hid ih
    have HN := Lib.hid hn
    have HK := Lib.hid hk
    have HBX := Lib.hid (fun (wr : World) => box_cells (w := w) (wr := wr) (v0 := .int .i64 t.k) (v1 := .int .i64 t.i) (v2 := .int .i64 t.j) (v3 := .int .i64 t.n) (v4 := .slice a t.kids.length cap) (T := 32))
    clear ih hn hk hf hl
    by_cases h2 : t.k = 2
    · have hv := t.right_var hr h2
      have e2 : (t.k == 2) = true := by simpa using h2
      have H2 := Lib.hid h2
      clear h2 hr
      go_enter Try.func89, Try.ntmps89
      go_wp2
      go_ret
      exact ⟨ret_int (by rw [HF.out, if_pos H2.out]), (Below.refl _ _).alloc (Nat.le_refl _) _⟩
    have e2 : (t.k == 2) = false := by simpa using h2
    have H2 := Lib.hid h2
    have HFB := Lib.hid (fun (x : Tm) (hx : x ∈ t.kids) => x.free_range (t.right_kids hr x hx))
    clear h2 hr
    go_enter Try.func89, Try.ntmps89
    go_wp2
    go_loopw [3, 15] (fun n i wr => ∃ k : Nat, k ≤ t.kids.length ∧ i = .int .i64 k ∧ n = .int .i64 (frees t.k 0 (t.kids.take k)) ∧ Below (w.heap.size + 1) (w.alloc (.cells #[.int .i64 t.k, .int .i64 t.i, .int .i64 t.j, .int .i64 t.n, .slice a t.kids.length cap] 32)) wr) (fun n i _ => t.kids.length - (intOf i).toNat)
    case atStart => exact ⟨0, Nat.zero_le _, rfl, by simp [frees], Below.refl _ _⟩
    case round =>
      obtain ⟨k, hk, rfl, rfl, hb⟩ := hrel
      obtain ⟨d0, d1, d2, d3, d4⟩ := HBX.out _ hb
      have hb0 := below_of_box hb
      by_cases hlt : k < t.kids.length
      · obtain ⟨b, o, rfl, hx⟩ := HN.out k hlt
        have hy := hx.below hb0 hx.lt
        obtain ⟨c0, c1, c2, c3, c4⟩ := hy
        have hq := HK.out k hlt
        obtain ⟨a', cap', S', hS, -⟩ := hq.out
        rw [hS] at c4 hq
        have HM := Lib.hid (List.getElem_mem hlt)
        have HB2 : Below (w.heap.size + 1) (w.alloc (.cells #[.int .i64 t.k, .int .i64 t.i, .int .i64 t.j, .int .i64 t.n, .slice (some ⟨b, o, none⟩) t.kids.length cap] 32)) (wr.alloc (.cells #[.int .i64 t.kids[k].k, .int .i64 t.kids[k].i, .int .i64 t.kids[k].j, .int .i64 t.kids[k].n, .slice a' t.kids[k].kids.length cap'] 32)) := hb.alloc (by have := hb.size; simpa using this) _
        have HQ := Lib.hid (hq.keep (below_of_box HB2))
        have hsz2 : w.heap.size + 1 ≤ wr.heap.size := by have := hb.size; simpa using this
        obtain ⟨y0, y1, y2, y3, y4⟩ := HBX.out _ HB2
        clear hS hq
        have hfr := HFB.out _ HM.out
        have hbr := binds_range t.k k
        have HT := Lib.hid (frees_take t.k t.kids 0 k hlt)
        have hfn := frees_nonneg t.k (t.kids.take k) 0
        have HRK := Lib.hid (HR.out _ HM.out)
        have hfl : frees t.k 0 (t.kids.take k) ≤ 2147483648 := frees_le _ _ (by omega) _ _ (fun x hx => (HFB.out x (List.mem_of_mem_take hx)).2)
        go_wp2_with fail
        go_region_with (first | (go_at_call 94; refine (binds_any _ _ _).mono ?_; rintro e w' ⟨rfl, rfl⟩) | (go_at_call 89; refine (IH.out _ HM.out _ _ (HQ.out.keep (Below.refl _ _).drew) HRK.out).mono ?_; rintro e w' ⟨rfl, hb'⟩; have HB3 := below_call HB2.drew hb' (by simp; omega); obtain ⟨x0, x1, x2, x3, x4⟩ := HBX.out _ HB3))
        all_goals
          clear hfn hfl hb0
          go_wp2
          go_roundw
          case rel => exact ⟨k + 1, by omega, by go_num, by rw [HT.out, Nat.zero_add]; all_goals ((try split) <;> go_num), HB3⟩
          case measure => simp [intOf]; omega
      · have : k = t.kids.length := by omega
        subst this
        go_wp2
        go_ret
        refine ⟨?_, hb0⟩
        rw [HF.out, if_neg H2.out, List.take_length]
        rfl

end Go.Proofs.Ytjlppnmckobcfaa

namespace Go.Proofs.Ytjlppnmckobcfaa
open Go.RowKit

mutual
def Tm.count : Tm → Nat
  | .mk k _ _ _ l => (if k = 12 then 1 else 0) + counts l
def counts : List Tm → Nat
  | [] => 0
  | t :: r => t.count + counts r
end

theorem Tm.count_eq (t : Tm) : t.count = (if t.k = 12 then 1 else 0) + counts t.kids := by cases t; rfl

theorem counts_take (l : List Tm) (k : Nat) (h : k < l.length) : counts (l.take (k + 1)) = counts (l.take k) + (l[k]).count := by
  induction l generalizing k with
  | nil => simp at h
  | cons a r ih =>
    cases k with
    | zero => simp [counts]
    | succ k => simp only [List.take_succ_cons, counts, List.getElem_cons_succ]; rw [ih k (by simpa using h)]; omega

theorem counts_le (l : List Tm) (k : Nat) : counts (l.take k) ≤ counts l := by
  induction l generalizing k with
  | nil => simp
  | cons a r ih =>
    cases k with
    | zero => simp [counts]
    | succ k => simp only [List.take_succ_cons, counts]; have := ih k; omega

set_option maxHeartbeats 400000 in
theorem moves_any (t : Tm) : ∀ (w : World) (s : Value), Lies w t.kids s → Calls Try.prog 71 #[tv t s] w fun e w' => e = .returned (.bool (decide (0 < t.count))) ∧ Below w.heap.size w w' := by
  induction t using Tm.ind with
  | h t ih =>
    intro w s hl
    obtain ⟨a, cap, S, rfl, hc, hm, hf, hn, hk⟩ := hl.out
    unfold tv
    have hcq := t.count_eq
    unfold maxLen at hm
    have IH := Lib.hid ih
    have HN := Lib.hid hn
    have HK := Lib.hid hk
    have HCQ := Lib.hid hcq
    clear ih hn hk hf hl hcq
    by_cases h12 : t.k = 12
    · have e12 : (t.k == 12) = true := by simpa using h12
      have H12 := Lib.hid h12
      clear h12
      go_enter Try.func71, Try.ntmps71
      go_wp2
      go_ret
      exact ⟨ret_bool (by rw [HCQ.out, if_pos H12.out]; simp; omega), (Below.refl _ _).alloc (Nat.le_refl _) _⟩
    have e12 : (t.k == 12) = false := by simpa using h12
    have H12 := Lib.hid h12
    clear h12
    go_enter Try.func71, Try.ntmps71
    go_wp2
    go_loopw [11] (fun i wr => ∃ k : Nat, k ≤ t.kids.length ∧ i = .int .i64 k ∧ Hid (counts (t.kids.take k) = 0) ∧ Below w.heap.size w wr) (fun i _ => t.kids.length - (intOf i).toNat)
    case atStart => exact ⟨0, Nat.zero_le _, rfl, by simp [counts, Hid], (Below.refl _ _).alloc (Nat.le_refl _) _⟩
    case round =>
      obtain ⟨k, hk, rfl, h0, hb⟩ := hrel
      by_cases hlt : k < t.kids.length
      · obtain ⟨b, o, rfl, hx⟩ := HN.out k hlt
        have hy := hx.below hb hx.lt
        obtain ⟨c0, c1, c2, c3, c4⟩ := hy
        have hq := HK.out k hlt
        obtain ⟨a', cap', S', hS, -⟩ := hq.out
        rw [hS] at c4 hq
        have HQ := Lib.hid hq
        clear hS hq
        have HM := Lib.hid (List.getElem_mem hlt)
        have HT := Lib.hid (counts_take t.kids k hlt)
        have HB : Below w.heap.size w (wr.alloc (.cells #[.int .i64 t.kids[k].k, .int .i64 t.kids[k].i, .int .i64 t.kids[k].j, .int .i64 t.kids[k].n, .slice a' t.kids[k].kids.length cap'] 32)) := hb.alloc hb.size _
        go_wp2_with fail
        refine (IH.out _ HM.out _ _ (HQ.out.keep HB)).mono ?_
        rintro e w' ⟨rfl, hb'⟩
        have HB' : Below w.heap.size w w' := HB.trans (hb'.mono HB.size)
        clear hb' HB hb
        by_cases hcnt : 0 < (t.kids[k]).count
        · have hcd : decide (0 < (t.kids[k]).count) = true := by simpa using hcnt
          go_wp2
          go_ret
          exact ⟨ret_bool (by have := counts_le t.kids (k + 1); rw [HT.out] at this; rw [HCQ.out]; simp; omega), HB'⟩
        · have hcd : decide (0 < (t.kids[k]).count) = false := by simpa using hcnt
          go_wp2
          go_roundw
          case rel => exact ⟨k + 1, by omega, by go_num, by show _ = _; rw [HT.out, h0.out]; omega, HB'⟩
          case measure => simp [intOf]; omega
      · have : k = t.kids.length := by omega
        subst this
        go_wp2
        go_ret
        refine ⟨ret_bool ?_, hb⟩
        have := h0.out
        rw [List.take_length] at this
        rw [HCQ.out, if_neg H12.out, this]; rfl
end Go.Proofs.Ytjlppnmckobcfaa

namespace Go.Proofs.Ytjlppnmckobcfaa
open Go.RowKit

def Tm.pureB (t : Tm) : Bool := t.markedB && (t.count == 0)
def Tm.freeB (t : Tm) : Int := if t.rightB then t.freeN else 0

set_option maxHeartbeats 800000 in
theorem right_any (t : Tm) (w : World) (s : Value) (hl : Lies w t.kids s) : Calls Try.prog 76 #[tv t s] w fun e w' => e = .returned (.bool t.rightB) ∧ Below w.heap.size w w' := by
  obtain ⟨a, cap, S, hs, -⟩ := hl.out
  subst hs
  have HB := (Below.refl (w.heap.size + 1) (w.alloc (.cells #[.int .i64 t.k, .int .i64 t.i, .int .i64 t.j, .int .i64 t.n, .slice a t.kids.length cap] 32)))
  have HL := Lib.hid (hl.keep (below_of_box HB))
  have HBX := Lib.hid (fun (wr : World) => box_cells (w := w) (wr := wr) (v0 := .int .i64 t.k) (v1 := .int .i64 t.i) (v2 := .int .i64 t.j) (v3 := .int .i64 t.n) (v4 := .slice a t.kids.length cap) (T := 32))
  clear hl
  unfold tv
  go_enter Try.func76, Try.ntmps76
  go_wp2_with fail
  refine (sorts_any t _ _ HL.out).mono ?_
  rintro e w' ⟨he, hb'⟩
  have HB2 := below_call HB hb' (by simp)
  obtain ⟨d0, d1, d2, d3, d4⟩ := HBX.out _ HB2
  clear hb'
  obtain ⟨t1, t2, t3, t4, t5, t6, t7, t8⟩ := bits_table
  cases hm : t.markedB <;> cases hp : t.plainB
  all_goals
    simp [Tm.sortsN, hm, hp] at he
    subst he
    go_wp2
    go_ret
    exact ⟨ret_bool (by simp [Tm.rightB, hm, hp]), below_of_box HB2⟩

set_option maxHeartbeats 800000 in
theorem marked_any (t : Tm) (w : World) (s : Value) (hl : Lies w t.kids s) : Calls Try.prog 70 #[tv t s] w fun e w' => e = .returned (.bool t.markedB) ∧ Below w.heap.size w w' := by
  obtain ⟨a, cap, S, hs, -⟩ := hl.out
  subst hs
  have HB := (Below.refl (w.heap.size + 1) (w.alloc (.cells #[.int .i64 t.k, .int .i64 t.i, .int .i64 t.j, .int .i64 t.n, .slice a t.kids.length cap] 32)))
  have HL := Lib.hid (hl.keep (below_of_box HB))
  have HBX := Lib.hid (fun (wr : World) => box_cells (w := w) (wr := wr) (v0 := .int .i64 t.k) (v1 := .int .i64 t.i) (v2 := .int .i64 t.j) (v3 := .int .i64 t.n) (v4 := .slice a t.kids.length cap) (T := 32))
  clear hl
  unfold tv
  go_enter Try.func70, Try.ntmps70
  go_wp2_with fail
  refine (sorts_any t _ _ HL.out).mono ?_
  rintro e w' ⟨he, hb'⟩
  have HB2 := below_call HB hb' (by simp)
  obtain ⟨d0, d1, d2, d3, d4⟩ := HBX.out _ HB2
  clear hb'
  obtain ⟨t1, t2, t3, t4, t5, t6, t7, t8⟩ := bits_table
  cases hm : t.markedB <;> cases hp : t.plainB
  all_goals
    simp [Tm.sortsN, hm, hp] at he
    subst he
    go_wp2
    go_ret
    exact ⟨ret_bool (by simp [hm]), below_of_box HB2⟩

set_option maxHeartbeats 800000 in
theorem pure_any (t : Tm) (w : World) (s : Value) (hl : Lies w t.kids s) : Calls Try.prog 42 #[tv t s] w fun e w' => e = .returned (.bool t.pureB) ∧ Below w.heap.size w w' := by
  obtain ⟨a, cap, S, hs, -⟩ := hl.out
  subst hs
  have HB := (Below.refl (w.heap.size + 1) (w.alloc (.cells #[.int .i64 t.k, .int .i64 t.i, .int .i64 t.j, .int .i64 t.n, .slice a t.kids.length cap] 32)))
  have HL := Lib.hid (hl.keep (below_of_box HB))
  have HBX := Lib.hid (fun (wr : World) => box_cells (w := w) (wr := wr) (v0 := .int .i64 t.k) (v1 := .int .i64 t.i) (v2 := .int .i64 t.j) (v3 := .int .i64 t.n) (v4 := .slice a t.kids.length cap) (T := 32))
  have hl0 := Lib.hid hl
  clear hl
  unfold tv
  go_enter Try.func42, Try.ntmps42
  go_wp2_with fail
  refine (marked_any t _ _ HL.out).mono ?_
  rintro e w' ⟨rfl, hb'⟩
  have HB2 := below_call HB hb' (by simp)
  obtain ⟨d0, d1, d2, d3, d4⟩ := HBX.out _ HB2
  clear hb'
  have HL2 := Lib.hid (hl0.out.keep (below_of_box HB2))
  cases hm : t.markedB
  · go_wp2
    go_ret
    exact ⟨ret_bool (by simp [Tm.pureB, hm]), below_of_box HB2⟩
  · go_wp2_with fail
    refine (moves_any t _ _ HL2.out).mono ?_
    rintro e w2 ⟨rfl, hb'⟩
    have HB3 := below_call HB2 hb' (by have := HB2.size; simpa using this)
    clear hb'
    go_wp2
    go_ret
    exact ⟨ret_bool (by simp [Tm.pureB, hm]; (try rw [Bool.eq_iff_iff]); simp; omega), below_of_box HB3⟩

set_option maxHeartbeats 800000 in
theorem Free_any (t : Tm) (w : World) (s : Value) (hl : Lies w t.kids s) : Calls Try.prog 72 #[tv t s] w fun e w' => e = .returned (.int .i64 t.freeB) ∧ Below w.heap.size w w' := by
  obtain ⟨a, cap, S, hs, -⟩ := hl.out
  subst hs
  have HB := (Below.refl (w.heap.size + 1) (w.alloc (.cells #[.int .i64 t.k, .int .i64 t.i, .int .i64 t.j, .int .i64 t.n, .slice a t.kids.length cap] 32)))
  have HL := Lib.hid (hl.keep (below_of_box HB))
  have HBX := Lib.hid (fun (wr : World) => box_cells (w := w) (wr := wr) (v0 := .int .i64 t.k) (v1 := .int .i64 t.i) (v2 := .int .i64 t.j) (v3 := .int .i64 t.n) (v4 := .slice a t.kids.length cap) (T := 32))
  have hl0 := Lib.hid hl
  clear hl
  unfold tv
  go_enter Try.func72, Try.ntmps72
  go_wp2_with fail
  refine (right_any t _ _ HL.out).mono ?_
  rintro e w' ⟨rfl, hb'⟩
  have HB2 := below_call HB hb' (by simp)
  obtain ⟨d0, d1, d2, d3, d4⟩ := HBX.out _ HB2
  clear hb'
  have HL2 := Lib.hid (hl0.out.keep (below_of_box HB2))
  cases hr : t.rightB
  · go_wp2
    go_ret
    exact ⟨ret_int (by simp [Tm.freeB, hr]), below_of_box HB2⟩
  · go_wp2_with fail
    refine (free_any t _ _ HL2.out hr).mono ?_
    rintro e w2 ⟨rfl, hb'⟩
    have HB3 := below_call HB2 hb' (by have := HB2.size; simpa using this)
    clear hb'
    go_wp2
    go_ret
    exact ⟨ret_int (by simp [Tm.freeB, hr]), below_of_box HB3⟩

end Go.Proofs.Ytjlppnmckobcfaa

namespace Go.Proofs.Ytjlppnmckobcfaa
open Go.RowKit

/-- The block of a term by value. -/
def boxOf (t : Tm) (s : Value) : Obj := .cells #[.int .i64 t.k, .int .i64 t.i, .int .i64 t.j, .int .i64 t.n, s] 32

/-- Beside the boxed term there is only what is new. -/
def Held (w : World) (t : Tm) (s : Value) (w' : World) : Prop := Below (w.heap.size + 1) (w.alloc (boxOf t s)) w'

theorem held_start (w : World) (t : Tm) (s : Value) : Held w t s (w.alloc (.cells #[.int .i64 t.k, .int .i64 t.i, .int .i64 t.j, .int .i64 t.n, s] 32)) := Below.refl _ _
theorem held_cells {w w' : World} {t : Tm} {s : Value} (h : Held w t s w') : w'.cell? ⟨w.heap.size, 0, none⟩ = some (.int .i64 t.k) ∧ w'.cell? ⟨w.heap.size, 1, none⟩ = some (.int .i64 t.i) ∧ w'.cell? ⟨w.heap.size, 2, none⟩ = some (.int .i64 t.j) ∧
    w'.cell? ⟨w.heap.size, 3, none⟩ = some (.int .i64 t.n) ∧ w'.cell? ⟨w.heap.size, 4, none⟩ = some s := box_cells h
theorem held_lies {w w1 : World} {t : Tm} {s s' : Value} {l : List Tm} (h : Held w t s w1) (hl : Lies w l s') : Lies w1 l s' := hl.keep (below_of_box h)
theorem held_below {w w1 : World} {t : Tm} {s : Value} (h : Held w t s w1) : Below w.heap.size w w1 := below_of_box h
end Go.Proofs.Ytjlppnmckobcfaa

namespace Go.Proofs.Ytjlppnmckobcfaa
open Go.RowKit

mutual
def sameB : Tm → Tm → Bool
  | .mk k i j n l, .mk k' i' j' n' l' => (k == k') && ((i == i') && ((j == j') && ((n == n') && samesB l l')))
def samesB : List Tm → List Tm → Bool
  | [], [] => true
  | x :: r, y :: s => sameB x y && samesB r s
  | [], _ :: _ => false
  | _ :: _, [] => false
end

theorem sameB_eq (a b : Tm) : sameB a b = ((a.k == b.k) && ((a.i == b.i) && ((a.j == b.j) && ((a.n == b.n) && samesB a.kids b.kids)))) := by
  cases a; cases b; simp only [sameB]; rfl

theorem samesB_length : ∀ {l m : List Tm}, samesB l m = true → l.length = m.length
  | [], [], _ => rfl
  | x :: r, y :: s, h => by simp only [samesB, Bool.and_eq_true] at h; simp [samesB_length h.2]
  | [], _ :: _, h => by simp [samesB] at h
  | _ :: _, [], h => by simp [samesB] at h

theorem sameB_self (a : Tm) : sameB a a = true := by
  induction a using Tm.ind with
  | h a ih =>
    rw [sameB_eq]
    have key : ∀ (l : List Tm), (∀ x ∈ l, sameB x x = true) → samesB l l = true := by
      intro l
      induction l with
      | nil => intro _; simp [samesB]
      | cons x r ihl => intro hx; simp only [samesB, hx x List.mem_cons_self, Bool.true_and]; exact ihl (fun z hz => hx z (List.mem_cons_of_mem _ hz))
    simp [key a.kids ih]

theorem sames_take : ∀ (l m : List Tm) (k : Nat) (h : k < l.length) (h' : k < m.length), samesB (l.take (k + 1)) (m.take (k + 1)) = (samesB (l.take k) (m.take k) && sameB l[k] m[k])
  | x :: r, y :: s, 0, _, _ => by simp [samesB]
  | x :: r, y :: s, k + 1, h, h' => by
    simp only [List.take_succ_cons, samesB, List.getElem_cons_succ]
    rw [sames_take r s k (by simpa using h) (by simpa using h'), Bool.and_assoc]

theorem sames_of : ∀ (l m : List Tm) (k : Nat) (h : k < l.length) (h' : k < m.length), sameB l[k] m[k] = false → samesB l m = false
  | x :: r, y :: s, 0, _, _, hs => by simp only [List.getElem_cons_zero] at hs; simp [samesB, hs]
  | x :: r, y :: s, k + 1, h, h', hs => by
    simp only [List.getElem_cons_succ] at hs
    simp [samesB, sames_of r s k (by simpa using h) (by simpa using h') hs]

theorem sames_ne {l m : List Tm} (h : l.length ≠ m.length) : samesB l m = false := by
  cases hs : samesB l m with
  | false => rfl
  | true => exact absurd (samesB_length hs) h

/-- Two boxed terms, and what is new beside them. -/
def Held2 (w : World) (a : Tm) (s : Value) (b : Tm) (r : Value) (w' : World) : Prop := Below (w.heap.size + 2) ((w.alloc (boxOf a s)).alloc (boxOf b r)) w'

theorem held2_start (w : World) (a : Tm) (s : Value) (b : Tm) (r : Value) : Held2 w a s b r ((w.alloc (.cells #[.int .i64 a.k, .int .i64 a.i, .int .i64 a.j, .int .i64 a.n, s] 32)).alloc (.cells #[.int .i64 b.k, .int .i64 b.i, .int .i64 b.j, .int .i64 b.n, r] 32)) := Below.refl _ _
theorem held2_second {w w' : World} {a b : Tm} {s r : Value} (h : Held2 w a s b r w') : Held (w.alloc (boxOf a s)) b r w' := by
  unfold Held2 at h; unfold Held
  rw [show (w.alloc (boxOf a s)).heap.size + 1 = w.heap.size + 2 by simp]; exact h
theorem held2_first {w w' : World} {a b : Tm} {s r : Value} (h : Held2 w a s b r w') : Held w a s w' := by
  unfold Held2 at h; unfold Held
  exact ((Below.refl _ _).alloc (by simp) _).trans (h.mono (by omega))
theorem held2_cells {w w' : World} {a b : Tm} {s r : Value} (h : Held2 w a s b r w') : w'.cell? ⟨w.heap.size, 0, none⟩ = some (.int .i64 a.k) ∧ w'.cell? ⟨w.heap.size, 1, none⟩ = some (.int .i64 a.i) ∧ w'.cell? ⟨w.heap.size, 2, none⟩ = some (.int .i64 a.j) ∧
    w'.cell? ⟨w.heap.size, 3, none⟩ = some (.int .i64 a.n) ∧ w'.cell? ⟨w.heap.size, 4, none⟩ = some s ∧ w'.cell? ⟨w.heap.size + 1, 0, none⟩ = some (.int .i64 b.k) ∧ w'.cell? ⟨w.heap.size + 1, 1, none⟩ = some (.int .i64 b.i) ∧
    w'.cell? ⟨w.heap.size + 1, 2, none⟩ = some (.int .i64 b.j) ∧ w'.cell? ⟨w.heap.size + 1, 3, none⟩ = some (.int .i64 b.n) ∧ w'.cell? ⟨w.heap.size + 1, 4, none⟩ = some r := by
  obtain ⟨h0, h1, h2, h3, h4⟩ := held_cells (held2_first h)
  have h' := held_cells (held2_second h)
  rw [show (w.alloc (boxOf a s)).heap.size = w.heap.size + 1 by simp] at h'
  exact ⟨h0, h1, h2, h3, h4, h'⟩
theorem held2_call {w w1 w2 : World} {a b : Tm} {s r : Value} (h : Held2 w a s b r w1) (hb : Below w1.heap.size w1 w2) : Held2 w a s b r w2 :=
  below_call h hb (by have := h.size; simpa using this)
theorem held2_drew {w w1 : World} {a b : Tm} {s r : Value} (h : Held2 w a s b r w1) : Held2 w a s b r w1.drew := Below.drew h
theorem held2_alloc {w w1 : World} {a b : Tm} {s r : Value} (h : Held2 w a s b r w1) (o : Obj) : Held2 w a s b r (w1.alloc o) := Below.alloc h (by have := h.size; simpa using this) o
theorem held2_below {w w1 : World} {a b : Tm} {s r : Value} (h : Held2 w a s b r w1) : Below w.heap.size w w1 := held_below (held2_first h)
theorem held2_lies {w w1 : World} {a b : Tm} {s r s' : Value} {l : List Tm} (h : Held2 w a s b r w1) (hl : Lies w l s') : Lies w1 l s' := hl.keep (held2_below h)
end Go.Proofs.Ytjlppnmckobcfaa

namespace Go.Proofs.Ytjlppnmckobcfaa
open Go.RowKit

set_option maxHeartbeats 2000000 in
theorem same_any (t : Tm) : ∀ (u : Tm) (w : World) (s r : Value), Lies w t.kids s → Lies w u.kids r → Calls Try.prog 45 #[tv t s, tv u r] w fun e w' => e = .returned (.bool (sameB t u)) ∧ Below w.heap.size w w' := by
  induction t using Tm.ind with
  | h t ih =>
    intro u w s r hl hm
    obtain ⟨a, cap, S, rfl, hc, hmx, -, hn, hk⟩ := hl.out
    obtain ⟨a2, cap2, S2, rfl, hc2, hmx2, -, hn2, hk2⟩ := hm.out
    unfold maxLen at hmx hmx2
    have IH := Lib.hid ih
    have HN := Lib.hid hn
    have HK := Lib.hid hk
    have HN2 := Lib.hid hn2
    have HK2 := Lib.hid hk2
    have HE := Lib.hid (sameB_eq t u)
    have H0 := held2_start w t (.slice a t.kids.length cap) u (.slice a2 u.kids.length cap2)
    clear hl hm ih hn hk hn2 hk2
    unfold tv
    cases ek : (t.k == u.k)
    · have nek : (t.k != u.k) = true := by simp only [bne, ek, Bool.not_false]
      go_enter Try.func45, Try.ntmps45
      go_wp2
      go_ret
      exact ⟨ret_bool (by rw [HE.out]; simp only [ek, Bool.false_and]), held2_below H0⟩
    have nek : (t.k != u.k) = false := by simp only [bne, ek, Bool.not_true]
    cases ei : (t.i == u.i)
    · have nei : (t.i != u.i) = true := by simp only [bne, ei, Bool.not_false]
      go_enter Try.func45, Try.ntmps45
      go_wp2
      go_ret
      exact ⟨ret_bool (by rw [HE.out]; simp only [ek, ei, Bool.false_and, Bool.true_and]), held2_below H0⟩
    have nei : (t.i != u.i) = false := by simp only [bne, ei, Bool.not_true]
    cases ej : (t.j == u.j)
    · have nej : (t.j != u.j) = true := by simp only [bne, ej, Bool.not_false]
      go_enter Try.func45, Try.ntmps45
      go_wp2
      go_ret
      exact ⟨ret_bool (by rw [HE.out]; simp only [ek, ei, ej, Bool.false_and, Bool.true_and]), held2_below H0⟩
    have nej : (t.j != u.j) = false := by simp only [bne, ej, Bool.not_true]
    cases en : (t.n == u.n)
    · have nen : (t.n != u.n) = true := by simp only [bne, en, Bool.not_false]
      go_enter Try.func45, Try.ntmps45
      go_wp2
      go_ret
      exact ⟨ret_bool (by rw [HE.out]; simp only [ek, ei, ej, en, Bool.false_and, Bool.true_and]), held2_below H0⟩
    have nen : (t.n != u.n) = false := by simp only [bne, en, Bool.not_true]
    have HE2 : Hid (sameB t u = samesB t.kids u.kids) := by show _ = _; rw [HE.out]; simp only [ek, ei, ej, en, Bool.true_and]
    by_cases hlen : t.kids.length = u.kids.length
    rotate_left
    · have h1 : ((t.kids.length : Int) == (u.kids.length : Int)) = false := by simp; omega
      have h2 : ((t.kids.length : Int) != (u.kids.length : Int)) = true := by simp; omega
      have HS := Lib.hid (sames_ne hlen)
      clear hlen
      go_enter Try.func45, Try.ntmps45
      go_wp2
      go_ret
      exact ⟨ret_bool (by rw [HE2.out]; exact HS.out.symm), held2_below H0⟩
    have h1 : ((t.kids.length : Int) == (u.kids.length : Int)) = true := by simp; omega
    have h2 : ((t.kids.length : Int) != (u.kids.length : Int)) = false := by simp; omega
    have HL := Lib.hid hlen
    clear hlen
    go_enter Try.func45, Try.ntmps45
    go_wp2
    go_loopw [45] (fun iv wr => ∃ k : Nat, k ≤ t.kids.length ∧ iv = .int .i64 k ∧ Hid (samesB (t.kids.take k) (u.kids.take k) = true) ∧ Held2 w t (.slice a t.kids.length cap) u (.slice a2 u.kids.length cap2) wr) (fun iv _ => t.kids.length - (intOf iv).toNat)
    case atStart => exact ⟨0, Nat.zero_le _, rfl, by simp [Hid, samesB], H0⟩
    case round =>
      obtain ⟨k, hk, rfl, hgood, hh⟩ := hrel
      obtain ⟨p0, p1, p2, p3, p4, q0, q1, q2, q3, q4⟩ := held2_cells hh
      have hb := held2_below hh
      by_cases hlt : k < t.kids.length
      · have hlt2 : k < u.kids.length := by have := HL.out; omega
        obtain ⟨b, o, rfl, hx⟩ := HN.out k hlt
        obtain ⟨b2, o2, rfl, hx2⟩ := HN2.out k hlt2
        obtain ⟨c0, c1, c2, c3, c4⟩ := hx.below hb hx.lt
        have hyy := hx2.below hb hx2.lt
        have hq := (HK.out k hlt).keep hb
        have hq2 := (HK2.out k hlt2).keep hb
        obtain ⟨a', cap', S', hS, -⟩ := hq.out
        obtain ⟨a2', cap2', S2', hS2, -⟩ := hq2.out
        rw [hS] at c4 hq
        rw [hS2] at hyy hq2
        have HQ := Lib.hid hq
        have HQ2 := Lib.hid hq2
        have HM := Lib.hid (List.getElem_mem hlt)
        have HT := Lib.hid (sames_take t.kids u.kids k hlt hlt2)
        have HO := Lib.hid (sames_of t.kids u.kids k hlt hlt2)
        clear hS hS2 hq hq2
        have hh2 := held2_alloc hh (.cells #[.int .i64 t.kids[k].k, .int .i64 t.kids[k].i, .int .i64 t.kids[k].j, .int .i64 t.kids[k].n, .slice a' t.kids[k].kids.length cap'] 32)
        obtain ⟨f0, f1, f2, f3, f4, g0, g1, g2, g3, g4⟩ := held2_cells hh2
        obtain ⟨e0, e1, e2, e3, e4⟩ := hyy.below ((Below.refl wr.heap.size wr).alloc (Nat.le_refl _) (.cells #[.int .i64 t.kids[k].k, .int .i64 t.kids[k].i, .int .i64 t.kids[k].j, .int .i64 t.kids[k].n, .slice a' t.kids[k].kids.length cap'] 32)) hyy.lt
        have HNEW := Lib.hid ((Below.refl wr.heap.size wr).alloc (Nat.le_refl _) (.cells #[.int .i64 t.kids[k].k, .int .i64 t.kids[k].i, .int .i64 t.kids[k].j, .int .i64 t.kids[k].n, .slice a' t.kids[k].kids.length cap'] 32))
        go_wp2
        go_region_with (go_at_call 45; refine (IH.out _ HM.out _ _ _ _ (HQ.out.keep HNEW.out.drew) (HQ2.out.keep HNEW.out.drew)).mono ?_; rintro e wn ⟨rfl, hb'⟩; have HB3 := held2_call (held2_drew hh2) hb'; clear hb'; obtain ⟨x0, x1, x2, x3, x4, z0, z1, z2, z3, z4⟩ := held2_cells HB3)
        all_goals
          clear hh hh2 HNEW e0 e1 e2 e3 e4 f0 f1 f2 f3 f4 g0 g1 g2 g3 g4 c0 c1 c2 c3 c4 p0 p1 p2 p3 p4 q0 q1 q2 q3 q4 hb
          cases hs : sameB t.kids[k] u.kids[k]
          · go_wp2
            go_ret
            exact ⟨ret_bool (by rw [HE2.out]; exact (HO.out hs).symm), held2_below HB3⟩
          · go_wp2
            go_roundw
            case rel => exact ⟨k + 1, by omega, by go_num, by show _ = true; rw [HT.out, hgood.out, hs]; rfl, HB3⟩
            case measure => simp [intOf]; omega
      · have : k = t.kids.length := by omega
        subst this
        go_wp2
        go_ret
        exact ⟨ret_bool (by have hg := hgood.out; rw [List.take_length, HL.out, List.take_length] at hg; rw [HE2.out]; exact hg.symm), hb⟩

end Go.Proofs.Ytjlppnmckobcfaa

namespace Go.Proofs.Ytjlppnmckobcfaa
open Go.RowKit

/-- An entry: a type, its level. -/
structure En where
  a : Tm
  i : Int

def En.fine (e : En) : Prop := e.a.fine ∧ I64 e.i

/-- The six cells of an entry at a place. -/
structure ENode (w : World) (b o : Nat) (e : En) (s : Value) : Prop where
  c0 : w.cell? ⟨b, o, none⟩ = some (.int .i64 e.a.k)
  c1 : w.cell? ⟨b, o + 1, none⟩ = some (.int .i64 e.a.i)
  c2 : w.cell? ⟨b, o + 2, none⟩ = some (.int .i64 e.a.j)
  c3 : w.cell? ⟨b, o + 3, none⟩ = some (.int .i64 e.a.n)
  c4 : w.cell? ⟨b, o + 4, none⟩ = some s
  c5 : w.cell? ⟨b, o + 5, none⟩ = some (.int .i64 e.i)

theorem ENode.lt {w : World} {b o : Nat} {e : En} {s : Value} (h : ENode w b o e s) : b < w.heap.size := World.block_lt_of_cell? _ _ h.c0
theorem ENode.below {w w' : World} {b o B : Nat} {e : En} {s : Value} (h : ENode w b o e s) (hb : Below B w w') (hB : b < B) : ENode w' b o e s :=
  ⟨(hb.cell (by exact hB)).trans h.c0, (hb.cell (by exact hB)).trans h.c1, (hb.cell (by exact hB)).trans h.c2, (hb.cell (by exact hB)).trans h.c3, (hb.cell (by exact hB)).trans h.c4, (hb.cell (by exact hB)).trans h.c5⟩
theorem ENode.same {w w' : World} {b o : Nat} {e : En} {s : Value} (h : ENode w b o e s) (hb : w'.heap[b]? = w.heap[b]?) : ENode w' b o e s :=
  ⟨(World.cell?_of_block (a := ⟨b, o, none⟩) hb).trans h.c0, (World.cell?_of_block (a := ⟨b, o + 1, none⟩) hb).trans h.c1, (World.cell?_of_block (a := ⟨b, o + 2, none⟩) hb).trans h.c2,
    (World.cell?_of_block (a := ⟨b, o + 3, none⟩) hb).trans h.c3, (World.cell?_of_block (a := ⟨b, o + 4, none⟩) hb).trans h.c4, (World.cell?_of_block (a := ⟨b, o + 5, none⟩) hb).trans h.c5⟩

/-- Entries that lie behind a slice. -/
structure LiesE (w : World) (l : List En) (s : Value) : Prop where
  out : ∃ (a : Option Addr) (cap : Nat) (S : Nat → Value), s = .slice a l.length cap ∧ l.length ≤ cap ∧ cap ≤ maxLen ∧ (∀ x ∈ l, x.fine) ∧
    (∀ i (h : i < l.length), ∃ b o, a = some ⟨b, o, none⟩ ∧ ENode w b (o + i * 6) l[i] (S i)) ∧ (∀ i (h : i < l.length), Lies w (l[i]).a.kids (S i))

theorem LiesE.keep {w w' : World} {l : List En} {s : Value} (h : LiesE w l s) (hb : Below w.heap.size w w') : LiesE w' l s := by
  obtain ⟨a, cap, S, hs, hc, hm, hf, hn, hk⟩ := h.out
  exact ⟨a, cap, S, hs, hc, hm, hf, fun i hi => by obtain ⟨b, o, ha, hx⟩ := hn i hi; exact ⟨b, o, ha, hx.below hb hx.lt⟩, fun i hi => (hk i hi).keep hb⟩
theorem liesE_nil (w : World) : LiesE w [] (.slice none 0 0) := ⟨none, 0, fun _ => .nilIface, rfl, Nat.le_refl _, by decide, (fun _ h => by cases h), (fun _ h => by cases h), (fun _ h => by cases h)⟩

/-- Is each entry right behind k others? -/
def rightE : Nat → List En → Bool
  | _, [] => true
  | k, e :: r => (decide (0 ≤ e.i) && decide (e.i ≤ 1000) && e.a.markedB && decide (e.a.freeB ≤ (k : Int))) && rightE (k + 1) r
def rightC (c : List En) : Bool := rightE 0 c
def goodE (k : Nat) (e : En) : Bool := decide (0 ≤ e.i) && decide (e.i ≤ 1000) && e.a.markedB && decide (e.a.freeB ≤ (k : Int))
theorem rightE_append (k : Nat) : ∀ (a b : List En), rightE k (a ++ b) = (rightE k a && rightE (k + a.length) b)
  | [], b => by simp [rightE]
  | e :: r, b => by
    have := rightE_append (k + 1) r b
    simp only [List.cons_append, rightE, this, List.length_cons, Bool.and_assoc, show k + 1 + r.length = k + (r.length + 1) by omega]
theorem rightC_take {l : List En} {k : Nat} (h : k < l.length) : rightC (l.take (k + 1)) = (rightC (l.take k) && goodE k l[k]) := by
  have hl : (l.take k).length = k := by simp; omega
  unfold rightC
  rw [List.take_succ_eq_append_getElem h, rightE_append, hl, Nat.zero_add]
  simp only [rightE, goodE, Bool.and_true]
theorem rightC_of {l : List En} {k : Nat} (h : k < l.length) (hg : goodE k l[k] = false) : rightC l = false := by
  have h1 : rightC (l.take (k + 1) ++ l.drop (k + 1)) = rightC l := by rw [List.take_append_drop]
  have h2 : rightC (l.take (k + 1)) = false := by rw [rightC_take h, hg, Bool.and_false]
  rw [← h1]
  unfold rightC at h2 ⊢
  rw [rightE_append, h2, Bool.false_and]
end Go.Proofs.Ytjlppnmckobcfaa

namespace Go.Proofs.Ytjlppnmckobcfaa
open Go.RowKit

/-- Terms behind a slice, in blocks of which P speaks. -/
inductive LiesP (w : World) (P : Nat → Prop) : List Tm → Value → Prop
  | mk (l : List Tm) (a : Option Addr) (cap : Nat) (S : Nat → Value) (hc : l.length ≤ cap) (hm : cap ≤ maxLen) (hf : ∀ x ∈ l, x.fine)
      (hn : ∀ i (h : i < l.length), ∃ b, a = some ⟨b, 0, none⟩ ∧ P b ∧ Node w b (i * 5) l[i] (S i)) (hk : ∀ i (h : i < l.length), LiesP w P (l[i]).kids (S i)) : LiesP w P l (.slice a l.length cap)

theorem LiesP.lies {w : World} {P : Nat → Prop} {l : List Tm} {s : Value} (h : LiesP w P l s) : Lies w l s := by
  induction h with
  | mk l a cap S hc hm hf hn hk ih => exact .mk l a cap S hc hm hf (fun i hi => by obtain ⟨b, ha, _, hx⟩ := hn i hi; exact ⟨b, 0, ha, by rw [Nat.zero_add]; exact hx⟩) ih

theorem Node.same {w w' : World} {b o : Nat} {t : Tm} {s : Value} (h : Node w b o t s) (hb : w'.heap[b]? = w.heap[b]?) : Node w' b o t s :=
  ⟨(World.cell?_of_block (a := ⟨b, o, none⟩) hb).trans h.c0, (World.cell?_of_block (a := ⟨b, o + 1, none⟩) hb).trans h.c1, (World.cell?_of_block (a := ⟨b, o + 2, none⟩) hb).trans h.c2,
    (World.cell?_of_block (a := ⟨b, o + 3, none⟩) hb).trans h.c3, (World.cell?_of_block (a := ⟨b, o + 4, none⟩) hb).trans h.c4⟩

/-- They lie in a later world where their blocks are as they were; P may be turned on the way. -/
theorem LiesP.keep {w w' : World} {P Q : Nat → Prop} {l : List Tm} {s : Value} (h : LiesP w P l s) (hb : ∀ b, P b → b < w.heap.size → w'.heap[b]? = w.heap[b]?) (hq : ∀ b, P b → b < w.heap.size → Q b) : LiesP w' Q l s := by
  induction h with
  | mk l a cap S hc hm hf hn hk ih =>
    exact .mk l a cap S hc hm hf (fun i hi => by obtain ⟨b, ha, hp, hx⟩ := hn i hi; exact ⟨b, ha, hq b hp hx.lt, hx.same (hb b hp hx.lt)⟩) ih

/-- A block of the call's own: new since B, and nothing of it is frozen. -/
def Own (B : Nat) (w : World) (b : Nat) : Prop := B ≤ b ∧ ∃ cs, w.heap[b]? = some (.cells cs 32 (0, 0))
theorem Own.lt {B : Nat} {w : World} {b : Nat} (h : Own B w b) : b < w.heap.size := by obtain ⟨-, cs, h⟩ := h; exact (Array.getElem?_eq_some_iff.1 h).1
theorem Own.same {B : Nat} {w w' : World} {b : Nat} (h : Own B w b) (hb : w'.heap[b]? = w.heap[b]?) : Own B w' b := ⟨h.1, by rw [hb]; exact h.2⟩
theorem Own.later {B : Nat} {w w' : World} {b : Nat} (h : Own B w b) (hb : Below w.heap.size w w') : Own B w' b := h.same (hb.block b h.lt)
theorem Own.from {B B' : Nat} {w : World} {b : Nat} (h : Own B w b) (hB : B' ≤ B) : Own B' w b := ⟨Nat.le_trans hB h.1, h.2⟩

/-- What a call has made lies there later, too. -/
theorem LiesP.later {w w' : World} {B : Nat} {l : List Tm} {s : Value} (h : LiesP w (Own B w) l s) (hb : Below w.heap.size w w') : LiesP w' (Own B w') l s := h.keep (fun b _ hlt => hb.block b hlt) (fun _ hp _ => hp.later hb)
theorem LiesP.from {w : World} {B B' : Nat} {l : List Tm} {s : Value} (h : LiesP w (Own B w) l s) (hB : B' ≤ B) : LiesP w (Own B' w) l s := h.keep (fun _ _ _ => rfl) (fun _ hp _ => hp.from hB)

def cells5 : List (Tm × Value) → List Value
  | [] => []
  | (t, s) :: r => .int .i64 t.k :: .int .i64 t.i :: .int .i64 t.j :: .int .i64 t.n :: s :: cells5 r

theorem cells5_length : ∀ ps : List (Tm × Value), (cells5 ps).length = ps.length * 5
  | [] => rfl
  | (t, s) :: r => by simp [cells5, cells5_length r]; omega
theorem cells5_get : ∀ (ps : List (Tm × Value)) (i : Nat) (h : i < ps.length) (q : Nat), q < 5 → (cells5 ps)[i * 5 + q]? = [Value.int .i64 (ps[i]).1.k, .int .i64 (ps[i]).1.i, .int .i64 (ps[i]).1.j, .int .i64 (ps[i]).1.n, (ps[i]).2][q]?
  | (t, s) :: r, 0, _, q, hq => by
    rw [Nat.zero_mul, Nat.zero_add]
    match q, hq with
    | 0, _ => rfl
    | 1, _ => rfl
    | 2, _ => rfl
    | 3, _ => rfl
    | 4, _ => rfl
  | (t, s) :: r, i + 1, h, q, hq => by
    have := cells5_get r i (by simpa using h) q hq
    rw [show (i + 1) * 5 + q = (i * 5 + q) + 5 by omega]
    simpa [cells5] using this

/-- A list of terms that the call has made so far: v is the slice, ps the terms with the slices of their kids; B: where its own memory begins. -/
structure Made (B : Nat) (w : World) (v : Value) (ps : List (Tm × Value)) : Prop where
  own : w.ownsRow B 32 5 v ps.length (cells5 ps)
  fine : ∀ p ∈ ps, p.1.fine
  kids : ∀ p ∈ ps, LiesP w (fun b => Own B w b ∧ v.ownBlock ≠ some b) p.1.kids p.2

theorem alloc_new (w : World) (o : Obj) : (w.alloc o).heap[w.heap.size]? = some o := by
  unfold World.alloc; simp

/-- A term is stored into a block of five cells. -/
theorem five_set {w : World} {g : Nat} {T : TypeId} {z0 z1 z2 z3 z4 v0 v1 v2 v3 v4 : Value} (h : w.heap[g]? = some (.cells #[z0, z1, z2, z3, z4] T (0, 0))) :
    (((((w.setCell ⟨g, 0, none⟩ v0).setCell ⟨g, 1, none⟩ v1).setCell ⟨g, 2, none⟩ v2).setCell ⟨g, 3, none⟩ v3).setCell ⟨g, 4, none⟩ v4).heap[g]? = some (.cells #[v0, v1, v2, v3, v4] T (0, 0)) :=
  heap_setCell_same _ _ _ _ _ _ (heap_setCell_same _ _ _ _ _ _ (heap_setCell_same _ _ _ _ _ _ (heap_setCell_same _ _ _ _ _ _ (heap_setCell_same _ _ _ _ _ _ h))))

theorem info_term : (Try.prog.info? 32).map (fun i => (i.zero, i.size, i.bytes)) = some (some (.agg #[.int .i64 0, .int .i64 0, .int .i64 0, .int .i64 0, .slice none 0 0]), 5, 56) := by kernel_rfl
end Go.Proofs.Ytjlppnmckobcfaa

namespace Go.Proofs.Ytjlppnmckobcfaa
open Go.RowKit

/-- The five cells of an element, written one behind the other. -/
def put5 (w : World) (g o : Nat) (t : Tm) (s : Value) : World := ((((w.setCell ⟨g, o, none⟩ (.int .i64 t.k)).setCell ⟨g, o + 1, none⟩ (.int .i64 t.i)).setCell ⟨g, o + 2, none⟩ (.int .i64 t.j)).setCell ⟨g, o + 3, none⟩ (.int .i64 t.n)).setCell ⟨g, o + 4, none⟩ s

theorem put5_other (w : World) (g o : Nat) (t : Tm) (s : Value) {b : Nat} (h : b ≠ g) : (put5 w g o t s).heap[b]? = w.heap[b]? := by
  unfold put5; repeat rw [Below.heap_setCell _ _ _ _ (by exact h)]
theorem put5_rest (w : World) (g o : Nat) (t : Tm) (s : Value) : (put5 w g o t s).os = w.os ∧ (put5 w g o t s).tape = w.tape ∧ (put5 w g o t s).output = w.output := by simp [put5, World.setCell]
theorem put5_size (w : World) (g o : Nat) (t : Tm) (s : Value) : (put5 w g o t s).heap.size = w.heap.size := by simp [put5, World.setCell]
theorem put5_block {w : World} {g : Nat} {cs : Array Value} {T : TypeId} (o : Nat) (t : Tm) (s : Value) (h : w.heap[g]? = some (.cells cs T (0, 0))) :
    (put5 w g o t s).heap[g]? = some (.cells (((((cs.setIfInBounds o (.int .i64 t.k)).setIfInBounds (o + 1) (.int .i64 t.i)).setIfInBounds (o + 2) (.int .i64 t.j)).setIfInBounds (o + 3) (.int .i64 t.n)).setIfInBounds (o + 4) s) T (0, 0)) :=
  heap_setCell_same _ _ _ _ _ _ (heap_setCell_same _ _ _ _ _ _ (heap_setCell_same _ _ _ _ _ _ (heap_setCell_same _ _ _ _ _ _ (heap_setCell_same _ _ _ _ _ _ h))))
theorem put5_out (w : World) (g o : Nat) (t : Tm) (s : Value) {q : Nat} (h : q < o ∨ o + 5 ≤ q) : (put5 w g o t s).cell? ⟨g, q, none⟩ = w.cell? ⟨g, q, none⟩ := by
  unfold put5
  repeat rw [World.cell?_setCell_other _ _ _ _ (by intro e; have := congrArg Addr.off e; simp only at this; omega)]
theorem put5_node {w : World} {g o : Nat} {t0 : Tm} {s0 : Value} (t : Tm) (s : Value) (h : Node w g o t0 s0) : Node (put5 w g o t s) g o t s := by
  have ne : ∀ p q : Nat, p ≠ q → (⟨g, p, none⟩ : Addr) ≠ ⟨g, q, none⟩ := fun p q hpq e => hpq (congrArg Addr.off e)
  unfold put5
  refine ⟨?_, ?_, ?_, ?_, ?_⟩
  · rw [World.cell?_setCell_other _ _ _ _ (ne _ _ (by omega)), World.cell?_setCell_other _ _ _ _ (ne _ _ (by omega)), World.cell?_setCell_other _ _ _ _ (ne _ _ (by omega)), World.cell?_setCell_other _ _ _ _ (ne _ _ (by omega))]
    exact World.cell?_setCell_same _ _ _ h.c0
  · rw [World.cell?_setCell_other _ _ _ _ (ne _ _ (by omega)), World.cell?_setCell_other _ _ _ _ (ne _ _ (by omega)), World.cell?_setCell_other _ _ _ _ (ne _ _ (by omega))]
    refine World.cell?_setCell_same _ _ _ (u := .int .i64 t0.i) ?_
    rw [World.cell?_setCell_other _ _ _ _ (ne _ _ (by omega))]; exact h.c1
  · rw [World.cell?_setCell_other _ _ _ _ (ne _ _ (by omega)), World.cell?_setCell_other _ _ _ _ (ne _ _ (by omega))]
    refine World.cell?_setCell_same _ _ _ (u := .int .i64 t0.j) ?_
    rw [World.cell?_setCell_other _ _ _ _ (ne _ _ (by omega)), World.cell?_setCell_other _ _ _ _ (ne _ _ (by omega))]; exact h.c2
  · rw [World.cell?_setCell_other _ _ _ _ (ne _ _ (by omega))]
    refine World.cell?_setCell_same _ _ _ (u := .int .i64 t0.n) ?_
    rw [World.cell?_setCell_other _ _ _ _ (ne _ _ (by omega)), World.cell?_setCell_other _ _ _ _ (ne _ _ (by omega)), World.cell?_setCell_other _ _ _ _ (ne _ _ (by omega))]; exact h.c3
  · refine World.cell?_setCell_same _ _ _ (u := s0) ?_
    rw [World.cell?_setCell_other _ _ _ _ (ne _ _ (by omega)), World.cell?_setCell_other _ _ _ _ (ne _ _ (by omega)), World.cell?_setCell_other _ _ _ _ (ne _ _ (by omega)), World.cell?_setCell_other _ _ _ _ (ne _ _ (by omega))]; exact h.c4
/-- Another element's cells stay. -/
theorem put5_keep {w : World} {g o o' b : Nat} {t x : Tm} {s sx : Value} (h : Node w b o' x sx) (hne : b ≠ g ∨ o' + 5 ≤ o ∨ o + 5 ≤ o') : Node (put5 w g o t s) b o' x sx := by
  by_cases hb : b = g
  · subst hb
    have hne' : o' + 5 ≤ o ∨ o + 5 ≤ o' := hne.resolve_left (fun h => h rfl)
    exact ⟨(put5_out _ _ _ _ _ (by omega)).trans h.c0, (put5_out _ _ _ _ _ (by omega)).trans h.c1, (put5_out _ _ _ _ _ (by omega)).trans h.c2, (put5_out _ _ _ _ _ (by omega)).trans h.c3, (put5_out _ _ _ _ _ (by omega)).trans h.c4⟩
  · exact h.same (put5_other _ _ _ _ _ hb)

/-- A list that was made whole and is filled from the left: block g; xs: the terms as they stand there now. -/
structure Full (B : Nat) (w : World) (g : Nat) (xs : List (Tm × Value)) : Prop where
  above : B ≤ g
  open' : ∃ cs, w.heap[g]? = some (.cells cs 32 (0, 0))
  node : ∀ i (h : i < xs.length), Node w g (i * 5) (xs[i]).1 (xs[i]).2
  fine : ∀ p ∈ xs, p.1.fine
  kids : ∀ p ∈ xs, LiesP w (fun b => Own B w b ∧ b ≠ g) p.1.kids p.2

theorem Full.later {B g : Nat} {w w' : World} {xs : List (Tm × Value)} (h : Full B w g xs) (hb : Below w.heap.size w w') : Full B w' g xs := by
  have hg : g < w.heap.size := by obtain ⟨cs, h⟩ := h.open'; exact (Array.getElem?_eq_some_iff.1 h).1
  exact ⟨h.above, by rw [hb.block g hg]; exact h.open', fun i hi => (h.node i hi).below hb hg, h.fine, fun p hp => (h.kids p hp).keep (fun b _ hlt => hb.block b hlt) (fun _ hq _ => ⟨hq.1.later hb, hq.2⟩)⟩

/-- A new term is laid into it. -/
theorem Full.fill {B g k : Nat} {w : World} {xs : List (Tm × Value)} {t : Tm} {s : Value} (h : Full B w g xs) (hk : k < xs.length) (hf : t.fine) (hl : LiesP w (fun b => Own B w b ∧ b ≠ g) t.kids s) :
    Full B (put5 w g (k * 5) t s) g (xs.set k (t, s)) := by
  have keepL : ∀ l s', LiesP w (fun b => Own B w b ∧ b ≠ g) l s' → LiesP (put5 w g (k * 5) t s) (fun b => Own B (put5 w g (k * 5) t s) b ∧ b ≠ g) l s' := fun l s' h' =>
    h'.keep (fun b hb _ => put5_other _ _ _ _ _ hb.2) (fun b hb _ => ⟨hb.1.same (put5_other _ _ _ _ _ hb.2), hb.2⟩)
  refine ⟨h.above, ?_, fun i hi => ?_, fun p hp => ?_, fun p hp => ?_⟩
  · obtain ⟨cs, hcs⟩ := h.open'; exact ⟨_, put5_block _ _ _ hcs⟩
  · have hi' : i < xs.length := by simpa using hi
    by_cases e : k = i
    · subst e
      simp only [List.getElem_set_self]
      exact put5_node t s (h.node k hk)
    · rw [List.getElem_set_ne e]
      exact put5_keep (h.node i hi') (Or.inr (by omega))
  · rcases List.mem_or_eq_of_mem_set hp with hp | rfl
    · exact h.fine p hp
    · exact hf
  · rcases List.mem_or_eq_of_mem_set hp with hp | rfl
    · exact keepL _ _ (h.kids p hp)
    · exact keepL _ _ hl

/-- A term that a call has just made may be laid into it. -/
theorem Full.fresh {B g : Nat} {wr w2 : World} {xs : List (Tm × Value)} {l : List Tm} {s2 : Value} (h : Full B wr g xs) (hB : B ≤ wr.heap.size) (hk : LiesP w2 (Own wr.heap.size w2) l s2) : LiesP w2 (fun b => Own B w2 b ∧ b ≠ g) l s2 := by
  have hg : g < wr.heap.size := by obtain ⟨cs, h⟩ := h.open'; exact (Array.getElem?_eq_some_iff.1 h).1
  exact hk.keep (fun _ _ _ => rfl) (fun b hb _ => ⟨hb.from hB, by have := hb.1; omega⟩)

/-- The whole list as terms of the call's own memory. -/
theorem Full.lies {B g cap : Nat} {w : World} {xs : List (Tm × Value)} (h : Full B w g xs) (hc : xs.length ≤ cap) (hm : cap ≤ maxLen) : LiesP w (Own B w) (xs.map (·.1)) (.slice (some ⟨g, 0, none⟩) xs.length cap) := by
  have := LiesP.mk (w := w) (P := Own B w) (xs.map (·.1)) (some ⟨g, 0, none⟩) cap (fun i => (xs[i]?.map (·.2)).getD (.slice none 0 0)) (by simpa using hc) hm
    (fun x hx => by obtain ⟨p, hp, rfl⟩ := List.mem_map.1 hx; exact h.fine p hp)
    (fun i hi => by
      have hi' : i < xs.length := by simpa using hi
      refine ⟨g, rfl, ⟨h.above, h.open'⟩, ?_⟩
      simp only [List.getElem_map, List.getElem?_eq_getElem hi', Option.map_some, Option.getD_some]
      exact h.node i hi')
    (fun i hi => by
      have hi' : i < xs.length := by simpa using hi
      simp only [List.getElem_map, List.getElem?_eq_getElem hi', Option.map_some, Option.getD_some]
      exact (h.kids _ (List.getElem_mem hi')).keep (fun _ _ _ => rfl) (fun _ hb _ => hb.1))
  simpa using this

theorem liesP_nil (w : World) (P : Nat → Prop) : LiesP w P [] (.slice none 0 0) := .mk [] none 0 (fun _ => .nilIface) (Nat.le_refl _) (by decide) (fun _ h => by cases h) (fun _ h => by cases h) (fun _ h => by cases h)

/-- All blocks of which P speaks are open. -/
def Free (P : Nat → Prop) (w : World) : Prop := ∀ b, P b → ∃ cs, w.heap[b]? = some (.cells cs 32 (0, 0))

/-- Whatever lay there lies there still, no greater than it was; what P doesn't speak of is as it was. -/
def Shr (P : Nat → Prop) (w w' : World) : Prop := Free P w' ∧ w.heap.size ≤ w'.heap.size ∧ (w'.os = w.os ∧ w'.tape = w.tape ∧ w'.output = w.output) ∧ (∀ b, b < w.heap.size → ¬ P b → w'.heap[b]? = w.heap[b]?) ∧ ∀ l s, LiesP w P l s → ∃ l', l'.length = l.length ∧ sizes l' ≤ sizes l ∧ LiesP w' P l' s

theorem sizes_map_le {n : Nat} (f : Nat → Tm) : ∀ (l : List Tm), l.length = n → (∀ i (h : i < l.length), (f i).size ≤ (l[i]).size) → sizes ((List.range n).map f) ≤ sizes l := by
  intro l hl h
  subst hl
  induction l generalizing f with
  | nil => simp [sizes]
  | cons a r ih =>
    have h0 := h 0 (by simp)
    simp only [List.getElem_cons_zero] at h0
    have := ih (fun i => f (i + 1)) (fun i hi => by have := h (i + 1) (by simpa using hi); simpa using this)
    rw [List.length_cons, List.range_succ_eq_map, List.map_cons, List.map_map]
    simp only [sizes]
    have e : ((fun i => f (i + 1))) = f ∘ Nat.succ := rfl
    rw [e] at this
    omega

instance : Inhabited (Tm × Value) := ⟨(.mk 0 0 0 0 [], .nilIface)⟩

/-- An element is overwritten by a term without kids. -/
theorem LiesP.store {w : World} {P : Nat → Prop} {g j : Nat} {z : Tm} (hz : z.kids = []) (hzf : z.fine) {l : List Tm} {s : Value} (h : LiesP w P l s) :
    ∃ l', l'.length = l.length ∧ sizes l' ≤ sizes l ∧ LiesP (put5 w g (j * 5) z (.slice none 0 0)) P l' s := by
  induction h with
  | mk l a cap S hc hm hf hn hk ih =>
    have key : ∀ i, i < l.length → ∃ p : Tm × Value, p.1.fine ∧ (∀ h : i < l.length, p.1.size ≤ (l[i]).size) ∧ LiesP (put5 w g (j * 5) z (.slice none 0 0)) P p.1.kids p.2 ∧ ∃ b, a = some ⟨b, 0, none⟩ ∧ P b ∧ Node (put5 w g (j * 5) z (.slice none 0 0)) b (i * 5) p.1 p.2 := by
      intro i hi
      obtain ⟨b, ha, hp, hx⟩ := hn i hi
      by_cases e : b = g ∧ i = j
      · obtain ⟨rfl, rfl⟩ := e
        refine ⟨(z, .slice none 0 0), hzf, fun _ => ?_, by rw [hz]; exact liesP_nil _ _, b, ha, hp, put5_node _ _ hx⟩
        rw [Tm.size_eq, Tm.size_eq, hz]; simp [sizes]
      · obtain ⟨l', h1, h2, h3⟩ := ih i hi
        have hfi := hf _ (List.getElem_mem hi)
        refine ⟨(.mk (l[i]).k (l[i]).i (l[i]).j (l[i]).n l', S i), hfi, fun _ => ?_, h3, b, ha, hp, ?_⟩
        · rw [Tm.size_eq, Tm.size_eq]; show sizes l' + 1 ≤ _; omega
        · have : Node w b (i * 5) (.mk (l[i]).k (l[i]).i (l[i]).j (l[i]).n l') (S i) := ⟨hx.c0, hx.c1, hx.c2, hx.c3, hx.c4⟩
          exact put5_keep this (by by_cases hb : b = g
                                   · right; have : i ≠ j := fun e' => e ⟨hb, e'⟩; omega
                                   · exact Or.inl hb)
    obtain ⟨f, hf'⟩ := Go.Deep.choose_lt (α := Tm × Value) (p := fun i p => p.1.fine ∧ (∀ h : i < l.length, p.1.size ≤ (l[i]).size) ∧ LiesP (put5 w g (j * 5) z (.slice none 0 0)) P p.1.kids p.2 ∧ ∃ b, a = some ⟨b, 0, none⟩ ∧ P b ∧ Node (put5 w g (j * 5) z (.slice none 0 0)) b (i * 5) p.1 p.2) key
    have hl5 : ((List.range l.length).map fun i => (f i).1).length = l.length := by simp
    refine ⟨(List.range l.length).map fun i => (f i).1, hl5, sizes_map_le (fun i => (f i).1) l rfl (fun i hi => (hf' i hi).2.1 hi), ?_⟩
    have := LiesP.mk (w := put5 w g (j * 5) z (.slice none 0 0)) (P := P) ((List.range l.length).map fun i => (f i).1) a cap (fun i => (f i).2) (by simpa using hc) hm
      (fun x hx => by obtain ⟨i, hi, rfl⟩ := List.mem_map.1 hx; exact (hf' i (List.mem_range.1 hi)).1)
      (fun i hi => by obtain ⟨b, ha, hp, hn⟩ := (hf' i (by simpa using hi)).2.2.2; exact ⟨b, ha, hp, by simpa using hn⟩)
      (fun i hi => by simpa using (hf' i (by simpa using hi)).2.2.1)
    rwa [hl5] at this

theorem Shr.trans {P : Nat → Prop} {w w1 w2 : World} (h : Shr P w w1) (h' : Shr P w1 w2) : Shr P w w2 := by
  obtain ⟨a1, a2, a3, a4, a5⟩ := h
  obtain ⟨b1, b2, b3, b4, b5⟩ := h'
  refine ⟨b1, Nat.le_trans a2 b2, ⟨b3.1.trans a3.1, b3.2.1.trans a3.2.1, b3.2.2.trans a3.2.2⟩, fun b hb hp => (b4 b (by omega) hp).trans (a4 b hb hp), fun l s hl => ?_⟩
  obtain ⟨l1, e1, f1, g1⟩ := a5 l s hl
  obtain ⟨l2, e2, f2, g2⟩ := b5 l1 s g1
  exact ⟨l2, e2.trans e1, Nat.le_trans f2 f1, g2⟩

theorem Shr.put {P : Nat → Prop} {w : World} {g j : Nat} {z : Tm} (hz : z.kids = []) (hzf : z.fine) (hf : Free P w) (hg : P g) : Shr P w (put5 w g (j * 5) z (.slice none 0 0)) := by
  refine ⟨fun b hb => ?_, by rw [put5_size]; exact Nat.le_refl _, put5_rest _ _ _ _ _, fun b _ hp => put5_other _ _ _ _ _ (fun e => hp (e ▸ hg)), fun l s hl => hl.store hz hzf⟩
  by_cases e : b = g
  · subst e; obtain ⟨cs, hcs⟩ := hf b hb; exact ⟨_, put5_block _ _ _ hcs⟩
  · rw [put5_other _ _ _ _ _ e]; exact hf b hb

theorem Shr.alloc {P : Nat → Prop} {w : World} (o : Obj) (hP : ∀ b, P b → b < w.heap.size) (hf : Free P w) : Shr P w (w.alloc o) :=
  ⟨fun b hb => by rw [Below.heap_alloc _ _ _ (hP b hb)]; exact hf b hb, by simp, ⟨rfl, rfl, rfl⟩, fun b hb _ => Below.heap_alloc _ _ _ hb,
    fun l s hl => ⟨l, rfl, Nat.le_refl _, hl.keep (fun b _ hlt => Below.heap_alloc _ _ _ hlt) (fun _ hp _ => hp)⟩⟩

theorem Shr.below {P : Nat → Prop} {w w' : World} {B : Nat} (h : Shr P w w') (hP : ∀ b, P b → B ≤ b) (hB : B ≤ w.heap.size) : Below B w w' :=
  ⟨h.2.2.1.1, h.2.2.1.2.1, h.2.2.1.2.2, h.2.1, fun k hk => h.2.2.2.1 k (by omega) (fun hp => by have := hP k hp; omega)⟩
end Go.Proofs.Ytjlppnmckobcfaa

namespace Go.Proofs.Ytjlppnmckobcfaa
open Go.RowKit

/-- A block of entries of the call's own. -/
def OwnE (B : Nat) (w : World) (b : Nat) : Prop := B ≤ b ∧ ∃ cs, w.heap[b]? = some (.cells cs 52 (0, 0))
theorem OwnE.same {B : Nat} {w w' : World} {b : Nat} (h : OwnE B w b) (hb : w'.heap[b]? = w.heap[b]?) : OwnE B w' b := ⟨h.1, by rw [hb]; exact h.2⟩

/-- Entries behind a slice, all in memory from block B on that is open. -/
structure LiesEP (w : World) (B : Nat) (l : List En) (s : Value) : Prop where
  out : ∃ (a : Option Addr) (cap : Nat) (S : Nat → Value), s = .slice a l.length cap ∧ l.length ≤ cap ∧ cap ≤ maxLen ∧ (∀ x ∈ l, x.fine) ∧
    (∀ i (h : i < l.length), ∃ b, a = some ⟨b, 0, none⟩ ∧ OwnE B w b ∧ ENode w b (i * 6) l[i] (S i)) ∧ (∀ i (h : i < l.length), LiesP w (Own B w) (l[i]).a.kids (S i))
theorem LiesEP.lies {w : World} {B : Nat} {l : List En} {s : Value} (h : LiesEP w B l s) : LiesE w l s := by
  obtain ⟨a, cap, S, hs, hc, hm, hf, hn, hk⟩ := h.out
  exact ⟨a, cap, S, hs, hc, hm, hf, fun i hi => by obtain ⟨b, ha, _, hx⟩ := hn i hi; exact ⟨b, 0, ha, by rw [Nat.zero_add]; exact hx⟩, fun i hi => (hk i hi).lies⟩
theorem LiesEP.keep {w w' : World} {B : Nat} {l : List En} {s : Value} (h : LiesEP w B l s) (hb : ∀ b, B ≤ b → b < w.heap.size → w'.heap[b]? = w.heap[b]?) : LiesEP w' B l s := by
  obtain ⟨a, cap, S, hs, hc, hm, hf, hn, hk⟩ := h.out
  exact ⟨a, cap, S, hs, hc, hm, hf, fun i hi => by obtain ⟨b, ha, hp, hx⟩ := hn i hi; exact ⟨b, ha, hp.same (hb b hp.1 hx.lt), hx.same (hb b hp.1 hx.lt)⟩,
    fun i hi => (hk i hi).keep (fun b hp hlt => hb b hp.1 hlt) (fun b hp hlt => hp.same (hb b hp.1 hlt))⟩
theorem LiesEP.later {w w' : World} {B : Nat} {l : List En} {s : Value} (h : LiesEP w B l s) (hb : Below w.heap.size w w') : LiesEP w' B l s := h.keep (fun b _ hlt => hb.block b hlt)
theorem LiesEP.from {w : World} {B B' : Nat} {l : List En} {s : Value} (h : LiesEP w B l s) (hB : B' ≤ B) : LiesEP w B' l s := by
  obtain ⟨a, cap, S, hs, hc, hm, hf, hn, hk⟩ := h.out
  exact ⟨a, cap, S, hs, hc, hm, hf, fun i hi => by obtain ⟨b, ha, hp, hx⟩ := hn i hi; exact ⟨b, ha, ⟨Nat.le_trans hB hp.1, hp.2⟩, hx⟩, fun i hi => (hk i hi).from hB⟩
/-- What a call hands back that makes entries: in new memory. -/
def MakesE (l : List En) (w : World) (e : Ending) (w' : World) : Prop := ∃ s' : Value, e = .returned s' ∧ LiesEP w' w.heap.size l s' ∧ Below w.heap.size w w'

def cells6 : List (En × Value) → List Value
  | [] => []
  | (t, s) :: r => .int .i64 t.a.k :: .int .i64 t.a.i :: .int .i64 t.a.j :: .int .i64 t.a.n :: s :: .int .i64 t.i :: cells6 r
theorem cells6_length : ∀ ps : List (En × Value), (cells6 ps).length = ps.length * 6
  | [] => rfl
  | (t, s) :: r => by simp [cells6, cells6_length r]; omega
theorem cells6_append : ∀ ps qs : List (En × Value), cells6 (ps ++ qs) = cells6 ps ++ cells6 qs
  | [], qs => rfl
  | (t, s) :: r, qs => by simp [cells6, cells6_append r qs]
theorem cells6_get : ∀ (ps : List (En × Value)) (i : Nat) (h : i < ps.length) (q : Nat), q < 6 → (cells6 ps)[i * 6 + q]? = [Value.int .i64 (ps[i]).1.a.k, .int .i64 (ps[i]).1.a.i, .int .i64 (ps[i]).1.a.j, .int .i64 (ps[i]).1.a.n, (ps[i]).2, .int .i64 (ps[i]).1.i][q]?
  | (t, s) :: r, 0, _, q, hq => by
    rw [Nat.zero_mul, Nat.zero_add]
    match q, hq with
    | 0, _ => rfl
    | 1, _ => rfl
    | 2, _ => rfl
    | 3, _ => rfl
    | 4, _ => rfl
    | 5, _ => rfl
  | (t, s) :: r, i + 1, h, q, hq => by
    have := cells6_get r i (by simpa using h) q hq
    rw [show (i + 1) * 6 + q = (i * 6 + q) + 6 by omega]
    simpa [cells6] using this

/-- A row of entries that the call has made so far. -/
structure MadeE (B : Nat) (w : World) (v : Value) (ps : List (En × Value)) : Prop where
  own : w.ownsRow B 52 6 v ps.length (cells6 ps)
  fine : ∀ p ∈ ps, p.1.fine
  kids : ∀ p ∈ ps, LiesP w (fun b => Own B w b ∧ v.ownBlock ≠ some b) p.1.a.kids p.2
theorem madeE_later {B : Nat} {w w' : World} {v : Value} {ps : List (En × Value)} (h : MadeE B w v ps) (hb : Below w.heap.size w w') : MadeE B w' v ps := by
  refine ⟨?_, h.fine, fun p hp => (h.kids p hp).keep (fun b _ hlt => hb.block b hlt) (fun _ hq _ => ⟨hq.1.later hb, hq.2⟩)⟩
  obtain ⟨h1, h2⟩ := h.own
  refine ⟨h1, ?_⟩
  rcases h2 with h2 | ⟨g, cap, cur, hv, hg, hh, r⟩
  · exact Or.inl h2
  · refine Or.inr ⟨g, cap, cur, hv, hg, ?_, r⟩
    rw [hb.block g ?_]; exact hh
    exact (Array.getElem?_eq_some_iff.1 hh).1
theorem madeE_block {B : Nat} {w : World} {v : Value} {ps : List (En × Value)} (h : MadeE B w v ps) {b : Nat} (hb : w.heap.size ≤ b) : v.ownBlock ≠ some b := by
  rcases h.own.2 with ⟨rfl, -⟩ | ⟨g, cap, cur, rfl, -, hh, -⟩
  · simp [Value.ownBlock]
  · have := (Array.getElem?_eq_some_iff.1 hh).1
    simp [Value.ownBlock]; omega
theorem madeE_step {B : Nat} {w w1 : World} {v : Value} {ps : List (En × Value)} {p : En × Value} {g cap : Nat} (h : MadeE B w v ps) (hf : p.1.fine) (hk : LiesP w (fun b => Own B w b ∧ v.ownBlock ≠ some b) p.1.a.kids p.2)
    (hown : w1.ownsRow B 52 6 (.slice (some ⟨g, 0, none⟩) (ps.length + 1) cap) (ps.length + 1) (cells6 ps ++ cells6 [p])) (hgrow : w.grownBy w1 v.ownBlock) (hg : v.ownBlock = some g ∨ g = w.heap.size) :
    MadeE B w1 (.slice (some ⟨g, 0, none⟩) (ps.length + 1) cap) (ps ++ [p]) := by
  have keep : ∀ q : En × Value, LiesP w (fun b => Own B w b ∧ v.ownBlock ≠ some b) q.1.a.kids q.2 → LiesP w1 (fun b => Own B w1 b ∧ (Value.slice (some ⟨g, 0, none⟩) (ps.length + 1) cap).ownBlock ≠ some b) q.1.a.kids q.2 := fun q hq =>
    hq.keep (fun b hb hlt => hgrow.block b hlt (fun e => hb.2 e.symm)) (fun b hb hlt => ⟨hb.1.same (hgrow.block b hlt (fun e => hb.2 e.symm)), by
      show some g ≠ some b
      rcases hg with e | e
      · rw [← e]; exact hb.2
      · intro e'; have := Option.some.inj e'; omega⟩)
  refine ⟨by rw [cells6_append]; simpa using hown, fun q hq => ?_, fun q hq => ?_⟩
  · rcases List.mem_append.1 hq with hq | hq
    · exact h.fine q hq
    · rw [List.mem_singleton.1 hq]; exact hf
  · rcases List.mem_append.1 hq with hq | hq
    · exact keep q (h.kids q hq)
    · rw [List.mem_singleton.1 hq]; exact keep p hk
theorem madeE_lies {B : Nat} {w : World} {v : Value} {ps : List (En × Value)} (h : MadeE B w v ps) : LiesEP w B (ps.map (·.1)) v := by
  have fin : ∀ x ∈ ps.map (·.1), x.fine := fun x hx => by obtain ⟨p, hp, rfl⟩ := List.mem_map.1 hx; exact h.fine p hp
  have kid : ∀ i (hi : i < ps.length), LiesP w (Own B w) (ps[i]).1.a.kids (ps[i]).2 := fun i hi => (h.kids _ (List.getElem_mem hi)).keep (fun _ _ _ => rfl) (fun _ hb _ => hb.1)
  obtain ⟨-, ⟨rfl, hn⟩ | ⟨g, cap, cur, rfl, hg, hh, hnc, hcm, hsz, htk⟩⟩ := h.own
  · obtain rfl : ps = [] := List.eq_nil_of_length_eq_zero hn
    exact ⟨none, 0, fun _ => .nilIface, rfl, Nat.le_refl _, by decide, (fun _ h => by cases h), (fun _ h => by cases h), (fun _ h => by cases h)⟩
  · refine ⟨some ⟨g, 0, none⟩, cap, fun i => (ps[i]?.map (·.2)).getD (.slice none 0 0), by simp, by simpa using hnc, hcm, fin, fun i hi => ?_, fun i hi => ?_⟩
    · have hi' : i < ps.length := by simpa using hi
      refine ⟨g, rfl, ⟨hg, cur, hh⟩, ?_⟩
      · simp only [List.getElem_map, List.getElem?_eq_getElem hi', Option.map_some, Option.getD_some]
        have cellq : ∀ q, q < 6 → w.cell? ⟨g, i * 6 + q, none⟩ = [Value.int .i64 (ps[i]).1.a.k, .int .i64 (ps[i]).1.a.i, .int .i64 (ps[i]).1.a.j, .int .i64 (ps[i]).1.a.n, (ps[i]).2, .int .i64 (ps[i]).1.i][q]? := fun q hq => by
          rw [h.own.cellAt (i * 6 + q) (by omega)]; exact cells6_get ps i hi' q hq
        exact ⟨cellq 0 (by omega), cellq 1 (by omega), cellq 2 (by omega), cellq 3 (by omega), cellq 4 (by omega), cellq 5 (by omega)⟩
    · have hi' : i < ps.length := by simpa using hi
      simp only [List.getElem_map, List.getElem?_eq_getElem hi', Option.map_some, Option.getD_some]
      exact kid i hi'

/-- The six cells of an element, written one behind the other. -/
def put6 (w : World) (g o : Nat) (t : En) (s : Value) : World := (put5 w g o t.a s).setCell ⟨g, o + 5, none⟩ (.int .i64 t.i)
theorem put6_other (w : World) (g o : Nat) (t : En) (s : Value) {b : Nat} (h : b ≠ g) : (put6 w g o t s).heap[b]? = w.heap[b]? := by
  unfold put6; rw [Below.heap_setCell _ _ _ _ (by exact h), put5_other _ _ _ _ _ h]
theorem put6_below {B : Nat} {w w1 : World} (h : Below B w w1) {g : Nat} (hg : B ≤ g) (o : Nat) (t : En) (s : Value) : Below B w (put6 w1 g o t s) := by
  unfold put6 put5
  exact (((((h.setCell hg _).setCell hg _).setCell hg _).setCell hg _).setCell hg _).setCell hg _
theorem ENode.node {w : World} {b o : Nat} {e : En} {s : Value} (h : ENode w b o e s) : Node w b o e.a s := ⟨h.c0, h.c1, h.c2, h.c3, h.c4⟩
theorem ENode.of {w : World} {b o : Nat} {e : En} {s : Value} (h : Node w b o e.a s) (h5 : w.cell? ⟨b, o + 5, none⟩ = some (.int .i64 e.i)) : ENode w b o e s := ⟨h.c0, h.c1, h.c2, h.c3, h.c4, h5⟩
theorem put6_node {w : World} {g o : Nat} {t0 : En} {s0 : Value} (t : En) (s : Value) (h : ENode w g o t0 s0) : ENode (put6 w g o t s) g o t s := by
  have ne : ∀ p q : Nat, p ≠ q → (⟨g, p, none⟩ : Addr) ≠ ⟨g, q, none⟩ := fun p q hpq e => hpq (congrArg Addr.off e)
  have hn := put5_node t.a s h.node
  unfold put6
  refine ⟨?_, ?_, ?_, ?_, ?_, ?_⟩
  · rw [World.cell?_setCell_other _ _ _ _ (ne _ _ (by omega))]; exact hn.c0
  · rw [World.cell?_setCell_other _ _ _ _ (ne _ _ (by omega))]; exact hn.c1
  · rw [World.cell?_setCell_other _ _ _ _ (ne _ _ (by omega))]; exact hn.c2
  · rw [World.cell?_setCell_other _ _ _ _ (ne _ _ (by omega))]; exact hn.c3
  · rw [World.cell?_setCell_other _ _ _ _ (ne _ _ (by omega))]; exact hn.c4
  · refine World.cell?_setCell_same _ _ _ (u := .int .i64 t0.i) ?_
    rw [put5_out _ _ _ _ _ (by omega)]; exact h.c5
theorem put6_keep {w : World} {g o o' b : Nat} {t x : En} {s sx : Value} (h : ENode w b o' x sx) (hne : b ≠ g ∨ o' + 6 ≤ o ∨ o + 6 ≤ o') : ENode (put6 w g o t s) b o' x sx := by
  by_cases hb : b = g
  · subst hb
    have hne' : o' + 6 ≤ o ∨ o + 6 ≤ o' := hne.resolve_left (fun h => h rfl)
    have ne : ∀ p q : Nat, p ≠ q → (⟨b, p, none⟩ : Addr) ≠ ⟨b, q, none⟩ := fun p q hpq e => hpq (congrArg Addr.off e)
    have hn := put5_keep (g := b) (o := o) (t := t.a) (s := s) h.node (Or.inr (by omega))
    unfold put6
    refine ⟨?_, ?_, ?_, ?_, ?_, ?_⟩
    · rw [World.cell?_setCell_other _ _ _ _ (ne _ _ (by omega))]; exact hn.c0
    · rw [World.cell?_setCell_other _ _ _ _ (ne _ _ (by omega))]; exact hn.c1
    · rw [World.cell?_setCell_other _ _ _ _ (ne _ _ (by omega))]; exact hn.c2
    · rw [World.cell?_setCell_other _ _ _ _ (ne _ _ (by omega))]; exact hn.c3
    · rw [World.cell?_setCell_other _ _ _ _ (ne _ _ (by omega))]; exact hn.c4
    · rw [World.cell?_setCell_other _ _ _ _ (ne _ _ (by omega)), put5_out _ _ _ _ _ (by omega)]; exact h.c5
  · exact h.same (put6_other _ _ _ _ _ hb)

/-- A row that was made whole and is filled from the left: block g; xs: the entries as they stand there now. -/
structure FullE (B : Nat) (w : World) (g : Nat) (xs : List (En × Value)) : Prop where
  above : B ≤ g
  open' : ∃ cs, w.heap[g]? = some (.cells cs 52 (0, 0))
  node : ∀ i (h : i < xs.length), ENode w g (i * 6) (xs[i]).1 (xs[i]).2
  fine : ∀ p ∈ xs, p.1.fine
  kids : ∀ p ∈ xs, LiesP w (fun b => Own B w b ∧ b ≠ g) p.1.a.kids p.2
theorem FullE.lt {B g : Nat} {w : World} {xs : List (En × Value)} (h : FullE B w g xs) : g < w.heap.size := by obtain ⟨cs, h⟩ := h.open'; exact (Array.getElem?_eq_some_iff.1 h).1
theorem FullE.later {B g : Nat} {w w' : World} {xs : List (En × Value)} (h : FullE B w g xs) (hb : Below w.heap.size w w') : FullE B w' g xs :=
  ⟨h.above, by rw [hb.block g h.lt]; exact h.open', fun i hi => (h.node i hi).below hb h.lt, h.fine, fun p hp => (h.kids p hp).keep (fun b _ hlt => hb.block b hlt) (fun _ hq _ => ⟨hq.1.later hb, hq.2⟩)⟩
theorem FullE.fill {B g k : Nat} {w : World} {xs : List (En × Value)} {t : En} {s : Value} (h : FullE B w g xs) (hk : k < xs.length) (hf : t.fine) (hl : LiesP w (fun b => Own B w b ∧ b ≠ g) t.a.kids s) :
    FullE B (put6 w g (k * 6) t s) g (xs.set k (t, s)) := by
  have keepL : ∀ l s', LiesP w (fun b => Own B w b ∧ b ≠ g) l s' → LiesP (put6 w g (k * 6) t s) (fun b => Own B (put6 w g (k * 6) t s) b ∧ b ≠ g) l s' := fun l s' h' =>
    h'.keep (fun b hb _ => put6_other _ _ _ _ _ hb.2) (fun b hb _ => ⟨hb.1.same (put6_other _ _ _ _ _ hb.2), hb.2⟩)
  refine ⟨h.above, ?_, fun i hi => ?_, fun p hp => ?_, fun p hp => ?_⟩
  · obtain ⟨cs, hcs⟩ := h.open'
    exact ⟨_, heap_setCell_same _ _ _ _ _ _ (put5_block _ _ _ hcs)⟩
  · have hi' : i < xs.length := by simpa using hi
    by_cases e : k = i
    · subst e
      simp only [List.getElem_set_self]
      exact put6_node t s (h.node k hk)
    · rw [List.getElem_set_ne e]
      exact put6_keep (h.node i hi') (Or.inr (by omega))
  · rcases List.mem_or_eq_of_mem_set hp with hp | rfl
    · exact h.fine p hp
    · exact hf
  · rcases List.mem_or_eq_of_mem_set hp with hp | rfl
    · exact keepL _ _ (h.kids p hp)
    · exact keepL _ _ hl
theorem FullE.fresh {B g : Nat} {wr w2 : World} {xs : List (En × Value)} {l : List Tm} {s2 : Value} (h : FullE B wr g xs) (hB : B ≤ wr.heap.size) (hk : LiesP w2 (Own wr.heap.size w2) l s2) : LiesP w2 (fun b => Own B w2 b ∧ b ≠ g) l s2 := by
  have hg := h.lt
  exact hk.keep (fun _ _ _ => rfl) (fun b hb _ => ⟨hb.from hB, by have := hb.1; omega⟩)
theorem FullE.lies {B g cap : Nat} {w : World} {xs : List (En × Value)} (h : FullE B w g xs) (hc : xs.length ≤ cap) (hm : cap ≤ maxLen) : LiesEP w B (xs.map (·.1)) (.slice (some ⟨g, 0, none⟩) xs.length cap) := by
  refine ⟨some ⟨g, 0, none⟩, cap, fun i => (xs[i]?.map (·.2)).getD (.slice none 0 0), by simp, by simpa using hc, hm, (fun x hx => by obtain ⟨p, hp, rfl⟩ := List.mem_map.1 hx; exact h.fine p hp), fun i hi => ?_, fun i hi => ?_⟩
  · have hi' : i < xs.length := by simpa using hi
    refine ⟨g, rfl, ⟨h.above, h.open'⟩, ?_⟩
    simp only [List.getElem_map, List.getElem?_eq_getElem hi', Option.map_some, Option.getD_some]
    exact h.node i hi'
  · have hi' : i < xs.length := by simpa using hi
    simp only [List.getElem_map, List.getElem?_eq_getElem hi', Option.map_some, Option.getD_some]
    exact (h.kids _ (List.getElem_mem hi')).keep (fun _ _ _ => rfl) (fun _ hb _ => hb.1)

/-- An entry is appended that was laid into a block of its own. -/
theorem newsE (w : World) (t : En) (s : Value) (T : TypeId) : ∀ j u, (cells6 [(t, s)])[j]? = some u → (w.alloc (.cells #[.int .i64 t.a.k, .int .i64 t.a.i, .int .i64 t.a.j, .int .i64 t.a.n, s, .int .i64 t.i] T)).cell? ((⟨w.heap.size, 0, none⟩ : Addr).add j) = some u :=
  World.news_of_block (alloc_new w _)
theorem madeE_above {B : Nat} {w : World} {v : Value} {ps : List (En × Value)} (h : MadeE B w v ps) : ∀ k, v.ownBlock = some k → B ≤ k := fun k hk => (h.own.lt k hk).1
theorem madeE_push {B : Nat} {wr w2 w3 : World} {v : Value} {ps : List (En × Value)} {t : En} {s2 : Value} {g cap : Nat} (h : MadeE B wr v ps) (hf : t.fine) (hB : B ≤ wr.heap.size) (hb2 : Below wr.heap.size wr w2) (hk : LiesP w2 (Own wr.heap.size w2) t.a.kids s2) (o : Obj)
    (hown : w3.ownsRow B 52 6 (.slice (some ⟨g, 0, none⟩) (ps.length + 1) cap) (ps.length + 1) (cells6 ps ++ cells6 [(t, s2)])) (hgrow : (w2.alloc o).grownBy w3 v.ownBlock) (hat : v.ownBlock = some g ∨ g = w2.heap.size + 1) :
    MadeE B w3 (.slice (some ⟨g, 0, none⟩) (ps.length + 1) cap) (ps ++ [(t, s2)]) :=
  madeE_step (madeE_later (madeE_later h hb2) ((Below.refl _ _).alloc (Nat.le_refl _) _)) hf
    (hk.keep (fun b _ hlt => Below.heap_alloc _ _ _ hlt) (fun b hb hlt => ⟨(hb.same (Below.heap_alloc _ _ _ hlt)).from hB, madeE_block h hb.1⟩)) hown hgrow (by simpa using hat)
theorem info_entry : (Try.prog.info? 52).map (fun i => (i.zero, i.size, i.bytes)) = some (some (.agg #[.int .i64 0, .int .i64 0, .int .i64 0, .int .i64 0, .slice none 0 0, .int .i64 0]), 6, 64) := by kernel_rfl
end Go.Proofs.Ytjlppnmckobcfaa

namespace Go.Proofs.Ytjlppnmckobcfaa
open Go.RowKit

set_option maxHeartbeats 1000000 in
theorem terms_of (l : List Tm) (ih : ∀ x ∈ l, ∀ (y : Tm) (w : World) (s r : Value), Lies w x.kids s → Lies w y.kids r → Calls Try.prog 18 #[tv x s, tv y r] w fun e w' => e = .returned (.bool (sameB x y)) ∧ Below w.heap.size w w')
    (m : List Tm) (w : World) (s r : Value) (hl : Lies w l s) (hm : Lies w m r) : Calls Try.prog 40 #[s, r] w fun e w' => e = .returned (.bool (samesB l m)) ∧ Below w.heap.size w w' := by
  obtain ⟨a, cap, S, rfl, hc, hmx, -, hn, hk⟩ := hl.out
  obtain ⟨a2, cap2, S2, rfl, hc2, hmx2, -, hn2, hk2⟩ := hm.out
  unfold maxLen at hmx hmx2
  have IH := Lib.hid ih
  have HN := Lib.hid hn
  have HK := Lib.hid hk
  have HN2 := Lib.hid hn2
  have HK2 := Lib.hid hk2
  clear ih hn hk hn2 hk2 hl hm
  by_cases hlen : l.length = m.length
  rotate_left
  · have h1 : ((l.length : Int) == (m.length : Int)) = false := by simp; omega
    have h2 : ((l.length : Int) != (m.length : Int)) = true := by simp; omega
    have HS := Lib.hid (sames_ne hlen)
    clear hlen
    go_enter Try.func40, Try.ntmps40
    go_wp2
    go_ret
    exact ⟨ret_bool HS.out.symm, Below.refl _ _⟩
  have h1 : ((l.length : Int) == (m.length : Int)) = true := by simp; omega
  have h2 : ((l.length : Int) != (m.length : Int)) = false := by simp; omega
  have HL := Lib.hid hlen
  clear hlen
  go_enter Try.func40, Try.ntmps40
  go_wp2
  go_loopw [5] (fun iv wr => ∃ k : Nat, k ≤ l.length ∧ iv = .int .i64 k ∧ Hid (samesB (l.take k) (m.take k) = true) ∧ Below w.heap.size w wr) (fun iv _ => l.length - (intOf iv).toNat)
  case atStart => exact ⟨0, Nat.zero_le _, rfl, by simp [Hid, samesB], Below.refl _ _⟩
  case round =>
    obtain ⟨k, hk, rfl, hgood, hb⟩ := hrel
    by_cases hlt : k < l.length
    · have hlt2 : k < m.length := by have := HL.out; omega
      obtain ⟨b, o, rfl, hx⟩ := HN.out k hlt
      obtain ⟨b2, o2, rfl, hx2⟩ := HN2.out k hlt2
      obtain ⟨c0, c1, c2, c3, c4⟩ := hx.below hb hx.lt
      obtain ⟨e0, e1, e2, e3, e4⟩ := hx2.below hb hx2.lt
      have hq := (HK.out k hlt).keep hb
      have hq2 := (HK2.out k hlt2).keep hb
      obtain ⟨a', cap', S', hS, -⟩ := hq.out
      obtain ⟨a2', cap2', S2', hS2, -⟩ := hq2.out
      rw [hS] at c4 hq
      rw [hS2] at e4 hq2
      have HQ := Lib.hid hq
      have HQ2 := Lib.hid hq2
      have HM := Lib.hid (List.getElem_mem hlt)
      have HT := Lib.hid (sames_take l m k hlt hlt2)
      have HO := Lib.hid (sames_of l m k hlt hlt2)
      clear hS hS2 hq hq2
      go_wp2
      go_region_with (go_at_call 18; refine (IH.out _ HM.out _ _ _ _ (HQ.out.keep (Below.refl _ _).drew) (HQ2.out.keep (Below.refl _ _).drew)).mono ?_; rintro e wn ⟨rfl, hb'⟩; have HB3 := below_call hb.drew hb' hb.size; clear hb')
      all_goals
        cases hs : sameB l[k] m[k]
        · go_wp2
          go_ret
          exact ⟨ret_bool (HO.out hs).symm, HB3⟩
        · go_wp2
          go_roundw
          case rel => exact ⟨k + 1, by omega, by go_num, by show _ = true; rw [HT.out, hgood.out, hs]; rfl, HB3⟩
          case measure => simp [intOf]; omega
    · have : k = l.length := by omega
      subst this
      go_wp2
      go_ret
      exact ⟨ret_bool (by have hg := hgood.out; rw [List.take_length, HL.out, List.take_length] at hg; exact hg.symm), hb⟩

set_option maxHeartbeats 1000000 in
theorem keepsame_any (t : Tm) : ∀ (u : Tm) (w : World) (s r : Value), Lies w t.kids s → Lies w u.kids r → Calls Try.prog 18 #[tv t s, tv u r] w fun e w' => e = .returned (.bool (sameB t u)) ∧ Below w.heap.size w w' := by
  induction t using Tm.ind with
  | h t ih =>
    intro u w s r hl hm
    obtain ⟨a, cap, S, rfl, -⟩ := hl.out
    obtain ⟨a2, cap2, S2, rfl, -⟩ := hm.out
    have HTM := Lib.hid (terms_of t.kids ih)
    have HE := Lib.hid (sameB_eq t u)
    have HL := Lib.hid hl
    have HM := Lib.hid hm
    have H0 := held2_start w t (.slice a t.kids.length cap) u (.slice a2 u.kids.length cap2)
    clear hl hm ih
    unfold tv
    cases ek : (t.k == u.k)
    · go_enter Try.func18, Try.ntmps18
      go_wp2
      go_ret
      exact ⟨ret_bool (by rw [HE.out]; simp only [ek, Bool.false_and]), held2_below H0⟩
    cases ei : (t.i == u.i)
    · go_enter Try.func18, Try.ntmps18
      go_wp2
      go_ret
      exact ⟨ret_bool (by rw [HE.out]; simp only [ek, ei, Bool.false_and, Bool.true_and]), held2_below H0⟩
    cases ej : (t.j == u.j)
    · go_enter Try.func18, Try.ntmps18
      go_wp2
      go_ret
      exact ⟨ret_bool (by rw [HE.out]; simp only [ek, ei, ej, Bool.false_and, Bool.true_and]), held2_below H0⟩
    cases en : (t.n == u.n)
    · go_enter Try.func18, Try.ntmps18
      go_wp2
      go_ret
      exact ⟨ret_bool (by rw [HE.out]; simp only [ek, ei, ej, en, Bool.false_and, Bool.true_and]), held2_below H0⟩
    go_enter Try.func18, Try.ntmps18
    go_wp2_with fail
    refine (HTM.out u.kids _ _ _ (held2_lies H0 HL.out) (held2_lies H0 HM.out)).mono ?_
    rintro e wn ⟨rfl, hb'⟩
    have H1 := held2_call H0 hb'
    clear hb'
    go_wp2
    go_ret
    exact ⟨ret_bool (by rw [HE.out]; simp only [ek, ei, ej, en, Bool.true_and]), held2_below H1⟩
end Go.Proofs.Ytjlppnmckobcfaa

namespace Go.Proofs.Ytjlppnmckobcfaa

mutual
/-- Each variable v beneath b binders becomes f v b; nothing if one has no image. -/
def Tm.each (f : Int → Int → Option Int) : Tm → Int → Option Tm
  | .mk k i j n l, b => if k = 2 then (f i b).map (fun v => .mk 2 v 0 0 []) else (eaches f k 0 b l).map (fun l' => .mk k i j n l')
def eaches (f : Int → Int → Option Int) : Int → Nat → Int → List Tm → Option (List Tm)
  | _, _, _, [] => some []
  | k, p, b, t :: r => (t.each f (b + bindsN k p)).bind fun x => (eaches f k (p + 1) b r).map fun y => x :: y
end

end Go.Proofs.Ytjlppnmckobcfaa

namespace Go.Proofs.Ytjlppnmckobcfaa

def Tm.zero : Tm := .mk 0 0 0 0 []

end Go.Proofs.Ytjlppnmckobcfaa

namespace Go.Proofs.Ytjlppnmckobcfaa
open Go.RowKit

theorem results_cell_tmp {P : Program} {fn : Func} {p q : Tmp} {ty : TypeId} (h : fn.results = #[.cell p ty, .tmp q]) (tmps : Array Value) (w : World) (g : Nat) (t : TypeId) (cs : Array Value) (fr : Nat × Nat) (d : TypeDesc)
    (hp : tmps.getD p undef = .pointer (some ⟨g, 0, none⟩)) (hg : w.heap[g]? = some (.cells cs t fr))
    (hu : P.underlying ty = some d) (hd : (match d with | .struct _ | .array _ _ => true | _ => false) = true) (hi : (P.info? ty).map (·.size) = some cs.size) :
    (results fn tmps).run P w = .ok (.tuple #[.agg cs, tmps.getD q undef]) w := by
  have hp' : tmps[p]?.getD undef = .pointer (some ⟨g, 0, none⟩) := by simpa using hp
  simp [results, h, hp', asAddr, run_loadVar_row w g t ty cs fr d hg hu hd hi]

/-- What a call hands back that makes a term, or says that there is none. -/
def Gives (r : Option Tm) (w : World) (e : Ending) (w' : World) : Prop := Below w.heap.size w w' ∧
  ((∃ u s', r = some u ∧ e = .returned (.tuple #[tv u s', .bool true]) ∧ LiesP w' (Own w.heap.size w') u.kids s') ∨ (∃ z : Tm, r = none ∧ z.kids = [] ∧ e = .returned (.tuple #[tv z (.slice none 0 0), .bool false])))

end Go.Proofs.Ytjlppnmckobcfaa

namespace Go.Proofs.Ytjlppnmckobcfaa
open Go.RowKit

/-- What a call hands back that makes the term u: u by value, its kids in new memory. -/
def Makes (u : Tm) (w : World) (e : Ending) (w' : World) : Prop := ∃ s' : Value, e = .returned (tv u s') ∧ LiesP w' (Own w.heap.size w') u.kids s' ∧ Below w.heap.size w w'
/-- The same for a list. -/
def MakesAll (l : List Tm) (w : World) (e : Ending) (w' : World) : Prop := ∃ s' : Value, e = .returned s' ∧ LiesP w' (Own w.heap.size w') l s' ∧ Below w.heap.size w w'

theorem LiesP.out {w : World} {P : Nat → Prop} {l : List Tm} {s : Value} (h : LiesP w P l s) : ∃ (a : Option Addr) (cap : Nat), s = .slice a l.length cap ∧ l.length ≤ cap ∧ cap ≤ maxLen := by
  cases h with
  | mk l a cap S hc hm hf hn hk => exact ⟨a, cap, rfl, hc, hm⟩

/-- The term in its box, and a result in its own behind it. -/
def Boxes (w : World) (t : Tm) (s : Value) (w' : World) : Prop := Below (w.heap.size + 2) ((w.alloc (boxOf t s)).alloc (.cells #[.int .i64 0, .int .i64 0, .int .i64 0, .int .i64 0, .slice none 0 0] 32)) w'
theorem boxes_start (w : World) (t : Tm) (s : Value) : Boxes w t s ((w.alloc (.cells #[.int .i64 t.k, .int .i64 t.i, .int .i64 t.j, .int .i64 t.n, s] 32)).alloc (.cells #[.int .i64 0, .int .i64 0, .int .i64 0, .int .i64 0, .slice none 0 0] 32)) := Below.refl _ _
theorem boxes_held {w w' : World} {t : Tm} {s : Value} (h : Boxes w t s w') : Held w t s w' :=
  ((Below.refl (w.heap.size + 1) (w.alloc (boxOf t s))).alloc (by simp) _).trans (Below.mono h (by omega))
theorem boxes_cells {w w' : World} {t : Tm} {s : Value} (h : Boxes w t s w') : w'.cell? ⟨w.heap.size, 0, none⟩ = some (.int .i64 t.k) ∧ w'.cell? ⟨w.heap.size, 1, none⟩ = some (.int .i64 t.i) ∧ w'.cell? ⟨w.heap.size, 2, none⟩ = some (.int .i64 t.j) ∧ w'.cell? ⟨w.heap.size, 3, none⟩ = some (.int .i64 t.n) ∧ w'.cell? ⟨w.heap.size, 4, none⟩ = some s ∧
    w'.cell? ⟨w.heap.size + 1, 0, none⟩ = some (.int .i64 0) ∧ w'.cell? ⟨w.heap.size + 1, 1, none⟩ = some (.int .i64 0) ∧ w'.cell? ⟨w.heap.size + 1, 2, none⟩ = some (.int .i64 0) ∧ w'.cell? ⟨w.heap.size + 1, 3, none⟩ = some (.int .i64 0) ∧ w'.cell? ⟨w.heap.size + 1, 4, none⟩ = some (.slice none 0 0) ∧ w'.frozen? ⟨w.heap.size + 1, 0, none⟩ = false ∧ w'.frozen? ⟨w.heap.size + 1, 1, none⟩ = false ∧ w'.frozen? ⟨w.heap.size + 1, 2, none⟩ = false ∧ w'.frozen? ⟨w.heap.size + 1, 3, none⟩ = false ∧ w'.frozen? ⟨w.heap.size + 1, 4, none⟩ = false := by
  obtain ⟨h0, h1, h2, h3, h4⟩ := held_cells (boxes_held h)
  have hs : (w.alloc (boxOf t s)).heap.size = w.heap.size + 1 := by simp
  have := box_cells (w := w.alloc (boxOf t s)) (by rw [hs]; exact h)
  rw [hs] at this
  obtain ⟨y0, y1, y2, y3, y4⟩ := this
  have fr : ∀ q, w'.frozen? ⟨w.heap.size + 1, q, none⟩ = false := fun q => by
    rw [Below.frozen h (p := ⟨w.heap.size + 1, q, none⟩) (by simp)]
    unfold World.frozen?
    rw [show (⟨w.heap.size + 1, q, none⟩ : Addr).block = (w.alloc (boxOf t s)).heap.size by simp, alloc_new]
    rfl
  exact ⟨h0, h1, h2, h3, h4, y0, y1, y2, y3, y4, fr _, fr _, fr _, fr _, fr _⟩
theorem boxes_call {w w1 w2 : World} {t : Tm} {s : Value} (h : Boxes w t s w1) (hb : Below w1.heap.size w1 w2) : Boxes w t s w2 := below_call h hb (by have := Below.size h; simpa using this)
theorem boxes_block {w w1 : World} {t : Tm} {s : Value} (h : Boxes w t s w1) : w1.heap[w.heap.size + 1]? = some (.cells #[.int .i64 0, .int .i64 0, .int .i64 0, .int .i64 0, .slice none 0 0] 32 (0, 0)) := by
  rw [Below.block h _ (by omega)]
  exact heap_alloc2_new _ _ _
theorem boxes_lies {w w1 : World} {t : Tm} {s s' : Value} {l : List Tm} (h : Boxes w t s w1) (hl : Lies w l s') : Lies w1 l s' := held_lies (boxes_held h) hl

theorem len_sizes : ∀ l : List Tm, l.length ≤ sizes l
  | [] => by simp
  | t :: r => by have := len_sizes r; have := t.size_eq; simp only [sizes, List.length_cons]; omega

theorem size_mem : ∀ (l : List Tm) (x : Tm), x ∈ l → x.size ≤ sizes l
  | t :: r, x, h => by
    simp only [sizes]
    rcases List.mem_cons.1 h with rfl | h
    · omega
    · have := size_mem r x h; omega

theorem under_term : ∃ d, Try.prog.underlying 32 = some d ∧ (match d with | .struct _ | .array _ _ => true | _ => false) = true := by
  have h : (Try.prog.underlying 32).map (fun d => match d with | .struct _ | .array _ _ => true | _ => false) = some true := by kernel_rfl
  cases e : Try.prog.underlying 32 with
  | none => rw [e] at h; cases h
  | some d => rw [e] at h; exact ⟨d, rfl, Option.some.inj h⟩

theorem size_term : (Try.prog.info? 32).map (·.size) = some 5 := by kernel_rfl

end Go.Proofs.Ytjlppnmckobcfaa

namespace Go.Proofs.Ytjlppnmckobcfaa
open Go.RowKit

theorem Shr.refl {P : Nat → Prop} {w : World} (h : Free P w) : Shr P w w := ⟨h, Nat.le_refl _, ⟨rfl, rfl, rfl⟩, fun _ _ _ => rfl, fun l _ hl => ⟨l, rfl, Nat.le_refl _, hl⟩⟩

theorem open_unfrozen {w : World} {b : Nat} {cs : Array Value} {T : TypeId} (h : w.heap[b]? = some (.cells cs T (0, 0))) (q : Nat) : w.frozen? ⟨b, q, none⟩ = false := by
  unfold World.frozen?
  rw [show (⟨b, q, none⟩ : Addr).block = b from rfl, h]; rfl

end Go.Proofs.Ytjlppnmckobcfaa

namespace Go.Proofs.Ytjlppnmckobcfaa
open Go.RowKit

theorem cell_lat {w wx : World} {a : Addr} {v : Value} (hb : Below w.heap.size w wx) (h : w.cell? a = some v) : wx.cell? a = some v := (hb.cell (World.block_lt_of_cell? _ _ h)).trans h
abbrev zeroObj : Obj := .cells #[.int .i64 0, .int .i64 0, .int .i64 0, .int .i64 0, .slice none 0 0] 32

theorem five_free {w : World} {g : Nat} {cs : Array Value} {T : TypeId} (h : w.heap[g]? = some (.cells cs T (0, 0))) :
    w.frozen? ⟨g, 0, none⟩ = false ∧ w.frozen? ⟨g, 1, none⟩ = false ∧ w.frozen? ⟨g, 2, none⟩ = false ∧ w.frozen? ⟨g, 3, none⟩ = false ∧ w.frozen? ⟨g, 4, none⟩ = false :=
  ⟨open_unfrozen h _, open_unfrozen h _, open_unfrozen h _, open_unfrozen h _, open_unfrozen h _⟩

/-- A list that was just made whole: zero terms. -/
theorem cells5_zeros : ∀ n : Nat, (cells5 (List.replicate n (Tm.zero, Value.slice none 0 0))) = (madeCells #[.int .i64 0, .int .i64 0, .int .i64 0, .int .i64 0, .slice none 0 0] (n * 5)).toList := by
  intro n
  apply List.ext_getElem?
  intro j
  by_cases hj : j < n * 5
  · have h5 : j % 5 < 5 := Nat.mod_lt _ (by omega)
    have hd : j / 5 < n := by omega
    have e : j = j / 5 * 5 + j % 5 := by omega
    have h1 := cells5_get (List.replicate n (Tm.zero, Value.slice none 0 0)) (j / 5) (by simpa using hd) (j % 5) h5
    rw [← e] at h1
    rw [h1]
    simp only [List.getElem_replicate]
    have hz : (madeCells #[Value.int .i64 0, .int .i64 0, .int .i64 0, .int .i64 0, .slice none 0 0] (n * 5)).toList[j]? = some (#[Value.int .i64 0, .int .i64 0, .int .i64 0, .int .i64 0, .slice none 0 0][j % 5]!) := by simp [madeCells, hj]
    rw [hz]
    generalize j % 5 = q at h5
    match q, h5 with
    | 0, _ => rfl
    | 1, _ => rfl
    | 2, _ => rfl
    | 3, _ => rfl
    | 4, _ => rfl
  · rw [List.getElem?_eq_none (by rw [cells5_length]; simp; omega), List.getElem?_eq_none (by simp [madeCells]; omega)]

theorem zero_fine : Tm.zero.fine := by simp [Tm.zero, Tm.fine, I64, Tm.k, Tm.i, Tm.j, Tm.n]
theorem full_made {B : Nat} {w : World} {g n : Nat} (h : w.ownsRow B 32 5 (.slice (some ⟨g, 0, none⟩) n n) n (madeCells #[.int .i64 0, .int .i64 0, .int .i64 0, .int .i64 0, .slice none 0 0] (n * 5)).toList) :
    Full B w g (List.replicate n (Tm.zero, .slice none 0 0)) := by
  rw [← cells5_zeros] at h
  have hb : B ≤ g ∧ ∃ cs, w.heap[g]? = some (.cells cs 32 (0, 0)) := by
    obtain ⟨-, ⟨h1, -⟩ | ⟨g', cap, cur, h1, h2, h3, -⟩⟩ := h
    · cases h1
    · obtain rfl : g = g' := by simp only [Value.slice.injEq, Option.some.injEq, Addr.mk.injEq] at h1; exact h1.1.1
      exact ⟨h2, cur, h3⟩
  refine ⟨hb.1, hb.2, fun i hi => ?_, fun p hp => ?_, fun p hp => ?_⟩
  · have cellq : ∀ q, q < 5 → w.cell? ⟨g, i * 5 + q, none⟩ = [Value.int .i64 ((List.replicate n (Tm.zero, Value.slice none 0 0))[i]).1.k, .int .i64 ((List.replicate n (Tm.zero, Value.slice none 0 0))[i]).1.i, .int .i64 ((List.replicate n (Tm.zero, Value.slice none 0 0))[i]).1.j, .int .i64 ((List.replicate n (Tm.zero, Value.slice none 0 0))[i]).1.n, ((List.replicate n (Tm.zero, Value.slice none 0 0))[i]).2][q]? := fun q hq => by
      rw [h.cellAt (i * 5 + q) (by simp at hi; omega)]; exact cells5_get _ i hi q hq
    exact ⟨cellq 0 (by omega), cellq 1 (by omega), cellq 2 (by omega), cellq 3 (by omega), cellq 4 (by omega)⟩
  · rw [(List.mem_replicate.1 hp).2]; exact zero_fine
  · rw [(List.mem_replicate.1 hp).2]; exact liesP_nil _ _

theorem Full.below {B g b o : Nat} {w : World} {xs : List (Tm × Value)} (h : Full B w g xs) (hb : b < B) (v : Value) : Full B (w.setCell ⟨b, o, none⟩ v) g xs := by
  have hg := h.above
  have hk : ∀ b', B ≤ b' → (w.setCell ⟨b, o, none⟩ v).heap[b']? = w.heap[b']? := fun b' hb' => Below.heap_setCell _ _ _ _ (by show b' ≠ b; omega)
  exact ⟨hg, by rw [hk g hg]; exact h.open', fun i hi => (h.node i hi).same (hk g hg), h.fine, fun p hp => (h.kids p hp).keep (fun b' hb' _ => hk b' hb'.1.1) (fun b' hb' _ => ⟨hb'.1.same (hk b' hb'.1.1), hb'.2⟩)⟩

def GivesNone (w : World) (e : Ending) (w' : World) : Prop := (∃ z : Tm, e = .returned (.tuple #[tv z (.slice none 0 0), .bool false])) ∧ Below w.heap.size w w'
def GivesSome (u : Tm) (w : World) (e : Ending) (w' : World) : Prop := (∃ s', e = .returned (.tuple #[tv u s', .bool true]) ∧ LiesP w' (Own w.heap.size w') u.kids s') ∧ Below w.heap.size w w'
theorem Gives.none {w w' : World} {e : Ending} (h : Gives none w e w') : GivesNone w e w' := by
  obtain ⟨hb, ⟨u, s', h1, -⟩ | ⟨z, -, -, h2⟩⟩ := h
  · cases h1
  · exact ⟨⟨z, h2⟩, hb⟩
theorem Gives.some {u : Tm} {w w' : World} {e : Ending} (h : Gives (some u) w e w') : GivesSome u w e w' := by
  obtain ⟨hb, ⟨u', s', h1, h2, h3⟩ | ⟨z, h1, -⟩⟩ := h
  · cases h1; exact ⟨⟨s', h2, h3⟩, hb⟩
  · cases h1
end Go.Proofs.Ytjlppnmckobcfaa

namespace Go.Proofs.Ytjlppnmckobcfaa
open Go.RowKit

/-- Five cells of one block are written. -/
abbrev five (w : World) (g : Nat) (v0 v1 v2 v3 v4 : Value) : World := ((((w.setCell ⟨g, 0, none⟩ v0).setCell ⟨g, 1, none⟩ v1).setCell ⟨g, 2, none⟩ v2).setCell ⟨g, 3, none⟩ v3).setCell ⟨g, 4, none⟩ v4
theorem five_other (w : World) (g : Nat) (v0 v1 v2 v3 v4 : Value) {b : Nat} (h : b ≠ g) : (five w g v0 v1 v2 v3 v4).heap[b]? = w.heap[b]? := by
  unfold five; repeat rw [Below.heap_setCell _ _ _ _ (by exact h)]
theorem below_five {B : Nat} {w w1 : World} (h : Below B w w1) {g : Nat} (hg : B ≤ g) (v0 v1 v2 v3 v4 : Value) : Below B w (five w1 g v0 v1 v2 v3 v4) :=
  ((((h.setCell hg _).setCell hg _).setCell hg _).setCell hg _).setCell hg _
theorem liesP_fives {B N g : Nat} {w : World} {l : List Tm} {s : Value} (h : LiesP w (Own B w) l s) (hg : g < B) (hN : N ≤ B) (v0 v1 v2 v3 v4 : Value) : LiesP (five w g v0 v1 v2 v3 v4) (Own N (five w g v0 v1 v2 v3 v4)) l s :=
  h.keep (fun b hp _ => five_other w g v0 v1 v2 v3 v4 (by have := hp.1; omega)) (fun b hp _ => (hp.from hN).same (five_other w g v0 v1 v2 v3 v4 (by have := hp.1; omega)))
theorem liesP_set {B N g o : Nat} {w : World} {l : List Tm} {s : Value} (h : LiesP w (Own B w) l s) (hg : g < B) (hN : N ≤ B) (v : Value) : LiesP (w.setCell ⟨g, o, none⟩ v) (Own N (w.setCell ⟨g, o, none⟩ v)) l s :=
  h.keep (fun b hp _ => Below.heap_setCell _ _ _ _ (by show b ≠ g; have := hp.1; omega)) (fun b hp _ => (hp.from hN).same (Below.heap_setCell _ _ _ _ (by show b ≠ g; have := hp.1; omega)))
/-- What a call hands back that makes a term, or the zero term and false. -/
def GivesZ (r : Option Tm) (w : World) (e : Ending) (w' : World) : Prop := Below w.heap.size w w' ∧
  ((∃ u s', r = some u ∧ e = .returned (.tuple #[tv u s', .bool true]) ∧ LiesP w' (Own w.heap.size w') u.kids s') ∨ (r = none ∧ e = .returned (.tuple #[tv Tm.zero (.slice none 0 0), .bool false])))
theorem GivesZ.none {w w' : World} {e : Ending} (h : GivesZ none w e w') : e = .returned (.tuple #[tv Tm.zero (.slice none 0 0), .bool false]) ∧ Below w.heap.size w w' := by
  obtain ⟨hb, ⟨u, s', h1, -⟩ | ⟨-, h2⟩⟩ := h
  · cases h1
  · exact ⟨h2, hb⟩
theorem GivesZ.some {u : Tm} {w w' : World} {e : Ending} (h : GivesZ (some u) w e w') : GivesSome u w e w' := by
  obtain ⟨hb, ⟨u', s', h1, h2, h3⟩ | ⟨h1, -⟩⟩ := h
  · cases h1; exact ⟨⟨s', h2, h3⟩, hb⟩
  · cases h1
end Go.Proofs.Ytjlppnmckobcfaa

namespace Go.Proofs.Ytjlppnmckobcfaa
open Go.RowKit

/-- Nothing that was there has turned. -/
def Kept (w w' : World) : Prop := Below w.heap.size w w'
theorem kept_start (w : World) : Kept w w := Below.refl _ _
theorem kept_drew {w w1 : World} (h : Kept w w1) : Kept w w1.drew := Below.drew h
theorem kept_call {w w1 w2 : World} (h : Kept w w1) (hb : Below w1.heap.size w1 w2) : Kept w w2 := below_call h hb (Below.size h)
theorem kept_alloc {w w1 : World} (h : Kept w w1) (o : Obj) : Kept w (w1.alloc o) := Below.alloc h (Below.size h) o
theorem kept_lies {w w1 : World} (h : Kept w w1) {l : List Tm} {s : Value} (hl : Lies w l s) : Lies w1 l s := hl.keep h
theorem kept_below {w w1 : World} (h : Kept w w1) : Below w.heap.size w w1 := h
theorem block_lt {w : World} {n : Nat} {o : Obj} (h : w.heap[n]? = some o) : n < w.heap.size := (Array.getElem?_eq_some_iff.1 h).1

end Go.Proofs.Ytjlppnmckobcfaa

namespace Go.Proofs.Ytjlppnmckobcfaa
open Go

theorem take_at {P : Program} {ops : Array Oper} {Q : Exit → Act → World → Prop} {md : Region.Mode} {S : World → Prop} (i d : Nat) (oi : Oper) {v : Value} {fuel : Nat} {listed : Array Bool} {a : Act} {w : World} (hy : YieldsIf P ops S oi v a)
    (h : wpAnyH P md ops Q S fuel (listed.setIfInBounds i true) (a.put (some d) v) w)
    (hi : ops[i]? = some oi := by rfl) (hd : oi.dst = some d := by rfl)
    (hs : Region.noSelect ops = true := by kernel_rfl) (hf : Region.free md ops listed i = true := by kernel_rfl) (hr : (Region.ready md ops listed).contains i = true := by kernel_rfl)
    (hQ : ∀ c a w, Q (.panic c) (a.put (some d) v) w → Q (.panic c) a w := by exact fun _ _ _ h => h) (hS : S w := by assumption) : wpAnyH P md ops Q S (fuel + 1) listed a w := by
  rw [← hd] at hQ h
  exact wpAnyH_take hi hs hf hr hQ hy hS h
end Go.Proofs.Ytjlppnmckobcfaa

namespace Go.Proofs.Ytjlppnmckobcfaa
open Go.RowKit

/-- A judgment. -/
structure Jd where
  eq : Bool
  u : Tm
  v : Tm
  a : Tm
  i : Int
def Jd.fine (j : Jd) : Prop := j.u.fine ∧ j.v.fine ∧ j.a.fine ∧ I64 j.i
/-- A judgment by value. -/
abbrev jv (j : Jd) (su sv sa : Value) : Value := .agg #[.bool j.eq, .int .i64 j.u.k, .int .i64 j.u.i, .int .i64 j.u.j, .int .i64 j.u.n, su, .int .i64 j.v.k, .int .i64 j.v.i, .int .i64 j.v.j, .int .i64 j.v.n, sv, .int .i64 j.a.k, .int .i64 j.a.i, .int .i64 j.a.j, .int .i64 j.a.n, sa, .int .i64 j.i]
/-- Its three lists lie there. -/
def JLies (w : World) (j : Jd) (su sv sa : Value) : Prop := Lies w j.u.kids su ∧ Lies w j.v.kids sv ∧ Lies w j.a.kids sa
theorem JLies.keep {w w' : World} {j : Jd} {su sv sa : Value} (h : JLies w j su sv sa) (hb : Below w.heap.size w w') : JLies w' j su sv sa := ⟨h.1.keep hb, h.2.1.keep hb, h.2.2.keep hb⟩
/-- Its cells, at the head of a block. -/
def JBox (w : World) (b : Nat) (j : Jd) (su sv sa : Value) : Prop := w.cell? ⟨b, 0, none⟩ = some (.bool j.eq) ∧ w.cell? ⟨b, 1, none⟩ = some (.int .i64 j.u.k) ∧ w.cell? ⟨b, 2, none⟩ = some (.int .i64 j.u.i) ∧ w.cell? ⟨b, 3, none⟩ = some (.int .i64 j.u.j) ∧ w.cell? ⟨b, 4, none⟩ = some (.int .i64 j.u.n) ∧ w.cell? ⟨b, 5, none⟩ = some (su) ∧ w.cell? ⟨b, 6, none⟩ = some (.int .i64 j.v.k) ∧ w.cell? ⟨b, 7, none⟩ = some (.int .i64 j.v.i) ∧ w.cell? ⟨b, 8, none⟩ = some (.int .i64 j.v.j) ∧ w.cell? ⟨b, 9, none⟩ = some (.int .i64 j.v.n) ∧ w.cell? ⟨b, 10, none⟩ = some (sv) ∧ w.cell? ⟨b, 11, none⟩ = some (.int .i64 j.a.k) ∧ w.cell? ⟨b, 12, none⟩ = some (.int .i64 j.a.i) ∧ w.cell? ⟨b, 13, none⟩ = some (.int .i64 j.a.j) ∧ w.cell? ⟨b, 14, none⟩ = some (.int .i64 j.a.n) ∧ w.cell? ⟨b, 15, none⟩ = some (sa) ∧ w.cell? ⟨b, 16, none⟩ = some (.int .i64 j.i)
/-- Its cells, at a place. -/
def JNode (w : World) (b o : Nat) (j : Jd) (su sv sa : Value) : Prop := w.cell? ⟨b, o, none⟩ = some (.bool j.eq) ∧ w.cell? ⟨b, o + 1, none⟩ = some (.int .i64 j.u.k) ∧ w.cell? ⟨b, o + 2, none⟩ = some (.int .i64 j.u.i) ∧ w.cell? ⟨b, o + 3, none⟩ = some (.int .i64 j.u.j) ∧ w.cell? ⟨b, o + 4, none⟩ = some (.int .i64 j.u.n) ∧ w.cell? ⟨b, o + 5, none⟩ = some (su) ∧ w.cell? ⟨b, o + 6, none⟩ = some (.int .i64 j.v.k) ∧ w.cell? ⟨b, o + 7, none⟩ = some (.int .i64 j.v.i) ∧ w.cell? ⟨b, o + 8, none⟩ = some (.int .i64 j.v.j) ∧ w.cell? ⟨b, o + 9, none⟩ = some (.int .i64 j.v.n) ∧ w.cell? ⟨b, o + 10, none⟩ = some (sv) ∧ w.cell? ⟨b, o + 11, none⟩ = some (.int .i64 j.a.k) ∧ w.cell? ⟨b, o + 12, none⟩ = some (.int .i64 j.a.i) ∧ w.cell? ⟨b, o + 13, none⟩ = some (.int .i64 j.a.j) ∧ w.cell? ⟨b, o + 14, none⟩ = some (.int .i64 j.a.n) ∧ w.cell? ⟨b, o + 15, none⟩ = some (sa) ∧ w.cell? ⟨b, o + 16, none⟩ = some (.int .i64 j.i)
theorem JBox.keep {w w' : World} {b : Nat} {j : Jd} {su sv sa : Value} (h : JBox w b j su sv sa) (hb : Below w.heap.size w w') : JBox w' b j su sv sa := by
  obtain ⟨x0, x1, x2, x3, x4, x5, x6, x7, x8, x9, x10, x11, x12, x13, x14, x15, x16⟩ := h
  exact ⟨cell_lat hb x0, cell_lat hb x1, cell_lat hb x2, cell_lat hb x3, cell_lat hb x4, cell_lat hb x5, cell_lat hb x6, cell_lat hb x7, cell_lat hb x8, cell_lat hb x9, cell_lat hb x10, cell_lat hb x11, cell_lat hb x12, cell_lat hb x13, cell_lat hb x14, cell_lat hb x15, cell_lat hb x16⟩
theorem JNode.keep {w w' : World} {b o : Nat} {j : Jd} {su sv sa : Value} (h : JNode w b o j su sv sa) (hb : Below w.heap.size w w') : JNode w' b o j su sv sa := by
  obtain ⟨x0, x1, x2, x3, x4, x5, x6, x7, x8, x9, x10, x11, x12, x13, x14, x15, x16⟩ := h
  exact ⟨cell_lat hb x0, cell_lat hb x1, cell_lat hb x2, cell_lat hb x3, cell_lat hb x4, cell_lat hb x5, cell_lat hb x6, cell_lat hb x7, cell_lat hb x8, cell_lat hb x9, cell_lat hb x10, cell_lat hb x11, cell_lat hb x12, cell_lat hb x13, cell_lat hb x14, cell_lat hb x15, cell_lat hb x16⟩
theorem JNode.lt {w : World} {b o : Nat} {j : Jd} {su sv sa : Value} (h : JNode w b o j su sv sa) : b < w.heap.size := World.block_lt_of_cell? _ _ h.1
theorem JNode.same {w w' : World} {b o : Nat} {j : Jd} {su sv sa : Value} (h : JNode w b o j su sv sa) (hb : w'.heap[b]? = w.heap[b]?) : JNode w' b o j su sv sa := by
  have hc : ∀ q, w'.cell? ⟨b, q, none⟩ = w.cell? ⟨b, q, none⟩ := fun q => World.cell?_of_block (a := ⟨b, q, none⟩) hb
  obtain ⟨x0, x1, x2, x3, x4, x5, x6, x7, x8, x9, x10, x11, x12, x13, x14, x15, x16⟩ := h
  exact ⟨(hc _).trans x0, (hc _).trans x1, (hc _).trans x2, (hc _).trans x3, (hc _).trans x4, (hc _).trans x5, (hc _).trans x6, (hc _).trans x7, (hc _).trans x8, (hc _).trans x9, (hc _).trans x10, (hc _).trans x11, (hc _).trans x12, (hc _).trans x13, (hc _).trans x14, (hc _).trans x15, (hc _).trans x16⟩

end Go.Proofs.Ytjlppnmckobcfaa

namespace Go.Proofs.Ytjlppnmckobcfaa
open Go.RowKit

instance instJd : Inhabited (Jd × (Value × Value × Value)) := ⟨(⟨false, .mk 0 0 0 0 [], .mk 0 0 0 0 [], .mk 0 0 0 0 [], 0⟩, (.nilIface, .nilIface, .nilIface))⟩
/-- Judgments behind a slice. -/
structure LiesJ (w : World) (l : List Jd) (s : Value) : Prop where
  out : ∃ (a : Option Addr) (cap : Nat) (S : Nat → Value × Value × Value), s = .slice a l.length cap ∧ l.length ≤ cap ∧ cap ≤ maxLen ∧ (∀ x ∈ l, x.fine) ∧
    (∀ i (h : i < l.length), ∃ b o, a = some ⟨b, o, none⟩ ∧ JNode w b (o + i * 17) l[i] (S i).1 (S i).2.1 (S i).2.2) ∧ (∀ i (h : i < l.length), JLies w l[i] (S i).1 (S i).2.1 (S i).2.2)
theorem LiesJ.keep {w w' : World} {l : List Jd} {s : Value} (h : LiesJ w l s) (hb : Below w.heap.size w w') : LiesJ w' l s := by
  obtain ⟨a, cap, S, hs, hc, hm, hf, hn, hk⟩ := h.out
  exact ⟨a, cap, S, hs, hc, hm, hf, fun i hi => by obtain ⟨b, o, ha, hx⟩ := hn i hi; exact ⟨b, o, ha, hx.keep hb⟩, fun i hi => (hk i hi).keep hb⟩

def cells17 : List (Jd × (Value × Value × Value)) → List Value
  | [] => []
  | (j, (su, sv, sa)) :: r => .bool j.eq :: .int .i64 j.u.k :: .int .i64 j.u.i :: .int .i64 j.u.j :: .int .i64 j.u.n :: su :: .int .i64 j.v.k :: .int .i64 j.v.i :: .int .i64 j.v.j :: .int .i64 j.v.n :: sv :: .int .i64 j.a.k :: .int .i64 j.a.i :: .int .i64 j.a.j :: .int .i64 j.a.n :: sa :: .int .i64 j.i :: cells17 r
/-- A row of judgments that the call has made so far. -/
structure MadeJ (B : Nat) (w : World) (v : Value) (ps : List (Jd × (Value × Value × Value))) : Prop where
  own : w.ownsRow B 34 17 v ps.length (cells17 ps)
  fine : ∀ p ∈ ps, p.1.fine
  kids : ∀ p ∈ ps, LiesP w (fun b => Own B w b ∧ v.ownBlock ≠ some b) p.1.u.kids p.2.1 ∧ LiesP w (fun b => Own B w b ∧ v.ownBlock ≠ some b) p.1.v.kids p.2.2.1 ∧ LiesP w (fun b => Own B w b ∧ v.ownBlock ≠ some b) p.1.a.kids p.2.2.2
end Go.Proofs.Ytjlppnmckobcfaa

namespace Go.Proofs.Ytjlppnmckobcfaa
open Go.RowKit

/-- Ints that lie behind a slice. -/
structure LiesI (w : World) (l : List Int) (s : Value) : Prop where
  out : ∃ (a : Option Addr) (cap : Nat), s = .slice a l.length cap ∧ l.length ≤ cap ∧ cap ≤ maxLen ∧ ∀ i (h : i < l.length), ∃ b o, a = some ⟨b, o, none⟩ ∧ w.cell? ⟨b, o + i, none⟩ = some (.int .i64 l[i])
theorem LiesI.keep {w w' : World} {l : List Int} {s : Value} (h : LiesI w l s) (hb : Below w.heap.size w w') : LiesI w' l s := by
  obtain ⟨a, cap, hs, hc, hm, hn⟩ := h.out
  refine ⟨a, cap, hs, hc, hm, fun i hi => ?_⟩
  obtain ⟨b, o, ha, hx⟩ := hn i hi
  exact ⟨b, o, ha, (hb.cell (World.block_lt_of_cell? _ _ hx)).trans hx⟩

end Go.Proofs.Ytjlppnmckobcfaa

namespace Go.Proofs.Ytjlppnmckobcfaa
open Go.RowKit

/-- The maker's blocks: the boxed term, the result, the list (N + 2), the term that is built (M). -/
structure Desk2 (w : World) (M : Nat) (t u : Tm) (s v : Value) (w' : World) : Prop where
  under : Below w.heap.size w w'
  above : w.heap.size + 3 ≤ M
  box : w'.heap[w.heap.size]? = some (boxOf t s)
  res : w'.heap[w.heap.size + 1]? = some zeroObj
  made : w'.heap[M]? = some (boxOf u v)
theorem Desk2.size {w w' : World} {M : Nat} {t u : Tm} {s v : Value} (h : Desk2 w M t u s v w') : M < w'.heap.size := (Array.getElem?_eq_some_iff.1 h.made).1
theorem Desk2.later {w w1 w2 : World} {M : Nat} {t u : Tm} {s v : Value} (h : Desk2 w M t u s v w1) (hb : Below w1.heap.size w1 w2) : Desk2 w M t u s v w2 := by
  have hs := h.size
  have ha := h.above
  exact ⟨h.under.trans (hb.mono (by omega)), ha, by rw [hb.block _ (by omega)]; exact h.box, by rw [hb.block _ (by omega)]; exact h.res, by rw [hb.block _ (by omega)]; exact h.made⟩
theorem Desk2.set {w w1 : World} {M : Nat} {t u : Tm} {s v : Value} (h : Desk2 w M t u s v w1) (o : Nat) (x : Value) : Desk2 w M t u s v (w1.setCell ⟨w.heap.size + 2, o, none⟩ x) := by
  have ha := h.above
  exact ⟨h.under.setCell (by simp) _, ha, by rw [Below.heap_setCell _ _ _ _ (by show w.heap.size ≠ w.heap.size + 2; omega)]; exact h.box, by rw [Below.heap_setCell _ _ _ _ (by show w.heap.size + 1 ≠ w.heap.size + 2; omega)]; exact h.res, by rw [Below.heap_setCell _ _ _ _ (by show M ≠ w.heap.size + 2; omega)]; exact h.made⟩
theorem Desk2.drew {w w1 : World} {M : Nat} {t u : Tm} {s v : Value} (h : Desk2 w M t u s v w1) : Desk2 w M t u s v w1.drew := ⟨h.under.drew, h.above, h.box, h.res, h.made⟩
end Go.Proofs.Ytjlppnmckobcfaa

namespace Go.Proofs.Ytjlppnmckobcfaa
open Go.RowKit

/-- Terms one behind the other, each with the slice of its kids. -/
def Row (w : World) (b : Nat) : Nat → List (Tm × Value) → Prop
  | _, [] => True
  | o, (t, s) :: r => Node w b o t s ∧ t.fine ∧ Lies w t.kids s ∧ Row w b (o + 5) r

theorem Row.at {w : World} {b : Nat} {ps : List (Tm × Value)} : ∀ {o : Nat}, Row w b o ps → ∀ i (h : i < ps.length), Node w b (o + i * 5) (ps[i]).1 (ps[i]).2 ∧ (ps[i]).1.fine ∧ Lies w (ps[i]).1.kids (ps[i]).2 := by
  induction ps with
  | nil => intro o _ i h; simp at h
  | cons p r ih =>
    intro o hr i h
    cases i with
    | zero => exact ⟨by simpa using hr.1, hr.2.1, hr.2.2.1⟩
    | succ i =>
      have := ih hr.2.2.2 i (by simpa using h)
      rw [show o + 5 + i * 5 = o + (i + 1) * 5 by omega] at this
      simpa using this

theorem Row.lies {w : World} {b o cap : Nat} {ps : List (Tm × Value)} (h : Row w b o ps) (hc : ps.length ≤ cap) (hm : cap ≤ maxLen) : Lies w (ps.map (·.1)) (.slice (some ⟨b, o, none⟩) ps.length cap) := by
  have := Lies.mk (w := w) (ps.map (·.1)) (some ⟨b, o, none⟩) cap (fun i => (ps[i]?.map (·.2)).getD (.slice none 0 0)) (by simpa using hc) hm
    (fun x hx => by
      obtain ⟨p, hp, rfl⟩ := List.mem_map.1 hx
      obtain ⟨i, hi, rfl⟩ := List.getElem_of_mem hp
      exact (h.at i hi).2.1)
    (fun i hi => by
      have hi' : i < ps.length := by simpa using hi
      refine ⟨b, o, rfl, ?_⟩
      simp only [List.getElem_map, List.getElem?_eq_getElem hi', Option.map_some, Option.getD_some]
      exact (h.at i hi').1)
    (fun i hi => by
      have hi' : i < ps.length := by simpa using hi
      simp only [List.getElem_map, List.getElem?_eq_getElem hi', Option.map_some, Option.getD_some]
      exact (h.at i hi').2.2)
  simpa using this

end Go.Proofs.Ytjlppnmckobcfaa

namespace Go.Proofs.Ytjlppnmckobcfaa
open Go.RowKit

/-- The box, the result; the box may hold another term than at first. -/
structure Pair (w : World) (x : Tm) (s : Value) (w' : World) : Prop where
  under : Below w.heap.size w w'
  box : w'.heap[w.heap.size]? = some (boxOf x s)
  res : w'.heap[w.heap.size + 1]? = some zeroObj
theorem Pair.put {w w1 : World} {x : Tm} {s : Value} (h : Pair w x s w1) (y : Tm) (sy : Value) : Pair w y sy (five w1 w.heap.size (.int .i64 y.k) (.int .i64 y.i) (.int .i64 y.j) (.int .i64 y.n) sy) :=
  ⟨below_five h.under (Nat.le_refl _) _ _ _ _ _, five_set h.box, by rw [five_other _ _ _ _ _ _ _ (by omega)]; exact h.res⟩
end Go.Proofs.Ytjlppnmckobcfaa

namespace Go.Proofs.Ytjlppnmckobcfaa
open Go.RowKit

/-- Two boxes; they may hold other terms than at first. -/
structure Two (w : World) (x : Tm) (s : Value) (y : Tm) (r : Value) (w' : World) : Prop where
  under : Below w.heap.size w w'
  one : w'.heap[w.heap.size]? = some (boxOf x s)
  two : w'.heap[w.heap.size + 1]? = some (boxOf y r)
theorem Two.call {w w1 w2 : World} {x y : Tm} {s r : Value} (h : Two w x s y r w1) (hb : Below w1.heap.size w1 w2) : Two w x s y r w2 :=
  ⟨h.under.trans (hb.mono h.under.size), by rw [hb.block _ (block_lt h.one)]; exact h.one, by rw [hb.block _ (block_lt h.two)]; exact h.two⟩
theorem Two.drew {w w1 : World} {x y : Tm} {s r : Value} (h : Two w x s y r w1) : Two w x s y r w1.drew := ⟨h.under.drew, h.one, h.two⟩
theorem Two.put {w w1 : World} {x y : Tm} {s r : Value} (h : Two w x s y r w1) (p : Tm) (sp : Value) (q : Tm) (sq : Value) : Two w p sp q sq (five (five w1 w.heap.size (.int .i64 p.k) (.int .i64 p.i) (.int .i64 p.j) (.int .i64 p.n) sp) (w.heap.size + 1) (.int .i64 q.k) (.int .i64 q.i) (.int .i64 q.j) (.int .i64 q.n) sq) :=
  ⟨below_five (below_five h.under (Nat.le_refl _) _ _ _ _ _) (by omega) _ _ _ _ _, by rw [five_other _ _ _ _ _ _ _ (by omega)]; exact five_set h.one, five_set (by rw [five_other _ _ _ _ _ _ _ (by omega)]; exact h.two)⟩

end Go.Proofs.Ytjlppnmckobcfaa

namespace Go.Proofs.Ytjlppnmckobcfaa

/-- An equality across types. -/
structure He where
  i : Int
  a : Tm
  b : Tm
  x : Tm
  y : Tm
  h : Tm
def He.zero : He := ⟨0, .zero, .zero, .zero, .zero, .zero⟩
def He.fine (h : He) : Prop := I64 h.i ∧ h.a.fine ∧ h.b.fine ∧ h.x.fine ∧ h.y.fine ∧ h.h.fine
/-- A family. -/
structure Fm where
  i : Int
  j : Int
  a : Tm
  c : Tm
  b : Tm
  d : Tm
  e : Tm
  f : Tm
def Fm.fine (g : Fm) : Prop := I64 g.i ∧ I64 g.j ∧ g.a.fine ∧ g.c.fine ∧ g.b.fine ∧ g.d.fine ∧ g.e.fine ∧ g.f.fine

end Go.Proofs.Ytjlppnmckobcfaa

namespace Go.Proofs.Ytjlppnmckobcfaa
open Go.RowKit

/-- What was there is there, but for block g. -/
def Sees (V : World) (g : Nat) (w' : World) : Prop := ∀ k, k < V.heap.size → k ≠ g → w'.heap[k]? = V.heap[k]?
theorem sees_kept {V W : World} (g : Nat) (h : Kept V W) : Sees V g W := fun k hk _ => Below.block h k hk
theorem sees_of {V W w' : World} {g : Nat} (h : Kept V W) (hs : Sees W g w') : Sees V g w' := fun k hk hne => (hs k (Nat.lt_of_lt_of_le hk (Below.size h)) hne).trans (Below.block h k hk)
theorem extract_list {C vs : Array Value} {o : Nat} (h : (C.toList.drop o).take vs.size = vs.toList) : C.extract o (o + vs.size) = vs := by
  apply Array.toList_inj.1
  rw [← h, Array.toList_extract]
  simp
/-- A cell of a block. -/
theorem part_cell {V : World} {r g : Nat} {C : Array Value} {T : TypeId} {fr : Nat × Nat} (h : V.heap[g]? = some (.cells C T fr)) (hne : g ≠ r) (o : Nat) (v : Value) (hv : C[o]? = some v) : ∀ w', Sees V r w' → w'.cell? ⟨g, o, none⟩ = some v := fun w' hk => by
  have hb : w'.heap[g]? = some (.cells C T fr) := (hk g (block_lt h) hne).trans h
  rw [cell_of_row w' g o C T fr hb]; exact hv
theorem kept_refl (w : World) : Kept w w := Below.refl _ _
theorem kept_trans {w w1 w2 : World} (h : Kept w w1) (h' : Kept w1 w2) : Kept w w2 := kept_call h h'
theorem kept_new (w : World) (o : Obj) : Kept w (w.alloc o) := (Below.refl _ _).alloc (Nat.le_refl _) _

/-- An equality across types by value. -/
abbrev hv (h : He) (sa sb sx sy sh : Value) : Value := .agg #[.int .i64 h.i, .int .i64 h.a.k, .int .i64 h.a.i, .int .i64 h.a.j, .int .i64 h.a.n, sa, .int .i64 h.b.k, .int .i64 h.b.i, .int .i64 h.b.j, .int .i64 h.b.n, sb, .int .i64 h.x.k, .int .i64 h.x.i, .int .i64 h.x.j, .int .i64 h.x.n, sx, .int .i64 h.y.k, .int .i64 h.y.i, .int .i64 h.y.j, .int .i64 h.y.n, sy, .int .i64 h.h.k, .int .i64 h.h.i, .int .i64 h.h.j, .int .i64 h.h.n, sh]
def HLies (w : World) (h : He) (sa sb sx sy sh : Value) : Prop := Lies w h.a.kids sa ∧ Lies w h.b.kids sb ∧ Lies w h.x.kids sx ∧ Lies w h.y.kids sy ∧ Lies w h.h.kids sh
theorem HLies.keep {w w' : World} {h : He} {sa sb sx sy sh : Value} (H : HLies w h sa sb sx sy sh) (hb : Kept w w') : HLies w' h sa sb sx sy sh := ⟨H.1.keep hb, H.2.1.keep hb, H.2.2.1.keep hb, H.2.2.2.1.keep hb, H.2.2.2.2.keep hb⟩
def FLies (w : World) (g : Fm) (sa sc sb sd se sf : Value) : Prop := Lies w g.a.kids sa ∧ Lies w g.c.kids sc ∧ Lies w g.b.kids sb ∧ Lies w g.d.kids sd ∧ Lies w g.e.kids se ∧ Lies w g.f.kids sf
theorem FLies.keep {w w' : World} {g : Fm} {sa sc sb sd se sf : Value} (H : FLies w g sa sc sb sd se sf) (hb : Kept w w') : FLies w' g sa sc sb sd se sf := ⟨H.1.keep hb, H.2.1.keep hb, H.2.2.1.keep hb, H.2.2.2.1.keep hb, H.2.2.2.2.1.keep hb, H.2.2.2.2.2.keep hb⟩

end Go.Proofs.Ytjlppnmckobcfaa

namespace Go.Proofs.Ytjlppnmckobcfaa
open Go.RowKit

/-- Terms behind a slice, at whatever place of blocks of which P speaks. -/
inductive LiesQ (w : World) (P : Nat → Prop) : List Tm → Value → Prop
  | mk (l : List Tm) (a : Option Addr) (cap : Nat) (S : Nat → Value) (hc : l.length ≤ cap) (hm : cap ≤ maxLen) (hf : ∀ x ∈ l, x.fine)
      (hn : ∀ i (h : i < l.length), ∃ b o, a = some ⟨b, o, none⟩ ∧ P b ∧ Node w b (o + i * 5) l[i] (S i)) (hk : ∀ i (h : i < l.length), LiesQ w P (l[i]).kids (S i)) : LiesQ w P l (.slice a l.length cap)

theorem LiesQ.lies {w : World} {P : Nat → Prop} {l : List Tm} {s : Value} (h : LiesQ w P l s) : Lies w l s := by
  induction h with
  | mk l a cap S hc hm hf hn hk ih => exact .mk l a cap S hc hm hf (fun i hi => by obtain ⟨b, o, ha, _, hx⟩ := hn i hi; exact ⟨b, o, ha, hx⟩) ih
theorem Lies.q {w : World} {l : List Tm} {s : Value} (h : Lies w l s) : LiesQ w (fun b => b < w.heap.size) l s := by
  induction h with
  | mk l a cap S hc hm hf hn hk ih => exact .mk l a cap S hc hm hf (fun i hi => by obtain ⟨b, o, ha, hx⟩ := hn i hi; exact ⟨b, o, ha, hx.lt, hx⟩) ih
theorem LiesQ.keep {w w' : World} {P Q : Nat → Prop} {l : List Tm} {s : Value} (h : LiesQ w P l s) (hb : ∀ b, P b → b < w.heap.size → w'.heap[b]? = w.heap[b]?) (hq : ∀ b, P b → b < w.heap.size → Q b) : LiesQ w' Q l s := by
  induction h with
  | mk l a cap S hc hm hf hn hk ih =>
    exact .mk l a cap S hc hm hf (fun i hi => by obtain ⟨b, o, ha, hp, hx⟩ := hn i hi; exact ⟨b, o, ha, hq b hp hx.lt, hx.same (hb b hp hx.lt)⟩) ih
theorem LiesQ.later {w w' : World} {P : Nat → Prop} {l : List Tm} {s : Value} (h : LiesQ w P l s) (hb : Below w.heap.size w w') : LiesQ w' P l s := h.keep (fun b _ hlt => hb.block b hlt) (fun _ hp _ => hp)
theorem LiesQ.wide {w : World} {P Q : Nat → Prop} {l : List Tm} {s : Value} (h : LiesQ w P l s) (hq : ∀ b, P b → Q b) : LiesQ w Q l s := h.keep (fun _ _ _ => rfl) (fun b hp _ => hq b hp)
theorem LiesQ.out {w : World} {P : Nat → Prop} {l : List Tm} {s : Value} (h : LiesQ w P l s) : ∃ (a : Option Addr) (cap : Nat) (S : Nat → Value), s = .slice a l.length cap ∧ l.length ≤ cap ∧ cap ≤ maxLen ∧ (∀ x ∈ l, x.fine) ∧
    (∀ i (h : i < l.length), ∃ b o, a = some ⟨b, o, none⟩ ∧ P b ∧ Node w b (o + i * 5) l[i] (S i)) ∧ (∀ i (h : i < l.length), LiesQ w P (l[i]).kids (S i)) := by
  cases h with
  | mk l a cap S hc hm hf hn hk => exact ⟨a, cap, S, rfl, hc, hm, hf, hn, hk⟩
theorem liesQ_nil (w : World) (P : Nat → Prop) : LiesQ w P [] (.slice none 0 0) := .mk [] none 0 (fun _ => .nilIface) (Nat.le_refl _) (by decide) (fun _ h => by cases h) (fun _ h => by cases h) (fun _ h => by cases h)

/-- What lies in a call's own memory. -/
theorem LiesP.q {w : World} {P : Nat → Prop} {l : List Tm} {s : Value} (h : LiesP w P l s) : LiesQ w P l s := by
  induction h with
  | mk l a cap S hc hm hf hn hk ih => exact .mk l a cap S hc hm hf (fun i hi => by obtain ⟨b, ha, hp, hx⟩ := hn i hi; exact ⟨b, 0, ha, hp, by rw [Nat.zero_add]; exact hx⟩) ih

/-- Blocks that were there before E, or that are new since N. -/
def Far (E N b : Nat) : Prop := b < E ∨ N ≤ b
structure MadeQ (E N B : Nat) (w : World) (v : Value) (ps : List (Tm × Value)) : Prop where
  own : w.ownsRow B 32 5 v ps.length (cells5 ps)
  fine : ∀ p ∈ ps, p.1.fine
  kids : ∀ p ∈ ps, LiesQ w (fun b => Far E N b ∧ v.ownBlock ≠ some b) p.1.kids p.2
end Go.Proofs.Ytjlppnmckobcfaa
