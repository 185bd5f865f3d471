/-
  Facts and contracts that the proof of CheckMore uses.
-/
import Derived.WalkKit
import Derived.Lib.Hide
import Derived.Deep.RegionHeld3
import Derived.Test.YtokgpaajelgakaaRows
import Derived.KernelRfl
import Derived.Deep.RegionWith
import Derived.Deep.AppendLies
import Derived.Laws.Rows
import Derived.Laws.IdiomCopy
import Derived.Deep.Slices
import Derived.Deep.QuietTactic
import Derived.BigQuiet
import Derived.Lib.QuietBelow
import Derived.StillTailTactics
import Derived.IntWalk
import Derived.OwnWalk
import Derived.OrdersHeld
import Derived.Deep.DeepCutAuto
import Derived.Maps.AppendAt
import Derived.Lib.Builder
import Derived.Deep.RegionLaw
import Derived.Below
import Derived.Laws.CopyRow
import Derived.Lib.MinMax
import Derived.Deep.LoopGhost
import Derived.Deep.MidRow
import Derived.Laws.Tables
import Derived.Laws.CopyOwn
import Derived.Deep.RegionHeld
import Derived.Deep.Upon
import Derived.ArgAppend
import Derived.Laws.EntriesVeiled
import GoSem.Core.Float
import Derived.ProofKit
import Derived.LoopTactic
import Derived.Laws.Cover2
import Derived.Laws.FloatArith
import Derived.Laws.Externs
import Derived.RowKit
import Derived.Deep.Cut
import Derived.Deep.CutBlock
import Derived.OpenShut
import Derived.Carry
import Derived.ChangeSlices
import Derived.JoinedOf
namespace Go.Proofs.Ytokgpaajelgakaa
open Go.RowKit
inductive Tm where
  | mk (k i j n : Int) (l : List Tm)
namespace Tm
def k : Tm → Int | .mk k _ _ _ _ => k
def i : Tm → Int | .mk _ i _ _ _ => i
def j : Tm → Int | .mk _ _ j _ _ => j
def n : Tm → Int | .mk _ _ _ n _ => n
def kids : Tm → List Tm | .mk _ _ _ _ l => l
theorem eta (t : Tm) : Tm.mk t.k t.i t.j t.n t.kids = t := by cases t; rfl
theorem ind {P : Tm → Prop} (h : ∀ t, (∀ x ∈ t.kids, P x) → P t) : ∀ t, P t
  | .mk k i j n l => h (.mk k i j n l) (fun x (_ : x ∈ l) => ind h x)
end Tm
def I64 (x : Int) : Prop := -9223372036854775808 ≤ x ∧ x ≤ 9223372036854775807
def Tm.fine (t : Tm) : Prop := I64 t.k ∧ I64 t.i ∧ I64 t.j ∧ I64 t.n
abbrev tv (t : Tm) (s : Value) : Value := .agg #[.int .i64 t.k, .int .i64 t.i, .int .i64 t.j, .int .i64 t.n, s]
structure Node (w : World) (b o : Nat) (t : Tm) (s : Value) : Prop where
  c0 : w.cell? ⟨b, o, none⟩ = some (.int .i64 t.k)
  c1 : w.cell? ⟨b, o + 1, none⟩ = some (.int .i64 t.i)
  c2 : w.cell? ⟨b, o + 2, none⟩ = some (.int .i64 t.j)
  c3 : w.cell? ⟨b, o + 3, none⟩ = some (.int .i64 t.n)
  c4 : w.cell? ⟨b, o + 4, none⟩ = some s
inductive Lies (w : World) : List Tm → Value → Prop
  | mk (l : List Tm) (a : Option Addr) (cap : Nat) (S : Nat → Value) (hc : l.length ≤ cap) (hm : cap ≤ maxLen) (hf : ∀ x ∈ l, x.fine)
      (hn : ∀ i (h : i < l.length), ∃ b o, a = some ⟨b, o, none⟩ ∧ Node w b (o + i * 5) l[i] (S i)) (hk : ∀ i (h : i < l.length), Lies w (l[i]).kids (S i)) : Lies w l (.slice a l.length cap)
theorem Lies.out {w : World} {l : List Tm} {s : Value} (h : Lies w l s) : ∃ (a : Option Addr) (cap : Nat) (S : Nat → Value), s = .slice a l.length cap ∧ l.length ≤ cap ∧ cap ≤ maxLen ∧ (∀ x ∈ l, x.fine) ∧
    (∀ i (h : i < l.length), ∃ b o, a = some ⟨b, o, none⟩ ∧ Node w b (o + i * 5) l[i] (S i)) ∧ (∀ i (h : i < l.length), Lies w (l[i]).kids (S i)) := by
  cases h with
  | mk l a cap S hc hm hf hn hk => exact ⟨a, cap, S, rfl, hc, hm, hf, hn, hk⟩
theorem Node.lt {w : World} {b o : Nat} {t : Tm} {s : Value} (h : Node w b o t s) : b < w.heap.size := World.block_lt_of_cell? _ _ h.c0
theorem Node.below {w w' : World} {b o B : Nat} {t : Tm} {s : Value} (h : Node w b o t s) (hb : Below B w w') (hB : b < B) : Node w' b o t s :=
  ⟨(hb.cell (by exact hB)).trans h.c0, (hb.cell (by exact hB)).trans h.c1, (hb.cell (by exact hB)).trans h.c2, (hb.cell (by exact hB)).trans h.c3, (hb.cell (by exact hB)).trans h.c4⟩
theorem Lies.keep {w w' : World} {l : List Tm} {s : Value} (h : Lies w l s) (hb : Below w.heap.size w w') : Lies w' l s := by
  induction h with
  | mk l a cap S hc hm hf hn hk ih =>
    exact .mk l a cap S hc hm hf (fun i hi => by obtain ⟨b, o, ha, hx⟩ := hn i hi; exact ⟨b, o, ha, hx.below hb hx.lt⟩) ih
end Go.Proofs.Ytokgpaajelgakaa
namespace Go.Proofs.Ytokgpaajelgakaa
open Go.RowKit
theorem box_cells {w wr : World} {v0 v1 v2 v3 v4 : Value} {T : TypeId} (h : Below (w.heap.size + 1) (w.alloc (.cells #[v0, v1, v2, v3, v4] T)) wr) :
    wr.cell? ⟨w.heap.size, 0, none⟩ = some v0 ∧ wr.cell? ⟨w.heap.size, 1, none⟩ = some v1 ∧ wr.cell? ⟨w.heap.size, 2, none⟩ = some v2 ∧ wr.cell? ⟨w.heap.size, 3, none⟩ = some v3 ∧ wr.cell? ⟨w.heap.size, 4, none⟩ = some v4 := by
  have key : ∀ o, wr.cell? ⟨w.heap.size, o, none⟩ = (#[v0, v1, v2, v3, v4] : Array Value)[o]? := fun o => by
    rw [h.cell (p := ⟨w.heap.size, o, none⟩) (by exact Nat.lt_succ_self _), World.cell?_alloc_at _ _ _ _ rfl]
  exact ⟨by rw [key]; rfl, by rw [key]; rfl, by rw [key]; rfl, by rw [key]; rfl, by rw [key]; rfl⟩
theorem below_of_box {w wr : World} {o : Obj} (h : Below (w.heap.size + 1) (w.alloc o) wr) : Below w.heap.size w wr :=
  ((Below.refl _ _).alloc (Nat.le_refl _) _).trans (h.mono (Nat.le_succ _))
theorem below_call {B : Nat} {a w w' : World} (h : Below B a w) (h' : Below w.heap.size w w') (hB : B ≤ w.heap.size) : Below B a w' := h.trans (h'.mono hB)
end Go.Proofs.Ytokgpaajelgakaa
namespace Go.Proofs.Ytokgpaajelgakaa
open Go.RowKit
def boxOf (t : Tm) (s : Value) : Obj := .cells #[.int .i64 t.k, .int .i64 t.i, .int .i64 t.j, .int .i64 t.n, s] 31
def Held (w : World) (t : Tm) (s : Value) (w' : World) : Prop := Below (w.heap.size + 1) (w.alloc (boxOf t s)) w'
theorem held_start (w : World) (t : Tm) (s : Value) : Held w t s (w.alloc (.cells #[.int .i64 t.k, .int .i64 t.i, .int .i64 t.j, .int .i64 t.n, s] 31)) := Below.refl _ _
theorem held_cells {w w' : World} {t : Tm} {s : Value} (h : Held w t s w') : w'.cell? ⟨w.heap.size, 0, none⟩ = some (.int .i64 t.k) ∧ w'.cell? ⟨w.heap.size, 1, none⟩ = some (.int .i64 t.i) ∧ w'.cell? ⟨w.heap.size, 2, none⟩ = some (.int .i64 t.j) ∧
    w'.cell? ⟨w.heap.size, 3, none⟩ = some (.int .i64 t.n) ∧ w'.cell? ⟨w.heap.size, 4, none⟩ = some s := box_cells h
theorem held_call {w w1 w2 : World} {t : Tm} {s : Value} (h : Held w t s w1) (hb : Below w1.heap.size w1 w2) : Held w t s w2 :=
  below_call h hb (by have := h.size; simpa using this)
theorem held_drew {w w1 : World} {t : Tm} {s : Value} (h : Held w t s w1) : Held w t s w1.drew := Below.drew h
theorem held_lies {w w1 : World} {t : Tm} {s s' : Value} {l : List Tm} (h : Held w t s w1) (hl : Lies w l s') : Lies w1 l s' := hl.keep (below_of_box h)
theorem held_below {w w1 : World} {t : Tm} {s : Value} (h : Held w t s w1) : Below w.heap.size w w1 := below_of_box h
end Go.Proofs.Ytokgpaajelgakaa
namespace Go.Proofs.Ytokgpaajelgakaa
open Go.RowKit
def givenN (s : Int) : Int := if s = 3 ∨ s = 5 ∨ s = 6 ∨ s = 8 ∨ s = 10 ∨ s = 11 then 4 else if s = 1 ∨ s = 2 ∨ s = 7 ∨ s = 9 then 5 else if s = 4 ∨ s = 12 ∨ s = 13 ∨ s = 14 ∨ s = 21 then 6 else if s = 15 ∨ s = 18 ∨ s = 19 ∨ s = 20 then 9 else if s = 16 ∨ s = 17 then 12 else -1
def kidsN (k s : Int) : Int :=
  if k = 1 ∨ k = 2 then 0 else if k = 18 ∨ k = 19 then 1 else if k = 3 ∨ k = 6 ∨ k = 13 ∨ k = 14 ∨ k = 15 ∨ k = 16 ∨ k = 21 ∨ k = 11 then 2
  else if k = 4 ∨ k = 8 ∨ k = 9 ∨ k = 10 ∨ k = 20 then 3 else if k = 5 ∨ k = 7 ∨ k = 12 ∨ k = 17 then 4 else if k = 22 then 6 else if k = 23 then givenN s else -1
def bindsN (k i : Int) : Int :=
  if k = 3 ∨ k = 5 ∨ k = 6 ∨ k = 7 ∨ k = 8 ∨ k = 9 ∨ k = 13 ∨ k = 14 ∨ k = 16 ∨ k = 17 then (if i = 1 then 1 else 0)
  else if k = 4 then (if i = 1 ∨ i = 2 then 1 else 0) else if k = 22 then (if i = 2 then 2 else 0) else 0
theorem ret_int {a b : Int} (h : a = b) : Ending.returned (.int .i64 a) = .returned (.int .i64 b) := by rw [h]
theorem ret_bool {a b : Bool} (h : a = b) : Ending.returned (.bool a) = .returned (.bool b) := by rw [h]
set_option maxHeartbeats 1000000 in
theorem given_any (s : Int) (w : World) : Calls Try.prog 97 #[.int .i64 s] w fun e w' => e = .returned (.int .i64 (givenN s)) ∧ w = w' := by
  go_enter Try.func97, Try.ntmps97
  go_wp2
  all_goals go_ret
  all_goals exact ⟨ret_int (by simp only [beq_iff_eq, beq_eq_false_iff_ne, ne_eq] at *; unfold givenN; (repeat' split) <;> omega), rfl⟩
set_option maxHeartbeats 1000000 in
theorem kids_any (k s : Int) (w : World) : Calls Try.prog 94 #[.int .i64 k, .int .i64 s] w fun e w' => e = .returned (.int .i64 (kidsN k s)) ∧ w = w' := by
  go_enter Try.func94, Try.ntmps94
  go_wp2_with (go_at_call 97; refine (given_any _ _).mono ?_; rintro e w' ⟨rfl, rfl⟩)
  all_goals go_ret
  all_goals exact ⟨ret_int (by simp only [beq_iff_eq, beq_eq_false_iff_ne, ne_eq] at *; unfold kidsN; (repeat' split) <;> omega), rfl⟩
set_option maxHeartbeats 1000000 in
theorem binds_any (k i : Int) (w : World) : Calls Try.prog 92 #[.int .i64 k, .int .i64 i] w fun e w' => e = .returned (.int .i64 (bindsN k i)) ∧ w = w' := by
  go_enter Try.func92, Try.ntmps92
  go_wp2
  all_goals go_ret
  all_goals exact ⟨ret_int (by simp only [beq_iff_eq, beq_eq_false_iff_ne, ne_eq] at *; unfold bindsN; (repeat' split) <;> omega), rfl⟩
def levelB (i : Int) : Bool := decide (0 ≤ i) && decide (i ≤ 1000)
set_option maxHeartbeats 1000000 in
theorem level_any (i : Int) (w : World) : Calls Try.prog 98 #[.int .i64 i] w fun e w' => e = .returned (.bool (levelB i)) ∧ w = w' := by
  go_enter Try.func98, Try.ntmps98
  go_wp2
  all_goals go_ret
  all_goals exact ⟨ret_bool (by unfold levelB; first | (simp_all; done) | (simp_all; omega)), rfl⟩
end Go.Proofs.Ytokgpaajelgakaa
namespace Go.Proofs.Ytokgpaajelgakaa
open Go.RowKit
def numbersN (k i j n : Int) : Bool :=
  if k = 2 then decide (0 ≤ i) && (decide (i ≤ 2147483647) && ((j == 0) && (n == 0)))
  else if k = 1 ∨ k = 10 ∨ k = 11 ∨ k = 12 then levelB i && ((j == 0) && (n == 0))
  else if k = 3 ∨ k = 4 ∨ k = 5 ∨ k = 6 ∨ k = 7 ∨ k = 8 ∨ k = 9 then levelB i && (levelB j && (n == 0))
  else if k = 23 then levelB i && levelB j else (i == 0) && ((j == 0) && (n == 0))
set_option maxHeartbeats 2000000 in
theorem numbers_any (t : Tm) (s : Value) (w : World) : Calls Try.prog 95 #[tv t s] w fun e w' => e = .returned (.bool (numbersN t.k t.i t.j t.n)) ∧ Below w.heap.size w w' := by
  unfold tv
  generalize t.k = k, t.i = i, t.j = j, t.n = n
  go_enter Try.func95, Try.ntmps95
  go_wp2_with (go_at_call 98; refine (level_any _ _).mono ?_; rintro e w' ⟨rfl, rfl⟩)
  all_goals go_ret
  all_goals exact ⟨ret_bool (by simp only [beq_iff_eq, beq_eq_false_iff_ne, ne_eq] at *; unfold numbersN; (simp [*] <;> omega)), (Below.refl _ _).alloc (Nat.le_refl _) _⟩
end Go.Proofs.Ytokgpaajelgakaa
namespace Go.Proofs.Ytokgpaajelgakaa
open Go.RowKit
mutual
def Tm.plainB : Tm → Bool
  | .mk k i j n l => (k == 1 || (k == 2 || (decide (13 ≤ k) && decide (k ≤ 23)))) && (((l.length : Int) == kidsN k n) && (numbersN k i j n && plains l))
def plains : List Tm → Bool
  | [] => true
  | t :: r => t.plainB && plains r
end
mutual
def Tm.markedB : Tm → Bool
  | .mk k i j n l => (decide (1 ≤ k) && decide (k ≤ 12)) && (((l.length : Int) == kidsN k n) && (numbersN k i j n && markeds (k == 12) 0 l))
def markeds : Bool → Nat → List Tm → Bool
  | _, _, [] => true
  | tr, p, t :: r => (if tr && p == 2 then t.plainB else t.markedB) && markeds tr (p + 1) r
end
def Tm.nodeB (t : Tm) : Bool := ((t.kids.length : Int) == kidsN t.k t.n) && numbersN t.k t.i t.j t.n
theorem Tm.plainB_eq (t : Tm) : t.plainB = ((t.k == 1 || (t.k == 2 || (decide (13 ≤ t.k) && decide (t.k ≤ 23)))) && (t.nodeB && plains t.kids)) := by
  cases t; simp only [Tm.plainB, Tm.nodeB, Tm.k, Tm.i, Tm.j, Tm.n, Tm.kids, Bool.and_assoc]; rfl
theorem Tm.markedB_eq (t : Tm) : t.markedB = ((decide (1 ≤ t.k) && decide (t.k ≤ 12)) && (t.nodeB && markeds (t.k == 12) 0 t.kids)) := by
  cases t; simp only [Tm.markedB, Tm.nodeB, Tm.k, Tm.i, Tm.j, Tm.n, Tm.kids, Bool.and_assoc]; rfl
theorem plains_take (l : List Tm) (k : Nat) (h : k < l.length) : plains (l.take (k + 1)) = (plains (l.take k) && (l[k]).plainB) := by
  induction l generalizing k with
  | nil => simp at h
  | cons a r ih =>
    cases k with
    | zero => simp [plains]
    | succ k => simp only [List.take_succ_cons, plains, List.getElem_cons_succ]; rw [ih k (by simpa using h), Bool.and_assoc]
theorem plains_of (l : List Tm) (k : Nat) (h : k < l.length) (hp : (l[k]).plainB = false) : plains l = false := by
  induction l generalizing k with
  | nil => simp at h
  | cons a r ih =>
    cases k with
    | zero => simp only [List.getElem_cons_zero] at hp; simp [plains, hp]
    | succ k => simp only [List.getElem_cons_succ] at hp; simp [plains, ih k (by simpa using h) hp]
def Tm.kidB (t : Tm) (tr : Bool) (k : Nat) : Bool := if tr && k == 2 then t.plainB else t.markedB
theorem markeds_take (tr : Bool) (l : List Tm) (p k : Nat) (h : k < l.length) : markeds tr p (l.take (k + 1)) = (markeds tr p (l.take k) && (l[k]).kidB tr (p + k)) := by
  induction l generalizing p k with
  | nil => simp at h
  | cons a r ih =>
    cases k with
    | zero => simp [markeds, Tm.kidB]
    | succ k =>
      simp only [List.take_succ_cons, markeds, List.getElem_cons_succ]
      rw [ih (p + 1) k (by simpa using h), Bool.and_assoc, show p + 1 + k = p + (k + 1) by omega]
theorem markeds_of (tr : Bool) (l : List Tm) (p k : Nat) (h : k < l.length) (hp : (l[k]).kidB tr (p + k) = false) : markeds tr p l = false := by
  induction l generalizing p k with
  | nil => simp at h
  | cons a r ih =>
    cases k with
    | zero => simp only [List.getElem_cons_zero, Nat.add_zero, Tm.kidB] at hp; simp only [markeds, hp, Bool.false_and]
    | succ k =>
      simp only [List.getElem_cons_succ] at hp
      simp only [markeds]
      rw [ih (p + 1) k (by simpa using h) (by rw [show p + 1 + k = p + (k + 1) by omega]; exact hp), Bool.and_false]
theorem kidsN_nonneg {k n : Int} (h : 0 ≤ kidsN k n) : 1 ≤ k ∧ k ≤ 23 := by
  unfold kidsN at h; (repeat' split at h) <;> omega
theorem kidsN_two {k n : Int} (h1 : 1 ≤ k) (h2 : k ≤ 2) : kidsN k n = 0 := by
  unfold kidsN; rw [if_pos (by omega)]
theorem Tm.node_kind {t : Tm} (h : t.nodeB = true) : 1 ≤ t.k ∧ t.k ≤ 23 := by
  simp only [Tm.nodeB, Bool.and_eq_true, beq_iff_eq] at h
  exact kidsN_nonneg (n := t.n) (by omega)
def Tm.sortsN (t : Tm) : Int := (if t.markedB then 1 else 0) + (if t.plainB then 2 else 0)
theorem sorts_bad {t : Tm} (h : t.nodeB = false) : t.sortsN = 0 := by
  simp [Tm.sortsN, Tm.plainB_eq, Tm.markedB_eq, h]
theorem sorts_two {t : Tm} (h : t.nodeB = true) (h2 : t.k ≤ 2) : t.sortsN = 3 ∧ t.kids = [] := by
  have hk := (Tm.node_kind h).1
  have hl : t.kids = [] := by
    simp only [Tm.nodeB, Bool.and_eq_true, beq_iff_eq] at h
    rw [kidsN_two hk h2] at h
    exact List.eq_nil_of_length_eq_zero (by omega)
  have h3 : (t.k == 1 || (t.k == 2 || (decide (13 ≤ t.k) && decide (t.k ≤ 23)))) = true := by
    have : t.k = 1 ∨ t.k = 2 := by omega
    rcases this with e | e <;> simp [e]
  have h4 : (decide (1 ≤ t.k) && decide (t.k ≤ 12)) = true := by simp; omega
  refine ⟨?_, hl⟩
  simp [Tm.sortsN, Tm.plainB_eq, Tm.markedB_eq, h, h3, h4, hl, plains, markeds]
theorem sorts_marked {t : Tm} (h : t.nodeB = true) (h2 : 2 < t.k) (h3 : t.k ≤ 12) : t.sortsN = if markeds (t.k == 12) 0 t.kids then 1 else 0 := by
  have h4 : (decide (1 ≤ t.k) && decide (t.k ≤ 12)) = true := by simp; omega
  have h5 : (t.k == 1 || (t.k == 2 || (decide (13 ≤ t.k) && decide (t.k ≤ 23)))) = false := by
    simp; omega
  simp [Tm.sortsN, Tm.plainB_eq, Tm.markedB_eq, h, h4, h5]
theorem sorts_plain {t : Tm} (h : t.nodeB = true) (h2 : 12 < t.k) : t.sortsN = if plains t.kids then 2 else 0 := by
  have hk := (Tm.node_kind h).2
  have h4 : (decide (1 ≤ t.k) && decide (t.k ≤ 12)) = false := by simp; omega
  have h5 : (t.k == 1 || (t.k == 2 || (decide (13 ≤ t.k) && decide (t.k ≤ 23)))) = true := by
    simp; omega
  simp [Tm.sortsN, Tm.plainB_eq, Tm.markedB_eq, h, h4, h5]
end Go.Proofs.Ytokgpaajelgakaa
namespace Go.Proofs.Ytokgpaajelgakaa
open Go.RowKit
mutual
def Tm.size : Tm → Nat
  | .mk _ _ _ _ l => sizes l + 1
def sizes : List Tm → Nat
  | [] => 0
  | t :: r => t.size + sizes r
end
theorem sizes_take (l : List Tm) (k : Nat) (h : k < l.length) : sizes (l.take (k + 1)) = sizes (l.take k) + (l[k]).size := by
  induction l generalizing k with
  | nil => simp at h
  | cons a r ih =>
    cases k with
    | zero => simp [sizes]
    | succ k => simp only [List.take_succ_cons, sizes, List.getElem_cons_succ]; rw [ih k (by simpa using h)]; omega
theorem sizes_le (l : List Tm) (k : Nat) : sizes (l.take k) ≤ sizes l := by
  induction l generalizing k with
  | nil => simp
  | cons a r ih =>
    cases k with
    | zero => simp [sizes]
    | succ k => simp only [List.take_succ_cons, sizes]; have := ih k; omega
theorem Tm.size_eq (t : Tm) : t.size = sizes t.kids + 1 := by cases t; rfl
set_option maxHeartbeats 400000 in
theorem size_any (t : Tm) : ∀ (w : World) (s : Value), Lies w t.kids s → t.size ≤ 1000000000000 → Calls Try.prog 71 #[tv t s] w fun e w' => e = .returned (.int .i64 t.size) ∧ Below w.heap.size w w' := by
  induction t using Tm.ind with
  | h t ih =>
    intro w s hl hs
    obtain ⟨a, cap, S, rfl, hc, hm, hf, hn, hk⟩ := hl.out
    unfold tv
    have hsz := t.size_eq
    unfold maxLen at hm
    have IH := Lib.hid ih
    have HN := Lib.hid hn
    have HK := Lib.hid hk
    have HL := Lib.hid hl
    have HSZ := Lib.hid hsz
    clear ih hn hk hf hl hsz
    go_enter Try.func71, Try.ntmps71
    go_wp2
    go_loopw [3, 9] (fun n i wr => ∃ k : Nat, k ≤ t.kids.length ∧ i = .int .i64 k ∧ n = .int .i64 ((1 + sizes (t.kids.take k) : Nat) : Int) ∧ Below w.heap.size w wr) (fun _ i _ => t.kids.length - (intOf i).toNat)
    case atStart => exact ⟨0, Nat.zero_le _, rfl, by simp [sizes], (Below.refl _ _).alloc (Nat.le_refl _) _⟩
    case round =>
      obtain ⟨k, hk, rfl, rfl, hb⟩ := hrel
      by_cases hlt : k < t.kids.length
      · obtain ⟨b, o, rfl, hx⟩ := HN.out k hlt
        have hy := hx.below hb hx.lt
        obtain ⟨c0, c1, c2, c3, c4⟩ := hy
        have hq := HK.out k hlt
        obtain ⟨a', cap', S', hS, -⟩ := hq.out
        rw [hS] at c4 hq
        have HQ := Lib.hid hq
        clear hS hq
        have HM := Lib.hid (List.getElem_mem hlt)
        have HT := Lib.hid (sizes_take t.kids k hlt)
        have h1 := sizes_le t.kids (k + 1)
        have h2 : 1 + sizes (t.kids.take k) + (t.kids[k]).size ≤ 1000000000000 := by rw [HT.out] at h1; rw [HSZ.out] at hs; omega
        clear h1
        have HB : Below w.heap.size w (wr.alloc (.cells #[.int .i64 t.kids[k].k, .int .i64 t.kids[k].i, .int .i64 t.kids[k].j, .int .i64 t.kids[k].n, .slice a' t.kids[k].kids.length cap'] 31)) := hb.alloc hb.size _
        go_wp2_with fail
        refine (IH.out _ HM.out _ _ (HQ.out.keep HB) (by omega)).mono ?_
        rintro e w' ⟨rfl, hb'⟩
        have HB' : Below w.heap.size w w' := HB.trans (hb'.mono HB.size)
        clear hb' HB hb
        go_wp2
        go_roundw
        case rel => exact ⟨k + 1, by omega, by go_num, by rw [HT.out]; go_num, HB'⟩
        case measure => simp [intOf]; omega
      · have : k = t.kids.length := by omega
        subst this
        go_wp2
        go_ret
        refine ⟨?_, hb⟩
        rw [List.take_length, HSZ.out, Nat.add_comm]
        rfl
end Go.Proofs.Ytokgpaajelgakaa
namespace Go.Proofs.Ytokgpaajelgakaa
open Go.RowKit
mutual
def Tm.deep : Tm → Nat
  | .mk _ _ _ _ l => deeps l + 1
def deeps : List Tm → Nat
  | [] => 0
  | t :: r => max t.deep (deeps r)
end
theorem deeps_take (l : List Tm) (k : Nat) (h : k < l.length) : deeps (l.take (k + 1)) = max (deeps (l.take k)) (l[k]).deep := by
  induction l generalizing k with
  | nil => simp at h
  | cons a r ih =>
    cases k with
    | zero => simp [deeps]
    | succ k => simp only [List.take_succ_cons, deeps, List.getElem_cons_succ]; rw [ih k (by simpa using h)]; omega
theorem Tm.deep_eq (t : Tm) : t.deep = deeps t.kids + 1 := by cases t; rfl
theorem deep_le_size (t : Tm) : t.deep ≤ t.size := by
  induction t using Tm.ind with
  | h t ih =>
    rw [t.deep_eq, t.size_eq]
    have : ∀ l : List Tm, (∀ x ∈ l, x.deep ≤ x.size) → deeps l ≤ sizes l := by
      intro l hl
      induction l with
      | nil => simp [deeps]
      | cons a r ihr => simp only [deeps, sizes]; have := ihr (fun x hx => hl x (List.mem_cons_of_mem _ hx)); have := hl a List.mem_cons_self; omega
    have := this t.kids ih
    omega
end Go.Proofs.Ytokgpaajelgakaa
namespace Go.Proofs.Ytokgpaajelgakaa
open Go.RowKit
def Weighed (t : Tm) (most deep : Int) (w : World) (e : Ending) (w' : World) : Prop :=
  ∃ r : Int, e = .returned (.int .i64 r) ∧ 1 ≤ r ∧ r ≤ most + 1 ∧ (r ≤ most → r = t.size ∧ (t.deep : Int) ≤ deep + 1) ∧ Below w.heap.size w w'
set_option maxHeartbeats 800000 in
theorem weigh_any (t : Tm) : ∀ (w : World) (s : Value) (most deep : Int), Lies w t.kids s → 0 ≤ most → most ≤ 100000 → -1 ≤ deep → deep ≤ 100000 →
    Calls Try.prog 41 #[tv t s, .int .i64 most, .int .i64 deep] w (Weighed t most deep w) := by
  induction t using Tm.ind with
  | h t ih =>
    intro w s most deep hl h0 h1 h2 h3
    obtain ⟨a, cap, S, rfl, hc, hm, hf, hn, hk⟩ := hl.out
    unfold tv
    have hsz := t.size_eq
    have hdp := t.deep_eq
    unfold maxLen at hm
    have IH := Lib.hid ih
    have HN := Lib.hid hn
    have HK := Lib.hid hk
    have HSZ := Lib.hid hsz
    have HDP := Lib.hid hdp
    clear ih hn hk hf hl hsz hdp
    by_cases hd : deep < 0
    · go_enter Try.func41, Try.ntmps41
      go_wp2
      go_ret
      exact ⟨most + 1, rfl, by omega, by omega, fun h => by omega, (Below.refl _ _).alloc (Nat.le_refl _) _⟩
    go_enter Try.func41, Try.ntmps41
    have hcell : ∀ (wr : World), Below (w.heap.size + 1) (w.alloc (.cells #[.int .i64 t.k, .int .i64 t.i, .int .i64 t.j, .int .i64 t.n, .slice a t.kids.length cap] 31)) wr → wr.cell? ⟨w.heap.size, 4, none⟩ = some (.slice a t.kids.length cap) := fun wr h => by
      rw [h.cell (p := ⟨w.heap.size, 4, none⟩) (by exact Nat.lt_succ_self _), World.cell?_alloc_at _ _ _ _ rfl]; rfl
    have HC := Lib.hid hcell
    clear hcell
    go_wp2
    go_loopw [7, 8] (fun nv iv wr => ∃ (k : Nat) (n : Int), k ≤ t.kids.length ∧ iv = .int .i64 k ∧ nv = .int .i64 n ∧ 1 ≤ n ∧ n ≤ most + 1 ∧ Hid (n ≤ most → n = ((1 + sizes (t.kids.take k) : Nat) : Int) ∧ (deeps (t.kids.take k) : Int) ≤ deep) ∧
        Below (w.heap.size + 1) (w.alloc (.cells #[.int .i64 t.k, .int .i64 t.i, .int .i64 t.j, .int .i64 t.n, .slice a t.kids.length cap] 31)) wr) (fun _ i _ => t.kids.length - (intOf i).toNat)
    case atStart => exact ⟨0, 1, Nat.zero_le _, rfl, rfl, by omega, by omega, fun _ => ⟨by simp [sizes], by simp [deeps]; omega⟩, Below.refl _ _⟩
    case round =>
      obtain ⟨k, n, hk, rfl, rfl, hn1, hn2, hrel, hb⟩ := hrel
      have hc4 := HC.out wr hb
      have hb0 : Below w.heap.size w wr := ((Below.refl _ _).alloc (Nat.le_refl _) _).trans (hb.mono (by omega))
      by_cases hlt : k < t.kids.length
      · by_cases hnm : n ≤ most
        · obtain ⟨b, o, rfl, hx⟩ := HN.out k hlt
          have hy := hx.below hb0 hx.lt
          obtain ⟨c0, c1, c2, c3, c4⟩ := hy
          have hq := HK.out k hlt
          obtain ⟨a', cap', S', hS, -⟩ := hq.out
          rw [hS] at c4 hq
          have HQ := Lib.hid (hq.keep hb0)
          clear hS hq
          have HM := Lib.hid (List.getElem_mem hlt)
          have HT := Lib.hid (sizes_take t.kids k hlt)
          have HT2 := Lib.hid (deeps_take t.kids k hlt)
          go_wp2_with fail
          refine (IH.out _ HM.out _ _ _ _ HQ.out (by omega) (by omega) (by omega) (by omega)).mono ?_
          rintro e w' ⟨r, rfl, hr1, hr2, hr3, hb'⟩
          have HR3 := Lib.hid hr3
          have HB' := hb.trans (hb'.mono (by have := hb.size; simpa using this))
          clear hb' hb hb0 hc4 hr3
          go_wp2
          go_roundw
          case rel =>
            refine ⟨k + 1, n + r, by omega, by go_num, rfl, by omega, by omega, ?_, HB'⟩
            intro hle
            obtain ⟨e1, e2⟩ := hrel.out hnm
            obtain ⟨e3, e4⟩ := HR3.out (by omega)
            rw [HT.out, HT2.out, e1, e3]
            exact ⟨by simp; omega, by omega⟩
          case measure => simp [intOf]; omega
        · go_wp2
          go_ret
          exact ⟨n, rfl, by omega, by omega, fun h => absurd h (by omega), hb0⟩
      · have : k = t.kids.length := by omega
        subst this
        go_wp2
        all_goals go_ret
        all_goals
          refine ⟨n, rfl, by omega, by omega, fun h => ?_, hb0⟩
          obtain ⟨e1, e2⟩ := hrel.out h
          rw [List.take_length] at e1 e2
          rw [HSZ.out, HDP.out]
          exact ⟨by rw [e1]; simp; omega, by omega⟩
def NotGreat (t : Tm) (most : Int) (w : World) (e : Ending) (w' : World) : Prop :=
  ∃ g : Bool, e = .returned (.bool g) ∧ (g = false → (t.size : Int) ≤ most ∧ t.deep ≤ 201) ∧ Below w.heap.size w w'
end Go.Proofs.Ytokgpaajelgakaa
namespace Go.Proofs.Ytokgpaajelgakaa
open Go.RowKit
theorem bits_table : bits BinOp.and IntKind.i64 0 1 = 0 ∧ bits BinOp.and IntKind.i64 1 1 = 1 ∧ bits BinOp.and IntKind.i64 2 1 = 0 ∧ bits BinOp.and IntKind.i64 3 1 = 1 ∧
    bits BinOp.and IntKind.i64 0 2 = 0 ∧ bits BinOp.and IntKind.i64 1 2 = 0 ∧ bits BinOp.and IntKind.i64 2 2 = 2 ∧ bits BinOp.and IntKind.i64 3 2 = 2 := by
  refine ⟨?_, ?_, ?_, ?_, ?_, ?_, ?_, ?_⟩ <;> kernel_rfl
set_option maxHeartbeats 800000 in
theorem sorts_any (t : Tm) : ∀ (w : World) (s : Value), Lies w t.kids s → Calls Try.prog 85 #[tv t s] w fun e w' => e = .returned (.int .i64 t.sortsN) ∧ Below w.heap.size w w' := by
  induction t using Tm.ind with
  | h t ih =>
    intro w s hl
    obtain ⟨a, cap, S, rfl, hc, hm, hf, hn, hk⟩ := hl.out
    unfold tv
    unfold maxLen at hm
    have IH := Lib.hid ih
    have HN := Lib.hid hn
    have HK := Lib.hid hk
    have HBX := Lib.hid (fun (wr : World) => box_cells (w := w) (wr := wr) (v0 := .int .i64 t.k) (v1 := .int .i64 t.i) (v2 := .int .i64 t.j) (v3 := .int .i64 t.n) (v4 := .slice a t.kids.length cap) (T := 31))
    clear ih hn hk hf hl
    by_cases h1 : kidsN t.k t.n < 0
    · have hv : t.sortsN = 0 := sorts_bad (by simp only [Tm.nodeB, Bool.and_eq_false_iff]; left; simp; omega)
      have HV := Lib.hid hv
      clear hv
      go_enter Try.func85, Try.ntmps85
      go_wp2_with (go_at_call 94; refine (kids_any _ _ _).mono ?_; rintro e w' ⟨rfl, rfl⟩)
      go_ret
      exact ⟨by rw [HV.out]; rfl, (Below.refl _ _).alloc (Nat.le_refl _) _⟩
    by_cases h2 : (t.kids.length : Int) = kidsN t.k t.n
    rotate_left
    · have hv : t.sortsN = 0 := sorts_bad (by simp only [Tm.nodeB, Bool.and_eq_false_iff]; left; simp; omega)
      have HV := Lib.hid hv
      have h3 : ((t.kids.length : Int) == kidsN t.k t.n) = false := by simpa using h2
      have h4 : ((t.kids.length : Int) != kidsN t.k t.n) = true := by simpa using h2
      clear hv
      go_enter Try.func85, Try.ntmps85
      go_wp2_with (go_at_call 94; refine (kids_any _ _ _).mono ?_; rintro e w' ⟨rfl, rfl⟩)
      go_ret
      exact ⟨by rw [HV.out]; rfl, (Below.refl _ _).alloc (Nat.le_refl _) _⟩
    have h3 : ((t.kids.length : Int) == kidsN t.k t.n) = true := by simpa using h2
    have h4 : ((t.kids.length : Int) != kidsN t.k t.n) = false := by simpa using h2
    have H2 := Lib.hid h2
    clear h2
    cases h5 : numbersN t.k t.i t.j t.n with
    | false =>
      have hv : t.sortsN = 0 := sorts_bad (by simp only [Tm.nodeB, Bool.and_eq_false_iff]; right; exact h5)
      have HV := Lib.hid hv
      clear hv
      go_enter Try.func85, Try.ntmps85
      go_wp2_with (first | (go_at_call 94; refine (kids_any _ _ _).mono ?_; rintro e w' ⟨rfl, rfl⟩) | (go_at_call 95; refine (numbers_any t _ _).mono ?_; rintro e w' ⟨rfl, hb'⟩; have HB' := ((Below.refl w.heap.size w).alloc (Nat.le_refl _) _).trans (hb'.mono (by simp)); clear hb'; rw [h5]))
      go_ret
      exact ⟨by rw [HV.out]; rfl, HB'⟩
    | true =>
      have hnode : t.nodeB = true := by simp only [Tm.nodeB, h5, Bool.and_true]; simpa using H2.out
      by_cases k2 : t.k ≤ 2
      · have hv := sorts_two hnode k2
        have hl0 : t.kids.length = 0 := by rw [hv.2]; rfl
        have HL0 := Lib.hid hl0
        clear hl0
        have HV := Lib.hid hv.1
        clear hv hnode
        go_enter Try.func85, Try.ntmps85
        go_wp2_with (first | (go_at_call 94; refine (kids_any _ _ _).mono ?_; rintro e w' ⟨rfl, rfl⟩) | (go_at_call 95; refine (numbers_any t _ _).mono ?_; rintro e w' ⟨rfl, hb'⟩; have HB' := below_call (Below.refl (w.heap.size + 1) _) hb' (by simp); clear hb'; obtain ⟨d0, d1, d2, d3, d4⟩ := HBX.out _ HB'; rw [h5]))
        have hl0 := HL0.out
        refine wp_loop_rounds 1 ?_
        rw [rounds_succ]
        go_wp2
        go_ret
        exact ⟨by rw [HV.out]; rfl, below_of_box HB'⟩
      by_cases k12 : t.k ≤ 12
      · have hv := sorts_marked hnode (by omega) k12
        have HV := Lib.hid hv
        clear hv hnode
        go_enter Try.func85, Try.ntmps85
        go_wp2_with (first | (go_at_call 94; refine (kids_any _ _ _).mono ?_; rintro e w' ⟨rfl, rfl⟩) | (go_at_call 95; refine (numbers_any t _ _).mono ?_; rintro e w' ⟨rfl, hb'⟩; have HB' := below_call (Below.refl (w.heap.size + 1) _) hb' (by simp); clear hb'; obtain ⟨d0, d1, d2, d3, d4⟩ := HBX.out _ HB'; rw [h5]))
        go_loopw [36] (fun iv wr => ∃ k : Nat, k ≤ t.kids.length ∧ iv = .int .i64 k ∧ Hid (markeds (t.k == 12) 0 (t.kids.take k) = true) ∧ Below (w.heap.size + 1) (w.alloc (.cells #[.int .i64 t.k, .int .i64 t.i, .int .i64 t.j, .int .i64 t.n, .slice a t.kids.length cap] 31)) wr) (fun i _ => t.kids.length - (intOf i).toNat)
        case atStart => exact ⟨0, Nat.zero_le _, rfl, by simp [Hid, markeds], HB'⟩
        case round =>
          obtain ⟨k, hk, rfl, hgood, hb⟩ := hrel
          obtain ⟨d0, d1, d2, d3, d4⟩ := HBX.out _ hb
          have hb0 := below_of_box hb
          by_cases hlt : k < t.kids.length
          · obtain ⟨b, o, rfl, hx⟩ := HN.out k hlt
            have hy := hx.below hb0 hx.lt
            obtain ⟨c0, c1, c2, c3, c4⟩ := hy
            have hq := HK.out k hlt
            obtain ⟨a', cap', S', hS, -⟩ := hq.out
            rw [hS] at c4 hq
            have HM := Lib.hid (List.getElem_mem hlt)
            have HB2 : Below (w.heap.size + 1) (w.alloc (.cells #[.int .i64 t.k, .int .i64 t.i, .int .i64 t.j, .int .i64 t.n, .slice (some ⟨b, o, none⟩) t.kids.length cap] 31)) (wr.alloc (.cells #[.int .i64 t.kids[k].k, .int .i64 t.kids[k].i, .int .i64 t.kids[k].j, .int .i64 t.kids[k].n, .slice a' t.kids[k].kids.length cap'] 31)) := hb.alloc (by have := hb.size; simpa using this) _
            have hq2 := hq.keep (below_of_box HB2)
            have HQ := Lib.hid hq2
            have hsz2 : w.heap.size + 1 ≤ wr.heap.size := by have := hb.size; simpa using this
            obtain ⟨y0, y1, y2, y3, y4⟩ := HBX.out _ HB2
            clear hS hq hq2 hb HB'
            cases e12 : (t.k == 12) <;> cases e2 : ((k : Int) == 2)
            all_goals
              go_wp2_with fail
              refine (IH.out _ HM.out _ _ HQ.out).mono ?_
              rintro e w' ⟨he, hb'⟩
              have HB3 := below_call HB2 hb' (by simp; omega)
              obtain ⟨x0, x1, x2, x3, x4⟩ := HBX.out _ HB3
              have e2' : (k == 2) = ((k : Int) == 2) := by rw [e2]; simp at e2 ⊢; omega
              have HE2 := Lib.hid e2'
              clear e2' hb' HB2 d0 d1 d2 d3 d4 y0 y1 y2 y3 y4 hb0
              cases hm : (t.kids[k]).markedB <;> cases hp : (t.kids[k]).plainB
              all_goals
                simp [Tm.sortsN, hm, hp] at he
                subst he
                obtain ⟨t1, t2, t3, t4, t5, t6, t7, t8⟩ := bits_table
                go_wp2
                first
                | (go_ret
                   exact ⟨by rw [HV.out, if_neg (by rw [markeds_of _ t.kids 0 k hlt (by simp [Tm.kidB, e12, HE2.out, e2, hm, hp])]; simp)]; rfl, below_of_box HB3⟩)
                | (go_roundw
                   case rel => exact ⟨k + 1, by omega, by go_num, by have hg := hgood.out; rw [e12] at hg; show _ = true; rw [markeds_take _ _ _ _ hlt, hg]; simp [Tm.kidB, HE2.out, e2, hm, hp], HB3⟩
                   case measure => simp [intOf]; omega)
          · have : k = t.kids.length := by omega
            subst this
            go_wp2
            go_ret
            exact ⟨by rw [HV.out, if_pos (by have := hgood.out; rwa [List.take_length] at this)]; rfl, hb0⟩
      · have hv := sorts_plain hnode (by omega)
        have HV := Lib.hid hv
        clear hv hnode
        go_enter Try.func85, Try.ntmps85
        go_wp2_with (first | (go_at_call 94; refine (kids_any _ _ _).mono ?_; rintro e w' ⟨rfl, rfl⟩) | (go_at_call 95; refine (numbers_any t _ _).mono ?_; rintro e w' ⟨rfl, hb'⟩; have HB' := below_call (Below.refl (w.heap.size + 1) _) hb' (by simp); clear hb'; obtain ⟨d0, d1, d2, d3, d4⟩ := HBX.out _ HB'; rw [h5]))
        go_loopw [36] (fun iv wr => ∃ k : Nat, k ≤ t.kids.length ∧ iv = .int .i64 k ∧ Hid (plains (t.kids.take k) = true) ∧ Below (w.heap.size + 1) (w.alloc (.cells #[.int .i64 t.k, .int .i64 t.i, .int .i64 t.j, .int .i64 t.n, .slice a t.kids.length cap] 31)) wr) (fun i _ => t.kids.length - (intOf i).toNat)
        case atStart => exact ⟨0, Nat.zero_le _, rfl, by simp [Hid, plains], HB'⟩
        case round =>
          obtain ⟨k, hk, rfl, hgood, hb⟩ := hrel
          obtain ⟨d0, d1, d2, d3, d4⟩ := HBX.out _ hb
          have hb0 := below_of_box hb
          by_cases hlt : k < t.kids.length
          · obtain ⟨b, o, rfl, hx⟩ := HN.out k hlt
            have hy := hx.below hb0 hx.lt
            obtain ⟨c0, c1, c2, c3, c4⟩ := hy
            have hq := HK.out k hlt
            obtain ⟨a', cap', S', hS, -⟩ := hq.out
            rw [hS] at c4 hq
            have HM := Lib.hid (List.getElem_mem hlt)
            have HB2 : Below (w.heap.size + 1) (w.alloc (.cells #[.int .i64 t.k, .int .i64 t.i, .int .i64 t.j, .int .i64 t.n, .slice (some ⟨b, o, none⟩) t.kids.length cap] 31)) (wr.alloc (.cells #[.int .i64 t.kids[k].k, .int .i64 t.kids[k].i, .int .i64 t.kids[k].j, .int .i64 t.kids[k].n, .slice a' t.kids[k].kids.length cap'] 31)) := hb.alloc (by have := hb.size; simpa using this) _
            have hq2 := hq.keep (below_of_box HB2)
            have HQ := Lib.hid hq2
            have hsz2 : w.heap.size + 1 ≤ wr.heap.size := by have := hb.size; simpa using this
            obtain ⟨y0, y1, y2, y3, y4⟩ := HBX.out _ HB2
            clear hS hq hq2 hb HB'
            have e12 : (t.k == 12) = false := by simp; omega
            cases e2 : ((k : Int) == 2)
            all_goals
              go_wp2_with fail
              refine (IH.out _ HM.out _ _ HQ.out).mono ?_
              rintro e w' ⟨he, hb'⟩
              have HB3 := below_call HB2 hb' (by simp; omega)
              obtain ⟨x0, x1, x2, x3, x4⟩ := HBX.out _ HB3
              have e2' : (k == 2) = ((k : Int) == 2) := by rw [e2]; simp at e2 ⊢; omega
              have HE2 := Lib.hid e2'
              clear e2' hb' HB2 d0 d1 d2 d3 d4 y0 y1 y2 y3 y4 hb0
              cases hm : (t.kids[k]).markedB <;> cases hp : (t.kids[k]).plainB
              all_goals
                simp [Tm.sortsN, hm, hp] at he
                subst he
                obtain ⟨t1, t2, t3, t4, t5, t6, t7, t8⟩ := bits_table
                go_wp2
                first
                | (go_ret
                   exact ⟨by rw [HV.out, if_neg (by rw [plains_of t.kids k hlt hp]; simp)]; rfl, below_of_box HB3⟩)
                | (go_roundw
                   case rel => exact ⟨k + 1, by omega, by go_num, by show _ = true; rw [plains_take _ _ hlt, hgood.out]; simp [hp], HB3⟩
                   case measure => simp [intOf]; omega)
          · have : k = t.kids.length := by omega
            subst this
            go_wp2
            go_ret
            exact ⟨by rw [HV.out, if_pos (by have := hgood.out; rwa [List.take_length] at this)]; rfl, hb0⟩
end Go.Proofs.Ytokgpaajelgakaa
namespace Go.Proofs.Ytokgpaajelgakaa
open Go.RowKit
mutual
def Tm.freeN : Tm → Int
  | .mk k i _ _ l => if k = 2 then i + 1 else frees k 0 l
def frees : Int → Nat → List Tm → Int
  | _, _, [] => 0
  | k, p, t :: r => max (t.freeN - bindsN k p) (frees k (p + 1) r)
end
theorem Tm.freeN_eq (t : Tm) : t.freeN = if t.k = 2 then t.i + 1 else frees t.k 0 t.kids := by cases t; rfl
theorem frees_nonneg (k : Int) (l : List Tm) (p : Nat) : 0 ≤ frees k p l := by
  induction l generalizing p with
  | nil => simp [frees]
  | cons a r ih => simp only [frees]; have := ih (p + 1); omega
theorem frees_take (k : Int) (l : List Tm) (p m : Nat) (h : m < l.length) : frees k p (l.take (m + 1)) = max (frees k p (l.take m)) ((l[m]).freeN - bindsN k ((p + m : Nat) : Int)) := by
  induction l generalizing p m with
  | nil => simp at h
  | cons a r ih =>
    cases m with
    | zero => simp [frees]; omega
    | succ m => simp only [List.take_succ_cons, frees, List.getElem_cons_succ]; rw [ih (p + 1) m (by simpa using h), show p + 1 + m = p + (m + 1) by omega]; omega
def Tm.rightB (t : Tm) : Bool := t.markedB || t.plainB
theorem plains_mem {l : List Tm} (h : plains l = true) : ∀ x ∈ l, x.plainB = true := by
  induction l with
  | nil => simp
  | cons a r ih =>
    simp only [plains, Bool.and_eq_true] at h
    intro x hx
    rcases List.mem_cons.1 hx with rfl | hx
    · exact h.1
    · exact ih h.2 x hx
theorem markeds_mem {tr : Bool} {l : List Tm} {p : Nat} (h : markeds tr p l = true) : ∀ x ∈ l, x.rightB = true := by
  induction l generalizing p with
  | nil => simp
  | cons a r ih =>
    simp only [markeds, Bool.and_eq_true] at h
    intro x hx
    rcases List.mem_cons.1 hx with rfl | hx
    · have := h.1; simp only [Tm.rightB]; split at this <;> simp [this]
    · exact ih h.2 x hx
theorem Tm.right_node {t : Tm} (h : t.rightB = true) : t.nodeB = true := by
  simp only [Tm.rightB, Tm.markedB_eq, Tm.plainB_eq, Bool.or_eq_true, Bool.and_eq_true] at h
  rcases h with h | h
  · exact h.2.1
  · exact h.2.1
theorem Tm.right_kids {t : Tm} (h : t.rightB = true) : ∀ x ∈ t.kids, x.rightB = true := by
  simp only [Tm.rightB, Tm.markedB_eq, Tm.plainB_eq, Bool.or_eq_true, Bool.and_eq_true] at h
  rcases h with h | h
  · exact markeds_mem h.2.2
  · intro x hx; simp only [Tm.rightB, Bool.or_eq_true]; right; exact plains_mem h.2.2 x hx
theorem Tm.right_var {t : Tm} (h : t.rightB = true) (hk : t.k = 2) : 0 ≤ t.i ∧ t.i ≤ 2147483647 := by
  have := t.right_node h
  simp only [Tm.nodeB, numbersN, hk, Bool.and_eq_true, if_true, decide_eq_true_eq] at this
  exact ⟨this.2.1, this.2.2.1⟩
theorem frees_le (k : Int) (B : Int) (hB : 0 ≤ B) (l : List Tm) (p : Nat) (h : ∀ x ∈ l, x.freeN ≤ B) : frees k p l ≤ B := by
  induction l generalizing p with
  | nil => simpa [frees] using hB
  | cons a r ih =>
    simp only [frees]
    have h1 := ih (p + 1) (fun x hx => h x (List.mem_cons_of_mem _ hx))
    have h2 := h a List.mem_cons_self
    have h3 : 0 ≤ bindsN k p := by unfold bindsN; (repeat' split) <;> omega
    omega
theorem binds_range (k i : Int) : 0 ≤ bindsN k i ∧ bindsN k i ≤ 2 := by unfold bindsN; (repeat' split) <;> omega
theorem Tm.free_range (t : Tm) : t.rightB = true → 0 ≤ t.freeN ∧ t.freeN ≤ 2147483648 := by
  induction t using Tm.ind with
  | h t ih =>
    intro h
    rw [t.freeN_eq]
    split
    · rename_i hk; have := t.right_var h hk; omega
    · exact ⟨frees_nonneg _ _ _, frees_le _ _ (by omega) _ _ (fun x hx => (ih x hx (t.right_kids h x hx)).2)⟩
set_option maxHeartbeats 800000 in
theorem free_any (t : Tm) : ∀ (w : World) (s : Value), Lies w t.kids s → t.rightB = true → Calls Try.prog 86 #[tv t s] w fun e w' => e = .returned (.int .i64 t.freeN) ∧ Below w.heap.size w w' := by
  induction t using Tm.ind with
  | h t ih =>
    intro w s hl hr
    obtain ⟨a, cap, S, rfl, hc, hm, hf, hn, hk⟩ := hl.out
    unfold tv
    unfold maxLen at hm
    have HF := Lib.hid (t.freeN_eq)
    have HR := Lib.hid (t.right_kids hr)
    have IH := Lib.hid ih
    have HN := Lib.hid hn
    have HK := Lib.hid hk
    have HBX := Lib.hid (fun (wr : World) => box_cells (w := w) (wr := wr) (v0 := .int .i64 t.k) (v1 := .int .i64 t.i) (v2 := .int .i64 t.j) (v3 := .int .i64 t.n) (v4 := .slice a t.kids.length cap) (T := 31))
    clear ih hn hk hf hl
    by_cases h2 : t.k = 2
    · have hv := t.right_var hr h2
      have e2 : (t.k == 2) = true := by simpa using h2
      have H2 := Lib.hid h2
      clear h2 hr
      go_enter Try.func86, Try.ntmps86
      go_wp2
      go_ret
      exact ⟨ret_int (by rw [HF.out, if_pos H2.out]), (Below.refl _ _).alloc (Nat.le_refl _) _⟩
    have e2 : (t.k == 2) = false := by simpa using h2
    have H2 := Lib.hid h2
    have HFB := Lib.hid (fun (x : Tm) (hx : x ∈ t.kids) => x.free_range (t.right_kids hr x hx))
    clear h2 hr
    go_enter Try.func86, Try.ntmps86
    go_wp2
    go_loopw [3, 15] (fun n i wr => ∃ k : Nat, k ≤ t.kids.length ∧ i = .int .i64 k ∧ n = .int .i64 (frees t.k 0 (t.kids.take k)) ∧ Below (w.heap.size + 1) (w.alloc (.cells #[.int .i64 t.k, .int .i64 t.i, .int .i64 t.j, .int .i64 t.n, .slice a t.kids.length cap] 31)) wr) (fun n i _ => t.kids.length - (intOf i).toNat)
    case atStart => exact ⟨0, Nat.zero_le _, rfl, by simp [frees], Below.refl _ _⟩
    case round =>
      obtain ⟨k, hk, rfl, rfl, hb⟩ := hrel
      obtain ⟨d0, d1, d2, d3, d4⟩ := HBX.out _ hb
      have hb0 := below_of_box hb
      by_cases hlt : k < t.kids.length
      · obtain ⟨b, o, rfl, hx⟩ := HN.out k hlt
        have hy := hx.below hb0 hx.lt
        obtain ⟨c0, c1, c2, c3, c4⟩ := hy
        have hq := HK.out k hlt
        obtain ⟨a', cap', S', hS, -⟩ := hq.out
        rw [hS] at c4 hq
        have HM := Lib.hid (List.getElem_mem hlt)
        have HB2 : Below (w.heap.size + 1) (w.alloc (.cells #[.int .i64 t.k, .int .i64 t.i, .int .i64 t.j, .int .i64 t.n, .slice (some ⟨b, o, none⟩) t.kids.length cap] 31)) (wr.alloc (.cells #[.int .i64 t.kids[k].k, .int .i64 t.kids[k].i, .int .i64 t.kids[k].j, .int .i64 t.kids[k].n, .slice a' t.kids[k].kids.length cap'] 31)) := hb.alloc (by have := hb.size; simpa using this) _
        have HQ := Lib.hid (hq.keep (below_of_box HB2))
        have hsz2 : w.heap.size + 1 ≤ wr.heap.size := by have := hb.size; simpa using this
        obtain ⟨y0, y1, y2, y3, y4⟩ := HBX.out _ HB2
        clear hS hq
        have hfr := HFB.out _ HM.out
        have hbr := binds_range t.k k
        have HT := Lib.hid (frees_take t.k t.kids 0 k hlt)
        have hfn := frees_nonneg t.k (t.kids.take k) 0
        have HRK := Lib.hid (HR.out _ HM.out)
        have hfl : frees t.k 0 (t.kids.take k) ≤ 2147483648 := frees_le _ _ (by omega) _ _ (fun x hx => (HFB.out x (List.mem_of_mem_take hx)).2)
        go_wp2_with fail
        go_region_with (first | (go_at_call 92; refine (binds_any _ _ _).mono ?_; rintro e w' ⟨rfl, rfl⟩) | (go_at_call 86; refine (IH.out _ HM.out _ _ (HQ.out.keep (Below.refl _ _).drew) HRK.out).mono ?_; rintro e w' ⟨rfl, hb'⟩; have HB3 := below_call HB2.drew hb' (by simp; omega); obtain ⟨x0, x1, x2, x3, x4⟩ := HBX.out _ HB3))
        all_goals
          clear hfn hfl hb0
          go_wp2
          go_roundw
          case rel => exact ⟨k + 1, by omega, by go_num, by rw [HT.out, Nat.zero_add]; all_goals ((try split) <;> go_num), HB3⟩
          case measure => simp [intOf]; omega
      · have : k = t.kids.length := by omega
        subst this
        go_wp2
        go_ret
        refine ⟨?_, hb0⟩
        rw [HF.out, if_neg H2.out, List.take_length]
        rfl
end Go.Proofs.Ytokgpaajelgakaa
namespace Go.Proofs.Ytokgpaajelgakaa
open Go.RowKit
mutual
def Tm.count : Tm → Nat
  | .mk k _ _ _ l => (if k = 12 then 1 else 0) + counts l
def counts : List Tm → Nat
  | [] => 0
  | t :: r => t.count + counts r
end
theorem Tm.count_eq (t : Tm) : t.count = (if t.k = 12 then 1 else 0) + counts t.kids := by cases t; rfl
theorem counts_take (l : List Tm) (k : Nat) (h : k < l.length) : counts (l.take (k + 1)) = counts (l.take k) + (l[k]).count := by
  induction l generalizing k with
  | nil => simp at h
  | cons a r ih =>
    cases k with
    | zero => simp [counts]
    | succ k => simp only [List.take_succ_cons, counts, List.getElem_cons_succ]; rw [ih k (by simpa using h)]; omega
theorem counts_le (l : List Tm) (k : Nat) : counts (l.take k) ≤ counts l := by
  induction l generalizing k with
  | nil => simp
  | cons a r ih =>
    cases k with
    | zero => simp [counts]
    | succ k => simp only [List.take_succ_cons, counts]; have := ih k; omega
set_option maxHeartbeats 400000 in
theorem moves_any (t : Tm) : ∀ (w : World) (s : Value), Lies w t.kids s → Calls Try.prog 69 #[tv t s] w fun e w' => e = .returned (.bool (decide (0 < t.count))) ∧ Below w.heap.size w w' := by
  induction t using Tm.ind with
  | h t ih =>
    intro w s hl
    obtain ⟨a, cap, S, rfl, hc, hm, hf, hn, hk⟩ := hl.out
    unfold tv
    have hcq := t.count_eq
    unfold maxLen at hm
    have IH := Lib.hid ih
    have HN := Lib.hid hn
    have HK := Lib.hid hk
    have HCQ := Lib.hid hcq
    clear ih hn hk hf hl hcq
    by_cases h12 : t.k = 12
    · have e12 : (t.k == 12) = true := by simpa using h12
      have H12 := Lib.hid h12
      clear h12
      go_enter Try.func69, Try.ntmps69
      go_wp2
      go_ret
      exact ⟨ret_bool (by rw [HCQ.out, if_pos H12.out]; simp; omega), (Below.refl _ _).alloc (Nat.le_refl _) _⟩
    have e12 : (t.k == 12) = false := by simpa using h12
    have H12 := Lib.hid h12
    clear h12
    go_enter Try.func69, Try.ntmps69
    go_wp2
    go_loopw [11] (fun i wr => ∃ k : Nat, k ≤ t.kids.length ∧ i = .int .i64 k ∧ Hid (counts (t.kids.take k) = 0) ∧ Below w.heap.size w wr) (fun i _ => t.kids.length - (intOf i).toNat)
    case atStart => exact ⟨0, Nat.zero_le _, rfl, by simp [counts, Hid], (Below.refl _ _).alloc (Nat.le_refl _) _⟩
    case round =>
      obtain ⟨k, hk, rfl, h0, hb⟩ := hrel
      by_cases hlt : k < t.kids.length
      · obtain ⟨b, o, rfl, hx⟩ := HN.out k hlt
        have hy := hx.below hb hx.lt
        obtain ⟨c0, c1, c2, c3, c4⟩ := hy
        have hq := HK.out k hlt
        obtain ⟨a', cap', S', hS, -⟩ := hq.out
        rw [hS] at c4 hq
        have HQ := Lib.hid hq
        clear hS hq
        have HM := Lib.hid (List.getElem_mem hlt)
        have HT := Lib.hid (counts_take t.kids k hlt)
        have HB : Below w.heap.size w (wr.alloc (.cells #[.int .i64 t.kids[k].k, .int .i64 t.kids[k].i, .int .i64 t.kids[k].j, .int .i64 t.kids[k].n, .slice a' t.kids[k].kids.length cap'] 31)) := hb.alloc hb.size _
        go_wp2_with fail
        refine (IH.out _ HM.out _ _ (HQ.out.keep HB)).mono ?_
        rintro e w' ⟨rfl, hb'⟩
        have HB' : Below w.heap.size w w' := HB.trans (hb'.mono HB.size)
        clear hb' HB hb
        by_cases hcnt : 0 < (t.kids[k]).count
        · have hcd : decide (0 < (t.kids[k]).count) = true := by simpa using hcnt
          go_wp2
          go_ret
          exact ⟨ret_bool (by have := counts_le t.kids (k + 1); rw [HT.out] at this; rw [HCQ.out]; simp; omega), HB'⟩
        · have hcd : decide (0 < (t.kids[k]).count) = false := by simpa using hcnt
          go_wp2
          go_roundw
          case rel => exact ⟨k + 1, by omega, by go_num, by show _ = _; rw [HT.out, h0.out]; omega, HB'⟩
          case measure => simp [intOf]; omega
      · have : k = t.kids.length := by omega
        subst this
        go_wp2
        go_ret
        refine ⟨ret_bool ?_, hb⟩
        have := h0.out
        rw [List.take_length] at this
        rw [HCQ.out, if_neg H12.out, this]; rfl
end Go.Proofs.Ytokgpaajelgakaa
namespace Go.Proofs.Ytokgpaajelgakaa
open Go.RowKit
def Tm.pureB (t : Tm) : Bool := t.markedB && (t.count == 0)
def Tm.freeB (t : Tm) : Int := if t.rightB then t.freeN else 0
set_option maxHeartbeats 800000 in
theorem right_any (t : Tm) (w : World) (s : Value) (hl : Lies w t.kids s) : Calls Try.prog 75 #[tv t s] w fun e w' => e = .returned (.bool t.rightB) ∧ Below w.heap.size w w' := by
  obtain ⟨a, cap, S, hs, -⟩ := hl.out
  subst hs
  have HB := (Below.refl (w.heap.size + 1) (w.alloc (.cells #[.int .i64 t.k, .int .i64 t.i, .int .i64 t.j, .int .i64 t.n, .slice a t.kids.length cap] 31)))
  have HL := Lib.hid (hl.keep (below_of_box HB))
  have HBX := Lib.hid (fun (wr : World) => box_cells (w := w) (wr := wr) (v0 := .int .i64 t.k) (v1 := .int .i64 t.i) (v2 := .int .i64 t.j) (v3 := .int .i64 t.n) (v4 := .slice a t.kids.length cap) (T := 31))
  clear hl
  unfold tv
  go_enter Try.func75, Try.ntmps75
  go_wp2_with fail
  refine (sorts_any t _ _ HL.out).mono ?_
  rintro e w' ⟨he, hb'⟩
  have HB2 := below_call HB hb' (by simp)
  obtain ⟨d0, d1, d2, d3, d4⟩ := HBX.out _ HB2
  clear hb'
  obtain ⟨t1, t2, t3, t4, t5, t6, t7, t8⟩ := bits_table
  cases hm : t.markedB <;> cases hp : t.plainB
  all_goals
    simp [Tm.sortsN, hm, hp] at he
    subst he
    go_wp2
    go_ret
    exact ⟨ret_bool (by simp [Tm.rightB, hm, hp]), below_of_box HB2⟩
set_option maxHeartbeats 800000 in
theorem marked_any (t : Tm) (w : World) (s : Value) (hl : Lies w t.kids s) : Calls Try.prog 68 #[tv t s] w fun e w' => e = .returned (.bool t.markedB) ∧ Below w.heap.size w w' := by
  obtain ⟨a, cap, S, hs, -⟩ := hl.out
  subst hs
  have HB := (Below.refl (w.heap.size + 1) (w.alloc (.cells #[.int .i64 t.k, .int .i64 t.i, .int .i64 t.j, .int .i64 t.n, .slice a t.kids.length cap] 31)))
  have HL := Lib.hid (hl.keep (below_of_box HB))
  have HBX := Lib.hid (fun (wr : World) => box_cells (w := w) (wr := wr) (v0 := .int .i64 t.k) (v1 := .int .i64 t.i) (v2 := .int .i64 t.j) (v3 := .int .i64 t.n) (v4 := .slice a t.kids.length cap) (T := 31))
  clear hl
  unfold tv
  go_enter Try.func68, Try.ntmps68
  go_wp2_with fail
  refine (sorts_any t _ _ HL.out).mono ?_
  rintro e w' ⟨he, hb'⟩
  have HB2 := below_call HB hb' (by simp)
  obtain ⟨d0, d1, d2, d3, d4⟩ := HBX.out _ HB2
  clear hb'
  obtain ⟨t1, t2, t3, t4, t5, t6, t7, t8⟩ := bits_table
  cases hm : t.markedB <;> cases hp : t.plainB
  all_goals
    simp [Tm.sortsN, hm, hp] at he
    subst he
    go_wp2
    go_ret
    exact ⟨ret_bool (by simp [hm]), below_of_box HB2⟩
set_option maxHeartbeats 800000 in
theorem pure_any (t : Tm) (w : World) (s : Value) (hl : Lies w t.kids s) : Calls Try.prog 43 #[tv t s] w fun e w' => e = .returned (.bool t.pureB) ∧ Below w.heap.size w w' := by
  obtain ⟨a, cap, S, hs, -⟩ := hl.out
  subst hs
  have HB := (Below.refl (w.heap.size + 1) (w.alloc (.cells #[.int .i64 t.k, .int .i64 t.i, .int .i64 t.j, .int .i64 t.n, .slice a t.kids.length cap] 31)))
  have HL := Lib.hid (hl.keep (below_of_box HB))
  have HBX := Lib.hid (fun (wr : World) => box_cells (w := w) (wr := wr) (v0 := .int .i64 t.k) (v1 := .int .i64 t.i) (v2 := .int .i64 t.j) (v3 := .int .i64 t.n) (v4 := .slice a t.kids.length cap) (T := 31))
  have hl0 := Lib.hid hl
  clear hl
  unfold tv
  go_enter Try.func43, Try.ntmps43
  go_wp2_with fail
  refine (marked_any t _ _ HL.out).mono ?_
  rintro e w' ⟨rfl, hb'⟩
  have HB2 := below_call HB hb' (by simp)
  obtain ⟨d0, d1, d2, d3, d4⟩ := HBX.out _ HB2
  clear hb'
  have HL2 := Lib.hid (hl0.out.keep (below_of_box HB2))
  cases hm : t.markedB
  · go_wp2
    go_ret
    exact ⟨ret_bool (by simp [Tm.pureB, hm]), below_of_box HB2⟩
  · go_wp2_with fail
    refine (moves_any t _ _ HL2.out).mono ?_
    rintro e w2 ⟨rfl, hb'⟩
    have HB3 := below_call HB2 hb' (by have := HB2.size; simpa using this)
    clear hb'
    go_wp2
    go_ret
    exact ⟨ret_bool (by simp [Tm.pureB, hm]; (try rw [Bool.eq_iff_iff]); simp; omega), below_of_box HB3⟩
set_option maxHeartbeats 800000 in
theorem Free_any (t : Tm) (w : World) (s : Value) (hl : Lies w t.kids s) : Calls Try.prog 70 #[tv t s] w fun e w' => e = .returned (.int .i64 t.freeB) ∧ Below w.heap.size w w' := by
  obtain ⟨a, cap, S, hs, -⟩ := hl.out
  subst hs
  have HB := (Below.refl (w.heap.size + 1) (w.alloc (.cells #[.int .i64 t.k, .int .i64 t.i, .int .i64 t.j, .int .i64 t.n, .slice a t.kids.length cap] 31)))
  have HL := Lib.hid (hl.keep (below_of_box HB))
  have HBX := Lib.hid (fun (wr : World) => box_cells (w := w) (wr := wr) (v0 := .int .i64 t.k) (v1 := .int .i64 t.i) (v2 := .int .i64 t.j) (v3 := .int .i64 t.n) (v4 := .slice a t.kids.length cap) (T := 31))
  have hl0 := Lib.hid hl
  clear hl
  unfold tv
  go_enter Try.func70, Try.ntmps70
  go_wp2_with fail
  refine (right_any t _ _ HL.out).mono ?_
  rintro e w' ⟨rfl, hb'⟩
  have HB2 := below_call HB hb' (by simp)
  obtain ⟨d0, d1, d2, d3, d4⟩ := HBX.out _ HB2
  clear hb'
  have HL2 := Lib.hid (hl0.out.keep (below_of_box HB2))
  cases hr : t.rightB
  · go_wp2
    go_ret
    exact ⟨ret_int (by simp [Tm.freeB, hr]), below_of_box HB2⟩
  · go_wp2_with fail
    refine (free_any t _ _ HL2.out hr).mono ?_
    rintro e w2 ⟨rfl, hb'⟩
    have HB3 := below_call HB2 hb' (by have := HB2.size; simpa using this)
    clear hb'
    go_wp2
    go_ret
    exact ⟨ret_int (by simp [Tm.freeB, hr]), below_of_box HB3⟩
end Go.Proofs.Ytokgpaajelgakaa
namespace Go.Proofs.Ytokgpaajelgakaa
open Go.RowKit
structure En where
  a : Tm
  i : Int
def En.fine (e : En) : Prop := e.a.fine ∧ I64 e.i
structure ENode (w : World) (b o : Nat) (e : En) (s : Value) : Prop where
  c0 : w.cell? ⟨b, o, none⟩ = some (.int .i64 e.a.k)
  c1 : w.cell? ⟨b, o + 1, none⟩ = some (.int .i64 e.a.i)
  c2 : w.cell? ⟨b, o + 2, none⟩ = some (.int .i64 e.a.j)
  c3 : w.cell? ⟨b, o + 3, none⟩ = some (.int .i64 e.a.n)
  c4 : w.cell? ⟨b, o + 4, none⟩ = some s
  c5 : w.cell? ⟨b, o + 5, none⟩ = some (.int .i64 e.i)
theorem ENode.lt {w : World} {b o : Nat} {e : En} {s : Value} (h : ENode w b o e s) : b < w.heap.size := World.block_lt_of_cell? _ _ h.c0
theorem ENode.below {w w' : World} {b o B : Nat} {e : En} {s : Value} (h : ENode w b o e s) (hb : Below B w w') (hB : b < B) : ENode w' b o e s :=
  ⟨(hb.cell (by exact hB)).trans h.c0, (hb.cell (by exact hB)).trans h.c1, (hb.cell (by exact hB)).trans h.c2, (hb.cell (by exact hB)).trans h.c3, (hb.cell (by exact hB)).trans h.c4, (hb.cell (by exact hB)).trans h.c5⟩
theorem ENode.same {w w' : World} {b o : Nat} {e : En} {s : Value} (h : ENode w b o e s) (hb : w'.heap[b]? = w.heap[b]?) : ENode w' b o e s :=
  ⟨(World.cell?_of_block (a := ⟨b, o, none⟩) hb).trans h.c0, (World.cell?_of_block (a := ⟨b, o + 1, none⟩) hb).trans h.c1, (World.cell?_of_block (a := ⟨b, o + 2, none⟩) hb).trans h.c2,
    (World.cell?_of_block (a := ⟨b, o + 3, none⟩) hb).trans h.c3, (World.cell?_of_block (a := ⟨b, o + 4, none⟩) hb).trans h.c4, (World.cell?_of_block (a := ⟨b, o + 5, none⟩) hb).trans h.c5⟩
structure LiesE (w : World) (l : List En) (s : Value) : Prop where
  out : ∃ (a : Option Addr) (cap : Nat) (S : Nat → Value), s = .slice a l.length cap ∧ l.length ≤ cap ∧ cap ≤ maxLen ∧ (∀ x ∈ l, x.fine) ∧
    (∀ i (h : i < l.length), ∃ b o, a = some ⟨b, o, none⟩ ∧ ENode w b (o + i * 6) l[i] (S i)) ∧ (∀ i (h : i < l.length), Lies w (l[i]).a.kids (S i))
theorem LiesE.keep {w w' : World} {l : List En} {s : Value} (h : LiesE w l s) (hb : Below w.heap.size w w') : LiesE w' l s := by
  obtain ⟨a, cap, S, hs, hc, hm, hf, hn, hk⟩ := h.out
  exact ⟨a, cap, S, hs, hc, hm, hf, fun i hi => by obtain ⟨b, o, ha, hx⟩ := hn i hi; exact ⟨b, o, ha, hx.below hb hx.lt⟩, fun i hi => (hk i hi).keep hb⟩
theorem liesE_nil (w : World) : LiesE w [] (.slice none 0 0) := ⟨none, 0, fun _ => .nilIface, rfl, Nat.le_refl _, by decide, (fun _ h => by cases h), (fun _ h => by cases h), (fun _ h => by cases h)⟩
def rightE : Nat → List En → Bool
  | _, [] => true
  | k, e :: r => (decide (0 ≤ e.i) && decide (e.i ≤ 1000) && e.a.markedB && decide (e.a.freeB ≤ (k : Int))) && rightE (k + 1) r
def rightC (c : List En) : Bool := rightE 0 c
def goodE (k : Nat) (e : En) : Bool := decide (0 ≤ e.i) && decide (e.i ≤ 1000) && e.a.markedB && decide (e.a.freeB ≤ (k : Int))
theorem rightE_append (k : Nat) : ∀ (a b : List En), rightE k (a ++ b) = (rightE k a && rightE (k + a.length) b)
  | [], b => by simp [rightE]
  | e :: r, b => by
    have := rightE_append (k + 1) r b
    simp only [List.cons_append, rightE, this, List.length_cons, Bool.and_assoc, show k + 1 + r.length = k + (r.length + 1) by omega]
theorem rightC_take {l : List En} {k : Nat} (h : k < l.length) : rightC (l.take (k + 1)) = (rightC (l.take k) && goodE k l[k]) := by
  have hl : (l.take k).length = k := by simp; omega
  unfold rightC
  rw [List.take_succ_eq_append_getElem h, rightE_append, hl, Nat.zero_add]
  simp only [rightE, goodE, Bool.and_true]
theorem rightC_of {l : List En} {k : Nat} (h : k < l.length) (hg : goodE k l[k] = false) : rightC l = false := by
  have h1 : rightC (l.take (k + 1) ++ l.drop (k + 1)) = rightC l := by rw [List.take_append_drop]
  have h2 : rightC (l.take (k + 1)) = false := by rw [rightC_take h, hg, Bool.and_false]
  rw [← h1]
  unfold rightC at h2 ⊢
  rw [rightE_append, h2, Bool.false_and]
end Go.Proofs.Ytokgpaajelgakaa
namespace Go.Proofs.Ytokgpaajelgakaa
open Go.RowKit
inductive LiesP (w : World) (P : Nat → Prop) : List Tm → Value → Prop
  | mk (l : List Tm) (a : Option Addr) (cap : Nat) (S : Nat → Value) (hc : l.length ≤ cap) (hm : cap ≤ maxLen) (hf : ∀ x ∈ l, x.fine)
      (hn : ∀ i (h : i < l.length), ∃ b, a = some ⟨b, 0, none⟩ ∧ P b ∧ Node w b (i * 5) l[i] (S i)) (hk : ∀ i (h : i < l.length), LiesP w P (l[i]).kids (S i)) : LiesP w P l (.slice a l.length cap)
theorem LiesP.lies {w : World} {P : Nat → Prop} {l : List Tm} {s : Value} (h : LiesP w P l s) : Lies w l s := by
  induction h with
  | mk l a cap S hc hm hf hn hk ih => exact .mk l a cap S hc hm hf (fun i hi => by obtain ⟨b, ha, _, hx⟩ := hn i hi; exact ⟨b, 0, ha, by rw [Nat.zero_add]; exact hx⟩) ih
theorem Node.same {w w' : World} {b o : Nat} {t : Tm} {s : Value} (h : Node w b o t s) (hb : w'.heap[b]? = w.heap[b]?) : Node w' b o t s :=
  ⟨(World.cell?_of_block (a := ⟨b, o, none⟩) hb).trans h.c0, (World.cell?_of_block (a := ⟨b, o + 1, none⟩) hb).trans h.c1, (World.cell?_of_block (a := ⟨b, o + 2, none⟩) hb).trans h.c2,
    (World.cell?_of_block (a := ⟨b, o + 3, none⟩) hb).trans h.c3, (World.cell?_of_block (a := ⟨b, o + 4, none⟩) hb).trans h.c4⟩
theorem LiesP.keep {w w' : World} {P Q : Nat → Prop} {l : List Tm} {s : Value} (h : LiesP w P l s) (hb : ∀ b, P b → b < w.heap.size → w'.heap[b]? = w.heap[b]?) (hq : ∀ b, P b → b < w.heap.size → Q b) : LiesP w' Q l s := by
  induction h with
  | mk l a cap S hc hm hf hn hk ih =>
    exact .mk l a cap S hc hm hf (fun i hi => by obtain ⟨b, ha, hp, hx⟩ := hn i hi; exact ⟨b, ha, hq b hp hx.lt, hx.same (hb b hp hx.lt)⟩) ih
def Own (B : Nat) (w : World) (b : Nat) : Prop := B ≤ b ∧ ∃ cs, w.heap[b]? = some (.cells cs 31 (0, 0))
theorem Own.lt {B : Nat} {w : World} {b : Nat} (h : Own B w b) : b < w.heap.size := by obtain ⟨-, cs, h⟩ := h; exact (Array.getElem?_eq_some_iff.1 h).1
theorem Own.same {B : Nat} {w w' : World} {b : Nat} (h : Own B w b) (hb : w'.heap[b]? = w.heap[b]?) : Own B w' b := ⟨h.1, by rw [hb]; exact h.2⟩
theorem Own.later {B : Nat} {w w' : World} {b : Nat} (h : Own B w b) (hb : Below w.heap.size w w') : Own B w' b := h.same (hb.block b h.lt)
theorem Own.from {B B' : Nat} {w : World} {b : Nat} (h : Own B w b) (hB : B' ≤ B) : Own B' w b := ⟨Nat.le_trans hB h.1, h.2⟩
theorem LiesP.later {w w' : World} {B : Nat} {l : List Tm} {s : Value} (h : LiesP w (Own B w) l s) (hb : Below w.heap.size w w') : LiesP w' (Own B w') l s := h.keep (fun b _ hlt => hb.block b hlt) (fun _ hp _ => hp.later hb)
theorem LiesP.from {w : World} {B B' : Nat} {l : List Tm} {s : Value} (h : LiesP w (Own B w) l s) (hB : B' ≤ B) : LiesP w (Own B' w) l s := h.keep (fun _ _ _ => rfl) (fun _ hp _ => hp.from hB)
def cells5 : List (Tm × Value) → List Value
  | [] => []
  | (t, s) :: r => .int .i64 t.k :: .int .i64 t.i :: .int .i64 t.j :: .int .i64 t.n :: s :: cells5 r
theorem cells5_length : ∀ ps : List (Tm × Value), (cells5 ps).length = ps.length * 5
  | [] => rfl
  | (t, s) :: r => by simp [cells5, cells5_length r]; omega
theorem cells5_append : ∀ ps qs : List (Tm × Value), cells5 (ps ++ qs) = cells5 ps ++ cells5 qs
  | [], qs => rfl
  | (t, s) :: r, qs => by simp [cells5, cells5_append r qs]
theorem cells5_get : ∀ (ps : List (Tm × Value)) (i : Nat) (h : i < ps.length) (q : Nat), q < 5 → (cells5 ps)[i * 5 + q]? = [Value.int .i64 (ps[i]).1.k, .int .i64 (ps[i]).1.i, .int .i64 (ps[i]).1.j, .int .i64 (ps[i]).1.n, (ps[i]).2][q]?
  | (t, s) :: r, 0, _, q, hq => by
    rw [Nat.zero_mul, Nat.zero_add]
    match q, hq with
    | 0, _ => rfl
    | 1, _ => rfl
    | 2, _ => rfl
    | 3, _ => rfl
    | 4, _ => rfl
  | (t, s) :: r, i + 1, h, q, hq => by
    have := cells5_get r i (by simpa using h) q hq
    rw [show (i + 1) * 5 + q = (i * 5 + q) + 5 by omega]
    simpa [cells5] using this
structure Made (B : Nat) (w : World) (v : Value) (ps : List (Tm × Value)) : Prop where
  own : w.ownsRow B 31 5 v ps.length (cells5 ps)
  fine : ∀ p ∈ ps, p.1.fine
  kids : ∀ p ∈ ps, LiesP w (fun b => Own B w b ∧ v.ownBlock ≠ some b) p.1.kids p.2
theorem made_nil (B : Nat) (w : World) : Made B w (.slice none 0 0) [] := ⟨⟨rfl, Or.inl ⟨rfl, rfl⟩⟩, (fun _ h => by cases h), (fun _ h => by cases h)⟩
theorem made_later {B : Nat} {w w' : World} {v : Value} {ps : List (Tm × Value)} (h : Made B w v ps) (hb : Below w.heap.size w w') : Made B w' v ps := by
  refine ⟨?_, h.fine, fun p hp => (h.kids p hp).keep (fun b _ hlt => hb.block b hlt) (fun _ hq _ => ⟨hq.1.later hb, hq.2⟩)⟩
  obtain ⟨h1, h2⟩ := h.own
  refine ⟨h1, ?_⟩
  rcases h2 with h2 | ⟨g, cap, cur, hv, hg, hh, r⟩
  · exact Or.inl h2
  · refine Or.inr ⟨g, cap, cur, hv, hg, ?_, r⟩
    rw [hb.block g ?_]; exact hh
    exact (Array.getElem?_eq_some_iff.1 hh).1
theorem made_block {B : Nat} {w : World} {v : Value} {ps : List (Tm × Value)} (h : Made B w v ps) {b : Nat} (hb : w.heap.size ≤ b) : v.ownBlock ≠ some b := by
  rcases h.own.2 with ⟨rfl, -⟩ | ⟨g, cap, cur, rfl, -, hh, -⟩
  · simp [Value.ownBlock]
  · have := (Array.getElem?_eq_some_iff.1 hh).1
    simp [Value.ownBlock]; omega
theorem made_step {B : Nat} {w w1 : World} {v : Value} {ps : List (Tm × Value)} {p : Tm × Value} {g cap : Nat} (h : Made B w v ps) (hf : p.1.fine) (hk : LiesP w (fun b => Own B w b ∧ v.ownBlock ≠ some b) p.1.kids p.2)
    (hown : w1.ownsRow B 31 5 (.slice (some ⟨g, 0, none⟩) (ps.length + 1) cap) (ps.length + 1) (cells5 ps ++ cells5 [p])) (hgrow : w.grownBy w1 v.ownBlock) (hg : v.ownBlock = some g ∨ g = w.heap.size) :
    Made B w1 (.slice (some ⟨g, 0, none⟩) (ps.length + 1) cap) (ps ++ [p]) := by
  have keep : ∀ q : Tm × Value, LiesP w (fun b => Own B w b ∧ v.ownBlock ≠ some b) q.1.kids q.2 → LiesP w1 (fun b => Own B w1 b ∧ (Value.slice (some ⟨g, 0, none⟩) (ps.length + 1) cap).ownBlock ≠ some b) q.1.kids q.2 := fun q hq =>
    hq.keep (fun b hb hlt => hgrow.block b hlt (fun e => hb.2 e.symm)) (fun b hb hlt => ⟨hb.1.same (hgrow.block b hlt (fun e => hb.2 e.symm)), by
      show some g ≠ some b
      rcases hg with e | e
      · rw [← e]; exact hb.2
      · intro e'; have := Option.some.inj e'; omega⟩)
  refine ⟨by rw [cells5_append]; simpa using hown, fun q hq => ?_, fun q hq => ?_⟩
  · rcases List.mem_append.1 hq with hq | hq
    · exact h.fine q hq
    · rw [List.mem_singleton.1 hq]; exact hf
  · rcases List.mem_append.1 hq with hq | hq
    · exact keep q (h.kids q hq)
    · rw [List.mem_singleton.1 hq]; exact keep p hk
theorem made_lies {B : Nat} {w : World} {v : Value} {ps : List (Tm × Value)} (h : Made B w v ps) : LiesP w (Own B w) (ps.map (·.1)) v := by
  have fin : ∀ x ∈ ps.map (·.1), x.fine := fun x hx => by obtain ⟨p, hp, rfl⟩ := List.mem_map.1 hx; exact h.fine p hp
  have kid : ∀ i (hi : i < ps.length), LiesP w (Own B w) (ps[i]).1.kids (ps[i]).2 := fun i hi => (h.kids _ (List.getElem_mem hi)).keep (fun _ _ _ => rfl) (fun _ hb _ => hb.1)
  obtain ⟨-, ⟨rfl, hn⟩ | ⟨g, cap, cur, rfl, hg, hh, hnc, hcm, hsz, htk⟩⟩ := h.own
  · obtain rfl : ps = [] := List.eq_nil_of_length_eq_zero hn
    exact .mk [] none 0 (fun _ => .nilIface) (Nat.le_refl _) (by decide) (fun _ h => by cases h) (fun _ h => by cases h) (fun _ h => by cases h)
  · have := LiesP.mk (w := w) (P := Own B w) (ps.map (·.1)) (some ⟨g, 0, none⟩) cap (fun i => (ps[i]?.map (·.2)).getD (.slice none 0 0)) (by simpa using hnc) hcm fin
      (fun i hi => by
        have hi' : i < ps.length := by simpa using hi
        refine ⟨g, rfl, ⟨hg, cur, hh⟩, ?_⟩
        simp only [List.getElem_map, List.getElem?_eq_getElem hi', Option.map_some, Option.getD_some]
        have cellq : ∀ q, q < 5 → w.cell? ⟨g, i * 5 + q, none⟩ = [Value.int .i64 (ps[i]).1.k, .int .i64 (ps[i]).1.i, .int .i64 (ps[i]).1.j, .int .i64 (ps[i]).1.n, (ps[i]).2][q]? := fun q hq => by
          rw [h.own.cellAt (i * 5 + q) (by omega)]; exact cells5_get ps i hi' q hq
        exact ⟨cellq 0 (by omega), cellq 1 (by omega), cellq 2 (by omega), cellq 3 (by omega), cellq 4 (by omega)⟩)
      (fun i hi => by
        have hi' : i < ps.length := by simpa using hi
        simp only [List.getElem_map, List.getElem?_eq_getElem hi', Option.map_some, Option.getD_some]
        exact kid i hi')
    simpa using this
theorem alloc_new (w : World) (o : Obj) : (w.alloc o).heap[w.heap.size]? = some o := by
  unfold World.alloc; simp
theorem news_new (w : World) (t : Tm) (s : Value) (T : TypeId) : ∀ j u, (cells5 [(t, s)])[j]? = some u → (w.alloc (.cells #[.int .i64 t.k, .int .i64 t.i, .int .i64 t.j, .int .i64 t.n, s] T)).cell? ((⟨w.heap.size, 0, none⟩ : Addr).add j) = some u :=
  World.news_of_block (alloc_new w _)
theorem five_set {w : World} {g : Nat} {T : TypeId} {z0 z1 z2 z3 z4 v0 v1 v2 v3 v4 : Value} (h : w.heap[g]? = some (.cells #[z0, z1, z2, z3, z4] T (0, 0))) :
    (((((w.setCell ⟨g, 0, none⟩ v0).setCell ⟨g, 1, none⟩ v1).setCell ⟨g, 2, none⟩ v2).setCell ⟨g, 3, none⟩ v3).setCell ⟨g, 4, none⟩ v4).heap[g]? = some (.cells #[v0, v1, v2, v3, v4] T (0, 0)) :=
  heap_setCell_same _ _ _ _ _ _ (heap_setCell_same _ _ _ _ _ _ (heap_setCell_same _ _ _ _ _ _ (heap_setCell_same _ _ _ _ _ _ (heap_setCell_same _ _ _ _ _ _ h))))
theorem made_above {B : Nat} {w : World} {v : Value} {ps : List (Tm × Value)} (h : Made B w v ps) : ∀ k, v.ownBlock = some k → B ≤ k := by
  intro k hk
  rcases h.own.2 with ⟨rfl, -⟩ | ⟨g, cap, cur, rfl, hg, -⟩
  · simp [Value.ownBlock] at hk
  · simp [Value.ownBlock] at hk; omega
theorem made_push {B : Nat} {wr w2 w3 : World} {v : Value} {ps : List (Tm × Value)} {t : Tm} {s2 : Value} {g cap : Nat} (h : Made B wr v ps) (hf : t.fine) (hB : B ≤ wr.heap.size) (hb2 : Below wr.heap.size wr w2) (hk : LiesP w2 (Own wr.heap.size w2) t.kids s2) (o : Obj)
    (hown : w3.ownsRow B 31 5 (.slice (some ⟨g, 0, none⟩) (ps.length + 1) cap) (ps.length + 1) (cells5 ps ++ cells5 [(t, s2)])) (hgrow : (w2.alloc o).grownBy w3 v.ownBlock) (hat : v.ownBlock = some g ∨ g = w2.heap.size + 1) :
    Made B w3 (.slice (some ⟨g, 0, none⟩) (ps.length + 1) cap) (ps ++ [(t, s2)]) :=
  made_step (made_later (made_later h hb2) ((Below.refl _ _).alloc (Nat.le_refl _) _)) hf
    (hk.keep (fun b _ hlt => Below.heap_alloc _ _ _ hlt) (fun b hb hlt => ⟨(hb.same (Below.heap_alloc _ _ _ hlt)).from hB, made_block h hb.1⟩)) hown hgrow (by simpa using hat)
theorem below_push {B : Nat} {w wr w2 w3 : World} {v : Value} {ps : List (Tm × Value)} (h : Made B wr v ps) (hb : Below B w wr) (hB : B ≤ wr.heap.size) (hb2 : Below wr.heap.size wr w2) (o : Obj) (hgrow : (w2.alloc o).grownBy w3 v.ownBlock) : Below B w w3 :=
  ((below_call hb hb2 hB).alloc (Nat.le_trans hB hb2.size) o).grown hgrow (by have := hb2.size; simp; omega) (made_above h)
theorem info_term : (Try.prog.info? 31).map (fun i => (i.zero, i.size, i.bytes)) = some (some (.agg #[.int .i64 0, .int .i64 0, .int .i64 0, .int .i64 0, .slice none 0 0]), 5, 56) := by kernel_rfl
end Go.Proofs.Ytokgpaajelgakaa
namespace Go.Proofs.Ytokgpaajelgakaa
open Go.RowKit
def put5 (w : World) (g o : Nat) (t : Tm) (s : Value) : World := ((((w.setCell ⟨g, o, none⟩ (.int .i64 t.k)).setCell ⟨g, o + 1, none⟩ (.int .i64 t.i)).setCell ⟨g, o + 2, none⟩ (.int .i64 t.j)).setCell ⟨g, o + 3, none⟩ (.int .i64 t.n)).setCell ⟨g, o + 4, none⟩ s
theorem put5_other (w : World) (g o : Nat) (t : Tm) (s : Value) {b : Nat} (h : b ≠ g) : (put5 w g o t s).heap[b]? = w.heap[b]? := by
  unfold put5; repeat rw [Below.heap_setCell _ _ _ _ (by exact h)]
theorem put5_rest (w : World) (g o : Nat) (t : Tm) (s : Value) : (put5 w g o t s).os = w.os ∧ (put5 w g o t s).tape = w.tape ∧ (put5 w g o t s).output = w.output := by simp [put5, World.setCell]
theorem put5_size (w : World) (g o : Nat) (t : Tm) (s : Value) : (put5 w g o t s).heap.size = w.heap.size := by simp [put5, World.setCell]
theorem put5_block {w : World} {g : Nat} {cs : Array Value} {T : TypeId} (o : Nat) (t : Tm) (s : Value) (h : w.heap[g]? = some (.cells cs T (0, 0))) :
    (put5 w g o t s).heap[g]? = some (.cells (((((cs.setIfInBounds o (.int .i64 t.k)).setIfInBounds (o + 1) (.int .i64 t.i)).setIfInBounds (o + 2) (.int .i64 t.j)).setIfInBounds (o + 3) (.int .i64 t.n)).setIfInBounds (o + 4) s) T (0, 0)) :=
  heap_setCell_same _ _ _ _ _ _ (heap_setCell_same _ _ _ _ _ _ (heap_setCell_same _ _ _ _ _ _ (heap_setCell_same _ _ _ _ _ _ (heap_setCell_same _ _ _ _ _ _ h))))
theorem put5_out (w : World) (g o : Nat) (t : Tm) (s : Value) {q : Nat} (h : q < o ∨ o + 5 ≤ q) : (put5 w g o t s).cell? ⟨g, q, none⟩ = w.cell? ⟨g, q, none⟩ := by
  unfold put5
  repeat rw [World.cell?_setCell_other _ _ _ _ (by intro e; have := congrArg Addr.off e; simp only at this; omega)]
theorem put5_node {w : World} {g o : Nat} {t0 : Tm} {s0 : Value} (t : Tm) (s : Value) (h : Node w g o t0 s0) : Node (put5 w g o t s) g o t s := by
  have ne : ∀ p q : Nat, p ≠ q → (⟨g, p, none⟩ : Addr) ≠ ⟨g, q, none⟩ := fun p q hpq e => hpq (congrArg Addr.off e)
  unfold put5
  refine ⟨?_, ?_, ?_, ?_, ?_⟩
  · rw [World.cell?_setCell_other _ _ _ _ (ne _ _ (by omega)), World.cell?_setCell_other _ _ _ _ (ne _ _ (by omega)), World.cell?_setCell_other _ _ _ _ (ne _ _ (by omega)), World.cell?_setCell_other _ _ _ _ (ne _ _ (by omega))]
    exact World.cell?_setCell_same _ _ _ h.c0
  · rw [World.cell?_setCell_other _ _ _ _ (ne _ _ (by omega)), World.cell?_setCell_other _ _ _ _ (ne _ _ (by omega)), World.cell?_setCell_other _ _ _ _ (ne _ _ (by omega))]
    refine World.cell?_setCell_same _ _ _ (u := .int .i64 t0.i) ?_
    rw [World.cell?_setCell_other _ _ _ _ (ne _ _ (by omega))]; exact h.c1
  · rw [World.cell?_setCell_other _ _ _ _ (ne _ _ (by omega)), World.cell?_setCell_other _ _ _ _ (ne _ _ (by omega))]
    refine World.cell?_setCell_same _ _ _ (u := .int .i64 t0.j) ?_
    rw [World.cell?_setCell_other _ _ _ _ (ne _ _ (by omega)), World.cell?_setCell_other _ _ _ _ (ne _ _ (by omega))]; exact h.c2
  · rw [World.cell?_setCell_other _ _ _ _ (ne _ _ (by omega))]
    refine World.cell?_setCell_same _ _ _ (u := .int .i64 t0.n) ?_
    rw [World.cell?_setCell_other _ _ _ _ (ne _ _ (by omega)), World.cell?_setCell_other _ _ _ _ (ne _ _ (by omega)), World.cell?_setCell_other _ _ _ _ (ne _ _ (by omega))]; exact h.c3
  · refine World.cell?_setCell_same _ _ _ (u := s0) ?_
    rw [World.cell?_setCell_other _ _ _ _ (ne _ _ (by omega)), World.cell?_setCell_other _ _ _ _ (ne _ _ (by omega)), World.cell?_setCell_other _ _ _ _ (ne _ _ (by omega)), World.cell?_setCell_other _ _ _ _ (ne _ _ (by omega))]; exact h.c4
theorem put5_keep {w : World} {g o o' b : Nat} {t x : Tm} {s sx : Value} (h : Node w b o' x sx) (hne : b ≠ g ∨ o' + 5 ≤ o ∨ o + 5 ≤ o') : Node (put5 w g o t s) b o' x sx := by
  by_cases hb : b = g
  · subst hb
    have hne' : o' + 5 ≤ o ∨ o + 5 ≤ o' := hne.resolve_left (fun h => h rfl)
    exact ⟨(put5_out _ _ _ _ _ (by omega)).trans h.c0, (put5_out _ _ _ _ _ (by omega)).trans h.c1, (put5_out _ _ _ _ _ (by omega)).trans h.c2, (put5_out _ _ _ _ _ (by omega)).trans h.c3, (put5_out _ _ _ _ _ (by omega)).trans h.c4⟩
  · exact h.same (put5_other _ _ _ _ _ hb)
structure Full (B : Nat) (w : World) (g : Nat) (xs : List (Tm × Value)) : Prop where
  above : B ≤ g
  open' : ∃ cs, w.heap[g]? = some (.cells cs 31 (0, 0))
  node : ∀ i (h : i < xs.length), Node w g (i * 5) (xs[i]).1 (xs[i]).2
  fine : ∀ p ∈ xs, p.1.fine
  kids : ∀ p ∈ xs, LiesP w (fun b => Own B w b ∧ b ≠ g) p.1.kids p.2
theorem Full.later {B g : Nat} {w w' : World} {xs : List (Tm × Value)} (h : Full B w g xs) (hb : Below w.heap.size w w') : Full B w' g xs := by
  have hg : g < w.heap.size := by obtain ⟨cs, h⟩ := h.open'; exact (Array.getElem?_eq_some_iff.1 h).1
  exact ⟨h.above, by rw [hb.block g hg]; exact h.open', fun i hi => (h.node i hi).below hb hg, h.fine, fun p hp => (h.kids p hp).keep (fun b _ hlt => hb.block b hlt) (fun _ hq _ => ⟨hq.1.later hb, hq.2⟩)⟩
theorem Full.fill {B g k : Nat} {w : World} {xs : List (Tm × Value)} {t : Tm} {s : Value} (h : Full B w g xs) (hk : k < xs.length) (hf : t.fine) (hl : LiesP w (fun b => Own B w b ∧ b ≠ g) t.kids s) :
    Full B (put5 w g (k * 5) t s) g (xs.set k (t, s)) := by
  have keepL : ∀ l s', LiesP w (fun b => Own B w b ∧ b ≠ g) l s' → LiesP (put5 w g (k * 5) t s) (fun b => Own B (put5 w g (k * 5) t s) b ∧ b ≠ g) l s' := fun l s' h' =>
    h'.keep (fun b hb _ => put5_other _ _ _ _ _ hb.2) (fun b hb _ => ⟨hb.1.same (put5_other _ _ _ _ _ hb.2), hb.2⟩)
  refine ⟨h.above, ?_, fun i hi => ?_, fun p hp => ?_, fun p hp => ?_⟩
  · obtain ⟨cs, hcs⟩ := h.open'; exact ⟨_, put5_block _ _ _ hcs⟩
  · have hi' : i < xs.length := by simpa using hi
    by_cases e : k = i
    · subst e
      simp only [List.getElem_set_self]
      exact put5_node t s (h.node k hk)
    · rw [List.getElem_set_ne e]
      exact put5_keep (h.node i hi') (Or.inr (by omega))
  · rcases List.mem_or_eq_of_mem_set hp with hp | rfl
    · exact h.fine p hp
    · exact hf
  · rcases List.mem_or_eq_of_mem_set hp with hp | rfl
    · exact keepL _ _ (h.kids p hp)
    · exact keepL _ _ hl
theorem Full.fresh {B g : Nat} {wr w2 : World} {xs : List (Tm × Value)} {l : List Tm} {s2 : Value} (h : Full B wr g xs) (hB : B ≤ wr.heap.size) (hk : LiesP w2 (Own wr.heap.size w2) l s2) : LiesP w2 (fun b => Own B w2 b ∧ b ≠ g) l s2 := by
  have hg : g < wr.heap.size := by obtain ⟨cs, h⟩ := h.open'; exact (Array.getElem?_eq_some_iff.1 h).1
  exact hk.keep (fun _ _ _ => rfl) (fun b hb _ => ⟨hb.from hB, by have := hb.1; omega⟩)
theorem Full.lies {B g cap : Nat} {w : World} {xs : List (Tm × Value)} (h : Full B w g xs) (hc : xs.length ≤ cap) (hm : cap ≤ maxLen) : LiesP w (Own B w) (xs.map (·.1)) (.slice (some ⟨g, 0, none⟩) xs.length cap) := by
  have := LiesP.mk (w := w) (P := Own B w) (xs.map (·.1)) (some ⟨g, 0, none⟩) cap (fun i => (xs[i]?.map (·.2)).getD (.slice none 0 0)) (by simpa using hc) hm
    (fun x hx => by obtain ⟨p, hp, rfl⟩ := List.mem_map.1 hx; exact h.fine p hp)
    (fun i hi => by
      have hi' : i < xs.length := by simpa using hi
      refine ⟨g, rfl, ⟨h.above, h.open'⟩, ?_⟩
      simp only [List.getElem_map, List.getElem?_eq_getElem hi', Option.map_some, Option.getD_some]
      exact h.node i hi')
    (fun i hi => by
      have hi' : i < xs.length := by simpa using hi
      simp only [List.getElem_map, List.getElem?_eq_getElem hi', Option.map_some, Option.getD_some]
      exact (h.kids _ (List.getElem_mem hi')).keep (fun _ _ _ => rfl) (fun _ hb _ => hb.1))
  simpa using this
theorem liesP_nil (w : World) (P : Nat → Prop) : LiesP w P [] (.slice none 0 0) := .mk [] none 0 (fun _ => .nilIface) (Nat.le_refl _) (by decide) (fun _ h => by cases h) (fun _ h => by cases h) (fun _ h => by cases h)
theorem sizes_map_le {n : Nat} (f : Nat → Tm) : ∀ (l : List Tm), l.length = n → (∀ i (h : i < l.length), (f i).size ≤ (l[i]).size) → sizes ((List.range n).map f) ≤ sizes l := by
  intro l hl h
  subst hl
  induction l generalizing f with
  | nil => simp [sizes]
  | cons a r ih =>
    have h0 := h 0 (by simp)
    simp only [List.getElem_cons_zero] at h0
    have := ih (fun i => f (i + 1)) (fun i hi => by have := h (i + 1) (by simpa using hi); simpa using this)
    rw [List.length_cons, List.range_succ_eq_map, List.map_cons, List.map_map]
    simp only [sizes]
    have e : ((fun i => f (i + 1))) = f ∘ Nat.succ := rfl
    rw [e] at this
    omega
instance : Inhabited (Tm × Value) := ⟨(.mk 0 0 0 0 [], .nilIface)⟩
end Go.Proofs.Ytokgpaajelgakaa
namespace Go.Proofs.Ytokgpaajelgakaa
open Go.RowKit
def OwnE (B : Nat) (w : World) (b : Nat) : Prop := B ≤ b ∧ ∃ cs, w.heap[b]? = some (.cells cs 74 (0, 0))
structure LiesEP (w : World) (B : Nat) (l : List En) (s : Value) : Prop where
  out : ∃ (a : Option Addr) (cap : Nat) (S : Nat → Value), s = .slice a l.length cap ∧ l.length ≤ cap ∧ cap ≤ maxLen ∧ (∀ x ∈ l, x.fine) ∧
    (∀ i (h : i < l.length), ∃ b, a = some ⟨b, 0, none⟩ ∧ OwnE B w b ∧ ENode w b (i * 6) l[i] (S i)) ∧ (∀ i (h : i < l.length), LiesP w (Own B w) (l[i]).a.kids (S i))
theorem LiesEP.from {w : World} {B B' : Nat} {l : List En} {s : Value} (h : LiesEP w B l s) (hB : B' ≤ B) : LiesEP w B' l s := by
  obtain ⟨a, cap, S, hs, hc, hm, hf, hn, hk⟩ := h.out
  exact ⟨a, cap, S, hs, hc, hm, hf, fun i hi => by obtain ⟨b, ha, hp, hx⟩ := hn i hi; exact ⟨b, ha, ⟨Nat.le_trans hB hp.1, hp.2⟩, hx⟩, fun i hi => (hk i hi).from hB⟩
theorem liesEP_nil (w : World) (B : Nat) : LiesEP w B [] (.slice none 0 0) := ⟨none, 0, fun _ => .nilIface, rfl, Nat.le_refl _, by decide, (fun _ h => by cases h), (fun _ h => by cases h), (fun _ h => by cases h)⟩
def MakesE (l : List En) (w : World) (e : Ending) (w' : World) : Prop := ∃ s' : Value, e = .returned s' ∧ LiesEP w' w.heap.size l s' ∧ Below w.heap.size w w'
def cells6 : List (En × Value) → List Value
  | [] => []
  | (t, s) :: r => .int .i64 t.a.k :: .int .i64 t.a.i :: .int .i64 t.a.j :: .int .i64 t.a.n :: s :: .int .i64 t.i :: cells6 r
theorem cells6_length : ∀ ps : List (En × Value), (cells6 ps).length = ps.length * 6
  | [] => rfl
  | (t, s) :: r => by simp [cells6, cells6_length r]; omega
theorem cells6_append : ∀ ps qs : List (En × Value), cells6 (ps ++ qs) = cells6 ps ++ cells6 qs
  | [], qs => rfl
  | (t, s) :: r, qs => by simp [cells6, cells6_append r qs]
theorem cells6_get : ∀ (ps : List (En × Value)) (i : Nat) (h : i < ps.length) (q : Nat), q < 6 → (cells6 ps)[i * 6 + q]? = [Value.int .i64 (ps[i]).1.a.k, .int .i64 (ps[i]).1.a.i, .int .i64 (ps[i]).1.a.j, .int .i64 (ps[i]).1.a.n, (ps[i]).2, .int .i64 (ps[i]).1.i][q]?
  | (t, s) :: r, 0, _, q, hq => by
    rw [Nat.zero_mul, Nat.zero_add]
    match q, hq with
    | 0, _ => rfl
    | 1, _ => rfl
    | 2, _ => rfl
    | 3, _ => rfl
    | 4, _ => rfl
    | 5, _ => rfl
  | (t, s) :: r, i + 1, h, q, hq => by
    have := cells6_get r i (by simpa using h) q hq
    rw [show (i + 1) * 6 + q = (i * 6 + q) + 6 by omega]
    simpa [cells6] using this
structure MadeE (B : Nat) (w : World) (v : Value) (ps : List (En × Value)) : Prop where
  own : w.ownsRow B 74 6 v ps.length (cells6 ps)
  fine : ∀ p ∈ ps, p.1.fine
  kids : ∀ p ∈ ps, LiesP w (fun b => Own B w b ∧ v.ownBlock ≠ some b) p.1.a.kids p.2
theorem madeE_later {B : Nat} {w w' : World} {v : Value} {ps : List (En × Value)} (h : MadeE B w v ps) (hb : Below w.heap.size w w') : MadeE B w' v ps := by
  refine ⟨?_, h.fine, fun p hp => (h.kids p hp).keep (fun b _ hlt => hb.block b hlt) (fun _ hq _ => ⟨hq.1.later hb, hq.2⟩)⟩
  obtain ⟨h1, h2⟩ := h.own
  refine ⟨h1, ?_⟩
  rcases h2 with h2 | ⟨g, cap, cur, hv, hg, hh, r⟩
  · exact Or.inl h2
  · refine Or.inr ⟨g, cap, cur, hv, hg, ?_, r⟩
    rw [hb.block g ?_]; exact hh
    exact (Array.getElem?_eq_some_iff.1 hh).1
theorem madeE_block {B : Nat} {w : World} {v : Value} {ps : List (En × Value)} (h : MadeE B w v ps) {b : Nat} (hb : w.heap.size ≤ b) : v.ownBlock ≠ some b := by
  rcases h.own.2 with ⟨rfl, -⟩ | ⟨g, cap, cur, rfl, -, hh, -⟩
  · simp [Value.ownBlock]
  · have := (Array.getElem?_eq_some_iff.1 hh).1
    simp [Value.ownBlock]; omega
theorem madeE_step {B : Nat} {w w1 : World} {v : Value} {ps : List (En × Value)} {p : En × Value} {g cap : Nat} (h : MadeE B w v ps) (hf : p.1.fine) (hk : LiesP w (fun b => Own B w b ∧ v.ownBlock ≠ some b) p.1.a.kids p.2)
    (hown : w1.ownsRow B 74 6 (.slice (some ⟨g, 0, none⟩) (ps.length + 1) cap) (ps.length + 1) (cells6 ps ++ cells6 [p])) (hgrow : w.grownBy w1 v.ownBlock) (hg : v.ownBlock = some g ∨ g = w.heap.size) :
    MadeE B w1 (.slice (some ⟨g, 0, none⟩) (ps.length + 1) cap) (ps ++ [p]) := by
  have keep : ∀ q : En × Value, LiesP w (fun b => Own B w b ∧ v.ownBlock ≠ some b) q.1.a.kids q.2 → LiesP w1 (fun b => Own B w1 b ∧ (Value.slice (some ⟨g, 0, none⟩) (ps.length + 1) cap).ownBlock ≠ some b) q.1.a.kids q.2 := fun q hq =>
    hq.keep (fun b hb hlt => hgrow.block b hlt (fun e => hb.2 e.symm)) (fun b hb hlt => ⟨hb.1.same (hgrow.block b hlt (fun e => hb.2 e.symm)), by
      show some g ≠ some b
      rcases hg with e | e
      · rw [← e]; exact hb.2
      · intro e'; have := Option.some.inj e'; omega⟩)
  refine ⟨by rw [cells6_append]; simpa using hown, fun q hq => ?_, fun q hq => ?_⟩
  · rcases List.mem_append.1 hq with hq | hq
    · exact h.fine q hq
    · rw [List.mem_singleton.1 hq]; exact hf
  · rcases List.mem_append.1 hq with hq | hq
    · exact keep q (h.kids q hq)
    · rw [List.mem_singleton.1 hq]; exact keep p hk
theorem madeE_lies {B : Nat} {w : World} {v : Value} {ps : List (En × Value)} (h : MadeE B w v ps) : LiesEP w B (ps.map (·.1)) v := by
  have fin : ∀ x ∈ ps.map (·.1), x.fine := fun x hx => by obtain ⟨p, hp, rfl⟩ := List.mem_map.1 hx; exact h.fine p hp
  have kid : ∀ i (hi : i < ps.length), LiesP w (Own B w) (ps[i]).1.a.kids (ps[i]).2 := fun i hi => (h.kids _ (List.getElem_mem hi)).keep (fun _ _ _ => rfl) (fun _ hb _ => hb.1)
  obtain ⟨-, ⟨rfl, hn⟩ | ⟨g, cap, cur, rfl, hg, hh, hnc, hcm, hsz, htk⟩⟩ := h.own
  · obtain rfl : ps = [] := List.eq_nil_of_length_eq_zero hn
    exact ⟨none, 0, fun _ => .nilIface, rfl, Nat.le_refl _, by decide, (fun _ h => by cases h), (fun _ h => by cases h), (fun _ h => by cases h)⟩
  · refine ⟨some ⟨g, 0, none⟩, cap, fun i => (ps[i]?.map (·.2)).getD (.slice none 0 0), by simp, by simpa using hnc, hcm, fin, fun i hi => ?_, fun i hi => ?_⟩
    · have hi' : i < ps.length := by simpa using hi
      refine ⟨g, rfl, ⟨hg, cur, hh⟩, ?_⟩
      · simp only [List.getElem_map, List.getElem?_eq_getElem hi', Option.map_some, Option.getD_some]
        have cellq : ∀ q, q < 6 → w.cell? ⟨g, i * 6 + q, none⟩ = [Value.int .i64 (ps[i]).1.a.k, .int .i64 (ps[i]).1.a.i, .int .i64 (ps[i]).1.a.j, .int .i64 (ps[i]).1.a.n, (ps[i]).2, .int .i64 (ps[i]).1.i][q]? := fun q hq => by
          rw [h.own.cellAt (i * 6 + q) (by omega)]; exact cells6_get ps i hi' q hq
        exact ⟨cellq 0 (by omega), cellq 1 (by omega), cellq 2 (by omega), cellq 3 (by omega), cellq 4 (by omega), cellq 5 (by omega)⟩
    · have hi' : i < ps.length := by simpa using hi
      simp only [List.getElem_map, List.getElem?_eq_getElem hi', Option.map_some, Option.getD_some]
      exact kid i hi'
def put6 (w : World) (g o : Nat) (t : En) (s : Value) : World := (put5 w g o t.a s).setCell ⟨g, o + 5, none⟩ (.int .i64 t.i)
theorem put6_other (w : World) (g o : Nat) (t : En) (s : Value) {b : Nat} (h : b ≠ g) : (put6 w g o t s).heap[b]? = w.heap[b]? := by
  unfold put6; rw [Below.heap_setCell _ _ _ _ (by exact h), put5_other _ _ _ _ _ h]
theorem put6_below {B : Nat} {w w1 : World} (h : Below B w w1) {g : Nat} (hg : B ≤ g) (o : Nat) (t : En) (s : Value) : Below B w (put6 w1 g o t s) := by
  unfold put6 put5
  exact (((((h.setCell hg _).setCell hg _).setCell hg _).setCell hg _).setCell hg _).setCell hg _
theorem ENode.node {w : World} {b o : Nat} {e : En} {s : Value} (h : ENode w b o e s) : Node w b o e.a s := ⟨h.c0, h.c1, h.c2, h.c3, h.c4⟩
theorem put6_node {w : World} {g o : Nat} {t0 : En} {s0 : Value} (t : En) (s : Value) (h : ENode w g o t0 s0) : ENode (put6 w g o t s) g o t s := by
  have ne : ∀ p q : Nat, p ≠ q → (⟨g, p, none⟩ : Addr) ≠ ⟨g, q, none⟩ := fun p q hpq e => hpq (congrArg Addr.off e)
  have hn := put5_node t.a s h.node
  unfold put6
  refine ⟨?_, ?_, ?_, ?_, ?_, ?_⟩
  · rw [World.cell?_setCell_other _ _ _ _ (ne _ _ (by omega))]; exact hn.c0
  · rw [World.cell?_setCell_other _ _ _ _ (ne _ _ (by omega))]; exact hn.c1
  · rw [World.cell?_setCell_other _ _ _ _ (ne _ _ (by omega))]; exact hn.c2
  · rw [World.cell?_setCell_other _ _ _ _ (ne _ _ (by omega))]; exact hn.c3
  · rw [World.cell?_setCell_other _ _ _ _ (ne _ _ (by omega))]; exact hn.c4
  · refine World.cell?_setCell_same _ _ _ (u := .int .i64 t0.i) ?_
    rw [put5_out _ _ _ _ _ (by omega)]; exact h.c5
theorem put6_keep {w : World} {g o o' b : Nat} {t x : En} {s sx : Value} (h : ENode w b o' x sx) (hne : b ≠ g ∨ o' + 6 ≤ o ∨ o + 6 ≤ o') : ENode (put6 w g o t s) b o' x sx := by
  by_cases hb : b = g
  · subst hb
    have hne' : o' + 6 ≤ o ∨ o + 6 ≤ o' := hne.resolve_left (fun h => h rfl)
    have ne : ∀ p q : Nat, p ≠ q → (⟨b, p, none⟩ : Addr) ≠ ⟨b, q, none⟩ := fun p q hpq e => hpq (congrArg Addr.off e)
    have hn := put5_keep (g := b) (o := o) (t := t.a) (s := s) h.node (Or.inr (by omega))
    unfold put6
    refine ⟨?_, ?_, ?_, ?_, ?_, ?_⟩
    · rw [World.cell?_setCell_other _ _ _ _ (ne _ _ (by omega))]; exact hn.c0
    · rw [World.cell?_setCell_other _ _ _ _ (ne _ _ (by omega))]; exact hn.c1
    · rw [World.cell?_setCell_other _ _ _ _ (ne _ _ (by omega))]; exact hn.c2
    · rw [World.cell?_setCell_other _ _ _ _ (ne _ _ (by omega))]; exact hn.c3
    · rw [World.cell?_setCell_other _ _ _ _ (ne _ _ (by omega))]; exact hn.c4
    · rw [World.cell?_setCell_other _ _ _ _ (ne _ _ (by omega)), put5_out _ _ _ _ _ (by omega)]; exact h.c5
  · exact h.same (put6_other _ _ _ _ _ hb)
structure FullE (B : Nat) (w : World) (g : Nat) (xs : List (En × Value)) : Prop where
  above : B ≤ g
  open' : ∃ cs, w.heap[g]? = some (.cells cs 74 (0, 0))
  node : ∀ i (h : i < xs.length), ENode w g (i * 6) (xs[i]).1 (xs[i]).2
  fine : ∀ p ∈ xs, p.1.fine
  kids : ∀ p ∈ xs, LiesP w (fun b => Own B w b ∧ b ≠ g) p.1.a.kids p.2
theorem FullE.lt {B g : Nat} {w : World} {xs : List (En × Value)} (h : FullE B w g xs) : g < w.heap.size := by obtain ⟨cs, h⟩ := h.open'; exact (Array.getElem?_eq_some_iff.1 h).1
theorem FullE.later {B g : Nat} {w w' : World} {xs : List (En × Value)} (h : FullE B w g xs) (hb : Below w.heap.size w w') : FullE B w' g xs :=
  ⟨h.above, by rw [hb.block g h.lt]; exact h.open', fun i hi => (h.node i hi).below hb h.lt, h.fine, fun p hp => (h.kids p hp).keep (fun b _ hlt => hb.block b hlt) (fun _ hq _ => ⟨hq.1.later hb, hq.2⟩)⟩
theorem FullE.fill {B g k : Nat} {w : World} {xs : List (En × Value)} {t : En} {s : Value} (h : FullE B w g xs) (hk : k < xs.length) (hf : t.fine) (hl : LiesP w (fun b => Own B w b ∧ b ≠ g) t.a.kids s) :
    FullE B (put6 w g (k * 6) t s) g (xs.set k (t, s)) := by
  have keepL : ∀ l s', LiesP w (fun b => Own B w b ∧ b ≠ g) l s' → LiesP (put6 w g (k * 6) t s) (fun b => Own B (put6 w g (k * 6) t s) b ∧ b ≠ g) l s' := fun l s' h' =>
    h'.keep (fun b hb _ => put6_other _ _ _ _ _ hb.2) (fun b hb _ => ⟨hb.1.same (put6_other _ _ _ _ _ hb.2), hb.2⟩)
  refine ⟨h.above, ?_, fun i hi => ?_, fun p hp => ?_, fun p hp => ?_⟩
  · obtain ⟨cs, hcs⟩ := h.open'
    exact ⟨_, heap_setCell_same _ _ _ _ _ _ (put5_block _ _ _ hcs)⟩
  · have hi' : i < xs.length := by simpa using hi
    by_cases e : k = i
    · subst e
      simp only [List.getElem_set_self]
      exact put6_node t s (h.node k hk)
    · rw [List.getElem_set_ne e]
      exact put6_keep (h.node i hi') (Or.inr (by omega))
  · rcases List.mem_or_eq_of_mem_set hp with hp | rfl
    · exact h.fine p hp
    · exact hf
  · rcases List.mem_or_eq_of_mem_set hp with hp | rfl
    · exact keepL _ _ (h.kids p hp)
    · exact keepL _ _ hl
theorem FullE.fresh {B g : Nat} {wr w2 : World} {xs : List (En × Value)} {l : List Tm} {s2 : Value} (h : FullE B wr g xs) (hB : B ≤ wr.heap.size) (hk : LiesP w2 (Own wr.heap.size w2) l s2) : LiesP w2 (fun b => Own B w2 b ∧ b ≠ g) l s2 := by
  have hg := h.lt
  exact hk.keep (fun _ _ _ => rfl) (fun b hb _ => ⟨hb.from hB, by have := hb.1; omega⟩)
theorem newsE (w : World) (t : En) (s : Value) (T : TypeId) : ∀ j u, (cells6 [(t, s)])[j]? = some u → (w.alloc (.cells #[.int .i64 t.a.k, .int .i64 t.a.i, .int .i64 t.a.j, .int .i64 t.a.n, s, .int .i64 t.i] T)).cell? ((⟨w.heap.size, 0, none⟩ : Addr).add j) = some u :=
  World.news_of_block (alloc_new w _)
theorem madeE_above {B : Nat} {w : World} {v : Value} {ps : List (En × Value)} (h : MadeE B w v ps) : ∀ k, v.ownBlock = some k → B ≤ k := fun k hk => (h.own.lt k hk).1
theorem madeE_push {B : Nat} {wr w2 w3 : World} {v : Value} {ps : List (En × Value)} {t : En} {s2 : Value} {g cap : Nat} (h : MadeE B wr v ps) (hf : t.fine) (hB : B ≤ wr.heap.size) (hb2 : Below wr.heap.size wr w2) (hk : LiesP w2 (Own wr.heap.size w2) t.a.kids s2) (o : Obj)
    (hown : w3.ownsRow B 74 6 (.slice (some ⟨g, 0, none⟩) (ps.length + 1) cap) (ps.length + 1) (cells6 ps ++ cells6 [(t, s2)])) (hgrow : (w2.alloc o).grownBy w3 v.ownBlock) (hat : v.ownBlock = some g ∨ g = w2.heap.size + 1) :
    MadeE B w3 (.slice (some ⟨g, 0, none⟩) (ps.length + 1) cap) (ps ++ [(t, s2)]) :=
  madeE_step (madeE_later (madeE_later h hb2) ((Below.refl _ _).alloc (Nat.le_refl _) _)) hf
    (hk.keep (fun b _ hlt => Below.heap_alloc _ _ _ hlt) (fun b hb hlt => ⟨(hb.same (Below.heap_alloc _ _ _ hlt)).from hB, madeE_block h hb.1⟩)) hown hgrow (by simpa using hat)
theorem info_entry : (Try.prog.info? 74).map (fun i => (i.zero, i.size, i.bytes)) = some (some (.agg #[.int .i64 0, .int .i64 0, .int .i64 0, .int .i64 0, .slice none 0 0, .int .i64 0]), 6, 64) := by kernel_rfl
end Go.Proofs.Ytokgpaajelgakaa
namespace Go.Proofs.Ytokgpaajelgakaa
open Go.RowKit
mutual
def sameB : Tm → Tm → Bool
  | .mk k i j n l, .mk k' i' j' n' l' => (k == k') && ((i == i') && ((j == j') && ((n == n') && samesB l l')))
def samesB : List Tm → List Tm → Bool
  | [], [] => true
  | x :: r, y :: s => sameB x y && samesB r s
  | [], _ :: _ => false
  | _ :: _, [] => false
end
theorem sameB_eq (a b : Tm) : sameB a b = ((a.k == b.k) && ((a.i == b.i) && ((a.j == b.j) && ((a.n == b.n) && samesB a.kids b.kids)))) := by
  cases a; cases b; simp only [sameB]; rfl
theorem samesB_length : ∀ {l m : List Tm}, samesB l m = true → l.length = m.length
  | [], [], _ => rfl
  | x :: r, y :: s, h => by simp only [samesB, Bool.and_eq_true] at h; simp [samesB_length h.2]
  | [], _ :: _, h => by simp [samesB] at h
  | _ :: _, [], h => by simp [samesB] at h
theorem sameB_self (a : Tm) : sameB a a = true := by
  induction a using Tm.ind with
  | h a ih =>
    rw [sameB_eq]
    have key : ∀ (l : List Tm), (∀ x ∈ l, sameB x x = true) → samesB l l = true := by
      intro l
      induction l with
      | nil => intro _; simp [samesB]
      | cons x r ihl => intro hx; simp only [samesB, hx x List.mem_cons_self, Bool.true_and]; exact ihl (fun z hz => hx z (List.mem_cons_of_mem _ hz))
    simp [key a.kids ih]
theorem sames_take : ∀ (l m : List Tm) (k : Nat) (h : k < l.length) (h' : k < m.length), samesB (l.take (k + 1)) (m.take (k + 1)) = (samesB (l.take k) (m.take k) && sameB l[k] m[k])
  | x :: r, y :: s, 0, _, _ => by simp [samesB]
  | x :: r, y :: s, k + 1, h, h' => by
    simp only [List.take_succ_cons, samesB, List.getElem_cons_succ]
    rw [sames_take r s k (by simpa using h) (by simpa using h'), Bool.and_assoc]
theorem sames_of : ∀ (l m : List Tm) (k : Nat) (h : k < l.length) (h' : k < m.length), sameB l[k] m[k] = false → samesB l m = false
  | x :: r, y :: s, 0, _, _, hs => by simp only [List.getElem_cons_zero] at hs; simp [samesB, hs]
  | x :: r, y :: s, k + 1, h, h', hs => by
    simp only [List.getElem_cons_succ] at hs
    simp [samesB, sames_of r s k (by simpa using h) (by simpa using h') hs]
theorem sames_ne {l m : List Tm} (h : l.length ≠ m.length) : samesB l m = false := by
  cases hs : samesB l m with
  | false => rfl
  | true => exact absurd (samesB_length hs) h
def Held2 (w : World) (a : Tm) (s : Value) (b : Tm) (r : Value) (w' : World) : Prop := Below (w.heap.size + 2) ((w.alloc (boxOf a s)).alloc (boxOf b r)) w'
theorem held2_start (w : World) (a : Tm) (s : Value) (b : Tm) (r : Value) : Held2 w a s b r ((w.alloc (.cells #[.int .i64 a.k, .int .i64 a.i, .int .i64 a.j, .int .i64 a.n, s] 31)).alloc (.cells #[.int .i64 b.k, .int .i64 b.i, .int .i64 b.j, .int .i64 b.n, r] 31)) := Below.refl _ _
theorem held2_second {w w' : World} {a b : Tm} {s r : Value} (h : Held2 w a s b r w') : Held (w.alloc (boxOf a s)) b r w' := by
  unfold Held2 at h; unfold Held
  rw [show (w.alloc (boxOf a s)).heap.size + 1 = w.heap.size + 2 by simp]; exact h
theorem held2_first {w w' : World} {a b : Tm} {s r : Value} (h : Held2 w a s b r w') : Held w a s w' := by
  unfold Held2 at h; unfold Held
  exact ((Below.refl _ _).alloc (by simp) _).trans (h.mono (by omega))
theorem held2_cells {w w' : World} {a b : Tm} {s r : Value} (h : Held2 w a s b r w') : w'.cell? ⟨w.heap.size, 0, none⟩ = some (.int .i64 a.k) ∧ w'.cell? ⟨w.heap.size, 1, none⟩ = some (.int .i64 a.i) ∧ w'.cell? ⟨w.heap.size, 2, none⟩ = some (.int .i64 a.j) ∧
    w'.cell? ⟨w.heap.size, 3, none⟩ = some (.int .i64 a.n) ∧ w'.cell? ⟨w.heap.size, 4, none⟩ = some s ∧ w'.cell? ⟨w.heap.size + 1, 0, none⟩ = some (.int .i64 b.k) ∧ w'.cell? ⟨w.heap.size + 1, 1, none⟩ = some (.int .i64 b.i) ∧
    w'.cell? ⟨w.heap.size + 1, 2, none⟩ = some (.int .i64 b.j) ∧ w'.cell? ⟨w.heap.size + 1, 3, none⟩ = some (.int .i64 b.n) ∧ w'.cell? ⟨w.heap.size + 1, 4, none⟩ = some r := by
  obtain ⟨h0, h1, h2, h3, h4⟩ := held_cells (held2_first h)
  have h' := held_cells (held2_second h)
  rw [show (w.alloc (boxOf a s)).heap.size = w.heap.size + 1 by simp] at h'
  exact ⟨h0, h1, h2, h3, h4, h'⟩
theorem held2_call {w w1 w2 : World} {a b : Tm} {s r : Value} (h : Held2 w a s b r w1) (hb : Below w1.heap.size w1 w2) : Held2 w a s b r w2 :=
  below_call h hb (by have := h.size; simpa using this)
theorem held2_drew {w w1 : World} {a b : Tm} {s r : Value} (h : Held2 w a s b r w1) : Held2 w a s b r w1.drew := Below.drew h
theorem held2_alloc {w w1 : World} {a b : Tm} {s r : Value} (h : Held2 w a s b r w1) (o : Obj) : Held2 w a s b r (w1.alloc o) := Below.alloc h (by have := h.size; simpa using this) o
theorem held2_below {w w1 : World} {a b : Tm} {s r : Value} (h : Held2 w a s b r w1) : Below w.heap.size w w1 := held_below (held2_first h)
theorem held2_lies {w w1 : World} {a b : Tm} {s r s' : Value} {l : List Tm} (h : Held2 w a s b r w1) (hl : Lies w l s') : Lies w1 l s' := hl.keep (held2_below h)
end Go.Proofs.Ytokgpaajelgakaa
namespace Go.Proofs.Ytokgpaajelgakaa
open Go.RowKit
set_option maxHeartbeats 2000000 in
theorem same_any (t : Tm) : ∀ (u : Tm) (w : World) (s r : Value), Lies w t.kids s → Lies w u.kids r → Calls Try.prog 50 #[tv t s, tv u r] w fun e w' => e = .returned (.bool (sameB t u)) ∧ Below w.heap.size w w' := by
  induction t using Tm.ind with
  | h t ih =>
    intro u w s r hl hm
    obtain ⟨a, cap, S, rfl, hc, hmx, -, hn, hk⟩ := hl.out
    obtain ⟨a2, cap2, S2, rfl, hc2, hmx2, -, hn2, hk2⟩ := hm.out
    unfold maxLen at hmx hmx2
    have IH := Lib.hid ih
    have HN := Lib.hid hn
    have HK := Lib.hid hk
    have HN2 := Lib.hid hn2
    have HK2 := Lib.hid hk2
    have HE := Lib.hid (sameB_eq t u)
    have H0 := held2_start w t (.slice a t.kids.length cap) u (.slice a2 u.kids.length cap2)
    clear hl hm ih hn hk hn2 hk2
    unfold tv
    cases ek : (t.k == u.k)
    · have nek : (t.k != u.k) = true := by simp only [bne, ek, Bool.not_false]
      go_enter Try.func50, Try.ntmps50
      go_wp2
      go_ret
      exact ⟨ret_bool (by rw [HE.out]; simp only [ek, Bool.false_and]), held2_below H0⟩
    have nek : (t.k != u.k) = false := by simp only [bne, ek, Bool.not_true]
    cases ei : (t.i == u.i)
    · have nei : (t.i != u.i) = true := by simp only [bne, ei, Bool.not_false]
      go_enter Try.func50, Try.ntmps50
      go_wp2
      go_ret
      exact ⟨ret_bool (by rw [HE.out]; simp only [ek, ei, Bool.false_and, Bool.true_and]), held2_below H0⟩
    have nei : (t.i != u.i) = false := by simp only [bne, ei, Bool.not_true]
    cases ej : (t.j == u.j)
    · have nej : (t.j != u.j) = true := by simp only [bne, ej, Bool.not_false]
      go_enter Try.func50, Try.ntmps50
      go_wp2
      go_ret
      exact ⟨ret_bool (by rw [HE.out]; simp only [ek, ei, ej, Bool.false_and, Bool.true_and]), held2_below H0⟩
    have nej : (t.j != u.j) = false := by simp only [bne, ej, Bool.not_true]
    cases en : (t.n == u.n)
    · have nen : (t.n != u.n) = true := by simp only [bne, en, Bool.not_false]
      go_enter Try.func50, Try.ntmps50
      go_wp2
      go_ret
      exact ⟨ret_bool (by rw [HE.out]; simp only [ek, ei, ej, en, Bool.false_and, Bool.true_and]), held2_below H0⟩
    have nen : (t.n != u.n) = false := by simp only [bne, en, Bool.not_true]
    have HE2 : Hid (sameB t u = samesB t.kids u.kids) := by show _ = _; rw [HE.out]; simp only [ek, ei, ej, en, Bool.true_and]
    by_cases hlen : t.kids.length = u.kids.length
    rotate_left
    · have h1 : ((t.kids.length : Int) == (u.kids.length : Int)) = false := by simp; omega
      have h2 : ((t.kids.length : Int) != (u.kids.length : Int)) = true := by simp; omega
      have HS := Lib.hid (sames_ne hlen)
      clear hlen
      go_enter Try.func50, Try.ntmps50
      go_wp2
      go_ret
      exact ⟨ret_bool (by rw [HE2.out]; exact HS.out.symm), held2_below H0⟩
    have h1 : ((t.kids.length : Int) == (u.kids.length : Int)) = true := by simp; omega
    have h2 : ((t.kids.length : Int) != (u.kids.length : Int)) = false := by simp; omega
    have HL := Lib.hid hlen
    clear hlen
    go_enter Try.func50, Try.ntmps50
    go_wp2
    go_loopw [45] (fun iv wr => ∃ k : Nat, k ≤ t.kids.length ∧ iv = .int .i64 k ∧ Hid (samesB (t.kids.take k) (u.kids.take k) = true) ∧ Held2 w t (.slice a t.kids.length cap) u (.slice a2 u.kids.length cap2) wr) (fun iv _ => t.kids.length - (intOf iv).toNat)
    case atStart => exact ⟨0, Nat.zero_le _, rfl, by simp [Hid, samesB], H0⟩
    case round =>
      obtain ⟨k, hk, rfl, hgood, hh⟩ := hrel
      obtain ⟨p0, p1, p2, p3, p4, q0, q1, q2, q3, q4⟩ := held2_cells hh
      have hb := held2_below hh
      by_cases hlt : k < t.kids.length
      · have hlt2 : k < u.kids.length := by have := HL.out; omega
        obtain ⟨b, o, rfl, hx⟩ := HN.out k hlt
        obtain ⟨b2, o2, rfl, hx2⟩ := HN2.out k hlt2
        obtain ⟨c0, c1, c2, c3, c4⟩ := hx.below hb hx.lt
        have hyy := hx2.below hb hx2.lt
        have hq := (HK.out k hlt).keep hb
        have hq2 := (HK2.out k hlt2).keep hb
        obtain ⟨a', cap', S', hS, -⟩ := hq.out
        obtain ⟨a2', cap2', S2', hS2, -⟩ := hq2.out
        rw [hS] at c4 hq
        rw [hS2] at hyy hq2
        have HQ := Lib.hid hq
        have HQ2 := Lib.hid hq2
        have HM := Lib.hid (List.getElem_mem hlt)
        have HT := Lib.hid (sames_take t.kids u.kids k hlt hlt2)
        have HO := Lib.hid (sames_of t.kids u.kids k hlt hlt2)
        clear hS hS2 hq hq2
        have hh2 := held2_alloc hh (.cells #[.int .i64 t.kids[k].k, .int .i64 t.kids[k].i, .int .i64 t.kids[k].j, .int .i64 t.kids[k].n, .slice a' t.kids[k].kids.length cap'] 31)
        obtain ⟨f0, f1, f2, f3, f4, g0, g1, g2, g3, g4⟩ := held2_cells hh2
        obtain ⟨e0, e1, e2, e3, e4⟩ := hyy.below ((Below.refl wr.heap.size wr).alloc (Nat.le_refl _) (.cells #[.int .i64 t.kids[k].k, .int .i64 t.kids[k].i, .int .i64 t.kids[k].j, .int .i64 t.kids[k].n, .slice a' t.kids[k].kids.length cap'] 31)) hyy.lt
        have HNEW := Lib.hid ((Below.refl wr.heap.size wr).alloc (Nat.le_refl _) (.cells #[.int .i64 t.kids[k].k, .int .i64 t.kids[k].i, .int .i64 t.kids[k].j, .int .i64 t.kids[k].n, .slice a' t.kids[k].kids.length cap'] 31))
        go_wp2
        go_region_with (go_at_call 50; refine (IH.out _ HM.out _ _ _ _ (HQ.out.keep HNEW.out.drew) (HQ2.out.keep HNEW.out.drew)).mono ?_; rintro e wn ⟨rfl, hb'⟩; have HB3 := held2_call (held2_drew hh2) hb'; clear hb'; obtain ⟨x0, x1, x2, x3, x4, z0, z1, z2, z3, z4⟩ := held2_cells HB3)
        all_goals
          clear hh hh2 HNEW e0 e1 e2 e3 e4 f0 f1 f2 f3 f4 g0 g1 g2 g3 g4 c0 c1 c2 c3 c4 p0 p1 p2 p3 p4 q0 q1 q2 q3 q4 hb
          cases hs : sameB t.kids[k] u.kids[k]
          · go_wp2
            go_ret
            exact ⟨ret_bool (by rw [HE2.out]; exact (HO.out hs).symm), held2_below HB3⟩
          · go_wp2
            go_roundw
            case rel => exact ⟨k + 1, by omega, by go_num, by show _ = true; rw [HT.out, hgood.out, hs]; rfl, HB3⟩
            case measure => simp [intOf]; omega
      · have : k = t.kids.length := by omega
        subst this
        go_wp2
        go_ret
        exact ⟨ret_bool (by have hg := hgood.out; rw [List.take_length, HL.out, List.take_length] at hg; rw [HE2.out]; exact hg.symm), hb⟩
end Go.Proofs.Ytokgpaajelgakaa
namespace Go.Proofs.Ytokgpaajelgakaa
open Go.RowKit
set_option maxHeartbeats 1000000 in
theorem terms_of (l : List Tm) (ih : ∀ x ∈ l, ∀ (y : Tm) (w : World) (s r : Value), Lies w x.kids s → Lies w y.kids r → Calls Try.prog 16 #[tv x s, tv y r] w fun e w' => e = .returned (.bool (sameB x y)) ∧ Below w.heap.size w w')
    (m : List Tm) (w : World) (s r : Value) (hl : Lies w l s) (hm : Lies w m r) : Calls Try.prog 29 #[s, r] w fun e w' => e = .returned (.bool (samesB l m)) ∧ Below w.heap.size w w' := by
  obtain ⟨a, cap, S, rfl, hc, hmx, -, hn, hk⟩ := hl.out
  obtain ⟨a2, cap2, S2, rfl, hc2, hmx2, -, hn2, hk2⟩ := hm.out
  unfold maxLen at hmx hmx2
  have IH := Lib.hid ih
  have HN := Lib.hid hn
  have HK := Lib.hid hk
  have HN2 := Lib.hid hn2
  have HK2 := Lib.hid hk2
  clear ih hn hk hn2 hk2 hl hm
  by_cases hlen : l.length = m.length
  rotate_left
  · have h1 : ((l.length : Int) == (m.length : Int)) = false := by simp; omega
    have h2 : ((l.length : Int) != (m.length : Int)) = true := by simp; omega
    have HS := Lib.hid (sames_ne hlen)
    clear hlen
    go_enter Try.func29, Try.ntmps29
    go_wp2
    go_ret
    exact ⟨ret_bool HS.out.symm, Below.refl _ _⟩
  have h1 : ((l.length : Int) == (m.length : Int)) = true := by simp; omega
  have h2 : ((l.length : Int) != (m.length : Int)) = false := by simp; omega
  have HL := Lib.hid hlen
  clear hlen
  go_enter Try.func29, Try.ntmps29
  go_wp2
  go_loopw [5] (fun iv wr => ∃ k : Nat, k ≤ l.length ∧ iv = .int .i64 k ∧ Hid (samesB (l.take k) (m.take k) = true) ∧ Below w.heap.size w wr) (fun iv _ => l.length - (intOf iv).toNat)
  case atStart => exact ⟨0, Nat.zero_le _, rfl, by simp [Hid, samesB], Below.refl _ _⟩
  case round =>
    obtain ⟨k, hk, rfl, hgood, hb⟩ := hrel
    by_cases hlt : k < l.length
    · have hlt2 : k < m.length := by have := HL.out; omega
      obtain ⟨b, o, rfl, hx⟩ := HN.out k hlt
      obtain ⟨b2, o2, rfl, hx2⟩ := HN2.out k hlt2
      obtain ⟨c0, c1, c2, c3, c4⟩ := hx.below hb hx.lt
      obtain ⟨e0, e1, e2, e3, e4⟩ := hx2.below hb hx2.lt
      have hq := (HK.out k hlt).keep hb
      have hq2 := (HK2.out k hlt2).keep hb
      obtain ⟨a', cap', S', hS, -⟩ := hq.out
      obtain ⟨a2', cap2', S2', hS2, -⟩ := hq2.out
      rw [hS] at c4 hq
      rw [hS2] at e4 hq2
      have HQ := Lib.hid hq
      have HQ2 := Lib.hid hq2
      have HM := Lib.hid (List.getElem_mem hlt)
      have HT := Lib.hid (sames_take l m k hlt hlt2)
      have HO := Lib.hid (sames_of l m k hlt hlt2)
      clear hS hS2 hq hq2
      go_wp2
      go_region_with (go_at_call 16; refine (IH.out _ HM.out _ _ _ _ (HQ.out.keep (Below.refl _ _).drew) (HQ2.out.keep (Below.refl _ _).drew)).mono ?_; rintro e wn ⟨rfl, hb'⟩; have HB3 := below_call hb.drew hb' hb.size; clear hb')
      all_goals
        cases hs : sameB l[k] m[k]
        · go_wp2
          go_ret
          exact ⟨ret_bool (HO.out hs).symm, HB3⟩
        · go_wp2
          go_roundw
          case rel => exact ⟨k + 1, by omega, by go_num, by show _ = true; rw [HT.out, hgood.out, hs]; rfl, HB3⟩
          case measure => simp [intOf]; omega
    · have : k = l.length := by omega
      subst this
      go_wp2
      go_ret
      exact ⟨ret_bool (by have hg := hgood.out; rw [List.take_length, HL.out, List.take_length] at hg; exact hg.symm), hb⟩
set_option maxHeartbeats 1000000 in
theorem keepsame_any (t : Tm) : ∀ (u : Tm) (w : World) (s r : Value), Lies w t.kids s → Lies w u.kids r → Calls Try.prog 16 #[tv t s, tv u r] w fun e w' => e = .returned (.bool (sameB t u)) ∧ Below w.heap.size w w' := by
  induction t using Tm.ind with
  | h t ih =>
    intro u w s r hl hm
    obtain ⟨a, cap, S, rfl, -⟩ := hl.out
    obtain ⟨a2, cap2, S2, rfl, -⟩ := hm.out
    have HTM := Lib.hid (terms_of t.kids ih)
    have HE := Lib.hid (sameB_eq t u)
    have HL := Lib.hid hl
    have HM := Lib.hid hm
    have H0 := held2_start w t (.slice a t.kids.length cap) u (.slice a2 u.kids.length cap2)
    clear hl hm ih
    unfold tv
    cases ek : (t.k == u.k)
    · go_enter Try.func16, Try.ntmps16
      go_wp2
      go_ret
      exact ⟨ret_bool (by rw [HE.out]; simp only [ek, Bool.false_and]), held2_below H0⟩
    cases ei : (t.i == u.i)
    · go_enter Try.func16, Try.ntmps16
      go_wp2
      go_ret
      exact ⟨ret_bool (by rw [HE.out]; simp only [ek, ei, Bool.false_and, Bool.true_and]), held2_below H0⟩
    cases ej : (t.j == u.j)
    · go_enter Try.func16, Try.ntmps16
      go_wp2
      go_ret
      exact ⟨ret_bool (by rw [HE.out]; simp only [ek, ei, ej, Bool.false_and, Bool.true_and]), held2_below H0⟩
    cases en : (t.n == u.n)
    · go_enter Try.func16, Try.ntmps16
      go_wp2
      go_ret
      exact ⟨ret_bool (by rw [HE.out]; simp only [ek, ei, ej, en, Bool.false_and, Bool.true_and]), held2_below H0⟩
    go_enter Try.func16, Try.ntmps16
    go_wp2_with fail
    refine (HTM.out u.kids _ _ _ (held2_lies H0 HL.out) (held2_lies H0 HM.out)).mono ?_
    rintro e wn ⟨rfl, hb'⟩
    have H1 := held2_call H0 hb'
    clear hb'
    go_wp2
    go_ret
    exact ⟨ret_bool (by rw [HE.out]; simp only [ek, ei, ej, en, Bool.true_and]), held2_below H1⟩
end Go.Proofs.Ytokgpaajelgakaa
namespace Go.Proofs.Ytokgpaajelgakaa
mutual
def Tm.each (f : Int → Int → Option Int) : Tm → Int → Option Tm
  | .mk k i j n l, b => if k = 2 then (f i b).map (fun v => .mk 2 v 0 0 []) else (eaches f k 0 b l).map (fun l' => .mk k i j n l')
def eaches (f : Int → Int → Option Int) : Int → Nat → Int → List Tm → Option (List Tm)
  | _, _, _, [] => some []
  | k, p, b, t :: r => (t.each f (b + bindsN k p)).bind fun x => (eaches f k (p + 1) b r).map fun y => x :: y
end
theorem Tm.each_eq (f : Int → Int → Option Int) (t : Tm) (b : Int) : t.each f b = if t.k = 2 then (f t.i b).map (fun v => .mk 2 v 0 0 []) else (eaches f t.k 0 b t.kids).map (fun l => .mk t.k t.i t.j t.n l) := by
  cases t; simp only [Tm.each]; rfl
theorem eaches_length (f : Int → Int → Option Int) (k b : Int) : ∀ (l : List Tm) (p : Nat) (m : List Tm), eaches f k p b l = some m → m.length = l.length
  | [], p, m, h => by simp only [eaches, Option.some.injEq] at h; subst h; rfl
  | t :: r, p, m, h => by
    simp only [eaches, Option.bind_eq_some_iff, Option.map_eq_some_iff] at h
    obtain ⟨x, _, y, hy, rfl⟩ := h
    simp [eaches_length f k b r (p + 1) y hy]
theorem right_var_eq {t : Tm} (h : t.rightB = true) (hk : t.k = 2) : t = .mk 2 t.i 0 0 [] := by
  have h2 := t.right_node h
  have h0 : t.kids = [] := (sorts_two h2 (by omega)).2
  simp only [Tm.nodeB, numbersN, hk, Bool.and_eq_true, if_true, decide_eq_true_eq] at h2
  have h3 := h2.2
  have hj : t.j = 0 := by simp at h3; omega
  have hn : t.n = 0 := by simp at h3; omega
  rw [← t.eta, hk, hj, hn, h0]; rfl
theorem each_stays (f : Int → Int → Option Int) (t : Tm) : ∀ b, t.rightB = true → 0 ≤ b → (∀ v c, 0 ≤ v → v ≤ 2147483647 → b ≤ c → v < t.freeN + c - b → f v c = some v) → t.each f b = some t := by
  induction t using Tm.ind with
  | h t ih =>
    intro b hr hb hf
    rw [Tm.each_eq]
    have hm := t.right_kids hr
    by_cases hk : t.k = 2
    · have hv := t.right_var hr hk
      have hfr : t.freeN = t.i + 1 := by rw [t.freeN_eq, if_pos hk]
      rw [if_pos hk, hf t.i b hv.1 hv.2 (Int.le_refl _) (by omega)]
      exact congrArg some (right_var_eq hr hk).symm
    · rw [if_neg hk]
      have hfr : t.freeN = frees t.k 0 t.kids := by rw [t.freeN_eq, if_neg hk]
      have key : ∀ (l : List Tm) (p : Nat), (∀ x ∈ l, ∀ b, x.rightB = true → 0 ≤ b → (∀ v c, 0 ≤ v → v ≤ 2147483647 → b ≤ c → v < x.freeN + c - b → f v c = some v) → x.each f b = some x) → (∀ x ∈ l, x.rightB = true) → frees t.k p l ≤ t.freeN → eaches f t.k p b l = some l := by
        intro l
        induction l with
        | nil => intro p _ _ _; simp [eaches]
        | cons x r ihr =>
          intro p h1 h2 h3
          simp only [frees] at h3
          have hbd := binds_range t.k (p : Int)
          have e1 := h1 x (List.mem_cons_self ..) (b + bindsN t.k p) (h2 x (List.mem_cons_self ..)) (by omega) (fun v c hv hv2 hc hlt => hf v c hv hv2 (by omega) (by omega))
          have e2 := ihr (p + 1) (fun y hy => h1 y (List.mem_cons_of_mem _ hy)) (fun y hy => h2 y (List.mem_cons_of_mem _ hy)) (by omega)
          simp only [eaches, e1, e2, Option.bind_some, Option.map_some]
      rw [key t.kids 0 ih hm (by omega)]
      exact congrArg some t.eta
theorem var_sorts {t : Tm} (h : t.nodeB = true) (hk : t.k = 2) : t.markedB = true ∧ t.plainB = true := by
  have h3 := (sorts_two h (by omega)).1
  unfold Tm.sortsN at h3
  cases hm : t.markedB <;> cases hp : t.plainB <;> simp [hm, hp] at h3 ⊢
theorem each_keeps (f : Int → Int → Option Int) (hf : ∀ v b w, 0 ≤ v → v ≤ 2147483647 → f v b = some w → 0 ≤ w ∧ w ≤ 2147483647) (t : Tm) :
    ∀ b u, t.rightB = true → t.each f b = some u → u.markedB = t.markedB ∧ u.plainB = t.plainB ∧ u.size = t.size := by
  induction t using Tm.ind with
  | h t ih =>
    intro b u hr he
    have hm := t.right_kids hr
    rw [Tm.each_eq] at he
    by_cases hk : t.k = 2
    · rw [if_pos hk] at he
      simp only [Option.map_eq_some_iff] at he
      obtain ⟨v, hv, rfl⟩ := he
      have hr2 := t.right_var hr hk
      have hv2 := hf _ _ _ hr2.1 hr2.2 hv
      have hnode : (Tm.mk 2 v 0 0 []).nodeB = true := by simp [Tm.nodeB, Tm.k, Tm.i, Tm.j, Tm.n, Tm.kids, numbersN, kidsN, hv2.1, hv2.2]
      have a1 := var_sorts hnode rfl
      have a2 := var_sorts (t.right_node hr) hk
      refine ⟨by rw [a1.1, a2.1], by rw [a1.2, a2.2], ?_⟩
      rw [right_var_eq hr hk]; simp [Tm.size, sizes]
    · rw [if_neg hk] at he
      simp only [Option.map_eq_some_iff] at he
      obtain ⟨m, hm2, rfl⟩ := he
      have key : ∀ (l : List Tm) (p q : Nat) (m : List Tm), (∀ x ∈ l, ∀ b u, x.rightB = true → x.each f b = some u → u.markedB = x.markedB ∧ u.plainB = x.plainB ∧ u.size = x.size) → (∀ x ∈ l, x.rightB = true) → eaches f t.k p b l = some m →
          plains m = plains l ∧ (∀ tr, markeds tr q m = markeds tr q l) ∧ sizes m = sizes l := by
        intro l
        induction l with
        | nil => intro p q m _ _ h; simp only [eaches, Option.some.injEq] at h; subst h; exact ⟨rfl, fun _ => rfl, rfl⟩
        | cons x r ihr =>
          intro p q m h1 h2 h
          simp only [eaches, Option.bind_eq_some_iff, Option.map_eq_some_iff] at h
          obtain ⟨x', hx, r', hr', rfl⟩ := h
          obtain ⟨e1, e2, e3⟩ := h1 x (List.mem_cons_self ..) _ _ (h2 x (List.mem_cons_self ..)) hx
          obtain ⟨g1, g2, g3⟩ := ihr (p + 1) (q + 1) r' (fun y hy => h1 y (List.mem_cons_of_mem _ hy)) (fun y hy => h2 y (List.mem_cons_of_mem _ hy)) hr'
          exact ⟨by simp only [plains, e2, g1], fun tr => by simp only [markeds, e1, e2, g2], by simp only [sizes, e3, g3]⟩
      obtain ⟨g1, g2, g3⟩ := key t.kids 0 0 m ih hm hm2
      have hlen := eaches_length _ _ _ _ _ _ hm2
      have hnode : (Tm.mk t.k t.i t.j t.n m).nodeB = t.nodeB := by
        show (((m.length : Int) == kidsN t.k t.n) && numbersN t.k t.i t.j t.n) = _
        rw [hlen]; rfl
      refine ⟨?_, ?_, ?_⟩
      · rw [Tm.markedB_eq, Tm.markedB_eq, hnode]; show (_ && (_ && markeds (t.k == 12) 0 m)) = _; rw [g2]; rfl
      · rw [Tm.plainB_eq, Tm.plainB_eq, hnode]; show (_ && (_ && plains m)) = _; rw [g1]; rfl
      · rw [Tm.size_eq, Tm.size_eq]; show sizes m + 1 = _; rw [g3]
def liftF (k from' : Int) (v b : Int) : Option Int := if v - b < from' then some v else if k > 2147483647 - v then none else some (v + k)
theorem liftF_range (k c : Int) (hk : 0 ≤ k) : ∀ v b w, 0 ≤ v → v ≤ 2147483647 → liftF k c v b = some w → 0 ≤ w ∧ w ≤ 2147483647 := by
  intro v b w h0 h1 h
  unfold liftF at h
  split at h
  · have := Option.some.inj h; omega
  · split at h
    · cases h
    · have := Option.some.inj h; omega
end Go.Proofs.Ytokgpaajelgakaa
namespace Go.Proofs.Ytokgpaajelgakaa
def Tm.zero : Tm := .mk 0 0 0 0 []
def optK (g : Nat → Tm → Option Tm) : Nat → List Tm → Option (List Tm)
 | _, [] => some []
 | p, t :: r => (g p t).bind fun x => (optK g (p + 1) r).map fun y => x :: y
theorem optK_take (g : Nat → Tm → Option Tm) (l : List Tm) (p k : Nat) (h : k < l.length) : optK g p (l.take (k + 1)) = (optK g p (l.take k)).bind fun m => (g (p + k) l[k]).map fun x => m ++ [x] := by
 induction l generalizing p k with
 | nil => simp at h
 | cons a r ih =>
  cases k with
  | zero => simp only [List.take_succ_cons, List.take_zero, optK, List.getElem_cons_zero, Nat.add_zero, Option.map_some, Option.bind_some, List.nil_append]; cases g p a <;> rfl
  | succ k =>
   simp only [List.take_succ_cons, optK, List.getElem_cons_succ]
   rw [ih (p + 1) k (by simpa using h), show p + 1 + k = p + (k + 1) by omega]
   cases g p a with
   | none => rfl
   | some x => simp only [Option.bind_some]; cases optK g (p + 1) (r.take k) with
    | none => rfl
    | some m => simp only [Option.bind_some, Option.map_some]; cases g (p + (k + 1)) (r[k]'(by simpa using h)) <;> rfl
theorem optK_none (g : Nat → Tm → Option Tm) (l : List Tm) (p k : Nat) (h : k < l.length) (hg : g (p + k) l[k] = none) : optK g p l = none := by
 induction l generalizing p k with
 | nil => simp at h
 | cons a r ih =>
  cases k with
  | zero => simp only [List.getElem_cons_zero, Nat.add_zero] at hg; simp only [optK, hg, Option.bind_none]
  | succ k =>
   simp only [List.getElem_cons_succ] at hg
   simp only [optK]
   rw [ih (p + 1) k (by simpa using h) (by rw [show p + 1 + k = p + (k + 1) by omega]; exact hg)]
   cases g p a <;> rfl
theorem optK_next {g : Nat → Tm → Option Tm} {l m : List Tm} {k : Nat} (h : k < l.length) (hm : optK g 0 (l.take k) = some m) {x : Tm} (hx : g k l[k] = some x) : optK g 0 (l.take (k + 1)) = some (m ++ [x]) := by
 rw [optK_take g l 0 k h, hm, Option.bind_some, Nat.zero_add, hx, Option.map_some]
theorem optK_stop {g : Nat → Tm → Option Tm} {l : List Tm} {k : Nat} (h : k < l.length) (hx : g k l[k] = none) : optK g 0 l = none := optK_none g l 0 k h (by rw [Nat.zero_add]; exact hx)
theorem optK_length {g : Nat → Tm → Option Tm} : ∀ {l m : List Tm} {p : Nat}, optK g p l = some m → m.length = l.length
 | [], m, p, h => by simp only [optK, Option.some.injEq] at h; subst h; rfl
 | t :: r, m, p, h => by
  simp only [optK, Option.bind_eq_some_iff, Option.map_eq_some_iff] at h
  obtain ⟨x, _, y, hy, rfl⟩ := h
  simp [optK_length hy]
theorem optK_get {g : Nat → Tm → Option Tm} : ∀ {l m : List Tm} {p : Nat}, optK g p l = some m → ∀ k (h : k < l.length) (h' : k < m.length), g (p + k) l[k] = some m[k]
 | [], m, p, h, k, hk, _ => by simp at hk
 | t :: r, m, p, h, k, hk, hk' => by
  simp only [optK, Option.bind_eq_some_iff, Option.map_eq_some_iff] at h
  obtain ⟨x, hx, y, hy, rfl⟩ := h
  cases k with
  | zero => simpa using hx
  | succ k =>
   have := optK_get hy k (by simpa using hk) (by simpa using hk')
   simp only [List.getElem_cons_succ]
   rw [show p + (k + 1) = p + 1 + k by omega]; exact this
theorem eaches_optK (f : Int → Int → Option Int) (k b : Int) : ∀ (l : List Tm) (p : Nat), eaches f k p b l = optK (fun q t => t.each f (b + bindsN k q)) p l
 | [], p => rfl
 | t :: r, p => by simp only [eaches, optK]; rw [eaches_optK f k b r (p + 1)]
theorem Tm.each_var (f : Int → Int → Option Int) (t : Tm) (b : Int) (h : t.k = 2) : t.each f b = (f t.i b).map (fun v => .mk 2 v 0 0 []) := by rw [t.each_eq, if_pos h]
theorem Tm.each_node (f : Int → Int → Option Int) (t : Tm) (b : Int) (h : t.k ≠ 2) : t.each f b = (optK (fun q x => x.each f (b + bindsN t.k q)) 0 t.kids).map (fun l => .mk t.k t.i t.j t.n l) := by rw [t.each_eq, if_neg h, eaches_optK]
def Tm.liftB (t : Tm) (k c : Int) : Tm := if k < 0 ∨ c < 0 ∨ t.rightB = false then .zero else (t.each (liftF k c) 0).getD .zero
end Go.Proofs.Ytokgpaajelgakaa
namespace Go.Proofs.Ytokgpaajelgakaa
theorem mk_k (k i j n : Int) (l : List Tm) : (Tm.mk k i j n l).k = k := rfl
theorem mk_i (k i j n : Int) (l : List Tm) : (Tm.mk k i j n l).i = i := rfl
theorem mk_j (k i j n : Int) (l : List Tm) : (Tm.mk k i j n l).j = j := rfl
theorem mk_n (k i j n : Int) (l : List Tm) : (Tm.mk k i j n l).n = n := rfl
theorem mk_kids (k i j n : Int) (l : List Tm) : (Tm.mk k i j n l).kids = l := rfl
def bareKind (k : Int) : Int := if k = 3 then 13 else if k = 4 then 14 else if k = 5 then 15 else if k = 6 then 16 else if k = 7 then 17 else if k = 8 then 18 else if k = 9 then 19 else if k = 10 then 20 else if k = 11 then 21 else if k = 12 then 23 else k
def barePick (k : Int) : List Nat := if k = 3 then [0, 1] else if k = 4 then [0, 2] else if k = 5 then [2, 3] else if k = 6 then [0, 1] else if k = 7 then [0, 1, 2, 3] else if k = 8 then [2] else if k = 9 then [2] else if k = 10 then [0, 1, 2] else if k = 11 then [0, 1] else [0, 1, 2, 3]
def pickT (p : List Nat) (l : List Tm) : List Tm := p.filterMap fun i => l[i]?
def bareNode (k i j n : Int) (l : List Tm) : Tm := if 3 ≤ k ∧ k ≤ 12 then .mk (bareKind k) (if k = 12 then i else 0) 0 (if k = 12 then 5 else 0) (pickT (barePick k) l) else .mk k i j n l
mutual
def Tm.bare : Tm → Tm
 | .mk k i j n l => bareNode k i j n (bares l)
def bares : List Tm → List Tm
 | [] => []
 | t :: r => t.bare :: bares r
end
theorem bares_map : ∀ l : List Tm, bares l = l.map Tm.bare
 | [] => rfl
 | t :: r => by simp only [bares, List.map_cons, bares_map r]
theorem Tm.bare_eq (t : Tm) : t.bare = bareNode t.k t.i t.j t.n (t.kids.map Tm.bare) := by cases t; simp only [Tm.bare, bares_map]; rfl
theorem kids_two {l : List Tm} (h : l.length = 2) : ∃ a b, l = [a, b] := by
 match l, h with | [a, b], _ => exact ⟨a, b, rfl⟩
theorem kids_three {l : List Tm} (h : l.length = 3) : ∃ a b c, l = [a, b, c] := by
 match l, h with | [a, b, c], _ => exact ⟨a, b, c, rfl⟩
theorem kids_four {l : List Tm} (h : l.length = 4) : ∃ a b c d, l = [a, b, c, d] := by
 match l, h with | [a, b, c, d], _ => exact ⟨a, b, c, d, rfl⟩
theorem node_length {t : Tm} (h : t.nodeB = true) : (t.kids.length : Int) = kidsN t.k t.n := by
 simp only [Tm.nodeB, Bool.and_eq_true, beq_iff_eq] at h; exact h.1
theorem marked_shape {t : Tm} (h : t.nodeB = true) (h3 : 3 ≤ t.k) (h12 : t.k ≤ 12) :
  ((t.k = 3 ∨ t.k = 6 ∨ t.k = 11) ∧ ∃ a b, t.kids = [a, b]) ∨ ((t.k = 4 ∨ t.k = 8 ∨ t.k = 9 ∨ t.k = 10) ∧ ∃ a b c, t.kids = [a, b, c]) ∨ ((t.k = 5 ∨ t.k = 7 ∨ t.k = 12) ∧ ∃ a b c d, t.kids = [a, b, c, d]) := by
 have hl := node_length h
 have hk : t.k = 3 ∨ t.k = 4 ∨ t.k = 5 ∨ t.k = 6 ∨ t.k = 7 ∨ t.k = 8 ∨ t.k = 9 ∨ t.k = 10 ∨ t.k = 11 ∨ t.k = 12 := by omega
 rcases hk with e | e | e | e | e | e | e | e | e | e <;> rw [e] at hl <;> simp only [kidsN] at hl <;> simp at hl
 ·exact Or.inl ⟨by omega, kids_two (by omega)⟩
 ·exact Or.inr (Or.inl ⟨by omega, kids_three (by omega)⟩)
 ·exact Or.inr (Or.inr ⟨by omega, kids_four (by omega)⟩)
 ·exact Or.inl ⟨by omega, kids_two (by omega)⟩
 ·exact Or.inr (Or.inr ⟨by omega, kids_four (by omega)⟩)
 ·exact Or.inr (Or.inl ⟨by omega, kids_three (by omega)⟩)
 ·exact Or.inr (Or.inl ⟨by omega, kids_three (by omega)⟩)
 ·exact Or.inr (Or.inl ⟨by omega, kids_three (by omega)⟩)
 ·exact Or.inl ⟨by omega, kids_two (by omega)⟩
 ·exact Or.inr (Or.inr ⟨by omega, kids_four (by omega)⟩)
theorem plain_kids {t : Tm} (h : t.plainB = true) : ∀ x ∈ t.kids, x.plainB = true := by
 rw [Tm.plainB_eq] at h; simp only [Bool.and_eq_true] at h; exact plains_mem h.2.2
theorem plain_kind {t : Tm} (h : t.plainB = true) : t.k = 1 ∨ t.k = 2 ∨ 13 ≤ t.k := by
 rw [Tm.plainB_eq] at h; simp at h; omega
theorem plain_right {t : Tm} (h : t.plainB = true) : t.rightB = true := by simp [Tm.rightB, h]
theorem marked_right {t : Tm} (h : t.markedB = true) : t.rightB = true := by simp [Tm.rightB, h]
theorem plain_bare (t : Tm) : t.plainB = true → t.bare = t := by
 induction t using Tm.ind with
 | h t ih =>
  intro h
  have hk := plain_kind h
  rw [Tm.bare_eq, bareNode, if_neg (by omega)]
  have : t.kids.map Tm.bare = t.kids := by
   have hp := plain_kids h
   conv => rhs; rw [← List.map_id t.kids]
   exact List.map_congr_left (fun x hx => ih x hx (hp x hx))
  rw [this]; exact t.eta
theorem right_cases {t : Tm} (h : t.rightB = true) : t.plainB = true ∨ (t.markedB = true ∧ 3 ≤ t.k ∧ t.k ≤ 12) := by
 cases hp : t.plainB
 ·right
  simp [Tm.rightB, hp] at h
  refine ⟨h, ?_⟩
  have hn : t.nodeB = true := Tm.right_node (by simp [Tm.rightB, h])
  have h1 := Tm.node_kind hn
  by_cases h2 : t.k ≤ 2
  ·have := (sorts_two hn h2).1
   simp [Tm.sortsN, h, hp] at this
  ·rw [Tm.markedB_eq] at h; simp at h; omega
 ·exact Or.inl rfl
theorem bare_plain (t : Tm) : t.rightB = true → t.bare.plainB = true := by
 induction t using Tm.ind with
 | h t ih =>
  intro h
  rcases right_cases h with hp | ⟨hm, h3, h12⟩
  ·rw [plain_bare t hp]; exact hp
  ·have hn := t.right_node h
   have hr := t.right_kids h
   have hnum := hn
   simp only [Tm.nodeB, Bool.and_eq_true] at hnum
   replace hnum := hnum.2
   rw [Tm.bare_eq, bareNode, if_pos ⟨h3, h12⟩, Tm.plainB_eq]
   rcases marked_shape hn h3 h12 with ⟨hk, a, b, hkids⟩ | ⟨hk, a, b, c, hkids⟩ | ⟨hk, a, b, c, d, hkids⟩
   ·have ea := ih a (by simp [hkids]) (hr a (by simp [hkids]))
    have eb := ih b (by simp [hkids]) (hr b (by simp [hkids]))
    rcases hk with e | e | e <;> simp [e, hkids, bareKind, barePick, pickT, Tm.nodeB, mk_k, mk_i, mk_j, mk_n, mk_kids, kidsN, numbersN, plains, ea, eb]
   ·have ea := ih a (by simp [hkids]) (hr a (by simp [hkids]))
    have eb := ih b (by simp [hkids]) (hr b (by simp [hkids]))
    have ec := ih c (by simp [hkids]) (hr c (by simp [hkids]))
    rcases hk with e | e | e | e <;> simp [e, hkids, bareKind, barePick, pickT, Tm.nodeB, mk_k, mk_i, mk_j, mk_n, mk_kids, kidsN, numbersN, plains, ea, eb, ec]
   ·have ea := ih a (by simp [hkids]) (hr a (by simp [hkids]))
    have eb := ih b (by simp [hkids]) (hr b (by simp [hkids]))
    have ec := ih c (by simp [hkids]) (hr c (by simp [hkids]))
    have ed := ih d (by simp [hkids]) (hr d (by simp [hkids]))
    rcases hk with e | e | e
    ·simp [e, hkids, bareKind, barePick, pickT, Tm.nodeB, mk_k, mk_i, mk_j, mk_n, mk_kids, kidsN, numbersN, plains, ec, ed]
    ·simp [e, hkids, bareKind, barePick, pickT, Tm.nodeB, mk_k, mk_i, mk_j, mk_n, mk_kids, kidsN, numbersN, plains, ea, eb, ec, ed]
    ·simp [e, numbersN, levelB] at hnum
     simp [e, hkids, bareKind, barePick, pickT, Tm.nodeB, mk_k, mk_i, mk_j, mk_n, mk_kids, kidsN, givenN, numbersN, plains, ea, eb, ec, ed, hnum, levelB]
mutual
def Tm.putG (g : Int → Int → Bool → Option Tm) : Tm → Int → Bool → Option Tm
 | .mk k i j n l, b, pl => if k = 2 then g i b pl else (putGs g k 0 b pl l).map (fun l' => .mk k i j n l')
def putGs (g : Int → Int → Bool → Option Tm) : Int → Nat → Int → Bool → List Tm → Option (List Tm)
 | _, _, _, _, [] => some []
 | k, p, b, pl, t :: r => (t.putG g (b + bindsN k p) (pl || (k == 12 && p == 2))).bind fun x => (putGs g k (p + 1) b pl r).map fun y => x :: y
end
theorem putGs_optK (g : Int → Int → Bool → Option Tm) (k b : Int) (pl : Bool) : ∀ (l : List Tm) (p : Nat), putGs g k p b pl l = optK (fun q x => x.putG g (b + bindsN k q) (pl || (k == 12 && q == 2))) p l
 | [], p => rfl
 | t :: r, p => by simp only [putGs, optK]; rw [putGs_optK g k b pl r (p + 1)]
theorem Tm.putG_eq (g : Int → Int → Bool → Option Tm) (t : Tm) (b : Int) (pl : Bool) : t.putG g b pl = if t.k = 2 then g t.i b pl else (optK (fun q x => x.putG g (b + bindsN t.k q) (pl || (t.k == 12 && q == 2))) 0 t.kids).map (fun l => .mk t.k t.i t.j t.n l) := by
 cases t; simp only [Tm.putG, putGs_optK]; rfl
theorem Tm.putG_var (g : Int → Int → Bool → Option Tm) (t : Tm) (b : Int) (pl : Bool) (h : t.k = 2) : t.putG g b pl = g t.i b pl := by rw [t.putG_eq, if_pos h]
theorem Tm.putG_node (g : Int → Int → Bool → Option Tm) (t : Tm) (b : Int) (pl : Bool) (h : t.k ≠ 2) : t.putG g b pl = (optK (fun q x => x.putG g (b + bindsN t.k q) (pl || (t.k == 12 && q == 2))) 0 t.kids).map (fun l => .mk t.k t.i t.j t.n l) := by rw [t.putG_eq, if_neg h]
theorem deeps_get : ∀ (l : List Tm) (q : Nat) (h : q < l.length), (l[q]).deep ≤ deeps l
 | [], q, h => by simp at h
 | a :: r, q, h => by
  cases q with
  | zero => simp only [List.getElem_cons_zero, deeps]; omega
  | succ q => have := deeps_get r q (by simpa using h); simp only [List.getElem_cons_succ, deeps]; omega
end Go.Proofs.Ytokgpaajelgakaa
namespace Go.Proofs.Ytokgpaajelgakaa
open Go.RowKit
theorem results_cell_tmp {P : Program} {fn : Func} {p q : Tmp} {ty : TypeId} (h : fn.results = #[.cell p ty, .tmp q]) (tmps : Array Value) (w : World) (g : Nat) (t : TypeId) (cs : Array Value) (fr : Nat × Nat) (d : TypeDesc)
    (hp : tmps.getD p undef = .pointer (some ⟨g, 0, none⟩)) (hg : w.heap[g]? = some (.cells cs t fr))
    (hu : P.underlying ty = some d) (hd : (match d with | .struct _ | .array _ _ => true | _ => false) = true) (hi : (P.info? ty).map (·.size) = some cs.size) :
    (results fn tmps).run P w = .ok (.tuple #[.agg cs, tmps.getD q undef]) w := by
  have hp' : tmps[p]?.getD undef = .pointer (some ⟨g, 0, none⟩) := by simpa using hp
  simp [results, h, hp', asAddr, run_loadVar_row w g t ty cs fr d hg hu hd hi]
def Gives (r : Option Tm) (w : World) (e : Ending) (w' : World) : Prop := Below w.heap.size w w' ∧
  ((∃ u s', r = some u ∧ e = .returned (.tuple #[tv u s', .bool true]) ∧ LiesP w' (Own w.heap.size w') u.kids s') ∨ (∃ z : Tm, r = none ∧ z.kids = [] ∧ e = .returned (.tuple #[tv z (.slice none 0 0), .bool false])))
theorem liftc_some (v b c k r : Int) (bf bk : Nat) (w : World) (h : liftF k c v b = some r) (hv : 0 ≤ v) (hv2 : v ≤ 2147483647) (hb : 0 ≤ b) (hb2 : b ≤ 4000000) (hk : I64 k) (hk0 : 0 ≤ k)
    (hc : w.cell? ⟨bf, 0, none⟩ = some (.int .i64 c)) (hck : w.cell? ⟨bk, 0, none⟩ = some (.int .i64 k)) :
    Calls Try.prog 89 #[.int .i64 v, .int .i64 b, .pointer (some ⟨bf, 0, none⟩), .pointer (some ⟨bk, 0, none⟩)] w fun e w' => e = .returned (.tuple #[.int .i64 r, .bool true]) ∧ w = w' := by
  unfold liftF at h
  unfold I64 at hk
  obtain ⟨hk1, hk2⟩ := hk
  by_cases h1 : v - b < c
  · rw [if_pos h1] at h
    obtain rfl := Option.some.inj h
    have e1 : decide (v - b < c) = true := by simpa using h1
    clear h h1
    go_enter Try.func89, Try.ntmps89
    go_wp2
    go_ret2
    exact ⟨rfl, rfl⟩
  · rw [if_neg h1] at h
    by_cases h2 : k > 2147483647 - v
    · rw [if_pos h2] at h; cases h
    · rw [if_neg h2] at h
      obtain rfl := Option.some.inj h
      have e1 : decide (v - b < c) = false := by simpa using h1
      have e2 : decide (2147483647 - v < k) = false := by simpa using h2
      have h2' : k ≤ 2147483647 - v := by omega
      clear h h1 h2
      go_enter Try.func89, Try.ntmps89
      go_wp2
      go_ret2
      exact ⟨rfl, rfl⟩
theorem liftc_none (v b c k : Int) (bf bk : Nat) (w : World) (h : liftF k c v b = none) (hv : 0 ≤ v) (hv2 : v ≤ 2147483647) (hb : 0 ≤ b) (hb2 : b ≤ 4000000) (hk : I64 k) (_ : 0 ≤ k)
    (hc : w.cell? ⟨bf, 0, none⟩ = some (.int .i64 c)) (hck : w.cell? ⟨bk, 0, none⟩ = some (.int .i64 k)) :
    Calls Try.prog 89 #[.int .i64 v, .int .i64 b, .pointer (some ⟨bf, 0, none⟩), .pointer (some ⟨bk, 0, none⟩)] w fun e w' => e = .returned (.tuple #[.int .i64 0, .bool false]) ∧ w = w' := by
  unfold liftF at h
  unfold I64 at hk
  obtain ⟨hk1, hk2⟩ := hk
  by_cases h1 : v - b < c
  · rw [if_pos h1] at h; cases h
  · rw [if_neg h1] at h
    by_cases h2 : k > 2147483647 - v
    · have e1 : decide (v - b < c) = false := by simpa using h1
      have e2 : decide (2147483647 - v < k) = true := by simpa using h2
      clear h h1 h2
      go_enter Try.func89, Try.ntmps89
      go_wp2
      go_ret2
      exact ⟨rfl, rfl⟩
    · rw [if_neg h2] at h; cases h
theorem level_I64 {i : Int} (h : levelB i = true) : I64 i := by simp [levelB] at h; unfold I64; omega
theorem right_fine {t : Tm} (h : t.rightB = true) : t.fine := by
  have hn := t.right_node h
  have hk := Tm.node_kind hn
  have hl := node_length hn
  simp only [Tm.nodeB, Bool.and_eq_true] at hn
  replace hn := hn.2
  have i0 : I64 0 := by unfold I64; omega
  have gn : 0 ≤ givenN t.n → I64 t.n := fun h => by unfold givenN at h; unfold I64; (repeat' split at h) <;> omega
  refine ⟨by unfold I64; omega, ?_⟩
  unfold numbersN at hn
  split at hn
  · simp at hn; exact ⟨by unfold I64; omega, by rw [hn.2.2.1]; exact i0, by rw [hn.2.2.2]; exact i0⟩
  split at hn
  · simp at hn; exact ⟨level_I64 hn.1, by rw [hn.2.1]; exact i0, by rw [hn.2.2]; exact i0⟩
  split at hn
  · simp at hn; exact ⟨level_I64 hn.1, level_I64 hn.2.1, by rw [hn.2.2]; exact i0⟩
  split at hn
  · rename_i h23
    simp at hn
    rw [h23] at hl
    exact ⟨level_I64 hn.1, level_I64 hn.2, gn (by have : kidsN 23 t.n = givenN t.n := rfl; omega)⟩
  · simp at hn; exact ⟨by rw [hn.1]; exact i0, by rw [hn.2.1]; exact i0, by rw [hn.2.2]; exact i0⟩
theorem kidsN_le (k n : Int) : kidsN k n ≤ 12 := by
  have : givenN n ≤ 12 := by unfold givenN; (repeat' split) <;> omega
  unfold kidsN; (repeat' split) <;> omega
theorem right_len {t : Tm} (h : t.rightB = true) : t.kids.length ≤ 12 := by
  have := node_length (t.right_node h); have := kidsN_le t.k t.n; omega
end Go.Proofs.Ytokgpaajelgakaa
namespace Go.Proofs.Ytokgpaajelgakaa
open Go.RowKit
def Makes (u : Tm) (w : World) (e : Ending) (w' : World) : Prop := ∃ s' : Value, e = .returned (tv u s') ∧ LiesP w' (Own w.heap.size w') u.kids s' ∧ Below w.heap.size w w'
def MakesAll (l : List Tm) (w : World) (e : Ending) (w' : World) : Prop := ∃ s' : Value, e = .returned s' ∧ LiesP w' (Own w.heap.size w') l s' ∧ Below w.heap.size w w'
theorem LiesP.out {w : World} {P : Nat → Prop} {l : List Tm} {s : Value} (h : LiesP w P l s) : ∃ (a : Option Addr) (cap : Nat), s = .slice a l.length cap ∧ l.length ≤ cap ∧ cap ≤ maxLen := by
  cases h with
  | mk l a cap S hc hm hf hn hk => exact ⟨a, cap, rfl, hc, hm⟩
def Boxes (w : World) (t : Tm) (s : Value) (w' : World) : Prop := Below (w.heap.size + 2) ((w.alloc (boxOf t s)).alloc (.cells #[.int .i64 0, .int .i64 0, .int .i64 0, .int .i64 0, .slice none 0 0] 31)) w'
theorem boxes_start (w : World) (t : Tm) (s : Value) : Boxes w t s ((w.alloc (.cells #[.int .i64 t.k, .int .i64 t.i, .int .i64 t.j, .int .i64 t.n, s] 31)).alloc (.cells #[.int .i64 0, .int .i64 0, .int .i64 0, .int .i64 0, .slice none 0 0] 31)) := Below.refl _ _
theorem boxes_held {w w' : World} {t : Tm} {s : Value} (h : Boxes w t s w') : Held w t s w' :=
  ((Below.refl (w.heap.size + 1) (w.alloc (boxOf t s))).alloc (by simp) _).trans (Below.mono h (by omega))
theorem boxes_cells {w w' : World} {t : Tm} {s : Value} (h : Boxes w t s w') : w'.cell? ⟨w.heap.size, 0, none⟩ = some (.int .i64 t.k) ∧ w'.cell? ⟨w.heap.size, 1, none⟩ = some (.int .i64 t.i) ∧ w'.cell? ⟨w.heap.size, 2, none⟩ = some (.int .i64 t.j) ∧ w'.cell? ⟨w.heap.size, 3, none⟩ = some (.int .i64 t.n) ∧ w'.cell? ⟨w.heap.size, 4, none⟩ = some s ∧
    w'.cell? ⟨w.heap.size + 1, 0, none⟩ = some (.int .i64 0) ∧ w'.cell? ⟨w.heap.size + 1, 1, none⟩ = some (.int .i64 0) ∧ w'.cell? ⟨w.heap.size + 1, 2, none⟩ = some (.int .i64 0) ∧ w'.cell? ⟨w.heap.size + 1, 3, none⟩ = some (.int .i64 0) ∧ w'.cell? ⟨w.heap.size + 1, 4, none⟩ = some (.slice none 0 0) ∧ w'.frozen? ⟨w.heap.size + 1, 0, none⟩ = false ∧ w'.frozen? ⟨w.heap.size + 1, 1, none⟩ = false ∧ w'.frozen? ⟨w.heap.size + 1, 2, none⟩ = false ∧ w'.frozen? ⟨w.heap.size + 1, 3, none⟩ = false ∧ w'.frozen? ⟨w.heap.size + 1, 4, none⟩ = false := by
  obtain ⟨h0, h1, h2, h3, h4⟩ := held_cells (boxes_held h)
  have hs : (w.alloc (boxOf t s)).heap.size = w.heap.size + 1 := by simp
  have := box_cells (w := w.alloc (boxOf t s)) (by rw [hs]; exact h)
  rw [hs] at this
  obtain ⟨y0, y1, y2, y3, y4⟩ := this
  have fr : ∀ q, w'.frozen? ⟨w.heap.size + 1, q, none⟩ = false := fun q => by
    rw [Below.frozen h (p := ⟨w.heap.size + 1, q, none⟩) (by simp)]
    unfold World.frozen?
    rw [show (⟨w.heap.size + 1, q, none⟩ : Addr).block = (w.alloc (boxOf t s)).heap.size by simp, alloc_new]
    rfl
  exact ⟨h0, h1, h2, h3, h4, y0, y1, y2, y3, y4, fr _, fr _, fr _, fr _, fr _⟩
theorem boxes_call {w w1 w2 : World} {t : Tm} {s : Value} (h : Boxes w t s w1) (hb : Below w1.heap.size w1 w2) : Boxes w t s w2 := below_call h hb (by have := Below.size h; simpa using this)
theorem held_set {w w1 : World} {t : Tm} {s : Value} (h : Held w t s w1) {p : Addr} (hp : w.heap.size + 1 ≤ p.block) (u : Value) : Held w t s (w1.setCell p u) := Below.setCell h hp u
theorem boxes_block {w w1 : World} {t : Tm} {s : Value} (h : Boxes w t s w1) : w1.heap[w.heap.size + 1]? = some (.cells #[.int .i64 0, .int .i64 0, .int .i64 0, .int .i64 0, .slice none 0 0] 31 (0, 0)) := by
  rw [Below.block h _ (by omega)]
  exact heap_alloc2_new _ _ _
theorem boxes_lies {w w1 : World} {t : Tm} {s s' : Value} {l : List Tm} (h : Boxes w t s w1) (hl : Lies w l s') : Lies w1 l s' := held_lies (boxes_held h) hl
theorem len_sizes : ∀ l : List Tm, l.length ≤ sizes l
  | [] => by simp
  | t :: r => by have := len_sizes r; have := t.size_eq; simp only [sizes, List.length_cons]; omega
theorem size_mem : ∀ (l : List Tm) (x : Tm), x ∈ l → x.size ≤ sizes l
  | t :: r, x, h => by
    simp only [sizes]
    rcases List.mem_cons.1 h with rfl | h
    · omega
    · have := size_mem r x h; omega
theorem under_term : ∃ d, Try.prog.underlying 31 = some d ∧ (match d with | .struct _ | .array _ _ => true | _ => false) = true := by
  have h : (Try.prog.underlying 31).map (fun d => match d with | .struct _ | .array _ _ => true | _ => false) = some true := by kernel_rfl
  cases e : Try.prog.underlying 31 with
  | none => rw [e] at h; cases h
  | some d => rw [e] at h; exact ⟨d, rfl, Option.some.inj h⟩
theorem size_term : (Try.prog.info? 31).map (·.size) = some 5 := by kernel_rfl
end Go.Proofs.Ytokgpaajelgakaa
namespace Go.Proofs.Ytokgpaajelgakaa
open Go.RowKit
theorem open_unfrozen {w : World} {b : Nat} {cs : Array Value} {T : TypeId} (h : w.heap[b]? = some (.cells cs T (0, 0))) (q : Nat) : w.frozen? ⟨b, q, none⟩ = false := by
  unfold World.frozen?
  rw [show (⟨b, q, none⟩ : Addr).block = b from rfl, h]; rfl
end Go.Proofs.Ytokgpaajelgakaa
namespace Go.Proofs.Ytokgpaajelgakaa
open Go.RowKit
theorem cell_lat {w wx : World} {a : Addr} {v : Value} (hb : Below w.heap.size w wx) (h : w.cell? a = some v) : wx.cell? a = some v := (hb.cell (World.block_lt_of_cell? _ _ h)).trans h
theorem boxes_under {w w' : World} {t : Tm} {s : Value} (h : Boxes w t s w') : Below w.heap.size w w' := held_below (boxes_held h)
abbrev zeroObj : Obj := .cells #[.int .i64 0, .int .i64 0, .int .i64 0, .int .i64 0, .slice none 0 0] 31
def Desk (w : World) (t u : Tm) (s v : Value) (w' : World) : Prop := Below (w.heap.size + 3) (((w.alloc (boxOf t s)).alloc zeroObj).alloc (boxOf u v)) w'
theorem heap_three (w : World) (a b c : Obj) : (((w.alloc a).alloc b).alloc c).heap[w.heap.size]? = some a ∧ (((w.alloc a).alloc b).alloc c).heap[w.heap.size + 1]? = some b ∧ (((w.alloc a).alloc b).alloc c).heap[w.heap.size + 2]? = some c ∧ ∀ k, k < w.heap.size → (((w.alloc a).alloc b).alloc c).heap[k]? = w.heap[k]? := by
  refine ⟨?_, ?_, ?_, fun k hk => ?_⟩
  · rw [Below.heap_alloc _ _ _ (by simp; omega), Below.heap_alloc _ _ _ (by simp), alloc_new]
  · rw [Below.heap_alloc _ _ _ (by simp)]
    have := alloc_new (w.alloc a) b
    simpa using this
  · have := alloc_new ((w.alloc a).alloc b) c
    simpa using this
  · rw [Below.heap_alloc _ _ _ (by simp; omega), Below.heap_alloc _ _ _ (by simp; omega), Below.heap_alloc _ _ _ hk]
theorem desk_blocks {w w' : World} {t u : Tm} {s v : Value} (h : Desk w t u s v w') : w'.heap[w.heap.size]? = some (boxOf t s) ∧ w'.heap[w.heap.size + 1]? = some zeroObj ∧ w'.heap[w.heap.size + 2]? = some (boxOf u v) := by
  obtain ⟨h0, h1, h2, -⟩ := heap_three w (boxOf t s) zeroObj (boxOf u v)
  exact ⟨by rw [Below.block h _ (by omega)]; exact h0, by rw [Below.block h _ (by omega)]; exact h1, by rw [Below.block h _ (by omega)]; exact h2⟩
theorem five_cells {w : World} {g : Nat} {v0 v1 v2 v3 v4 : Value} {T : TypeId} (h : w.heap[g]? = some (.cells #[v0, v1, v2, v3, v4] T (0, 0))) :
    w.cell? ⟨g, 0, none⟩ = some v0 ∧ w.cell? ⟨g, 1, none⟩ = some v1 ∧ w.cell? ⟨g, 2, none⟩ = some v2 ∧ w.cell? ⟨g, 3, none⟩ = some v3 ∧ w.cell? ⟨g, 4, none⟩ = some v4 := by
  refine ⟨?_, ?_, ?_, ?_, ?_⟩ <;> (rw [cell_of_row w g _ _ _ _ h]; rfl)
theorem five_free {w : World} {g : Nat} {cs : Array Value} {T : TypeId} (h : w.heap[g]? = some (.cells cs T (0, 0))) :
    w.frozen? ⟨g, 0, none⟩ = false ∧ w.frozen? ⟨g, 1, none⟩ = false ∧ w.frozen? ⟨g, 2, none⟩ = false ∧ w.frozen? ⟨g, 3, none⟩ = false ∧ w.frozen? ⟨g, 4, none⟩ = false :=
  ⟨open_unfrozen h _, open_unfrozen h _, open_unfrozen h _, open_unfrozen h _, open_unfrozen h _⟩
theorem desk_start (w : World) (t u : Tm) (s v : Value) : Desk w t u s v (((w.alloc (.cells #[.int .i64 t.k, .int .i64 t.i, .int .i64 t.j, .int .i64 t.n, s] 31)).alloc (.cells #[.int .i64 0, .int .i64 0, .int .i64 0, .int .i64 0, .slice none 0 0] 31)).alloc (.cells #[.int .i64 u.k, .int .i64 u.i, .int .i64 u.j, .int .i64 u.n, v] 31)) := Below.refl _ _
theorem desk_under {w w' : World} {t u : Tm} {s v : Value} (h : Desk w t u s v w') : Below w.heap.size w w' :=
  ((((Below.refl _ _).alloc (Nat.le_refl _) _).alloc (by simp) _).alloc (by simp; omega) _).trans (h.mono (by omega))
theorem desk_size {w w' : World} {t u : Tm} {s v : Value} (h : Desk w t u s v w') : w.heap.size + 3 ≤ w'.heap.size := by have := Below.size h; simpa using this
theorem desk_later {w w1 w2 : World} {t u : Tm} {s v : Value} (h : Desk w t u s v w1) (hb : Below w1.heap.size w1 w2) : Desk w t u s v w2 := below_call h hb (by have := desk_size h; omega)
theorem desk_trans {w w1 w2 : World} {t u : Tm} {s v : Value} (h : Desk w t u s v w1) (hb : Below (w.heap.size + 3) w1 w2) : Desk w t u s v w2 := Below.trans h hb
theorem desk_set {w w1 : World} {t u : Tm} {s v v' : Value} (h : Desk w t u s v w1) : Desk w t u s v' (w1.setCell ⟨w.heap.size + 2, 4, none⟩ v') := by
  obtain ⟨h0, h1, h2, h3⟩ := heap_three w (boxOf t s) zeroObj (boxOf u v')
  obtain ⟨g0, g1, g2⟩ := desk_blocks h
  refine ⟨(Below.os h).trans rfl, (Below.tape h).trans rfl, (Below.output h).trans rfl, by have := desk_size h; simp [World.setCell]; omega, fun k hk => ?_⟩
  by_cases e2 : k = w.heap.size + 2
  · subst e2
    rw [h2, heap_setCell_same _ _ _ _ _ _ g2]; rfl
  · rw [Below.heap_setCell _ _ _ _ (by exact e2)]
    by_cases e1 : k = w.heap.size + 1
    · subst e1; rw [h1, g1]
    · by_cases e0 : k = w.heap.size
      · subst e0; rw [h0, g0]
      · rw [h3 k (by omega), (desk_under h).block k (by omega)]
theorem desk_put {w w1 : World} {t u : Tm} {s v : Value} (h : Desk w t u s v w1) {g : Nat} (hg : w.heap.size + 3 ≤ g) (o : Nat) (x : Tm) (sx : Value) : Desk w t u s v (put5 w1 g o x sx) :=
  Below.trans h ⟨(put5_rest _ _ _ _ _).1, (put5_rest _ _ _ _ _).2.1, (put5_rest _ _ _ _ _).2.2, by rw [put5_size]; exact Nat.le_refl _, fun k hk => put5_other _ _ _ _ _ (by omega)⟩
theorem cells5_zeros : ∀ n : Nat, (cells5 (List.replicate n (Tm.zero, Value.slice none 0 0))) = (madeCells #[.int .i64 0, .int .i64 0, .int .i64 0, .int .i64 0, .slice none 0 0] (n * 5)).toList := by
  intro n
  apply List.ext_getElem?
  intro j
  by_cases hj : j < n * 5
  · have h5 : j % 5 < 5 := Nat.mod_lt _ (by omega)
    have hd : j / 5 < n := by omega
    have e : j = j / 5 * 5 + j % 5 := by omega
    have h1 := cells5_get (List.replicate n (Tm.zero, Value.slice none 0 0)) (j / 5) (by simpa using hd) (j % 5) h5
    rw [← e] at h1
    rw [h1]
    simp only [List.getElem_replicate]
    have hz : (madeCells #[Value.int .i64 0, .int .i64 0, .int .i64 0, .int .i64 0, .slice none 0 0] (n * 5)).toList[j]? = some (#[Value.int .i64 0, .int .i64 0, .int .i64 0, .int .i64 0, .slice none 0 0][j % 5]!) := by simp [madeCells, hj]
    rw [hz]
    generalize j % 5 = q at h5
    match q, h5 with
    | 0, _ => rfl
    | 1, _ => rfl
    | 2, _ => rfl
    | 3, _ => rfl
    | 4, _ => rfl
  · rw [List.getElem?_eq_none (by rw [cells5_length]; simp; omega), List.getElem?_eq_none (by simp [madeCells]; omega)]
theorem zero_fine : Tm.zero.fine := by simp [Tm.zero, Tm.fine, I64, Tm.k, Tm.i, Tm.j, Tm.n]
theorem full_made {B : Nat} {w : World} {g n : Nat} (h : w.ownsRow B 31 5 (.slice (some ⟨g, 0, none⟩) n n) n (madeCells #[.int .i64 0, .int .i64 0, .int .i64 0, .int .i64 0, .slice none 0 0] (n * 5)).toList) :
    Full B w g (List.replicate n (Tm.zero, .slice none 0 0)) := by
  rw [← cells5_zeros] at h
  have hb : B ≤ g ∧ ∃ cs, w.heap[g]? = some (.cells cs 31 (0, 0)) := by
    obtain ⟨-, ⟨h1, -⟩ | ⟨g', cap, cur, h1, h2, h3, -⟩⟩ := h
    · cases h1
    · obtain rfl : g = g' := by simp only [Value.slice.injEq, Option.some.injEq, Addr.mk.injEq] at h1; exact h1.1.1
      exact ⟨h2, cur, h3⟩
  refine ⟨hb.1, hb.2, fun i hi => ?_, fun p hp => ?_, fun p hp => ?_⟩
  · have cellq : ∀ q, q < 5 → w.cell? ⟨g, i * 5 + q, none⟩ = [Value.int .i64 ((List.replicate n (Tm.zero, Value.slice none 0 0))[i]).1.k, .int .i64 ((List.replicate n (Tm.zero, Value.slice none 0 0))[i]).1.i, .int .i64 ((List.replicate n (Tm.zero, Value.slice none 0 0))[i]).1.j, .int .i64 ((List.replicate n (Tm.zero, Value.slice none 0 0))[i]).1.n, ((List.replicate n (Tm.zero, Value.slice none 0 0))[i]).2][q]? := fun q hq => by
      rw [h.cellAt (i * 5 + q) (by simp at hi; omega)]; exact cells5_get _ i hi q hq
    exact ⟨cellq 0 (by omega), cellq 1 (by omega), cellq 2 (by omega), cellq 3 (by omega), cellq 4 (by omega)⟩
  · rw [(List.mem_replicate.1 hp).2]; exact zero_fine
  · rw [(List.mem_replicate.1 hp).2]; exact liesP_nil _ _
theorem Full.below {B g b o : Nat} {w : World} {xs : List (Tm × Value)} (h : Full B w g xs) (hb : b < B) (v : Value) : Full B (w.setCell ⟨b, o, none⟩ v) g xs := by
  have hg := h.above
  have hk : ∀ b', B ≤ b' → (w.setCell ⟨b, o, none⟩ v).heap[b']? = w.heap[b']? := fun b' hb' => Below.heap_setCell _ _ _ _ (by show b' ≠ b; omega)
  exact ⟨hg, by rw [hk g hg]; exact h.open', fun i hi => (h.node i hi).same (hk g hg), h.fine, fun p hp => (h.kids p hp).keep (fun b' hb' _ => hk b' hb'.1.1) (fun b' hb' _ => ⟨hb'.1.same (hk b' hb'.1.1), hb'.2⟩)⟩
theorem held_and {w w' : World} {t : Tm} {s v : Value} {p : Addr} (h : Held w t s w') (hp : w.cell? p = some v) : Held w t s w' ∧ w'.cell? p = some v ∧ w'.cell? ⟨w.heap.size, 0, none⟩ = some (.int .i64 t.k) ∧ w'.cell? ⟨w.heap.size, 1, none⟩ = some (.int .i64 t.i) ∧ w'.cell? ⟨w.heap.size, 2, none⟩ = some (.int .i64 t.j) ∧ w'.cell? ⟨w.heap.size, 3, none⟩ = some (.int .i64 t.n) ∧ w'.cell? ⟨w.heap.size, 4, none⟩ = some s :=
  ⟨h, cell_lat (held_below h) hp, held_cells h⟩
theorem held_alloc {w w1 : World} {t : Tm} {s : Value} (h : Held w t s w1) (o : Obj) : Held w t s (w1.alloc o) := Below.alloc h (by have := Below.size h; simpa using this) o
theorem zero_blocks_new {wr wn : World} {A : Obj} (h : Below ((wr.alloc A).alloc zeroObj).drew.heap.size ((wr.alloc A).alloc zeroObj).drew wn) : wn.heap[wr.heap.size + 1]? = some zeroObj := by
  have hN : ((wr.alloc A).alloc zeroObj).heap[wr.heap.size + 1]? = some zeroObj := heap_alloc2_new wr A zeroObj
  have hb := h.block (wr.heap.size + 1) (by have := (Array.getElem?_eq_some_iff.1 hN).1; exact this)
  exact hb.trans hN
theorem below_from {B : Nat} {w w' : World} (h : Below w.heap.size w w') (hB : B ≤ w.heap.size) : Below B w w' := h.mono hB
theorem held_five {w w1 : World} {t : Tm} {s : Value} (h : Held w t s w1) (v0 v1 v2 v3 v4 : Value) : Held w t s (((((w1.setCell ⟨w.heap.size + 1, 0, none⟩ v0).setCell ⟨w.heap.size + 1, 1, none⟩ v1).setCell ⟨w.heap.size + 1, 2, none⟩ v2).setCell ⟨w.heap.size + 1, 3, none⟩ v3).setCell ⟨w.heap.size + 1, 4, none⟩ v4) :=
  held_set (held_set (held_set (held_set (held_set h (Nat.le_refl _) _) (Nat.le_refl _) _) (Nat.le_refl _) _) (Nat.le_refl _) _) (Nat.le_refl _) _
theorem liesP_five {N : Nat} {w : World} {l : List Tm} {s : Value} (h : LiesP w (Own (N + 2) w) l s) (v0 v1 v2 v3 v4 : Value) :
    LiesP (((((w.setCell ⟨N + 1, 0, none⟩ v0).setCell ⟨N + 1, 1, none⟩ v1).setCell ⟨N + 1, 2, none⟩ v2).setCell ⟨N + 1, 3, none⟩ v3).setCell ⟨N + 1, 4, none⟩ v4) (Own N (((((w.setCell ⟨N + 1, 0, none⟩ v0).setCell ⟨N + 1, 1, none⟩ v1).setCell ⟨N + 1, 2, none⟩ v2).setCell ⟨N + 1, 3, none⟩ v3).setCell ⟨N + 1, 4, none⟩ v4)) l s := by
  have hb : ∀ b, N + 2 ≤ b → (((((w.setCell ⟨N + 1, 0, none⟩ v0).setCell ⟨N + 1, 1, none⟩ v1).setCell ⟨N + 1, 2, none⟩ v2).setCell ⟨N + 1, 3, none⟩ v3).setCell ⟨N + 1, 4, none⟩ v4).heap[b]? = w.heap[b]? := fun b hb => by
    have hne : b ≠ N + 1 := by omega
    repeat rw [Below.heap_setCell _ _ _ _ (by exact hne)]
  exact h.keep (fun b hp _ => hb b hp.1) (fun b hp _ => (hp.from (by omega)).same (hb b hp.1))
theorem take_set_next {α : Type} (l : List α) (q : Nat) (x : α) (h : q < l.length) : (l.set q x).take (q + 1) = l.take q ++ [x] := by
  rw [List.take_succ_eq_append_getElem (by simpa using h), List.getElem_set_self, List.take_set_of_le (Nat.le_refl _)]
theorem five_lies {N n : Nat} {w : World} {l : List Tm} {m : Nat} (h : LiesP w (Own (N + 3) w) l (.slice (some ⟨N + 3, 0, none⟩) m n)) (hm : m = n) (v0 v1 v2 v3 v4 : Value) :
    LiesP (((((w.setCell ⟨N + 1, 0, none⟩ v0).setCell ⟨N + 1, 1, none⟩ v1).setCell ⟨N + 1, 2, none⟩ v2).setCell ⟨N + 1, 3, none⟩ v3).setCell ⟨N + 1, 4, none⟩ v4) (Own N (((((w.setCell ⟨N + 1, 0, none⟩ v0).setCell ⟨N + 1, 1, none⟩ v1).setCell ⟨N + 1, 2, none⟩ v2).setCell ⟨N + 1, 3, none⟩ v3).setCell ⟨N + 1, 4, none⟩ v4)) l (.slice (some ⟨N + 3, 0, none⟩) n n) := by
  subst hm
  exact liesP_five (h.from (by omega)) v0 v1 v2 v3 v4
theorem right_each (f : Int → Int → Option Int) (hf : ∀ v b w, 0 ≤ v → v ≤ 2147483647 → f v b = some w → 0 ≤ w ∧ w ≤ 2147483647) (t : Tm) (b : Int) (u : Tm) (hr : t.rightB = true) (h : t.each f b = some u) : u.rightB = true := by
  obtain ⟨h1, h2, -⟩ := each_keeps f hf t b u hr h
  unfold Tm.rightB at hr ⊢; rw [h1, h2]; exact hr
def GivesNone (w : World) (e : Ending) (w' : World) : Prop := (∃ z : Tm, e = .returned (.tuple #[tv z (.slice none 0 0), .bool false])) ∧ Below w.heap.size w w'
def GivesSome (u : Tm) (w : World) (e : Ending) (w' : World) : Prop := (∃ s', e = .returned (.tuple #[tv u s', .bool true]) ∧ LiesP w' (Own w.heap.size w') u.kids s') ∧ Below w.heap.size w w'
theorem Gives.none {w w' : World} {e : Ending} (h : Gives none w e w') : GivesNone w e w' := by
  obtain ⟨hb, ⟨u, s', h1, -⟩ | ⟨z, -, -, h2⟩⟩ := h
  · cases h1
  · exact ⟨⟨z, h2⟩, hb⟩
theorem Gives.some {u : Tm} {w w' : World} {e : Ending} (h : Gives (some u) w e w') : GivesSome u w e w' := by
  obtain ⟨hb, ⟨u', s', h1, h2, h3⟩ | ⟨z, h1, -⟩⟩ := h
  · cases h1; exact ⟨⟨s', h2, h3⟩, hb⟩
  · cases h1
end Go.Proofs.Ytokgpaajelgakaa
namespace Go.Proofs.Ytokgpaajelgakaa
open Go.RowKit
abbrev five (w : World) (g : Nat) (v0 v1 v2 v3 v4 : Value) : World := ((((w.setCell ⟨g, 0, none⟩ v0).setCell ⟨g, 1, none⟩ v1).setCell ⟨g, 2, none⟩ v2).setCell ⟨g, 3, none⟩ v3).setCell ⟨g, 4, none⟩ v4
theorem five_size (w : World) (g : Nat) (v0 v1 v2 v3 v4 : Value) : (five w g v0 v1 v2 v3 v4).heap.size = w.heap.size := by simp [five, World.setCell]
theorem five_other (w : World) (g : Nat) (v0 v1 v2 v3 v4 : Value) {b : Nat} (h : b ≠ g) : (five w g v0 v1 v2 v3 v4).heap[b]? = w.heap[b]? := by
  unfold five; repeat rw [Below.heap_setCell _ _ _ _ (by exact h)]
theorem five_alloc {w : World} {g : Nat} {T : TypeId} {z0 z1 z2 z3 z4 : Value} (h : w.heap[g]? = some (.cells #[z0, z1, z2, z3, z4] T (0, 0))) (v0 v1 v2 v3 v4 : Value) (X : Obj) : ((five w g v0 v1 v2 v3 v4).alloc X).heap[g]? = some (.cells #[v0, v1, v2, v3, v4] T (0, 0)) := by
  rw [Below.heap_alloc _ _ _ (by rw [five_size]; exact (Array.getElem?_eq_some_iff.1 h).1)]
  exact five_set h
theorem below_five {B : Nat} {w w1 : World} (h : Below B w w1) {g : Nat} (hg : B ≤ g) (v0 v1 v2 v3 v4 : Value) : Below B w (five w1 g v0 v1 v2 v3 v4) :=
  ((((h.setCell hg _).setCell hg _).setCell hg _).setCell hg _).setCell hg _
theorem below_five_alloc {B : Nat} {w w1 : World} (h : Below B w w1) (hB : B ≤ w1.heap.size) {g : Nat} (hg : B ≤ g) (v0 v1 v2 v3 v4 : Value) (X : Obj) : Below B w ((five w1 g v0 v1 v2 v3 v4).alloc X) :=
  (below_five h hg v0 v1 v2 v3 v4).alloc (by rw [five_size]; exact hB) X
theorem liesP_fives {B N g : Nat} {w : World} {l : List Tm} {s : Value} (h : LiesP w (Own B w) l s) (hg : g < B) (hN : N ≤ B) (v0 v1 v2 v3 v4 : Value) : LiesP (five w g v0 v1 v2 v3 v4) (Own N (five w g v0 v1 v2 v3 v4)) l s :=
  h.keep (fun b hp _ => five_other w g v0 v1 v2 v3 v4 (by have := hp.1; omega)) (fun b hp _ => (hp.from hN).same (five_other w g v0 v1 v2 v3 v4 (by have := hp.1; omega)))
theorem liesP_fives_alloc {B N g : Nat} {w : World} {l : List Tm} {s : Value} (h : LiesP w (Own B w) l s) (hg : g < B) (hN : N ≤ B) (v0 v1 v2 v3 v4 : Value) (X : Obj) : LiesP ((five w g v0 v1 v2 v3 v4).alloc X) (Own N ((five w g v0 v1 v2 v3 v4).alloc X)) l s :=
  (liesP_fives h hg hN v0 v1 v2 v3 v4).later ((Below.refl _ _).alloc (Nat.le_refl _) _)
theorem liesP_set {B N g o : Nat} {w : World} {l : List Tm} {s : Value} (h : LiesP w (Own B w) l s) (hg : g < B) (hN : N ≤ B) (v : Value) : LiesP (w.setCell ⟨g, o, none⟩ v) (Own N (w.setCell ⟨g, o, none⟩ v)) l s :=
  h.keep (fun b hp _ => Below.heap_setCell _ _ _ _ (by show b ≠ g; have := hp.1; omega)) (fun b hp _ => (hp.from hN).same (Below.heap_setCell _ _ _ _ (by show b ≠ g; have := hp.1; omega)))
theorem below_three (w : World) (a b c : Obj) : Below w.heap.size w (((w.alloc a).alloc b).alloc c) := (((Below.refl _ _).alloc (Nat.le_refl _) _).alloc (by simp) _).alloc (by simp <;> omega) _
theorem push_once {w wr w2 w3 : World} {t t' : Tm} {s v vl : Value} {ps : List (Tm × Value)} {u : Tm} {s2 : Value} {g cap : Nat} (hd : Desk w t t' s vl wr) (h : Made (w.heap.size + 3) wr v ps) (hf : u.fine) (hb2 : Below wr.heap.size wr w2) (hk : LiesP w2 (Own wr.heap.size w2) u.kids s2) (o : Obj)
    (hown : w3.ownsRow (w.heap.size + 3) 31 5 (.slice (some ⟨g, 0, none⟩) (ps.length + 1) cap) (ps.length + 1) (cells5 ps ++ cells5 [(u, s2)])) (hgrow : (w2.alloc o).grownBy w3 v.ownBlock) (hat : v.ownBlock = some g ∨ g = (w2.alloc o).heap.size) :
    Made (w.heap.size + 3) w3 (.slice (some ⟨g, 0, none⟩) (ps.length + 1) cap) (ps ++ [(u, s2)]) ∧ Desk w t t' s vl w3 :=
  ⟨made_push h hf (desk_size hd) hb2 hk o hown hgrow (by simpa using hat), desk_trans hd (below_push h (Below.refl _ _) (desk_size hd) hb2 o hgrow)⟩
theorem one5 (t : Tm) (s : Value) (hs : s.oneCell' = true := by rfl) : ∀ v ∈ cells5 [(t, s)], v.oneCell' = true := by
  intro v hv; simp [cells5] at hv; rcases hv with rfl | rfl | rfl | rfl | rfl
  · rfl
  · rfl
  · rfl
  · rfl
  · exact hs
theorem above3 (N : Nat) : N ≤ N + 3 := by omega
end Go.Proofs.Ytokgpaajelgakaa
namespace Go.Proofs.Ytokgpaajelgakaa
open Go.RowKit
def Kept (w w' : World) : Prop := Below w.heap.size w w'
theorem kept_start (w : World) : Kept w w := Below.refl _ _
theorem kept_drew {w w1 : World} (h : Kept w w1) : Kept w w1.drew := Below.drew h
theorem kept_call {w w1 w2 : World} (h : Kept w w1) (hb : Below w1.heap.size w1 w2) : Kept w w2 := below_call h hb (Below.size h)
theorem kept_alloc {w w1 : World} (h : Kept w w1) (o : Obj) : Kept w (w1.alloc o) := Below.alloc h (Below.size h) o
theorem kept_lies {w w1 : World} (h : Kept w w1) {l : List Tm} {s : Value} (hl : Lies w l s) : Lies w1 l s := hl.keep h
theorem kept_below {w w1 : World} (h : Kept w w1) : Below w.heap.size w w1 := h
theorem keep_block {B n : Nat} {w w' : World} {o : Obj} (hb : Below B w w') (hn : n < B) (h : w.heap[n]? = some o) : w'.heap[n]? = some o := by rw [hb.block n hn]; exact h
theorem block_lt {w : World} {n : Nat} {o : Obj} (h : w.heap[n]? = some o) : n < w.heap.size := (Array.getElem?_eq_some_iff.1 h).1
theorem kept_boxes1 {w w' : World} {b0 : Nat} {v00 v01 v02 v03 v04 : Value} (h : Kept w w') (H : w.cell? ⟨b0, 0, none⟩ = some v00 ∧ w.cell? ⟨b0, 1, none⟩ = some v01 ∧ w.cell? ⟨b0, 2, none⟩ = some v02 ∧ w.cell? ⟨b0, 3, none⟩ = some v03 ∧ w.cell? ⟨b0, 4, none⟩ = some v04) : Kept w w' ∧ w'.cell? ⟨b0, 0, none⟩ = some v00 ∧ w'.cell? ⟨b0, 1, none⟩ = some v01 ∧ w'.cell? ⟨b0, 2, none⟩ = some v02 ∧ w'.cell? ⟨b0, 3, none⟩ = some v03 ∧ w'.cell? ⟨b0, 4, none⟩ = some v04 := by
  obtain ⟨c00, c01, c02, c03, c04⟩ := H
  exact ⟨h, cell_lat h c00, cell_lat h c01, cell_lat h c02, cell_lat h c03, cell_lat h c04⟩
end Go.Proofs.Ytokgpaajelgakaa
namespace Go.Proofs.Ytokgpaajelgakaa
open Go
theorem take_at {P : Program} {ops : Array Oper} {Q : Exit → Act → World → Prop} {md : Region.Mode} {S : World → Prop} (i d : Nat) (oi : Oper) {v : Value} {fuel : Nat} {listed : Array Bool} {a : Act} {w : World} (hy : YieldsIf P ops S oi v a)
    (h : wpAnyH P md ops Q S fuel (listed.setIfInBounds i true) (a.put (some d) v) w)
    (hi : ops[i]? = some oi := by rfl) (hd : oi.dst = some d := by rfl)
    (hs : Region.noSelect ops = true := by kernel_rfl) (hf : Region.free md ops listed i = true := by kernel_rfl) (hr : (Region.ready md ops listed).contains i = true := by kernel_rfl)
    (hQ : ∀ c a w, Q (.panic c) (a.put (some d) v) w → Q (.panic c) a w := by exact fun _ _ _ h => h) (hS : S w := by assumption) : wpAnyH P md ops Q S (fuel + 1) listed a w := by
  rw [← hd] at hQ h
  exact wpAnyH_take hi hs hf hr hQ hy hS h
end Go.Proofs.Ytokgpaajelgakaa
namespace Go.Proofs.Ytokgpaajelgakaa
open Go.RowKit
structure Jd where
  eq : Bool
  u : Tm
  v : Tm
  a : Tm
  i : Int
def Jd.fine (j : Jd) : Prop := j.u.fine ∧ j.v.fine ∧ j.a.fine ∧ I64 j.i
abbrev jv (j : Jd) (su sv sa : Value) : Value := .agg #[.bool j.eq, .int .i64 j.u.k, .int .i64 j.u.i, .int .i64 j.u.j, .int .i64 j.u.n, su, .int .i64 j.v.k, .int .i64 j.v.i, .int .i64 j.v.j, .int .i64 j.v.n, sv, .int .i64 j.a.k, .int .i64 j.a.i, .int .i64 j.a.j, .int .i64 j.a.n, sa, .int .i64 j.i]
def JLies (w : World) (j : Jd) (su sv sa : Value) : Prop := Lies w j.u.kids su ∧ Lies w j.v.kids sv ∧ Lies w j.a.kids sa
theorem JLies.keep {w w' : World} {j : Jd} {su sv sa : Value} (h : JLies w j su sv sa) (hb : Below w.heap.size w w') : JLies w' j su sv sa := ⟨h.1.keep hb, h.2.1.keep hb, h.2.2.keep hb⟩
def JBox (w : World) (b : Nat) (j : Jd) (su sv sa : Value) : Prop := w.cell? ⟨b, 0, none⟩ = some (.bool j.eq) ∧ w.cell? ⟨b, 1, none⟩ = some (.int .i64 j.u.k) ∧ w.cell? ⟨b, 2, none⟩ = some (.int .i64 j.u.i) ∧ w.cell? ⟨b, 3, none⟩ = some (.int .i64 j.u.j) ∧ w.cell? ⟨b, 4, none⟩ = some (.int .i64 j.u.n) ∧ w.cell? ⟨b, 5, none⟩ = some (su) ∧ w.cell? ⟨b, 6, none⟩ = some (.int .i64 j.v.k) ∧ w.cell? ⟨b, 7, none⟩ = some (.int .i64 j.v.i) ∧ w.cell? ⟨b, 8, none⟩ = some (.int .i64 j.v.j) ∧ w.cell? ⟨b, 9, none⟩ = some (.int .i64 j.v.n) ∧ w.cell? ⟨b, 10, none⟩ = some (sv) ∧ w.cell? ⟨b, 11, none⟩ = some (.int .i64 j.a.k) ∧ w.cell? ⟨b, 12, none⟩ = some (.int .i64 j.a.i) ∧ w.cell? ⟨b, 13, none⟩ = some (.int .i64 j.a.j) ∧ w.cell? ⟨b, 14, none⟩ = some (.int .i64 j.a.n) ∧ w.cell? ⟨b, 15, none⟩ = some (sa) ∧ w.cell? ⟨b, 16, none⟩ = some (.int .i64 j.i)
def JNode (w : World) (b o : Nat) (j : Jd) (su sv sa : Value) : Prop := w.cell? ⟨b, o, none⟩ = some (.bool j.eq) ∧ w.cell? ⟨b, o + 1, none⟩ = some (.int .i64 j.u.k) ∧ w.cell? ⟨b, o + 2, none⟩ = some (.int .i64 j.u.i) ∧ w.cell? ⟨b, o + 3, none⟩ = some (.int .i64 j.u.j) ∧ w.cell? ⟨b, o + 4, none⟩ = some (.int .i64 j.u.n) ∧ w.cell? ⟨b, o + 5, none⟩ = some (su) ∧ w.cell? ⟨b, o + 6, none⟩ = some (.int .i64 j.v.k) ∧ w.cell? ⟨b, o + 7, none⟩ = some (.int .i64 j.v.i) ∧ w.cell? ⟨b, o + 8, none⟩ = some (.int .i64 j.v.j) ∧ w.cell? ⟨b, o + 9, none⟩ = some (.int .i64 j.v.n) ∧ w.cell? ⟨b, o + 10, none⟩ = some (sv) ∧ w.cell? ⟨b, o + 11, none⟩ = some (.int .i64 j.a.k) ∧ w.cell? ⟨b, o + 12, none⟩ = some (.int .i64 j.a.i) ∧ w.cell? ⟨b, o + 13, none⟩ = some (.int .i64 j.a.j) ∧ w.cell? ⟨b, o + 14, none⟩ = some (.int .i64 j.a.n) ∧ w.cell? ⟨b, o + 15, none⟩ = some (sa) ∧ w.cell? ⟨b, o + 16, none⟩ = some (.int .i64 j.i)
theorem jbox_new (w : World) (j : Jd) (su sv sa : Value) : JBox (w.alloc (.cells #[.bool j.eq, .int .i64 j.u.k, .int .i64 j.u.i, .int .i64 j.u.j, .int .i64 j.u.n, su, .int .i64 j.v.k, .int .i64 j.v.i, .int .i64 j.v.j, .int .i64 j.v.n, sv, .int .i64 j.a.k, .int .i64 j.a.i, .int .i64 j.a.j, .int .i64 j.a.n, sa, .int .i64 j.i] 33)) w.heap.size j su sv sa := by
  have key : ∀ o, (w.alloc (.cells #[.bool j.eq, .int .i64 j.u.k, .int .i64 j.u.i, .int .i64 j.u.j, .int .i64 j.u.n, su, .int .i64 j.v.k, .int .i64 j.v.i, .int .i64 j.v.j, .int .i64 j.v.n, sv, .int .i64 j.a.k, .int .i64 j.a.i, .int .i64 j.a.j, .int .i64 j.a.n, sa, .int .i64 j.i] 33)).cell? ⟨w.heap.size, o, none⟩ = (#[.bool j.eq, .int .i64 j.u.k, .int .i64 j.u.i, .int .i64 j.u.j, .int .i64 j.u.n, su, .int .i64 j.v.k, .int .i64 j.v.i, .int .i64 j.v.j, .int .i64 j.v.n, sv, .int .i64 j.a.k, .int .i64 j.a.i, .int .i64 j.a.j, .int .i64 j.a.n, sa, .int .i64 j.i] : Array Value)[o]? := fun o => by rw [World.cell?_alloc_at _ _ _ _ rfl]
  exact ⟨by rw [key]; rfl, by rw [key]; rfl, by rw [key]; rfl, by rw [key]; rfl, by rw [key]; rfl, by rw [key]; rfl, by rw [key]; rfl, by rw [key]; rfl, by rw [key]; rfl, by rw [key]; rfl, by rw [key]; rfl, by rw [key]; rfl, by rw [key]; rfl, by rw [key]; rfl, by rw [key]; rfl, by rw [key]; rfl, by rw [key]; rfl⟩
theorem JBox.keep {w w' : World} {b : Nat} {j : Jd} {su sv sa : Value} (h : JBox w b j su sv sa) (hb : Below w.heap.size w w') : JBox w' b j su sv sa := by
  obtain ⟨x0, x1, x2, x3, x4, x5, x6, x7, x8, x9, x10, x11, x12, x13, x14, x15, x16⟩ := h
  exact ⟨cell_lat hb x0, cell_lat hb x1, cell_lat hb x2, cell_lat hb x3, cell_lat hb x4, cell_lat hb x5, cell_lat hb x6, cell_lat hb x7, cell_lat hb x8, cell_lat hb x9, cell_lat hb x10, cell_lat hb x11, cell_lat hb x12, cell_lat hb x13, cell_lat hb x14, cell_lat hb x15, cell_lat hb x16⟩
theorem JNode.lt {w : World} {b o : Nat} {j : Jd} {su sv sa : Value} (h : JNode w b o j su sv sa) : b < w.heap.size := World.block_lt_of_cell? _ _ h.1
theorem JNode.same {w w' : World} {b o : Nat} {j : Jd} {su sv sa : Value} (h : JNode w b o j su sv sa) (hb : w'.heap[b]? = w.heap[b]?) : JNode w' b o j su sv sa := by
  have hc : ∀ q, w'.cell? ⟨b, q, none⟩ = w.cell? ⟨b, q, none⟩ := fun q => World.cell?_of_block (a := ⟨b, q, none⟩) hb
  obtain ⟨x0, x1, x2, x3, x4, x5, x6, x7, x8, x9, x10, x11, x12, x13, x14, x15, x16⟩ := h
  exact ⟨(hc _).trans x0, (hc _).trans x1, (hc _).trans x2, (hc _).trans x3, (hc _).trans x4, (hc _).trans x5, (hc _).trans x6, (hc _).trans x7, (hc _).trans x8, (hc _).trans x9, (hc _).trans x10, (hc _).trans x11, (hc _).trans x12, (hc _).trans x13, (hc _).trans x14, (hc _).trans x15, (hc _).trans x16⟩
def judgB (x y : Jd) : Bool := (x.eq == y.eq) && ((x.i == y.i) && (sameB x.u y.u && (sameB x.v y.v && sameB x.a y.a)))
theorem judgB_self (x : Jd) : judgB x x = true := by unfold judgB; simp [sameB_self]
set_option maxRecDepth 20000 in
set_option maxHeartbeats 4000000 in
theorem keepjudg_any (x y : Jd) (w : World) (sxu sxv sxa syu syv sya : Value) (hx : JLies w x sxu sxv sxa) (hy : JLies w y syu syv sya) : Calls Try.prog 12 #[jv x sxu sxv sxa, jv y syu syv sya] w fun e w' => e = .returned (.bool (judgB x y)) ∧ Below w.heap.size w w' := by
  obtain ⟨axu, cxu, Sxu, rfl, -⟩ := hx.1.out
  obtain ⟨axv, cxv, Sxv, rfl, -⟩ := hx.2.1.out
  obtain ⟨axa, cxa, Sxa, rfl, -⟩ := hx.2.2.out
  obtain ⟨ayu, cyu, Syu, rfl, -⟩ := hy.1.out
  obtain ⟨ayv, cyv, Syv, rfl, -⟩ := hy.2.1.out
  obtain ⟨aya, cya, Sya, rfl, -⟩ := hy.2.2.out
  have hb0 : Below w.heap.size w ((w.alloc (.cells #[.bool x.eq, .int .i64 x.u.k, .int .i64 x.u.i, .int .i64 x.u.j, .int .i64 x.u.n, (.slice axu x.u.kids.length cxu), .int .i64 x.v.k, .int .i64 x.v.i, .int .i64 x.v.j, .int .i64 x.v.n, (.slice axv x.v.kids.length cxv), .int .i64 x.a.k, .int .i64 x.a.i, .int .i64 x.a.j, .int .i64 x.a.n, (.slice axa x.a.kids.length cxa), .int .i64 x.i] 33)).alloc (.cells #[.bool y.eq, .int .i64 y.u.k, .int .i64 y.u.i, .int .i64 y.u.j, .int .i64 y.u.n, (.slice ayu y.u.kids.length cyu), .int .i64 y.v.k, .int .i64 y.v.i, .int .i64 y.v.j, .int .i64 y.v.n, (.slice ayv y.v.kids.length cyv), .int .i64 y.a.k, .int .i64 y.a.i, .int .i64 y.a.j, .int .i64 y.a.n, (.slice aya y.a.kids.length cya), .int .i64 y.i] 33)) := ((Below.refl _ _).alloc (Nat.le_refl _) _).alloc (by simp) _
  have hb1 : Below (w.alloc (.cells #[.bool x.eq, .int .i64 x.u.k, .int .i64 x.u.i, .int .i64 x.u.j, .int .i64 x.u.n, (.slice axu x.u.kids.length cxu), .int .i64 x.v.k, .int .i64 x.v.i, .int .i64 x.v.j, .int .i64 x.v.n, (.slice axv x.v.kids.length cxv), .int .i64 x.a.k, .int .i64 x.a.i, .int .i64 x.a.j, .int .i64 x.a.n, (.slice axa x.a.kids.length cxa), .int .i64 x.i] 33)).heap.size (w.alloc (.cells #[.bool x.eq, .int .i64 x.u.k, .int .i64 x.u.i, .int .i64 x.u.j, .int .i64 x.u.n, (.slice axu x.u.kids.length cxu), .int .i64 x.v.k, .int .i64 x.v.i, .int .i64 x.v.j, .int .i64 x.v.n, (.slice axv x.v.kids.length cxv), .int .i64 x.a.k, .int .i64 x.a.i, .int .i64 x.a.j, .int .i64 x.a.n, (.slice axa x.a.kids.length cxa), .int .i64 x.i] 33)) ((w.alloc (.cells #[.bool x.eq, .int .i64 x.u.k, .int .i64 x.u.i, .int .i64 x.u.j, .int .i64 x.u.n, (.slice axu x.u.kids.length cxu), .int .i64 x.v.k, .int .i64 x.v.i, .int .i64 x.v.j, .int .i64 x.v.n, (.slice axv x.v.kids.length cxv), .int .i64 x.a.k, .int .i64 x.a.i, .int .i64 x.a.j, .int .i64 x.a.n, (.slice axa x.a.kids.length cxa), .int .i64 x.i] 33)).alloc (.cells #[.bool y.eq, .int .i64 y.u.k, .int .i64 y.u.i, .int .i64 y.u.j, .int .i64 y.u.n, (.slice ayu y.u.kids.length cyu), .int .i64 y.v.k, .int .i64 y.v.i, .int .i64 y.v.j, .int .i64 y.v.n, (.slice ayv y.v.kids.length cyv), .int .i64 y.a.k, .int .i64 y.a.i, .int .i64 y.a.j, .int .i64 y.a.n, (.slice aya y.a.kids.length cya), .int .i64 y.i] 33)) := (Below.refl _ _).alloc (Nat.le_refl _) _
  have hbx := (jbox_new w x (.slice axu x.u.kids.length cxu) (.slice axv x.v.kids.length cxv) (.slice axa x.a.kids.length cxa)).keep hb1
  have hby := jbox_new (w.alloc (.cells #[.bool x.eq, .int .i64 x.u.k, .int .i64 x.u.i, .int .i64 x.u.j, .int .i64 x.u.n, (.slice axu x.u.kids.length cxu), .int .i64 x.v.k, .int .i64 x.v.i, .int .i64 x.v.j, .int .i64 x.v.n, (.slice axv x.v.kids.length cxv), .int .i64 x.a.k, .int .i64 x.a.i, .int .i64 x.a.j, .int .i64 x.a.n, (.slice axa x.a.kids.length cxa), .int .i64 x.i] 33)) y (.slice ayu y.u.kids.length cyu) (.slice ayv y.v.kids.length cyv) (.slice aya y.a.kids.length cya)
  rw [show (w.alloc (.cells #[.bool x.eq, .int .i64 x.u.k, .int .i64 x.u.i, .int .i64 x.u.j, .int .i64 x.u.n, (.slice axu x.u.kids.length cxu), .int .i64 x.v.k, .int .i64 x.v.i, .int .i64 x.v.j, .int .i64 x.v.n, (.slice axv x.v.kids.length cxv), .int .i64 x.a.k, .int .i64 x.a.i, .int .i64 x.a.j, .int .i64 x.a.n, (.slice axa x.a.kids.length cxa), .int .i64 x.i] 33)).heap.size = w.heap.size + 1 by simp] at hby
  have hlx := hx.keep hb0
  have hly := hy.keep hb0
  unfold jv
  have HB0 := Lib.hid hb0
  have HBX := Lib.hid hbx
  have HBY := Lib.hid hby
  have HLX := Lib.hid hlx
  have HLY := Lib.hid hly
  clear hb0 hb1 hbx hby hlx hly hx hy
  cases ee : (x.eq == y.eq) with
  | false =>
    have HJ : Hid (judgB x y = false) := by unfold judgB; rw [ee]; rfl
    go_enter Try.func12, Try.ntmps12
    go_wp2
    go_ret
    exact ⟨ret_bool HJ.out.symm, HB0.out⟩
  | true =>
  cases ei : (x.i == y.i) with
  | false =>
    have HJ : Hid (judgB x y = false) := by unfold judgB; rw [ee, ei]; rfl
    go_enter Try.func12, Try.ntmps12
    go_wp2
    go_ret
    exact ⟨ret_bool HJ.out.symm, HB0.out⟩
  | true =>
  have HE := Lib.hid ee
  have HI := Lib.hid ei
  go_enter Try.func12, Try.ntmps12
  go_wp2_with fail
  refine (keepsame_any x.u y.u _ _ _ HLX.out.1 HLY.out.1).mono ?_
  generalize (w.alloc (.cells #[.bool x.eq, .int .i64 x.u.k, .int .i64 x.u.i, .int .i64 x.u.j, .int .i64 x.u.n, (.slice axu x.u.kids.length cxu), .int .i64 x.v.k, .int .i64 x.v.i, .int .i64 x.v.j, .int .i64 x.v.n, (.slice axv x.v.kids.length cxv), .int .i64 x.a.k, .int .i64 x.a.i, .int .i64 x.a.j, .int .i64 x.a.n, (.slice axa x.a.kids.length cxa), .int .i64 x.i] 33)).alloc (.cells #[.bool y.eq, .int .i64 y.u.k, .int .i64 y.u.i, .int .i64 y.u.j, .int .i64 y.u.n, (.slice ayu y.u.kids.length cyu), .int .i64 y.v.k, .int .i64 y.v.i, .int .i64 y.v.j, .int .i64 y.v.n, (.slice ayv y.v.kids.length cyv), .int .i64 y.a.k, .int .i64 y.a.i, .int .i64 y.a.j, .int .i64 y.a.n, (.slice aya y.a.kids.length cya), .int .i64 y.i] 33) = V at HB0 HBX HBY HLX HLY ⊢
  cases su : sameB x.u y.u with
  | false =>
    have HJ : Hid (judgB x y = false) := by unfold judgB; rw [HE.out, HI.out, su]; rfl
    rintro e w1 ⟨rfl, hb1⟩
    go_wp2
    go_ret
    exact ⟨ret_bool HJ.out.symm, HB0.out.trans (Below.mono hb1 HB0.out.size)⟩
  | true =>
  have HU := Lib.hid su
  rintro e w1 ⟨rfl, hb1⟩
  obtain ⟨x0, x1, x2, x3, x4, x5, x6, x7, x8, x9, x10, x11, x12, x13, x14, x15, x16⟩ := HBX.out.keep hb1
  obtain ⟨y0, y1, y2, y3, y4, y5, y6, y7, y8, y9, y10, y11, y12, y13, y14, y15, y16⟩ := HBY.out.keep hb1
  have HLX1 := Lib.hid (HLX.out.keep hb1)
  have HLY1 := Lib.hid (HLY.out.keep hb1)
  have HB1 := Lib.hid (HB0.out.trans (Below.mono hb1 HB0.out.size))
  have HK1 := Lib.hid hb1
  clear hb1 su ee ei
  go_wp2_with fail
  refine (keepsame_any x.v y.v _ _ _ HLX1.out.2.1 HLY1.out.2.1).mono ?_
  clear x0 x1 x2 x3 x4 x5 x6 x7 x8 x9 x10 x11 x12 x13 x14 x15 x16 y0 y1 y2 y3 y4 y5 y6 y7 y8 y9 y10 y11 y12 y13 y14 y15 y16
  cases sv : sameB x.v y.v with
  | false =>
    have HJ : Hid (judgB x y = false) := by unfold judgB; rw [HE.out, HI.out, HU.out, sv]; rfl
    rintro e w2 ⟨rfl, hb2⟩
    go_wp2
    go_ret
    exact ⟨ret_bool HJ.out.symm, HB1.out.trans (Below.mono hb2 HB1.out.size)⟩
  | true =>
  have HV := Lib.hid sv
  rintro e w2 ⟨rfl, hb2⟩
  have hb12 := below_call HK1.out hb2 HK1.out.size
  obtain ⟨x0, x1, x2, x3, x4, x5, x6, x7, x8, x9, x10, x11, x12, x13, x14, x15, x16⟩ := HBX.out.keep hb12
  obtain ⟨y0, y1, y2, y3, y4, y5, y6, y7, y8, y9, y10, y11, y12, y13, y14, y15, y16⟩ := HBY.out.keep hb12
  have HLX2 := Lib.hid (HLX1.out.keep hb2)
  have HLY2 := Lib.hid (HLY1.out.keep hb2)
  have HB2 := Lib.hid (HB1.out.trans (Below.mono hb2 HB1.out.size))
  clear hb2 hb12 sv
  go_wp2_with fail
  refine (keepsame_any x.a y.a _ _ _ HLX2.out.2.2 HLY2.out.2.2).mono ?_
  clear x0 x1 x2 x3 x4 x5 x6 x7 x8 x9 x10 x11 x12 x13 x14 x15 x16 y0 y1 y2 y3 y4 y5 y6 y7 y8 y9 y10 y11 y12 y13 y14 y15 y16
  have HJ : Hid (judgB x y = sameB x.a y.a) := by unfold judgB; rw [HE.out, HI.out, HU.out, HV.out]; rfl
  rintro e w3 ⟨rfl, hb3⟩
  go_wp2
  go_ret
  exact ⟨ret_bool HJ.out.symm, HB2.out.trans (Below.mono hb3 HB2.out.size)⟩
end Go.Proofs.Ytokgpaajelgakaa
namespace Go.Proofs.Ytokgpaajelgakaa
open Go.RowKit
instance instJd : Inhabited (Jd × (Value × Value × Value)) := ⟨(⟨false, .mk 0 0 0 0 [], .mk 0 0 0 0 [], .mk 0 0 0 0 [], 0⟩, (.nilIface, .nilIface, .nilIface))⟩
structure LiesJ (w : World) (l : List Jd) (s : Value) : Prop where
  out : ∃ (a : Option Addr) (cap : Nat) (S : Nat → Value × Value × Value), s = .slice a l.length cap ∧ l.length ≤ cap ∧ cap ≤ maxLen ∧ (∀ x ∈ l, x.fine) ∧
    (∀ i (h : i < l.length), ∃ b o, a = some ⟨b, o, none⟩ ∧ JNode w b (o + i * 17) l[i] (S i).1 (S i).2.1 (S i).2.2) ∧ (∀ i (h : i < l.length), JLies w l[i] (S i).1 (S i).2.1 (S i).2.2)
def cells17 : List (Jd × (Value × Value × Value)) → List Value
  | [] => []
  | (j, (su, sv, sa)) :: r => .bool j.eq :: .int .i64 j.u.k :: .int .i64 j.u.i :: .int .i64 j.u.j :: .int .i64 j.u.n :: su :: .int .i64 j.v.k :: .int .i64 j.v.i :: .int .i64 j.v.j :: .int .i64 j.v.n :: sv :: .int .i64 j.a.k :: .int .i64 j.a.i :: .int .i64 j.a.j :: .int .i64 j.a.n :: sa :: .int .i64 j.i :: cells17 r
theorem cells17_append : ∀ ps qs : List (Jd × (Value × Value × Value)), cells17 (ps ++ qs) = cells17 ps ++ cells17 qs
  | [], qs => rfl
  | (j, (su, sv, sa)) :: r, qs => by simp [cells17, cells17_append r qs]
def jcells (p : Jd × (Value × Value × Value)) : List Value := [.bool p.1.eq, .int .i64 p.1.u.k, .int .i64 p.1.u.i, .int .i64 p.1.u.j, .int .i64 p.1.u.n, p.2.1, .int .i64 p.1.v.k, .int .i64 p.1.v.i, .int .i64 p.1.v.j, .int .i64 p.1.v.n, p.2.2.1, .int .i64 p.1.a.k, .int .i64 p.1.a.i, .int .i64 p.1.a.j, .int .i64 p.1.a.n, p.2.2.2, .int .i64 p.1.i]
theorem cells17_get : ∀ (ps : List (Jd × (Value × Value × Value))) (i : Nat) (h : i < ps.length) (q : Nat), q < 17 → (cells17 ps)[i * 17 + q]? = (jcells ps[i])[q]?
  | (j, (su, sv, sa)) :: r, 0, _, q, hq => by
    rw [Nat.zero_mul, Nat.zero_add]
    match q, hq with
    | 0, _ => rfl
    | 1, _ => rfl
    | 2, _ => rfl
    | 3, _ => rfl
    | 4, _ => rfl
    | 5, _ => rfl
    | 6, _ => rfl
    | 7, _ => rfl
    | 8, _ => rfl
    | 9, _ => rfl
    | 10, _ => rfl
    | 11, _ => rfl
    | 12, _ => rfl
    | 13, _ => rfl
    | 14, _ => rfl
    | 15, _ => rfl
    | 16, _ => rfl
    | n + 17, h => exact absurd h (by omega)
  | (j, (su, sv, sa)) :: r, i + 1, h, q, hq => by
    have := cells17_get r i (by simpa using h) q hq
    rw [show (i + 1) * 17 + q = (i * 17 + q) + 17 by omega]
    simpa [cells17] using this
structure MadeJ (B : Nat) (w : World) (v : Value) (ps : List (Jd × (Value × Value × Value))) : Prop where
  own : w.ownsRow B 33 17 v ps.length (cells17 ps)
  fine : ∀ p ∈ ps, p.1.fine
  kids : ∀ p ∈ ps, LiesP w (fun b => Own B w b ∧ v.ownBlock ≠ some b) p.1.u.kids p.2.1 ∧ LiesP w (fun b => Own B w b ∧ v.ownBlock ≠ some b) p.1.v.kids p.2.2.1 ∧ LiesP w (fun b => Own B w b ∧ v.ownBlock ≠ some b) p.1.a.kids p.2.2.2
theorem newsJ (w : World) (j : Jd) (su sv sa : Value) (T : TypeId) : ∀ k u, (cells17 [(j, (su, sv, sa))])[k]? = some u → (w.alloc (.cells #[.bool j.eq, .int .i64 j.u.k, .int .i64 j.u.i, .int .i64 j.u.j, .int .i64 j.u.n, su, .int .i64 j.v.k, .int .i64 j.v.i, .int .i64 j.v.j, .int .i64 j.v.n, sv, .int .i64 j.a.k, .int .i64 j.a.i, .int .i64 j.a.j, .int .i64 j.a.n, sa, .int .i64 j.i] T)).cell? ((⟨w.heap.size, 0, none⟩ : Addr).add k) = some u :=
  World.news_of_block (alloc_new w _)
theorem oneJ (j : Jd) (su sv sa : Value) (h1 : su.oneCell' = true := by rfl) (h2 : sv.oneCell' = true := by rfl) (h3 : sa.oneCell' = true := by rfl) : ∀ u ∈ cells17 [(j, (su, sv, sa))], u.oneCell' = true := by
  intro u hu
  simp only [cells17, List.mem_cons, List.not_mem_nil, or_false] at hu
  rcases hu with rfl | rfl | rfl | rfl | rfl | rfl | rfl | rfl | rfl | rfl | rfl | rfl | rfl | rfl | rfl | rfl | rfl <;> first | rfl | exact h1 | exact h2 | exact h3
theorem info_judg : (Try.prog.info? 33).map (fun i => (i.zero, i.size, i.bytes)) = some (some (.agg #[.bool false, .int .i64 0, .int .i64 0, .int .i64 0, .int .i64 0, .slice none 0 0, .int .i64 0, .int .i64 0, .int .i64 0, .int .i64 0, .slice none 0 0, .int .i64 0, .int .i64 0, .int .i64 0, .int .i64 0, .slice none 0 0, .int .i64 0]), 17, 184) := by kernel_rfl
end Go.Proofs.Ytokgpaajelgakaa
namespace Go.Proofs.Ytokgpaajelgakaa.Dv
open Go.RowKit
inductive Tm where
  | mk (k i : Int) (l : List Tm)
namespace Tm
def k : Tm → Int | .mk k _ _ => k
def i : Tm → Int | .mk _ i _ => i
def kids : Tm → List Tm | .mk _ _ l => l
theorem eta (t : Tm) : Tm.mk t.k t.i t.kids = t := by cases t; rfl
theorem ind {P : Tm → Prop} (h : ∀ t, (∀ x ∈ t.kids, P x) → P t) : ∀ t, P t
  | .mk k i l => h (.mk k i l) (fun x (_ : x ∈ l) => ind h x)
end Tm
def Tm.fine (t : Tm) : Prop := I64 t.k ∧ I64 t.i
abbrev tv (t : Tm) (s : Value) : Value := .agg #[.int .i64 t.k, .int .i64 t.i, s]
structure Node (w : World) (b o : Nat) (t : Tm) (s : Value) : Prop where
  c0 : w.cell? ⟨b, o, none⟩ = some (.int .i64 t.k)
  c1 : w.cell? ⟨b, o + 1, none⟩ = some (.int .i64 t.i)
  c2 : w.cell? ⟨b, o + 2, none⟩ = some s
inductive Lies (w : World) : List Tm → Value → Prop
  | mk (l : List Tm) (a : Option Addr) (cap : Nat) (S : Nat → Value) (hc : l.length ≤ cap) (hm : cap ≤ maxLen) (hf : ∀ x ∈ l, x.fine)
      (hn : ∀ i (h : i < l.length), ∃ b o, a = some ⟨b, o, none⟩ ∧ Node w b (o + i * 3) l[i] (S i)) (hk : ∀ i (h : i < l.length), Lies w (l[i]).kids (S i)) : Lies w l (.slice a l.length cap)
theorem Lies.out {w : World} {l : List Tm} {s : Value} (h : Lies w l s) : ∃ (a : Option Addr) (cap : Nat) (S : Nat → Value), s = .slice a l.length cap ∧ l.length ≤ cap ∧ cap ≤ maxLen ∧ (∀ x ∈ l, x.fine) ∧
    (∀ i (h : i < l.length), ∃ b o, a = some ⟨b, o, none⟩ ∧ Node w b (o + i * 3) l[i] (S i)) ∧ (∀ i (h : i < l.length), Lies w (l[i]).kids (S i)) := by
  cases h with
  | mk l a cap S hc hm hf hn hk => exact ⟨a, cap, S, rfl, hc, hm, hf, hn, hk⟩
theorem Node.lt {w : World} {b o : Nat} {t : Tm} {s : Value} (h : Node w b o t s) : b < w.heap.size := World.block_lt_of_cell? _ _ h.c0
theorem Node.below {w w' : World} {b o B : Nat} {t : Tm} {s : Value} (h : Node w b o t s) (hb : Below B w w') (hB : b < B) : Node w' b o t s :=
  ⟨(hb.cell (by exact hB)).trans h.c0, (hb.cell (by exact hB)).trans h.c1, (hb.cell (by exact hB)).trans h.c2⟩
theorem Lies.keep {w w' : World} {l : List Tm} {s : Value} (h : Lies w l s) (hb : Below w.heap.size w w') : Lies w' l s := by
  induction h with
  | mk l a cap S hc hm hf hn hk ih =>
    exact .mk l a cap S hc hm hf (fun i hi => by obtain ⟨b, o, ha, hx⟩ := hn i hi; exact ⟨b, o, ha, hx.below hb hx.lt⟩) ih
end Go.Proofs.Ytokgpaajelgakaa.Dv
namespace Go.Proofs.Ytokgpaajelgakaa.Ck
open Go.RowKit
def Ints (cs : Array Value) : Prop := ∀ v ∈ cs.toList, ∃ z, v = .int .i64 z
def Row (w : World) (b : Nat) : Prop := ∃ cs fz, w.heap[b]? = some (Obj.cells cs 3 fz) ∧ Ints cs
structure Fr (N0 K : Nat) (w w' : World) : Prop where
 os : w'.os = w.os
 tape : w'.tape = w.tape
 output : w'.output = w.output
 size : w.heap.size ≤ w'.heap.size
 block : ∀ b, b < w.heap.size → (b < N0 ∨ (b ≠ K ∧ ¬ Row w b)) → w'.heap[b]? = w.heap[b]?
theorem Row.of {w w' : World} {b : Nat} (h : w'.heap[b]? = w.heap[b]?) : Row w' b ↔ Row w b := by unfold Row; rw [h]
theorem Fr.trans {N0 K : Nat} {w w1 w2 : World} (h : Fr N0 K w w1) (h2 : Fr N0 K w1 w2) : Fr N0 K w w2 :=
 ⟨h2.os.trans h.os, h2.tape.trans h.tape, h2.output.trans h.output, Nat.le_trans h.size h2.size, fun b hb hc => by
  have e := h.block b hb hc
  rw [h2.block b (Nat.lt_of_lt_of_le hb h.size) (hc.imp id (fun hc => ⟨hc.1, fun hr => hc.2 ((Row.of e).1 hr)⟩)), e]⟩
theorem Fr.of {N0 K : Nat} {w w' : World} (h : Kept w w') : Fr N0 K w w' := ⟨h.os, h.tape, h.output, h.size, fun b hb _ => h.block b hb⟩
theorem Fr.kept {N0 K : Nat} {w w' : World} (h : Fr N0 K w w') (hN : N0 = w.heap.size) : Kept w w' := ⟨h.os, h.tape, h.output, h.size, fun b hb => h.block b hb (Or.inl (by omega))⟩
theorem Fr.drew {N0 K : Nat} {w w' : World} (h : Fr N0 K w w') : Fr N0 K w w'.drew := ⟨h.os, h.tape, h.output, h.size, h.block⟩
structure Sees (K : Nat) (w : World) : Prop where
 two : ∃ m pv, w.heap[K]? = some (Obj.cells #[.float .f64 m, pv] 61 (0, 0))
theorem cell_K {K : Nat} {w : World} (h : Sees K w) {o : Nat} {a : Option Addr} {n c : Nat} {z : Int} (h1 : w.cell? ⟨K, o, none⟩ = some (.int .i64 z)) (_ : w.cell? ⟨K, o + 1, none⟩ = some (.slice a n c)) : False := by
 obtain ⟨m, pv, hh⟩ := h.two
 rw [Lib.cell_of_heap hh] at h1
 match o, h1 with
 | 0, h1 => cases h1
 | 1, h1 =>
  have e : pv = .int .i64 z := by simpa using h1
  rename_i h2
  rw [Lib.cell_of_heap hh] at h2
  simp at h2
 | o + 2, h1 => simp at h1
theorem cell_row {b : Nat} {w : World} (h : Row w b) {o : Nat} {a : Option Addr} {n c : Nat} (h1 : w.cell? ⟨b, o, none⟩ = some (.slice a n c)) : False := by
 obtain ⟨cs, fz, hh, hi⟩ := h
 rw [Lib.cell_of_heap hh] at h1
 obtain ⟨z, hz⟩ := hi _ (Array.mem_toList_iff.2 (Array.mem_of_getElem? h1))
 cases hz
theorem Fr.node {N0 K : Nat} {w w' : World} (h : Fr N0 K w w') (hK : Sees K w) {b o : Nat} {a : Option Addr} {n c : Nat} {z : Int} (h1 : w.cell? ⟨b, o, none⟩ = some (.int .i64 z)) (h2 : w.cell? ⟨b, o + 1, none⟩ = some (.slice a n c)) : w'.heap[b]? = w.heap[b]? :=
 h.block b (World.block_lt_of_cell? _ _ h1) (Or.inr ⟨fun e => by subst e; exact cell_K hK h1 h2, fun hr => cell_row hr h2⟩)
theorem lies_slice {w : World} {l : List Tm} {s : Value} (h : Lies w l s) : ∃ a n c, s = .slice a n c := by obtain ⟨a, c, -, rfl, -⟩ := h.out; exact ⟨_, _, _, rfl⟩
theorem dlies_slice {w : World} {l : List Dv.Tm} {s : Value} (h : Dv.Lies w l s) : ∃ a n c, s = .slice a n c := by obtain ⟨a, c, -, rfl, -⟩ := h.out; exact ⟨_, _, _, rfl⟩
theorem dlies_fr {N0 K : Nat} {w w' : World} (h : Fr N0 K w w') (hK : Sees K w) {l : List Dv.Tm} {s : Value} (hl : Dv.Lies w l s) : Dv.Lies w' l s := by
 induction hl with
 | mk l a cap S hc hm hf hn hk ih =>
  refine .mk l a cap S hc hm hf (fun i hi => ?_) ih
  obtain ⟨b, o, ha, hx⟩ := hn i hi
  obtain ⟨a2, n2, c2, e2⟩ := dlies_slice (hk i hi)
  have e := h.node hK hx.c1 (by rw [← e2]; exact hx.c2)
  exact ⟨b, o, ha, ⟨(World.cell?_of_block (a := ⟨b, _, none⟩) e).trans hx.c0, (World.cell?_of_block (a := ⟨b, _, none⟩) e).trans hx.c1, (World.cell?_of_block (a := ⟨b, _, none⟩) e).trans hx.c2⟩⟩
def RowI (N0 : Nat) (w : World) (pv : Value) (p : List Int) : Prop := (pv = .slice none 0 0 ∧ p = []) ∨
 ∃ g cap cur, pv = .slice (some ⟨g, 0, none⟩) p.length cap ∧ N0 ≤ g ∧ w.heap[g]? = some (Obj.cells cur 3 (0, 0)) ∧ p.length ≤ cap ∧ cap ≤ maxLen ∧ cur.size = cap ∧ cur.toList.take p.length = p.map (Value.int .i64 ·) ∧ Ints cur
theorem RowI.slc {N0 : Nat} {w : World} {pv : Value} {p : List Int} (h : RowI N0 w pv p) : ∃ a cap, pv = .slice a p.length cap ∧ p.length ≤ cap ∧ cap ≤ maxLen := by
 rcases h with ⟨rfl, rfl⟩ | ⟨g, cap, cur, e, -, -, h1, h2, -⟩
 ·exact ⟨none, 0, rfl, Nat.le_refl _, Nat.zero_le _⟩
 ·exact ⟨_, cap, e, h1, h2⟩
theorem RowI.same {N0 : Nat} {w w' : World} {pv : Value} {p : List Int} (h : RowI N0 w pv p) (hb : ∀ b, b < w.heap.size → Row w b → w'.heap[b]? = w.heap[b]?) : RowI N0 w' pv p := by
 rcases h with h | ⟨g, cap, cur, e, h0, hh, r⟩
 ·exact Or.inl h
 ·exact Or.inr ⟨g, cap, cur, e, h0, (hb g (Array.getElem?_eq_some_iff.1 hh).1 ⟨cur, _, hh, r.2.2.2.2⟩).trans hh, r⟩
theorem RowI.later {N0 : Nat} {w w' : World} {pv : Value} {p : List Int} (h : RowI N0 w pv p) (hb : Kept w w') : RowI N0 w' pv p := h.same fun b hb' _ => hb.block b hb'
theorem rowI_some {N0 : Nat} {w : World} {pv : Value} {p : List Int} {z : Int} (h : RowI N0 w pv (p ++ [z])) : ∃ g cap, pv = .slice (some ⟨g, 0, none⟩) (p.length + 1) cap ∧ p.length + 1 ≤ cap ∧ cap ≤ maxLen := by
 rcases h with ⟨-, h⟩ | ⟨g, cap, cur, e, -, -, h1, h2, -⟩
 ·simp at h
 ·simp only [List.length_append, List.length_singleton] at e h1
  exact ⟨g, cap, e, h1, h2⟩
theorem RowI.pop {N0 : Nat} {w : World} {g n cap : Nat} {p : List Int} {z : Int} (h : RowI N0 w (.slice (some ⟨g, 0, none⟩) n cap) (p ++ [z])) : RowI N0 w (.slice (some ⟨g, 0, none⟩) p.length cap) p := by
 rcases h with ⟨h, -⟩ | ⟨g', cap', cur, e, h0, hh, h1, h2, h3, h4, h5⟩
 ·cases h
 ·simp only [Value.slice.injEq, Option.some.injEq, Addr.mk.injEq] at e
  obtain ⟨⟨rfl, -⟩, rfl, rfl⟩ := e
  simp only [List.length_append, List.length_singleton] at h1 h4
  refine Or.inr ⟨g, cap, cur, rfl, h0, hh, by omega, h2, h3, ?_, h5⟩
  have := congrArg (List.take p.length) h4
  rw [List.take_take, Nat.min_eq_left (by omega), List.map_append, List.take_left' (by simp)] at this
  exact this
theorem info_int : (Try.prog.info? 3).map (fun i => (i.zero, i.size, i.bytes)) = some (some (.int .i64 0), 1, 8) := by kernel_rfl
theorem ints_append {a b : Array Value} (ha : Ints a) (hb : Ints b) : Ints (a ++ b) := by
 intro v hv
 rw [Array.toList_append] at hv
 rcases List.mem_append.1 hv with h | h
 ·exact ha v h
 ·exact hb v h
theorem ints_zero (n : Nat) : Ints (Builtin.zeroCells (Value.int .i64 0).cells n) := by
 intro v hv
 unfold Builtin.zeroCells at hv
 simp only [Array.toList_map, List.mem_map] at hv
 obtain ⟨i, -, rfl⟩ := hv
 refine ⟨0, ?_⟩
 have e : (Value.int .i64 0).cells = #[.int .i64 0] := by rfl
 rw [e]
 have : i % (#[Value.int .i64 0] : Array Value).size = 0 := Nat.mod_one i
 rw [this]
 rfl
theorem ints_one (z : Int) : Ints #[.int .i64 z] := by intro v hv; simp at hv; exact ⟨z, hv⟩
theorem ints_map (p : List Int) : Ints (p.map (Value.int .i64 ·)).toArray := by
 intro v hv
 obtain ⟨z, -, rfl⟩ := List.mem_map.1 hv
 exact ⟨z, rfl⟩
theorem run_append_path (N0 : Nat) (w : World) (pv : Value) (p : List Int) (hr : RowI N0 w pv p) (ad : Addr) (c : Nat) (z : Int) (hx : w.cell? ad = some (.int .i64 z)) (hm : p.length ≤ 100000) (hN : N0 ≤ w.heap.size) (ty : TypeId) :
  ∃ g cap w', (Builtin.append_ #[35, 35] ty #[pv, .slice (some ad) 1 c]).run Try.prog w = .ok (.slice (some ⟨g, 0, none⟩) (p.length + 1) cap) w' ∧ RowI N0 w' (.slice (some ⟨g, 0, none⟩) (p.length + 1) cap) (p ++ [z]) ∧
   (∀ b, b < w.heap.size → ¬ Row w b → w'.heap[b]? = w.heap[b]?) ∧ w'.os = w.os ∧ w'.tape = w.tape ∧ w'.output = w.output ∧ w.heap.size ≤ w'.heap.size ∧ (∀ b, b < N0 → w'.heap[b]? = w.heap[b]?) := by
 obtain ⟨i0, hi, hz0, hz1, hz2⟩ := info_parts info_int
 have ht : Try.prog.underlying 35 = some (.slice 3) := by kernel_rfl
 have hnews : ∀ j u, ([Value.int .i64 z])[j]? = some u → w.cell? (ad.add j) = some u := by
  intro j u hu
  match j, hu with
  | 0, hu =>
   have e : ad.add 0 = ad := by cases ad; rfl
   rw [e, hx]; simpa using hu
  | j + 1, hu => simp at hu
 have h1 : ∀ u ∈ [Value.int .i64 z], u.oneCell' = true := by intro u hu; simp at hu; subst hu; rfl
 rcases hr with ⟨rfl, rfl⟩ | ⟨g, cap, cur, rfl, h0, hh, hc1, hc2, hc3, hc4, hc5⟩
 ·have hr := run_append_nil (P := Try.prog) w 35 ty 3 i0 _ ht hi hz0 ad 1 c [.int .i64 z] (by rw [hz1]; rfl) hnews (by omega) (by omega) (by rw [hz2]; decide)
  refine ⟨_, _, _, hr, Or.inr ⟨w.heap.size, grownCap w 1 0 3, _, rfl, hN, heap_alloc_new w.drew _, grownCap_ge w 1 0 _, grownCap_le_maxLen w 1 0 _ (by unfold maxLen; omega), ?_, ?_, ?_⟩, fun b hb _ => ((Below.refl w.drew.heap.size w.drew).alloc (Nat.le_refl _) _).block b hb, rfl, rfl, rfl, by simp, fun b hb => ((Below.refl w.drew.heap.size w.drew).alloc (Nat.le_refl _) _).block b (by show b < w.heap.size; omega)⟩
  ·have := grownCap_ge w 1 0 3
   simp only [Array.size_append, List.size_toArray, size_zeroCells, List.length_singleton]
   show 1 + (grownCap w 1 0 3 - 1) * 1 = _
   omega
  ·simp
  ·exact ints_append (ints_one z) (ints_zero _)
 ·by_cases hroom : p.length + 1 ≤ cap
  ·have hr := run_append_room (P := Try.prog) w 35 ty 3 i0 ht hi g p.length cap cur hh ad 1 c [.int .i64 z] (by rw [hz1]; rfl) hnews h1 hroom (by rw [hz1]; simp; omega)
   rw [hz1, Nat.mul_one] at hr
   refine ⟨_, _, _, hr, Or.inr ⟨g, cap, _, by simp, h0, setRow_heap w g cur _ _ _ hh, by simp; omega, hc2, ?_, ?_, ?_⟩, fun b hb hn => setRow_other w g b _ (fun e => by subst e; exact hn ⟨cur, _, hh, hc5⟩), rfl, rfl, rfl, by simp, fun b hb => setRow_other w g b _ (by omega)⟩
   ·simp only [List.size_toArray, List.length_append, List.length_take, List.length_drop, Array.length_toList, List.length_singleton]
    omega
   ·rw [hc4, List.length_append, List.length_singleton, List.map_append]
    exact List.take_left' (by simp)
   ·intro v hv
    simp only [List.mem_append] at hv
    rcases hv with (hv | hv) | hv
    ·exact hc5 v (List.mem_of_mem_take hv)
    ·simp at hv; exact ⟨z, hv⟩
    ·exact hc5 v (List.mem_of_mem_drop hv)
  ·have hr := run_append_grow (P := Try.prog) w 35 ty 3 i0 _ ht hi hz0 ⟨g, 0, none⟩ p.length cap (p.map (Value.int .i64 ·)) (by rw [hz1]; simp) (fun j u hu => by
     rw [← hc4, List.getElem?_take] at hu
     split at hu
     ·rw [Addr.add_lit, Lib.cell_of_heap hh]
      simpa using hu
     ·cases hu) ad 1 c [.int .i64 z] (by rw [hz1]; rfl) hnews (by omega) (by omega) (by rw [hz2]; exact growslice_fits (by omega) (by omega))
   refine ⟨_, _, _, hr, Or.inr ⟨w.heap.size, grownCap w (p.length + 1) cap 3, _, by simp, hN, heap_alloc_new w.drew _, by have := grownCap_ge w (p.length + 1) cap 3; simp; omega, grownCap_le_maxLen w _ _ _ (by unfold maxLen; omega), ?_, ?_, ?_⟩, fun b hb _ => ((Below.refl w.drew.heap.size w.drew).alloc (Nat.le_refl _) _).block b hb, rfl, rfl, rfl, by simp, fun b hb => ((Below.refl w.drew.heap.size w.drew).alloc (Nat.le_refl _) _).block b (by show b < w.heap.size; omega)⟩
   ·have := grownCap_ge w (p.length + 1) cap 3
    simp only [Array.size_append, List.size_toArray, size_zeroCells, List.length_singleton, List.length_map]
    show p.length + 1 + (grownCap w (p.length + 1) cap 3 - (p.length + 1)) * 1 = _
    omega
   ·simp only [Array.toList_append, List.length_append, List.length_singleton, List.map_append]
    exact List.take_left' (by simp)
   ·exact ints_append (ints_append (ints_map p) (ints_one z)) (ints_zero _)
theorem wpList_append_path {ops : Array Oper} {rest : List Oper} {o : Oper} {a : Act} {w : World} {E : Exit → Act → World → Prop} (hgd : o.guard = none) (s x : Operand)
  (ho : o.op = .call { callee := .builtin .append, args := #[s, x], argTypes := #[35, 35] }) (N0 K : Nat) (pv : Value) (p : List Int) (hr : RowI N0 w pv p) (hs : a.eval s = pv) (ad : Addr) (c : Nat) (z : Int) (hx : a.eval x = .slice (some ad) 1 c) (hc : w.cell? ad = some (.int .i64 z)) (hm : p.length ≤ 100000) (hN : N0 ≤ w.heap.size)
  (h : ∀ g cap w', RowI N0 w' (.slice (some ⟨g, 0, none⟩) (p.length + 1) cap) (p ++ [z]) → (∀ b, b < w.heap.size → ¬ Row w b → w'.heap[b]? = w.heap[b]?) → Fr N0 K w w' → wpList Try.prog ops E rest (a.put o.dst (.slice (some ⟨g, 0, none⟩) (p.length + 1) cap)) w') : wpList Try.prog ops E (o :: rest) a w :=
 wpList_plain hgd fun L hK => by
  obtain ⟨g, cap, w', hr, h2, h3, h4, h5, h6, h7, h8⟩ := run_append_path N0 w pv p hr ad c z hc hm hN o.type
  unfold Oper.wp execOp
  simp only [ho, resolve, invoke, builtin, Sem.run_bind, Sem.run_pure, Result.andThen_ok, List.map_toArray, List.map_cons, List.map_nil, hs, hx, hr]
  exact hK _ _ (h g cap w' h2 h3 ⟨h4, h5, h6, h7, fun b hb hcc => hcc.elim (fun hb2 => h8 b hb2) fun hcc => h3 b hb hcc.2⟩)
structure St (N0 K m : Nat) (pv : Value) (p : List Int) (w : World) : Prop where
 box : w.heap[K]? = some (Obj.cells #[.float .f64 m, pv] 61 (0, 0))
 lo : N0 ≤ K
 row : RowI N0 w pv p
theorem St.sees {N0 K m : Nat} {pv : Value} {p : List Int} {w : World} (h : St N0 K m pv p w) : Sees K w := ⟨_, _, h.box⟩
theorem St.lt {N0 K m : Nat} {pv : Value} {p : List Int} {w : World} (h : St N0 K m pv p w) : K < w.heap.size := (Array.getElem?_eq_some_iff.1 h.box).1
theorem St.later {N0 K m : Nat} {pv : Value} {p : List Int} {w w' : World} (h : St N0 K m pv p w) (hb : Kept w w') : St N0 K m pv p w' := ⟨(hb.block K h.lt).trans h.box, h.lo, h.row.later hb⟩
theorem St.drew {N0 K m : Nat} {pv : Value} {p : List Int} {w : World} (h : St N0 K m pv p w) : St N0 K m pv p w.drew := ⟨h.box, h.lo, h.row⟩
theorem not_row {w : World} {b : Nat} {cs : Array Value} {T : TypeId} {fz : Nat × Nat} (h : w.heap[b]? = some (Obj.cells cs T fz)) (hT : T ≠ 3) : ¬ Row w b := by
 rintro ⟨cs2, fz2, h2, -⟩
 rw [h] at h2
 cases h2
 exact hT rfl
theorem St.set {N0 K m : Nat} {pv pv' : Value} {p' : List Int} {w : World} (h : w.heap[K]? = some (Obj.cells #[.float .f64 m, pv] 61 (0, 0))) (lo : N0 ≤ K) (hr : RowI N0 w pv' p') : St N0 K m pv' p' (w.setCell ⟨K, 1, none⟩ pv') ∧ Fr N0 K w (w.setCell ⟨K, 1, none⟩ pv') := by
 have hk : ∀ b, b ≠ K → (w.setCell ⟨K, 1, none⟩ pv').heap[b]? = w.heap[b]? := fun b hb => Below.heap_setCell _ _ _ _ hb
 refine ⟨⟨by exact heap_setCell_same _ _ 1 _ _ pv' h, lo, hr.same fun b _ hb => hk b fun e => by subst e; exact not_row h (by decide) hb⟩, ?_⟩
 exact ⟨rfl, rfl, rfl, by simp, fun b _ hc => hk b (by rcases hc with hc | hc; omega; exact hc.1)⟩
end Go.Proofs.Ytokgpaajelgakaa.Ck
namespace Go.Proofs.Ytokgpaajelgakaa.Se
open Go Go.RowKit
inductive SV where
  | v (x : Value)
  | i (n : Int)
  | p (h o : Nat)
  | s (h n : Nat)
  | t (h : Nat)
inductive SX where
  | one (a : SV)
  | agg (l : List SV)
  | tup (l : List (Bool × List SV))
inductive FL (D : Type) where
  | int (n : Int)
  | oint (n : Int)
  | bool (b : Bool)
  | obool (b : Bool)
  | nil
  | dat (d : D)
inductive SO (D : Type) where
  | own (c : List SV) (T : TypeId)
  | ro (c : List SV) (T : TypeId) (n : Nat)
  | dat (d : D)
class Dat (D : Type) where
  den : World → (Nat → Prop) → D → Value → Prop
  len : D → Nat
  lit : D → Bool
  peek : D → Nat → Nat → Option (List (FL D))
  pack : TypeId → Nat → List (FL D) → Option D
structure St (D : Type) where
  tmps : List (Nat × SX)
  nT : Nat
  heap : List (Nat × SO D)
  nh : Nat
  orc : List Bool
def look {α : Type} (h : Nat) : List (Nat × α) → Option α
  | [] => none
  | (k, a) :: r => bif Nat.beq k h then some a else look h r
def St.τ {D : Type} (st : St D) (t : Nat) : SX := match look t st.tmps with
  | some x => x
  | none => .tup []
def St.η {D : Type} (st : St D) (h : Nat) : Option (SO D) := look h st.heap
structure Rec (D : Type) where
  val : SX
  hw : List (Nat × SO D)
  nh : Nat
  orc : List Bool
  cs : List Prop
  rd : List Nat
abbrev Spec (D : Type) := FuncId → List (Bool × List (FL D)) → List Bool → Option (List (Bool × List (FL D)) × Bool × List Prop × List Bool)
def SX.ofV : Value → SX
  | .agg cs => .agg (cs.toList.map .v)
  | .tuple cs => .tup (cs.toList.map fun c => (false, [.v c]))
  | x => .one (.v x)
def ev (τ : Nat → SX) : Operand → SX
  | .tmp t => τ t
  | .const v => .ofV v
  | .global g => .one (.v (.pointer (some ⟨g, 0, none⟩)))
  | .func f => .one (.v (.func (.func f) #[] #[]))
def inI64 (n : Int) : Bool := decide (-9223372036854775808 ≤ n) && decide (n ≤ 9223372036854775807)
def wfV : Value → Bool
  | .int .i64 n => inI64 n
  | .agg _ | .tuple _ => false
  | _ => true
def wfC : Value → Bool
  | .agg cs => cs.toList.all wfV
  | .tuple _ => false
  | x => wfV x
def okC : Operand → Bool
  | .const v => wfC v
  | _ => true
def asI : SX → Option (Bool × Int)
  | .one (.v (.int .i64 n)) => some (false, n)
  | .one (.i n) => some (true, n)
  | _ => none
def mkI (o : Bool) (n : Int) : SX := .one (bif o then .i n else .v (.int .i64 n))
def aggT (P : Program) (T : TypeId) : Option Bool :=
  match P.underlying T with
  | some (.struct _) | some (.array _ _) => some true
  | some _ => some false
  | none => none
def sizeT (P : Program) (T : TypeId) : Option Nat := (P.info? T).map (·.size)
def zeroT (P : Program) (T : TypeId) : Option (List Value) := (P.info? T).bind fun i => i.zero.map (·.cells.toList)
def cmpI (op : BinOp) (x y : Int) : Option Bool :=
  match op with
  | .eql => some (x == y)
  | .neq => some (x != y)
  | .lss => some (decide (x < y))
  | .leq => some (decide (x ≤ y))
  | .gtr => some (decide (x > y))
  | .geq => some (decide (x ≥ y))
  | _ => none
def arI (op : BinOp) (x y : Int) : Option Int :=
  match op with
  | .add => some (IntKind.i64.wrap (x + y))
  | .sub => some (IntKind.i64.wrap (x - y))
  | .mul => some (IntKind.i64.wrap (x * y))
  | _ => none
def SX.cells : SX → Option (List SV)
  | .one a => some [a]
  | .agg l => some l
  | .tup _ => none
def setR (c : List SV) (o : Nat) (l : List SV) : List SV := c.take o ++ l ++ c.drop (o + l.length)
def fillS (place : Nat → Option (Nat × Nat)) (c : List SV) : List (Nat × SX) → Option (List SV)
  | [] => some c
  | (i, x) :: r =>
    match place i, x.cells with
    | some (off, size), some l => bif Nat.beq l.length size && Nat.ble (off + l.length) c.length then fillS place (setR c off l) r else none
    | _, _ => none
section
variable {D : Type} [Dat D]
def ldFL (nh : Nat) (orc : List Bool) : FL D → Option (SV × List (Nat × SO D) × Nat × List Bool × List Prop)
  | .int n => some (.v (.int .i64 n), [], nh, orc, [])
  | .oint n => some (.i n, [], nh, orc, [])
  | .bool b => some (.v (.bool b), [], nh, orc, [])
  | .obool b => match orc with
    | o :: r => some (.v (.bool o), [], nh, r, [b = o])
    | [] => none
  | .nil => some (.v (.slice none 0 0), [], nh, orc, [])
  | .dat d => some (.t nh, [(nh, .dat d)], nh + 1, orc, [])
def ldFLs (nh : Nat) (orc : List Bool) : List (FL D) → Option (List SV × List (Nat × SO D) × Nat × List Bool × List Prop)
  | [] => some ([], [], nh, orc, [])
  | x :: r => match ldFL nh orc x with
    | some (a, h1, n1, o1, c1) => match ldFLs n1 o1 r with
      | some (l, h2, n2, o2, c2) => some (a :: l, h2 ++ h1, n2, o2, c1 ++ c2)
      | none => none
    | none => none
def ldArg (nh : Nat) (orc : List Bool) (x : Bool × List (FL D)) : Option ((Bool × List SV) × List (Nat × SO D) × Nat × List Bool × List Prop) :=
  match ldFLs nh orc x.2 with
  | some (l, r) => bif x.1 || Nat.beq l.length 1 then some ((x.1, l), r) else none
  | none => none
def ldArgs (nh : Nat) (orc : List Bool) : List (Bool × List (FL D)) → Option (List (Bool × List SV) × List (Nat × SO D) × Nat × List Bool × List Prop)
  | [] => some ([], [], nh, orc, [])
  | x :: r => match ldArg nh orc x with
    | some (a, h1, n1, o1, c1) => match ldArgs n1 o1 r with
      | some (l, h2, n2, o2, c2) => some (a :: l, h2 ++ h1, n2, o2, c1 ++ c2)
      | none => none
    | none => none
def mapFL (f : SV → Option (FL D × List Nat)) : List SV → Option (List (FL D) × List Nat)
  | [] => some ([], [])
  | a :: r => match f a with
    | some (x, hs) => match mapFL f r with
      | some (l, hs') => some (x :: l, hs ++ hs')
      | none => none
    | none => none
def toFL (η : Nat → Option (SO D)) : Nat → SV → Option (FL D × List Nat)
  | 0, _ => none
  | n + 1, a => match a with
    | .v (.int .i64 n) => some (.int n, [])
    | .i n => some (.oint n, [])
    | .v (.bool b) => some (.bool b, [])
    | .v (.slice none 0 0) => some (.nil, [])
    | .t h => match η h with
      | some (.dat d) => some (.dat d, [h])
      | _ => none
    | .s h k => match η h with
      | some (.ro c T m) => bif Nat.beq k m then
        match mapFL (toFL η n) c with
        | some (ls, hs) => match Dat.pack T m ls with
          | some d => some (.dat d, h :: hs)
          | none => none
        | none => none
        else none
      | _ => none
    | _ => none
def toArg (η : Nat → Option (SO D)) : SX → Option ((Bool × List (FL D)) × List Nat)
  | .one a => match toFL η 20 a with
    | some (x, hs) => some ((false, [x]), hs)
    | none => none
  | .agg l => match mapFL (toFL η 20) l with
    | some (x, hs) => some ((true, x), hs)
    | none => none
  | .tup _ => none
def toArgs (η : Nat → Option (SO D)) : List SX → Option (List (Bool × List (FL D)) × List Nat)
  | [] => some ([], [])
  | a :: r => match toArg η a with
    | some (x, hs) => match toArgs η r with
      | some (l, hs') => some (x :: l, hs ++ hs')
      | none => none
    | none => none
def cellsAt (η : Nat → Option (SO D)) (h o n : Nat) : Option (List SV) :=
  let c := match η h with
    | some (.own c _) | some (.ro c _ _) => c
    | _ => []
  let l := (c.drop o).take n
  bif Nat.beq l.length n then some l else none
def sxOf (agg : Bool) (l : List SV) : Option SX :=
  bif agg then some (.agg l) else match l with
    | [a] => some (.one a)
    | _ => none
def Rec.pure (st : St D) (x : SX) (rd : List Nat := []) : Rec D := { val := x, hw := [], nh := st.nh, orc := st.orc, cs := [], rd := rd }
def fieldOf (P : Program) (s : TypeId) (f : Nat) : Option (Nat × TypeId) :=
  match P.underlying s with
  | some (.struct fs) => (fs[f]?).map fun x => (x.offset, x.type)
  | _ => none
def elemT (P : Program) (t : TypeId) : Option TypeId :=
  match P.underlying t with
  | some (.slice e) => some e
  | _ => none
def val (P : Program) (η : Nat → Option (SO D)) (e : Operand → SX) : Op → Option (SX × List Nat)
  | .move x | .assign x => some (e x, [])
  | .pick c a b => match e c with
    | .one (.v (.bool t)) => some (bif t then e a else e b, [])
    | _ => none
  | .load T a => match e a, aggT P T, sizeT P T with
    | .one (.p h o), some g, some n => bif g || Nat.beq n 1 then
        match cellsAt η h o n with
        | some l => match sxOf g l with
          | some x => some (x, [h])
          | none => none
        | none => none
      else none
    | _, _, _ => none
  | .nilCheck x => match e x with
    | .one (.p h o) => some (.one (.p h o), [])
    | _ => none
  | .binOp op T x y _ => match asI (e x), asI (e y) with
    | some (o1, a), some (o2, b) => match arI op a b with
      | some n => some (mkI (o1 || o2) n, [])
      | none => bif o1 || o2 then none else match cmpI op a b with
        | some t => some (.one (.v (.bool t)), [])
        | none => none
    | _, _ => match op, e x, e y, P.underlying T with
      | .eql, .one (.v (.bool a)), .one (.v (.bool b)), some .bool => some (.one (.v (.bool (a == b))), [])
      | _, _, _, _ => none
  | .unOp .not _ x => match e x with
    | .one (.v (.bool t)) => some (.one (.v (.bool (!t))), [])
    | _ => none
  | .fieldAddr s x f => match e x, fieldOf P s f with
    | .one (.p h o), some (off, ty) => match sizeT P ty with
      | some (_ + 1) => some (.one (.p h (o + off)), [])
      | _ => none
    | _, _ => none
  | .field s x f => match e x, fieldOf P s f with
    | .agg l, some (off, ty) => match aggT P ty, sizeT P ty with
      | some true, some n => let m := (l.drop off).take n
          bif Nat.beq m.length n then some (.agg m, []) else none
      | some false, some _ => match l[off]? with
        | some a => some (.one a, [])
        | none => none
      | _, _ => none
    | _, _ => none
  | .indexAddr t x i => match e x, e i, elemT P t with
    | .one (.s h n), .one (.v (.int .i64 k)), some el => match sizeT P el with
      | some z => bif decide (0 ≤ k) && decide (k < (n : Int)) then some (.one (.p h (k.toNat * z)), []) else none
      | none => none
    | .one (.t h), .one (.v (.int .i64 k)), some el => match sizeT P el, η h with
      | some z, some (.dat d) => bif decide (0 ≤ k) && decide (k < (Dat.len d : Int)) then some (.one (.p h (k.toNat * z)), [h]) else none
      | _, _ => none
    | _, _, _ => none
  | .extract x i => match e x with
    | .tup l => match l[i]? with
      | some (true, c) => some (.agg c, [])
      | some (false, [a]) => some (.one a, [])
      | _ => none
    | _ => none
  | .build t parts => match P.underlying t, zeroT P t with
    | some (.struct fs), some z =>
      match fillS (fun i => match fs[i]? with
        | some f => (sizeT P f.type).map fun n => (f.offset, n)
        | none => none) (z.map .v) (parts.toList.map fun (i, x) => (i, e x)) with
      | some c => bif fs.all (fun f => (sizeT P f.type).isSome) && z.all wfV then some (.agg c, []) else none
      | none => none
    | _, _ => none
  | .call c => match c.callee, c.args.toList, c.argTypes.toList with
    | .builtin .len, [x], [ty] => match e x, elemT P ty with
      | .one (.s h n), some _ => bif inI64 n then some (.one (.v (.int .i64 n)), [h]) else none
      | .one (.v (.slice none 0 0)), some _ => some (.one (.v (.int .i64 0)), [])
      | .one (.t h), some _ => match η h with
        | some (.dat d) => some (mkI (!Dat.lit d) (Dat.len d), [h])
        | _ => none
      | _, _ => none
    | .builtin .max, [x, y], _ => match asI (e x), asI (e y) with
      | some (o1, a), some (o2, b) => some (mkI (o1 || o2) (max a b), [])
      | _, _ => none
    | .builtin .min, [x, y], _ => match asI (e x), asI (e y) with
      | some (o1, a), some (o2, b) => some (mkI (o1 || o2) (min a b), [])
      | _, _ => none
    | _, _, _ => none
  | _ => none
def step (C : Spec D) (P : Program) (st : St D) (o : Oper) : Option (Rec D) :=
  let e := ev st.τ
  match val P st.η e o.op with
  | some (x, rd) => some (.pure st x rd)
  | none => match o.op with
    | .alloc T => match zeroT P T with
      | some z => bif z.all wfV then some { val := .one (.p st.nh 0), hw := [(st.nh, .own (z.map .v) T)], nh := st.nh + 1, orc := st.orc, cs := [], rd := [] } else none
      | none => none
    | .box T x => match (e x).cells with
      | some l => some { val := .one (.p st.nh 0), hw := [(st.nh, .own l T)], nh := st.nh + 1, orc := st.orc, cs := [], rd := [] }
      | none => none
    | .buildSlice t n parts => match elemT P t with
      | some el => match sizeT P el, zeroT P el with
        | some z, some zs =>
          match fillS (fun i => some (i * z, z)) ((List.range (n * z)).map fun k => .v ((zs[k % zs.length]?).getD undef)) (parts.toList.map fun (i, x) => (i, e x)) with
          | some c => bif zs.all wfV && Nat.ble (n * z) 16777216 && Nat.blt 0 (n * z) && Nat.beq zs.length z && inI64 n then some { val := .one (.s st.nh n), hw := [(st.nh, .ro c el n)], nh := st.nh + 1, orc := st.orc, cs := [], rd := [] } else none
          | none => none
        | _, _ => none
      | none => none
    | .load T a => match e a, aggT P T, sizeT P T with
      | .one (.p h o), some g, some n => match st.η h with
        | some (.dat d) => bif g || Nat.beq n 1 then match Dat.peek d o n with
          | some ls => match ldFLs st.nh st.orc ls with
            | some (l, hw, nh, orc, cs) => match sxOf g l with
              | some x => some { val := x, hw := hw, nh := nh, orc := orc, cs := cs, rd := [h] }
              | none => none
            | none => none
          | none => none
          else none
        | _ => none
      | _, _, _ => none
    | .store T a x => match e a, (e x).cells, sizeT P T with
      | .one (.p h o), some l, some n => match st.η h with
        | some (.own c T') => bif Nat.beq l.length n && Nat.ble (o + l.length) c.length then some { val := .tup [], hw := [(h, .own (setR c o l) T')], nh := st.nh, orc := st.orc, cs := [], rd := [h] } else none
        | _ => none
      | _, _, _ => none
    | .binOp op _ x y _ => match asI (e x), asI (e y) with
      | some (_, a), some (_, b) => match cmpI op a b, st.orc with
        | some t, q :: r => some { val := .one (.v (.bool q)), hw := [], nh := st.nh, orc := r, cs := [t = q], rd := [] }
        | _, _ => none
      | _, _ => none
    | .call c => match c.callee with
      | .value (.func f) => match toArgs st.η (c.args.toList.map e) with
        | some (ags, rd) => match C f ags st.orc with
          | some (ret, tup, pre, orc1) => match ldArgs st.nh orc1 ret with
            | some (l, hw, nh, orc, cs) =>
              match tup, l with
              | true, l => some { val := .tup l, hw := hw, nh := nh, orc := orc, cs := pre ++ cs, rd := rd }
              | false, [(true, m)] => some { val := .agg m, hw := hw, nh := nh, orc := orc, cs := pre ++ cs, rd := rd }
              | false, [(false, [a])] => some { val := .one a, hw := hw, nh := nh, orc := orc, cs := pre ++ cs, rd := rd }
              | _, _ => none
            | none => none
          | none => none
        | none => none
      | _ => none
    | _ => none
def wantS (ops : Array Oper) (τ : Nat → SX) (o : Oper) : Option Bool :=
  match o.guard with
  | none => some true
  | some (g, w) => match (ops[g]?).bind (·.dst) with
    | some t => match τ t with
      | .one (.v (.bool b)) => some (b == w)
      | .tup [] => some false
      | _ => none
    | none => some false
def dstOk (d : Option Nat) (n : Nat) : Bool :=
  match d with
  | some d => Nat.blt d n
  | none => true
def stepG (C : Spec D) (P : Program) (ops : Array Oper) (st : St D) (o : Oper) : Option (Rec D) :=
  bif o.op.operands.toList.all okC && dstOk o.dst st.nT then
    match wantS ops st.τ o with
    | some true => step C P st o
    | some false => some (.pure st (.tup []))
    | none => none
  else none
def app (st : St D) (o : Oper) (r : Rec D) : St D :=
  { tmps := match o.dst with
      | some d => (d, r.val) :: st.tmps
      | none => st.tmps
    nT := st.nT, heap := r.hw ++ st.heap, nh := r.nh, orc := r.orc }
def plan (C : Spec D) (P : Program) (ops : Array Oper) : St D → List Oper → Option (List (Rec D) × St D)
  | st, [] => some ([], st)
  | st, o :: r => match stepG C P ops st o with
    | some c => match plan C P ops (app st o c) r with
      | some (l, s) => some (c :: l, s)
      | none => none
    | none => none
def tmpsOf (ops : Array Oper) (o : Oper) : List Nat :=
  o.dst.toList ++ (o.op.operands.toList.filterMap fun | .tmp t => some t | _ => none) ++ (match o.guard with | some (g, _) => ((ops[g]?).bind (·.dst)).toList | none => [])
def anc1 (a : List Nat) (o : Oper) : Nat :=
  o.after.toList.foldl (fun s e => bif Region.binds .any e then Nat.lor (Nat.lor s (Nat.pow 2 e.on)) (a.getD e.on 0) else s) 0
def ancs : List Nat → List Oper → List Nat
  | a, [] => a
  | a, o :: r => ancs (a ++ [anc1 a o]) r
def mask (l : List Nat) : Nat := l.foldl (fun s x => Nat.lor s (Nat.pow 2 x)) 0
structure Inf where
  d : Nat
  t : Nat
  w : Nat
  h : Nat
def infOf {D : Type} (ops : Array Oper) (o : Oper) (r : Rec D) : Inf := { d := mask o.dst.toList, t := mask (tmpsOf ops o), w := mask (r.hw.map (·.1)), h := mask (r.hw.map (·.1) ++ r.rd) }
def fight (a b : Inf) : Bool := !Nat.beq (Nat.lor (Nat.lor (Nat.land a.d b.t) (Nat.land b.d a.t)) (Nat.lor (Nat.land a.w b.h) (Nat.land b.w a.h))) 0
def tb (a i : Nat) : Bool := Nat.beq (Nat.land (Nat.shiftRight a i) 1) 1
def okOne (a : Nat) (f : Inf) : List (Nat × Inf) → Bool
  | [] => true
  | (i, g) :: r => (tb a i || !fight g f) && okOne a f r
def okPairs : Nat → List (Nat × Inf) → List Inf → List Nat → Bool
  | _, _, [], _ => true
  | _, _, _ :: _, [] => false
  | j, acc, f :: r, a :: ags => okOne a f acc && okPairs (j + 1) ((j, f) :: acc) r ags
def edgesOk : Nat → List Oper → Bool
  | _, [] => true
  | j, o :: r => o.after.toList.all (fun e => !Region.binds .any e || Nat.blt e.on j) && edgesOk (j + 1) r
def infs {D : Type} (ops : Array Oper) : List Oper → List (Rec D) → List Inf
  | o :: r, c :: l => infOf ops o c :: infs ops r l
  | _, _ => []
def region (C : Spec D) (P : Program) (ops : Array Oper) (draw : Bool) (st : St D) : Option (St D × List Prop) :=
  match plan C P ops st ops.toList with
  | some (l, s) =>
    bif !draw || (edgesOk 0 ops.toList && okPairs 0 [] (infs ops ops.toList l) (ancs [] ops.toList)) then some (s, l.flatMap (·.cs)) else none
  | none => none
inductive Ex where
  | nrm
  | exit (id : Nat)
  | ret
def run (C : Spec D) (P : Program) : Nat → Code → St D → Option (Ex × St D × List Prop)
  | 0, _, _ => none
  | _ + 1, .skip, st => some (.nrm, st, [])
  | _ + 1, .region _ ops draw, st => match region C P ops draw st with
    | some (s, c) => some (.nrm, s, c)
    | none => none
  | n + 1, .seq a b, st => match run C P n a st with
    | some (.nrm, s1, c1) => match run C P n b s1 with
      | some (e, s2, c2) => some (e, s2, c1 ++ c2)
      | none => none
    | r => r
  | n + 1, .cond c a b, st => match ev st.τ c with
    | .one (.v (.bool t)) => run C P n (bif t then a else b) st
    | _ => none
  | n + 1, .block id c, st => match run C P n c st with
    | some (.exit i, s, c) => bif Nat.beq i id then some (.nrm, s, c) else some (.exit i, s, c)
    | r => r
  | n + 1, .loop c, st => match run C P n c st with
    | some (.nrm, s1, c1) => match run C P n (.loop c) s1 with
      | some (e, s2, c2) => some (e, s2, c1 ++ c2)
      | none => none
    | r => r
  | _ + 1, .exit id, st => some (.exit id, st, [])
  | _ + 1, .ret, st => some (.ret, st, [])
  | _ + 1, _, _ => none
def outs (P : Program) (st : St D) : List ResultVar → Option (List (Bool × List (FL D)))
  | [] => some []
  | r :: rest =>
    let x : Option SX := match r with
      | .tmp t => some (st.τ t)
      | .cell p T => match st.τ p, aggT P T, sizeT P T with
        | .one (.p h o), some g, some n => bif g || Nat.beq n 1 then match cellsAt st.η h o n with
          | some l => sxOf g l
          | none => none
          else none
        | _, _, _ => none
    match x with
    | some x => match toArg st.η x with
      | some (a, _) => match outs P st rest with
        | some l => some (a :: l)
        | none => none
      | none => none
    | none => none
def sxP (x : Bool × List SV) : SX := bif x.1 then .agg x.2 else match x.2 with | [a] => .one a | _ => .tup []
def idx (k : Nat) : List (Bool × List SV) → List (Nat × SX)
  | [] => []
  | x :: r => (k, sxP x) :: idx (k + 1) r
def start (fn : Func) (l : List (Bool × List SV)) (hw : List (Nat × SO D)) (nh : Nat) (orc : List Bool) : St D :=
  { tmps := idx 0 l, nT := l.length + (fn.ntmps - l.length), heap := hw, nh := nh, orc := orc }
def retEx : Ex → Bool
  | .ret | .nrm => true
  | _ => false
def call (C : Spec D) (P : Program) (n : Nat) (fn : Func) (args : List (Bool × List (FL D))) (orc : List Bool) : Option (List (Bool × List (FL D)) × List Prop × List Bool) :=
  match fn.body with
  | none => none
  | some c => match ldArgs 0 orc args with
    | some (l, hw, nh, orc, cs) =>
      match run C P n c (start fn l hw nh orc) with
      | some (e, s, c2) => bif retEx e then match outs P s fn.results.toList with
        | some r => some (r, cs ++ c2, s.orc)
        | none => none
        else none
      | none => none
    | none => none
def inl (B : Spec D) (P : Program) (n : Nat) : Nat → Spec D
  | 0 => B
  | k + 1 => fun f args orc => match B f args orc with
    | some r => some r
    | none => match P.funcs[f]? with
      | some fn => match call (inl B P n k) P n fn args orc with
        | some (ret, cs, orc') => some (ret, !Nat.beq fn.results.size 1, cs, orc')
        | none => none
      | none => none
end
end Go.Proofs.Ytokgpaajelgakaa.Se
namespace Go.Proofs.Ytokgpaajelgakaa.Se
open Go Go.RowKit
structure Ent where
 b : Nat
 o : Nat
 cap : Nat
 v : Value
abbrev Env := Nat → Ent
def entOf : Value → Ent
 | .slice (some a) n cap => ⟨a.block, a.off, cap, .slice (some a) n cap⟩
 | v => ⟨0, 0, 0, v⟩
def SV.den (ρ : Env) : SV → Value
 | .v x => x
 | .i n => .int .i64 n
 | .p h o => .pointer (some ⟨(ρ h).b, (ρ h).o + o, none⟩)
 | .s h n => .slice (some ⟨(ρ h).b, (ρ h).o, none⟩) n (ρ h).cap
 | .t h => (ρ h).v
def partDen (ρ : Env) (x : Bool × List SV) : Value := bif x.1 then .agg (x.2.map (SV.den ρ)).toArray else (match x.2 with | [a] => a.den ρ | _ => undef)
def SX.den (ρ : Env) : SX → Value
 | .one a => a.den ρ
 | .agg l => .agg (l.map (SV.den ρ)).toArray
 | .tup l => .tuple (l.map (partDen ρ)).toArray
def WF (v : Value) : Prop := v.oneCell' = true ∧ ∀ n, v = .int .i64 n → I64 n
def SX.wf (ρ : Env) : SX → Prop
 | .one a => WF (a.den ρ)
 | .agg l => ∀ a ∈ l, WF (a.den ρ)
 | .tup l => ∀ x ∈ l, (x.1 = false → ∃ a, x.2 = [a]) ∧ ∀ a ∈ x.2, WF (a.den ρ)
def F2 {α β : Type} (R : α → β → Prop) : List α → List β → Prop
 | [], [] => True
 | a :: l, b :: m => R a b ∧ F2 R l m
 | _, _ => False
theorem F2.length {α β : Type} {R : α → β → Prop} : ∀ {l : List α} {m : List β}, F2 R l m → l.length = m.length
 | [], [], _ => rfl
 | _ :: _, _ :: _, h => congrArg (· + 1) (F2.length h.2)
theorem F2.imp {α β : Type} {R S : α → β → Prop} (hi : ∀ a b, R a b → S a b) : ∀ {l : List α} {m : List β}, F2 R l m → F2 S l m
 | [], [], _ => trivial
 | _ :: _, _ :: _, h => ⟨hi _ _ h.1, F2.imp hi h.2⟩
theorem F2.append {α β : Type} {R : α → β → Prop} : ∀ {l l' : List α} {m m' : List β}, F2 R l m → F2 R l' m' → F2 R (l ++ l') (m ++ m')
 | [], _, [], _, _, h => h
 | _ :: _, _, _ :: _, _, h, h' => ⟨h.1, F2.append h.2 h'⟩
def FLDen {D : Type} [Dat D] (w : World) (P : Nat → Prop) : FL D → Value → Prop
 | .int n, v | .oint n, v => v = .int .i64 n ∧ I64 n
 | .bool b, v | .obool b, v => v = .bool b
 | .nil, v => v = .slice none 0 0
 | .dat d, v => Dat.den w P d v
def ArgDen {D : Type} [Dat D] (w : World) (P : Nat → Prop) (x : Bool × List (FL D)) (v : Value) : Prop :=
 if x.1 then ∃ vs, v = .agg vs.toArray ∧ F2 (FLDen w P) x.2 vs else ∃ l, x.2 = [l] ∧ FLDen w P l v
def RetDen {D : Type} [Dat D] (w : World) (P : Nat → Prop) (ret : List (Bool × List (FL D))) (tup : Bool) (v : Value) : Prop :=
 if tup then ∃ vs, v = .tuple vs.toArray ∧ F2 (ArgDen w P) ret vs else ∃ r, ret = [r] ∧ ArgDen w P r v
def Gives {D : Type} [Dat D] (A : Nat → Prop) (ret : List (Bool × List (FL D))) (tup : Bool) (w : World) (e : Ending) (w' : World) : Prop :=
 ∃ v, e = .returned v ∧ RetDen w' (fun b => A b ∨ w.heap.size ≤ b) ret tup v ∧ Below w.heap.size w w'
class DatOk (D : Type) [Dat D] : Prop where
 keep : ∀ {w w' : World} {P Q : Nat → Prop} {d : D} {v : Value}, Dat.den w P d v → (∀ b, P b → b < w.heap.size → w'.heap[b]? = w.heap[b]?) → (∀ b, P b → b < w.heap.size → Q b) → Dat.den w' Q d v
 slice : ∀ {w : World} {P : Nat → Prop} {d : D} {v : Value}, Dat.den w P d v → ∃ a cap, v = .slice a (Dat.len d) cap ∧ Dat.len d ≤ cap ∧ cap ≤ maxLen ∧ (0 < Dat.len d → ∃ b o, a = some ⟨b, o, none⟩)
 peek : ∀ {w : World} {P : Nat → Prop} {d : D} {v : Value} {o n : Nat} {ls : List (FL D)}, Dat.den w P d v → Dat.peek d o n = some ls → ∃ b o0 len cap vs, v = .slice (some ⟨b, o0, none⟩) len cap ∧ F2 (FLDen w P) ls vs ∧ ls.length = n ∧ ∀ i x, vs[i]? = some x → w.cell? ⟨b, o0 + (o + i), none⟩ = some x
 pack : ∀ {w : World} {P : Nat → Prop} {T n : Nat} {ls : List (FL D)} {vs : List Value} {d : D} {b o cap : Nat}, Dat.pack T n ls = some d → F2 (FLDen w P) ls vs → (∀ i x, vs[i]? = some x → w.cell? ⟨b, o + i, none⟩ = some x) → P b → n ≤ cap → cap ≤ maxLen → Dat.den w P d (.slice (some ⟨b, o, none⟩) n cap)
theorem FLDen.keep {D : Type} [Dat D] [DatOk D] {w w' : World} {P Q : Nat → Prop} {x : FL D} {v : Value} (h : FLDen w P x v) (hb : ∀ b, P b → b < w.heap.size → w'.heap[b]? = w.heap[b]?) (hq : ∀ b, P b → b < w.heap.size → Q b) : FLDen w' Q x v := by
 cases x <;> first | exact DatOk.keep h hb hq | exact h
theorem ArgDen.keep {D : Type} [Dat D] [DatOk D] {w w' : World} {P Q : Nat → Prop} {x : Bool × List (FL D)} {v : Value} (h : ArgDen w P x v) (hb : ∀ b, P b → b < w.heap.size → w'.heap[b]? = w.heap[b]?) (hq : ∀ b, P b → b < w.heap.size → Q b) : ArgDen w' Q x v := by
 obtain ⟨t, l⟩ := x
 cases t
 ·obtain ⟨a, h1, h2⟩ := h
  exact ⟨a, h1, h2.keep hb hq⟩
 ·obtain ⟨vs, h1, h2⟩ := h
  exact ⟨vs, h1, h2.imp fun _ _ h => h.keep hb hq⟩
def AllP : List Prop → Prop
 | [] => True
 | p :: r => p ∧ AllP r
theorem allP_append {l m : List Prop} : AllP (l ++ m) ↔ AllP l ∧ AllP m := by
 induction l with
 | nil => simp [AllP]
 | cons a r ih => simp [AllP, ih, and_assoc]
def callable (P : Program) (f : FuncId) : Prop := ∃ fn c, P.funcs[f]? = some fn ∧ (fn.name == "runtime.NumGoroutine") = false ∧ fn.body = some c
def SpecOk {D : Type} [Dat D] (P : Program) (S : Spec D) : Prop :=
 ∀ f args orc ret tup pre orc', S f args orc = some (ret, tup, pre, orc') → callable P f ∧ (AllP pre → ∀ (w : World) (A : Nat → Prop) vs, F2 (ArgDen w A) args vs → Calls P f vs.toArray w (Gives A ret tup w))
section
variable {D : Type} [Dat D]
def Wr (ρ : Env) (η : Nat → Option (SO D)) (b : Nat) : Prop := ∃ h c T, η h = some (.own c T) ∧ (ρ h).b = b
def Ok (w0 : World) (A : Nat → Prop) (ρ : Env) (η : Nat → Option (SO D)) (b : Nat) : Prop := (A b ∧ b < w0.heap.size) ∨ (w0.heap.size ≤ b ∧ ¬ Wr ρ η b)
def ObjOk (w0 : World) (ρ : Env) (K : Nat → Prop) (h : Nat) (w : World) : SO D → Prop
 | .own c T => w.heap[(ρ h).b]? = some (.cells (c.map (SV.den ρ)).toArray T (0, 0)) ∧ (ρ h).o = 0 ∧ w0.heap.size ≤ (ρ h).b ∧ ∀ a ∈ c, WF (a.den ρ)
 | .ro c _ n => (∀ i a, c[i]? = some a → w.cell? ⟨(ρ h).b, (ρ h).o + i, none⟩ = some (a.den ρ)) ∧ (∀ a ∈ c, WF (a.den ρ)) ∧ K (ρ h).b ∧ (ρ h).b < w.heap.size ∧ n ≤ (ρ h).cap ∧ (ρ h).cap ≤ maxLen
 | .dat d => Dat.den w K d (ρ h).v ∧ ρ h = entOf (ρ h).v
structure Rep (w0 : World) (A : Nat → Prop) (nT : Nat) (ρ : Env) (τ : Nat → SX) (η : Nat → Option (SO D)) (a : Act) (w : World) : Prop where
 size : a.tmps.size = nT
 tmps : ∀ t, a.tmps.getD t undef = (τ t).den ρ
 wf : ∀ t, (τ t).wf ρ
 keep : Below w0.heap.size w0 w
 objs : ∀ h o, η h = some o → ObjOk w0 ρ (Ok w0 A ρ η) h w o
 inj : ∀ h h' c T c' T', η h = some (.own c T) → η h' = some (.own c' T') → (ρ h).b = (ρ h').b → h = h'
 defers : a.defers = []
def Good (w0 : World) (A : Nat → Prop) (nT : Nat) (ρ : Env) (C : Nat → Prop) (τ : Nat → SX) (η : Nat → Option (SO D)) (a : Act) (w : World) : Prop :=
 ∀ ρ' : Env, (∀ h, C h → ρ' h = ρ h) → Rep w0 A nT ρ' τ η a w
theorem inI64_ok {n : Int} (h : inI64 n = true) : I64 n := by
 simp only [inI64, Bool.and_eq_true, decide_eq_true_eq] at h
 exact h
theorem wfV_ok {v : Value} (h : wfV v = true) : WF v := by
 refine ⟨?_, fun n hn => ?_⟩
 ·cases v <;> first | rfl | (simp [wfV] at h)
 ·subst hn
  exact inI64_ok h
theorem wf_int {n : Int} (h : I64 n) : WF (.int .i64 n) := ⟨rfl, fun m hm => by cases hm; exact h⟩
theorem wf_bool (b : Bool) : WF (.bool b) := ⟨rfl, fun m hm => by cases hm⟩
theorem wf_ptr (a : Option Addr) : WF (.pointer a) := ⟨rfl, fun m hm => by cases hm⟩
theorem wf_slice (a : Option Addr) (n c : Nat) : WF (.slice a n c) := ⟨rfl, fun m hm => by cases hm⟩
theorem wfi {n : Int} (h : WF (.int .i64 n)) : I64 n := h.2 n rfl
theorem wrap_I64 (x : Int) : I64 (IntKind.i64.wrap x) := by
 rw [IntKind.wrap_i64]
 unfold I64
 omega
end
end Go.Proofs.Ytokgpaajelgakaa.Se
namespace Go.Proofs.Ytokgpaajelgakaa.Se
open Go Go.RowKit
section
variable {D : Type} [Dat D] {P : Program} {T : TypeId}
theorem run_val {s : Sem Value} {x : Value} {w w' : World} (h : s.run P w = .ok x w') : (do pure (Next.value (← s)) : Sem Next).run P w = .ok (.value x) w' := by
  simp [h]
theorem ofV_den (ρ : Env) {v : Value} (h : wfC v = true) : (SX.ofV v).den ρ = v ∧ (SX.ofV v).wf ρ := by
  cases v with
  | agg cs =>
    refine ⟨?_, fun a ha => ?_⟩
    · simp only [SX.ofV, SX.den, List.map_map]
      congr 1
      have : (SV.den ρ ∘ SV.v) = id := rfl
      rw [this, List.map_id]
    · obtain ⟨x, hx, rfl⟩ := List.mem_map.1 ha
      exact wfV_ok (List.all_eq_true.1 h x hx)
  | tuple cs => cases h
  | _ => exact ⟨rfl, wfV_ok h⟩
theorem cells_den (ρ : Env) {x : SX} {l : List SV} (h : x.cells = some l) (hw : x.wf ρ) : (x.den ρ).cells = (l.map (SV.den ρ)).toArray ∧ ∀ a ∈ l, WF (a.den ρ) := by
  cases x with
  | one a =>
    cases h
    refine ⟨?_, fun b hb => by rw [List.mem_singleton.1 hb]; exact hw⟩
    have h1 : (a.den ρ).oneCell' = true := hw.1
    simp only [SX.den, List.map_cons, List.map_nil]
    cases hv : a.den ρ <;> first | rfl | (rw [hv] at h1; cases h1)
  | agg m => cases h; exact ⟨rfl, hw⟩
  | tup m => cases h
theorem addr_add (b o n : Nat) : (⟨b, o, none⟩ : Addr).add n = ⟨b, o + n, none⟩ := by
  unfold Addr.add
  split
  · rename_i h; subst h; rfl
  · rfl
theorem aggT_some {T : TypeId} {g : Bool} (h : aggT P T = some g) (w : World) : (isAgg T).run P w = .ok g w := by
  unfold aggT at h
  cases hu : P.underlying T with
  | none => rw [hu] at h; cases h
  | some d =>
    rw [hu] at h
    simp only [isAgg, Sem.run_bind, run_underlying hu, Result.andThen_ok]
    cases d <;> simp_all
theorem sizeT_some {T : TypeId} {n : Nat} (h : sizeT P T = some n) (w : World) : (sizeOf T).run P w = .ok n w := by
  unfold sizeT at h
  cases hq : P.info? T with
  | none => rw [hq] at h; cases h
  | some i =>
    rw [hq] at h
    simp [sizeOf, typeInfo, hq] at h ⊢
    exact h
theorem load_den (ρ : Env) {w : World} {T : TypeId} {g : Bool} {n b o : Nat} {l : List SV} {x : SX} (hg : aggT P T = some g) (hn : sizeT P T = some n) (hl : l.length = n) (hx : sxOf g l = some x)
    (hc : ∀ (i : Nat) (a : SV), l[i]? = some a → w.cell? ⟨b, o + i, none⟩ = some (a.den ρ)) : (loadVar T ⟨b, o, none⟩).run P w = .ok (x.den ρ) w := by
  simp only [loadVar, Sem.run_bind, aggT_some hg, Result.andThen_ok]
  cases g with
  | true =>
    cases hx
    have hr : (loadCells ⟨b, o, none⟩ (l.map (SV.den ρ)).length).run P w = .ok (l.map (SV.den ρ)).toArray w := run_loadCells_list (P := P) w ⟨b, o, none⟩ (l.map (SV.den ρ)) (fun j v hv => by
      rw [List.getElem?_map] at hv
      cases hq : l[j]? with
      | none => rw [hq] at hv; cases hv
      | some a => rw [hq] at hv; cases hv; rw [addr_add]; exact hc j a hq)
    rw [List.length_map, hl] at hr
    simp [sizeT_some hn, hr, SX.den]
  | false =>
    match l, hx with
    | [a], hx =>
      cases hx
      have := hc 0 a rfl
      rw [Nat.add_zero] at this
      simp [this, SX.den]
theorem sxOf_wf (ρ : Env) {g : Bool} {l : List SV} {x : SX} (hx : sxOf g l = some x) (hw : ∀ a ∈ l, WF (a.den ρ)) : x.wf ρ := by
  cases g with
  | true => cases hx; exact hw
  | false =>
    match l, hx with
    | [a], hx => cases hx; exact hw a (List.mem_singleton.2 rfl)
theorem asI_den (ρ : Env) {x : SX} {t : Bool} {n : Int} (h : asI x = some (t, n)) (hw : x.wf ρ) : x.den ρ = .int .i64 n ∧ I64 n := by
  unfold asI at h
  split at h
  · cases h; exact ⟨rfl, wfi hw⟩
  · cases h; exact ⟨rfl, wfi hw⟩
  · cases h
theorem mkI_den (ρ : Env) (t : Bool) {n : Int} (h : I64 n) : (mkI t n).den ρ = .int .i64 n ∧ (mkI t n).wf ρ := by
  cases t <;> exact ⟨rfl, wf_int h⟩
theorem cmpI_run {op : BinOp} {a b : Int} {t : Bool} (h : cmpI op a b = some t) (w : World) : (binOp op T (.int .i64 a) (.int .i64 b)).run P w = .ok (.bool t) w := by
  cases op <;> simp only [cmpI] at h <;> first | (cases h; done) | (obtain rfl := Option.some.inj h; simp [binOp, Op.intCmp])
theorem arI_run {op : BinOp} {a b n : Int} (h : arI op a b = some n) (w : World) : (binOp op T (.int .i64 a) (.int .i64 b)).run P w = .ok (.int .i64 n) w ∧ I64 n := by
  cases op <;> simp only [arI] at h <;> first | (cases h; done) | (obtain rfl := Option.some.inj h; exact ⟨by simp [binOp, Op.intArith], wrap_I64 _⟩)
theorem eqGuard_int (op : BinOp) (T : TypeId) (x y : Operand) (a b : Int) (w : World) : (eqGuard op T x y (.int .i64 a) (.int .i64 b)).run P w = .ok () w := by
  unfold eqGuard
  cases op <;> simp
theorem eqGuard_bool (op : BinOp) (T : TypeId) (x y : Operand) (a b : Bool) (w : World) : (eqGuard op T x y (.bool a) (.bool b)).run P w = .ok () w := by
  unfold eqGuard
  cases op <;> simp
theorem equalIn_bool {T : TypeId} (d : Nat) (a b : Bool) (w : World) (h : P.underlying T = some .bool) : (Op.equalIn (d + 1) T (.bool a) (.bool b)).run P w = .ok (a == b) w := by
  unfold Op.equalIn
  simp only [Sem.run_bind, run_underlying h, Result.andThen_ok, Sem.run_pure]
theorem eql_bool {T : TypeId} (a b : Bool) (w : World) (h : P.underlying T = some .bool) : (binOp .eql T (.bool a) (.bool b)).run P w = .ok (.bool (a == b)) w := by
  have h1 : (Op.equal T (.bool a) (.bool b)).run P w = .ok (a == b) w := equalIn_bool _ a b w h
  simp [binOp, h1]
def Opn (a : Act) (ρ : Env) (e : Operand → SX) (x : Operand) : Prop := a.eval x = (e x).den ρ ∧ (e x).wf ρ
theorem cellsAt_ok {w0 : World} {ρ : Env} {K : Nat → Prop} {η : Nat → Option (SO D)} {h o n : Nat} {l : List SV} {w : World} (hc : cellsAt η h o n = some l) (ho : ∀ x, η h = some x → ObjOk w0 ρ K h w x) :
    l.length = n ∧ (∀ (i : Nat) (a : SV), l[i]? = some a → w.cell? ⟨(ρ h).b, (ρ h).o + o + i, none⟩ = some (a.den ρ)) ∧ ∀ a ∈ l, WF (a.den ρ) := by
  unfold cellsAt at hc
  have key : ∀ c : List SV, (∀ (i : Nat) (a : SV), c[i]? = some a → w.cell? ⟨(ρ h).b, (ρ h).o + i, none⟩ = some (a.den ρ)) → (∀ a ∈ c, WF (a.den ρ)) → (bif Nat.beq ((c.drop o).take n).length n then some ((c.drop o).take n) else none) = some l →
      l.length = n ∧ (∀ (i : Nat) (a : SV), l[i]? = some a → w.cell? ⟨(ρ h).b, (ρ h).o + o + i, none⟩ = some (a.den ρ)) ∧ ∀ a ∈ l, WF (a.den ρ) := by
    intro c h1 h2 h3
    cases hb : Nat.beq ((c.drop o).take n).length n with
    | false => rw [hb] at h3; cases h3
    | true =>
      rw [hb] at h3
      obtain rfl := Option.some.inj h3
      refine ⟨Nat.eq_of_beq_eq_true hb, fun i a ha => ?_, fun a ha => h2 a (List.mem_of_mem_drop (List.mem_of_mem_take ha))⟩
      have hlt : i < n := by
        have := (List.getElem?_eq_some_iff.1 ha).1
        rw [List.length_take] at this
        omega
      rw [List.getElem?_take_of_lt hlt, List.getElem?_drop] at ha
      rw [Nat.add_assoc]
      exact h1 (o + i) a ha
  cases hq : η h with
  | none =>
    rw [hq] at hc
    exact key [] (fun i a h => by simp at h) (fun a h => by cases h) hc
  | some x =>
    rw [hq] at hc
    have hx := ho x hq
    cases x with
    | own c T =>
      obtain ⟨h1, h2, -, h4⟩ := hx
      refine key c (fun i a ha => ?_) h4 hc
      rw [cell_of_row w _ _ _ _ _ h1, h2, Nat.zero_add]
      simp [ha]
    | ro c T m => exact key c hx.1 hx.2.1 hc
    | dat d => exact key [] (fun i a h => by simp at h) (fun a h => by cases h) hc
theorem max_run (t : Array TypeId) (u : TypeId) (a b : Int) (w : World) : (Builtin.max_ t u #[.int .i64 a, .int .i64 b]).run P w = .ok (.int .i64 (max a b)) w := by
  have : (if b > a then b else a) = max a b := by omega
  simp [Builtin.max_, Builtin.max2, this]
theorem min_run (t : Array TypeId) (u : TypeId) (a b : Int) (w : World) : (Builtin.min_ t u #[.int .i64 a, .int .i64 b]).run P w = .ok (.int .i64 (min a b)) w := by
  have : (if b < a then b else a) = min a b := by omega
  simp [Builtin.min_, Builtin.min2, this]
theorem fieldOf_some {s f off : Nat} {ty : TypeId} (h : fieldOf P s f = some (off, ty)) : ∃ fs x, P.underlying s = some (.struct fs) ∧ fs[f]? = some x ∧ x.offset = off ∧ x.type = ty := by
  unfold fieldOf at h
  split at h
  · rename_i fs hu
    cases hx : fs[f]? with
    | none => rw [hx] at h; cases h
    | some x => rw [hx] at h; cases h; exact ⟨fs, x, hu, hx, rfl, rfl⟩
  · cases h
theorem elemT_some {t e : TypeId} (h : elemT P t = some e) : P.underlying t = some (.slice e) := by
  unfold elemT at h
  split at h
  · rename_i x hu; cases h; exact hu
  · cases h
variable {w0 : World} {ρ : Env} {K : Nat → Prop} {η : Nat → Option (SO D)} {x : SX} {rd : List Nat} {a : Act} {w : World} {e : Operand → SX} {o : Oper}
theorem val_load {ty : TypeId} {y : Operand} (ho : o.op = .load ty y) (hy : Opn a ρ e y) (hobj : ∀ h ∈ rd, ∀ x, η h = some x → ObjOk w0 ρ K h w x) (h : val P η e (.load ty y) = some (x, rd)) : (execOp a.eval o).run P w = .ok (.value (x.den ρ)) w ∧ x.wf ρ := by
  simp only [val] at h
  split at h
  · rename_i hh oo g n he hg hn
    cases hb : (g || Nat.beq n 1) with
    | false => rw [hb] at h; cases h
    | true =>
      rw [hb] at h
      simp only [cond_true] at h
      split at h
      · rename_i l hl
        split at h
        · rename_i x' hx
          obtain ⟨rfl, rfl⟩ := Prod.mk.inj (Option.some.inj h)
          obtain ⟨h1, h2, h3⟩ := cellsAt_ok hl (hobj hh (List.mem_singleton.2 rfl))
          have hv : a.eval y = .pointer (some ⟨(ρ hh).b, (ρ hh).o + oo, none⟩) := by rw [hy.1, he]; rfl
          refine ⟨?_, sxOf_wf ρ hx h3⟩
          unfold execOp
          simp only [ho]
          refine run_val ?_
          simp only [hv, Instr.loadAt, Instr.sureAddr, Sem.run_bind, Sem.run_pure, Result.andThen_ok]
          exact load_den ρ hg hn h1 hx h2
        · cases h
      · cases h
  · cases h
end
end Go.Proofs.Ytokgpaajelgakaa.Se
namespace Go.Proofs.Ytokgpaajelgakaa.Se
open Go Go.RowKit
theorem fold_set (off : Nat) : ∀ (l : List Value) (k : Nat) (c : List Value), off + k + l.length ≤ c.length →
    (l.zipIdx k).foldl (fun (cs : Array Value) (p : Value × Nat) => cs.setIfInBounds (off + p.2) p.1) c.toArray = (c.take (off + k) ++ l ++ c.drop (off + k + l.length)).toArray
  | [], k, c, _ => by simp
  | v :: r, k, c, h => by
    have hl : off + k < c.length := by simp only [List.length_cons] at h; omega
    rw [List.zipIdx_cons, List.foldl_cons]
    have h1 : (c.toArray.setIfInBounds (off + k) v) = (c.set (off + k) v).toArray := by simp
    simp only [h1]
    rw [fold_set off r (k + 1) (c.set (off + k) v) (by simp only [List.length_cons, List.length_set] at h ⊢; omega)]
    congr 1
    have h2 : (c.set (off + k) v).take (off + (k + 1)) = c.take (off + k) ++ [v] := by
      rw [← Nat.add_assoc, List.take_add_one, List.take_set_of_le (Nat.le_refl _)]
      simp [hl]
    rw [h2]
    have h3 : (c.set (off + k) v).drop (off + (k + 1) + r.length) = c.drop (off + k + (r.length + 1)) := by
      rw [List.drop_set_of_lt (by omega)]
      congr 1
      omega
    rw [h3]
    simp
theorem fold_set0 (off : Nat) (l : List Value) (c : List Value) (h : off + l.length ≤ c.length) :
    (l.toArray.zipIdx.foldl (fun (cs : Array Value) (p : Value × Nat) => cs.setIfInBounds (off + p.2) p.1) c.toArray) = (c.take off ++ l ++ c.drop (off + l.length)).toArray := by
  have := fold_set off l 0 c (by omega)
  simpa using this
section
variable {D : Type} [Dat D] {P : Program} {T : TypeId}
variable {w0 : World} {ρ : Env} {K : Nat → Prop} {η : Nat → Option (SO D)} {x : SX} {rd : List Nat} {a : Act} {w : World} {e : Operand → SX} {o : Oper}
theorem setR_map (c : List SV) (off : Nat) (l : List SV) : (setR c off l).map (SV.den ρ) = (c.map (SV.den ρ)).take off ++ l.map (SV.den ρ) ++ (c.map (SV.den ρ)).drop (off + (l.map (SV.den ρ)).length) := by
  simp [setR, List.map_take, List.map_drop]
theorem setR_wf {c : List SV} {off : Nat} {l : List SV} (hc : ∀ a ∈ c, WF (a.den ρ)) (hl : ∀ a ∈ l, WF (a.den ρ)) : ∀ a ∈ setR c off l, WF (a.den ρ) := by
  intro a ha
  simp only [setR, List.mem_append] at ha
  rcases ha with (ha | ha) | ha
  · exact hc a (List.mem_of_mem_take ha)
  · exact hl a ha
  · exact hc a (List.mem_of_mem_drop ha)
theorem setR_length {c : List SV} {off : Nat} {l : List SV} (h : off + l.length ≤ c.length) : (setR c off l).length = c.length := by
  simp only [setR, List.length_append, List.length_take, List.length_drop]
  omega
theorem fill_den {place : Nat → Option (Nat × Nat)} : ∀ {parts : List (Nat × SX)} {c c' : List SV}, fillS place c parts = some c' → (∀ p ∈ parts, p.2.wf ρ) → (∀ a ∈ c, WF (a.den ρ)) →
    Instr.fill place (c.map (SV.den ρ)).toArray (parts.map fun p => (p.1, p.2.den ρ)) = some (c'.map (SV.den ρ)).toArray ∧ (∀ a ∈ c', WF (a.den ρ)) ∧ c'.length = c.length
  | [], c, c', h, _, hc => by cases h; exact ⟨rfl, hc, rfl⟩
  | (i, x) :: r, c, c', h, hp, hc => by
    simp only [fillS] at h
    split at h
    · rename_i off size l hpl hx
      cases hb : (Nat.beq l.length size && Nat.ble (off + l.length) c.length) with
      | false => rw [hb] at h; cases h
      | true =>
        rw [hb] at h
        simp only [cond_true] at h
        obtain ⟨hb1, hb2⟩ := Bool.and_eq_true_iff.1 hb
        have hb1 := Nat.eq_of_beq_eq_true hb1
        have hb2 := Nat.le_of_ble_eq_true hb2
        obtain ⟨hd, hw⟩ := cells_den ρ hx (hp _ (List.mem_cons_self ..))
        obtain ⟨h1, h2, h3⟩ := fill_den h (fun p hq => hp p (List.mem_cons_of_mem _ hq)) (setR_wf hc hw)
        refine ⟨?_, h2, by rw [h3, setR_length hb2]⟩
        simp only [List.map_cons, Instr.fill, hpl, hd]
        rw [if_neg (by simp; omega)]
        rw [← h1]
        congr 1
        have := fold_set0 off (l.map (SV.den ρ)) (c.map (SV.den ρ)) (by simpa using hb2)
        rw [setR_map]
        exact this
    · cases h
theorem zeroT_some {T : TypeId} {z : List Value} (h : zeroT P T = some z) (w : World) : ∃ v, (zeroValue T).run P w = .ok v w ∧ v.cells.toList = z := by
  unfold zeroT at h
  cases hq : P.info? T with
  | none => rw [hq] at h; cases h
  | some i =>
    rw [hq] at h
    cases hz : i.zero with
    | none => simp [hz] at h
    | some v =>
      simp [hz] at h
      exact ⟨v, by simp [zeroValue, typeInfo, hq, hz], h⟩
theorem vmap_den (ρ : Env) (z : List Value) : (z.map SV.v).map (SV.den ρ) = z := by
  rw [List.map_map]
  exact List.map_id _
theorem vmap_wf {z : List Value} (h : z.all wfV = true) : ∀ a ∈ z.map SV.v, WF (a.den ρ) := by
  intro a ha
  obtain ⟨y, hy, rfl⟩ := List.mem_map.1 ha
  exact wfV_ok (List.all_eq_true.1 h y hy)
end
end Go.Proofs.Ytokgpaajelgakaa.Se