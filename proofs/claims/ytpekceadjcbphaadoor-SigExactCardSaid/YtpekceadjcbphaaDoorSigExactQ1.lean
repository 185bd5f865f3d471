/-
  Facts and contracts that the proof of SigExact uses.
-/
import Derived.Lib.ItoaNum
import Derived.Lib.ItoaLen
import Derived.Test.YtpekceadjcbphaaDoorRows
import Derived.WalkKit
import Derived.Lib.Hide
import Derived.ProofKit
import Derived.LoopTactic
import Derived.Below
import Derived.IntWalk
import Derived.Lib.Strings
import Derived.Laws.Strings2
import Derived.Deep.AppendLies
import Derived.Laws.Rows
import Derived.OwnWalk
import Derived.KernelRfl
import Derived.Deep.RegionHeld3
import Derived.Lib.Builder
import Derived.WalkSmall
import Derived.Maps.GroupsBeside
import Derived.Maps.StringElems
import Derived.Laws.OwnMore
import Derived.Deep.RegionLaw
import Derived.Maps.AppendAt
import Derived.Deep.Cut
import Derived.Deep.DeepCutAuto
import Derived.Maps.OwnOps
import Derived.Maps.OwnSet
import Derived.Lib.MinMax
import Derived.Laws.IdiomCopy
import Derived.Deep.Slices
import Derived.Lib.QuietBelow
import Derived.StillTailTactics
import Derived.BigQuiet
import Derived.Deep.RegionWith
import Derived.OrdersHeld
import Derived.Recover
import Derived.RegionTactic
import Derived.Defers
import Derived.Laws.StructEq
import GoSem.Core.Float
import Derived.Laws.Cover2
import Derived.Laws.FloatArith
import Derived.Laws.Externs
import Derived.Deep.QuietTactic
import Derived.Deep.CutBlock
import Derived.Deep.LoopGhost
import Derived.Test.YtpekceadjcbphaaDoorShelf
import Derived.Lib.AppendIntMem
import Derived.Lib.LaidTab
import Derived.OpenShut
import Derived.Carry
import Derived.LaidMore
import Derived.LaidSub
import Derived.LaidHandle
import Derived.Stop.Joined
import Derived.JoinedOf
import Derived.Test.YtpekceadjcbphaaDoorCards
import Derived.Test.YtpekceadjcbphaaDoorTie
import Derived.SevenTiedAt
import Derived.ChangeMaps5
namespace Go.Proofs.YtpekceadjcbphaaDoor
open Go.Lib

/-- What a list of digits says. -/
def val (l : List UInt8) : Nat := l.foldl (fun n c => 10 * n + (c.toNat - 48)) 0
def isd (c : UInt8) : Bool := decide (48 ≤ c.toNat) && decide (c.toNat ≤ 57)
def digs (l : List UInt8) : Bool := l.all isd

theorem val_snoc (l : List UInt8) (c : UInt8) : val (l ++ [c]) = 10 * val l + (c.toNat - 48) := by simp [val]
theorem digs_snoc (l : List UInt8) (c : UInt8) : digs (l ++ [c]) = (digs l && isd c) := by simp [digs]

theorem foldl_mono (l : List UInt8) : ∀ a : Nat, a ≤ l.foldl (fun n c => 10 * n + (c.toNat - 48)) a := by
  induction l with
  | nil => intro a; exact Nat.le_refl _
  | cons c l ih => intro a; simp only [List.foldl_cons]; exact Nat.le_trans (by omega) (ih _)
theorem foldl_pow (l : List UInt8) : ∀ a : Nat, a * 10 ^ l.length ≤ l.foldl (fun n c => 10 * n + (c.toNat - 48)) a := by
  induction l with
  | nil => intro a; simp
  | cons c l ih =>
    intro a
    simp only [List.foldl_cons, List.length_cons, Nat.pow_succ]
    refine Nat.le_trans ?_ (ih _)
    rw [Nat.mul_comm (10 ^ l.length) 10, ← Nat.mul_assoc, Nat.mul_comm a 10]
    exact Nat.mul_le_mul_right _ (by omega)
theorem val_append (l m : List UInt8) : val l ≤ val (l ++ m) := by
  simp only [val, List.foldl_append]; exact foldl_mono _ _

/-- The number that a text says, if it says one. -/
def getB (l : List UInt8) : Option Nat :=
  if l = [] ∨ (1 < l.length ∧ l.head? = some 48) then none
  else if digs l = true ∧ val l ≤ 1000000 then some (val l) else none

/-- The page's bound on the length says nothing more. -/
theorem get_long {l : List UInt8} (h : 7 < l.length) : getB l = none := by
  unfold getB
  by_cases h1 : l = [] ∨ (1 < l.length ∧ l.head? = some 48)
  · rw [if_pos h1]
  · rw [if_neg h1, if_neg]
    rintro ⟨hd, hv⟩
    match l, h with
    | c :: l, h =>
      have hc : c ≠ 48 := fun e => h1 (Or.inr ⟨by omega, by rw [e]; rfl⟩)
      simp only [digs, List.all_cons, Bool.and_eq_true, isd, decide_eq_true_eq] at hd
      have hc2 : c.toNat ≠ 48 := fun e => hc (UInt8.toNat_inj.1 (by rw [e]; rfl))
      have hp := foldl_pow l (10 * 0 + (c.toNat - 48))
      have hl : 7 ≤ l.length := by simp at h; omega
      have hpow : 10 ^ 7 ≤ 10 ^ l.length := Nat.pow_le_pow_right (by omega) hl
      simp only [val, List.foldl_cons] at hv
      have : 1 * 10 ^ 7 ≤ (10 * 0 + (c.toNat - 48)) * 10 ^ l.length := Nat.mul_le_mul (by omega) hpow
      omega
end Go.Proofs.YtpekceadjcbphaaDoor

namespace Go.Proofs.YtpekceadjcbphaaDoor
open Go.RowKit

def givenN (s : Int) : Int := if s = 3 ∨ s = 5 ∨ s = 6 ∨ s = 8 ∨ s = 10 ∨ s = 11 then 4 else if s = 1 ∨ s = 2 ∨ s = 7 ∨ s = 9 then 5 else if s = 4 ∨ s = 12 ∨ s = 13 ∨ s = 14 ∨ s = 21 then 6 else if s = 15 ∨ s = 18 ∨ s = 19 ∨ s = 20 then 9 else if s = 16 ∨ s = 17 then 12 else -1

def kidsN (k s : Int) : Int :=
  if k = 1 ∨ k = 2 then 0 else if k = 18 ∨ k = 19 then 1 else if k = 3 ∨ k = 6 ∨ k = 13 ∨ k = 14 ∨ k = 15 ∨ k = 16 ∨ k = 21 ∨ k = 11 then 2
  else if k = 4 ∨ k = 8 ∨ k = 9 ∨ k = 10 ∨ k = 20 then 3 else if k = 5 ∨ k = 7 ∨ k = 12 ∨ k = 17 then 4 else if k = 22 then 6 else if k = 23 then givenN s else -1

def bindsN (k i : Int) : Int :=
  if k = 3 ∨ k = 5 ∨ k = 6 ∨ k = 7 ∨ k = 8 ∨ k = 9 ∨ k = 13 ∨ k = 14 ∨ k = 16 ∨ k = 17 then (if i = 1 then 1 else 0)
  else if k = 4 then (if i = 1 ∨ i = 2 then 1 else 0) else if k = 22 then (if i = 2 then 2 else 0) else 0

theorem ret_int {a b : Int} (h : a = b) : Ending.returned (.int .i64 a) = .returned (.int .i64 b) := by rw [h]
theorem ret_bool {a b : Bool} (h : a = b) : Ending.returned (.bool a) = .returned (.bool b) := by rw [h]

set_option maxHeartbeats 1000000 in
theorem given_any (s : Int) (w : World) : Calls Tryd.prog 83 #[.int .i64 s] w fun e w' => e = .returned (.int .i64 (givenN s)) ∧ w = w' := by
  go_enter Tryd.func83, Tryd.ntmps83
  go_wp2
  all_goals go_ret
  all_goals exact ⟨ret_int (by simp only [beq_iff_eq, beq_eq_false_iff_ne, ne_eq] at *; unfold givenN; (repeat' split) <;> omega), rfl⟩

set_option maxHeartbeats 1000000 in
theorem kids_any (k s : Int) (w : World) : Calls Tryd.prog 81 #[.int .i64 k, .int .i64 s] w fun e w' => e = .returned (.int .i64 (kidsN k s)) ∧ w = w' := by
  go_enter Tryd.func81, Tryd.ntmps81
  go_wp2_with (go_at_call 83; refine (given_any _ _).mono ?_; rintro e w' ⟨rfl, rfl⟩)
  all_goals go_ret
  all_goals exact ⟨ret_int (by simp only [beq_iff_eq, beq_eq_false_iff_ne, ne_eq] at *; unfold kidsN; (repeat' split) <;> omega), rfl⟩

set_option maxHeartbeats 1000000 in
theorem binds_any (k i : Int) (w : World) : Calls Tryd.prog 82 #[.int .i64 k, .int .i64 i] w fun e w' => e = .returned (.int .i64 (bindsN k i)) ∧ w = w' := by
  go_enter Tryd.func82, Tryd.ntmps82
  go_wp2
  all_goals go_ret
  all_goals exact ⟨ret_int (by simp only [beq_iff_eq, beq_eq_false_iff_ne, ne_eq] at *; unfold bindsN; (repeat' split) <;> omega), rfl⟩

def levelB (i : Int) : Bool := decide (0 ≤ i) && decide (i ≤ 1000)
end Go.Proofs.YtpekceadjcbphaaDoor

namespace Go.Proofs.YtpekceadjcbphaaDoor
open Go.Lib

def headsW : List (List UInt8) := [[], [115, 111, 114, 116], [], [112, 105], [108, 97, 109], [97, 112, 112], [115, 105, 103], [112, 97, 105, 114], [102, 115, 116], [115, 110, 100], [101, 113], [114, 101, 102, 108], [116, 114], [80, 105], [76, 97, 109], [65, 112, 112], [83, 105, 103], [80, 97, 105, 114], [70, 115, 116], [83, 110, 100], [69, 113], [82, 101, 102, 108], [74], [117, 115, 101]]
def symsW : List (List UInt8) := [[117, 105, 112], [102, 117, 110, 101, 120, 116], [115, 121, 109], [116, 114, 97, 110, 115], [116, 114], [104, 101, 116], [116, 121, 112], [116, 114, 104], [104, 112], [104, 50, 101], [101, 50, 104], [114, 112], [99, 112, 105], [99, 115, 105, 103], [99, 108, 97, 109], [99, 97, 112, 112], [99, 112, 97, 105, 114], [99, 102, 115, 116], [99, 115, 110, 100], [99, 101, 113], [99, 114, 101, 102, 108]]
def levelsN (k : Int) : Int := if k = 1 ∨ k = 10 ∨ k = 11 ∨ k = 12 then 1 else if k = 3 ∨ k = 4 ∨ k = 5 ∨ k = 6 ∨ k = 7 ∨ k = 8 ∨ k = 9 ∨ k = 23 then 2 else 0
end Go.Proofs.YtpekceadjcbphaaDoor

namespace Go.Proofs.YtpekceadjcbphaaDoor

def blankC (c : UInt8) : Bool := c.toNat == 32 || c.toNat == 9 || c.toNat == 10
def lineC (c : UInt8) : Bool := !(c.toNat == 10)
def letterC (c : UInt8) : Bool := (decide (97 ≤ c.toNat) && decide (c.toNat ≤ 122)) || (decide (65 ≤ c.toNat) && decide (c.toNat ≤ 90))
def wordC (c : UInt8) : Bool := letterC c || isd c
/-- How many of the first bytes are of a sort. -/
def runL (p : UInt8 → Bool) : List UInt8 → Nat
  | [] => 0
  | c :: r => if p c = true then runL p r + 1 else 0
theorem runL_le (p : UInt8 → Bool) : ∀ l, runL p l ≤ l.length
  | [] => Nat.le_refl _
  | c :: r => by unfold runL; split <;> simp <;> have := runL_le p r <;> omega
theorem runL_yes {p : UInt8 → Bool} {c : UInt8} {r : List UInt8} (h : p c = true) : runL p (c :: r) = runL p r + 1 := by rw [runL, if_pos h]
theorem runL_no {p : UInt8 → Bool} {c : UInt8} {r : List UInt8} (h : p c = false) : runL p (c :: r) = 0 := by rw [runL, if_neg (by rw [h]; decide)]
/-- How many bytes of blanks and remarks stand first. -/
def skipL (l : List UInt8) : Nat :=
  match l with
  | [] => 0
  | c :: r => if blankC c = true then skipL r + 1
    else if c.toNat = 59 then runL lineC r + 1 + skipL (r.drop (runL lineC r))
    else 0
termination_by l.length
decreasing_by
  · simp
  · simp; omega
theorem skipL_nil : skipL [] = 0 := by rw [skipL]
theorem skipL_blank {c : UInt8} {r : List UInt8} (h : blankC c = true) : skipL (c :: r) = skipL r + 1 := by rw [skipL, if_pos h]
theorem skipL_note {c : UInt8} {r : List UInt8} (h : blankC c = false) (h2 : c.toNat = 59) : skipL (c :: r) = runL lineC r + 1 + skipL (r.drop (runL lineC r)) := by rw [skipL, if_neg (by rw [h]; decide), if_pos h2]
theorem skipL_stop {c : UInt8} {r : List UInt8} (h : blankC c = false) (h2 : ¬ c.toNat = 59) : skipL (c :: r) = 0 := by rw [skipL, if_neg (by rw [h]; decide), if_neg h2]
theorem skipL_le : ∀ n (l : List UInt8), l.length ≤ n → skipL l ≤ l.length := by
  intro n
  induction n with
  | zero => intro l h; have : l = [] := List.eq_nil_of_length_eq_zero (by omega); subst this; rw [skipL_nil]; exact Nat.le_refl _
  | succ n ih =>
    intro l h
    match l with
    | [] => rw [skipL_nil]; exact Nat.le_refl _
    | c :: r =>
      simp only [List.length_cons] at h ⊢
      cases hb : blankC c with
      | true => rw [skipL_blank hb]; have := ih r (by omega); omega
      | false =>
        by_cases h2 : c.toNat = 59
        · rw [skipL_note hb h2]
          have h3 := ih (r.drop (runL lineC r)) (by rw [List.length_drop]; omega)
          rw [List.length_drop] at h3
          have := runL_le lineC r
          omega
        · rw [skipL_stop hb h2]; omega
/-- The kind and the length of the token that stands first. -/
def nextL (l : List UInt8) : Option (Nat × Nat) :=
  match l with
  | [] => none
  | c :: r =>
    if c.toNat = 40 then some (1, 1)
    else if c.toNat = 41 then some (2, 1)
    else if letterC c = true then (if 20 < runL wordC (c :: r) then none else some (3, runL wordC (c :: r)))
    else if isd c = true then (if getB ((c :: r).take (runL isd (c :: r))) = none ∨ ((((c :: r).drop (runL isd (c :: r))).head?.map letterC).getD false) = true then none else some (4, runL isd (c :: r)))
    else none
theorem nextL_range {l : List UInt8} {k n : Nat} (h : nextL l = some (k, n)) : 1 ≤ n ∧ n ≤ l.length ∧ 1 ≤ k ∧ k ≤ 4 := by
  match l with
  | [] => cases h
  | c :: r =>
    have hw := runL_le wordC (c :: r)
    have hd := runL_le isd (c :: r)
    rw [nextL] at h
    by_cases c1 : c.toNat = 40
    · rw [if_pos c1] at h; cases h; simp
    rw [if_neg c1] at h
    by_cases c2 : c.toNat = 41
    · rw [if_pos c2] at h; cases h; simp
    rw [if_neg c2] at h
    by_cases c3 : letterC c = true
    · rw [if_pos c3] at h
      by_cases c4 : 20 < runL wordC (c :: r)
      · rw [if_pos c4] at h; cases h
      · rw [if_neg c4] at h
        cases h
        have : runL wordC (c :: r) = runL wordC r + 1 := runL_yes (by unfold wordC; rw [c3]; rfl)
        omega
    rw [if_neg c3] at h
    by_cases c5 : isd c = true
    · rw [if_pos c5] at h
      by_cases c6 : getB ((c :: r).take (runL isd (c :: r))) = none ∨ ((((c :: r).drop (runL isd (c :: r))).head?.map letterC).getD false) = true
      · rw [if_pos c6] at h; cases h
      · rw [if_neg c6] at h
        cases h
        have : runL isd (c :: r) = runL isd r + 1 := runL_yes c5
        omega
    · rw [if_neg c5] at h; cases h
structure Tok where
  k : Nat
  s : List UInt8
  at_ : Nat
/-- The tokens from a place on, and the place of the first fault. -/
def lexL (l : List UInt8) (p : Nat) : List Tok × Option Nat :=
  if _h : p + skipL (l.drop p) < l.length then
    match _hn : nextL (l.drop (p + skipL (l.drop p))) with
    | none => ([], some (p + skipL (l.drop p)))
    | some (k, n) =>
      let r := lexL l (p + skipL (l.drop p) + n)
      (⟨k, (l.drop (p + skipL (l.drop p))).take n, p + skipL (l.drop p)⟩ :: r.1, r.2)
  else ([], none)
termination_by l.length - p
decreasing_by
  have := nextL_range _hn
  omega
theorem lexL_end {l : List UInt8} {p : Nat} (h : ¬ p + skipL (l.drop p) < l.length) : lexL l p = ([], none) := by rw [lexL, dif_neg h]
theorem lexL_fault {l : List UInt8} {p q : Nat} (hq : p + skipL (l.drop p) = q) (h : q < l.length) (hn : nextL (l.drop q) = none) : lexL l p = ([], some q) := by
  subst hq
  rw [lexL, dif_pos h]
  split
  · rfl
  · rename_i e; rw [hn] at e; cases e
theorem lexL_next {l : List UInt8} {p q k n : Nat} (hq : p + skipL (l.drop p) = q) (h : q < l.length) (hn : nextL (l.drop q) = some (k, n)) : lexL l p = (⟨k, (l.drop q).take n, q⟩ :: (lexL l (q + n)).1, (lexL l (q + n)).2) := by
  subst hq
  rw [lexL, dif_pos h]
  split
  · rename_i e; rw [hn] at e; cases e
  · rename_i e; rw [hn] at e; cases e; rfl
/-- Two places with the same token behind them. -/
theorem lexL_same {l : List UInt8} {p q : Nat} (h : p + skipL (l.drop p) = q + skipL (l.drop q)) : lexL l p = lexL l q := by
  by_cases h1 : q + skipL (l.drop q) < l.length
  · cases hn : nextL (l.drop (q + skipL (l.drop q))) with
    | none => rw [lexL_fault h h1 hn, lexL_fault rfl h1 hn]
    | some x => obtain ⟨k, n⟩ := x; rw [lexL_next h h1 hn, lexL_next rfl h1 hn]
  · rw [lexL_end h1, lexL_end (by rw [h]; exact h1)]
/-- The tokens ahead, and what is still to be read. -/
def lexTo (acc : List Tok) (r : List Tok × Option Nat) : List Tok × Option Nat := (acc ++ r.1, r.2)
end Go.Proofs.YtpekceadjcbphaaDoor

namespace Go.Proofs.YtpekceadjcbphaaDoor
open Go.RowKit Go.Lib

/-- What Get hands back. -/
def getV (l : List UInt8) : Value := match getB l with
  | some n => .tuple #[.int .i64 n, .bool true]
  | none => .tuple #[.int .i64 0, .bool false]
theorem getV_some {l : List UInt8} {n : Nat} (h : getB l = some n) : getV l = .tuple #[.int .i64 n, .bool true] := by unfold getV; rw [h]
theorem getV_none {l : List UInt8} (h : getB l = none) : getV l = .tuple #[.int .i64 0, .bool false] := by unfold getV; rw [h]
theorem take_snoc (s : ByteArray) (k : Nat) (h : k < s.size) : s.data.toList.take (k + 1) = s.data.toList.take k ++ [s[k]] := by
  rw [List.take_succ_eq_append_getElem (by simpa using h)]; rfl

theorem getB_of {l : List UInt8} (h1 : l ≠ []) (h2 : ¬ (1 < l.length ∧ l.head? = some 48)) (h3 : digs l = true) (h4 : val l ≤ 1000000) : getB l = some (val l) := by
  unfold getB; rw [if_neg (by rintro (h | h); exact h1 h; exact h2 h), if_pos ⟨h3, h4⟩]
theorem getB_digs {l : List UInt8} (h3 : digs l = false) : getB l = none := by
  unfold getB; split; rfl; rw [if_neg (by rw [h3]; simp)]
theorem getB_great {l : List UInt8} (h3 : 1000000 < val l) : getB l = none := by
  unfold getB; split; rfl; rw [if_neg (by omega)]
theorem isd_at (s : ByteArray) (k : Nat) (h : k < s.size) (hd : isd s[k] = false) : digs s.data.toList = false := by
  have : s[k] ∈ s.data.toList := by
    have h' : k < s.data.toList.length := by simpa using h
    exact (List.getElem_mem (n := k) h' : s.data.toList[k] ∈ _)
  unfold digs
  rw [List.all_eq_false]
  exact ⟨_, this, by rw [hd]; decide⟩
theorem val_at (s : ByteArray) (k : Nat) : val (s.data.toList.take k) ≤ val s.data.toList := by
  have := val_append (s.data.toList.take k) (s.data.toList.drop k)
  rwa [List.take_append_drop] at this
theorem head_at (s : ByteArray) (h : 0 < s.size) : s.data.toList.head? = some s[0] := by
  have h' : 0 < s.data.toList.length := by simpa using h
  rw [List.head?_eq_getElem?, List.getElem?_eq_getElem h']; rfl

set_option maxHeartbeats 1000000 in
theorem get_any (s : ByteArray) (w : World) (hs : s.size ≤ maxLen) : Calls Tryd.prog 69 #[.string s] w fun e w' => e = .returned (getV s.data.toList) ∧ w' = w := by
  unfold maxLen at hs
  have hsl : s.data.toList.length = s.size := by simp
  by_cases h0 : s.size = 0
  · have hl : s.data.toList = [] := List.eq_nil_of_length_eq_zero (by omega)
    have hl2 : s.toList = [] := by rw [ByteArray.toList_eq]; exact hl
    have HV := Lib.hid (getV_none (l := s.data.toList) (by rw [hl]; rfl))
    clear hl hsl
    go_enter Tryd.func69, Tryd.ntmps69
    go_wp2
    go_ret2
    rw [HV.out]
    exact ⟨rfl, rfl⟩
  have hne : s.data.toList ≠ [] := fun h => by rw [h] at hsl; simp at hsl; omega
  have hne2 : (!s.toList.isEmpty) = true := by rw [ByteArray.toList_eq]; simpa using hne
  have hne3 : ¬ s.toList = [] := by rw [ByteArray.toList_eq]; exact hne
  have hne4 : s.toList.isEmpty = false := by simpa using hne2
  have h0' : 0 < s.size := by omega
  by_cases h1 : 1 < s.size ∧ ((s[0].toNat : Int) = 48)
  · obtain ⟨h1, h2⟩ := h1
    have HV := Lib.hid (getV_none (l := s.data.toList) (by
      unfold getB; rw [if_pos (Or.inr ⟨by omega, by rw [head_at s h0']; congr 1; apply UInt8.toNat_inj.1; simp; omega⟩)]))
    have e2 : ((s[0].toNat : Int) == 48) = true := by simpa using h2
    clear hne hsl h2
    go_enter Tryd.func69, Tryd.ntmps69
    go_wp2
    go_ret2
    rw [HV.out]
    exact ⟨rfl, rfl⟩
  have HN2 : Hid (¬ (1 < s.data.toList.length ∧ s.data.toList.head? = some 48)) := by
    rintro ⟨h, h'⟩
    rw [head_at s h0'] at h'
    simp only [Option.some.injEq] at h'
    exact h1 ⟨by omega, by rw [h']; rfl⟩
  by_cases hA : 1 < s.size
  · have e2 : ((s[0].toNat : Int) == 48) = false := by
      have : ¬ (s[0].toNat : Int) = 48 := fun h => h1 ⟨hA, h⟩
      simpa using this
    clear h1 h0
    have HHN := Lib.hid hne
    have HHS := Lib.hid hsl
    clear hne hsl
    go_enter Tryd.func69, Tryd.ntmps69
    go_wp2
    go_loop [4, 5] (fun n i => ∃ k : Nat, k ≤ s.size ∧ i = .int .i64 k ∧ n = .int .i64 (val (s.data.toList.take k) : Nat) ∧ Hid (digs (s.data.toList.take k) = true) ∧ Hid (val (s.data.toList.take k) ≤ 1000000)) (fun _ i => s.size - (RowKit.intOf i).toNat)
    case atStart => exact ⟨0, Nat.zero_le _, rfl, rfl, rfl, Nat.zero_le _⟩
    case round =>
      obtain ⟨k, hk, rfl, rfl, hd, hv⟩ := hrel
      by_cases hlt : k < s.size
      · have hts := take_snoc s k hlt
        have hsn := val_snoc (s.data.toList.take k) s[k]
        have hdn := digs_snoc (s.data.toList.take k) s[k]
        rw [← hts] at hsn hdn
        rw [hd.out, Bool.true_and] at hdn
        have hc0 := s[k].toNat_lt
        by_cases l1 : (s[k].toNat : Int) < 48
        · have HF := Lib.hid (getV_none (getB_digs (isd_at s k hlt (by unfold isd; simp; omega))))
          clear hts hsn hdn hc0 hd hv
          go_wp2
          go_ret2
          rw [HF.out]
          exact ⟨rfl, rfl⟩
        by_cases l2 : 57 < (s[k].toNat : Int)
        · have HF := Lib.hid (getV_none (getB_digs (isd_at s k hlt (by unfold isd; simp; omega))))
          clear hts hsn hdn hc0 hd hv
          go_wp2
          go_ret2
          rw [HF.out]
          exact ⟨rfl, rfl⟩
        have hv0 := hv.out
        obtain ⟨v, hve⟩ : ∃ v : Nat, val (s.data.toList.take k) = v := ⟨_, rfl⟩
        rw [hve] at hsn hv0 ⊢
        have l3 : 48 ≤ (s[k].toNat : Int) := by omega
        have l4 : (s[k].toNat : Int) ≤ 57 := by omega
        have HDN : Hid (digs (s.data.toList.take (k + 1)) = true) := by rw [Hid, hdn]; unfold isd; simp; omega
        have HSN := Lib.hid (show ((val (s.data.toList.take (k + 1)) : Nat) : Int) = 10 * (v : Int) + ((s[k].toNat : Int) - 48) by rw [hsn]; omega)
        have hvs := val_at s (k + 1)
        have hw1 : IntKind.u8.wrap ((s[k].toNat : Int) - 48) = (s[k].toNat : Int) - 48 := IntWalk.u8_in _ (by omega)
        by_cases l5 : 1000000 < 10 * (v : Int) + ((s[k].toNat : Int) - 48)
        · have HF := Lib.hid (getV_none (getB_great (l := s.data.toList) (by have := HSN.out; omega)))
          clear hts hsn hdn hc0 hd hv hvs hve l1 l2
          go_wp2
          go_ret2
          rw [HF.out]
          exact ⟨rfl, rfl⟩
        · have HV5 : Hid (val (s.data.toList.take (k + 1)) ≤ 1000000) := by have := HSN.out; rw [Hid]; omega
          clear hts hsn hdn hc0 hd hv hvs hve l1 l2
          go_wp2
          go_round
          case rel => exact ⟨k + 1, hlt, by go_num, by rw [HSN.out], HDN, HV5⟩
          case measure => simp [RowKit.intOf]; omega
      · have hte : s.data.toList.take k = s.data.toList := List.take_of_length_le (by rw [HHS.out]; omega)
        rw [hte] at hd hv ⊢
        have HG := Lib.hid (getV_some (getB_of HHN.out HN2.out hd.out hv.out))
        clear hte hd hv
        go_wp2
        go_ret2
        rw [HG.out]
        exact ⟨rfl, rfl⟩
  · clear h1 h0
    have HHN := Lib.hid hne
    have HHS := Lib.hid hsl
    clear hne hsl
    go_enter Tryd.func69, Tryd.ntmps69
    go_wp2
    go_loop [4, 5] (fun n i => ∃ k : Nat, k ≤ s.size ∧ i = .int .i64 k ∧ n = .int .i64 (val (s.data.toList.take k) : Nat) ∧ Hid (digs (s.data.toList.take k) = true) ∧ Hid (val (s.data.toList.take k) ≤ 1000000)) (fun _ i => s.size - (RowKit.intOf i).toNat)
    case atStart => exact ⟨0, Nat.zero_le _, rfl, rfl, rfl, Nat.zero_le _⟩
    case round =>
      obtain ⟨k, hk, rfl, rfl, hd, hv⟩ := hrel
      by_cases hlt : k < s.size
      · have hts := take_snoc s k hlt
        have hsn := val_snoc (s.data.toList.take k) s[k]
        have hdn := digs_snoc (s.data.toList.take k) s[k]
        rw [← hts] at hsn hdn
        rw [hd.out, Bool.true_and] at hdn
        have hc0 := s[k].toNat_lt
        by_cases l1 : (s[k].toNat : Int) < 48
        · have HF := Lib.hid (getV_none (getB_digs (isd_at s k hlt (by unfold isd; simp; omega))))
          clear hts hsn hdn hc0 hd hv
          go_wp2
          go_ret2
          rw [HF.out]
          exact ⟨rfl, rfl⟩
        by_cases l2 : 57 < (s[k].toNat : Int)
        · have HF := Lib.hid (getV_none (getB_digs (isd_at s k hlt (by unfold isd; simp; omega))))
          clear hts hsn hdn hc0 hd hv
          go_wp2
          go_ret2
          rw [HF.out]
          exact ⟨rfl, rfl⟩
        have hv0 := hv.out
        obtain ⟨v, hve⟩ : ∃ v : Nat, val (s.data.toList.take k) = v := ⟨_, rfl⟩
        rw [hve] at hsn hv0 ⊢
        have l3 : 48 ≤ (s[k].toNat : Int) := by omega
        have l4 : (s[k].toNat : Int) ≤ 57 := by omega
        have HDN : Hid (digs (s.data.toList.take (k + 1)) = true) := by rw [Hid, hdn]; unfold isd; simp; omega
        have HSN := Lib.hid (show ((val (s.data.toList.take (k + 1)) : Nat) : Int) = 10 * (v : Int) + ((s[k].toNat : Int) - 48) by rw [hsn]; omega)
        have hvs := val_at s (k + 1)
        have hw1 : IntKind.u8.wrap ((s[k].toNat : Int) - 48) = (s[k].toNat : Int) - 48 := IntWalk.u8_in _ (by omega)
        by_cases l5 : 1000000 < 10 * (v : Int) + ((s[k].toNat : Int) - 48)
        · have HF := Lib.hid (getV_none (getB_great (l := s.data.toList) (by have := HSN.out; omega)))
          clear hts hsn hdn hc0 hd hv hvs hve l1 l2
          go_wp2
          go_ret2
          rw [HF.out]
          exact ⟨rfl, rfl⟩
        · have HV5 : Hid (val (s.data.toList.take (k + 1)) ≤ 1000000) := by have := HSN.out; rw [Hid]; omega
          clear hts hsn hdn hc0 hd hv hvs hve l1 l2
          go_wp2
          go_round
          case rel => exact ⟨k + 1, hlt, by go_num, by rw [HSN.out], HDN, HV5⟩
          case measure => simp [RowKit.intOf]; omega
      · have hte : s.data.toList.take k = s.data.toList := List.take_of_length_le (by rw [HHS.out]; omega)
        rw [hte] at hd hv ⊢
        have HG := Lib.hid (getV_some (getB_of HHN.out HN2.out hd.out hv.out))
        clear hte hd hv
        go_wp2
        go_ret2
        rw [HG.out]
        exact ⟨rfl, rfl⟩

end Go.Proofs.YtpekceadjcbphaaDoor

namespace Go.Proofs.YtpekceadjcbphaaDoor
open Go.RowKit

theorem ret_boolL {a b : Bool} (h : a = b) : Ending.returned (.bool a) = .returned (.bool b) := by rw [h]
theorem drop_at (s : ByteArray) (k : Nat) (h : k < s.size) : s.data.toList.drop k = s[k] :: s.data.toList.drop (k + 1) := by
  have h' : k < s.data.toList.length := by simpa using h
  rw [List.drop_eq_getElem_cons h']; rfl
theorem u8_eq {c : UInt8} {n : Nat} : (((c.toNat : Int)) == (n : Int)) = (c.toNat == n) := by
  by_cases h : c.toNat = n
  · rw [h]; simp
  · have h2 : ¬ (c.toNat : Int) = n := by omega
    rw [beq_eq_false_iff_ne.2 h2, beq_eq_false_iff_ne.2 h]
theorem letter_any (c : UInt8) (w : World) : Calls Tryd.prog 66 #[.int .u8 (c.toNat : Int)] w fun e w' => e = .returned (.bool (letterC c)) ∧ w' = w := by
  by_cases c0 : 97 ≤ (c.toNat : Int)
  all_goals by_cases c1 : (c.toNat : Int) ≤ 122
  all_goals by_cases c2 : 65 ≤ (c.toNat : Int)
  all_goals by_cases c3 : (c.toNat : Int) ≤ 90
  all_goals
    have HR : Hid (letterC c = letterC c) := rfl
    go_enter Tryd.func66, Tryd.ntmps66
    go_wp2
    all_goals
      go_ret
      exact ⟨ret_boolL (by unfold letterC; simp; omega), rfl⟩
theorem pletter_any (c : UInt8) (w : World) : Calls Tryd.prog 40 #[.int .u8 (c.toNat : Int)] w fun e w' => e = .returned (.bool (letterC c)) ∧ w' = w := by
  by_cases c0 : 97 ≤ (c.toNat : Int)
  all_goals by_cases c1 : (c.toNat : Int) ≤ 122
  all_goals by_cases c2 : 65 ≤ (c.toNat : Int)
  all_goals by_cases c3 : (c.toNat : Int) ≤ 90
  all_goals
    have HR : Hid (letterC c = letterC c) := rfl
    go_enter Tryd.func40, Tryd.ntmps40
    go_wp2
    all_goals
      go_ret
      exact ⟨ret_boolL (by unfold letterC; simp; omega), rfl⟩
theorem digit_any (c : UInt8) (w : World) : Calls Tryd.prog 68 #[.int .u8 (c.toNat : Int)] w fun e w' => e = .returned (.bool (isd c)) ∧ w' = w := by
  by_cases c0 : 48 ≤ (c.toNat : Int)
  all_goals by_cases c1 : (c.toNat : Int) ≤ 57
  all_goals
    have HR : Hid (isd c = isd c) := rfl
    go_enter Tryd.func68, Tryd.ntmps68
    go_wp2
    all_goals
      go_ret
      exact ⟨ret_boolL (by unfold isd; simp; omega), rfl⟩
theorem pdigit_any (c : UInt8) (w : World) : Calls Tryd.prog 41 #[.int .u8 (c.toNat : Int)] w fun e w' => e = .returned (.bool (isd c)) ∧ w' = w := by
  by_cases c0 : 48 ≤ (c.toNat : Int)
  all_goals by_cases c1 : (c.toNat : Int) ≤ 57
  all_goals
    have HR : Hid (isd c = isd c) := rfl
    go_enter Tryd.func41, Tryd.ntmps41
    go_wp2
    all_goals
      go_ret
      exact ⟨ret_boolL (by unfold isd; simp; omega), rfl⟩
theorem blank_any (c : UInt8) (w : World) : Calls Tryd.prog 63 #[.int .u8 (c.toNat : Int)] w fun e w' => e = .returned (.bool (blankC c)) ∧ w' = w := by
  obtain ⟨q0, hq0⟩ : ∃ q, (c.toNat == 32) = q := ⟨_, rfl⟩
  have b0 : ((c.toNat : Int) == 32) = q0 := (u8_eq (n := 32)).trans hq0
  obtain ⟨q1, hq1⟩ : ∃ q, (c.toNat == 9) = q := ⟨_, rfl⟩
  have b1 : ((c.toNat : Int) == 9) = q1 := (u8_eq (n := 9)).trans hq1
  obtain ⟨q2, hq2⟩ : ∃ q, (c.toNat == 10) = q := ⟨_, rfl⟩
  have b2 : ((c.toNat : Int) == 10) = q2 := (u8_eq (n := 10)).trans hq2
  have HR := Lib.hid (show blankC c = (q0 || q1 || q2) by unfold blankC; rw [hq0, hq1, hq2])
  clear hq0 hq1 hq2
  cases q0 <;> cases q1 <;> cases q2
  all_goals
    go_enter Tryd.func63, Tryd.ntmps63
    go_wp2
    go_ret
    exact ⟨ret_boolL HR.out.symm, rfl⟩
theorem inLine_any (c : UInt8) (w : World) : Calls Tryd.prog 65 #[.int .u8 (c.toNat : Int)] w fun e w' => e = .returned (.bool (lineC c)) ∧ w' = w := by
  obtain ⟨q0, hq0⟩ : ∃ q, (c.toNat == 10) = q := ⟨_, rfl⟩
  have b0 : ((c.toNat : Int) == 10) = q0 := (u8_eq (n := 10)).trans hq0
  have HR := Lib.hid (show lineC c = (!q0) by unfold lineC; rw [hq0])
  have n0 : ((c.toNat : Int) != 10) = (!q0) := by rw [bne, b0]
  clear hq0
  cases q0
  all_goals
    go_enter Tryd.func65, Tryd.ntmps65
    go_wp2
    go_ret
    exact ⟨ret_boolL HR.out.symm, rfl⟩
theorem wordly_any (c : UInt8) (w : World) : Calls Tryd.prog 67 #[.int .u8 (c.toNat : Int)] w fun e w' => e = .returned (.bool (wordC c)) ∧ w' = w := by
  have HL := Lib.hid (letter_any c)
  have HD := Lib.hid (digit_any c)
  cases h : letterC c with
  | true =>
    have HR := Lib.hid (show wordC c = true by unfold wordC; rw [h]; rfl)
    rw [h] at HL
    go_enter Tryd.func67, Tryd.ntmps67
    go_wp2_with fail
    refine (HL.out _).mono ?_
    rintro e w1 ⟨rfl, rfl⟩
    go_wp2
    go_ret
    exact ⟨ret_boolL HR.out.symm, rfl⟩
  | false =>
    have HR := Lib.hid (show wordC c = isd c by unfold wordC; rw [h]; rfl)
    rw [h] at HL
    go_enter Tryd.func67, Tryd.ntmps67
    go_wp2_with fail
    refine (HL.out _).mono ?_
    rintro e w1 ⟨rfl, rfl⟩
    go_wp2_with fail
    refine (HD.out _).mono ?_
    rintro e w1 ⟨rfl, rfl⟩
    go_wp2
    all_goals
      go_ret
      exact ⟨ret_boolL HR.out.symm, rfl⟩

/-- The place behind the longest row of bytes of a sort. -/
theorem runW_any (s : ByteArray) (k0 : Nat) (w : World) (hs : s.size ≤ maxLen) (hk0 : k0 ≤ s.size) :
    Calls Tryd.prog 64 #[.string s, .int .i64 k0, .func (.func 67) #[] #[]] w fun e w' => e = .returned (.int .i64 ((k0 + runL wordC (s.data.toList.drop k0) : Nat) : Int)) ∧ w' = w := by
  unfold maxLen at hs
  have HP := Lib.hid wordly_any
  obtain ⟨R, hR⟩ : ∃ R, k0 + runL wordC (s.data.toList.drop k0) = R := ⟨_, rfl⟩
  rw [hR]
  have HRR := Lib.hid hR
  clear hR
  go_enter Tryd.func64, Tryd.ntmps64
  go_wp2
  go_loop [1] (fun i => ∃ k : Nat, k ≤ s.size ∧ i = .int .i64 k ∧ Hid (k + runL wordC (s.data.toList.drop k) = R)) (fun i => s.size - (intOf i).toNat)
  case atStart => exact ⟨k0, hk0, rfl, HRR.out⟩
  case round =>
    obtain ⟨k, hk, rfl, hq⟩ := hrel
    by_cases hlt : k < s.size
    · have hd := hq.out
      rw [drop_at s k hlt] at hd
      cases hpc : wordC s[k] with
      | true =>
        rw [runL_yes hpc] at hd
        have HQ := Lib.hid (show k + 1 + runL wordC (s.data.toList.drop (k + 1)) = R by omega)
        have HC := Lib.hid (HP.out s[k])
        rw [hpc] at HC
        clear hd hq hpc
        go_wp2_with fail
        refine (HC.out _).mono ?_
        rintro e w1 ⟨rfl, rfl⟩
        go_wp2
        go_round
        case rel => exact ⟨k + 1, hlt, by go_num, HQ.out⟩
        case measure => simp [intOf]; omega
      | false =>
        rw [runL_no hpc] at hd
        have HC := Lib.hid (HP.out s[k])
        rw [hpc] at HC
        obtain rfl : k = R := by omega
        clear hd hq hpc
        go_wp2_with fail
        refine (HC.out _).mono ?_
        rintro e w1 ⟨rfl, rfl⟩
        go_wp2
        go_ret
        exact ⟨rfl, rfl⟩
    · have hd := hq.out
      rw [List.drop_of_length_le (by simp; omega)] at hd
      obtain rfl : k = R := by simpa [runL] using hd
      clear hd hq
      go_wp2
      go_ret
      exact ⟨rfl, rfl⟩
/-- The place behind the longest row of bytes of a sort. -/
theorem runD_any (s : ByteArray) (k0 : Nat) (w : World) (hs : s.size ≤ maxLen) (hk0 : k0 ≤ s.size) :
    Calls Tryd.prog 64 #[.string s, .int .i64 k0, .func (.func 68) #[] #[]] w fun e w' => e = .returned (.int .i64 ((k0 + runL isd (s.data.toList.drop k0) : Nat) : Int)) ∧ w' = w := by
  unfold maxLen at hs
  have HP := Lib.hid digit_any
  obtain ⟨R, hR⟩ : ∃ R, k0 + runL isd (s.data.toList.drop k0) = R := ⟨_, rfl⟩
  rw [hR]
  have HRR := Lib.hid hR
  clear hR
  go_enter Tryd.func64, Tryd.ntmps64
  go_wp2
  go_loop [1] (fun i => ∃ k : Nat, k ≤ s.size ∧ i = .int .i64 k ∧ Hid (k + runL isd (s.data.toList.drop k) = R)) (fun i => s.size - (intOf i).toNat)
  case atStart => exact ⟨k0, hk0, rfl, HRR.out⟩
  case round =>
    obtain ⟨k, hk, rfl, hq⟩ := hrel
    by_cases hlt : k < s.size
    · have hd := hq.out
      rw [drop_at s k hlt] at hd
      cases hpc : isd s[k] with
      | true =>
        rw [runL_yes hpc] at hd
        have HQ := Lib.hid (show k + 1 + runL isd (s.data.toList.drop (k + 1)) = R by omega)
        have HC := Lib.hid (HP.out s[k])
        rw [hpc] at HC
        clear hd hq hpc
        go_wp2_with fail
        refine (HC.out _).mono ?_
        rintro e w1 ⟨rfl, rfl⟩
        go_wp2
        go_round
        case rel => exact ⟨k + 1, hlt, by go_num, HQ.out⟩
        case measure => simp [intOf]; omega
      | false =>
        rw [runL_no hpc] at hd
        have HC := Lib.hid (HP.out s[k])
        rw [hpc] at HC
        obtain rfl : k = R := by omega
        clear hd hq hpc
        go_wp2_with fail
        refine (HC.out _).mono ?_
        rintro e w1 ⟨rfl, rfl⟩
        go_wp2
        go_ret
        exact ⟨rfl, rfl⟩
    · have hd := hq.out
      rw [List.drop_of_length_le (by simp; omega)] at hd
      obtain rfl : k = R := by simpa [runL] using hd
      clear hd hq
      go_wp2
      go_ret
      exact ⟨rfl, rfl⟩
/-- The place behind the longest row of bytes of a sort. -/
theorem runN_any (s : ByteArray) (k0 : Nat) (w : World) (hs : s.size ≤ maxLen) (hk0 : k0 ≤ s.size) :
    Calls Tryd.prog 64 #[.string s, .int .i64 k0, .func (.func 65) #[] #[]] w fun e w' => e = .returned (.int .i64 ((k0 + runL lineC (s.data.toList.drop k0) : Nat) : Int)) ∧ w' = w := by
  unfold maxLen at hs
  have HP := Lib.hid inLine_any
  obtain ⟨R, hR⟩ : ∃ R, k0 + runL lineC (s.data.toList.drop k0) = R := ⟨_, rfl⟩
  rw [hR]
  have HRR := Lib.hid hR
  clear hR
  go_enter Tryd.func64, Tryd.ntmps64
  go_wp2
  go_loop [1] (fun i => ∃ k : Nat, k ≤ s.size ∧ i = .int .i64 k ∧ Hid (k + runL lineC (s.data.toList.drop k) = R)) (fun i => s.size - (intOf i).toNat)
  case atStart => exact ⟨k0, hk0, rfl, HRR.out⟩
  case round =>
    obtain ⟨k, hk, rfl, hq⟩ := hrel
    by_cases hlt : k < s.size
    · have hd := hq.out
      rw [drop_at s k hlt] at hd
      cases hpc : lineC s[k] with
      | true =>
        rw [runL_yes hpc] at hd
        have HQ := Lib.hid (show k + 1 + runL lineC (s.data.toList.drop (k + 1)) = R by omega)
        have HC := Lib.hid (HP.out s[k])
        rw [hpc] at HC
        clear hd hq hpc
        go_wp2_with fail
        refine (HC.out _).mono ?_
        rintro e w1 ⟨rfl, rfl⟩
        go_wp2
        go_round
        case rel => exact ⟨k + 1, hlt, by go_num, HQ.out⟩
        case measure => simp [intOf]; omega
      | false =>
        rw [runL_no hpc] at hd
        have HC := Lib.hid (HP.out s[k])
        rw [hpc] at HC
        obtain rfl : k = R := by omega
        clear hd hq hpc
        go_wp2_with fail
        refine (HC.out _).mono ?_
        rintro e w1 ⟨rfl, rfl⟩
        go_wp2
        go_ret
        exact ⟨rfl, rfl⟩
    · have hd := hq.out
      rw [List.drop_of_length_le (by simp; omega)] at hd
      obtain rfl : k = R := by simpa [runL] using hd
      clear hd hq
      go_wp2
      go_ret
      exact ⟨rfl, rfl⟩
theorem runL_at (p : UInt8 → Bool) (s : ByteArray) (k : Nat) (hk : k ≤ s.size) : k + runL p (s.data.toList.drop k) ≤ s.size := by
  have := runL_le p (s.data.toList.drop k)
  rw [List.length_drop] at this
  have h2 : s.data.toList.length = s.size := by simp
  omega

theorem skip_any (s : ByteArray) (k0 : Nat) (w : World) (hs : s.size ≤ maxLen) (hk0 : k0 ≤ s.size) :
    Calls Tryd.prog 47 #[.string s, .int .i64 k0] w fun e w' => e = .returned (.int .i64 ((k0 + skipL (s.data.toList.drop k0) : Nat) : Int)) ∧ w' = w := by
  have HRUN := Lib.hid fun k w (h : k ≤ s.size) => runN_any s k w hs h
  unfold maxLen at hs
  obtain ⟨R, hR⟩ : ∃ R, k0 + skipL (s.data.toList.drop k0) = R := ⟨_, rfl⟩
  rw [hR]
  have HRR := Lib.hid hR
  clear hR
  go_enter Tryd.func47, Tryd.ntmps47
  go_wp2
  go_loop [1] (fun i => ∃ k : Nat, k ≤ s.size ∧ i = .int .i64 k ∧ Hid (k + skipL (s.data.toList.drop k) = R)) (fun i => s.size - (intOf i).toNat)
  case atStart => exact ⟨k0, hk0, rfl, HRR.out⟩
  case round =>
    obtain ⟨k, hk, rfl, hq⟩ := hrel
    by_cases hlt : k < s.size
    · have hd := hq.out
      rw [drop_at s k hlt] at hd
      have HC := Lib.hid (blank_any s[k])
      cases hb : blankC s[k] with
      | true =>
        rw [skipL_blank hb] at hd
        have HQ := Lib.hid (show k + 1 + skipL (s.data.toList.drop (k + 1)) = R by omega)
        rw [hb] at HC
        clear hd hq hb
        go_wp2_with fail
        refine (HC.out _).mono ?_
        rintro e w1 ⟨rfl, rfl⟩
        go_wp2
        go_round
        case rel => exact ⟨k + 1, hlt, by go_num, HQ.out⟩
        case measure => simp [intOf]; omega
      | false =>
        rw [hb] at HC
        by_cases h59 : s[k].toNat = 59
        · rw [skipL_note hb h59] at hd
          have hline : lineC s[k] = true := by unfold lineC; rw [h59]; rfl
          have hrl : runL lineC (s.data.toList.drop k) = runL lineC (s.data.toList.drop (k + 1)) + 1 := by rw [drop_at s k hlt, runL_yes hline]
          have hle := runL_at lineC s k hk
          rw [hrl] at hle
          have HQ := Lib.hid (show k + (runL lineC (s.data.toList.drop (k + 1)) + 1) + skipL (s.data.toList.drop (k + (runL lineC (s.data.toList.drop (k + 1)) + 1))) = R by
            rw [List.drop_drop] at hd
            rw [show k + (runL lineC (s.data.toList.drop (k + 1)) + 1) = k + 1 + runL lineC (s.data.toList.drop (k + 1)) by omega]
            omega)
          have HR2 := Lib.hid fun w => HRUN.out k w hk
          rw [hrl] at HR2
          generalize runL lineC (s.data.toList.drop (k + 1)) = m at HQ HR2 hle
          have e59 : ((s[k].toNat : Int) == 59) = true := by rw [h59]; rfl
          clear hd hq hb hline hrl h59
          go_wp2_with fail
          refine (HC.out _).mono ?_
          rintro e w1 ⟨rfl, rfl⟩
          go_wp2_with fail
          refine (HR2.out _).mono ?_
          rintro e w1 ⟨rfl, rfl⟩
          go_wp2
          go_round
          case rel => exact ⟨k + (m + 1), hle, rfl, HQ.out⟩
          case measure => simp [intOf]; omega
        · rw [skipL_stop hb h59] at hd
          obtain rfl : k = R := by omega
          have e59 : ((s[k].toNat : Int) == 59) = false := by
            have : ¬ (s[k].toNat : Int) = 59 := by omega
            simpa using this
          clear hd hq hb h59
          go_wp2_with fail
          refine (HC.out _).mono ?_
          rintro e w1 ⟨rfl, rfl⟩
          go_wp2
          go_ret
          exact ⟨rfl, rfl⟩
    · have hd := hq.out
      rw [List.drop_of_length_le (by simp; omega), skipL_nil] at hd
      obtain rfl : k = R := hd
      clear hq
      go_wp2
      go_ret
      exact ⟨rfl, rfl⟩
end Go.Proofs.YtpekceadjcbphaaDoor

namespace Go.Proofs.YtpekceadjcbphaaDoor
open Go.RowKit

/-- What next hands back at a place. -/
def nextV (l : List UInt8) (at_ : Nat) : Value := match nextL l with
  | none => .tuple #[.int .i64 0, .int .i64 0]
  | some (k, n) => .tuple #[.int .i64 k, .int .i64 ((at_ + n : Nat) : Int)]
theorem nextV_none {l : List UInt8} {a : Nat} (h : nextL l = none) : nextV l a = .tuple #[.int .i64 0, .int .i64 0] := by unfold nextV; rw [h]
theorem nextV_some {l : List UInt8} {a k n : Nat} (h : nextL l = some (k, n)) : nextV l a = .tuple #[.int .i64 k, .int .i64 ((a + n : Nat) : Int)] := by unfold nextV; rw [h]
theorem next_open {c : UInt8} {r : List UInt8} (h : c.toNat = 40) : nextL (c :: r) = some (1, 1) := by rw [nextL, if_pos h]
theorem next_close {c : UInt8} {r : List UInt8} (h : c.toNat = 41) : nextL (c :: r) = some (2, 1) := by rw [nextL, if_neg (by omega), if_pos h]
theorem next_long {c : UInt8} {r : List UInt8} (h1 : c.toNat ≠ 40) (h2 : c.toNat ≠ 41) (h3 : letterC c = true) (h4 : 20 < runL wordC (c :: r)) : nextL (c :: r) = none := by rw [nextL, if_neg h1, if_neg h2, if_pos h3, if_pos h4]
theorem next_word {c : UInt8} {r : List UInt8} (h1 : c.toNat ≠ 40) (h2 : c.toNat ≠ 41) (h3 : letterC c = true) (h4 : ¬ 20 < runL wordC (c :: r)) : nextL (c :: r) = some (3, runL wordC (c :: r)) := by rw [nextL, if_neg h1, if_neg h2, if_pos h3, if_neg h4]
theorem next_bad {c : UInt8} {r : List UInt8} (h1 : c.toNat ≠ 40) (h2 : c.toNat ≠ 41) (h3 : letterC c = false) (h4 : isd c = true) (h5 : getB ((c :: r).take (runL isd (c :: r))) = none ∨ ((((c :: r).drop (runL isd (c :: r))).head?.map letterC).getD false) = true) : nextL (c :: r) = none := by rw [nextL, if_neg h1, if_neg h2, if_neg (by rw [h3]; decide), if_pos h4, if_pos h5]
theorem next_num {c : UInt8} {r : List UInt8} (h1 : c.toNat ≠ 40) (h2 : c.toNat ≠ 41) (h3 : letterC c = false) (h4 : isd c = true) (h5 : ¬ (getB ((c :: r).take (runL isd (c :: r))) = none ∨ ((((c :: r).drop (runL isd (c :: r))).head?.map letterC).getD false) = true)) : nextL (c :: r) = some (4, runL isd (c :: r)) := by rw [nextL, if_neg h1, if_neg h2, if_neg (by rw [h3]; decide), if_pos h4, if_neg h5]
theorem next_other {c : UInt8} {r : List UInt8} (h1 : c.toNat ≠ 40) (h2 : c.toNat ≠ 41) (h3 : letterC c = false) (h4 : isd c = false) : nextL (c :: r) = none := by rw [nextL, if_neg h1, if_neg h2, if_neg (by rw [h3]; decide), if_neg (by rw [h4]; decide)]
theorem head_drop (s : ByteArray) (k n : Nat) (h : k + n < s.size) : ((s.data.toList.drop k).drop n).head? = some s[k + n] := by
  rw [List.drop_drop, drop_at s (k + n) h]; rfl
theorem head_none (s : ByteArray) (k n : Nat) (h : ¬ k + n < s.size) : ((s.data.toList.drop k).drop n).head? = none := by
  rw [List.drop_drop, List.drop_of_length_le (by simp; omega)]; rfl

theorem slice_at {P : Program} {t : TypeId} (w : World) (s : ByteArray) (k n : Nat) (ht : P.underlying t = some .string) (h : k + n ≤ s.size) :
    (Instr.slice t (.string s) (some (.int .i64 (k : Int))) (some (.int .i64 ((k : Int) + (n : Int)))) none).run P w = .ok (.string (s.extract k (k + n))) w := by
  rw [run_slice_string w t s .i64 .i64 _ _ ht (by omega) (by omega) (by omega)]
  rfl

set_option maxHeartbeats 2000000 in
theorem next_any (s : ByteArray) (k : Nat) (w : World) (hs : s.size ≤ maxLen) (hlt : k < s.size) :
    Calls Tryd.prog 48 #[.string s, .int .i64 k] w fun e w' => e = .returned (nextV (s.data.toList.drop k) k) ∧ w' = w := by
  have HRW := Lib.hid fun w => runW_any s k w hs (Nat.le_of_lt hlt)
  have HRD := Lib.hid fun w => runD_any s k w hs (Nat.le_of_lt hlt)
  have HLE := Lib.hid (letter_any)
  have HGET := Lib.hid fun t w (h : t.size ≤ maxLen) => get_any t w h
  have hrw := runL_at wordC s k (Nat.le_of_lt hlt)
  have hrd := runL_at isd s k (Nat.le_of_lt hlt)
  have hmax := hs
  unfold maxLen at hs
  have hda := drop_at s k hlt
  have HDA := Lib.hid hda
  have HL := Lib.hid (letter_any s[k])
  have HD := Lib.hid (digit_any s[k])
  clear hda
  by_cases c40 : s[k].toNat = 40
  · have HV := Lib.hid (nextV_some (a := k) (show nextL (s.data.toList.drop k) = some (1, 1) by rw [HDA.out]; exact next_open c40))
    have b40 : ((s[k].toNat : Int) == 40) = true := (u8_eq (n := 40)).trans (by rw [c40]; rfl)
    clear c40 hrw hrd hmax
    go_enter Tryd.func48, Tryd.ntmps48
    go_wp2
    go_ret2
    exact ⟨by rw [HV.out]; rfl, rfl⟩
  have b40 : ((s[k].toNat : Int) == 40) = false := (u8_eq (n := 40)).trans (by exact beq_eq_false_iff_ne.2 c40)
  by_cases c41 : s[k].toNat = 41
  · have HV := Lib.hid (nextV_some (a := k) (show nextL (s.data.toList.drop k) = some (2, 1) by rw [HDA.out]; exact next_close c41))
    have b41 : ((s[k].toNat : Int) == 41) = true := (u8_eq (n := 41)).trans (by rw [c41]; rfl)
    clear c40 c41 hrw hrd hmax
    go_enter Tryd.func48, Tryd.ntmps48
    go_wp2
    go_ret2
    exact ⟨by rw [HV.out]; rfl, rfl⟩
  have b41 : ((s[k].toNat : Int) == 41) = false := (u8_eq (n := 41)).trans (by exact beq_eq_false_iff_ne.2 c41)
  cases hl : letterC s[k] with
  | true =>
    rw [hl] at HL
    obtain ⟨n, hn⟩ : ∃ n, runL wordC (s.data.toList.drop k) = n := ⟨_, rfl⟩
    have hsub : IntKind.i64.wrap (((k + n : Nat) : Int) - (k : Int)) = (n : Int) := by rw [show ((k + n : Nat) : Int) - (k : Int) = n by omega]; exact IntWalk.i64_in _ (by rw [hn] at hrw; omega)
    by_cases h20 : 20 < n
    · have HV := Lib.hid (nextV_none (a := k) (show nextL (s.data.toList.drop k) = none by rw [HDA.out]; exact next_long c40 c41 hl (by rw [← HDA.out, hn]; exact h20)))
      have h20' : 20 < (n : Int) := by omega
      rw [hn] at HRW hrw
      clear c40 c41 hl hn hrd hmax h20
      go_enter Tryd.func48, Tryd.ntmps48
      go_wp2_with fail
      refine (HL.out _).mono ?_
      rintro e w1 ⟨rfl, rfl⟩
      go_wp2_with fail
      refine (HRW.out _).mono ?_
      rintro e w1 ⟨rfl, rfl⟩
      go_wp2
      go_ret2
      exact ⟨by rw [HV.out]; rfl, rfl⟩
    · have HV := Lib.hid (nextV_some (a := k) (show nextL (s.data.toList.drop k) = some (3, n) by rw [HDA.out, ← hn, HDA.out]; exact next_word c40 c41 hl (by rw [← HDA.out, hn]; exact h20)))
      have h20' : ¬ 20 < (n : Int) := by omega
      rw [hn] at HRW hrw
      clear c40 c41 hl hn hrd hmax h20
      go_enter Tryd.func48, Tryd.ntmps48
      go_wp2_with fail
      refine (HL.out _).mono ?_
      rintro e w1 ⟨rfl, rfl⟩
      go_wp2_with fail
      refine (HRW.out _).mono ?_
      rintro e w1 ⟨rfl, rfl⟩
      go_wp2
      go_ret2
      exact ⟨by rw [HV.out]; rfl, rfl⟩
  | false =>
  rw [hl] at HL
  cases hd : isd s[k] with
  | false =>
    rw [hd] at HD
    have HV := Lib.hid (nextV_none (a := k) (show nextL (s.data.toList.drop k) = none by rw [HDA.out]; exact next_other c40 c41 hl hd))
    clear c40 c41 hl hd hrd hrw hmax
    go_enter Tryd.func48, Tryd.ntmps48
    go_wp2_with fail
    refine (HL.out _).mono ?_
    rintro e w1 ⟨rfl, rfl⟩
    go_wp2_with fail
    refine (HD.out _).mono ?_
    rintro e w1 ⟨rfl, rfl⟩
    go_wp2
    go_ret2
    exact ⟨by rw [HV.out]; rfl, rfl⟩
  | true =>
    rw [hd] at HD
    obtain ⟨n, hn⟩ : ∃ n, runL isd (s.data.toList.drop k) = n := ⟨_, rfl⟩
    rw [hn] at HRD hrd
    obtain ⟨p, hp⟩ : ∃ p, s.extract k (k + n) = p := ⟨_, rfl⟩
    have hsli : ∀ w', (Instr.slice 9 (.string s) (some (.int .i64 (k : Int))) (some (.int .i64 ((k : Int) + (n : Int)))) none).run Tryd.prog w' = .ok (.string p) w' := fun w' => by rw [← hp]; exact slice_at w' s k n Tryd.underlying9 hrd
    have hpl : p.data.toList = (s.data.toList.drop k).take n := by rw [← hp]; exact (Lib.extract_data s k (k + n)).trans (by congr 1; omega)
    have hpm : p.size ≤ maxLen := by
      have h1 : p.data.toList.length = p.size := by simp
      rw [hpl, List.length_take] at h1
      have : n ≤ s.size := by omega
      omega
    have HG := Lib.hid fun w => HGET.out p w hpm
    rw [hpl] at HG
    clear hp hpm hpl
    cases hg : getB ((s.data.toList.drop k).take n) with
    | none =>
      have HV := Lib.hid (nextV_none (a := k) (show nextL (s.data.toList.drop k) = none by
        rw [HDA.out]; exact next_bad c40 c41 hl hd (by rw [← HDA.out, hn]; exact Or.inl hg)))
      rw [getV_none hg] at HG
      clear c40 c41 hl hd hn hg hrw hmax
      go_enter Tryd.func48, Tryd.ntmps48
      go_wp2_with fail
      refine (HL.out _).mono ?_
      rintro e w1 ⟨rfl, rfl⟩
      go_wp2_with fail
      refine (HD.out _).mono ?_
      rintro e w1 ⟨rfl, rfl⟩
      go_wp2_with fail
      refine (HRD.out _).mono ?_
      rintro e w1 ⟨rfl, rfl⟩
      go_wp2_with fail
      refine (HG.out _).mono ?_
      rintro e w1 ⟨rfl, rfl⟩
      go_wp2
      go_ret2
      exact ⟨by rw [HV.out]; rfl, rfl⟩
    | some v =>
      rw [getV_some hg] at HG
      by_cases he : k + n < s.size
      · have hhd := head_drop s k n he
        have HL2 := Lib.hid (letter_any s[k + n])
        cases hl2 : letterC s[k + n] with
        | true =>
          have HV := Lib.hid (nextV_none (a := k) (show nextL (s.data.toList.drop k) = none by
            rw [HDA.out]; exact next_bad c40 c41 hl hd (by rw [← HDA.out, hn]; exact Or.inr (by rw [hhd]; exact hl2))))
          rw [hl2] at HL2
          clear c40 c41 hl hd hn hg hrw hmax hhd hl2
          go_enter Tryd.func48, Tryd.ntmps48
          go_wp2_with fail
          refine (HL.out _).mono ?_
          rintro e w1 ⟨rfl, rfl⟩
          go_wp2_with fail
          refine (HD.out _).mono ?_
          rintro e w1 ⟨rfl, rfl⟩
          go_wp2_with fail
          refine (HRD.out _).mono ?_
          rintro e w1 ⟨rfl, rfl⟩
          go_wp2_with fail
          refine (HG.out _).mono ?_
          rintro e w1 ⟨rfl, rfl⟩
          go_wp2_with fail
          refine (HL2.out _).mono ?_
          rintro e w1 ⟨rfl, rfl⟩
          go_wp2
          go_ret2
          exact ⟨by rw [HV.out]; rfl, rfl⟩
        | false =>
          have HV := Lib.hid (nextV_some (a := k) (show nextL (s.data.toList.drop k) = some (4, n) by
            have h0 := next_num c40 c41 hl hd (r := s.data.toList.drop (k + 1)) (by rw [← HDA.out, hn, hhd, hg]; rintro (h | h); cases h; rw [show ((some s[k + n]).map letterC).getD false = letterC s[k + n] from rfl, hl2] at h; cases h)
            rw [← HDA.out, hn] at h0; exact h0))
          rw [hl2] at HL2
          clear c40 c41 hl hd hn hg hrw hmax hhd hl2
          go_enter Tryd.func48, Tryd.ntmps48
          go_wp2_with fail
          refine (HL.out _).mono ?_
          rintro e w1 ⟨rfl, rfl⟩
          go_wp2_with fail
          refine (HD.out _).mono ?_
          rintro e w1 ⟨rfl, rfl⟩
          go_wp2_with fail
          refine (HRD.out _).mono ?_
          rintro e w1 ⟨rfl, rfl⟩
          go_wp2_with fail
          refine (HG.out _).mono ?_
          rintro e w1 ⟨rfl, rfl⟩
          go_wp2_with fail
          refine (HL2.out _).mono ?_
          rintro e w1 ⟨rfl, rfl⟩
          go_wp2
          go_ret2
          exact ⟨by rw [HV.out]; rfl, rfl⟩
      · have hhd := head_none s k n he
        have HV := Lib.hid (nextV_some (a := k) (show nextL (s.data.toList.drop k) = some (4, n) by
          have h0 := next_num c40 c41 hl hd (r := s.data.toList.drop (k + 1)) (by rw [← HDA.out, hn, hhd, hg]; rintro (h | h); cases h; cases h)
          rw [← HDA.out, hn] at h0; exact h0))
        clear c40 c41 hl hd hn hg hrw hmax hhd
        go_enter Tryd.func48, Tryd.ntmps48
        go_wp2_with fail
        refine (HL.out _).mono ?_
        rintro e w1 ⟨rfl, rfl⟩
        go_wp2_with fail
        refine (HD.out _).mono ?_
        rintro e w1 ⟨rfl, rfl⟩
        go_wp2_with fail
        refine (HRD.out _).mono ?_
        rintro e w1 ⟨rfl, rfl⟩
        go_wp2_with fail
        refine (HG.out _).mono ?_
        rintro e w1 ⟨rfl, rfl⟩
        go_wp2
        go_ret2
        exact ⟨by rw [HV.out]; rfl, rfl⟩
end Go.Proofs.YtpekceadjcbphaaDoor

namespace Go.Proofs.YtpekceadjcbphaaDoor
open Go.RowKit

def cells3 : List Tok → List Value
  | [] => []
  | t :: r => .int .i64 t.k :: .string ⟨t.s.toArray⟩ :: .int .i64 t.at_ :: cells3 r
theorem cells3_append : ∀ ps qs : List Tok, cells3 (ps ++ qs) = cells3 ps ++ cells3 qs
  | [], qs => rfl
  | t :: r, qs => by simp [cells3, cells3_append r qs]
theorem cells3_get : ∀ (ps : List Tok) (i : Nat) (h : i < ps.length) (q : Nat), q < 3 → (cells3 ps)[i * 3 + q]? = [Value.int .i64 (ps[i]).k, .string ⟨(ps[i]).s.toArray⟩, .int .i64 (ps[i]).at_][q]?
  | t :: r, 0, _, q, hq => by
    rw [Nat.zero_mul, Nat.zero_add]
    match q, hq with
    | 0, _ => rfl
    | 1, _ => rfl
    | 2, _ => rfl
  | t :: r, i + 1, h, q, hq => by
    have := cells3_get r i (by simpa using h) q hq
    rw [show (i + 1) * 3 + q = (i * 3 + q) + 3 by omega]
    simpa [cells3] using this
/-- A list of tokens that the call has made so far. -/
def Toks (T : TypeId) (B : Nat) (w : World) (v : Value) (ts : List Tok) : Prop := w.ownsRow B T 3 v ts.length (cells3 ts)
theorem toks_nil (T : TypeId) (B : Nat) (w : World) : Toks T B w (.slice none 0 0) [] := ⟨rfl, Or.inl ⟨rfl, rfl⟩⟩
theorem toks_later {T : TypeId} {B : Nat} {w w' : World} {v : Value} {ts : List Tok} (h : Toks T B w v ts) (hb : Below w.heap.size w w') : Toks T B w' v ts := by
  obtain ⟨h1, h2⟩ := h
  refine ⟨h1, ?_⟩
  rcases h2 with h2 | ⟨g, cap, cur, hv, hg, hh, r⟩
  · exact Or.inl h2
  · refine Or.inr ⟨g, cap, cur, hv, hg, ?_, r⟩
    rw [hb.block g ?_]; exact hh
    exact (Array.getElem?_eq_some_iff.1 hh).1
theorem toks_above {T : TypeId} {B : Nat} {w : World} {v : Value} {ts : List Tok} (h : Toks T B w v ts) : ∀ k, v.ownBlock = some k → B ≤ k := by
  intro k hk
  rcases h.2 with ⟨rfl, -⟩ | ⟨g, cap, cur, rfl, hg, -⟩
  · simp [Value.ownBlock] at hk
  · simp [Value.ownBlock] at hk; omega
theorem toks_step {T : TypeId} {B : Nat} {w : World} {v : Value} {ts : List Tok} {t : Tok} (h : w.ownsRow B T 3 v (ts.length + 1) (cells3 ts ++ cells3 [t])) : Toks T B w v (ts ++ [t]) := by
  unfold Toks; rw [cells3_append]; simpa using h
theorem alloc_new3 (w : World) (o : Obj) : (w.alloc o).heap[w.heap.size]? = some o := by
  unfold World.alloc; simp
theorem news_tok (w : World) (t : Tok) (T : TypeId) : ∀ j u, (cells3 [t])[j]? = some u → (w.alloc (.cells #[.int .i64 t.k, .string ⟨t.s.toArray⟩, .int .i64 t.at_] T)).cell? ((⟨w.heap.size, 0, none⟩ : Addr).add j) = some u :=
  World.news_of_block (alloc_new3 w _)
theorem info_tok : (Tryd.prog.info? 63).map (fun i => (i.zero, i.size, i.bytes)) = some (some (.agg #[.int .i64 0, .string ⟨#[]⟩, .int .i64 0]), 3, 32) := by kernel_rfl
theorem tok_parts {i : Option TypeInfo} {z : Value} {n m : Nat} (h : i.map (fun i => (i.zero, i.size, i.bytes)) = some (some z, n, m)) : ∃ i0, i = some i0 ∧ i0.zero = some z ∧ i0.size = n ∧ i0.bytes = m := by
  cases i with
  | none => cases h
  | some i0 => simp at h; exact ⟨i0, rfl, h.1, h.2.1, h.2.2⟩
theorem lexTo_next (ts : List Tok) (t : Tok) (r : List Tok × Option Nat) : lexTo ts (t :: r.1, r.2) = lexTo (ts ++ [t]) r := by simp [lexTo]

/-- What Lex hands back. -/
def lexGives (T : TypeId) (w : World) (R : List Tok × Option Nat) (e : Ending) (w' : World) : Prop :=
  Below w.heap.size w w' ∧ match R.2 with
    | none => ∃ v, Toks T w.heap.size w' v R.1 ∧ e = .returned (.tuple #[v, .int .i64 0, .int .i64 0])
    | some p => e = .returned (.tuple #[.slice none 0 0, .int .i64 2, .int .i64 p])

set_option maxHeartbeats 2000000 in
theorem lex_any (s : ByteArray) (w : World) (hs : s.size ≤ 10000000) :
    Calls Tryd.prog 27 #[.string s] w (lexGives 63 w (lexL s.data.toList 0)) := by
  have hmax : s.size ≤ maxLen := by unfold maxLen; omega
  have HSK := Lib.hid fun k w (h : k ≤ s.size) => skip_any s k w hmax h
  have HNX := Lib.hid fun k w (h : k < s.size) => next_any s k w hmax h
  have hsl : s.data.toList.length = s.size := by simp
  have HSL := Lib.hid hsl
  obtain ⟨R, hR⟩ : ∃ R, lexL s.data.toList 0 = R := ⟨_, rfl⟩
  rw [hR]
  have HRR := Lib.hid hR
  obtain ⟨i0, hi, hz0, hz1, hz2⟩ := tok_parts info_tok
  have HI := Lib.hid (And.intro hi (And.intro hz0 (And.intro hz1 hz2)))
  clear hR hsl hi hz0 hz1 hz2 hmax
  go_enter Tryd.func27, Tryd.ntmps27
  have h00 := HSK.out 0 w (Nat.zero_le _)
  obtain ⟨q0, hq0⟩ : ∃ q, 0 + skipL (s.data.toList.drop 0) = q := ⟨_, rfl⟩
  rw [hq0] at h00
  have HQ0 := Lib.hid hq0
  have H00 := Lib.hid h00
  have hq9 : q0 ≤ s.size := by have := skipL_le _ (s.data.toList.drop 0) (Nat.le_refl _); rw [List.length_drop, HSL.out] at this; omega
  clear hq0 h00
  go_wp2_with fail
  refine (H00.out).mono ?_
  rintro e w1 ⟨rfl, rfl⟩
  go_wp2_with fail
  go_loopw [5, 6] (fun v i wr => ∃ (p q : Nat) (ts : List Tok), q ≤ s.size ∧ ts.length ≤ q ∧ i = .int .i64 q ∧ Hid (p + skipL (s.data.toList.drop p) = q) ∧ Hid (lexTo ts (lexL s.data.toList p) = R) ∧ Hid (Toks 63 w1.heap.size wr v ts) ∧ Below w1.heap.size w1 wr) (fun _ i _ => s.size - (intOf i).toNat)
  case atStart => exact ⟨0, q0, [], hq9, Nat.zero_le _, rfl, HQ0, by rw [Hid, HRR.out]; simp [lexTo], toks_nil _ _ _, Below.refl _ _⟩
  case round =>
    obtain ⟨p, q, ts, hq, htq, rfl, hp, hR, hT, hB⟩ := hrel
    by_cases hlt : q < s.size
    · have HN := Lib.hid (HNX.out q wr hlt)
      cases hn : nextL (s.data.toList.drop q) with
      | none =>
        have hf := lexL_fault hp.out (by rw [HSL.out]; exact hlt) hn
        have HF := Lib.hid (show R = (ts, some q) by rw [← hR.out, hf]; simp [lexTo])
        rw [nextV_none hn] at HN
        have HB := Lib.hid hB
        clear hf hn hp hR hT hB
        go_wp2_with fail
        refine (HN.out).mono ?_
        rintro e w2 ⟨rfl, rfl⟩
        go_wp2
        go_ret3
        exact ⟨HB.out, by rw [HF.out]; rfl⟩
      | some kn =>
        obtain ⟨k, n⟩ := kn
        have hrg := nextL_range hn
        rw [List.length_drop, HSL.out] at hrg
        obtain ⟨hn1, hn2, hk1, hk4⟩ := hrg
        have HNE := Lib.hid (lexL_next hp.out (by rw [HSL.out]; exact hlt) hn)
        rw [nextV_some hn] at HN
        have k0 : ((k : Int) == 0) = false := by simp; omega
        obtain ⟨c, hc⟩ : ∃ c, (s.data.toList.drop q).take n = c := ⟨_, rfl⟩
        have hsli : ∀ w', (Instr.slice 9 (.string s) (some (.int .i64 (q : Int))) (some (.int .i64 ((q : Int) + (n : Int)))) none).run Tryd.prog w' = .ok (.string ⟨c.toArray⟩) w' := fun w' => by
          rw [slice_at w' s q n Tryd.underlying9 (by omega), Lib.extract_eq, Nat.add_sub_cancel_left, hc]
        rw [hc] at HNE
        have HR2 := Lib.hid (show lexTo (ts ++ [⟨k, c, q⟩]) (lexL s.data.toList (q + n)) = R by rw [← hR.out, HNE.out]; exact (lexTo_next ts ⟨k, c, q⟩ _).symm)
        obtain ⟨q2, hq2⟩ : ∃ q2, q + n + skipL (s.data.toList.drop (q + n)) = q2 := ⟨_, rfl⟩
        have hq29 : q2 ≤ s.size := by have := skipL_le _ (s.data.toList.drop (q + n)) (Nat.le_refl _); rw [List.length_drop, HSL.out] at this; omega
        have hqn : q + n ≤ q2 := by omega
        have HSK2 := Lib.hid fun w => HSK.out (q + n) w (by omega)
        rw [hq2] at HSK2
        have HQ2 := Lib.hid hq2
        have HB := Lib.hid hB
        have hB2 := hB.size
        clear hc HNE hp hR hq2 hn hB
        go_wp2_with fail
        refine (HN.out).mono ?_
        rintro e w2 ⟨rfl, rfl⟩
        go_wp2_with (at_builtin; refine wpList_append_lies _ rfl _ _ 57 rfl w1.heap.size 63 i0 _ 3 32 (by kernel_rfl) HI.out.1 HI.out.2.1 HI.out.2.2.1 HI.out.2.2.2 rfl (by decide) _ ts.length (cells3 ts) rfl (toks_later hT.out ((Below.refl _ _).alloc (Nat.le_refl _) _)) ⟨w2.heap.size, 0, none⟩ 1 1 (cells3 [⟨k, c, q⟩]) rfl rfl ?news ?one (by decide) ?max ?bytes ?base _ rfl ?next)
        case news => exact news_tok _ _ _
        case one => intro v hv; simp [cells3] at hv; rcases hv with rfl | rfl | rfl <;> rfl
        case max => unfold maxLen; omega
        case bytes => omega
        case base => simp; omega
        case next =>
          intro g cap3 w3 hown hgrow hat _
          have HT2 := Lib.hid (toks_step hown)
          have HB2 := Lib.hid ((HB.out.alloc hB2 _).grown hgrow (by simp; omega) (toks_above hT.out))
          clear hown hgrow hat
          go_wp2_with fail
          refine (HSK2.out _).mono ?_
          rintro e w4 ⟨rfl, rfl⟩
          go_wp2_with fail
          go_roundw
          case rel => exact ⟨q + n, q2, ts ++ [⟨k, c, q⟩], hq29, by simp; omega, rfl, HQ2.out, HR2, HT2, HB2.out⟩
          case measure => simp [intOf]; omega
    · have : q = s.size := by omega
      subst this
      have hf := lexL_end (l := s.data.toList) (p := p) (by rw [HSL.out, hp.out]; omega)
      have HF := Lib.hid (show R = (ts, none) by rw [← hR.out, hf]; simp [lexTo])
      have HB := Lib.hid hB
      have HT := Lib.hid hT.out
      clear hf hp hR hT hB
      go_wp2
      go_ret3
      exact ⟨HB.out, by rw [HF.out]; exact ⟨_, HT.out, rfl⟩⟩
end Go.Proofs.YtpekceadjcbphaaDoor

namespace Go.Proofs.YtpekceadjcbphaaDoor
open Go.RowKit

/-- A term: its kind, its three numbers, its kids. -/
inductive Tm where
  | mk (k i j n : Int) (l : List Tm)

namespace Tm
def k : Tm → Int | .mk k _ _ _ _ => k
def i : Tm → Int | .mk _ i _ _ _ => i
def j : Tm → Int | .mk _ _ j _ _ => j
def n : Tm → Int | .mk _ _ _ n _ => n
def kids : Tm → List Tm | .mk _ _ _ _ l => l
theorem ind {P : Tm → Prop} (h : ∀ t, (∀ x ∈ t.kids, P x) → P t) : ∀ t, P t
  | .mk k i j n l => h (.mk k i j n l) (fun x (_ : x ∈ l) => ind h x)
end Tm

def I64 (x : Int) : Prop := -9223372036854775808 ≤ x ∧ x ≤ 9223372036854775807
def Tm.fine (t : Tm) : Prop := I64 t.k ∧ I64 t.i ∧ I64 t.j ∧ I64 t.n

/-- A term by value: s is the slice of its kids. -/
abbrev tv (t : Tm) (s : Value) : Value := .agg #[.int .i64 t.k, .int .i64 t.i, .int .i64 t.j, .int .i64 t.n, s]

/-- The five cells of a term at a place. -/
structure Node (w : World) (b o : Nat) (t : Tm) (s : Value) : Prop where
  c0 : w.cell? ⟨b, o, none⟩ = some (.int .i64 t.k)
  c1 : w.cell? ⟨b, o + 1, none⟩ = some (.int .i64 t.i)
  c2 : w.cell? ⟨b, o + 2, none⟩ = some (.int .i64 t.j)
  c3 : w.cell? ⟨b, o + 3, none⟩ = some (.int .i64 t.n)
  c4 : w.cell? ⟨b, o + 4, none⟩ = some s

/-- Terms that lie behind a slice. -/
inductive Lies (w : World) : List Tm → Value → Prop
  | mk (l : List Tm) (a : Option Addr) (cap : Nat) (S : Nat → Value) (hc : l.length ≤ cap) (hm : cap ≤ maxLen) (hf : ∀ x ∈ l, x.fine)
      (hn : ∀ i (h : i < l.length), ∃ b o, a = some ⟨b, o, none⟩ ∧ Node w b (o + i * 5) l[i] (S i)) (hk : ∀ i (h : i < l.length), Lies w (l[i]).kids (S i)) : Lies w l (.slice a l.length cap)

theorem Lies.out {w : World} {l : List Tm} {s : Value} (h : Lies w l s) : ∃ (a : Option Addr) (cap : Nat) (S : Nat → Value), s = .slice a l.length cap ∧ l.length ≤ cap ∧ cap ≤ maxLen ∧ (∀ x ∈ l, x.fine) ∧
    (∀ i (h : i < l.length), ∃ b o, a = some ⟨b, o, none⟩ ∧ Node w b (o + i * 5) l[i] (S i)) ∧ (∀ i (h : i < l.length), Lies w (l[i]).kids (S i)) := by
  cases h with
  | mk l a cap S hc hm hf hn hk => exact ⟨a, cap, S, rfl, hc, hm, hf, hn, hk⟩

theorem Node.lt {w : World} {b o : Nat} {t : Tm} {s : Value} (h : Node w b o t s) : b < w.heap.size := World.block_lt_of_cell? _ _ h.c0

theorem Node.below {w w' : World} {b o B : Nat} {t : Tm} {s : Value} (h : Node w b o t s) (hb : Below B w w') (hB : b < B) : Node w' b o t s :=
  ⟨(hb.cell (by exact hB)).trans h.c0, (hb.cell (by exact hB)).trans h.c1, (hb.cell (by exact hB)).trans h.c2, (hb.cell (by exact hB)).trans h.c3, (hb.cell (by exact hB)).trans h.c4⟩

/-- What lies in a world lies in every later one. -/
theorem Lies.keep {w w' : World} {l : List Tm} {s : Value} (h : Lies w l s) (hb : Below w.heap.size w w') : Lies w' l s := by
  induction h with
  | mk l a cap S hc hm hf hn hk ih =>
    exact .mk l a cap S hc hm hf (fun i hi => by obtain ⟨b, o, ha, hx⟩ := hn i hi; exact ⟨b, o, ha, hx.below hb hx.lt⟩) ih

end Go.Proofs.YtpekceadjcbphaaDoor

namespace Go.Proofs.YtpekceadjcbphaaDoor
open Go.RowKit

/-- What is new beside a new block is new. -/
theorem below_of_box {w wr : World} {o : Obj} (h : Below (w.heap.size + 1) (w.alloc o) wr) : Below w.heap.size w wr :=
  ((Below.refl _ _).alloc (Nat.le_refl _) _).trans (h.mono (Nat.le_succ _))

/-- A call in a later world: it leaves alone what was there. -/
theorem below_call {B : Nat} {a w w' : World} (h : Below B a w) (h' : Below w.heap.size w w') (hB : B ≤ w.heap.size) : Below B a w' := h.trans (h'.mono hB)

end Go.Proofs.YtpekceadjcbphaaDoor

namespace Go.Proofs.YtpekceadjcbphaaDoor
open Go.RowKit

/-- The block of a term by value. -/
def boxOf (t : Tm) (s : Value) : Obj := .cells #[.int .i64 t.k, .int .i64 t.i, .int .i64 t.j, .int .i64 t.n, s] 26

/-- Beside the boxed term there is only what is new. -/
def Held (w : World) (t : Tm) (s : Value) (w' : World) : Prop := Below (w.heap.size + 1) (w.alloc (boxOf t s)) w'

theorem held_below {w w1 : World} {t : Tm} {s : Value} (h : Held w t s w1) : Below w.heap.size w w1 := below_of_box h
end Go.Proofs.YtpekceadjcbphaaDoor

namespace Go.Proofs.YtpekceadjcbphaaDoor
open Go.RowKit

/-- Terms behind a slice, in blocks of which P speaks. -/
inductive LiesP (w : World) (P : Nat → Prop) : List Tm → Value → Prop
  | mk (l : List Tm) (a : Option Addr) (cap : Nat) (S : Nat → Value) (hc : l.length ≤ cap) (hm : cap ≤ maxLen) (hf : ∀ x ∈ l, x.fine)
      (hn : ∀ i (h : i < l.length), ∃ b, a = some ⟨b, 0, none⟩ ∧ P b ∧ Node w b (i * 5) l[i] (S i)) (hk : ∀ i (h : i < l.length), LiesP w P (l[i]).kids (S i)) : LiesP w P l (.slice a l.length cap)

theorem LiesP.lies {w : World} {P : Nat → Prop} {l : List Tm} {s : Value} (h : LiesP w P l s) : Lies w l s := by
  induction h with
  | mk l a cap S hc hm hf hn hk ih => exact .mk l a cap S hc hm hf (fun i hi => by obtain ⟨b, ha, _, hx⟩ := hn i hi; exact ⟨b, 0, ha, by rw [Nat.zero_add]; exact hx⟩) ih

theorem Node.same {w w' : World} {b o : Nat} {t : Tm} {s : Value} (h : Node w b o t s) (hb : w'.heap[b]? = w.heap[b]?) : Node w' b o t s :=
  ⟨(World.cell?_of_block (a := ⟨b, o, none⟩) hb).trans h.c0, (World.cell?_of_block (a := ⟨b, o + 1, none⟩) hb).trans h.c1, (World.cell?_of_block (a := ⟨b, o + 2, none⟩) hb).trans h.c2,
    (World.cell?_of_block (a := ⟨b, o + 3, none⟩) hb).trans h.c3, (World.cell?_of_block (a := ⟨b, o + 4, none⟩) hb).trans h.c4⟩

/-- They lie in a later world where their blocks are as they were; P may be turned on the way. -/
theorem LiesP.keep {w w' : World} {P Q : Nat → Prop} {l : List Tm} {s : Value} (h : LiesP w P l s) (hb : ∀ b, P b → b < w.heap.size → w'.heap[b]? = w.heap[b]?) (hq : ∀ b, P b → b < w.heap.size → Q b) : LiesP w' Q l s := by
  induction h with
  | mk l a cap S hc hm hf hn hk ih =>
    exact .mk l a cap S hc hm hf (fun i hi => by obtain ⟨b, ha, hp, hx⟩ := hn i hi; exact ⟨b, ha, hq b hp hx.lt, hx.same (hb b hp hx.lt)⟩) ih

/-- A block of the call's own: new since B, and nothing of it is frozen. -/
def Own (B : Nat) (w : World) (b : Nat) : Prop := B ≤ b ∧ ∃ cs, w.heap[b]? = some (.cells cs 26 (0, 0))
theorem Own.lt {B : Nat} {w : World} {b : Nat} (h : Own B w b) : b < w.heap.size := by obtain ⟨-, cs, h⟩ := h; exact (Array.getElem?_eq_some_iff.1 h).1
theorem Own.same {B : Nat} {w w' : World} {b : Nat} (h : Own B w b) (hb : w'.heap[b]? = w.heap[b]?) : Own B w' b := ⟨h.1, by rw [hb]; exact h.2⟩
theorem Own.later {B : Nat} {w w' : World} {b : Nat} (h : Own B w b) (hb : Below w.heap.size w w') : Own B w' b := h.same (hb.block b h.lt)
theorem Own.from {B B' : Nat} {w : World} {b : Nat} (h : Own B w b) (hB : B' ≤ B) : Own B' w b := ⟨Nat.le_trans hB h.1, h.2⟩

/-- What a call has made lies there later, too. -/
theorem LiesP.later {w w' : World} {B : Nat} {l : List Tm} {s : Value} (h : LiesP w (Own B w) l s) (hb : Below w.heap.size w w') : LiesP w' (Own B w') l s := h.keep (fun b _ hlt => hb.block b hlt) (fun _ hp _ => hp.later hb)
theorem LiesP.from {w : World} {B B' : Nat} {l : List Tm} {s : Value} (h : LiesP w (Own B w) l s) (hB : B' ≤ B) : LiesP w (Own B' w) l s := h.keep (fun _ _ _ => rfl) (fun _ hp _ => hp.from hB)

def cells5 : List (Tm × Value) → List Value
  | [] => []
  | (t, s) :: r => .int .i64 t.k :: .int .i64 t.i :: .int .i64 t.j :: .int .i64 t.n :: s :: cells5 r

theorem cells5_length : ∀ ps : List (Tm × Value), (cells5 ps).length = ps.length * 5
  | [] => rfl
  | (t, s) :: r => by simp [cells5, cells5_length r]; omega
theorem cells5_append : ∀ ps qs : List (Tm × Value), cells5 (ps ++ qs) = cells5 ps ++ cells5 qs
  | [], qs => rfl
  | (t, s) :: r, qs => by simp [cells5, cells5_append r qs]
theorem cells5_get : ∀ (ps : List (Tm × Value)) (i : Nat) (h : i < ps.length) (q : Nat), q < 5 → (cells5 ps)[i * 5 + q]? = [Value.int .i64 (ps[i]).1.k, .int .i64 (ps[i]).1.i, .int .i64 (ps[i]).1.j, .int .i64 (ps[i]).1.n, (ps[i]).2][q]?
  | (t, s) :: r, 0, _, q, hq => by
    rw [Nat.zero_mul, Nat.zero_add]
    match q, hq with
    | 0, _ => rfl
    | 1, _ => rfl
    | 2, _ => rfl
    | 3, _ => rfl
    | 4, _ => rfl
  | (t, s) :: r, i + 1, h, q, hq => by
    have := cells5_get r i (by simpa using h) q hq
    rw [show (i + 1) * 5 + q = (i * 5 + q) + 5 by omega]
    simpa [cells5] using this

/-- A list of terms that the call has made so far: v is the slice, ps the terms with the slices of their kids; B: where its own memory begins. -/
structure Made (B : Nat) (w : World) (v : Value) (ps : List (Tm × Value)) : Prop where
  own : w.ownsRow B 26 5 v ps.length (cells5 ps)
  fine : ∀ p ∈ ps, p.1.fine
  kids : ∀ p ∈ ps, LiesP w (fun b => Own B w b ∧ v.ownBlock ≠ some b) p.1.kids p.2

theorem made_nil (B : Nat) (w : World) : Made B w (.slice none 0 0) [] := ⟨⟨rfl, Or.inl ⟨rfl, rfl⟩⟩, (fun _ h => by cases h), (fun _ h => by cases h)⟩

theorem made_later {B : Nat} {w w' : World} {v : Value} {ps : List (Tm × Value)} (h : Made B w v ps) (hb : Below w.heap.size w w') : Made B w' v ps := by
  refine ⟨?_, h.fine, fun p hp => (h.kids p hp).keep (fun b _ hlt => hb.block b hlt) (fun _ hq _ => ⟨hq.1.later hb, hq.2⟩)⟩
  obtain ⟨h1, h2⟩ := h.own
  refine ⟨h1, ?_⟩
  rcases h2 with h2 | ⟨g, cap, cur, hv, hg, hh, r⟩
  · exact Or.inl h2
  · refine Or.inr ⟨g, cap, cur, hv, hg, ?_, r⟩
    rw [hb.block g ?_]; exact hh
    exact (Array.getElem?_eq_some_iff.1 hh).1

/-- The block of the list, if it has one, is none of a new term's. -/
theorem made_block {B : Nat} {w : World} {v : Value} {ps : List (Tm × Value)} (h : Made B w v ps) {b : Nat} (hb : w.heap.size ≤ b) : v.ownBlock ≠ some b := by
  rcases h.own.2 with ⟨rfl, -⟩ | ⟨g, cap, cur, rfl, -, hh, -⟩
  · simp [Value.ownBlock]
  · have := (Array.getElem?_eq_some_iff.1 hh).1
    simp [Value.ownBlock]; omega

theorem made_step {B : Nat} {w w1 : World} {v : Value} {ps : List (Tm × Value)} {p : Tm × Value} {g cap : Nat} (h : Made B w v ps) (hf : p.1.fine) (hk : LiesP w (fun b => Own B w b ∧ v.ownBlock ≠ some b) p.1.kids p.2)
    (hown : w1.ownsRow B 26 5 (.slice (some ⟨g, 0, none⟩) (ps.length + 1) cap) (ps.length + 1) (cells5 ps ++ cells5 [p])) (hgrow : w.grownBy w1 v.ownBlock) (hg : v.ownBlock = some g ∨ g = w.heap.size) :
    Made B w1 (.slice (some ⟨g, 0, none⟩) (ps.length + 1) cap) (ps ++ [p]) := by
  have keep : ∀ q : Tm × Value, LiesP w (fun b => Own B w b ∧ v.ownBlock ≠ some b) q.1.kids q.2 → LiesP w1 (fun b => Own B w1 b ∧ (Value.slice (some ⟨g, 0, none⟩) (ps.length + 1) cap).ownBlock ≠ some b) q.1.kids q.2 := fun q hq =>
    hq.keep (fun b hb hlt => hgrow.block b hlt (fun e => hb.2 e.symm)) (fun b hb hlt => ⟨hb.1.same (hgrow.block b hlt (fun e => hb.2 e.symm)), by
      show some g ≠ some b
      rcases hg with e | e
      · rw [← e]; exact hb.2
      · intro e'; have := Option.some.inj e'; omega⟩)
  refine ⟨by rw [cells5_append]; simpa using hown, fun q hq => ?_, fun q hq => ?_⟩
  · rcases List.mem_append.1 hq with hq | hq
    · exact h.fine q hq
    · rw [List.mem_singleton.1 hq]; exact hf
  · rcases List.mem_append.1 hq with hq | hq
    · exact keep q (h.kids q hq)
    · rw [List.mem_singleton.1 hq]; exact keep p hk

/-- The list as terms that lie in the call's own memory. -/
theorem made_lies {B : Nat} {w : World} {v : Value} {ps : List (Tm × Value)} (h : Made B w v ps) : LiesP w (Own B w) (ps.map (·.1)) v := by
  have fin : ∀ x ∈ ps.map (·.1), x.fine := fun x hx => by obtain ⟨p, hp, rfl⟩ := List.mem_map.1 hx; exact h.fine p hp
  have kid : ∀ i (hi : i < ps.length), LiesP w (Own B w) (ps[i]).1.kids (ps[i]).2 := fun i hi => (h.kids _ (List.getElem_mem hi)).keep (fun _ _ _ => rfl) (fun _ hb _ => hb.1)
  obtain ⟨-, ⟨rfl, hn⟩ | ⟨g, cap, cur, rfl, hg, hh, hnc, hcm, hsz, htk⟩⟩ := h.own
  · obtain rfl : ps = [] := List.eq_nil_of_length_eq_zero hn
    exact .mk [] none 0 (fun _ => .nilIface) (Nat.le_refl _) (by decide) (fun _ h => by cases h) (fun _ h => by cases h) (fun _ h => by cases h)
  · have := LiesP.mk (w := w) (P := Own B w) (ps.map (·.1)) (some ⟨g, 0, none⟩) cap (fun i => (ps[i]?.map (·.2)).getD (.slice none 0 0)) (by simpa using hnc) hcm fin
      (fun i hi => by
        have hi' : i < ps.length := by simpa using hi
        refine ⟨g, rfl, ⟨hg, cur, hh⟩, ?_⟩
        simp only [List.getElem_map, List.getElem?_eq_getElem hi', Option.map_some, Option.getD_some]
        have cellq : ∀ q, q < 5 → w.cell? ⟨g, i * 5 + q, none⟩ = [Value.int .i64 (ps[i]).1.k, .int .i64 (ps[i]).1.i, .int .i64 (ps[i]).1.j, .int .i64 (ps[i]).1.n, (ps[i]).2][q]? := fun q hq => by
          rw [h.own.cellAt (i * 5 + q) (by omega)]; exact cells5_get ps i hi' q hq
        exact ⟨cellq 0 (by omega), cellq 1 (by omega), cellq 2 (by omega), cellq 3 (by omega), cellq 4 (by omega)⟩)
      (fun i hi => by
        have hi' : i < ps.length := by simpa using hi
        simp only [List.getElem_map, List.getElem?_eq_getElem hi', Option.map_some, Option.getD_some]
        exact kid i hi')
    simpa using this

theorem alloc_new (w : World) (o : Obj) : (w.alloc o).heap[w.heap.size]? = some o := by
  unfold World.alloc; simp

/-- The cells of a term that was just laid into a block of its own. -/
theorem news_new (w : World) (t : Tm) (s : Value) (T : TypeId) : ∀ j u, (cells5 [(t, s)])[j]? = some u → (w.alloc (.cells #[.int .i64 t.k, .int .i64 t.i, .int .i64 t.j, .int .i64 t.n, s] T)).cell? ((⟨w.heap.size, 0, none⟩ : Addr).add j) = some u :=
  World.news_of_block (alloc_new w _)

/-- A term is stored into a block of five cells. -/
theorem five_set {w : World} {g : Nat} {T : TypeId} {z0 z1 z2 z3 z4 v0 v1 v2 v3 v4 : Value} (h : w.heap[g]? = some (.cells #[z0, z1, z2, z3, z4] T (0, 0))) :
    (((((w.setCell ⟨g, 0, none⟩ v0).setCell ⟨g, 1, none⟩ v1).setCell ⟨g, 2, none⟩ v2).setCell ⟨g, 3, none⟩ v3).setCell ⟨g, 4, none⟩ v4).heap[g]? = some (.cells #[v0, v1, v2, v3, v4] T (0, 0)) :=
  heap_setCell_same _ _ _ _ _ _ (heap_setCell_same _ _ _ _ _ _ (heap_setCell_same _ _ _ _ _ _ (heap_setCell_same _ _ _ _ _ _ (heap_setCell_same _ _ _ _ _ _ h))))

theorem info_term : (Tryd.prog.info? 26).map (fun i => (i.zero, i.size, i.bytes)) = some (some (.agg #[.int .i64 0, .int .i64 0, .int .i64 0, .int .i64 0, .slice none 0 0]), 5, 56) := by kernel_rfl
end Go.Proofs.YtpekceadjcbphaaDoor

namespace Go.Proofs.YtpekceadjcbphaaDoor
open Go.RowKit

/-- What a parser leaves by. -/
def faultP (at_ : Nat) : Ending := .panicked [{ v := .iface 77 (.agg #[.int .i64 at_]), recovered := false }]
/-- Tokens behind a slice, wherever they lie. -/
def TLies (w : World) (ts : List Tok) (v : Value) : Prop := ∃ a cap, v = .slice a ts.length cap ∧ ts.length ≤ cap ∧ cap ≤ maxLen ∧ (ts = [] ∨ ∃ g o cs fz, a = some ⟨g, o, none⟩ ∧ w.heap[g]? = some (Obj.cells cs 63 fz) ∧ (cs.toList.drop o).take (ts.length * 3) = cells3 ts)
theorem TLies.keep {w w' : World} {ts : List Tok} {v : Value} (h : TLies w ts v) (hk : ∀ (g : Nat) (cs : Array Value) (fz : Nat × Nat), w.heap[g]? = some (Obj.cells cs 63 fz) → w'.heap[g]? = some (Obj.cells cs 63 fz)) : TLies w' ts v := by
  obtain ⟨a, cap, hv, h1, h2, h3⟩ := h
  refine ⟨a, cap, hv, h1, h2, ?_⟩
  rcases h3 with h3 | ⟨g, o, cs, fz, h4, h5, h6⟩
  · exact Or.inl h3
  · exact Or.inr ⟨g, o, cs, fz, h4, hk _ _ _ h5, h6⟩
theorem at_drop {α : Type} {l m : List α} {o n : Nat} (h : (l.drop o).take n = m) (q : Nat) (hq : q < m.length) : l[o + q]? = m[q]? := by
  have hn : q < n := by
    have := congrArg List.length h
    simp at this
    omega
  rw [← h, List.getElem?_take, if_pos hn, List.getElem?_drop]
theorem TLies.cons {w : World} {t : Tok} {r : List Tok} {v : Value} (h : TLies w (t :: r) v) : ∃ g o cap, v = .slice (some ⟨g, o, none⟩) (r.length + 1) cap ∧ r.length + 1 ≤ cap ∧ cap ≤ maxLen ∧
    w.cell? ⟨g, o, none⟩ = some (.int .i64 t.k) ∧ w.cell? ⟨g, o + 1, none⟩ = some (.string ⟨t.s.toArray⟩) ∧ w.cell? ⟨g, o + 2, none⟩ = some (.int .i64 t.at_) ∧ g < w.heap.size ∧ TLies w r (.slice (some ⟨g, o + 3, none⟩) r.length (cap - 1)) := by
  obtain ⟨a, cap, hv, h1, h2, h3⟩ := h
  rcases h3 with h3 | ⟨g, o, cs, fz, rfl, h5, h6⟩
  · cases h3
  · simp only [List.length_cons] at h1 h6 hv
    have e0 := at_drop h6 0 (by simp [cells3])
    have e1 := at_drop h6 1 (by simp [cells3])
    have e2 := at_drop h6 2 (by simp [cells3])
    simp [cells3] at e0 e1 e2
    refine ⟨g, o, cap, hv, h1, h2, by rw [Lib.cell_of_heap h5]; exact e0, by rw [Lib.cell_of_heap h5]; exact e1, by rw [Lib.cell_of_heap h5]; exact e2, (Array.getElem?_eq_some_iff.1 h5).1, ?_⟩
    refine ⟨some ⟨g, o + 3, none⟩, cap - 1, rfl, by omega, by omega, Or.inr ⟨g, o + 3, cs, fz, rfl, h5, ?_⟩⟩
    have h7 : ((cs.toList.drop o).take ((r.length + 1) * 3)).drop 3 = (cells3 (t :: r)).drop 3 := by rw [h6]
    rw [List.drop_take, List.drop_drop] at h7
    rw [show (r.length + 1) * 3 - 3 = r.length * 3 by omega] at h7
    exact h7
/-- The block of a stream. -/
def SAt (w : World) (S : Nat) (v : Value) (E : Nat) (br : Bool) : Prop := w.heap[S]? = some (.cells #[v, .int .i64 E, .bool br] 91 (0, 0))
def hereT (E : Nat) : List Tok → Nat
  | [] => E
  | t :: _ => t.at_
def takeT (E : Nat) (k : Nat) : List Tok → Except Nat (Tok × List Tok)
  | [] => .error E
  | t :: r => if t.k = k then .ok (t, r) else .error t.at_
theorem grown_new {w w1 : World} {row : Option Nat} (h : w.grownBy w1 row) {b : Nat} (hb : w.heap.size ≤ b) (i : Nat) (v : Value) : w.grownBy (w1.setCell ⟨b, i, none⟩ v) row :=
  ⟨h.os, h.tape, h.output, by simpa using h.size, fun k hk hne => (heap_setCell_other w1 ⟨b, i, none⟩ k v (by show k ≠ b; omega)).trans (h.block k hk hne)⟩
theorem grown_at {w w1 : World} {S : Nat} (h : w.grownBy w1 none) (i : Nat) (v : Value) : w.grownBy (w1.setCell ⟨S, i, none⟩ v) (some S) :=
  ⟨h.os, h.tape, h.output, by simpa using h.size, fun k hk hne => (heap_setCell_other w1 ⟨S, i, none⟩ k v (by intro e; exact hne (by rw [e]))).trans (h.block k hk (by simp))⟩

theorem fail_any (at_ : Nat) (w : World) : Calls Tryd.prog 56 #[.int .i64 at_] w fun e w' => e = faultP at_ ∧ w = w' := by
  go_enter Tryd.func56, Tryd.ntmps56
  go_wp2
  exact ⟨rfl, rfl, rfl⟩
theorem next_tok (S : Nat) (v : Value) (E : Nat) (br : Bool) (ts : List Tok) (k : Nat) (w : World) (hS : SAt w S v E br) (hv : TLies w ts v) : Calls Tryd.prog 52 #[.pointer (some ⟨S, 0, none⟩), .int .i64 k] w fun e w' => e = .returned (.bool ((ts.head?.map fun t => t.k == k).getD false)) ∧ w = w' := by
  match ts, hv with
  | [], ⟨a, cap, hv, _⟩ =>
    subst hv
    have c0 : w.cell? ⟨S, 0, none⟩ = some (.slice a 0 cap) := by rw [Lib.cell_of_heap hS]; rfl
    go_enter Tryd.func52, Tryd.ntmps52
    go_wp2
    go_ret
    exact ⟨rfl, rfl⟩
  | t :: r, hv =>
    obtain ⟨g, o, cap, rfl, hc, hm, x0, x1, x2, hg, hr⟩ := hv.cons
    have c0 : w.cell? ⟨S, 0, none⟩ = some (.slice (some ⟨g, o, none⟩) (r.length + 1) cap) := by rw [Lib.cell_of_heap hS]; rfl
    have hkk : ((t.k : Int) == (k : Int)) = (t.k == k) := by rw [Bool.eq_iff_iff, beq_iff_eq, beq_iff_eq]; omega
    clear hr
    go_enter Tryd.func52, Tryd.ntmps52
    go_wp2
    go_ret
    exact ⟨rfl, rfl⟩
theorem here_any (S : Nat) (v : Value) (E : Nat) (br : Bool) (ts : List Tok) (w : World) (hS : SAt w S v E br) (hv : TLies w ts v) : Calls Tryd.prog 57 #[.pointer (some ⟨S, 0, none⟩)] w fun e w' => e = .returned (.int .i64 (hereT E ts)) ∧ w = w' := by
  have c1 : w.cell? ⟨S, 1, none⟩ = some (.int .i64 E) := by rw [Lib.cell_of_heap hS]; rfl
  match ts, hv with
  | [], ⟨a, cap, hv, _⟩ =>
    subst hv
    have c0 : w.cell? ⟨S, 0, none⟩ = some (.slice a 0 cap) := by rw [Lib.cell_of_heap hS]; rfl
    go_enter Tryd.func57, Tryd.ntmps57
    go_wp2
    go_ret
    exact ⟨rfl, rfl⟩
  | t :: r, hv =>
    obtain ⟨g, o, cap, rfl, hc, hm, x0, x1, x2, hg, hr⟩ := hv.cons
    have c0 : w.cell? ⟨S, 0, none⟩ = some (.slice (some ⟨g, o, none⟩) (r.length + 1) cap) := by rw [Lib.cell_of_heap hS]; rfl
    clear hr
    go_enter Tryd.func57, Tryd.ntmps57
    go_wp2
    go_ret
    exact ⟨rfl, rfl⟩
/-- What Take gives. -/
def TakeGives (S E : Nat) (br : Bool) (w : World) (x : Except Nat (Tok × List Tok)) (e : Ending) (w' : World) : Prop :=
  match x with
  | .error a => e = faultP a ∧ w.grownBy w' (some S)
  | .ok (t, r) => e = .returned (.agg #[.int .i64 t.k, .string ⟨t.s.toArray⟩, .int .i64 t.at_]) ∧ w.grownBy w' (some S) ∧ ∃ v', SAt w' S v' E br ∧ TLies w' r v'
theorem under_tok : ∃ d, Tryd.prog.underlying 63 = some d ∧ (match d with | .struct _ | .array _ _ => true | _ => false) = true := by
  have h : (Tryd.prog.underlying 63).map (fun d => match d with | .struct _ | .array _ _ => true | _ => false) = some true := by kernel_rfl
  cases e : Tryd.prog.underlying 63 with
  | none => rw [e] at h; cases h
  | some d => rw [e] at h; exact ⟨d, rfl, Option.some.inj h⟩
theorem size_tok : (Tryd.prog.info? 63).map (·.size) = some 3 := by kernel_rfl
theorem tk_ne : (91 : TypeId) ≠ 63 := by decide
theorem SAt.lt {w : World} {S : Nat} {v : Value} {E : Nat} {br : Bool} (h : SAt w S v E br) : S < w.heap.size := (Array.getElem?_eq_some_iff.1 h).1
theorem TLies.grown {w w' : World} {S : Nat} {v v0 : Value} {E : Nat} {br : Bool} {ts : List Tok} (h : TLies w ts v) (hS : SAt w S v0 E br) (hg : w.grownBy w' (some S)) : TLies w' ts v :=
  h.keep fun g cs fz e => (hg.block g (Array.getElem?_eq_some_iff.1 e).1 (by intro e2; obtain rfl : g = S := Option.some.inj e2; unfold SAt at hS; rw [hS] at e; injection e with e; injection e with _ e3 _; exact tk_ne e3)).trans e
theorem take_heap (w : World) (S : Nat) (v' : Value) (O O2 : Obj) : (((w.setCell ⟨S, 0, none⟩ v').alloc O).alloc O2).heap[w.heap.size]? = some O := by
  rw [Lib.alloc_old _ _ _ (by simp)]
  have hs : (w.setCell ⟨S, 0, none⟩ v').heap.size = w.heap.size := by simp
  rw [← hs]; exact alloc_new3 _ _
theorem take_grown (w : World) (S : Nat) (v' : Value) (O O2 : Obj) : w.grownBy (((w.setCell ⟨S, 0, none⟩ v').alloc O).alloc O2) (some S) :=
  (grown_at (⟨rfl, rfl, rfl, Nat.le_refl _, fun _ _ _ => rfl⟩ : w.grownBy w none) 0 v').trans ((World.grownBy_alloc _ O (some S)).trans (World.grownBy_alloc _ O2 (some S)))
theorem take_sat {w : World} {S : Nat} {v : Value} {E : Nat} {br : Bool} (h : SAt w S v E br) (v' : Value) (O O2 : Obj) : SAt (((w.setCell ⟨S, 0, none⟩ v').alloc O).alloc O2) S v' E br := by
  have hlt := h.lt
  unfold SAt
  rw [Lib.alloc_old _ _ _ (by simp; omega), Lib.alloc_old _ _ _ (by simpa using hlt)]
  exact heap_setCell_same w S 0 _ _ _ h
theorem take_lies {w : World} {S : Nat} {v : Value} {E : Nat} {br : Bool} {r : List Tok} {v1 : Value} (h : SAt w S v E br) (hr : TLies w r v1) (v' : Value) (O O2 : Obj) : TLies (((w.setCell ⟨S, 0, none⟩ v').alloc O).alloc O2) r v1 := hr.grown h (take_grown w S v' O O2)
set_option maxHeartbeats 1000000 in
set_option maxRecDepth 20000 in
theorem take_any (S : Nat) (v : Value) (E : Nat) (br : Bool) (ts : List Tok) (k : Nat) (w : World) (hS : SAt w S v E br) (hv : TLies w ts v) : Calls Tryd.prog 54 #[.pointer (some ⟨S, 0, none⟩), .int .i64 k] w (TakeGives S E br w (takeT E k ts)) := by
  have hlt := hS.lt
  have HGA := Lib.hid (World.grownBy_alloc w (.cells #[.int .i64 0, .string ⟨#[]⟩, .int .i64 0] 63) none)
  have HSA := Lib.hid (show SAt (w.alloc (.cells #[.int .i64 0, .string ⟨#[]⟩, .int .i64 0] 63)) S v E br from (Lib.alloc_old _ _ _ hlt).trans hS)
  have HVA := Lib.hid (hv.grown hS (World.grownBy_alloc w (.cells #[.int .i64 0, .string ⟨#[]⟩, .int .i64 0] 63) (some S)))
  match ts, hv, HVA with
  | [], hv, HVA =>
    have hk : takeT E k [] = .error E := rfl
    rw [hk]
    clear hv hS
    go_enter Tryd.func54, Tryd.ntmps54
    go_wp2_with fail
    refine (next_tok _ _ _ _ _ _ _ HSA.out HVA.out).mono ?_
    rintro e w1 ⟨rfl, rfl⟩
    go_wp2_with fail
    refine (here_any _ _ _ _ _ _ HSA.out HVA.out).mono ?_
    rintro e w1 ⟨rfl, rfl⟩
    go_wp2_with fail
    refine (fail_any _ _).mono ?_
    rintro e w1 ⟨rfl, rfl⟩
    unfold faultP
    go_wp2
    exact ⟨rfl, rfl, World.grownBy_alloc _ _ _⟩
  | t :: r, hv, HVA =>
    by_cases hk : t.k = k
    · have hk1 : takeT E k (t :: r) = .ok (t, r) := if_pos hk
      rw [hk1]
      have hkb : ((t :: r).head?.map fun t => t.k == k).getD false = true := by simpa using hk
      have HKB := Lib.hid hkb
      obtain ⟨g, o, cap, rfl, hc, hm, x0, x1, x2, hg, hr⟩ := HVA.out.cons
      have c0 : (w.alloc (.cells #[.int .i64 0, .string ⟨#[]⟩, .int .i64 0] 63)).cell? ⟨S, 0, none⟩ = some (.slice (some ⟨g, o, none⟩) (r.length + 1) cap) := by rw [Lib.cell_of_heap HSA.out]; rfl
      have HS := Lib.hid hS
      have HV := Lib.hid hv
      have HR0 := Lib.hid (show TLies w r (.slice (some ⟨g, o + 3, none⟩) r.length (cap - 1)) from by obtain ⟨g', o', cap', e, _, _, _, _, _, _, hq⟩ := hv.cons; simp only [Value.slice.injEq, Option.some.injEq, Addr.mk.injEq, and_true] at e; obtain ⟨⟨rfl, rfl⟩, -, rfl⟩ := e; exact hq)
      have f0 : w.frozen? ⟨S, 0, none⟩ = false := Lib.frozen_of_heap hS 0
      obtain ⟨du, hu1, hu2⟩ := under_tok
      unfold maxLen at hm
      clear hv hS hk hkb hr hk1
      go_enter Tryd.func54, Tryd.ntmps54
      go_wp2_with fail
      refine (next_tok _ _ _ _ _ _ _ HSA.out HVA.out).mono ?_
      rintro e w1 ⟨rfl, rfl⟩
      rw [HKB.out]
      rcases Nat.lt_or_ge 1 cap with hcap | hcap
      · go_wp2_with fail
        refine bodyPost_ret (results_cell_row rfl _ _ w.heap.size _ _ _ du rfl (take_heap _ _ _ _ _) hu1 (by cases du <;> first | rfl | exact hu2) size_tok) rfl ?_
        exact ⟨rfl, take_grown _ _ _ _ _, _, take_sat HS.out _ _ _, take_lies HS.out (HR0.out) _ _ _⟩
      · have hcap1 : cap = 1 := by omega
        have hr0 : r = [] := List.eq_nil_of_length_eq_zero (by omega)
        subst hcap1 hr0
        go_wp2_with fail
        refine bodyPost_ret (results_cell_row rfl _ _ w.heap.size _ _ _ du rfl (take_heap _ _ _ _ _) hu1 (by cases du <;> first | rfl | exact hu2) size_tok) rfl ?_
        exact ⟨rfl, take_grown _ _ _ _ _, _, take_sat HS.out _ _ _, take_lies HS.out (⟨_, _, rfl, Nat.le_refl _, Nat.zero_le _, Or.inl rfl⟩) _ _ _⟩
    · have hk1 : takeT E k (t :: r) = .error t.at_ := if_neg hk
      rw [hk1]
      have hkb : ((t :: r).head?.map fun t => t.k == k).getD false = false := by simpa using hk
      have HKB := Lib.hid hkb
      clear hv hS hk hkb
      go_enter Tryd.func54, Tryd.ntmps54
      go_wp2_with fail
      refine (next_tok _ _ _ _ _ _ _ HSA.out HVA.out).mono ?_
      rintro e w1 ⟨rfl, rfl⟩
      rw [HKB.out]
      go_wp2_with fail
      refine (here_any _ _ _ _ _ _ HSA.out HVA.out).mono ?_
      rintro e w1 ⟨rfl, rfl⟩
      go_wp2_with fail
      refine (fail_any _ _).mono ?_
      rintro e w1 ⟨rfl, rfl⟩
      unfold faultP
      go_wp2
      exact ⟨rfl, rfl, World.grownBy_alloc _ _ _⟩
end Go.Proofs.YtpekceadjcbphaaDoor

namespace Go.Proofs.YtpekceadjcbphaaDoor

/-- The first place of a text in a list. -/
def idxL (x : List UInt8) : List (List UInt8) → Option Nat
  | [] => none
  | y :: r => if y = x then some 0 else (idxL x r).map (· + 1)
theorem idxL_lt {x : List UInt8} : ∀ {l : List (List UInt8)} {q : Nat}, idxL x l = some q → q < l.length
  | [], q, h => by cases h
  | y :: r, q, h => by
    unfold idxL at h
    split at h
    · obtain rfl := Option.some.inj h; simp
    · obtain ⟨p, hp, rfl⟩ := Option.map_eq_some_iff.1 h
      have := idxL_lt hp
      simp; omega
def headN (w : List UInt8) : Int := if w = [115, 111, 114, 116] then 1 else match idxL w (headsW.drop 3) with
  | some i => (i : Int) + 3
  | none => 0
def symN (w : List UInt8) : Int := match idxL w symsW with
  | some i => (i : Int) + 1
  | none => 0
def sortN (k : Int) : Int := if k ≤ 2 then 0 else if k ≤ 12 then 1 else 2

/-- A level's list behind its bracket. -/
def numQ (lv : List Tok → Except Nat (Int × List Tok)) (E : Nat) (r : List Tok) : Except Nat (Int × List Tok) :=
  match takeT E 3 r with
  | .error e => .error e
  | .ok (w, r2) =>
    if w.s = [115, 117, 99] then
      match lv r2 with
      | .error e => .error e
      | .ok (n, r3) =>
        match takeT E 2 r3 with
        | .error e => .error e
        | .ok (_, r4) => .ok (n + 1, r4)
    else if w.s = [109, 97, 120] then
      match lv r2 with
      | .error e => .error e
      | .ok (n, r3) =>
        match lv r3 with
        | .error e => .error e
        | .ok (m, r4) =>
          match takeT E 2 r4 with
          | .error e => .error e
          | .ok (_, r5) => .ok (max n m, r5)
    else .error w.at_
/-- A level's number, lv reading the levels within. -/
def numP (lv : List Tok → Except Nat (Int × List Tok)) (E : Nat) (i j : Int) : List Tok → Except Nat (Int × List Tok)
  | [] => .error E
  | t :: r =>
    if t.k = 4 then .ok ((((getB t.s).getD 0 : Nat) : Int), r)
    else if t.k = 3 then (if t.s = [105] then .ok (i, r) else if t.s = [106] then .ok (j, r) else .error t.at_)
    else if t.k = 1 then
      numQ lv E r
    else .error t.at_
def levelP (E : Nat) (i j : Int) : Nat → List Tok → Except Nat (Int × List Tok)
  | 0, ts => .error (hereT E ts)
  | f + 1, ts =>
    match numP (levelP E i j f) E i j ts with
    | .error e => .error e
    | .ok (n, r) => if 1000 < n then .error (hereT E ts) else .ok (n, r)

abbrev Names := List (List UInt8)
/-- The kids from the p-th on, c of them. -/
def kidsP (tp : Int → Names → List Tok → Except Nat (Tm × List Tok)) (k own : Int) (x : List UInt8) : Nat → Nat → Names → List Tok → Except Nat (List Tm × List Tok)
  | _, 0, _, ts => .ok ([], ts)
  | p, c + 1, N, ts =>
    match tp (if k = 12 ∧ p = 2 then 2 else own) (if bindsN k p = 0 then N else x :: N) ts with
    | .error e => .error e
    | .ok (t, r) =>
      match kidsP tp k own x (p + 1) c N r with
      | .error e => .error e
      | .ok (l, r2) => .ok (t :: l, r2)
def kidsK (tp : Int → Names → List Tok → Except Nat (Tm × List Tok)) (E : Nat) (k n own : Int) (N : Names) (ts : List Tok) : Except Nat (List Tm × List Tok) :=
  if kidsN k n ≤ 0 then .ok ([], ts)
  else if 0 < bindsN k 1 then
    match takeT E 3 ts with
    | .error e => .error e
    | .ok (x, r) => kidsP tp k own x.s 0 (kidsN k n).toNat N r
  else kidsP tp k own [] 0 (kidsN k n).toNat N ts
def kidsJ (tp : Int → Names → List Tok → Except Nat (Tm × List Tok)) (E : Nat) (N : Names) (ts : List Tok) : Except Nat (List Tm × List Tok) :=
  match tp 2 N ts with
  | .error e => .error e
  | .ok (a, r1) =>
  match tp 2 N r1 with
  | .error e => .error e
  | .ok (u, r2) =>
  match takeT E 3 r2 with
  | .error e => .error e
  | .ok (y, r3) =>
  match takeT E 3 r3 with
  | .error e => .error e
  | .ok (z, r4) =>
  match tp 2 (z.s :: y.s :: N) r4 with
  | .error e => .error e
  | .ok (p, r5) =>
  match tp 2 N r5 with
  | .error e => .error e
  | .ok (q, r6) =>
  match tp 2 N r6 with
  | .error e => .error e
  | .ok (v, r7) =>
  match tp 2 N r7 with
  | .error e => .error e
  | .ok (x, r8) => .ok ([a, u, p, q, v, x], r8)
def symP (E : Nat) (k : Int) (ts : List Tok) : Except Nat (Int × List Tok) :=
  if k = 23 then (match takeT E 3 ts with
    | .error e => .error e
    | .ok (s, r) => if symN s.s = 0 then .error s.at_ else .ok (symN s.s, r)) else .ok (0, ts)
def lvaP (lv : List Tok → Except Nat (Int × List Tok)) (k : Int) (ts : List Tok) : Except Nat (Int × List Tok) := if 0 < levelsN k then lv ts else .ok (0, ts)
def lvbP (lv : List Tok → Except Nat (Int × List Tok)) (k : Int) (ts : List Tok) : Except Nat (Int × List Tok) := if 1 < levelsN k then lv ts else .ok (0, ts)
def kdsP (tp : Int → Names → List Tok → Except Nat (Tm × List Tok)) (E : Nat) (k n : Int) (N : Names) (ts : List Tok) : Except Nat (List Tm × List Tok) := if k = 22 then kidsJ tp E N ts else kidsK tp E k n (sortN k) N ts
/-- What stands behind a list's bracket and word. -/
def bodyP (lv : List Tok → Except Nat (Int × List Tok)) (tp : Int → Names → List Tok → Except Nat (Tm × List Tok)) (E : Nat) (k : Int) (N : Names) (ts : List Tok) : Except Nat (Tm × List Tok) :=
  match symP E k ts with
  | .error e => .error e
  | .ok (n, r1) =>
  match lvaP lv k r1 with
  | .error e => .error e
  | .ok (i, r2) =>
  match lvbP lv k r2 with
  | .error e => .error e
  | .ok (j, r3) =>
  match kdsP tp E k n N r3 with
  | .error e => .error e
  | .ok (l, r4) =>
  match takeT E 2 r4 with
  | .error e => .error e
  | .ok (_, r5) => .ok (.mk k i j n l, r5)
def listP (lv : List Tok → Except Nat (Int × List Tok)) (tp : Int → Names → List Tok → Except Nat (Tm × List Tok)) (E : Nat) (so : Int) (N : Names) (ts : List Tok) : Except Nat (Tm × List Tok) :=
  match takeT E 3 ts with
  | .error e => .error e
  | .ok (w, r) =>
    if headN w.s = 0 ∨ (sortN (headN w.s) ≠ 0 ∧ so ≠ 0 ∧ sortN (headN w.s) ≠ so) then .error w.at_
    else bodyP lv tp E (headN w.s) N r
def termP (E : Nat) (i j : Int) : Nat → Int → Names → List Tok → Except Nat (Tm × List Tok)
  | 0, _, _, ts => .error (hereT E ts)
  | _ + 1, _, _, [] => .error E
  | f + 1, so, N, t :: r =>
    if t.k = 1 then listP (levelP E i j f) (termP E i j f) E so N r
    else if t.k = 3 then
      match idxL t.s N with
      | none => .error t.at_
      | some q => .ok (.mk 2 q 0 0 [], r)
    else .error t.at_

/-- What is left is shorter. -/
theorem takeT_len {E k : Nat} {ts r : List Tok} {t : Tok} (h : takeT E k ts = .ok (t, r)) : ts.length = r.length + 1 := by
  unfold takeT at h
  split at h
  · cases h
  · split at h
    · cases h; rfl
    · cases h
theorem takeT_eq {E k : Nat} {ts r : List Tok} {t : Tok} (h : takeT E k ts = .ok (t, r)) : ts = t :: r ∧ t.k = k := by
  unfold takeT at h
  split at h
  · cases h
  · split at h
    · rename_i hk; cases h; exact ⟨rfl, hk⟩
    · cases h
theorem numP_len {lv : List Tok → Except Nat (Int × List Tok)} (hlv : ∀ ts n r, lv ts = .ok (n, r) → r.length ≤ ts.length) {E : Nat} {i j : Int} {ts r : List Tok} {n : Int} (h : numP lv E i j ts = .ok (n, r)) : r.length < ts.length := by
  unfold numP at h
  split at h
  · cases h
  · rename_i t r0
    simp only [List.length_cons]
    split at h
    · cases h; omega
    · split at h
      · split at h
        · cases h; omega
        · split at h
          · cases h; omega
          · cases h
      · split at h
        · unfold numQ at h
          split at h
          · cases h
          · rename_i w r2 h2
            have l2 := takeT_len h2
            split at h
            · split at h
              · cases h
              · rename_i n3 r3 h3
                have l3 := hlv _ _ _ h3
                split at h
                · cases h
                · rename_i t4 r4 h4
                  have l4 := takeT_len h4
                  cases h; omega
            · split at h
              · split at h
                · cases h
                · rename_i n3 r3 h3
                  have l3 := hlv _ _ _ h3
                  split at h
                  · cases h
                  · rename_i n4 r4 h4
                    have l4 := hlv _ _ _ h4
                    split at h
                    · cases h
                    · rename_i t5 r5 h5
                      have l5 := takeT_len h5
                      cases h; omega
              · cases h
        · cases h
theorem levelP_len {E : Nat} {i j : Int} : ∀ {f : Nat} {ts r : List Tok} {n : Int}, levelP E i j f ts = .ok (n, r) → r.length < ts.length
  | 0, ts, r, n, h => by cases h
  | f + 1, ts, r, n, h => by
    unfold levelP at h
    split at h
    · cases h
    · rename_i n2 r2 h2
      have := numP_len (fun ts n r h => Nat.le_of_lt (levelP_len h)) h2
      split at h
      · cases h
      · cases h; exact this
theorem kidsP_len {tp : Int → Names → List Tok → Except Nat (Tm × List Tok)} (htp : ∀ s N ts t r, tp s N ts = .ok (t, r) → r.length ≤ ts.length) {k own : Int} {x : List UInt8} :
    ∀ {c p : Nat} {N : Names} {ts r : List Tok} {l : List Tm}, kidsP tp k own x p c N ts = .ok (l, r) → r.length ≤ ts.length ∧ l.length = c
  | 0, p, N, ts, r, l, h => by unfold kidsP at h; cases h; exact ⟨Nat.le_refl _, rfl⟩
  | c + 1, p, N, ts, r, l, h => by
    unfold kidsP at h
    split at h
    · cases h
    · rename_i t r1 h1
      have l1 := htp _ _ _ _ _ h1
      split at h
      · cases h
      · rename_i l2 r2 h2
        have l3 := kidsP_len htp h2
        cases h
        exact ⟨by omega, by simp; omega⟩
theorem kidsK_len {tp : Int → Names → List Tok → Except Nat (Tm × List Tok)} (htp : ∀ s N ts t r, tp s N ts = .ok (t, r) → r.length ≤ ts.length) {E : Nat} {k n own : Int} {N : Names} {ts r : List Tok} {l : List Tm} (h : kidsK tp E k n own N ts = .ok (l, r)) : r.length ≤ ts.length ∧ (l.length : Int) = max 0 (kidsN k n) := by
  unfold kidsK at h
  split at h
  · cases h; exact ⟨Nat.le_refl _, by simp; omega⟩
  · split at h
    · split at h
      · cases h
      · rename_i x r1 h1
        have l1 := takeT_len h1
        have l2 := kidsP_len htp h
        exact ⟨by omega, by omega⟩
    · have l2 := kidsP_len htp h
      exact ⟨l2.1, by omega⟩
theorem kidsJ_len {tp : Int → Names → List Tok → Except Nat (Tm × List Tok)} (htp : ∀ s N ts t r, tp s N ts = .ok (t, r) → r.length ≤ ts.length) {E : Nat} {N : Names} {ts r : List Tok} {l : List Tm} (h : kidsJ tp E N ts = .ok (l, r)) : r.length ≤ ts.length ∧ l.length = 6 := by
  unfold kidsJ at h
  split at h; · cases h
  rename_i h1
  split at h; · cases h
  rename_i h2
  split at h; · cases h
  rename_i h3
  split at h; · cases h
  rename_i h4
  split at h; · cases h
  rename_i h5
  split at h; · cases h
  rename_i h6
  split at h; · cases h
  rename_i h7
  split at h; · cases h
  rename_i h8
  have l1 := htp _ _ _ _ _ h1
  have l2 := htp _ _ _ _ _ h2
  have l3 := takeT_len h3
  have l4 := takeT_len h4
  have l5 := htp _ _ _ _ _ h5
  have l6 := htp _ _ _ _ _ h6
  have l7 := htp _ _ _ _ _ h7
  have l8 := htp _ _ _ _ _ h8
  cases h
  exact ⟨by omega, rfl⟩
theorem bodyP_len {lv : List Tok → Except Nat (Int × List Tok)} (hlv : ∀ ts n r, lv ts = .ok (n, r) → r.length ≤ ts.length) {tp : Int → Names → List Tok → Except Nat (Tm × List Tok)} (htp : ∀ s N ts t r, tp s N ts = .ok (t, r) → r.length ≤ ts.length) {E : Nat} {k : Int} {N : Names} {ts r : List Tok} {t : Tm} (h : bodyP lv tp E k N ts = .ok (t, r)) : r.length < ts.length := by
  unfold bodyP at h
  split at h; · cases h
  rename_i n r1 h1
  split at h; · cases h
  rename_i i r2 h2
  split at h; · cases h
  rename_i j r3 h3
  split at h; · cases h
  rename_i l r4 h4
  split at h; · cases h
  rename_i z r5 h5
  have l5 := takeT_len h5
  cases h
  have l1 : r1.length ≤ ts.length := by
    unfold symP at h1
    split at h1
    · split at h1
      · cases h1
      · rename_i s r0 h0
        have := takeT_len h0
        split at h1
        · cases h1
        · cases h1; omega
    · cases h1; exact Nat.le_refl _
  have l2 : r2.length ≤ r1.length := by
    unfold lvaP at h2
    split at h2
    · exact hlv _ _ _ h2
    · cases h2; exact Nat.le_refl _
  have l3 : r3.length ≤ r2.length := by
    unfold lvbP at h3
    split at h3
    · exact hlv _ _ _ h3
    · cases h3; exact Nat.le_refl _
  have l4 : r4.length ≤ r3.length := by
    unfold kdsP at h4
    split at h4
    · exact (kidsJ_len htp h4).1
    · exact (kidsK_len htp h4).1
  omega
theorem listP_len {lv : List Tok → Except Nat (Int × List Tok)} (hlv : ∀ ts n r, lv ts = .ok (n, r) → r.length ≤ ts.length) {tp : Int → Names → List Tok → Except Nat (Tm × List Tok)} (htp : ∀ s N ts t r, tp s N ts = .ok (t, r) → r.length ≤ ts.length) {E : Nat} {so : Int} {N : Names} {ts r : List Tok} {t : Tm} (h : listP lv tp E so N ts = .ok (t, r)) : r.length < ts.length := by
  unfold listP at h
  split at h; · cases h
  rename_i w r1 h1
  have := takeT_len h1
  split at h
  · cases h
  · have := bodyP_len hlv htp h
    omega
theorem termP_len {E : Nat} {i j : Int} : ∀ {f : Nat} {so : Int} {N : Names} {ts r : List Tok} {t : Tm}, termP E i j f so N ts = .ok (t, r) → r.length < ts.length
  | 0, _, _, _, _, _, h => by cases h
  | f + 1, _, _, [], _, _, h => by cases h
  | f + 1, so, N, t0 :: r0, r, t, h => by
    unfold termP at h
    simp only [List.length_cons]
    split at h
    · have := listP_len (fun ts n r h => Nat.le_of_lt (levelP_len h)) (fun s N ts t r h => Nat.le_of_lt (termP_len h)) h
      omega
    · split at h
      · split at h
        · cases h
        · cases h; omega
      · cases h
end Go.Proofs.YtpekceadjcbphaaDoor

namespace Go.Proofs.YtpekceadjcbphaaDoor
open Go.RowKit Go.Maps Go.ChangeShapes

/-- The constants of a reading: where its blocks lie, the end of the text, the levels, the outer names. -/
structure RC where
  B : Nat
  S : Nat
  R : Nat
  M : Nat
  E : Nat
  br : Bool
  i : Int
  j : Int
  out : Names
  ov : Value
  K : Nat
/-- The places at which a name is bound within the text, from the outermost on. -/
def poss (x : List UInt8) : Names → Nat → List Int
  | [], _ => []
  | e :: r, o => poss x r o ++ (if e = x then [((o + r.length : Nat) : Int)] else [])
theorem poss_none {x : List UInt8} {o : Nat} : ∀ {env : Names}, idxL x env = none → poss x env o = []
  | [], _ => rfl
  | e :: r, h => by
    unfold idxL at h
    split at h
    · cases h
    · rename_i hne
      unfold poss
      rw [poss_none (by cases e2 : idxL x r with
        | none => rfl
        | some q => rw [e2] at h; cases h), if_neg hne]
      rfl
theorem poss_some {x : List UInt8} {o : Nat} : ∀ {env : Names} {q : Nat}, idxL x env = some q → ∃ l, poss x env o = l ++ [((o + (env.length - 1 - q) : Nat) : Int)]
  | [], q, h => by cases h
  | e :: r, q, h => by
    unfold idxL at h
    unfold poss
    split at h
    · rename_i he
      obtain rfl := Option.some.inj h
      exact ⟨poss x r o, by rw [if_pos he]; simp⟩
    · rename_i hne
      obtain ⟨p, hp, rfl⟩ := Option.map_eq_some_iff.1 h
      obtain ⟨l, hl⟩ := poss_some (o := o) hp
      have := idxL_lt hp
      refine ⟨l, ?_⟩
      rw [hl, if_neg hne, List.append_nil]
      congr 4
      simp; omega
theorem idxL_append (x : List UInt8) : ∀ (a b : Names), idxL x (a ++ b) = match idxL x a with
    | some q => some q
    | none => (idxL x b).map (· + a.length)
  | [], b => by cases h : idxL x b <;> simp [idxL, h]
  | y :: r, b => by
    simp only [List.cons_append, idxL]
    split
    · rfl
    · rw [idxL_append x r b]
      cases idxL x r with
      | some q => rfl
      | none => cases idxL x b <;> simp; omega
/-- What the map of inner places says. -/
def EnvIs (D : DataW Unit) (env : Names) (o : Nat) : Prop := IsMap D ∧ ∀ x, (D.atKey (.string x) .nil = .nil ∧ poss x env o = []) ∨ D.atKey (.string x) .nil = .slice (lits .i64 (poss x env o)) []
theorem lits_inj : ∀ {a b : List Int}, (lits .i64 a : List (DataW Unit)) = lits .i64 b → a = b := fun {a b} h => (List.map_inj_right (fun x y hxy => by simpa using hxy)).1 h
/-- The last place of each outer name. -/
def IdxAt (D : DataW Unit) (l : Names) : Prop := ∀ x, match idxL x l.reverse with
  | none => has D (.string x) = false
  | some q => has D (.string x) = true ∧ ∀ z, D.atKey (.string x) z = .lit (.int .i64 ((l.length - 1 - q : Nat) : Int))
theorem idxAt_nil : IdxAt (.map []) [] := fun x => by show has _ _ = false; rfl
theorem idxAt_put {D : DataW Unit} {l : Names} (hm : IsMap D) (h : IdxAt D l) (y : List UInt8) : IdxAt (D.put (.string y) (.lit (.int .i64 (l.length : Int)))) (l ++ [y]) := by
  intro x
  rw [List.reverse_append]
  simp only [List.reverse_cons, List.reverse_nil, List.nil_append, List.singleton_append, idxL]
  by_cases hy : y = x
  · subst hy
    rw [if_pos rfl]
    refine ⟨has_put_same hm (show WideAt.IsKeyLit (.string y) from trivial) _, fun z => ?_⟩
    rw [atKey_put_same hm (show WideAt.IsKeyLit (.string y) from trivial)]
    simp
  · rw [if_neg hy]
    have hne : (Lit.string x) ≠ .string y := fun e => hy (by injection e with e; exact e.symm)
    have := h x
    cases e : idxL x l.reverse with
    | none => rw [e] at this; simp only [Option.map_none]; rw [has_put_other hne]; exact this
    | some q =>
      rw [e] at this
      simp only [Option.map_some]
      refine ⟨by rw [has_put_other hne]; exact this.1, fun z => ?_⟩
      rw [atKey_put_other hne, this.2]
      have := idxL_lt e
      simp at this ⊢
      omega
/-- Texts behind a slice, below B. -/
def TxLies (B : Nat) (w : World) (l : Names) (v : Value) : Prop := ∃ a cap, v = .slice a l.length cap ∧ l.length ≤ cap ∧ cap ≤ maxLen ∧ ∀ q (h : q < l.length), ∃ g o, a = some ⟨g, o, none⟩ ∧ g < B ∧ w.cell? ⟨g, o + q, none⟩ = some (.string ⟨(l[q]).toArray⟩)
theorem TxLies.keep {B : Nat} {w w' : World} {l : Names} {v : Value} (h : TxLies B w l v) (hb : Below B w w') : TxLies B w' l v := by
  obtain ⟨a, cap, h1, h2, h3, h4⟩ := h
  exact ⟨a, cap, h1, h2, h3, fun q hq => by obtain ⟨g, o, e1, e2, e3⟩ := h4 q hq; exact ⟨g, o, e1, e2, (hb.cell (by exact e2)).trans e3⟩⟩
/-- The block of a reader. -/
def RAt (w : World) (c : RC) (d : Nat) (xv : Value) (lk : Nat) : Prop := w.heap[c.R]? = some (.cells #[.pointer (some ⟨c.S, 0, none⟩), .int .i64 c.i, .int .i64 c.j, c.ov, .map (some c.M), .int .i64 d, xv, .int .i64 lk] 75 (0, 0))
def IdxIs (w : World) (c : RC) (xv : Value) : Prop := xv = .map none ∨ ∃ X n D, xv = .map (some X) ∧ c.B ≤ X ∧ X ≠ c.M ∧ n ≤ 100000000000 ∧ w.ownsMap Tryd.prog 9 (plainElem (H := Unit) Tryd.prog 3) X n D ∧ IdxAt D c.out
/-- The reader has the tokens ts left, in the scope of N; n: what is used up; sl: what is left to be used. -/
structure RSt (c : RC) (sl : Nat) (N : Names) (ts : List Tok) (w : World) : Prop where
  bS : c.B ≤ c.S
  bR : c.B ≤ c.R
  bM : c.B ≤ c.M
  lo : c.B ≤ w.heap.size
  kk : c.K ≤ 100000000000
  str : ∃ tv, SAt w c.S tv c.E c.br ∧ TLies w ts tv
  tok : ∀ t ∈ ts, t.s.length ≤ 10000000
  rdr : ∃ (lk n : Nat) (xv : Value) (D : DataW Unit) (env : Names), RAt w c N.length xv lk ∧ n + lk + 100 * ts.length + sl ≤ c.K ∧ IdxIs w c xv ∧ w.ownsGroups Tryd.prog 9 (c.M + 1) 3 .i64 c.M n D ∧ N = env ++ c.out.reverse ∧ EnvIs D env c.out.length
  outs : TxLies c.B w c.out c.ov
  many : N.length + 100 * ts.length + sl ≤ 100000000000
  short : ∀ y ∈ c.out, y.length ≤ 10000000
theorem RAt.lt {w : World} {c : RC} {d : Nat} {xv : Value} {lk : Nat} (h : RAt w c d xv lk) : c.R < w.heap.size := (Array.getElem?_eq_some_iff.1 h).1
/-- What stays: all that is older than the reading, and every block of its own but the stream, the reader, numbers and maps. -/
structure Fr (c : RC) (w w' : World) : Prop where
  below : Below c.B w w'
  kept : ∀ (b : Nat) (cs : Array Value) (T : TypeId) (fz : Nat × Nat), w.heap[b]? = some (Obj.cells cs T fz) → T ≠ 91 → T ≠ 75 → T ≠ 3 → w'.heap[b]? = some (Obj.cells cs T fz)
theorem Fr.size {c : RC} {w w' : World} (h : Fr c w w') : w.heap.size ≤ w'.heap.size := h.below.size
theorem Fr.refl (c : RC) (w : World) : Fr c w w := ⟨Below.refl _ _, fun _ _ _ _ h _ _ _ => h⟩
theorem Fr.trans {c : RC} {w w1 w2 : World} (h : Fr c w w1) (k : Fr c w1 w2) : Fr c w w2 := ⟨h.below.trans k.below, fun b cs T fz e h1 h2 h3 => k.kept b cs T fz (h.kept b cs T fz e h1 h2 h3) h1 h2 h3⟩
theorem hlt_of {w : World} {b : Nat} {o : Obj} (h : w.heap[b]? = some o) : b < w.heap.size := (Array.getElem?_eq_some_iff.1 h).1
/-- A step that turns one block, and that block is of a sort that may turn. -/
theorem Fr.grown {c : RC} {w w' : World} {row : Option Nat} (hg : w.grownBy w' row) (hB : ∀ b, row = some b → c.B ≤ b) (hT : ∀ b, row = some b → ∀ cs T fz, w.heap[b]? = some (Obj.cells cs T fz) → T = 91 ∨ T = 75 ∨ T = 3) (hlo : c.B ≤ w.heap.size) : Fr c w w' := by
  refine ⟨⟨hg.os, hg.tape, hg.output, hg.size, fun k hk => hg.block k (by omega) (fun e => by have := hB k e.symm; omega)⟩, fun b cs T fz e h1 h2 h3 => ?_⟩
  by_cases hb : some b = row
  · rcases hT b hb.symm cs T fz e with h | h | h
    · exact absurd h h1
    · exact absurd h h2
    · exact absurd h h3
  · rw [hg.block b (hlt_of e) hb]; exact e
theorem Fr.later {c : RC} {w w' : World} (hb : Below w.heap.size w w') (hlo : c.B ≤ w.heap.size) : Fr c w w' := ⟨hb.mono hlo, fun b cs T fz e _ _ _ => by rw [hb.block b (hlt_of e)]; exact e⟩
theorem Fr.drew {c : RC} {w w' : World} (h : Fr c w w') : Fr c w w'.drew := ⟨h.below.drew, h.kept⟩
theorem Fr.alloc {c : RC} {w w' : World} (h : Fr c w w') (hlo : c.B ≤ w'.heap.size) (o : Obj) : Fr c w (w'.alloc o) := h.trans (Fr.later ((Below.refl _ _).alloc (Nat.le_refl _) o) hlo)
/-- A map of rows stays where its block and the rows do. -/
theorem groups_same {w w' : World} {base M n : Nat} {D : DataW Unit} (h : w.ownsGroups Tryd.prog 9 base 3 .i64 M n D) (hM : w'.heap[M]? = w.heap[M]?)
    (hi : ∀ (g : Nat) (cs : Array Value) (fz : Nat × Nat), w.heap[g]? = some (Obj.cells cs 3 fz) → w'.heap[g]? = some (Obj.cells cs 3 fz)) : w'.ownsGroups Tryd.prog 9 base 3 .i64 M n D := by
  obtain ⟨es, clock, hb, F, hs, rfl, hbb, hlen, hap⟩ := h
  have own : ∀ {v : Value} {zs : List Int}, w.ownsInts base 3 .i64 v zs → w'.ownsInts base 3 .i64 v zs := by
    rintro v zs ⟨⟨h1, h2⟩, h3⟩
    refine ⟨⟨h1, ?_⟩, h3⟩
    rcases h2 with h2 | ⟨g, cap, cur, hv, hg, hh, r⟩
    · exact Or.inl h2
    · exact Or.inr ⟨g, cap, cur, hv, hg, hi _ _ _ hh, r⟩
  have hs1 : ∀ x ∈ es.toList, ∀ z, rowElem (H := Unit) w base 3 .i64 x.val = some z → rowElem w' base 3 .i64 x.val = some z := by
    intro x _ z hz
    obtain ⟨zs, ho, rfl⟩ := rowElem_inv hz
    exact rowElem_mk (own ho)
  obtain ⟨F2, hmap2, _⟩ := F.stay hs1
  refine ⟨es, clock, hM.trans hb, F2, hs, by rw [hmap2], hbb, ?_, hap⟩
  intro x hx zs ho
  obtain ⟨y, hy⟩ := F.reads x hx
  obtain ⟨z, hz, _⟩ := WideElems.rd_val hy
  obtain ⟨ys, ho', _⟩ := rowElem_inv hz
  rw [ho.unique (own ho')]
  exact hlen x hx ys ho'
theorem groups_map {w : World} {base M n : Nat} {D : DataW Unit} (h : w.ownsGroups Tryd.prog 9 base 3 .i64 M n D) : ∃ es clock, w.heap[M]? = some (.map es clock) := by
  obtain ⟨es, clock, hb, _⟩ := h
  exact ⟨es, clock, hb⟩
theorem idxIs_same {w w' : World} {c : RC} {xv : Value} (h : IdxIs w c xv) (hk : ∀ (b : Nat) es clock, b ≠ c.M → w.heap[b]? = some (.map es clock) → w'.heap[b]? = some (.map es clock)) : IdxIs w' c xv := by
  rcases h with rfl | ⟨X, n, D, rfl, hB, hM, hn, ⟨es, clock, hb, r⟩, hx⟩
  · exact Or.inl rfl
  · exact Or.inr ⟨X, n, D, rfl, hB, hM, hn, ⟨es, clock, hk _ _ _ hM hb, r⟩, hx⟩
/-- The reader's state over whatever leaves its blocks alone. -/
theorem RSt.later {c : RC} {sl : Nat} {N : Names} {ts : List Tok} {w w' : World} (h : RSt c sl N ts w) (hb : Below w.heap.size w w') : RSt c sl N ts w' := by
  obtain ⟨tv, h1, h2⟩ := h.str
  obtain ⟨lk, n, xv, D, env, r1, r2, r3, r4, r5⟩ := h.rdr
  refine ⟨h.bS, h.bR, h.bM, Nat.le_trans h.lo hb.size, h.kk, ⟨tv, ?_, ?_⟩, h.tok, ⟨lk, n, xv, D, env, ?_, r2, ?_, ?_, r5⟩, h.outs.keep (hb.mono h.lo), h.many, h.short⟩
  · unfold SAt at h1 ⊢; rw [hb.block _ (hlt_of h1)]; exact h1
  · exact h2.keep fun g cs fz e => by rw [hb.block _ (hlt_of e)]; exact e
  · unfold RAt at r1 ⊢; rw [hb.block _ (hlt_of r1)]; exact r1
  · exact idxIs_same r3 fun b es clock _ e => by rw [hb.block _ (hlt_of e)]; exact e
  · obtain ⟨es, clock, hM⟩ := groups_map r4
    exact groups_same r4 (hb.block _ (hlt_of hM)) fun g cs fz e => by rw [hb.block _ (hlt_of e)]; exact e
theorem RSt.drew {c : RC} {sl : Nat} {N : Names} {ts : List Tok} {w : World} (h : RSt c sl N ts w) : RSt c sl N ts w.drew := h.later (Below.refl _ _).drew
theorem RSt.less {c : RC} {sl sl' : Nat} {N : Names} {ts : List Tok} {w : World} (h : RSt c sl N ts w) (hl : sl' ≤ sl) : RSt c sl' N ts w := by
  obtain ⟨lk, n, xv, D, env, r1, r2, r3⟩ := h.rdr
  exact ⟨h.bS, h.bR, h.bM, h.lo, h.kk, h.str, h.tok, ⟨lk, n, xv, D, env, r1, by omega, r3⟩, h.outs, by have := h.many; omega, h.short⟩
theorem sr_ne : (91 : TypeId) ≠ 75 := by decide
theorem si_ne : (91 : TypeId) ≠ 3 := by decide
theorem ri_ne : (75 : TypeId) ≠ 3 := by decide
theorem rt_ne : (75 : TypeId) ≠ 63 := by decide
/-- A block of cells is of one type. -/
theorem type_one {w : World} {b : Nat} {cs cs' : Array Value} {T T' : TypeId} {fz fz' : Nat × Nat} (h : w.heap[b]? = some (Obj.cells cs T fz)) (k : w.heap[b]? = some (Obj.cells cs' T' fz')) : T = T' := by
  rw [h] at k; injection k with k; injection k
/-- A step of the stream. -/
theorem RSt.stream {c : RC} {sl sl' : Nat} {N : Names} {ts r : List Tok} {w w' : World} (h : RSt c sl N ts w) (hg : w.grownBy w' (some c.S)) (hs : ∃ tv, SAt w' c.S tv c.E c.br ∧ TLies w' r tv) (hr : ∀ t ∈ r, t ∈ ts) (hl : 100 * r.length + sl' ≤ 100 * ts.length + sl) : RSt c sl' N r w' ∧ Fr c w w' := by
  obtain ⟨tv, h1, h2⟩ := h.str
  obtain ⟨lk, n, xv, D, env, r1, r2, r3, r4, r5⟩ := h.rdr
  have hSlt := hlt_of h1
  have old : ∀ {b : Nat} {o : Obj}, w.heap[b]? = some o → b ≠ c.S → w'.heap[b]? = some o := fun {b o} e hne => by rw [hg.block b (hlt_of e) (fun e2 => hne (Option.some.inj e2))]; exact e
  have hfr : Fr c w w' := Fr.grown hg (fun b e => by obtain rfl := Option.some.inj e; exact h.bS) (fun b e cs T fz e2 => by obtain rfl := Option.some.inj e; exact Or.inl (type_one e2 h1)) h.lo
  refine ⟨⟨h.bS, h.bR, h.bM, Nat.le_trans h.lo hg.size, h.kk, hs, fun t ht => h.tok t (hr t ht), ⟨lk, n, xv, D, env, ?_, by omega, ?_, ?_, r5⟩, h.outs.keep hfr.below, by have := h.many; omega, h.short⟩, hfr⟩
  · exact old r1 (fun e => by unfold RAt at r1; rw [e] at r1; exact sr_ne (type_one h1 r1))
  · exact idxIs_same r3 fun b es clock _ e => old e (fun e2 => by rw [e2, h1] at e; cases e)
  · obtain ⟨es, clock, hM⟩ := groups_map r4
    have hMS : c.M ≠ c.S := fun e2 => by rw [e2, h1] at hM; cases hM
    exact groups_same r4 (by rw [old hM hMS, hM]) fun g cs fz e => old e (fun e2 => by rw [e2] at e; exact si_ne (type_one h1 e))
/-- A step that writes the reader's own block. -/
theorem RSt.cell {c : RC} {sl : Nat} {N : Names} {ts : List Tok} {w : World} (h : RSt c sl N ts w) {d : Nat} {xv : Value} {lk : Nat} (hr : RAt w c d xv lk) (i : Nat) (v : Value) :
    Fr c w (w.setCell ⟨c.R, i, none⟩ v) ∧ (∀ (b : Nat) o, w.heap[b]? = some o → b ≠ c.R → (w.setCell ⟨c.R, i, none⟩ v).heap[b]? = some o) := by
  have hg : w.grownBy (w.setCell ⟨c.R, i, none⟩ v) (some c.R) := grown_at ⟨rfl, rfl, rfl, Nat.le_refl _, fun _ _ _ => rfl⟩ i v
  exact ⟨Fr.grown hg (fun b e => by obtain rfl := Option.some.inj e; exact h.bR) (fun b e cs T fz e2 => by obtain rfl := Option.some.inj e; exact Or.inr (Or.inl (type_one e2 hr))) h.lo, fun b o e hne => by rw [hg.block b (hlt_of e) (fun e2 => hne (Option.some.inj e2))]; exact e⟩
/-- The reader's state behind a step on its names. -/
theorem RSt.turn {c : RC} {sl sl' : Nat} {N N' : Names} {ts : List Tok} {w w' : World} (h : RSt c sl N ts w) (hfr : Fr c w w') (old : ∀ (b : Nat) (o : Obj), w.heap[b]? = some o → (∀ cs fz, o ≠ .cells cs 3 fz) → b ≠ c.M → b ≠ c.R → w'.heap[b]? = some o)
    {lk n : Nat} {xv : Value} {D : DataW Unit} {env : Names} (r1 : RAt w' c N'.length xv lk) (r2 : n + lk + 100 * ts.length + sl' ≤ c.K) (r3 : IdxIs w' c xv) (r4 : w'.ownsGroups Tryd.prog 9 (c.M + 1) 3 .i64 c.M n D) (hN : N' = env ++ c.out.reverse) (he : EnvIs D env c.out.length) (hm : N'.length + 100 * ts.length + sl' ≤ 100000000000) : RSt c sl' N' ts w' := by
  obtain ⟨tv, h1, h2⟩ := h.str
  obtain ⟨lk0, n0, xv0, D0, env0, q1, q2, q3, q4, q5⟩ := h.rdr
  obtain ⟨es, clock, hM⟩ := groups_map q4
  have hSM : c.S ≠ c.M := fun e => by unfold SAt at h1; rw [e, hM] at h1; cases h1
  have hSR : c.S ≠ c.R := fun e => by unfold SAt at h1; rw [e] at h1; exact sr_ne (type_one h1 q1)
  refine ⟨h.bS, h.bR, h.bM, Nat.le_trans h.lo hfr.size, h.kk, ⟨tv, ?_, ?_⟩, h.tok, ⟨lk, n, xv, D, env, r1, r2, r3, r4, hN, he⟩, h.outs.keep hfr.below, hm, h.short⟩
  · exact old _ _ h1 (fun cs fz e => by injection e with _ e _; exact si_ne e) hSM hSR
  · exact h2.keep fun g cs fz e => old _ _ e (fun cs' fz' e2 => by injection e2 with _ e2 _; exact (by decide : (63 : TypeId) ≠ 3) e2) (fun e2 => by rw [e2, hM] at e; cases e) (fun e2 => by rw [e2] at e; exact rt_ne (type_one q1 e))
/-- A step that writes a block of terms. -/
theorem RSt.other {c : RC} {sl : Nat} {N : Names} {ts : List Tok} {w w' : World} (h : RSt c sl N ts w) {b : Nat} (hg : w.grownBy w' (some b)) {cs : Array Value} {fz : Nat × Nat} (hb : w.heap[b]? = some (Obj.cells cs 26 fz)) (hB : c.B ≤ b) : RSt c sl N ts w' := by
  obtain ⟨tv, h1, h2⟩ := h.str
  obtain ⟨lk, n, xv, D, env, r1, r2, r3, r4, r5⟩ := h.rdr
  have old : ∀ {q : Nat} {o : Obj}, w.heap[q]? = some o → q ≠ b → w'.heap[q]? = some o := fun {q o} e hne => by rw [hg.block q (hlt_of e) (fun e2 => hne (Option.some.inj e2))]; exact e
  have hbl : Below c.B w w' := ⟨hg.os, hg.tape, hg.output, hg.size, fun k hk => hg.block k (by have := h.lo; omega) (fun e => by have := Option.some.inj e; omega)⟩
  refine ⟨h.bS, h.bR, h.bM, Nat.le_trans h.lo hg.size, h.kk, ⟨tv, ?_, ?_⟩, h.tok, ⟨lk, n, xv, D, env, ?_, r2, ?_, ?_, r5⟩, h.outs.keep hbl, h.many, h.short⟩
  · exact old h1 (fun e => by unfold SAt at h1; rw [e] at h1; exact (by decide : (91 : TypeId) ≠ 26) (type_one h1 hb))
  · exact h2.keep fun g cs fz e => old e (fun e2 => by rw [e2] at e; exact (by decide : (63 : TypeId) ≠ 26) (type_one e hb))
  · exact old r1 (fun e => by unfold RAt at r1; rw [e] at r1; exact (by decide : (75 : TypeId) ≠ 26) (type_one r1 hb))
  · exact idxIs_same r3 fun q es clock _ e => old e (fun e2 => by rw [e2, hb] at e; cases e)
  · obtain ⟨es, clock, hM⟩ := groups_map r4
    exact groups_same r4 (by rw [old hM (fun e2 => by rw [e2, hb] at hM; cases hM), hM]) fun g cs fz e => old e (fun e2 => by rw [e2] at e; exact (by decide : (3 : TypeId) ≠ 26) (type_one e hb))
theorem Fr.other {c : RC} {w w1 w2 : World} (h : Fr c w w1) {b : Nat} (hg : w1.grownBy w2 (some b)) (hb : w.heap.size ≤ b) (hlo : c.B ≤ w.heap.size) : Fr c w w2 := by
  refine ⟨h.below.trans ⟨hg.os, hg.tape, hg.output, hg.size, fun k hk => hg.block k (by have := h.size; omega) (fun e => by have := Option.some.inj e; omega)⟩, fun q cs T fz e h1 h2 h3 => ?_⟩
  have e1 := h.kept q cs T fz e h1 h2 h3
  rw [hg.block q (hlt_of e1) (fun e2 => by have := hlt_of e; have := Option.some.inj e2; omega)]; exact e1
theorem RSt.inner {c : RC} {sl : Nat} {N : Names} {ts : List Tok} {w : World} (h : RSt c sl N ts w) : c.out.length ≤ N.length := by
  obtain ⟨lk, n, xv, D, env, _, _, _, _, hN, _⟩ := h.rdr
  rw [hN]; simp
end Go.Proofs.YtpekceadjcbphaaDoor

namespace Go.Proofs.YtpekceadjcbphaaDoor
open Go.RowKit Go.Maps Go.ChangeShapes

theorem key_law : Keyed Tryd.prog 9 := string_keyed Tryd.underlying9
theorem ints_info : (Tryd.prog.info? 3).map (fun i => (i.zero, i.size, i.bytes)) = some (some (.int .i64 0), 1, 8) := by kernel_rfl
theorem zero_ints (w : World) : (zeroValue 68).run Tryd.prog w = .ok (.slice none 0 0) w := by kernel_rfl
set_option maxRecDepth 20000 in
theorem key_of (x : List UInt8) (hx : x.length ≤ 10000000) : keyOf Tryd.prog 9 (.string ⟨x.toArray⟩) = some (.string x) := by
  have hs : (⟨x.toArray⟩ : ByteArray).size ≤ maxLen := by
    have e : (⟨x.toArray⟩ : ByteArray).size = x.length := by simp [ByteArray.size]
    rw [e]; unfold maxLen; omega
  have h := WideMaps.keyOf_string_mk (P := Tryd.prog) Tryd.underlying9 hs
  rw [h]
theorem step_update {P : Program} {w : World} {ops : Array Oper} {o : Oper} {a : Act} {K : Act → World → Prop} {Q : Exit → Act → World → Prop} {E : Prop} (hgd : o.guard = none) (m x v : Operand) (t : TypeId) (hop : o.op = Op.mapUpdate t m x v)
    {w2 : World} {b : Nat} {key val : Value} (hm : a.eval m = .map (some b)) (hx : a.eval x = key) (hv : a.eval v = val) (hrun : (Instr.mapUpdate t (.map (some b)) key val).run P w = .ok () w2)
    (h : K (a.put o.dst undef) w2) : if Region.wanted o (yielded ops a.tmps) = true then Oper.wp P o a w K Q else E := by
  have hw : Region.wanted o (yielded ops a.tmps) = true := by simp [Region.wanted, hgd]
  rw [if_pos hw]
  unfold Oper.wp
  simp [execOp, hop, hm, hx, hv, hrun, Result.andThen]
  exact h
/-- What the map hands over at a name. -/
theorem group_at {c : RC} {w : World} {n : Nat} {D : DataW Unit} {env : Names} (hg : w.ownsGroups Tryd.prog 9 (c.M + 1) 3 .i64 c.M n D) (hn : n ≤ 100000000000) (he : EnvIs D env c.out.length) (x : List UInt8) (hx : x.length ≤ 10000000) :
    ∃ v, (Instr.lookup 72 (.map (some c.M)) (.string ⟨x.toArray⟩) false).run Tryd.prog w = .ok v w ∧ w.ownsInts (c.M + 1) 3 .i64 v (poss x env c.out.length) ∧ (poss x env c.out.length).length ≤ n ∧ w.groupBack Tryd.prog 72 9 (c.M + 1) 3 .i64 c.M n D (.string ⟨x.toArray⟩) (.string x) v := by
  obtain ⟨v, zs, hrun, hat, ho, hl, hb⟩ := hg.at key_law Tryd.underlying72 (zero_ints w) (by unfold maxLen; omega) (key_of x hx)
  have hz : zs = poss x env c.out.length := by
    rcases he.2 x with ⟨h1, h2⟩ | h1
    · rw [h1] at hat
      rcases ho.datum (H := Unit) with ⟨_, h3⟩ | h3
      · rw [h2, h3]
      · rw [h3] at hat; cases hat
    · rw [h1] at hat
      rcases ho.datum (H := Unit) with ⟨h3, _⟩ | h3
      · rw [h3] at hat; cases hat
      · rw [h3] at hat; exact (lits_inj (DataW.slice.inj hat).1).symm
  subst hz
  exact ⟨v, hrun, ho, hl, hb⟩
theorem env_put {D : DataW Unit} {env : Names} {o : Nat} (h : EnvIs D env o) (x : List UInt8) {env' : Names} (hs : ∀ y, y ≠ x → poss y env' o = poss y env o) : EnvIs (D.put (.string x) (.slice (lits .i64 (poss x env' o)) [])) env' o := by
  refine ⟨h.1.put _ _, fun y => ?_⟩
  by_cases hy : y = x
  · subst hy
    exact Or.inr (atKey_put_same h.1 (show WideAt.IsKeyLit (.string y) from trivial) _ _)
  · have hne : (Lit.string y) ≠ .string x := fun e => hy (by injection e)
    rw [atKey_put_other hne, hs y hy]
    exact h.2 y
theorem int_wf (z : Int) (h0 : 0 ≤ z) (h1 : z ≤ 100000000000) : (Lit.int .i64 z).wf = true := by
  have e1 : IntKind.i64.min = -9223372036854775808 := by decide
  have e2 : IntKind.i64.max = 9223372036854775807 := by decide
  show (decide (IntKind.i64.min ≤ z) && decide (z ≤ IntKind.i64.max)) = true
  rw [e1, e2, decide_eq_true (by omega), decide_eq_true (by omega)]; rfl
/-- The int rows' blocks are none of the others. -/
theorem row_old {c : RC} {w w3 : World} {v : Value} {zs : List Int} (ho : w.ownsInts (c.M + 1) 3 .i64 v zs) (hg : w.grownBy w3 v.ownBlock) {b : Nat} {o : Obj} (h : w.heap[b]? = some o) (hn : ∀ cs fz, o ≠ .cells cs 3 fz) : w3.heap[b]? = some o := by
  rw [hg.block b (hlt_of h) ?_]; exact h
  intro e
  rcases ho.1.2 with ⟨rfl, _⟩ | ⟨g, cap, cur, rfl, _, hh, _⟩
  · cases e
  · obtain rfl : b = g := Option.some.inj e
    rw [h] at hh
    exact hn _ _ (Option.some.inj hh)
/-- A name's row was turned, the map was written, and so was the number of the names. -/
theorem names_fin {c : RC} {sl sl' : Nat} {N N' : Names} {ts : List Tok} {w w3 w2 : World} (h : RSt c sl N ts w) {v : Value} {zs : List Int} (ho : w.ownsInts (c.M + 1) 3 .i64 v zs) (hg : w.grownBy w3 v.ownBlock) (hg2 : w3.grownBy w2 (some c.M))
    {lk n : Nat} {xv : Value} {D : DataW Unit} {env : Names} (r1 : RAt w c N.length xv lk) (r2 : n + lk + 100 * ts.length + sl' ≤ c.K) (r3 : IdxIs w c xv) (r4 : w2.ownsGroups Tryd.prog 9 (c.M + 1) 3 .i64 c.M n D) (hN : N' = env ++ c.out.reverse) (he : EnvIs D env c.out.length) (hm : N'.length + 100 * ts.length + sl' ≤ 100000000000) :
    RAt w2 c N.length xv lk ∧ RSt c sl' N' ts (w2.setCell ⟨c.R, 5, none⟩ (.int .i64 N'.length)) ∧ Fr c w (w2.setCell ⟨c.R, 5, none⟩ (.int .i64 N'.length)) := by
  obtain ⟨lk0, n0, xv0, D0, env0, q1, q2, q3, q4, q5⟩ := h.rdr
  obtain ⟨es, clock, hM⟩ := groups_map q4
  have hRM : c.R ≠ c.M := fun e => by unfold RAt at r1; rw [e, hM] at r1; cases r1
  have hM3 : w3.heap[c.M]? = some (.map es clock) := row_old ho hg hM (fun cs fz e => by cases e)
  have old2 : ∀ (b : Nat) (o : Obj), w.heap[b]? = some o → (∀ cs fz, o ≠ .cells cs 3 fz) → b ≠ c.M → w2.heap[b]? = some o := fun b o e hn hne => by
    have h3 := row_old ho hg e hn
    rw [hg2.block b (hlt_of h3) (fun e2 => hne (Option.some.inj e2))]; exact h3
  have hR2 : RAt w2 c N.length xv lk := old2 _ _ r1 (fun cs fz e => by injection e with _ e _; exact ri_ne e) hRM
  have hgR : w2.grownBy (w2.setCell ⟨c.R, 5, none⟩ (.int .i64 N'.length)) (some c.R) := grown_at ⟨rfl, rfl, rfl, Nat.le_refl _, fun _ _ _ => rfl⟩ 5 _
  have hf1 : Fr c w w3 := Fr.grown hg (fun b e => by have := (ho.1.lt b e).1; have := h.bM; omega) (fun b e cs T fz e2 => by
    rcases ho.1.2 with ⟨rfl, _⟩ | ⟨g, cap, cur, rfl, _, hh, _⟩
    · cases e
    · obtain rfl : g = b := Option.some.inj e
      exact Or.inr (Or.inr (type_one e2 hh))) h.lo
  have hf2 : Fr c w3 w2 := Fr.grown hg2 (fun b e => by obtain rfl := Option.some.inj e; exact h.bM) (fun b e cs T fz e2 => by obtain rfl := Option.some.inj e; rw [hM3] at e2; cases e2) (Nat.le_trans h.lo hf1.size)
  have hf3 : Fr c w2 (w2.setCell ⟨c.R, 5, none⟩ (.int .i64 N'.length)) := Fr.grown hgR (fun b e => by obtain rfl := Option.some.inj e; exact h.bR) (fun b e cs T fz e2 => by obtain rfl := Option.some.inj e; exact Or.inr (Or.inl (type_one e2 hR2))) (Nat.le_trans h.lo (Nat.le_trans hf1.size hf2.size))
  have hfr := hf1.trans (hf2.trans hf3)
  have oldR : ∀ (b : Nat) (o : Obj), w2.heap[b]? = some o → b ≠ c.R → (w2.setCell ⟨c.R, 5, none⟩ (.int .i64 N'.length)).heap[b]? = some o := fun b o e hne => by
    rw [hgR.block b (hlt_of e) (fun e2 => hne (Option.some.inj e2))]; exact e
  obtain ⟨es2, clock2, hM2⟩ := groups_map r4
  refine ⟨hR2, h.turn hfr (fun b o e hn h1 h2 => oldR b o (old2 b o e hn h1) h2) (lk := lk) (n := n) (xv := xv) (D := D) (env := env) ?_ r2 ?_ ?_ hN he hm, hfr⟩
  · exact heap_setCell_same w2 c.R 5 _ _ _ hR2
  · exact idxIs_same r3 fun b es clock hne e => oldR b _ (old2 b _ e (fun cs fz e2 => by cases e2) hne) (fun e2 => by unfold RAt at r1; rw [e2, r1] at e; cases e)
  · exact groups_same r4 (by rw [oldR _ _ hM2 (Ne.symm hRM), hM2]) fun g cs fz e => oldR g _ e (fun e2 => by rw [e2] at e; exact ri_ne (type_one hR2 e))
theorem poss_bind (x : List UInt8) (env : Names) (o : Nat) : poss x (x :: env) o = poss x env o ++ [((o + env.length : Nat) : Int)] := by rw [poss, if_pos rfl]
theorem poss_other {x y : List UInt8} (h : y ≠ x) (env : Names) (o : Nat) : poss y (x :: env) o = poss y env o := by rw [poss, if_neg (fun e => h e.symm)]; simp

theorem bind_close {c : RC} {N : Names} {x : List UInt8} {xv : Value} {lk sl : Nat} {ts : List Tok} {w w1 w2 w' : World} (hf : Fr c w w1) (h : RAt w2 c N.length xv lk ∧ RSt c sl (x :: N) ts w' ∧ Fr c w1 w') : RAt w2 c N.length xv lk ∧ RSt c sl (x :: N) ts w' ∧ Fr c w w' := ⟨h.1, h.2.1, hf.trans h.2.2⟩
set_option maxHeartbeats 2000000 in
set_option maxRecDepth 20000 in
theorem bind_any (c : RC) (sl : Nat) (x : List UInt8) (N : Names) (ts : List Tok) (w : World) (h : RSt c (sl + 1) N ts w) (hx : x.length ≤ 10000000) :
    Calls Tryd.prog 79 #[.pointer (some ⟨c.R, 0, none⟩), .string ⟨x.toArray⟩] w fun e w' => e = .returned (.tuple #[]) ∧ RSt c sl (x :: N) ts w' ∧ Fr c w w' := by
  obtain ⟨lk, n, xv, D, env, r1, r2, r3, r4, hNe, r5⟩ := h.rdr
  have hkk := h.kk
  have hmy := h.many
  have hMl : ∃ es clock, w.heap[c.M]? = some (.map es clock) := groups_map r4
  have HB1 := (Below.refl w.heap.size w).drew
  have HB2 := ((Below.refl w.heap.size w).alloc (Nat.le_refl _) (.cells #[.int .i64 (N.length : Int)] 3)).drew
  have hi1 : ∀ {w' : World}, Below w.heap.size w w' → w'.ownsGroups Tryd.prog 9 (c.M + 1) 3 .i64 c.M n D := fun {w'} hb => by
    obtain ⟨es, clock, hM⟩ := hMl
    exact groups_same r4 (hb.block _ (hlt_of hM)) fun g cs fz e => by rw [hb.block _ (hlt_of e)]; exact e
  obtain ⟨v, hrun, ho, hzl, hback⟩ := group_at (hi1 HB1) (by omega) r5 x hx
  obtain ⟨u, hrunB, hoB, hzlB, hbackB⟩ := group_at (hi1 HB2) (by omega) r5 x hx
  obtain ⟨i0, hi, hz0, hz1, hz2⟩ := info_parts ints_info
  have HI := Lib.hid (And.intro hi (And.intro hz0 (And.intro hz1 hz2)))
  have hlo := h.lo
  have hMlt : c.M < w.heap.size := by obtain ⟨es, clock, hM⟩ := hMl; exact hlt_of hM
  have hlen : N.length = env.length + c.out.length := by rw [hNe]; simp
  have HNE := Lib.hid hNe
  have hb0 : ((c.out.length + env.length : Nat) : Int) = (N.length : Int) := by omega
  have HWF := Lib.hid (int_wf (N.length : Int) (by omega) (by omega))
  have HEP := Lib.hid (env_put r5 x (env' := x :: env) (fun y hy => poss_other hy env c.out.length))
  rw [poss_bind, hb0] at HEP
  have a4 : w.cell? ⟨c.R, 4, none⟩ = some (.map (some c.M)) := by rw [Lib.cell_of_heap (w := w) r1]; rfl
  have a5 : w.cell? ⟨c.R, 5, none⟩ = some (.int .i64 N.length) := by rw [Lib.cell_of_heap (w := w) r1]; rfl
  have b4 : w.drew.cell? ⟨c.R, 4, none⟩ = some (.map (some c.M)) := a4
  have b5 : w.drew.cell? ⟨c.R, 5, none⟩ = some (.int .i64 N.length) := a5
  have hRlt : c.R < w.heap.size := r1.lt
  have HOA := Lib.hid ho
  have HOB := Lib.hid hoB
  have HBKA := Lib.hid hback
  have HBKB := Lib.hid hbackB
  have HHA := Lib.hid (h.later HB1)
  have HHB := Lib.hid (h.later HB2)
  have HFRA := Lib.hid (Fr.later HB1 hlo)
  have HFRB := Lib.hid (Fr.later HB2 hlo)
  have HRA := Lib.hid (show RAt w.drew c N.length xv lk from r1)
  have HRB := Lib.hid (show RAt (w.alloc (.cells #[.int .i64 (N.length : Int)] 3)).drew c N.length xv lk from (HB2.block _ hRlt).trans r1)
  have HR3A := Lib.hid (show IdxIs w.drew c xv from idxIs_same r3 fun b es clock _ e => (HB1.block _ (hlt_of e)).trans e)
  have HR3B := Lib.hid (show IdxIs (w.alloc (.cells #[.int .i64 (N.length : Int)] 3)).drew c xv from idxIs_same r3 fun b es clock _ e => (HB2.block _ (hlt_of e)).trans e)
  have HR2 := Lib.hid r2
  obtain ⟨zs, hzs⟩ : ∃ zs, poss x env c.out.length = zs := ⟨_, rfl⟩
  rw [hzs] at HOA HOB HEP hzl
  clear hi hz0 hz1 hz2 ho hback hoB hbackB r1 h r3 r4 r5 hNe hlen hzs hb0 HB1 HB2 hi1 hMl hzlB
  go_enter Tryd.func79, Tryd.ntmps79
  go_upto_region 0 with fail
  go_cut [4] (fun s4 wx => s4 = .pointer (some ⟨c.R, 0, none⟩) ∧ Hid (RAt wx c N.length xv lk ∧ RSt c sl (x :: N) ts (wx.setCell ⟨c.R, 5, none⟩ (.int .i64 (x :: N).length)) ∧ Fr c w (wx.setCell ⟨c.R, 5, none⟩ (.int .i64 (x :: N).length))))
  case first =>
    go_region_law (first
      | (refine step_append_lies _ rfl _ _ 68 rfl (c.M + 1) 3 i0 _ 1 8 Tryd.underlying68 HI.out.1 HI.out.2.1 HI.out.2.2.1 HI.out.2.2.2 rfl (by decide) _ zs.length (zs.map (Value.int .i64)) rfl (HOA.out.1.alloc _) ⟨w.heap.size, 0, none⟩ 1 1 [.int .i64 N.length] rfl rfl (cell_one_new w _ _) (by intro u hu; simp at hu; subst hu; rfl) (by decide) (by unfold maxLen; omega) (by omega) (by simp; omega) _ rfl ?_
         intro g cap w3 hown hgrow hat hg3
         have hgg := (World.grownBy_alloc w.drew (.cells #[.int .i64 N.length] 3) v.ownBlock).trans hgrow
         obtain ⟨w2, hrun2, hown2, hgrow2⟩ := HBKA.out w3 (.slice (some ⟨g, 0, none⟩) (zs.length + 1) cap) (zs ++ [(N.length : Int)]) hgg (HOA.out.appended hown HWF.out) (by simp; omega) (by
           rcases hat with e | e
           · exact Or.inl e.symm
           · exact Or.inr ⟨g, rfl, by rw [e]; simp⟩)
         have q4 : w3.cell? ⟨c.R, 4, none⟩ = some (.map (some c.M)) := by rw [Lib.cell_of_heap (row_old HOA.out hgg HRA.out (fun cs fz e => by injection e with _ e _; exact ri_ne e))]; rfl
         have HF := Lib.hid (bind_close (x := x) HFRA.out (names_fin HHA.out (N' := x :: N) (sl' := sl) HOA.out hgg hgrow2 HRA.out (by have := HR2.out; omega) HR3A.out hown2 (env := x :: env) (by rw [HNE.out]; rfl) HEP.out (by simp only [List.length_cons]; omega)))
         have hr2 := HF.out.1
         clear hown hgrow hgg hown2 hgrow2)
      | (refine step_append_lies _ rfl _ _ 68 rfl (c.M + 1) 3 i0 _ 1 8 Tryd.underlying68 HI.out.1 HI.out.2.1 HI.out.2.2.1 HI.out.2.2.2 rfl (by decide) _ zs.length (zs.map (Value.int .i64)) rfl (HOB.out.1) ⟨w.heap.size, 0, none⟩ 1 1 [.int .i64 N.length] rfl rfl (cell_one_new w _ _) (by intro u hu; simp at hu; subst hu; rfl) (by decide) (by unfold maxLen; omega) (by omega) (by simp; omega) _ rfl ?_
         intro g cap w3 hown hgrow hat hg3
         have hgg := hgrow
         obtain ⟨w2, hrun2, hown2, hgrow2⟩ := HBKB.out w3 (.slice (some ⟨g, 0, none⟩) (zs.length + 1) cap) (zs ++ [(N.length : Int)]) hgg (HOB.out.appended hown HWF.out) (by simp; omega) (by
           rcases hat with e | e
           · exact Or.inl e.symm
           · exact Or.inr ⟨g, rfl, by rw [e]; simp⟩)
         have q4 : w3.cell? ⟨c.R, 4, none⟩ = some (.map (some c.M)) := by rw [Lib.cell_of_heap (row_old HOB.out hgg HRB.out (fun cs fz e => by injection e with _ e _; exact ri_ne e))]; rfl
         have HF := Lib.hid (bind_close (x := x) HFRB.out (names_fin HHB.out (N' := x :: N) (sl' := sl) HOB.out hgg hgrow2 HRB.out (by have := HR2.out; omega) HR3B.out hown2 (env := x :: env) (by rw [HNE.out]; rfl) HEP.out (by simp only [List.length_cons]; omega)))
         have hr2 := HF.out.1
         clear hown hgrow hgg hown2 hgrow2)
      | (refine step_update _ rfl _ _ _ 72 rfl rfl rfl rfl hrun2 ?_))
    all_goals
      clear hr2 hrun2 hrun hrunB b4 b5 a4 a5
      go_wp2_with fail
      go_meet
      case rel => exact ⟨rfl, HF⟩
  case rest =>
    obtain ⟨rfl, HF⟩ := hcut
    have hr2 := HF.out.1
    have c5 : wc.cell? ⟨c.R, 5, none⟩ = some (.int .i64 N.length) := by rw [Lib.cell_of_heap hr2]; rfl
    have f5 : wc.frozen? ⟨c.R, 5, none⟩ = false := Lib.frozen_of_heap hr2 5
    clear hr2 hrun hrunB b4 b5 a4 a5
    go_wp2
    go_end0
    have h9 := HF.out.2
    have e9 : (((x :: N).length : Nat) : Int) = (N.length : Int) + 1 := by simp
    rw [e9] at h9
    exact ⟨rfl, h9.1, h9.2⟩
end Go.Proofs.YtpekceadjcbphaaDoor

namespace Go.Proofs.YtpekceadjcbphaaDoor
open Go.RowKit Go.Maps Go.ChangeShapes

theorem row_some {w : World} {base : Nat} {v : Value} {zs : List Int} (ho : w.ownsInts base 3 .i64 v zs) (h0 : 0 < zs.length) : ∃ g cap, v = .slice (some ⟨g, 0, none⟩) zs.length cap := by
  rcases ho.1.2 with ⟨_, h⟩ | ⟨g, cap, cur, hv, _⟩
  · omega
  · exact ⟨g, cap, hv⟩
theorem row_form {w : World} {base : Nat} {v : Value} {zs : List Int} (ho : w.ownsInts base 3 .i64 v zs) : ∃ a cap, v = .slice a zs.length cap ∧ zs.length ≤ cap ∧ cap ≤ maxLen := by
  rcases ho.1.2 with ⟨hv, h⟩ | ⟨g, cap, cur, hv, _, _, h1, h2, _⟩
  · exact ⟨none, 0, by rw [hv, h], by omega, by decide⟩
  · exact ⟨_, cap, hv, h1, h2⟩
theorem row_less {w : World} {base g cap : Nat} {zs : List Int} {z : Int} (ho : w.ownsInts base 3 .i64 (.slice (some ⟨g, 0, none⟩) (zs ++ [z]).length cap) (zs ++ [z])) : w.ownsInts base 3 .i64 (.slice (some ⟨g, 0, none⟩) zs.length cap) zs := by
  obtain ⟨⟨h1, h2⟩, h3⟩ := ho
  refine ⟨⟨by simp, ?_⟩, fun y hy => h3 y (List.mem_append_left _ hy)⟩
  rcases h2 with ⟨hv, _⟩ | ⟨g', cap', cur, hv, hb, hh, hl, hm, hs, ht⟩
  · cases hv
  · simp only [Value.slice.injEq, Option.some.injEq, Addr.mk.injEq, and_true, true_and] at hv
    obtain ⟨rfl, rfl⟩ := hv
    simp only [List.length_append, List.length_cons, List.length_nil] at hl ht
    refine Or.inr ⟨g, cap, cur, rfl, hb, hh, by omega, hm, hs, ?_⟩
    have h9 : (cur.toList.take ((zs.length + (0 + 1)) * 1)).take (zs.length * 1) = ((zs ++ [z]).map (Value.int .i64)).take (zs.length * 1) := by rw [ht]
    rw [List.take_take] at h9
    rw [show min (zs.length * 1) ((zs.length + (0 + 1)) * 1) = zs.length * 1 by omega] at h9
    rw [h9]
    simp
set_option maxHeartbeats 2000000 in
set_option maxRecDepth 20000 in
theorem unbind_any (c : RC) (sl : Nat) (x : List UInt8) (N : Names) (ts : List Tok) (w : World) (h : RSt c (sl + 1) (x :: N) ts w) (hx : x.length ≤ 10000000) (hN : c.out.length ≤ N.length) :
    Calls Tryd.prog 80 #[.pointer (some ⟨c.R, 0, none⟩), .string ⟨x.toArray⟩] w fun e w' => e = .returned (.tuple #[]) ∧ RSt c sl N ts w' ∧ Fr c w w' := by
  obtain ⟨lk, n, xv, D, env0, r1, r2, r3, r4, hNe, r5⟩ := h.rdr
  obtain ⟨env, rfl⟩ : ∃ env, env0 = x :: env := by
    cases env0 with
    | nil => exfalso; have := congrArg List.length hNe; simp at this; omega
    | cons y env => simp at hNe; exact ⟨env, by rw [hNe.1]⟩
  have hNN : N = env ++ c.out.reverse := by simpa using hNe
  have hkk := h.kk
  obtain ⟨v, hrun, ho, hzl, hback⟩ := group_at r4 (by omega) r5 x hx
  have hEP := env_put r5 x (env' := env) (fun y hy => (poss_other hy env c.out.length).symm)
  rw [poss_bind] at ho hzl
  obtain ⟨zs, hzs⟩ : ∃ zs, poss x env c.out.length = zs := ⟨_, rfl⟩
  rw [hzs] at ho hzl hEP
  obtain ⟨g, cap, rfl⟩ := row_some ho (by simp)
  have hcap : zs.length + 1 ≤ cap := by obtain ⟨a, cap', e, h1, _⟩ := row_form ho; simp only [Value.slice.injEq] at e; obtain ⟨_, _, rfl⟩ := e; simpa using h1
  have hgd : w.grownBy w.drew (Value.ownBlock (.slice (some ⟨g, 0, none⟩) (zs ++ [((c.out.length + env.length : Nat) : Int)]).length cap)) := ⟨rfl, rfl, rfl, Nat.le_refl _, fun _ _ _ => rfl⟩
  obtain ⟨w2, hrun2, hown2, hgrow2⟩ := hback w.drew (.slice (some ⟨g, 0, none⟩) zs.length cap) zs hgd (row_less ho) (by simp at hzl ⊢; omega) (Or.inl rfl)
  have hF := names_fin h (N' := N) (sl' := sl) ho hgd hgrow2 r1 (by omega) r3 hown2 hNN hEP (by have := h.many; simp only [List.length_cons] at this; omega)
  have HF := Lib.hid hF
  have hlz : (zs ++ [((c.out.length + env.length : Nat) : Int)]).length = zs.length + 1 := by simp
  rw [hlz] at hrun
  have hmany : N.length ≤ 100000000000 := by have := h.many; simp only [List.length_cons] at this; omega
  have hzm : zs.length ≤ 100000000000 := by simp at hzl; omega
  have hwr : IntKind.i64.wrap (zs.length : Int) = (zs.length : Int) := IntWalk.i64_in _ (by omega)
  have hcz : (zs.length : Int) ≤ (cap : Int) := by omega
  have e9 : (((x :: N).length : Nat) : Int) = (N.length : Int) + 1 := by simp
  have a4 : w.cell? ⟨c.R, 4, none⟩ = some (.map (some c.M)) := by rw [Lib.cell_of_heap r1]; rfl
  have hr2 := hF.1
  have c5 : w2.cell? ⟨c.R, 5, none⟩ = some (.int .i64 ((N.length : Int) + 1)) := by rw [Lib.cell_of_heap hr2, ← e9]; rfl
  have f5 : w2.frozen? ⟨c.R, 5, none⟩ = false := Lib.frozen_of_heap hr2 5
  clear h r1 r2 r3 r4 r5 hNe hNN hEP ho hzl hback hown2 hgrow2 hF hr2 hlz hgd hzs e9
  go_enter Tryd.func80, Tryd.ntmps80
  go_wp2_with fail
  go_region_law (first | (refine step_update _ rfl _ _ _ 72 rfl rfl rfl rfl hrun2 ?_))
  all_goals
    clear hrun hrun2 a4
    go_wp2
    go_end0
    exact ⟨rfl, HF.out.2⟩
end Go.Proofs.YtpekceadjcbphaaDoor
