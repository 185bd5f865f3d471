/-
  Facts and contracts that the proof of ShowFixed uses.
-/
import Derived.Lib.ItoaNum
import Derived.Lib.ItoaLen
import Derived.Test.YtdhfbphliejcdaaDoorRows
import Derived.WalkKit
import Derived.Lib.Hide
import Derived.ProofKit
import Derived.LoopTactic
import Derived.Below
import Derived.IntWalk
import Derived.Lib.Strings
import Derived.Laws.Strings2
import Derived.Deep.AppendLies
import Derived.Laws.Rows
import Derived.OwnWalk
import Derived.KernelRfl
import Derived.Deep.RegionHeld3
import Derived.Lib.Builder
import Derived.WalkSmall
import Derived.Maps.GroupsBeside
import Derived.Maps.StringElems
import Derived.Laws.OwnMore
import Derived.Deep.RegionLaw
import Derived.Maps.AppendAt
import Derived.Deep.Cut
import Derived.Deep.DeepCutAuto
import Derived.Maps.OwnOps
import Derived.Maps.OwnSet
import Derived.Lib.MinMax
import Derived.Laws.IdiomCopy
import Derived.Deep.Slices
import Derived.Lib.QuietBelow
import Derived.StillTailTactics
import Derived.BigQuiet
import Derived.Deep.RegionWith
import Derived.OrdersHeld
import Derived.Laws.StructEq
import GoSem.Core.Float
import Derived.Laws.Cover2
import Derived.Laws.FloatArith
import Derived.Laws.Externs
import Derived.Deep.QuietTactic
import Derived.Recover
import Derived.RegionTactic
import Derived.Defers
import Derived.Test.YtdhfbphliejcdaaDoorShelf
import Derived.Lib.AppendIntMem
import Derived.Lib.LaidTab
import Derived.Lib.AppendStr
import Derived.Lib.UnsafeStr
import Derived.Shelf.RegionOpenPlain
import Derived.Laws.AppendOwn
import Derived.Deep.CutBlock
import Derived.Deep.LoopGhost
import Derived.Laws.BytesArg
import Derived.Laws.AppendOwnNone
import Derived.OpenShut
import Derived.Carry
import Derived.LaidMore
import Derived.LaidSub
import Derived.LaidHandle
import Derived.Stop.Joined
import Derived.JoinedOf
import Derived.Test.YtdhfbphliejcdaaDoorCards
import Derived.Test.YtdhfbphliejcdaaDoorTie
import Derived.SevenTiedAt
import Derived.ChangeMaps5
namespace Go.Proofs.YtdhfbphliejcdaaDoor
open Go.Lib

/-- What a list of digits says. -/
def val (l : List UInt8) : Nat := l.foldl (fun n c => 10 * n + (c.toNat - 48)) 0
def isd (c : UInt8) : Bool := decide (48 ≤ c.toNat) && decide (c.toNat ≤ 57)
def digs (l : List UInt8) : Bool := l.all isd

theorem val_snoc (l : List UInt8) (c : UInt8) : val (l ++ [c]) = 10 * val l + (c.toNat - 48) := by simp [val]
theorem digs_snoc (l : List UInt8) (c : UInt8) : digs (l ++ [c]) = (digs l && isd c) := by simp [digs]

theorem foldl_mono (l : List UInt8) : ∀ a : Nat, a ≤ l.foldl (fun n c => 10 * n + (c.toNat - 48)) a := by
  induction l with
  | nil => intro a; exact Nat.le_refl _
  | cons c l ih => intro a; simp only [List.foldl_cons]; exact Nat.le_trans (by omega) (ih _)
theorem foldl_pow (l : List UInt8) : ∀ a : Nat, a * 10 ^ l.length ≤ l.foldl (fun n c => 10 * n + (c.toNat - 48)) a := by
  induction l with
  | nil => intro a; simp
  | cons c l ih =>
    intro a
    simp only [List.foldl_cons, List.length_cons, Nat.pow_succ]
    refine Nat.le_trans ?_ (ih _)
    rw [Nat.mul_comm (10 ^ l.length) 10, ← Nat.mul_assoc, Nat.mul_comm a 10]
    exact Nat.mul_le_mul_right _ (by omega)
theorem val_append (l m : List UInt8) : val l ≤ val (l ++ m) := by
  simp only [val, List.foldl_append]; exact foldl_mono _ _

/-- The number that a text says, if it says one. -/
def getB (l : List UInt8) : Option Nat :=
  if l = [] ∨ (1 < l.length ∧ l.head? = some 48) then none
  else if digs l = true ∧ val l ≤ 1000000 then some (val l) else none

theorem ofNat_toNat (k : Nat) (h : k < 10) : (UInt8.ofNat (48 + k)).toNat = 48 + k := by
  rw [UInt8.toNat_ofNat']; omega
theorem dec_val (u : Nat) : val (decDigits u) = u := by
  induction u using Nat.strongRecOn with
  | ind u ih =>
    by_cases h : u < 10
    · rw [decDigits_one h]; simp only [val, List.foldl_cons, List.foldl_nil]; rw [ofNat_toNat u h]; omega
    · rw [decDigits, dif_neg h, val_snoc, ih (u / 10) (by omega), ofNat_toNat _ (by omega)]; omega
theorem dec_digs (u : Nat) : digs (decDigits u) = true := by
  induction u using Nat.strongRecOn with
  | ind u ih =>
    by_cases h : u < 10
    · rw [decDigits_one h]; simp only [digs, List.all_cons, List.all_nil, Bool.and_true, isd]; rw [ofNat_toNat u h]; simp; omega
    · rw [decDigits, dif_neg h, digs_snoc, ih (u / 10) (by omega)]; simp only [isd]; rw [ofNat_toNat _ (by omega)]; simp; omega
theorem dec_head (u : Nat) : ∃ c l, decDigits u = c :: l ∧ (u ≠ 0 → c ≠ 48) ∧ (u < 10 → l = []) := by
  induction u using Nat.strongRecOn with
  | ind u ih =>
    by_cases h : u < 10
    · refine ⟨_, [], decDigits_one h, fun h0 e => ?_, fun _ => rfl⟩
      have := congrArg UInt8.toNat e
      rw [ofNat_toNat u h] at this
      simp at this; omega
    · obtain ⟨c, l, e, h1, -⟩ := ih (u / 10) (by omega)
      refine ⟨c, l ++ [UInt8.ofNat (48 + u % 10)], by rw [decDigits, dif_neg h, e]; rfl, fun _ => h1 (by omega), fun h' => absurd h' h⟩

theorem get_dec (u : Nat) : getB (decDigits u) = if u ≤ 1000000 then some u else none := by
  obtain ⟨c, l, e, h1, h2⟩ := dec_head u
  have hd := dec_digs u
  have hv := dec_val u
  unfold getB
  rw [if_neg (by
    rw [e]
    rintro (h | ⟨h, h'⟩)
    · cases h
    · simp only [List.head?_cons, Option.some.injEq] at h'
      by_cases h0 : u = 0
      · have := h2 (by omega); subst this; simp at h
      · exact h1 h0 h')]
  rw [hd, hv]
  simp
theorem get_neg (l : List UInt8) : getB (45 :: l) = none := by
  unfold getB
  split
  · rfl
  · rw [if_neg]; simp [digs, isd]
/-- What is put is got. -/
theorem get_itoa (n : Int) : getB (itoa n) = if 0 ≤ n ∧ n ≤ 1000000 then some n.toNat else none := by
  unfold itoa
  by_cases h : n < 0
  · rw [if_pos h, get_neg, if_neg (by omega)]
  · rw [if_neg h, get_dec]
    by_cases h2 : n ≤ 1000000
    · rw [if_pos (by omega), if_pos (by omega)]
    · rw [if_neg (by omega), if_neg (by omega)]
theorem dec_digit {n d : Nat} (hn : 1 ≤ n) (hd : d ≤ 9) : decDigits (10 * n + d) = decDigits n ++ decDigits d := by
  rw [decDigits, dif_neg (by omega), decDigits_one (show d < 10 by omega), show (10 * n + d) / 10 = n by omega, show (10 * n + d) % 10 = d by omega]
/-- The page's bound on the length says nothing more. -/
theorem get_long {l : List UInt8} (h : 7 < l.length) : getB l = none := by
  unfold getB
  by_cases h1 : l = [] ∨ (1 < l.length ∧ l.head? = some 48)
  · rw [if_pos h1]
  · rw [if_neg h1, if_neg]
    rintro ⟨hd, hv⟩
    match l, h with
    | c :: l, h =>
      have hc : c ≠ 48 := fun e => h1 (Or.inr ⟨by omega, by rw [e]; rfl⟩)
      simp only [digs, List.all_cons, Bool.and_eq_true, isd, decide_eq_true_eq] at hd
      have hc2 : c.toNat ≠ 48 := fun e => hc (UInt8.toNat_inj.1 (by rw [e]; rfl))
      have hp := foldl_pow l (10 * 0 + (c.toNat - 48))
      have hl : 7 ≤ l.length := by simp at h; omega
      have hpow : 10 ^ 7 ≤ 10 ^ l.length := Nat.pow_le_pow_right (by omega) hl
      simp only [val, List.foldl_cons] at hv
      have : 1 * 10 ^ 7 ≤ (10 * 0 + (c.toNat - 48)) * 10 ^ l.length := Nat.mul_le_mul (by omega) hpow
      omega
end Go.Proofs.YtdhfbphliejcdaaDoor

namespace Go.Proofs.YtdhfbphliejcdaaDoor
open Go.RowKit

def givenN (s : Int) : Int := if s = 3 ∨ s = 5 ∨ s = 6 ∨ s = 8 ∨ s = 10 ∨ s = 11 then 4 else if s = 1 ∨ s = 2 ∨ s = 7 ∨ s = 9 then 5 else if s = 4 ∨ s = 12 ∨ s = 13 ∨ s = 14 ∨ s = 21 then 6 else if s = 15 ∨ s = 18 ∨ s = 19 ∨ s = 20 then 9 else if s = 16 ∨ s = 17 then 12 else -1

def kidsN (k s : Int) : Int :=
  if k = 1 ∨ k = 2 then 0 else if k = 18 ∨ k = 19 then 1 else if k = 3 ∨ k = 6 ∨ k = 13 ∨ k = 14 ∨ k = 15 ∨ k = 16 ∨ k = 21 ∨ k = 11 then 2
  else if k = 4 ∨ k = 8 ∨ k = 9 ∨ k = 10 ∨ k = 20 then 3 else if k = 5 ∨ k = 7 ∨ k = 12 ∨ k = 17 then 4 else if k = 22 then 6 else if k = 23 then givenN s else -1

def bindsN (k i : Int) : Int :=
  if k = 3 ∨ k = 5 ∨ k = 6 ∨ k = 7 ∨ k = 8 ∨ k = 9 ∨ k = 13 ∨ k = 14 ∨ k = 16 ∨ k = 17 then (if i = 1 then 1 else 0)
  else if k = 4 then (if i = 1 ∨ i = 2 then 1 else 0) else if k = 22 then (if i = 2 then 2 else 0) else 0

theorem ret_int {a b : Int} (h : a = b) : Ending.returned (.int .i64 a) = .returned (.int .i64 b) := by rw [h]
theorem ret_bool {a b : Bool} (h : a = b) : Ending.returned (.bool a) = .returned (.bool b) := by rw [h]

def levelB (i : Int) : Bool := decide (0 ≤ i) && decide (i ≤ 1000)
end Go.Proofs.YtdhfbphliejcdaaDoor

namespace Go.Proofs.YtdhfbphliejcdaaDoor
open Go.Lib

def headsW : List (List UInt8) := [[], [115, 111, 114, 116], [], [112, 105], [108, 97, 109], [97, 112, 112], [115, 105, 103], [112, 97, 105, 114], [102, 115, 116], [115, 110, 100], [101, 113], [114, 101, 102, 108], [116, 114], [80, 105], [76, 97, 109], [65, 112, 112], [83, 105, 103], [80, 97, 105, 114], [70, 115, 116], [83, 110, 100], [69, 113], [82, 101, 102, 108], [74], [117, 115, 101]]
def symsW : List (List UInt8) := [[117, 105, 112], [102, 117, 110, 101, 120, 116], [115, 121, 109], [116, 114, 97, 110, 115], [116, 114], [104, 101, 116], [116, 121, 112], [116, 114, 104], [104, 112], [104, 50, 101], [101, 50, 104], [114, 112], [99, 112, 105], [99, 115, 105, 103], [99, 108, 97, 109], [99, 97, 112, 112], [99, 112, 97, 105, 114], [99, 102, 115, 116], [99, 115, 110, 100], [99, 101, 113], [99, 114, 101, 102, 108]]
def headL (k : Int) : List UInt8 := (headsW[k.toNat]?).getD []
def symL (n : Int) : List UInt8 := if 1 ≤ n ∧ n ≤ 21 then (symsW[(n - 1).toNat]?).getD [] else []
def nameW (n : Int) : List UInt8 := 118 :: itoa n
def levelsN (k : Int) : Int := if k = 1 ∨ k = 10 ∨ k = 11 ∨ k = 12 then 1 else if k = 3 ∨ k = 4 ∨ k = 5 ∨ k = 6 ∨ k = 7 ∨ k = 8 ∨ k = 9 ∨ k = 23 then 2 else 0
def lvlL (k i j : Int) : List UInt8 := if levelsN k = 1 then 32 :: itoa i else if levelsN k = 2 then 32 :: (itoa i ++ 32 :: itoa j) else []
/-- What stands ahead of the kids. -/
def frontL (k i j n m : Int) : List UInt8 := (if k = 23 then 32 :: symL n else []) ++ (lvlL k i j ++ (if 0 < bindsN k 1 then 32 :: nameW m else []))
/-- What stands ahead of a kid. -/
def midL (k : Int) (p : Nat) (m : Int) : List UInt8 := if k = 22 ∧ p = 2 then 32 :: (nameW m ++ 32 :: nameW (m + 1)) else []
end Go.Proofs.YtdhfbphliejcdaaDoor

namespace Go.Proofs.YtdhfbphliejcdaaDoor

def blankC (c : UInt8) : Bool := c.toNat == 32 || c.toNat == 9 || c.toNat == 10
def lineC (c : UInt8) : Bool := !(c.toNat == 10)
def letterC (c : UInt8) : Bool := (decide (97 ≤ c.toNat) && decide (c.toNat ≤ 122)) || (decide (65 ≤ c.toNat) && decide (c.toNat ≤ 90))
def wordC (c : UInt8) : Bool := letterC c || isd c
/-- How many of the first bytes are of a sort. -/
def runL (p : UInt8 → Bool) : List UInt8 → Nat
  | [] => 0
  | c :: r => if p c = true then runL p r + 1 else 0
theorem runL_le (p : UInt8 → Bool) : ∀ l, runL p l ≤ l.length
  | [] => Nat.le_refl _
  | c :: r => by unfold runL; split <;> simp <;> have := runL_le p r <;> omega
theorem runL_yes {p : UInt8 → Bool} {c : UInt8} {r : List UInt8} (h : p c = true) : runL p (c :: r) = runL p r + 1 := by rw [runL, if_pos h]
theorem runL_no {p : UInt8 → Bool} {c : UInt8} {r : List UInt8} (h : p c = false) : runL p (c :: r) = 0 := by rw [runL, if_neg (by rw [h]; decide)]
/-- How many bytes of blanks and remarks stand first. -/
def skipL (l : List UInt8) : Nat :=
  match l with
  | [] => 0
  | c :: r => if blankC c = true then skipL r + 1
    else if c.toNat = 59 then runL lineC r + 1 + skipL (r.drop (runL lineC r))
    else 0
termination_by l.length
decreasing_by
  · simp
  · simp; omega
theorem skipL_nil : skipL [] = 0 := by rw [skipL]
theorem skipL_blank {c : UInt8} {r : List UInt8} (h : blankC c = true) : skipL (c :: r) = skipL r + 1 := by rw [skipL, if_pos h]
theorem skipL_note {c : UInt8} {r : List UInt8} (h : blankC c = false) (h2 : c.toNat = 59) : skipL (c :: r) = runL lineC r + 1 + skipL (r.drop (runL lineC r)) := by rw [skipL, if_neg (by rw [h]; decide), if_pos h2]
theorem skipL_stop {c : UInt8} {r : List UInt8} (h : blankC c = false) (h2 : ¬ c.toNat = 59) : skipL (c :: r) = 0 := by rw [skipL, if_neg (by rw [h]; decide), if_neg h2]
theorem skipL_le : ∀ n (l : List UInt8), l.length ≤ n → skipL l ≤ l.length := by
  intro n
  induction n with
  | zero => intro l h; have : l = [] := List.eq_nil_of_length_eq_zero (by omega); subst this; rw [skipL_nil]; exact Nat.le_refl _
  | succ n ih =>
    intro l h
    match l with
    | [] => rw [skipL_nil]; exact Nat.le_refl _
    | c :: r =>
      simp only [List.length_cons] at h ⊢
      cases hb : blankC c with
      | true => rw [skipL_blank hb]; have := ih r (by omega); omega
      | false =>
        by_cases h2 : c.toNat = 59
        · rw [skipL_note hb h2]
          have h3 := ih (r.drop (runL lineC r)) (by rw [List.length_drop]; omega)
          rw [List.length_drop] at h3
          have := runL_le lineC r
          omega
        · rw [skipL_stop hb h2]; omega
/-- The kind and the length of the token that stands first. -/
def nextL (l : List UInt8) : Option (Nat × Nat) :=
  match l with
  | [] => none
  | c :: r =>
    if c.toNat = 40 then some (1, 1)
    else if c.toNat = 41 then some (2, 1)
    else if letterC c = true then (if 20 < runL wordC (c :: r) then none else some (3, runL wordC (c :: r)))
    else if isd c = true then (if getB ((c :: r).take (runL isd (c :: r))) = none ∨ ((((c :: r).drop (runL isd (c :: r))).head?.map letterC).getD false) = true then none else some (4, runL isd (c :: r)))
    else none
theorem nextL_range {l : List UInt8} {k n : Nat} (h : nextL l = some (k, n)) : 1 ≤ n ∧ n ≤ l.length ∧ 1 ≤ k ∧ k ≤ 4 := by
  match l with
  | [] => cases h
  | c :: r =>
    have hw := runL_le wordC (c :: r)
    have hd := runL_le isd (c :: r)
    rw [nextL] at h
    by_cases c1 : c.toNat = 40
    · rw [if_pos c1] at h; cases h; simp
    rw [if_neg c1] at h
    by_cases c2 : c.toNat = 41
    · rw [if_pos c2] at h; cases h; simp
    rw [if_neg c2] at h
    by_cases c3 : letterC c = true
    · rw [if_pos c3] at h
      by_cases c4 : 20 < runL wordC (c :: r)
      · rw [if_pos c4] at h; cases h
      · rw [if_neg c4] at h
        cases h
        have : runL wordC (c :: r) = runL wordC r + 1 := runL_yes (by unfold wordC; rw [c3]; rfl)
        omega
    rw [if_neg c3] at h
    by_cases c5 : isd c = true
    · rw [if_pos c5] at h
      by_cases c6 : getB ((c :: r).take (runL isd (c :: r))) = none ∨ ((((c :: r).drop (runL isd (c :: r))).head?.map letterC).getD false) = true
      · rw [if_pos c6] at h; cases h
      · rw [if_neg c6] at h
        cases h
        have : runL isd (c :: r) = runL isd r + 1 := runL_yes c5
        omega
    · rw [if_neg c5] at h; cases h
structure Tok where
  k : Nat
  s : List UInt8
  at_ : Nat
/-- The tokens from a place on, and the place of the first fault. -/
def lexL (l : List UInt8) (p : Nat) : List Tok × Option Nat :=
  if _h : p + skipL (l.drop p) < l.length then
    match _hn : nextL (l.drop (p + skipL (l.drop p))) with
    | none => ([], some (p + skipL (l.drop p)))
    | some (k, n) =>
      let r := lexL l (p + skipL (l.drop p) + n)
      (⟨k, (l.drop (p + skipL (l.drop p))).take n, p + skipL (l.drop p)⟩ :: r.1, r.2)
  else ([], none)
termination_by l.length - p
decreasing_by
  have := nextL_range _hn
  omega
theorem lexL_end {l : List UInt8} {p : Nat} (h : ¬ p + skipL (l.drop p) < l.length) : lexL l p = ([], none) := by rw [lexL, dif_neg h]
theorem lexL_fault {l : List UInt8} {p q : Nat} (hq : p + skipL (l.drop p) = q) (h : q < l.length) (hn : nextL (l.drop q) = none) : lexL l p = ([], some q) := by
  subst hq
  rw [lexL, dif_pos h]
  split
  · rfl
  · rename_i e; rw [hn] at e; cases e
theorem lexL_next {l : List UInt8} {p q k n : Nat} (hq : p + skipL (l.drop p) = q) (h : q < l.length) (hn : nextL (l.drop q) = some (k, n)) : lexL l p = (⟨k, (l.drop q).take n, q⟩ :: (lexL l (q + n)).1, (lexL l (q + n)).2) := by
  subst hq
  rw [lexL, dif_pos h]
  split
  · rename_i e; rw [hn] at e; cases e
  · rename_i e; rw [hn] at e; cases e; rfl
/-- Two places with the same token behind them. -/
theorem lexL_same {l : List UInt8} {p q : Nat} (h : p + skipL (l.drop p) = q + skipL (l.drop q)) : lexL l p = lexL l q := by
  by_cases h1 : q + skipL (l.drop q) < l.length
  · cases hn : nextL (l.drop (q + skipL (l.drop q))) with
    | none => rw [lexL_fault h h1 hn, lexL_fault rfl h1 hn]
    | some x => obtain ⟨k, n⟩ := x; rw [lexL_next h h1 hn, lexL_next rfl h1 hn]
  · rw [lexL_end h1, lexL_end (by rw [h]; exact h1)]
/-- The tokens ahead, and what is still to be read. -/
def lexTo (acc : List Tok) (r : List Tok × Option Nat) : List Tok × Option Nat := (acc ++ r.1, r.2)
end Go.Proofs.YtdhfbphliejcdaaDoor

namespace Go.Proofs.YtdhfbphliejcdaaDoor
open Go.RowKit Go.Lib

/-- What Get hands back. -/
def getV (l : List UInt8) : Value := match getB l with
  | some n => .tuple #[.int .i64 n, .bool true]
  | none => .tuple #[.int .i64 0, .bool false]
theorem getV_some {l : List UInt8} {n : Nat} (h : getB l = some n) : getV l = .tuple #[.int .i64 n, .bool true] := by unfold getV; rw [h]
theorem getV_none {l : List UInt8} (h : getB l = none) : getV l = .tuple #[.int .i64 0, .bool false] := by unfold getV; rw [h]
theorem take_snoc (s : ByteArray) (k : Nat) (h : k < s.size) : s.data.toList.take (k + 1) = s.data.toList.take k ++ [s[k]] := by
  rw [List.take_succ_eq_append_getElem (by simpa using h)]; rfl

theorem getB_of {l : List UInt8} (h1 : l ≠ []) (h2 : ¬ (1 < l.length ∧ l.head? = some 48)) (h3 : digs l = true) (h4 : val l ≤ 1000000) : getB l = some (val l) := by
  unfold getB; rw [if_neg (by rintro (h | h); exact h1 h; exact h2 h), if_pos ⟨h3, h4⟩]
theorem getB_digs {l : List UInt8} (h3 : digs l = false) : getB l = none := by
  unfold getB; split; rfl; rw [if_neg (by rw [h3]; simp)]
theorem getB_great {l : List UInt8} (h3 : 1000000 < val l) : getB l = none := by
  unfold getB; split; rfl; rw [if_neg (by omega)]
theorem isd_at (s : ByteArray) (k : Nat) (h : k < s.size) (hd : isd s[k] = false) : digs s.data.toList = false := by
  have : s[k] ∈ s.data.toList := by
    have h' : k < s.data.toList.length := by simpa using h
    exact (List.getElem_mem (n := k) h' : s.data.toList[k] ∈ _)
  unfold digs
  rw [List.all_eq_false]
  exact ⟨_, this, by rw [hd]; decide⟩
theorem val_at (s : ByteArray) (k : Nat) : val (s.data.toList.take k) ≤ val s.data.toList := by
  have := val_append (s.data.toList.take k) (s.data.toList.drop k)
  rwa [List.take_append_drop] at this
theorem head_at (s : ByteArray) (h : 0 < s.size) : s.data.toList.head? = some s[0] := by
  have h' : 0 < s.data.toList.length := by simpa using h
  rw [List.head?_eq_getElem?, List.getElem?_eq_getElem h']; rfl

set_option maxHeartbeats 1000000 in
theorem get_any (s : ByteArray) (w : World) (hs : s.size ≤ maxLen) : Calls Tryd.prog 61 #[.string s] w fun e w' => e = .returned (getV s.data.toList) ∧ w' = w := by
  unfold maxLen at hs
  have hsl : s.data.toList.length = s.size := by simp
  by_cases h0 : s.size = 0
  · have hl : s.data.toList = [] := List.eq_nil_of_length_eq_zero (by omega)
    have hl2 : s.toList = [] := by rw [ByteArray.toList_eq]; exact hl
    have HV := Lib.hid (getV_none (l := s.data.toList) (by rw [hl]; rfl))
    clear hl hsl
    go_enter Tryd.func61, Tryd.ntmps61
    go_wp2
    go_ret2
    rw [HV.out]
    exact ⟨rfl, rfl⟩
  have hne : s.data.toList ≠ [] := fun h => by rw [h] at hsl; simp at hsl; omega
  have hne2 : (!s.toList.isEmpty) = true := by rw [ByteArray.toList_eq]; simpa using hne
  have hne3 : ¬ s.toList = [] := by rw [ByteArray.toList_eq]; exact hne
  have hne4 : s.toList.isEmpty = false := by simpa using hne2
  have h0' : 0 < s.size := by omega
  by_cases h1 : 1 < s.size ∧ ((s[0].toNat : Int) = 48)
  · obtain ⟨h1, h2⟩ := h1
    have HV := Lib.hid (getV_none (l := s.data.toList) (by
      unfold getB; rw [if_pos (Or.inr ⟨by omega, by rw [head_at s h0']; congr 1; apply UInt8.toNat_inj.1; simp; omega⟩)]))
    have e2 : ((s[0].toNat : Int) == 48) = true := by simpa using h2
    clear hne hsl h2
    go_enter Tryd.func61, Tryd.ntmps61
    go_wp2
    go_ret2
    rw [HV.out]
    exact ⟨rfl, rfl⟩
  have HN2 : Hid (¬ (1 < s.data.toList.length ∧ s.data.toList.head? = some 48)) := by
    rintro ⟨h, h'⟩
    rw [head_at s h0'] at h'
    simp only [Option.some.injEq] at h'
    exact h1 ⟨by omega, by rw [h']; rfl⟩
  by_cases hA : 1 < s.size
  · have e2 : ((s[0].toNat : Int) == 48) = false := by
      have : ¬ (s[0].toNat : Int) = 48 := fun h => h1 ⟨hA, h⟩
      simpa using this
    clear h1 h0
    have HHN := Lib.hid hne
    have HHS := Lib.hid hsl
    clear hne hsl
    go_enter Tryd.func61, Tryd.ntmps61
    go_wp2
    go_loop [4, 5] (fun n i => ∃ k : Nat, k ≤ s.size ∧ i = .int .i64 k ∧ n = .int .i64 (val (s.data.toList.take k) : Nat) ∧ Hid (digs (s.data.toList.take k) = true) ∧ Hid (val (s.data.toList.take k) ≤ 1000000)) (fun _ i => s.size - (RowKit.intOf i).toNat)
    case atStart => exact ⟨0, Nat.zero_le _, rfl, rfl, rfl, Nat.zero_le _⟩
    case round =>
      obtain ⟨k, hk, rfl, rfl, hd, hv⟩ := hrel
      by_cases hlt : k < s.size
      · have hts := take_snoc s k hlt
        have hsn := val_snoc (s.data.toList.take k) s[k]
        have hdn := digs_snoc (s.data.toList.take k) s[k]
        rw [← hts] at hsn hdn
        rw [hd.out, Bool.true_and] at hdn
        have hc0 := s[k].toNat_lt
        by_cases l1 : (s[k].toNat : Int) < 48
        · have HF := Lib.hid (getV_none (getB_digs (isd_at s k hlt (by unfold isd; simp; omega))))
          clear hts hsn hdn hc0 hd hv
          go_wp2
          go_ret2
          rw [HF.out]
          exact ⟨rfl, rfl⟩
        by_cases l2 : 57 < (s[k].toNat : Int)
        · have HF := Lib.hid (getV_none (getB_digs (isd_at s k hlt (by unfold isd; simp; omega))))
          clear hts hsn hdn hc0 hd hv
          go_wp2
          go_ret2
          rw [HF.out]
          exact ⟨rfl, rfl⟩
        have hv0 := hv.out
        obtain ⟨v, hve⟩ : ∃ v : Nat, val (s.data.toList.take k) = v := ⟨_, rfl⟩
        rw [hve] at hsn hv0 ⊢
        have l3 : 48 ≤ (s[k].toNat : Int) := by omega
        have l4 : (s[k].toNat : Int) ≤ 57 := by omega
        have HDN : Hid (digs (s.data.toList.take (k + 1)) = true) := by rw [Hid, hdn]; unfold isd; simp; omega
        have HSN := Lib.hid (show ((val (s.data.toList.take (k + 1)) : Nat) : Int) = 10 * (v : Int) + ((s[k].toNat : Int) - 48) by rw [hsn]; omega)
        have hvs := val_at s (k + 1)
        have hw1 : IntKind.u8.wrap ((s[k].toNat : Int) - 48) = (s[k].toNat : Int) - 48 := IntWalk.u8_in _ (by omega)
        by_cases l5 : 1000000 < 10 * (v : Int) + ((s[k].toNat : Int) - 48)
        · have HF := Lib.hid (getV_none (getB_great (l := s.data.toList) (by have := HSN.out; omega)))
          clear hts hsn hdn hc0 hd hv hvs hve l1 l2
          go_wp2
          go_ret2
          rw [HF.out]
          exact ⟨rfl, rfl⟩
        · have HV5 : Hid (val (s.data.toList.take (k + 1)) ≤ 1000000) := by have := HSN.out; rw [Hid]; omega
          clear hts hsn hdn hc0 hd hv hvs hve l1 l2
          go_wp2
          go_round
          case rel => exact ⟨k + 1, hlt, by go_num, by rw [HSN.out], HDN, HV5⟩
          case measure => simp [RowKit.intOf]; omega
      · have hte : s.data.toList.take k = s.data.toList := List.take_of_length_le (by rw [HHS.out]; omega)
        rw [hte] at hd hv ⊢
        have HG := Lib.hid (getV_some (getB_of HHN.out HN2.out hd.out hv.out))
        clear hte hd hv
        go_wp2
        go_ret2
        rw [HG.out]
        exact ⟨rfl, rfl⟩
  · clear h1 h0
    have HHN := Lib.hid hne
    have HHS := Lib.hid hsl
    clear hne hsl
    go_enter Tryd.func61, Tryd.ntmps61
    go_wp2
    go_loop [4, 5] (fun n i => ∃ k : Nat, k ≤ s.size ∧ i = .int .i64 k ∧ n = .int .i64 (val (s.data.toList.take k) : Nat) ∧ Hid (digs (s.data.toList.take k) = true) ∧ Hid (val (s.data.toList.take k) ≤ 1000000)) (fun _ i => s.size - (RowKit.intOf i).toNat)
    case atStart => exact ⟨0, Nat.zero_le _, rfl, rfl, rfl, Nat.zero_le _⟩
    case round =>
      obtain ⟨k, hk, rfl, rfl, hd, hv⟩ := hrel
      by_cases hlt : k < s.size
      · have hts := take_snoc s k hlt
        have hsn := val_snoc (s.data.toList.take k) s[k]
        have hdn := digs_snoc (s.data.toList.take k) s[k]
        rw [← hts] at hsn hdn
        rw [hd.out, Bool.true_and] at hdn
        have hc0 := s[k].toNat_lt
        by_cases l1 : (s[k].toNat : Int) < 48
        · have HF := Lib.hid (getV_none (getB_digs (isd_at s k hlt (by unfold isd; simp; omega))))
          clear hts hsn hdn hc0 hd hv
          go_wp2
          go_ret2
          rw [HF.out]
          exact ⟨rfl, rfl⟩
        by_cases l2 : 57 < (s[k].toNat : Int)
        · have HF := Lib.hid (getV_none (getB_digs (isd_at s k hlt (by unfold isd; simp; omega))))
          clear hts hsn hdn hc0 hd hv
          go_wp2
          go_ret2
          rw [HF.out]
          exact ⟨rfl, rfl⟩
        have hv0 := hv.out
        obtain ⟨v, hve⟩ : ∃ v : Nat, val (s.data.toList.take k) = v := ⟨_, rfl⟩
        rw [hve] at hsn hv0 ⊢
        have l3 : 48 ≤ (s[k].toNat : Int) := by omega
        have l4 : (s[k].toNat : Int) ≤ 57 := by omega
        have HDN : Hid (digs (s.data.toList.take (k + 1)) = true) := by rw [Hid, hdn]; unfold isd; simp; omega
        have HSN := Lib.hid (show ((val (s.data.toList.take (k + 1)) : Nat) : Int) = 10 * (v : Int) + ((s[k].toNat : Int) - 48) by rw [hsn]; omega)
        have hvs := val_at s (k + 1)
        have hw1 : IntKind.u8.wrap ((s[k].toNat : Int) - 48) = (s[k].toNat : Int) - 48 := IntWalk.u8_in _ (by omega)
        by_cases l5 : 1000000 < 10 * (v : Int) + ((s[k].toNat : Int) - 48)
        · have HF := Lib.hid (getV_none (getB_great (l := s.data.toList) (by have := HSN.out; omega)))
          clear hts hsn hdn hc0 hd hv hvs hve l1 l2
          go_wp2
          go_ret2
          rw [HF.out]
          exact ⟨rfl, rfl⟩
        · have HV5 : Hid (val (s.data.toList.take (k + 1)) ≤ 1000000) := by have := HSN.out; rw [Hid]; omega
          clear hts hsn hdn hc0 hd hv hvs hve l1 l2
          go_wp2
          go_round
          case rel => exact ⟨k + 1, hlt, by go_num, by rw [HSN.out], HDN, HV5⟩
          case measure => simp [RowKit.intOf]; omega
      · have hte : s.data.toList.take k = s.data.toList := List.take_of_length_le (by rw [HHS.out]; omega)
        rw [hte] at hd hv ⊢
        have HG := Lib.hid (getV_some (getB_of HHN.out HN2.out hd.out hv.out))
        clear hte hd hv
        go_wp2
        go_ret2
        rw [HG.out]
        exact ⟨rfl, rfl⟩

end Go.Proofs.YtdhfbphliejcdaaDoor

namespace Go.Proofs.YtdhfbphliejcdaaDoor
open Go.RowKit

theorem ret_boolL {a b : Bool} (h : a = b) : Ending.returned (.bool a) = .returned (.bool b) := by rw [h]
theorem drop_at (s : ByteArray) (k : Nat) (h : k < s.size) : s.data.toList.drop k = s[k] :: s.data.toList.drop (k + 1) := by
  have h' : k < s.data.toList.length := by simpa using h
  rw [List.drop_eq_getElem_cons h']; rfl
theorem u8_eq {c : UInt8} {n : Nat} : (((c.toNat : Int)) == (n : Int)) = (c.toNat == n) := by
  by_cases h : c.toNat = n
  · rw [h]; simp
  · have h2 : ¬ (c.toNat : Int) = n := by omega
    rw [beq_eq_false_iff_ne.2 h2, beq_eq_false_iff_ne.2 h]
theorem letter_any (c : UInt8) (w : World) : Calls Tryd.prog 66 #[.int .u8 (c.toNat : Int)] w fun e w' => e = .returned (.bool (letterC c)) ∧ w' = w := by
  by_cases c0 : 97 ≤ (c.toNat : Int)
  all_goals by_cases c1 : (c.toNat : Int) ≤ 122
  all_goals by_cases c2 : 65 ≤ (c.toNat : Int)
  all_goals by_cases c3 : (c.toNat : Int) ≤ 90
  all_goals
    have HR : Hid (letterC c = letterC c) := rfl
    go_enter Tryd.func66, Tryd.ntmps66
    go_wp2
    all_goals
      go_ret
      exact ⟨ret_boolL (by unfold letterC; simp; omega), rfl⟩
theorem pletter_any (c : UInt8) (w : World) : Calls Tryd.prog 35 #[.int .u8 (c.toNat : Int)] w fun e w' => e = .returned (.bool (letterC c)) ∧ w' = w := by
  by_cases c0 : 97 ≤ (c.toNat : Int)
  all_goals by_cases c1 : (c.toNat : Int) ≤ 122
  all_goals by_cases c2 : 65 ≤ (c.toNat : Int)
  all_goals by_cases c3 : (c.toNat : Int) ≤ 90
  all_goals
    have HR : Hid (letterC c = letterC c) := rfl
    go_enter Tryd.func35, Tryd.ntmps35
    go_wp2
    all_goals
      go_ret
      exact ⟨ret_boolL (by unfold letterC; simp; omega), rfl⟩
theorem digit_any (c : UInt8) (w : World) : Calls Tryd.prog 68 #[.int .u8 (c.toNat : Int)] w fun e w' => e = .returned (.bool (isd c)) ∧ w' = w := by
  by_cases c0 : 48 ≤ (c.toNat : Int)
  all_goals by_cases c1 : (c.toNat : Int) ≤ 57
  all_goals
    have HR : Hid (isd c = isd c) := rfl
    go_enter Tryd.func68, Tryd.ntmps68
    go_wp2
    all_goals
      go_ret
      exact ⟨ret_boolL (by unfold isd; simp; omega), rfl⟩
theorem pdigit_any (c : UInt8) (w : World) : Calls Tryd.prog 36 #[.int .u8 (c.toNat : Int)] w fun e w' => e = .returned (.bool (isd c)) ∧ w' = w := by
  by_cases c0 : 48 ≤ (c.toNat : Int)
  all_goals by_cases c1 : (c.toNat : Int) ≤ 57
  all_goals
    have HR : Hid (isd c = isd c) := rfl
    go_enter Tryd.func36, Tryd.ntmps36
    go_wp2
    all_goals
      go_ret
      exact ⟨ret_boolL (by unfold isd; simp; omega), rfl⟩
theorem blank_any (c : UInt8) (w : World) : Calls Tryd.prog 63 #[.int .u8 (c.toNat : Int)] w fun e w' => e = .returned (.bool (blankC c)) ∧ w' = w := by
  obtain ⟨q0, hq0⟩ : ∃ q, (c.toNat == 32) = q := ⟨_, rfl⟩
  have b0 : ((c.toNat : Int) == 32) = q0 := (u8_eq (n := 32)).trans hq0
  obtain ⟨q1, hq1⟩ : ∃ q, (c.toNat == 9) = q := ⟨_, rfl⟩
  have b1 : ((c.toNat : Int) == 9) = q1 := (u8_eq (n := 9)).trans hq1
  obtain ⟨q2, hq2⟩ : ∃ q, (c.toNat == 10) = q := ⟨_, rfl⟩
  have b2 : ((c.toNat : Int) == 10) = q2 := (u8_eq (n := 10)).trans hq2
  have HR := Lib.hid (show blankC c = (q0 || q1 || q2) by unfold blankC; rw [hq0, hq1, hq2])
  clear hq0 hq1 hq2
  cases q0 <;> cases q1 <;> cases q2
  all_goals
    go_enter Tryd.func63, Tryd.ntmps63
    go_wp2
    go_ret
    exact ⟨ret_boolL HR.out.symm, rfl⟩
theorem inLine_any (c : UInt8) (w : World) : Calls Tryd.prog 65 #[.int .u8 (c.toNat : Int)] w fun e w' => e = .returned (.bool (lineC c)) ∧ w' = w := by
  obtain ⟨q0, hq0⟩ : ∃ q, (c.toNat == 10) = q := ⟨_, rfl⟩
  have b0 : ((c.toNat : Int) == 10) = q0 := (u8_eq (n := 10)).trans hq0
  have HR := Lib.hid (show lineC c = (!q0) by unfold lineC; rw [hq0])
  have n0 : ((c.toNat : Int) != 10) = (!q0) := by rw [bne, b0]
  clear hq0
  cases q0
  all_goals
    go_enter Tryd.func65, Tryd.ntmps65
    go_wp2
    go_ret
    exact ⟨ret_boolL HR.out.symm, rfl⟩
theorem wordly_any (c : UInt8) (w : World) : Calls Tryd.prog 67 #[.int .u8 (c.toNat : Int)] w fun e w' => e = .returned (.bool (wordC c)) ∧ w' = w := by
  have HL := Lib.hid (letter_any c)
  have HD := Lib.hid (digit_any c)
  cases h : letterC c with
  | true =>
    have HR := Lib.hid (show wordC c = true by unfold wordC; rw [h]; rfl)
    rw [h] at HL
    go_enter Tryd.func67, Tryd.ntmps67
    go_wp2_with fail
    refine (HL.out _).mono ?_
    rintro e w1 ⟨rfl, rfl⟩
    go_wp2
    go_ret
    exact ⟨ret_boolL HR.out.symm, rfl⟩
  | false =>
    have HR := Lib.hid (show wordC c = isd c by unfold wordC; rw [h]; rfl)
    rw [h] at HL
    go_enter Tryd.func67, Tryd.ntmps67
    go_wp2_with fail
    refine (HL.out _).mono ?_
    rintro e w1 ⟨rfl, rfl⟩
    go_wp2_with fail
    refine (HD.out _).mono ?_
    rintro e w1 ⟨rfl, rfl⟩
    go_wp2
    all_goals
      go_ret
      exact ⟨ret_boolL HR.out.symm, rfl⟩

/-- The place behind the longest row of bytes of a sort. -/
theorem runW_any (s : ByteArray) (k0 : Nat) (w : World) (hs : s.size ≤ maxLen) (hk0 : k0 ≤ s.size) :
    Calls Tryd.prog 64 #[.string s, .int .i64 k0, .func (.func 67) #[] #[]] w fun e w' => e = .returned (.int .i64 ((k0 + runL wordC (s.data.toList.drop k0) : Nat) : Int)) ∧ w' = w := by
  unfold maxLen at hs
  have HP := Lib.hid wordly_any
  obtain ⟨R, hR⟩ : ∃ R, k0 + runL wordC (s.data.toList.drop k0) = R := ⟨_, rfl⟩
  rw [hR]
  have HRR := Lib.hid hR
  clear hR
  go_enter Tryd.func64, Tryd.ntmps64
  go_wp2
  go_loop [1] (fun i => ∃ k : Nat, k ≤ s.size ∧ i = .int .i64 k ∧ Hid (k + runL wordC (s.data.toList.drop k) = R)) (fun i => s.size - (intOf i).toNat)
  case atStart => exact ⟨k0, hk0, rfl, HRR.out⟩
  case round =>
    obtain ⟨k, hk, rfl, hq⟩ := hrel
    by_cases hlt : k < s.size
    · have hd := hq.out
      rw [drop_at s k hlt] at hd
      cases hpc : wordC s[k] with
      | true =>
        rw [runL_yes hpc] at hd
        have HQ := Lib.hid (show k + 1 + runL wordC (s.data.toList.drop (k + 1)) = R by omega)
        have HC := Lib.hid (HP.out s[k])
        rw [hpc] at HC
        clear hd hq hpc
        go_wp2_with fail
        refine (HC.out _).mono ?_
        rintro e w1 ⟨rfl, rfl⟩
        go_wp2
        go_round
        case rel => exact ⟨k + 1, hlt, by go_num, HQ.out⟩
        case measure => simp [intOf]; omega
      | false =>
        rw [runL_no hpc] at hd
        have HC := Lib.hid (HP.out s[k])
        rw [hpc] at HC
        obtain rfl : k = R := by omega
        clear hd hq hpc
        go_wp2_with fail
        refine (HC.out _).mono ?_
        rintro e w1 ⟨rfl, rfl⟩
        go_wp2
        go_ret
        exact ⟨rfl, rfl⟩
    · have hd := hq.out
      rw [List.drop_of_length_le (by simp; omega)] at hd
      obtain rfl : k = R := by simpa [runL] using hd
      clear hd hq
      go_wp2
      go_ret
      exact ⟨rfl, rfl⟩
/-- The place behind the longest row of bytes of a sort. -/
theorem runD_any (s : ByteArray) (k0 : Nat) (w : World) (hs : s.size ≤ maxLen) (hk0 : k0 ≤ s.size) :
    Calls Tryd.prog 64 #[.string s, .int .i64 k0, .func (.func 68) #[] #[]] w fun e w' => e = .returned (.int .i64 ((k0 + runL isd (s.data.toList.drop k0) : Nat) : Int)) ∧ w' = w := by
  unfold maxLen at hs
  have HP := Lib.hid digit_any
  obtain ⟨R, hR⟩ : ∃ R, k0 + runL isd (s.data.toList.drop k0) = R := ⟨_, rfl⟩
  rw [hR]
  have HRR := Lib.hid hR
  clear hR
  go_enter Tryd.func64, Tryd.ntmps64
  go_wp2
  go_loop [1] (fun i => ∃ k : Nat, k ≤ s.size ∧ i = .int .i64 k ∧ Hid (k + runL isd (s.data.toList.drop k) = R)) (fun i => s.size - (intOf i).toNat)
  case atStart => exact ⟨k0, hk0, rfl, HRR.out⟩
  case round =>
    obtain ⟨k, hk, rfl, hq⟩ := hrel
    by_cases hlt : k < s.size
    · have hd := hq.out
      rw [drop_at s k hlt] at hd
      cases hpc : isd s[k] with
      | true =>
        rw [runL_yes hpc] at hd
        have HQ := Lib.hid (show k + 1 + runL isd (s.data.toList.drop (k + 1)) = R by omega)
        have HC := Lib.hid (HP.out s[k])
        rw [hpc] at HC
        clear hd hq hpc
        go_wp2_with fail
        refine (HC.out _).mono ?_
        rintro e w1 ⟨rfl, rfl⟩
        go_wp2
        go_round
        case rel => exact ⟨k + 1, hlt, by go_num, HQ.out⟩
        case measure => simp [intOf]; omega
      | false =>
        rw [runL_no hpc] at hd
        have HC := Lib.hid (HP.out s[k])
        rw [hpc] at HC
        obtain rfl : k = R := by omega
        clear hd hq hpc
        go_wp2_with fail
        refine (HC.out _).mono ?_
        rintro e w1 ⟨rfl, rfl⟩
        go_wp2
        go_ret
        exact ⟨rfl, rfl⟩
    · have hd := hq.out
      rw [List.drop_of_length_le (by simp; omega)] at hd
      obtain rfl : k = R := by simpa [runL] using hd
      clear hd hq
      go_wp2
      go_ret
      exact ⟨rfl, rfl⟩
/-- The place behind the longest row of bytes of a sort. -/
theorem runN_any (s : ByteArray) (k0 : Nat) (w : World) (hs : s.size ≤ maxLen) (hk0 : k0 ≤ s.size) :
    Calls Tryd.prog 64 #[.string s, .int .i64 k0, .func (.func 65) #[] #[]] w fun e w' => e = .returned (.int .i64 ((k0 + runL lineC (s.data.toList.drop k0) : Nat) : Int)) ∧ w' = w := by
  unfold maxLen at hs
  have HP := Lib.hid inLine_any
  obtain ⟨R, hR⟩ : ∃ R, k0 + runL lineC (s.data.toList.drop k0) = R := ⟨_, rfl⟩
  rw [hR]
  have HRR := Lib.hid hR
  clear hR
  go_enter Tryd.func64, Tryd.ntmps64
  go_wp2
  go_loop [1] (fun i => ∃ k : Nat, k ≤ s.size ∧ i = .int .i64 k ∧ Hid (k + runL lineC (s.data.toList.drop k) = R)) (fun i => s.size - (intOf i).toNat)
  case atStart => exact ⟨k0, hk0, rfl, HRR.out⟩
  case round =>
    obtain ⟨k, hk, rfl, hq⟩ := hrel
    by_cases hlt : k < s.size
    · have hd := hq.out
      rw [drop_at s k hlt] at hd
      cases hpc : lineC s[k] with
      | true =>
        rw [runL_yes hpc] at hd
        have HQ := Lib.hid (show k + 1 + runL lineC (s.data.toList.drop (k + 1)) = R by omega)
        have HC := Lib.hid (HP.out s[k])
        rw [hpc] at HC
        clear hd hq hpc
        go_wp2_with fail
        refine (HC.out _).mono ?_
        rintro e w1 ⟨rfl, rfl⟩
        go_wp2
        go_round
        case rel => exact ⟨k + 1, hlt, by go_num, HQ.out⟩
        case measure => simp [intOf]; omega
      | false =>
        rw [runL_no hpc] at hd
        have HC := Lib.hid (HP.out s[k])
        rw [hpc] at HC
        obtain rfl : k = R := by omega
        clear hd hq hpc
        go_wp2_with fail
        refine (HC.out _).mono ?_
        rintro e w1 ⟨rfl, rfl⟩
        go_wp2
        go_ret
        exact ⟨rfl, rfl⟩
    · have hd := hq.out
      rw [List.drop_of_length_le (by simp; omega)] at hd
      obtain rfl : k = R := by simpa [runL] using hd
      clear hd hq
      go_wp2
      go_ret
      exact ⟨rfl, rfl⟩
theorem runL_at (p : UInt8 → Bool) (s : ByteArray) (k : Nat) (hk : k ≤ s.size) : k + runL p (s.data.toList.drop k) ≤ s.size := by
  have := runL_le p (s.data.toList.drop k)
  rw [List.length_drop] at this
  have h2 : s.data.toList.length = s.size := by simp
  omega

theorem skip_any (s : ByteArray) (k0 : Nat) (w : World) (hs : s.size ≤ maxLen) (hk0 : k0 ≤ s.size) :
    Calls Tryd.prog 56 #[.string s, .int .i64 k0] w fun e w' => e = .returned (.int .i64 ((k0 + skipL (s.data.toList.drop k0) : Nat) : Int)) ∧ w' = w := by
  have HRUN := Lib.hid fun k w (h : k ≤ s.size) => runN_any s k w hs h
  unfold maxLen at hs
  obtain ⟨R, hR⟩ : ∃ R, k0 + skipL (s.data.toList.drop k0) = R := ⟨_, rfl⟩
  rw [hR]
  have HRR := Lib.hid hR
  clear hR
  go_enter Tryd.func56, Tryd.ntmps56
  go_wp2
  go_loop [1] (fun i => ∃ k : Nat, k ≤ s.size ∧ i = .int .i64 k ∧ Hid (k + skipL (s.data.toList.drop k) = R)) (fun i => s.size - (intOf i).toNat)
  case atStart => exact ⟨k0, hk0, rfl, HRR.out⟩
  case round =>
    obtain ⟨k, hk, rfl, hq⟩ := hrel
    by_cases hlt : k < s.size
    · have hd := hq.out
      rw [drop_at s k hlt] at hd
      have HC := Lib.hid (blank_any s[k])
      cases hb : blankC s[k] with
      | true =>
        rw [skipL_blank hb] at hd
        have HQ := Lib.hid (show k + 1 + skipL (s.data.toList.drop (k + 1)) = R by omega)
        rw [hb] at HC
        clear hd hq hb
        go_wp2_with fail
        refine (HC.out _).mono ?_
        rintro e w1 ⟨rfl, rfl⟩
        go_wp2
        go_round
        case rel => exact ⟨k + 1, hlt, by go_num, HQ.out⟩
        case measure => simp [intOf]; omega
      | false =>
        rw [hb] at HC
        by_cases h59 : s[k].toNat = 59
        · rw [skipL_note hb h59] at hd
          have hline : lineC s[k] = true := by unfold lineC; rw [h59]; rfl
          have hrl : runL lineC (s.data.toList.drop k) = runL lineC (s.data.toList.drop (k + 1)) + 1 := by rw [drop_at s k hlt, runL_yes hline]
          have hle := runL_at lineC s k hk
          rw [hrl] at hle
          have HQ := Lib.hid (show k + (runL lineC (s.data.toList.drop (k + 1)) + 1) + skipL (s.data.toList.drop (k + (runL lineC (s.data.toList.drop (k + 1)) + 1))) = R by
            rw [List.drop_drop] at hd
            rw [show k + (runL lineC (s.data.toList.drop (k + 1)) + 1) = k + 1 + runL lineC (s.data.toList.drop (k + 1)) by omega]
            omega)
          have HR2 := Lib.hid fun w => HRUN.out k w hk
          rw [hrl] at HR2
          generalize runL lineC (s.data.toList.drop (k + 1)) = m at HQ HR2 hle
          have e59 : ((s[k].toNat : Int) == 59) = true := by rw [h59]; rfl
          clear hd hq hb hline hrl h59
          go_wp2_with fail
          refine (HC.out _).mono ?_
          rintro e w1 ⟨rfl, rfl⟩
          go_wp2_with fail
          refine (HR2.out _).mono ?_
          rintro e w1 ⟨rfl, rfl⟩
          go_wp2
          go_round
          case rel => exact ⟨k + (m + 1), hle, rfl, HQ.out⟩
          case measure => simp [intOf]; omega
        · rw [skipL_stop hb h59] at hd
          obtain rfl : k = R := by omega
          have e59 : ((s[k].toNat : Int) == 59) = false := by
            have : ¬ (s[k].toNat : Int) = 59 := by omega
            simpa using this
          clear hd hq hb h59
          go_wp2_with fail
          refine (HC.out _).mono ?_
          rintro e w1 ⟨rfl, rfl⟩
          go_wp2
          go_ret
          exact ⟨rfl, rfl⟩
    · have hd := hq.out
      rw [List.drop_of_length_le (by simp; omega), skipL_nil] at hd
      obtain rfl : k = R := hd
      clear hq
      go_wp2
      go_ret
      exact ⟨rfl, rfl⟩
end Go.Proofs.YtdhfbphliejcdaaDoor

namespace Go.Proofs.YtdhfbphliejcdaaDoor
open Go.RowKit

/-- What next hands back at a place. -/
def nextV (l : List UInt8) (at_ : Nat) : Value := match nextL l with
  | none => .tuple #[.int .i64 0, .int .i64 0]
  | some (k, n) => .tuple #[.int .i64 k, .int .i64 ((at_ + n : Nat) : Int)]
theorem nextV_none {l : List UInt8} {a : Nat} (h : nextL l = none) : nextV l a = .tuple #[.int .i64 0, .int .i64 0] := by unfold nextV; rw [h]
theorem nextV_some {l : List UInt8} {a k n : Nat} (h : nextL l = some (k, n)) : nextV l a = .tuple #[.int .i64 k, .int .i64 ((a + n : Nat) : Int)] := by unfold nextV; rw [h]
theorem next_open {c : UInt8} {r : List UInt8} (h : c.toNat = 40) : nextL (c :: r) = some (1, 1) := by rw [nextL, if_pos h]
theorem next_close {c : UInt8} {r : List UInt8} (h : c.toNat = 41) : nextL (c :: r) = some (2, 1) := by rw [nextL, if_neg (by omega), if_pos h]
theorem next_long {c : UInt8} {r : List UInt8} (h1 : c.toNat ≠ 40) (h2 : c.toNat ≠ 41) (h3 : letterC c = true) (h4 : 20 < runL wordC (c :: r)) : nextL (c :: r) = none := by rw [nextL, if_neg h1, if_neg h2, if_pos h3, if_pos h4]
theorem next_word {c : UInt8} {r : List UInt8} (h1 : c.toNat ≠ 40) (h2 : c.toNat ≠ 41) (h3 : letterC c = true) (h4 : ¬ 20 < runL wordC (c :: r)) : nextL (c :: r) = some (3, runL wordC (c :: r)) := by rw [nextL, if_neg h1, if_neg h2, if_pos h3, if_neg h4]
theorem next_bad {c : UInt8} {r : List UInt8} (h1 : c.toNat ≠ 40) (h2 : c.toNat ≠ 41) (h3 : letterC c = false) (h4 : isd c = true) (h5 : getB ((c :: r).take (runL isd (c :: r))) = none ∨ ((((c :: r).drop (runL isd (c :: r))).head?.map letterC).getD false) = true) : nextL (c :: r) = none := by rw [nextL, if_neg h1, if_neg h2, if_neg (by rw [h3]; decide), if_pos h4, if_pos h5]
theorem next_num {c : UInt8} {r : List UInt8} (h1 : c.toNat ≠ 40) (h2 : c.toNat ≠ 41) (h3 : letterC c = false) (h4 : isd c = true) (h5 : ¬ (getB ((c :: r).take (runL isd (c :: r))) = none ∨ ((((c :: r).drop (runL isd (c :: r))).head?.map letterC).getD false) = true)) : nextL (c :: r) = some (4, runL isd (c :: r)) := by rw [nextL, if_neg h1, if_neg h2, if_neg (by rw [h3]; decide), if_pos h4, if_neg h5]
theorem next_other {c : UInt8} {r : List UInt8} (h1 : c.toNat ≠ 40) (h2 : c.toNat ≠ 41) (h3 : letterC c = false) (h4 : isd c = false) : nextL (c :: r) = none := by rw [nextL, if_neg h1, if_neg h2, if_neg (by rw [h3]; decide), if_neg (by rw [h4]; decide)]
theorem head_drop (s : ByteArray) (k n : Nat) (h : k + n < s.size) : ((s.data.toList.drop k).drop n).head? = some s[k + n] := by
  rw [List.drop_drop, drop_at s (k + n) h]; rfl
theorem head_none (s : ByteArray) (k n : Nat) (h : ¬ k + n < s.size) : ((s.data.toList.drop k).drop n).head? = none := by
  rw [List.drop_drop, List.drop_of_length_le (by simp; omega)]; rfl

theorem slice_at {P : Program} {t : TypeId} (w : World) (s : ByteArray) (k n : Nat) (ht : P.underlying t = some .string) (h : k + n ≤ s.size) :
    (Instr.slice t (.string s) (some (.int .i64 (k : Int))) (some (.int .i64 ((k : Int) + (n : Int)))) none).run P w = .ok (.string (s.extract k (k + n))) w := by
  rw [run_slice_string w t s .i64 .i64 _ _ ht (by omega) (by omega) (by omega)]
  rfl

set_option maxHeartbeats 2000000 in
theorem next_any (s : ByteArray) (k : Nat) (w : World) (hs : s.size ≤ maxLen) (hlt : k < s.size) :
    Calls Tryd.prog 57 #[.string s, .int .i64 k] w fun e w' => e = .returned (nextV (s.data.toList.drop k) k) ∧ w' = w := by
  have HRW := Lib.hid fun w => runW_any s k w hs (Nat.le_of_lt hlt)
  have HRD := Lib.hid fun w => runD_any s k w hs (Nat.le_of_lt hlt)
  have HLE := Lib.hid (letter_any)
  have HGET := Lib.hid fun t w (h : t.size ≤ maxLen) => get_any t w h
  have hrw := runL_at wordC s k (Nat.le_of_lt hlt)
  have hrd := runL_at isd s k (Nat.le_of_lt hlt)
  have hmax := hs
  unfold maxLen at hs
  have hda := drop_at s k hlt
  have HDA := Lib.hid hda
  have HL := Lib.hid (letter_any s[k])
  have HD := Lib.hid (digit_any s[k])
  clear hda
  by_cases c40 : s[k].toNat = 40
  · have HV := Lib.hid (nextV_some (a := k) (show nextL (s.data.toList.drop k) = some (1, 1) by rw [HDA.out]; exact next_open c40))
    have b40 : ((s[k].toNat : Int) == 40) = true := (u8_eq (n := 40)).trans (by rw [c40]; rfl)
    clear c40 hrw hrd hmax
    go_enter Tryd.func57, Tryd.ntmps57
    go_wp2
    go_ret2
    exact ⟨by rw [HV.out]; rfl, rfl⟩
  have b40 : ((s[k].toNat : Int) == 40) = false := (u8_eq (n := 40)).trans (by exact beq_eq_false_iff_ne.2 c40)
  by_cases c41 : s[k].toNat = 41
  · have HV := Lib.hid (nextV_some (a := k) (show nextL (s.data.toList.drop k) = some (2, 1) by rw [HDA.out]; exact next_close c41))
    have b41 : ((s[k].toNat : Int) == 41) = true := (u8_eq (n := 41)).trans (by rw [c41]; rfl)
    clear c40 c41 hrw hrd hmax
    go_enter Tryd.func57, Tryd.ntmps57
    go_wp2
    go_ret2
    exact ⟨by rw [HV.out]; rfl, rfl⟩
  have b41 : ((s[k].toNat : Int) == 41) = false := (u8_eq (n := 41)).trans (by exact beq_eq_false_iff_ne.2 c41)
  cases hl : letterC s[k] with
  | true =>
    rw [hl] at HL
    obtain ⟨n, hn⟩ : ∃ n, runL wordC (s.data.toList.drop k) = n := ⟨_, rfl⟩
    have hsub : IntKind.i64.wrap (((k + n : Nat) : Int) - (k : Int)) = (n : Int) := by rw [show ((k + n : Nat) : Int) - (k : Int) = n by omega]; exact IntWalk.i64_in _ (by rw [hn] at hrw; omega)
    by_cases h20 : 20 < n
    · have HV := Lib.hid (nextV_none (a := k) (show nextL (s.data.toList.drop k) = none by rw [HDA.out]; exact next_long c40 c41 hl (by rw [← HDA.out, hn]; exact h20)))
      have h20' : 20 < (n : Int) := by omega
      rw [hn] at HRW hrw
      clear c40 c41 hl hn hrd hmax h20
      go_enter Tryd.func57, Tryd.ntmps57
      go_wp2_with fail
      refine (HL.out _).mono ?_
      rintro e w1 ⟨rfl, rfl⟩
      go_wp2_with fail
      refine (HRW.out _).mono ?_
      rintro e w1 ⟨rfl, rfl⟩
      go_wp2
      go_ret2
      exact ⟨by rw [HV.out]; rfl, rfl⟩
    · have HV := Lib.hid (nextV_some (a := k) (show nextL (s.data.toList.drop k) = some (3, n) by rw [HDA.out, ← hn, HDA.out]; exact next_word c40 c41 hl (by rw [← HDA.out, hn]; exact h20)))
      have h20' : ¬ 20 < (n : Int) := by omega
      rw [hn] at HRW hrw
      clear c40 c41 hl hn hrd hmax h20
      go_enter Tryd.func57, Tryd.ntmps57
      go_wp2_with fail
      refine (HL.out _).mono ?_
      rintro e w1 ⟨rfl, rfl⟩
      go_wp2_with fail
      refine (HRW.out _).mono ?_
      rintro e w1 ⟨rfl, rfl⟩
      go_wp2
      go_ret2
      exact ⟨by rw [HV.out]; rfl, rfl⟩
  | false =>
  rw [hl] at HL
  cases hd : isd s[k] with
  | false =>
    rw [hd] at HD
    have HV := Lib.hid (nextV_none (a := k) (show nextL (s.data.toList.drop k) = none by rw [HDA.out]; exact next_other c40 c41 hl hd))
    clear c40 c41 hl hd hrd hrw hmax
    go_enter Tryd.func57, Tryd.ntmps57
    go_wp2_with fail
    refine (HL.out _).mono ?_
    rintro e w1 ⟨rfl, rfl⟩
    go_wp2_with fail
    refine (HD.out _).mono ?_
    rintro e w1 ⟨rfl, rfl⟩
    go_wp2
    go_ret2
    exact ⟨by rw [HV.out]; rfl, rfl⟩
  | true =>
    rw [hd] at HD
    obtain ⟨n, hn⟩ : ∃ n, runL isd (s.data.toList.drop k) = n := ⟨_, rfl⟩
    rw [hn] at HRD hrd
    obtain ⟨p, hp⟩ : ∃ p, s.extract k (k + n) = p := ⟨_, rfl⟩
    have hsli : ∀ w', (Instr.slice 9 (.string s) (some (.int .i64 (k : Int))) (some (.int .i64 ((k : Int) + (n : Int)))) none).run Tryd.prog w' = .ok (.string p) w' := fun w' => by rw [← hp]; exact slice_at w' s k n Tryd.underlying9 hrd
    have hpl : p.data.toList = (s.data.toList.drop k).take n := by rw [← hp]; exact (Lib.extract_data s k (k + n)).trans (by congr 1; omega)
    have hpm : p.size ≤ maxLen := by
      have h1 : p.data.toList.length = p.size := by simp
      rw [hpl, List.length_take] at h1
      have : n ≤ s.size := by omega
      omega
    have HG := Lib.hid fun w => HGET.out p w hpm
    rw [hpl] at HG
    clear hp hpm hpl
    cases hg : getB ((s.data.toList.drop k).take n) with
    | none =>
      have HV := Lib.hid (nextV_none (a := k) (show nextL (s.data.toList.drop k) = none by
        rw [HDA.out]; exact next_bad c40 c41 hl hd (by rw [← HDA.out, hn]; exact Or.inl hg)))
      rw [getV_none hg] at HG
      clear c40 c41 hl hd hn hg hrw hmax
      go_enter Tryd.func57, Tryd.ntmps57
      go_wp2_with fail
      refine (HL.out _).mono ?_
      rintro e w1 ⟨rfl, rfl⟩
      go_wp2_with fail
      refine (HD.out _).mono ?_
      rintro e w1 ⟨rfl, rfl⟩
      go_wp2_with fail
      refine (HRD.out _).mono ?_
      rintro e w1 ⟨rfl, rfl⟩
      go_wp2_with fail
      refine (HG.out _).mono ?_
      rintro e w1 ⟨rfl, rfl⟩
      go_wp2
      go_ret2
      exact ⟨by rw [HV.out]; rfl, rfl⟩
    | some v =>
      rw [getV_some hg] at HG
      by_cases he : k + n < s.size
      · have hhd := head_drop s k n he
        have HL2 := Lib.hid (letter_any s[k + n])
        cases hl2 : letterC s[k + n] with
        | true =>
          have HV := Lib.hid (nextV_none (a := k) (show nextL (s.data.toList.drop k) = none by
            rw [HDA.out]; exact next_bad c40 c41 hl hd (by rw [← HDA.out, hn]; exact Or.inr (by rw [hhd]; exact hl2))))
          rw [hl2] at HL2
          clear c40 c41 hl hd hn hg hrw hmax hhd hl2
          go_enter Tryd.func57, Tryd.ntmps57
          go_wp2_with fail
          refine (HL.out _).mono ?_
          rintro e w1 ⟨rfl, rfl⟩
          go_wp2_with fail
          refine (HD.out _).mono ?_
          rintro e w1 ⟨rfl, rfl⟩
          go_wp2_with fail
          refine (HRD.out _).mono ?_
          rintro e w1 ⟨rfl, rfl⟩
          go_wp2_with fail
          refine (HG.out _).mono ?_
          rintro e w1 ⟨rfl, rfl⟩
          go_wp2_with fail
          refine (HL2.out _).mono ?_
          rintro e w1 ⟨rfl, rfl⟩
          go_wp2
          go_ret2
          exact ⟨by rw [HV.out]; rfl, rfl⟩
        | false =>
          have HV := Lib.hid (nextV_some (a := k) (show nextL (s.data.toList.drop k) = some (4, n) by
            have h0 := next_num c40 c41 hl hd (r := s.data.toList.drop (k + 1)) (by rw [← HDA.out, hn, hhd, hg]; rintro (h | h); cases h; rw [show ((some s[k + n]).map letterC).getD false = letterC s[k + n] from rfl, hl2] at h; cases h)
            rw [← HDA.out, hn] at h0; exact h0))
          rw [hl2] at HL2
          clear c40 c41 hl hd hn hg hrw hmax hhd hl2
          go_enter Tryd.func57, Tryd.ntmps57
          go_wp2_with fail
          refine (HL.out _).mono ?_
          rintro e w1 ⟨rfl, rfl⟩
          go_wp2_with fail
          refine (HD.out _).mono ?_
          rintro e w1 ⟨rfl, rfl⟩
          go_wp2_with fail
          refine (HRD.out _).mono ?_
          rintro e w1 ⟨rfl, rfl⟩
          go_wp2_with fail
          refine (HG.out _).mono ?_
          rintro e w1 ⟨rfl, rfl⟩
          go_wp2_with fail
          refine (HL2.out _).mono ?_
          rintro e w1 ⟨rfl, rfl⟩
          go_wp2
          go_ret2
          exact ⟨by rw [HV.out]; rfl, rfl⟩
      · have hhd := head_none s k n he
        have HV := Lib.hid (nextV_some (a := k) (show nextL (s.data.toList.drop k) = some (4, n) by
          have h0 := next_num c40 c41 hl hd (r := s.data.toList.drop (k + 1)) (by rw [← HDA.out, hn, hhd, hg]; rintro (h | h); cases h; cases h)
          rw [← HDA.out, hn] at h0; exact h0))
        clear c40 c41 hl hd hn hg hrw hmax hhd
        go_enter Tryd.func57, Tryd.ntmps57
        go_wp2_with fail
        refine (HL.out _).mono ?_
        rintro e w1 ⟨rfl, rfl⟩
        go_wp2_with fail
        refine (HD.out _).mono ?_
        rintro e w1 ⟨rfl, rfl⟩
        go_wp2_with fail
        refine (HRD.out _).mono ?_
        rintro e w1 ⟨rfl, rfl⟩
        go_wp2_with fail
        refine (HG.out _).mono ?_
        rintro e w1 ⟨rfl, rfl⟩
        go_wp2
        go_ret2
        exact ⟨by rw [HV.out]; rfl, rfl⟩
end Go.Proofs.YtdhfbphliejcdaaDoor

namespace Go.Proofs.YtdhfbphliejcdaaDoor
open Go.RowKit

def cells3 : List Tok → List Value
  | [] => []
  | t :: r => .int .i64 t.k :: .string ⟨t.s.toArray⟩ :: .int .i64 t.at_ :: cells3 r
theorem cells3_append : ∀ ps qs : List Tok, cells3 (ps ++ qs) = cells3 ps ++ cells3 qs
  | [], qs => rfl
  | t :: r, qs => by simp [cells3, cells3_append r qs]
theorem cells3_get : ∀ (ps : List Tok) (i : Nat) (h : i < ps.length) (q : Nat), q < 3 → (cells3 ps)[i * 3 + q]? = [Value.int .i64 (ps[i]).k, .string ⟨(ps[i]).s.toArray⟩, .int .i64 (ps[i]).at_][q]?
  | t :: r, 0, _, q, hq => by
    rw [Nat.zero_mul, Nat.zero_add]
    match q, hq with
    | 0, _ => rfl
    | 1, _ => rfl
    | 2, _ => rfl
  | t :: r, i + 1, h, q, hq => by
    have := cells3_get r i (by simpa using h) q hq
    rw [show (i + 1) * 3 + q = (i * 3 + q) + 3 by omega]
    simpa [cells3] using this
/-- A list of tokens that the call has made so far. -/
def Toks (T : TypeId) (B : Nat) (w : World) (v : Value) (ts : List Tok) : Prop := w.ownsRow B T 3 v ts.length (cells3 ts)
theorem toks_nil (T : TypeId) (B : Nat) (w : World) : Toks T B w (.slice none 0 0) [] := ⟨rfl, Or.inl ⟨rfl, rfl⟩⟩
theorem toks_later {T : TypeId} {B : Nat} {w w' : World} {v : Value} {ts : List Tok} (h : Toks T B w v ts) (hb : Below w.heap.size w w') : Toks T B w' v ts := by
  obtain ⟨h1, h2⟩ := h
  refine ⟨h1, ?_⟩
  rcases h2 with h2 | ⟨g, cap, cur, hv, hg, hh, r⟩
  · exact Or.inl h2
  · refine Or.inr ⟨g, cap, cur, hv, hg, ?_, r⟩
    rw [hb.block g ?_]; exact hh
    exact (Array.getElem?_eq_some_iff.1 hh).1
theorem toks_above {T : TypeId} {B : Nat} {w : World} {v : Value} {ts : List Tok} (h : Toks T B w v ts) : ∀ k, v.ownBlock = some k → B ≤ k := by
  intro k hk
  rcases h.2 with ⟨rfl, -⟩ | ⟨g, cap, cur, rfl, hg, -⟩
  · simp [Value.ownBlock] at hk
  · simp [Value.ownBlock] at hk; omega
theorem toks_step {T : TypeId} {B : Nat} {w : World} {v : Value} {ts : List Tok} {t : Tok} (h : w.ownsRow B T 3 v (ts.length + 1) (cells3 ts ++ cells3 [t])) : Toks T B w v (ts ++ [t]) := by
  unfold Toks; rw [cells3_append]; simpa using h
theorem alloc_new3 (w : World) (o : Obj) : (w.alloc o).heap[w.heap.size]? = some o := by
  unfold World.alloc; simp
theorem news_tok (w : World) (t : Tok) (T : TypeId) : ∀ j u, (cells3 [t])[j]? = some u → (w.alloc (.cells #[.int .i64 t.k, .string ⟨t.s.toArray⟩, .int .i64 t.at_] T)).cell? ((⟨w.heap.size, 0, none⟩ : Addr).add j) = some u :=
  World.news_of_block (alloc_new3 w _)
theorem info_tok : (Tryd.prog.info? 88).map (fun i => (i.zero, i.size, i.bytes)) = some (some (.agg #[.int .i64 0, .string ⟨#[]⟩, .int .i64 0]), 3, 32) := by kernel_rfl
theorem tok_parts {i : Option TypeInfo} {z : Value} {n m : Nat} (h : i.map (fun i => (i.zero, i.size, i.bytes)) = some (some z, n, m)) : ∃ i0, i = some i0 ∧ i0.zero = some z ∧ i0.size = n ∧ i0.bytes = m := by
  cases i with
  | none => cases h
  | some i0 => simp at h; exact ⟨i0, rfl, h.1, h.2.1, h.2.2⟩
theorem lexTo_next (ts : List Tok) (t : Tok) (r : List Tok × Option Nat) : lexTo ts (t :: r.1, r.2) = lexTo (ts ++ [t]) r := by simp [lexTo]

/-- What Lex hands back. -/
def lexGives (T : TypeId) (w : World) (R : List Tok × Option Nat) (e : Ending) (w' : World) : Prop :=
  Below w.heap.size w w' ∧ match R.2 with
    | none => ∃ v, Toks T w.heap.size w' v R.1 ∧ e = .returned (.tuple #[v, .int .i64 0, .int .i64 0])
    | some p => e = .returned (.tuple #[.slice none 0 0, .int .i64 2, .int .i64 p])

set_option maxHeartbeats 2000000 in
theorem lex_any (s : ByteArray) (w : World) (hs : s.size ≤ 10000000) :
    Calls Tryd.prog 45 #[.string s] w (lexGives 88 w (lexL s.data.toList 0)) := by
  have hmax : s.size ≤ maxLen := by unfold maxLen; omega
  have HSK := Lib.hid fun k w (h : k ≤ s.size) => skip_any s k w hmax h
  have HNX := Lib.hid fun k w (h : k < s.size) => next_any s k w hmax h
  have hsl : s.data.toList.length = s.size := by simp
  have HSL := Lib.hid hsl
  obtain ⟨R, hR⟩ : ∃ R, lexL s.data.toList 0 = R := ⟨_, rfl⟩
  rw [hR]
  have HRR := Lib.hid hR
  obtain ⟨i0, hi, hz0, hz1, hz2⟩ := tok_parts info_tok
  have HI := Lib.hid (And.intro hi (And.intro hz0 (And.intro hz1 hz2)))
  clear hR hsl hi hz0 hz1 hz2 hmax
  go_enter Tryd.func45, Tryd.ntmps45
  have h00 := HSK.out 0 w (Nat.zero_le _)
  obtain ⟨q0, hq0⟩ : ∃ q, 0 + skipL (s.data.toList.drop 0) = q := ⟨_, rfl⟩
  rw [hq0] at h00
  have HQ0 := Lib.hid hq0
  have H00 := Lib.hid h00
  have hq9 : q0 ≤ s.size := by have := skipL_le _ (s.data.toList.drop 0) (Nat.le_refl _); rw [List.length_drop, HSL.out] at this; omega
  clear hq0 h00
  go_wp2_with fail
  refine (H00.out).mono ?_
  rintro e w1 ⟨rfl, rfl⟩
  go_wp2_with fail
  go_loopw [5, 6] (fun v i wr => ∃ (p q : Nat) (ts : List Tok), q ≤ s.size ∧ ts.length ≤ q ∧ i = .int .i64 q ∧ Hid (p + skipL (s.data.toList.drop p) = q) ∧ Hid (lexTo ts (lexL s.data.toList p) = R) ∧ Hid (Toks 88 w1.heap.size wr v ts) ∧ Below w1.heap.size w1 wr) (fun _ i _ => s.size - (intOf i).toNat)
  case atStart => exact ⟨0, q0, [], hq9, Nat.zero_le _, rfl, HQ0, by rw [Hid, HRR.out]; simp [lexTo], toks_nil _ _ _, Below.refl _ _⟩
  case round =>
    obtain ⟨p, q, ts, hq, htq, rfl, hp, hR, hT, hB⟩ := hrel
    by_cases hlt : q < s.size
    · have HN := Lib.hid (HNX.out q wr hlt)
      cases hn : nextL (s.data.toList.drop q) with
      | none =>
        have hf := lexL_fault hp.out (by rw [HSL.out]; exact hlt) hn
        have HF := Lib.hid (show R = (ts, some q) by rw [← hR.out, hf]; simp [lexTo])
        rw [nextV_none hn] at HN
        have HB := Lib.hid hB
        clear hf hn hp hR hT hB
        go_wp2_with fail
        refine (HN.out).mono ?_
        rintro e w2 ⟨rfl, rfl⟩
        go_wp2
        go_ret3
        exact ⟨HB.out, by rw [HF.out]; rfl⟩
      | some kn =>
        obtain ⟨k, n⟩ := kn
        have hrg := nextL_range hn
        rw [List.length_drop, HSL.out] at hrg
        obtain ⟨hn1, hn2, hk1, hk4⟩ := hrg
        have HNE := Lib.hid (lexL_next hp.out (by rw [HSL.out]; exact hlt) hn)
        rw [nextV_some hn] at HN
        have k0 : ((k : Int) == 0) = false := by simp; omega
        obtain ⟨c, hc⟩ : ∃ c, (s.data.toList.drop q).take n = c := ⟨_, rfl⟩
        have hsli : ∀ w', (Instr.slice 9 (.string s) (some (.int .i64 (q : Int))) (some (.int .i64 ((q : Int) + (n : Int)))) none).run Tryd.prog w' = .ok (.string ⟨c.toArray⟩) w' := fun w' => by
          rw [slice_at w' s q n Tryd.underlying9 (by omega), Lib.extract_eq, Nat.add_sub_cancel_left, hc]
        rw [hc] at HNE
        have HR2 := Lib.hid (show lexTo (ts ++ [⟨k, c, q⟩]) (lexL s.data.toList (q + n)) = R by rw [← hR.out, HNE.out]; exact (lexTo_next ts ⟨k, c, q⟩ _).symm)
        obtain ⟨q2, hq2⟩ : ∃ q2, q + n + skipL (s.data.toList.drop (q + n)) = q2 := ⟨_, rfl⟩
        have hq29 : q2 ≤ s.size := by have := skipL_le _ (s.data.toList.drop (q + n)) (Nat.le_refl _); rw [List.length_drop, HSL.out] at this; omega
        have hqn : q + n ≤ q2 := by omega
        have HSK2 := Lib.hid fun w => HSK.out (q + n) w (by omega)
        rw [hq2] at HSK2
        have HQ2 := Lib.hid hq2
        have HB := Lib.hid hB
        have hB2 := hB.size
        clear hc HNE hp hR hq2 hn hB
        go_wp2_with fail
        refine (HN.out).mono ?_
        rintro e w2 ⟨rfl, rfl⟩
        go_wp2_with (at_builtin; refine wpList_append_lies _ rfl _ _ 80 rfl w1.heap.size 88 i0 _ 3 32 (by kernel_rfl) HI.out.1 HI.out.2.1 HI.out.2.2.1 HI.out.2.2.2 rfl (by decide) _ ts.length (cells3 ts) rfl (toks_later hT.out ((Below.refl _ _).alloc (Nat.le_refl _) _)) ⟨w2.heap.size, 0, none⟩ 1 1 (cells3 [⟨k, c, q⟩]) rfl rfl ?news ?one (by decide) ?max ?bytes ?base _ rfl ?next)
        case news => exact news_tok _ _ _
        case one => intro v hv; simp [cells3] at hv; rcases hv with rfl | rfl | rfl <;> rfl
        case max => unfold maxLen; omega
        case bytes => omega
        case base => simp; omega
        case next =>
          intro g cap3 w3 hown hgrow hat _
          have HT2 := Lib.hid (toks_step hown)
          have HB2 := Lib.hid ((HB.out.alloc hB2 _).grown hgrow (by simp; omega) (toks_above hT.out))
          clear hown hgrow hat
          go_wp2_with fail
          refine (HSK2.out _).mono ?_
          rintro e w4 ⟨rfl, rfl⟩
          go_wp2_with fail
          go_roundw
          case rel => exact ⟨q + n, q2, ts ++ [⟨k, c, q⟩], hq29, by simp; omega, rfl, HQ2.out, HR2, HT2, HB2.out⟩
          case measure => simp [intOf]; omega
    · have : q = s.size := by omega
      subst this
      have hf := lexL_end (l := s.data.toList) (p := p) (by rw [HSL.out, hp.out]; omega)
      have HF := Lib.hid (show R = (ts, none) by rw [← hR.out, hf]; simp [lexTo])
      have HB := Lib.hid hB
      have HT := Lib.hid hT.out
      clear hf hp hR hT hB
      go_wp2
      go_ret3
      exact ⟨HB.out, by rw [HF.out]; exact ⟨_, HT.out, rfl⟩⟩
end Go.Proofs.YtdhfbphliejcdaaDoor

namespace Go.Proofs.YtdhfbphliejcdaaDoor
open Go.RowKit

/-- A term: its kind, its three numbers, its kids. -/
inductive Tm where
  | mk (k i j n : Int) (l : List Tm)

namespace Tm
def k : Tm → Int | .mk k _ _ _ _ => k
def i : Tm → Int | .mk _ i _ _ _ => i
def j : Tm → Int | .mk _ _ j _ _ => j
def n : Tm → Int | .mk _ _ _ n _ => n
def kids : Tm → List Tm | .mk _ _ _ _ l => l
theorem eta (t : Tm) : Tm.mk t.k t.i t.j t.n t.kids = t := by cases t; rfl

theorem ind {P : Tm → Prop} (h : ∀ t, (∀ x ∈ t.kids, P x) → P t) : ∀ t, P t
  | .mk k i j n l => h (.mk k i j n l) (fun x (_ : x ∈ l) => ind h x)
end Tm

def I64 (x : Int) : Prop := -9223372036854775808 ≤ x ∧ x ≤ 9223372036854775807
def Tm.fine (t : Tm) : Prop := I64 t.k ∧ I64 t.i ∧ I64 t.j ∧ I64 t.n

/-- A term by value: s is the slice of its kids. -/
abbrev tv (t : Tm) (s : Value) : Value := .agg #[.int .i64 t.k, .int .i64 t.i, .int .i64 t.j, .int .i64 t.n, s]

/-- The five cells of a term at a place. -/
structure Node (w : World) (b o : Nat) (t : Tm) (s : Value) : Prop where
  c0 : w.cell? ⟨b, o, none⟩ = some (.int .i64 t.k)
  c1 : w.cell? ⟨b, o + 1, none⟩ = some (.int .i64 t.i)
  c2 : w.cell? ⟨b, o + 2, none⟩ = some (.int .i64 t.j)
  c3 : w.cell? ⟨b, o + 3, none⟩ = some (.int .i64 t.n)
  c4 : w.cell? ⟨b, o + 4, none⟩ = some s

/-- Terms that lie behind a slice. -/
inductive Lies (w : World) : List Tm → Value → Prop
  | mk (l : List Tm) (a : Option Addr) (cap : Nat) (S : Nat → Value) (hc : l.length ≤ cap) (hm : cap ≤ maxLen) (hf : ∀ x ∈ l, x.fine)
      (hn : ∀ i (h : i < l.length), ∃ b o, a = some ⟨b, o, none⟩ ∧ Node w b (o + i * 5) l[i] (S i)) (hk : ∀ i (h : i < l.length), Lies w (l[i]).kids (S i)) : Lies w l (.slice a l.length cap)

theorem Lies.out {w : World} {l : List Tm} {s : Value} (h : Lies w l s) : ∃ (a : Option Addr) (cap : Nat) (S : Nat → Value), s = .slice a l.length cap ∧ l.length ≤ cap ∧ cap ≤ maxLen ∧ (∀ x ∈ l, x.fine) ∧
    (∀ i (h : i < l.length), ∃ b o, a = some ⟨b, o, none⟩ ∧ Node w b (o + i * 5) l[i] (S i)) ∧ (∀ i (h : i < l.length), Lies w (l[i]).kids (S i)) := by
  cases h with
  | mk l a cap S hc hm hf hn hk => exact ⟨a, cap, S, rfl, hc, hm, hf, hn, hk⟩

theorem Node.lt {w : World} {b o : Nat} {t : Tm} {s : Value} (h : Node w b o t s) : b < w.heap.size := World.block_lt_of_cell? _ _ h.c0

theorem Node.below {w w' : World} {b o B : Nat} {t : Tm} {s : Value} (h : Node w b o t s) (hb : Below B w w') (hB : b < B) : Node w' b o t s :=
  ⟨(hb.cell (by exact hB)).trans h.c0, (hb.cell (by exact hB)).trans h.c1, (hb.cell (by exact hB)).trans h.c2, (hb.cell (by exact hB)).trans h.c3, (hb.cell (by exact hB)).trans h.c4⟩

/-- What lies in a world lies in every later one. -/
theorem Lies.keep {w w' : World} {l : List Tm} {s : Value} (h : Lies w l s) (hb : Below w.heap.size w w') : Lies w' l s := by
  induction h with
  | mk l a cap S hc hm hf hn hk ih =>
    exact .mk l a cap S hc hm hf (fun i hi => by obtain ⟨b, o, ha, hx⟩ := hn i hi; exact ⟨b, o, ha, hx.below hb hx.lt⟩) ih

end Go.Proofs.YtdhfbphliejcdaaDoor

namespace Go.Proofs.YtdhfbphliejcdaaDoor
open Go.RowKit

/-- A new block of five cells, asked for later. -/
theorem box_cells {w wr : World} {v0 v1 v2 v3 v4 : Value} {T : TypeId} (h : Below (w.heap.size + 1) (w.alloc (.cells #[v0, v1, v2, v3, v4] T)) wr) :
    wr.cell? ⟨w.heap.size, 0, none⟩ = some v0 ∧ wr.cell? ⟨w.heap.size, 1, none⟩ = some v1 ∧ wr.cell? ⟨w.heap.size, 2, none⟩ = some v2 ∧ wr.cell? ⟨w.heap.size, 3, none⟩ = some v3 ∧ wr.cell? ⟨w.heap.size, 4, none⟩ = some v4 := by
  have key : ∀ o, wr.cell? ⟨w.heap.size, o, none⟩ = (#[v0, v1, v2, v3, v4] : Array Value)[o]? := fun o => by
    rw [h.cell (p := ⟨w.heap.size, o, none⟩) (by exact Nat.lt_succ_self _), World.cell?_alloc_at _ _ _ _ rfl]
  exact ⟨by rw [key]; rfl, by rw [key]; rfl, by rw [key]; rfl, by rw [key]; rfl, by rw [key]; rfl⟩

/-- What is new beside a new block is new. -/
theorem below_of_box {w wr : World} {o : Obj} (h : Below (w.heap.size + 1) (w.alloc o) wr) : Below w.heap.size w wr :=
  ((Below.refl _ _).alloc (Nat.le_refl _) _).trans (h.mono (Nat.le_succ _))

/-- A call in a later world: it leaves alone what was there. -/
theorem below_call {B : Nat} {a w w' : World} (h : Below B a w) (h' : Below w.heap.size w w') (hB : B ≤ w.heap.size) : Below B a w' := h.trans (h'.mono hB)

end Go.Proofs.YtdhfbphliejcdaaDoor

namespace Go.Proofs.YtdhfbphliejcdaaDoor
open Go.RowKit

/-- Terms behind a slice, in blocks of which P speaks. -/
inductive LiesP (w : World) (P : Nat → Prop) : List Tm → Value → Prop
  | mk (l : List Tm) (a : Option Addr) (cap : Nat) (S : Nat → Value) (hc : l.length ≤ cap) (hm : cap ≤ maxLen) (hf : ∀ x ∈ l, x.fine)
      (hn : ∀ i (h : i < l.length), ∃ b, a = some ⟨b, 0, none⟩ ∧ P b ∧ Node w b (i * 5) l[i] (S i)) (hk : ∀ i (h : i < l.length), LiesP w P (l[i]).kids (S i)) : LiesP w P l (.slice a l.length cap)

theorem LiesP.lies {w : World} {P : Nat → Prop} {l : List Tm} {s : Value} (h : LiesP w P l s) : Lies w l s := by
  induction h with
  | mk l a cap S hc hm hf hn hk ih => exact .mk l a cap S hc hm hf (fun i hi => by obtain ⟨b, ha, _, hx⟩ := hn i hi; exact ⟨b, 0, ha, by rw [Nat.zero_add]; exact hx⟩) ih

theorem Node.same {w w' : World} {b o : Nat} {t : Tm} {s : Value} (h : Node w b o t s) (hb : w'.heap[b]? = w.heap[b]?) : Node w' b o t s :=
  ⟨(World.cell?_of_block (a := ⟨b, o, none⟩) hb).trans h.c0, (World.cell?_of_block (a := ⟨b, o + 1, none⟩) hb).trans h.c1, (World.cell?_of_block (a := ⟨b, o + 2, none⟩) hb).trans h.c2,
    (World.cell?_of_block (a := ⟨b, o + 3, none⟩) hb).trans h.c3, (World.cell?_of_block (a := ⟨b, o + 4, none⟩) hb).trans h.c4⟩

/-- They lie in a later world where their blocks are as they were; P may be turned on the way. -/
theorem LiesP.keep {w w' : World} {P Q : Nat → Prop} {l : List Tm} {s : Value} (h : LiesP w P l s) (hb : ∀ b, P b → b < w.heap.size → w'.heap[b]? = w.heap[b]?) (hq : ∀ b, P b → b < w.heap.size → Q b) : LiesP w' Q l s := by
  induction h with
  | mk l a cap S hc hm hf hn hk ih =>
    exact .mk l a cap S hc hm hf (fun i hi => by obtain ⟨b, ha, hp, hx⟩ := hn i hi; exact ⟨b, ha, hq b hp hx.lt, hx.same (hb b hp hx.lt)⟩) ih

def cells5 : List (Tm × Value) → List Value
  | [] => []
  | (t, s) :: r => .int .i64 t.k :: .int .i64 t.i :: .int .i64 t.j :: .int .i64 t.n :: s :: cells5 r

theorem cells5_append : ∀ ps qs : List (Tm × Value), cells5 (ps ++ qs) = cells5 ps ++ cells5 qs
  | [], qs => rfl
  | (t, s) :: r, qs => by simp [cells5, cells5_append r qs]
theorem cells5_get : ∀ (ps : List (Tm × Value)) (i : Nat) (h : i < ps.length) (q : Nat), q < 5 → (cells5 ps)[i * 5 + q]? = [Value.int .i64 (ps[i]).1.k, .int .i64 (ps[i]).1.i, .int .i64 (ps[i]).1.j, .int .i64 (ps[i]).1.n, (ps[i]).2][q]?
  | (t, s) :: r, 0, _, q, hq => by
    rw [Nat.zero_mul, Nat.zero_add]
    match q, hq with
    | 0, _ => rfl
    | 1, _ => rfl
    | 2, _ => rfl
    | 3, _ => rfl
    | 4, _ => rfl
  | (t, s) :: r, i + 1, h, q, hq => by
    have := cells5_get r i (by simpa using h) q hq
    rw [show (i + 1) * 5 + q = (i * 5 + q) + 5 by omega]
    simpa [cells5] using this

theorem alloc_new (w : World) (o : Obj) : (w.alloc o).heap[w.heap.size]? = some o := by
  unfold World.alloc; simp

/-- The cells of a term that was just laid into a block of its own. -/
theorem news_new (w : World) (t : Tm) (s : Value) (T : TypeId) : ∀ j u, (cells5 [(t, s)])[j]? = some u → (w.alloc (.cells #[.int .i64 t.k, .int .i64 t.i, .int .i64 t.j, .int .i64 t.n, s] T)).cell? ((⟨w.heap.size, 0, none⟩ : Addr).add j) = some u :=
  World.news_of_block (alloc_new w _)

/-- A term is stored into a block of five cells. -/
theorem five_set {w : World} {g : Nat} {T : TypeId} {z0 z1 z2 z3 z4 v0 v1 v2 v3 v4 : Value} (h : w.heap[g]? = some (.cells #[z0, z1, z2, z3, z4] T (0, 0))) :
    (((((w.setCell ⟨g, 0, none⟩ v0).setCell ⟨g, 1, none⟩ v1).setCell ⟨g, 2, none⟩ v2).setCell ⟨g, 3, none⟩ v3).setCell ⟨g, 4, none⟩ v4).heap[g]? = some (.cells #[v0, v1, v2, v3, v4] T (0, 0)) :=
  heap_setCell_same _ _ _ _ _ _ (heap_setCell_same _ _ _ _ _ _ (heap_setCell_same _ _ _ _ _ _ (heap_setCell_same _ _ _ _ _ _ (heap_setCell_same _ _ _ _ _ _ h))))

end Go.Proofs.YtdhfbphliejcdaaDoor

namespace Go.Proofs.YtdhfbphliejcdaaDoor
open Go.RowKit

/-- What a parser leaves by. -/
def faultP (at_ : Nat) : Ending := .panicked [{ v := .iface 70 (.agg #[.int .i64 at_]), recovered := false }]
/-- Tokens behind a slice, wherever they lie. -/
def TLies (w : World) (ts : List Tok) (v : Value) : Prop := ∃ a cap, v = .slice a ts.length cap ∧ ts.length ≤ cap ∧ cap ≤ maxLen ∧ (ts = [] ∨ ∃ g o cs fz, a = some ⟨g, o, none⟩ ∧ w.heap[g]? = some (Obj.cells cs 88 fz) ∧ (cs.toList.drop o).take (ts.length * 3) = cells3 ts)
theorem TLies.keep {w w' : World} {ts : List Tok} {v : Value} (h : TLies w ts v) (hk : ∀ (g : Nat) (cs : Array Value) (fz : Nat × Nat), w.heap[g]? = some (Obj.cells cs 88 fz) → w'.heap[g]? = some (Obj.cells cs 88 fz)) : TLies w' ts v := by
  obtain ⟨a, cap, hv, h1, h2, h3⟩ := h
  refine ⟨a, cap, hv, h1, h2, ?_⟩
  rcases h3 with h3 | ⟨g, o, cs, fz, h4, h5, h6⟩
  · exact Or.inl h3
  · exact Or.inr ⟨g, o, cs, fz, h4, hk _ _ _ h5, h6⟩
theorem at_drop {α : Type} {l m : List α} {o n : Nat} (h : (l.drop o).take n = m) (q : Nat) (hq : q < m.length) : l[o + q]? = m[q]? := by
  have hn : q < n := by
    have := congrArg List.length h
    simp at this
    omega
  rw [← h, List.getElem?_take, if_pos hn, List.getElem?_drop]
theorem TLies.cons {w : World} {t : Tok} {r : List Tok} {v : Value} (h : TLies w (t :: r) v) : ∃ g o cap, v = .slice (some ⟨g, o, none⟩) (r.length + 1) cap ∧ r.length + 1 ≤ cap ∧ cap ≤ maxLen ∧
    w.cell? ⟨g, o, none⟩ = some (.int .i64 t.k) ∧ w.cell? ⟨g, o + 1, none⟩ = some (.string ⟨t.s.toArray⟩) ∧ w.cell? ⟨g, o + 2, none⟩ = some (.int .i64 t.at_) ∧ g < w.heap.size ∧ TLies w r (.slice (some ⟨g, o + 3, none⟩) r.length (cap - 1)) := by
  obtain ⟨a, cap, hv, h1, h2, h3⟩ := h
  rcases h3 with h3 | ⟨g, o, cs, fz, rfl, h5, h6⟩
  · cases h3
  · simp only [List.length_cons] at h1 h6 hv
    have e0 := at_drop h6 0 (by simp [cells3])
    have e1 := at_drop h6 1 (by simp [cells3])
    have e2 := at_drop h6 2 (by simp [cells3])
    simp [cells3] at e0 e1 e2
    refine ⟨g, o, cap, hv, h1, h2, by rw [Lib.cell_of_heap h5]; exact e0, by rw [Lib.cell_of_heap h5]; exact e1, by rw [Lib.cell_of_heap h5]; exact e2, (Array.getElem?_eq_some_iff.1 h5).1, ?_⟩
    refine ⟨some ⟨g, o + 3, none⟩, cap - 1, rfl, by omega, by omega, Or.inr ⟨g, o + 3, cs, fz, rfl, h5, ?_⟩⟩
    have h7 : ((cs.toList.drop o).take ((r.length + 1) * 3)).drop 3 = (cells3 (t :: r)).drop 3 := by rw [h6]
    rw [List.drop_take, List.drop_drop] at h7
    rw [show (r.length + 1) * 3 - 3 = r.length * 3 by omega] at h7
    exact h7
/-- The block of a stream. -/
def SAt (w : World) (S : Nat) (v : Value) (E : Nat) (br : Bool) : Prop := w.heap[S]? = some (.cells #[v, .int .i64 E, .bool br] 84 (0, 0))
def hereT (E : Nat) : List Tok → Nat
  | [] => E
  | t :: _ => t.at_
def takeT (E : Nat) (k : Nat) : List Tok → Except Nat (Tok × List Tok)
  | [] => .error E
  | t :: r => if t.k = k then .ok (t, r) else .error t.at_
theorem grown_at {w w1 : World} {S : Nat} (h : w.grownBy w1 none) (i : Nat) (v : Value) : w.grownBy (w1.setCell ⟨S, i, none⟩ v) (some S) :=
  ⟨h.os, h.tape, h.output, by simpa using h.size, fun k hk hne => (heap_setCell_other w1 ⟨S, i, none⟩ k v (by intro e; exact hne (by rw [e]))).trans (h.block k hk (by simp))⟩

theorem fail_any (at_ : Nat) (w : World) : Calls Tryd.prog 47 #[.int .i64 at_] w fun e w' => e = faultP at_ ∧ w = w' := by
  go_enter Tryd.func47, Tryd.ntmps47
  go_wp2
  exact ⟨rfl, rfl, rfl⟩
theorem next_tok (S : Nat) (v : Value) (E : Nat) (br : Bool) (ts : List Tok) (k : Nat) (w : World) (hS : SAt w S v E br) (hv : TLies w ts v) : Calls Tryd.prog 48 #[.pointer (some ⟨S, 0, none⟩), .int .i64 k] w fun e w' => e = .returned (.bool ((ts.head?.map fun t => t.k == k).getD false)) ∧ w = w' := by
  match ts, hv with
  | [], ⟨a, cap, hv, _⟩ =>
    subst hv
    have c0 : w.cell? ⟨S, 0, none⟩ = some (.slice a 0 cap) := by rw [Lib.cell_of_heap hS]; rfl
    go_enter Tryd.func48, Tryd.ntmps48
    go_wp2
    go_ret
    exact ⟨rfl, rfl⟩
  | t :: r, hv =>
    obtain ⟨g, o, cap, rfl, hc, hm, x0, x1, x2, hg, hr⟩ := hv.cons
    have c0 : w.cell? ⟨S, 0, none⟩ = some (.slice (some ⟨g, o, none⟩) (r.length + 1) cap) := by rw [Lib.cell_of_heap hS]; rfl
    have hkk : ((t.k : Int) == (k : Int)) = (t.k == k) := by rw [Bool.eq_iff_iff, beq_iff_eq, beq_iff_eq]; omega
    clear hr
    go_enter Tryd.func48, Tryd.ntmps48
    go_wp2
    go_ret
    exact ⟨rfl, rfl⟩
theorem here_any (S : Nat) (v : Value) (E : Nat) (br : Bool) (ts : List Tok) (w : World) (hS : SAt w S v E br) (hv : TLies w ts v) : Calls Tryd.prog 50 #[.pointer (some ⟨S, 0, none⟩)] w fun e w' => e = .returned (.int .i64 (hereT E ts)) ∧ w = w' := by
  have c1 : w.cell? ⟨S, 1, none⟩ = some (.int .i64 E) := by rw [Lib.cell_of_heap hS]; rfl
  match ts, hv with
  | [], ⟨a, cap, hv, _⟩ =>
    subst hv
    have c0 : w.cell? ⟨S, 0, none⟩ = some (.slice a 0 cap) := by rw [Lib.cell_of_heap hS]; rfl
    go_enter Tryd.func50, Tryd.ntmps50
    go_wp2
    go_ret
    exact ⟨rfl, rfl⟩
  | t :: r, hv =>
    obtain ⟨g, o, cap, rfl, hc, hm, x0, x1, x2, hg, hr⟩ := hv.cons
    have c0 : w.cell? ⟨S, 0, none⟩ = some (.slice (some ⟨g, o, none⟩) (r.length + 1) cap) := by rw [Lib.cell_of_heap hS]; rfl
    clear hr
    go_enter Tryd.func50, Tryd.ntmps50
    go_wp2
    go_ret
    exact ⟨rfl, rfl⟩
/-- What Take gives. -/
def TakeGives (S E : Nat) (br : Bool) (w : World) (x : Except Nat (Tok × List Tok)) (e : Ending) (w' : World) : Prop :=
  match x with
  | .error a => e = faultP a ∧ w.grownBy w' (some S)
  | .ok (t, r) => e = .returned (.agg #[.int .i64 t.k, .string ⟨t.s.toArray⟩, .int .i64 t.at_]) ∧ w.grownBy w' (some S) ∧ ∃ v', SAt w' S v' E br ∧ TLies w' r v'
theorem under_tok : ∃ d, Tryd.prog.underlying 88 = some d ∧ (match d with | .struct _ | .array _ _ => true | _ => false) = true := by
  have h : (Tryd.prog.underlying 88).map (fun d => match d with | .struct _ | .array _ _ => true | _ => false) = some true := by kernel_rfl
  cases e : Tryd.prog.underlying 88 with
  | none => rw [e] at h; cases h
  | some d => rw [e] at h; exact ⟨d, rfl, Option.some.inj h⟩
theorem size_tok : (Tryd.prog.info? 88).map (·.size) = some 3 := by kernel_rfl
theorem tk_ne : (84 : TypeId) ≠ 88 := by decide
theorem SAt.lt {w : World} {S : Nat} {v : Value} {E : Nat} {br : Bool} (h : SAt w S v E br) : S < w.heap.size := (Array.getElem?_eq_some_iff.1 h).1
theorem TLies.grown {w w' : World} {S : Nat} {v v0 : Value} {E : Nat} {br : Bool} {ts : List Tok} (h : TLies w ts v) (hS : SAt w S v0 E br) (hg : w.grownBy w' (some S)) : TLies w' ts v :=
  h.keep fun g cs fz e => (hg.block g (Array.getElem?_eq_some_iff.1 e).1 (by intro e2; obtain rfl : g = S := Option.some.inj e2; unfold SAt at hS; rw [hS] at e; injection e with e; injection e with _ e3 _; exact tk_ne e3)).trans e
theorem take_heap (w : World) (S : Nat) (v' : Value) (O O2 : Obj) : (((w.setCell ⟨S, 0, none⟩ v').alloc O).alloc O2).heap[w.heap.size]? = some O := by
  rw [Lib.alloc_old _ _ _ (by simp)]
  have hs : (w.setCell ⟨S, 0, none⟩ v').heap.size = w.heap.size := by simp
  rw [← hs]; exact alloc_new3 _ _
theorem take_grown (w : World) (S : Nat) (v' : Value) (O O2 : Obj) : w.grownBy (((w.setCell ⟨S, 0, none⟩ v').alloc O).alloc O2) (some S) :=
  (grown_at (⟨rfl, rfl, rfl, Nat.le_refl _, fun _ _ _ => rfl⟩ : w.grownBy w none) 0 v').trans ((World.grownBy_alloc _ O (some S)).trans (World.grownBy_alloc _ O2 (some S)))
theorem take_sat {w : World} {S : Nat} {v : Value} {E : Nat} {br : Bool} (h : SAt w S v E br) (v' : Value) (O O2 : Obj) : SAt (((w.setCell ⟨S, 0, none⟩ v').alloc O).alloc O2) S v' E br := by
  have hlt := h.lt
  unfold SAt
  rw [Lib.alloc_old _ _ _ (by simp; omega), Lib.alloc_old _ _ _ (by simpa using hlt)]
  exact heap_setCell_same w S 0 _ _ _ h
theorem take_lies {w : World} {S : Nat} {v : Value} {E : Nat} {br : Bool} {r : List Tok} {v1 : Value} (h : SAt w S v E br) (hr : TLies w r v1) (v' : Value) (O O2 : Obj) : TLies (((w.setCell ⟨S, 0, none⟩ v').alloc O).alloc O2) r v1 := hr.grown h (take_grown w S v' O O2)
set_option maxHeartbeats 1000000 in
set_option maxRecDepth 20000 in
theorem take_any (S : Nat) (v : Value) (E : Nat) (br : Bool) (ts : List Tok) (k : Nat) (w : World) (hS : SAt w S v E br) (hv : TLies w ts v) : Calls Tryd.prog 46 #[.pointer (some ⟨S, 0, none⟩), .int .i64 k] w (TakeGives S E br w (takeT E k ts)) := by
  have hlt := hS.lt
  have HGA := Lib.hid (World.grownBy_alloc w (.cells #[.int .i64 0, .string ⟨#[]⟩, .int .i64 0] 88) none)
  have HSA := Lib.hid (show SAt (w.alloc (.cells #[.int .i64 0, .string ⟨#[]⟩, .int .i64 0] 88)) S v E br from (Lib.alloc_old _ _ _ hlt).trans hS)
  have HVA := Lib.hid (hv.grown hS (World.grownBy_alloc w (.cells #[.int .i64 0, .string ⟨#[]⟩, .int .i64 0] 88) (some S)))
  match ts, hv, HVA with
  | [], hv, HVA =>
    have hk : takeT E k [] = .error E := rfl
    rw [hk]
    clear hv hS
    go_enter Tryd.func46, Tryd.ntmps46
    go_wp2_with fail
    refine (next_tok _ _ _ _ _ _ _ HSA.out HVA.out).mono ?_
    rintro e w1 ⟨rfl, rfl⟩
    go_wp2_with fail
    refine (here_any _ _ _ _ _ _ HSA.out HVA.out).mono ?_
    rintro e w1 ⟨rfl, rfl⟩
    go_wp2_with fail
    refine (fail_any _ _).mono ?_
    rintro e w1 ⟨rfl, rfl⟩
    unfold faultP
    go_wp2
    exact ⟨rfl, rfl, World.grownBy_alloc _ _ _⟩
  | t :: r, hv, HVA =>
    by_cases hk : t.k = k
    · have hk1 : takeT E k (t :: r) = .ok (t, r) := if_pos hk
      rw [hk1]
      have hkb : ((t :: r).head?.map fun t => t.k == k).getD false = true := by simpa using hk
      have HKB := Lib.hid hkb
      obtain ⟨g, o, cap, rfl, hc, hm, x0, x1, x2, hg, hr⟩ := HVA.out.cons
      have c0 : (w.alloc (.cells #[.int .i64 0, .string ⟨#[]⟩, .int .i64 0] 88)).cell? ⟨S, 0, none⟩ = some (.slice (some ⟨g, o, none⟩) (r.length + 1) cap) := by rw [Lib.cell_of_heap HSA.out]; rfl
      have HS := Lib.hid hS
      have HV := Lib.hid hv
      have HR0 := Lib.hid (show TLies w r (.slice (some ⟨g, o + 3, none⟩) r.length (cap - 1)) from by obtain ⟨g', o', cap', e, _, _, _, _, _, _, hq⟩ := hv.cons; simp only [Value.slice.injEq, Option.some.injEq, Addr.mk.injEq, and_true] at e; obtain ⟨⟨rfl, rfl⟩, -, rfl⟩ := e; exact hq)
      have f0 : w.frozen? ⟨S, 0, none⟩ = false := Lib.frozen_of_heap hS 0
      obtain ⟨du, hu1, hu2⟩ := under_tok
      unfold maxLen at hm
      clear hv hS hk hkb hr hk1
      go_enter Tryd.func46, Tryd.ntmps46
      go_wp2_with fail
      refine (next_tok _ _ _ _ _ _ _ HSA.out HVA.out).mono ?_
      rintro e w1 ⟨rfl, rfl⟩
      rw [HKB.out]
      rcases Nat.lt_or_ge 1 cap with hcap | hcap
      · go_wp2_with fail
        refine bodyPost_ret (results_cell_row rfl _ _ w.heap.size _ _ _ du rfl (take_heap _ _ _ _ _) hu1 (by cases du <;> first | rfl | exact hu2) size_tok) rfl ?_
        exact ⟨rfl, take_grown _ _ _ _ _, _, take_sat HS.out _ _ _, take_lies HS.out (HR0.out) _ _ _⟩
      · have hcap1 : cap = 1 := by omega
        have hr0 : r = [] := List.eq_nil_of_length_eq_zero (by omega)
        subst hcap1 hr0
        go_wp2_with fail
        refine bodyPost_ret (results_cell_row rfl _ _ w.heap.size _ _ _ du rfl (take_heap _ _ _ _ _) hu1 (by cases du <;> first | rfl | exact hu2) size_tok) rfl ?_
        exact ⟨rfl, take_grown _ _ _ _ _, _, take_sat HS.out _ _ _, take_lies HS.out (⟨_, _, rfl, Nat.le_refl _, Nat.zero_le _, Or.inl rfl⟩) _ _ _⟩
    · have hk1 : takeT E k (t :: r) = .error t.at_ := if_neg hk
      rw [hk1]
      have hkb : ((t :: r).head?.map fun t => t.k == k).getD false = false := by simpa using hk
      have HKB := Lib.hid hkb
      clear hv hS hk hkb
      go_enter Tryd.func46, Tryd.ntmps46
      go_wp2_with fail
      refine (next_tok _ _ _ _ _ _ _ HSA.out HVA.out).mono ?_
      rintro e w1 ⟨rfl, rfl⟩
      rw [HKB.out]
      go_wp2_with fail
      refine (here_any _ _ _ _ _ _ HSA.out HVA.out).mono ?_
      rintro e w1 ⟨rfl, rfl⟩
      go_wp2_with fail
      refine (fail_any _ _).mono ?_
      rintro e w1 ⟨rfl, rfl⟩
      unfold faultP
      go_wp2
      exact ⟨rfl, rfl, World.grownBy_alloc _ _ _⟩
end Go.Proofs.YtdhfbphliejcdaaDoor

namespace Go.Proofs.YtdhfbphliejcdaaDoor

/-- The first place of a text in a list. -/
def idxL (x : List UInt8) : List (List UInt8) → Option Nat
  | [] => none
  | y :: r => if y = x then some 0 else (idxL x r).map (· + 1)
theorem idxL_lt {x : List UInt8} : ∀ {l : List (List UInt8)} {q : Nat}, idxL x l = some q → q < l.length
  | [], q, h => by cases h
  | y :: r, q, h => by
    unfold idxL at h
    split at h
    · obtain rfl := Option.some.inj h; simp
    · obtain ⟨p, hp, rfl⟩ := Option.map_eq_some_iff.1 h
      have := idxL_lt hp
      simp; omega
abbrev Names := List (List UInt8)
/-- What is left is shorter. -/
theorem takeT_len {E k : Nat} {ts r : List Tok} {t : Tok} (h : takeT E k ts = .ok (t, r)) : ts.length = r.length + 1 := by
  unfold takeT at h
  split at h
  · cases h
  · split at h
    · cases h; rfl
    · cases h
theorem takeT_eq {E k : Nat} {ts r : List Tok} {t : Tok} (h : takeT E k ts = .ok (t, r)) : ts = t :: r ∧ t.k = k := by
  unfold takeT at h
  split at h
  · cases h
  · split at h
    · rename_i hk; cases h; exact ⟨rfl, hk⟩
    · cases h
end Go.Proofs.YtdhfbphliejcdaaDoor

namespace Go.Proofs.YtdhfbphliejcdaaDoor
open Go.RowKit Go.Maps Go.ChangeShapes

/-- The constants of a reading: where its blocks lie, the end of the text, the levels, the outer names. -/
structure RC where
  B : Nat
  S : Nat
  R : Nat
  M : Nat
  E : Nat
  br : Bool
  i : Int
  j : Int
  out : Names
  ov : Value
  K : Nat
/-- Texts behind a slice, below B. -/
def TxLies (B : Nat) (w : World) (l : Names) (v : Value) : Prop := ∃ a cap, v = .slice a l.length cap ∧ l.length ≤ cap ∧ cap ≤ maxLen ∧ ∀ q (h : q < l.length), ∃ g o, a = some ⟨g, o, none⟩ ∧ g < B ∧ w.cell? ⟨g, o + q, none⟩ = some (.string ⟨(l[q]).toArray⟩)
theorem TxLies.keep {B : Nat} {w w' : World} {l : Names} {v : Value} (h : TxLies B w l v) (hb : Below B w w') : TxLies B w' l v := by
  obtain ⟨a, cap, h1, h2, h3, h4⟩ := h
  exact ⟨a, cap, h1, h2, h3, fun q hq => by obtain ⟨g, o, e1, e2, e3⟩ := h4 q hq; exact ⟨g, o, e1, e2, (hb.cell (by exact e2)).trans e3⟩⟩
theorem hlt_of {w : World} {b : Nat} {o : Obj} (h : w.heap[b]? = some o) : b < w.heap.size := (Array.getElem?_eq_some_iff.1 h).1
end Go.Proofs.YtdhfbphliejcdaaDoor

namespace Go.Proofs.YtdhfbphliejcdaaDoor
open Go.RowKit Go.Maps Go.ChangeShapes

/-- All blocks but the reader's own. -/
def OldBut (c : RC) (w w' : World) : Prop := ∀ (b : Nat) (o : Obj), w.heap[b]? = some o → b ≠ c.R → w'.heap[b]? = some o
theorem OldBut.trans {c : RC} {w w1 w2 : World} (h : OldBut c w w1) (k : OldBut c w1 w2) : OldBut c w w2 := fun b o e hne => k b o (h b o e hne) hne
theorem OldBut.alloc (c : RC) (w : World) (o : Obj) : OldBut c w (w.alloc o) := fun b o' e _ => by rw [Lib.alloc_old _ _ _ (hlt_of e)]; exact e
end Go.Proofs.YtdhfbphliejcdaaDoor

namespace Go.Proofs.YtdhfbphliejcdaaDoor
open Go.RowKit Go.Maps Go.ChangeShapes

set_option maxRecDepth 20000 in
theorem field_tok (a b d : Value) (w : World) : (Instr.field 88 (.agg #[a, b, d]) 1).run Tryd.prog w = .ok b w := by kernel_rfl
theorem getB_le {l : List UInt8} {n : Nat} (h : getB l = some n) : n ≤ 1000000 := by
  unfold getB at h
  split at h
  · cases h
  · split at h
    · rename_i h2; cases h; exact h2.2
    · cases h
theorem getV_eq (l : List UInt8) : ∃ b, getV l = .tuple #[.int .i64 ((getB l).getD 0 : Nat), .bool b] := by
  unfold getV
  cases getB l with
  | none => exact ⟨_, rfl⟩
  | some n => exact ⟨_, rfl⟩
theorem getB_d (l : List UInt8) : (getB l).getD 0 ≤ 1000000 := by
  cases e : getB l with
  | none => simp
  | some n => have := getB_le e; simpa using this

end Go.Proofs.YtdhfbphliejcdaaDoor

namespace Go.Proofs.YtdhfbphliejcdaaDoor
open Go.RowKit

mutual
def Tm.size : Tm → Nat
  | .mk _ _ _ _ l => sizes l + 1
def sizes : List Tm → Nat
  | [] => 0
  | t :: r => t.size + sizes r
end

theorem sizes_take (l : List Tm) (k : Nat) (h : k < l.length) : sizes (l.take (k + 1)) = sizes (l.take k) + (l[k]).size := by
  induction l generalizing k with
  | nil => simp at h
  | cons a r ih =>
    cases k with
    | zero => simp [sizes]
    | succ k => simp only [List.take_succ_cons, sizes, List.getElem_cons_succ]; rw [ih k (by simpa using h)]; omega

theorem sizes_le (l : List Tm) (k : Nat) : sizes (l.take k) ≤ sizes l := by
  induction l generalizing k with
  | nil => simp
  | cons a r ih =>
    cases k with
    | zero => simp [sizes]
    | succ k => simp only [List.take_succ_cons, sizes]; have := ih k; omega

theorem Tm.size_eq (t : Tm) : t.size = sizes t.kids + 1 := by cases t; rfl

end Go.Proofs.YtdhfbphliejcdaaDoor

namespace Go.Proofs.YtdhfbphliejcdaaDoor
open Go.RowKit

/-- The five cells of an element, written one behind the other. -/
def put5 (w : World) (g o : Nat) (t : Tm) (s : Value) : World := ((((w.setCell ⟨g, o, none⟩ (.int .i64 t.k)).setCell ⟨g, o + 1, none⟩ (.int .i64 t.i)).setCell ⟨g, o + 2, none⟩ (.int .i64 t.j)).setCell ⟨g, o + 3, none⟩ (.int .i64 t.n)).setCell ⟨g, o + 4, none⟩ s

theorem put5_other (w : World) (g o : Nat) (t : Tm) (s : Value) {b : Nat} (h : b ≠ g) : (put5 w g o t s).heap[b]? = w.heap[b]? := by
  unfold put5; repeat rw [Below.heap_setCell _ _ _ _ (by exact h)]
theorem put5_out (w : World) (g o : Nat) (t : Tm) (s : Value) {q : Nat} (h : q < o ∨ o + 5 ≤ q) : (put5 w g o t s).cell? ⟨g, q, none⟩ = w.cell? ⟨g, q, none⟩ := by
  unfold put5
  repeat rw [World.cell?_setCell_other _ _ _ _ (by intro e; have := congrArg Addr.off e; simp only at this; omega)]
theorem put5_node {w : World} {g o : Nat} {t0 : Tm} {s0 : Value} (t : Tm) (s : Value) (h : Node w g o t0 s0) : Node (put5 w g o t s) g o t s := by
  have ne : ∀ p q : Nat, p ≠ q → (⟨g, p, none⟩ : Addr) ≠ ⟨g, q, none⟩ := fun p q hpq e => hpq (congrArg Addr.off e)
  unfold put5
  refine ⟨?_, ?_, ?_, ?_, ?_⟩
  · rw [World.cell?_setCell_other _ _ _ _ (ne _ _ (by omega)), World.cell?_setCell_other _ _ _ _ (ne _ _ (by omega)), World.cell?_setCell_other _ _ _ _ (ne _ _ (by omega)), World.cell?_setCell_other _ _ _ _ (ne _ _ (by omega))]
    exact World.cell?_setCell_same _ _ _ h.c0
  · rw [World.cell?_setCell_other _ _ _ _ (ne _ _ (by omega)), World.cell?_setCell_other _ _ _ _ (ne _ _ (by omega)), World.cell?_setCell_other _ _ _ _ (ne _ _ (by omega))]
    refine World.cell?_setCell_same _ _ _ (u := .int .i64 t0.i) ?_
    rw [World.cell?_setCell_other _ _ _ _ (ne _ _ (by omega))]; exact h.c1
  · rw [World.cell?_setCell_other _ _ _ _ (ne _ _ (by omega)), World.cell?_setCell_other _ _ _ _ (ne _ _ (by omega))]
    refine World.cell?_setCell_same _ _ _ (u := .int .i64 t0.j) ?_
    rw [World.cell?_setCell_other _ _ _ _ (ne _ _ (by omega)), World.cell?_setCell_other _ _ _ _ (ne _ _ (by omega))]; exact h.c2
  · rw [World.cell?_setCell_other _ _ _ _ (ne _ _ (by omega))]
    refine World.cell?_setCell_same _ _ _ (u := .int .i64 t0.n) ?_
    rw [World.cell?_setCell_other _ _ _ _ (ne _ _ (by omega)), World.cell?_setCell_other _ _ _ _ (ne _ _ (by omega)), World.cell?_setCell_other _ _ _ _ (ne _ _ (by omega))]; exact h.c3
  · refine World.cell?_setCell_same _ _ _ (u := s0) ?_
    rw [World.cell?_setCell_other _ _ _ _ (ne _ _ (by omega)), World.cell?_setCell_other _ _ _ _ (ne _ _ (by omega)), World.cell?_setCell_other _ _ _ _ (ne _ _ (by omega)), World.cell?_setCell_other _ _ _ _ (ne _ _ (by omega))]; exact h.c4
/-- Another element's cells stay. -/
theorem put5_keep {w : World} {g o o' b : Nat} {t x : Tm} {s sx : Value} (h : Node w b o' x sx) (hne : b ≠ g ∨ o' + 5 ≤ o ∨ o + 5 ≤ o') : Node (put5 w g o t s) b o' x sx := by
  by_cases hb : b = g
  · subst hb
    have hne' : o' + 5 ≤ o ∨ o + 5 ≤ o' := hne.resolve_left (fun h => h rfl)
    exact ⟨(put5_out _ _ _ _ _ (by omega)).trans h.c0, (put5_out _ _ _ _ _ (by omega)).trans h.c1, (put5_out _ _ _ _ _ (by omega)).trans h.c2, (put5_out _ _ _ _ _ (by omega)).trans h.c3, (put5_out _ _ _ _ _ (by omega)).trans h.c4⟩
  · exact h.same (put5_other _ _ _ _ _ hb)

theorem liesP_nil (w : World) (P : Nat → Prop) : LiesP w P [] (.slice none 0 0) := .mk [] none 0 (fun _ => .nilIface) (Nat.le_refl _) (by decide) (fun _ h => by cases h) (fun _ h => by cases h) (fun _ h => by cases h)

theorem sizes_map_le {n : Nat} (f : Nat → Tm) : ∀ (l : List Tm), l.length = n → (∀ i (h : i < l.length), (f i).size ≤ (l[i]).size) → sizes ((List.range n).map f) ≤ sizes l := by
  intro l hl h
  subst hl
  induction l generalizing f with
  | nil => simp [sizes]
  | cons a r ih =>
    have h0 := h 0 (by simp)
    simp only [List.getElem_cons_zero] at h0
    have := ih (fun i => f (i + 1)) (fun i hi => by have := h (i + 1) (by simpa using hi); simpa using this)
    rw [List.length_cons, List.range_succ_eq_map, List.map_cons, List.map_map]
    simp only [sizes]
    have e : ((fun i => f (i + 1))) = f ∘ Nat.succ := rfl
    rw [e] at this
    omega

instance : Inhabited (Tm × Value) := ⟨(.mk 0 0 0 0 [], .nilIface)⟩

/-- An element is overwritten by a term without kids. -/
theorem LiesP.store {w : World} {P : Nat → Prop} {g j : Nat} {z : Tm} (hz : z.kids = []) (hzf : z.fine) {l : List Tm} {s : Value} (h : LiesP w P l s) :
    ∃ l', l'.length = l.length ∧ sizes l' ≤ sizes l ∧ LiesP (put5 w g (j * 5) z (.slice none 0 0)) P l' s := by
  induction h with
  | mk l a cap S hc hm hf hn hk ih =>
    have key : ∀ i, i < l.length → ∃ p : Tm × Value, p.1.fine ∧ (∀ h : i < l.length, p.1.size ≤ (l[i]).size) ∧ LiesP (put5 w g (j * 5) z (.slice none 0 0)) P p.1.kids p.2 ∧ ∃ b, a = some ⟨b, 0, none⟩ ∧ P b ∧ Node (put5 w g (j * 5) z (.slice none 0 0)) b (i * 5) p.1 p.2 := by
      intro i hi
      obtain ⟨b, ha, hp, hx⟩ := hn i hi
      by_cases e : b = g ∧ i = j
      · obtain ⟨rfl, rfl⟩ := e
        refine ⟨(z, .slice none 0 0), hzf, fun _ => ?_, by rw [hz]; exact liesP_nil _ _, b, ha, hp, put5_node _ _ hx⟩
        rw [Tm.size_eq, Tm.size_eq, hz]; simp [sizes]
      · obtain ⟨l', h1, h2, h3⟩ := ih i hi
        have hfi := hf _ (List.getElem_mem hi)
        refine ⟨(.mk (l[i]).k (l[i]).i (l[i]).j (l[i]).n l', S i), hfi, fun _ => ?_, h3, b, ha, hp, ?_⟩
        · rw [Tm.size_eq, Tm.size_eq]; show sizes l' + 1 ≤ _; omega
        · have : Node w b (i * 5) (.mk (l[i]).k (l[i]).i (l[i]).j (l[i]).n l') (S i) := ⟨hx.c0, hx.c1, hx.c2, hx.c3, hx.c4⟩
          exact put5_keep this (by by_cases hb : b = g
                                   · right; have : i ≠ j := fun e' => e ⟨hb, e'⟩; omega
                                   · exact Or.inl hb)
    obtain ⟨f, hf'⟩ := Go.Deep.choose_lt (α := Tm × Value) (p := fun i p => p.1.fine ∧ (∀ h : i < l.length, p.1.size ≤ (l[i]).size) ∧ LiesP (put5 w g (j * 5) z (.slice none 0 0)) P p.1.kids p.2 ∧ ∃ b, a = some ⟨b, 0, none⟩ ∧ P b ∧ Node (put5 w g (j * 5) z (.slice none 0 0)) b (i * 5) p.1 p.2) key
    have hl5 : ((List.range l.length).map fun i => (f i).1).length = l.length := by simp
    refine ⟨(List.range l.length).map fun i => (f i).1, hl5, sizes_map_le (fun i => (f i).1) l rfl (fun i hi => (hf' i hi).2.1 hi), ?_⟩
    have := LiesP.mk (w := put5 w g (j * 5) z (.slice none 0 0)) (P := P) ((List.range l.length).map fun i => (f i).1) a cap (fun i => (f i).2) (by simpa using hc) hm
      (fun x hx => by obtain ⟨i, hi, rfl⟩ := List.mem_map.1 hx; exact (hf' i (List.mem_range.1 hi)).1)
      (fun i hi => by obtain ⟨b, ha, hp, hn⟩ := (hf' i (by simpa using hi)).2.2.2; exact ⟨b, ha, hp, by simpa using hn⟩)
      (fun i hi => by simpa using (hf' i (by simpa using hi)).2.2.1)
    rwa [hl5] at this

end Go.Proofs.YtdhfbphliejcdaaDoor

namespace Go.Proofs.YtdhfbphliejcdaaDoor
open Go.RowKit

theorem LiesP.out {w : World} {P : Nat → Prop} {l : List Tm} {s : Value} (h : LiesP w P l s) : ∃ (a : Option Addr) (cap : Nat), s = .slice a l.length cap ∧ l.length ≤ cap ∧ cap ≤ maxLen := by
  cases h with
  | mk l a cap S hc hm hf hn hk => exact ⟨a, cap, rfl, hc, hm⟩

end Go.Proofs.YtdhfbphliejcdaaDoor

namespace Go.Proofs.YtdhfbphliejcdaaDoor
open Go.RowKit

def numbersN (k i j n : Int) : Bool :=
  if k = 2 then decide (0 ≤ i) && (decide (i ≤ 2147483647) && ((j == 0) && (n == 0)))
  else if k = 1 ∨ k = 10 ∨ k = 11 ∨ k = 12 then levelB i && ((j == 0) && (n == 0))
  else if k = 3 ∨ k = 4 ∨ k = 5 ∨ k = 6 ∨ k = 7 ∨ k = 8 ∨ k = 9 then levelB i && (levelB j && (n == 0))
  else if k = 23 then levelB i && levelB j else (i == 0) && ((j == 0) && (n == 0))

end Go.Proofs.YtdhfbphliejcdaaDoor

namespace Go.Proofs.YtdhfbphliejcdaaDoor
open Go.RowKit

mutual
def Tm.plainB : Tm → Bool
  | .mk k i j n l => (k == 1 || (k == 2 || (decide (13 ≤ k) && decide (k ≤ 23)))) && (((l.length : Int) == kidsN k n) && (numbersN k i j n && plains l))
def plains : List Tm → Bool
  | [] => true
  | t :: r => t.plainB && plains r
end

mutual
def Tm.markedB : Tm → Bool
  | .mk k i j n l => (decide (1 ≤ k) && decide (k ≤ 12)) && (((l.length : Int) == kidsN k n) && (numbersN k i j n && markeds (k == 12) 0 l))
def markeds : Bool → Nat → List Tm → Bool
  | _, _, [] => true
  | tr, p, t :: r => (if tr && p == 2 then t.plainB else t.markedB) && markeds tr (p + 1) r
end

end Go.Proofs.YtdhfbphliejcdaaDoor

namespace Go.Proofs.YtdhfbphliejcdaaDoor
open Go.RowKit

mutual
def Tm.deep : Tm → Nat
  | .mk _ _ _ _ l => deeps l + 1
def deeps : List Tm → Nat
  | [] => 0
  | t :: r => max t.deep (deeps r)
end

theorem Tm.deep_eq (t : Tm) : t.deep = deeps t.kids + 1 := by cases t; rfl

end Go.Proofs.YtdhfbphliejcdaaDoor

namespace Go.Proofs.YtdhfbphliejcdaaDoor
open Go.RowKit

def Tm.rightB (t : Tm) : Bool := t.markedB || t.plainB

end Go.Proofs.YtdhfbphliejcdaaDoor

namespace Go.Proofs.YtdhfbphliejcdaaDoor

def Tm.zero : Tm := .mk 0 0 0 0 []

end Go.Proofs.YtdhfbphliejcdaaDoor

namespace Go.Proofs.YtdhfbphliejcdaaDoor
open Go.RowKit

theorem open_unfrozen {w : World} {b : Nat} {cs : Array Value} {T : TypeId} (h : w.heap[b]? = some (.cells cs T (0, 0))) (q : Nat) : w.frozen? ⟨b, q, none⟩ = false := by
  unfold World.frozen?
  rw [show (⟨b, q, none⟩ : Addr).block = b from rfl, h]; rfl

end Go.Proofs.YtdhfbphliejcdaaDoor

namespace Go.Proofs.YtdhfbphliejcdaaDoor
open Go.RowKit

theorem five_cells {w : World} {g : Nat} {v0 v1 v2 v3 v4 : Value} {T : TypeId} (h : w.heap[g]? = some (.cells #[v0, v1, v2, v3, v4] T (0, 0))) :
    w.cell? ⟨g, 0, none⟩ = some v0 ∧ w.cell? ⟨g, 1, none⟩ = some v1 ∧ w.cell? ⟨g, 2, none⟩ = some v2 ∧ w.cell? ⟨g, 3, none⟩ = some v3 ∧ w.cell? ⟨g, 4, none⟩ = some v4 := by
  refine ⟨?_, ?_, ?_, ?_, ?_⟩ <;> (rw [cell_of_row w g _ _ _ _ h]; rfl)
theorem five_free {w : World} {g : Nat} {cs : Array Value} {T : TypeId} (h : w.heap[g]? = some (.cells cs T (0, 0))) :
    w.frozen? ⟨g, 0, none⟩ = false ∧ w.frozen? ⟨g, 1, none⟩ = false ∧ w.frozen? ⟨g, 2, none⟩ = false ∧ w.frozen? ⟨g, 3, none⟩ = false ∧ w.frozen? ⟨g, 4, none⟩ = false :=
  ⟨open_unfrozen h _, open_unfrozen h _, open_unfrozen h _, open_unfrozen h _, open_unfrozen h _⟩

end Go.Proofs.YtdhfbphliejcdaaDoor

namespace Go.Proofs.YtdhfbphliejcdaaDoor
open Go

theorem take_at {P : Program} {ops : Array Oper} {Q : Exit → Act → World → Prop} {md : Region.Mode} {S : World → Prop} (i d : Nat) (oi : Oper) {v : Value} {fuel : Nat} {listed : Array Bool} {a : Act} {w : World} (hy : YieldsIf P ops S oi v a)
    (h : wpAnyH P md ops Q S fuel (listed.setIfInBounds i true) (a.put (some d) v) w)
    (hi : ops[i]? = some oi := by rfl) (hd : oi.dst = some d := by rfl)
    (hs : Region.noSelect ops = true := by kernel_rfl) (hf : Region.free md ops listed i = true := by kernel_rfl) (hr : (Region.ready md ops listed).contains i = true := by kernel_rfl)
    (hQ : ∀ c a w, Q (.panic c) (a.put (some d) v) w → Q (.panic c) a w := by exact fun _ _ _ h => h) (hS : S w := by assumption) : wpAnyH P md ops Q S (fuel + 1) listed a w := by
  rw [← hd] at hQ h
  exact wpAnyH_take hi hs hf hr hQ hy hS h
end Go.Proofs.YtdhfbphliejcdaaDoor

namespace Go.Proofs.YtdhfbphliejcdaaDoor
open Go.RowKit Go.Maps Go.ChangeShapes

theorem al (w : World) (o : Obj) : Below w.heap.size w (w.alloc o) := (Below.refl _ w).alloc (Nat.le_refl _) o
end Go.Proofs.YtdhfbphliejcdaaDoor

namespace Go.Proofs.YtdhfbphliejcdaaDoor
open Go.RowKit Go.Maps Go.ChangeShapes

theorem g1 (w : World) (b i : Nat) (v : Value) : w.grownBy (w.setCell ⟨b, i, none⟩ v) (some b) := grown_at ⟨rfl, rfl, rfl, Nat.le_refl _, fun _ _ _ => rfl⟩ i v
end Go.Proofs.YtdhfbphliejcdaaDoor

namespace Go.Proofs.YtdhfbphliejcdaaDoor
open Go.RowKit Go.Maps Go.ChangeShapes

def toksO (x : List Tok × Option Nat) : List Tok := match x with
  | (ts, none) => ts
  | (_, some _) => []
/-- The tokens of a text, where they end, and whether a fault stands there. -/
def ofL (l : List UInt8) : List Tok × Nat × Bool := match lexL l 0 with
  | (ts, none) => (ts, l.length, false)
  | (_, some p) => (toksO (lexL (l.take p) 0), p, true)
theorem lexL_bound {l : List UInt8} : ∀ (n p : Nat), l.length - p ≤ n → (∀ q, (lexL l p).2 = some q → q < l.length) ∧ (∀ t ∈ (lexL l p).1, t.s.length ≤ l.length ∧ t.at_ < l.length) ∧ (lexL l p).1.length + min p l.length ≤ l.length
  | 0, p, h => by
    rw [lexL_end (by omega)]
    exact ⟨fun q hq => (by cases hq), fun t ht => (by cases ht), by simp; omega⟩
  | n + 1, p, h => by
    by_cases h1 : p + skipL (l.drop p) < l.length
    · cases hn : nextL (l.drop (p + skipL (l.drop p))) with
      | none =>
        rw [lexL_fault rfl h1 hn]
        exact ⟨fun q hq => (by obtain rfl := Option.some.inj hq; exact h1), fun t ht => (by cases ht), by simp; omega⟩
      | some x =>
        obtain ⟨k, m⟩ := x
        have hb := (nextL_range hn).2.1
        have hb1 := (nextL_range hn).1
        rw [lexL_next rfl h1 hn]
        have hr := lexL_bound (l := l) n (p + skipL (l.drop p) + m) (by omega)
        refine ⟨hr.1, fun t ht => ?_, ?_⟩
        · rcases List.mem_cons.1 ht with rfl | ht
          · exact ⟨by simp; omega, h1⟩
          · exact hr.2.1 t ht
        · have := hr.2.2
          simp only [List.length_cons]
          rw [List.length_drop] at hb
          omega
    · rw [lexL_end h1]
      exact ⟨fun q hq => (by cases hq), fun t ht => (by cases ht), by simp; omega⟩
theorem ofL_bound (l : List UInt8) : (ofL l).1.length ≤ l.length ∧ (ofL l).2.1 ≤ l.length ∧ ∀ t ∈ (ofL l).1, t.s.length ≤ l.length ∧ t.at_ ≤ l.length := by
  have h := lexL_bound (l := l) l.length 0 (by omega)
  unfold ofL
  rcases hx : lexL l 0 with ⟨ts, o⟩
  rw [hx] at h
  cases o with
  | none =>
    simp only
    exact ⟨by have := h.2.2; simp at this; omega, Nat.le_refl _, fun t ht => ⟨(h.2.1 t ht).1, Nat.le_of_lt (h.2.1 t ht).2⟩⟩
  | some p =>
    have hp : p < l.length := h.1 p rfl
    have k := lexL_bound (l := l.take p) (l.take p).length 0 (by omega)
    have hl : (l.take p).length = p := by rw [List.length_take]; omega
    rw [hl] at k
    simp only
    rcases hy : lexL (l.take p) 0 with ⟨us, o⟩
    rw [hy] at k
    cases o with
    | none => exact ⟨by show us.length ≤ _; have := k.2.2; simp at this; omega, by omega, fun t ht => by have := k.2.1 t ht; exact ⟨by omega, by omega⟩⟩
    | some q => exact ⟨by show 0 ≤ _; omega, by omega, fun t ht => (by cases ht)⟩
theorem toks_lies {B : Nat} {w : World} {v : Value} {ts : List Tok} (h : Toks 88 B w v ts) : TLies w ts v := by
  obtain ⟨h1, h2⟩ := h
  rcases h2 with ⟨rfl, h0⟩ | ⟨g, cap, cur, rfl, hg, hh, hn, hc, hs, ht⟩
  · have h3 : ts = [] := List.eq_nil_of_length_eq_zero h0
    subst h3
    exact ⟨none, 0, rfl, Nat.le_refl _, by unfold maxLen; omega, Or.inl rfl⟩
  · exact ⟨some ⟨g, 0, none⟩, cap, rfl, hn, hc, Or.inr ⟨g, 0, cur, (0, 0), rfl, hh, by rw [List.drop_zero]; exact ht⟩⟩
def OfG (w : World) (x : List Tok × Nat × Bool) (e : Ending) (w' : World) : Prop := ∃ tv, e = .returned (.pointer (some ⟨w'.heap.size - 1, 0, none⟩)) ∧ w.heap.size < w'.heap.size ∧ SAt w' (w'.heap.size - 1) tv x.2.1 x.2.2 ∧ TLies w' x.1 tv ∧ Below w.heap.size w w'
theorem ofG_of {w w1 : World} {x : List Tok × Nat × Bool} {tv : Value} (hB : Below w.heap.size w w1) (hT : TLies w1 x.1 tv) : OfG w x (.returned (.pointer (some ⟨w1.heap.size, 0, none⟩))) (w1.alloc (.cells #[tv, .int .i64 x.2.1, .bool x.2.2] 84)) := by
  have hb := (Below.refl w1.heap.size w1).alloc (Nat.le_refl _) (.cells #[tv, .int .i64 x.2.1, .bool x.2.2] 84)
  have hs : (w1.alloc (.cells #[tv, .int .i64 x.2.1, .bool x.2.2] 84)).heap.size - 1 = w1.heap.size := by simp
  have := hB.size
  unfold OfG
  rw [hs]
  exact ⟨tv, rfl, by simp; omega, alloc_new _ _, hT.keep fun g cs fz e => by rw [hb.block _ (hlt_of e)]; exact e, hB.trans (hb.mono hB.size)⟩
set_option maxHeartbeats 2000000 in
set_option maxRecDepth 20000 in
theorem of_any (s : ByteArray) (w : World) (hs : s.size ≤ 10000000) : Calls Tryd.prog 29 #[.string s] w (OfG w (ofL s.data.toList)) := by
  have HLX := Lib.hid (fun (s : ByteArray) (w : World) (h : s.size ≤ 10000000) => lex_any s w h)
  have hsl : s.data.toList.length = s.size := by simp
  have HSL := Lib.hid hsl
  clear hsl
  go_enter Tryd.func29, Tryd.ntmps29
  go_wp2_with fail
  refine (HLX.out s w hs).mono ?_
  intro e w1 hg
  cases hl : lexL s.data.toList 0 with
  | mk ts o =>
  rw [hl] at hg
  obtain ⟨hB, hg⟩ := hg
  cases o with
  | none =>
    obtain ⟨v, hT, rfl⟩ := hg
    have HO := Lib.hid (show ofL s.data.toList = (ts, s.size, false) by unfold ofL; rw [hl]; simp only; rw [HSL.out])
    obtain ⟨a, cap, rfl, hv⟩ := toks_lies hT
    have HT := Lib.hid (show TLies w1 ts (.slice a ts.length cap) from ⟨a, cap, rfl, hv⟩)
    have HB := Lib.hid hB
    clear hT hB hl hv
    go_wp2
    go_ret
    rw [HO.out]
    exact ofG_of (x := (ts, s.size, false)) HB.out HT.out
  | some p =>
    obtain rfl := hg
    have hp : p < s.size := by have := (lexL_bound (l := s.data.toList) s.data.toList.length 0 (by omega)).1 p (by rw [hl]); rw [HSL.out] at this; exact this
    obtain ⟨P, hP⟩ : ∃ P, s.extract 0 p = P := ⟨_, rfl⟩
    have hPd : P.data.toList = s.data.toList.take p := by rw [← hP]; exact (Lib.extract_data s 0 p).trans (by simp)
    have hPs : P.size ≤ 10000000 := by
      have h1 : P.data.toList.length = P.size := by simp
      rw [hPd, List.length_take] at h1
      omega
    have hsli : ∀ w', (Instr.slice 9 (.string s) none (some (.int .i64 (p : Int))) none).run Tryd.prog w' = .ok (.string P) w' := fun w' => by
      rw [← hP]; exact run_slice_string_h w' 9 s Tryd.underlying9 .i64 (p : Int) (by omega) (by omega)
    have HO := Lib.hid (show ofL s.data.toList = (toksO (lexL P.data.toList 0), p, true) by unfold ofL; rw [hl, hPd])
    have HB := Lib.hid hB
    clear hB hl hP hPd
    go_wp2_with fail
    refine (HLX.out P w1 hPs).mono ?_
    intro e w2 hg
    cases hl : lexL P.data.toList 0 with
    | mk us o =>
    rw [hl] at hg HO
    obtain ⟨hB2, hg⟩ := hg
    have HB2 := Lib.hid (HB.out.trans (hB2.mono HB.out.size))
    cases o with
    | none =>
      obtain ⟨v, hT, rfl⟩ := hg
      obtain ⟨a, cap, rfl, hv⟩ := toks_lies hT
      have HT := Lib.hid (show TLies w2 us (.slice a us.length cap) from ⟨a, cap, rfl, hv⟩)
      clear hT hB2 hl hv
      go_wp2
      go_ret
      rw [HO.out]
      exact ofG_of (x := (us, p, true)) HB2.out HT.out
    | some q =>
      obtain rfl := hg
      clear hB2 hl
      go_wp2
      go_ret
      rw [HO.out]
      exact ofG_of (x := ([], p, true)) HB2.out ⟨none, 0, rfl, Nat.le_refl _, by unfold maxLen; omega, Or.inl rfl⟩
/-- The end of the reading. -/
def endP (E : Nat) (br : Bool) (ts : List Tok) : Except Nat Unit := if ts = [] ∧ br = false then .ok () else .error (hereT E ts)
def EndG (w : World) (x : Except Nat Unit) (e : Ending) (w' : World) : Prop := w = w' ∧ match x with
  | .error a => e = faultP a
  | .ok _ => e = .returned (.tuple #[])
set_option maxRecDepth 20000 in
theorem end_any (S : Nat) (v : Value) (E : Nat) (br : Bool) (ts : List Tok) (w : World) (hS : SAt w S v E br) (hv : TLies w ts v) : Calls Tryd.prog 33 #[.pointer (some ⟨S, 0, none⟩)] w (EndG w (endP E br ts)) := by
  have HH := Lib.hid (here_any S v E br ts w hS hv)
  have c0 : w.cell? ⟨S, 0, none⟩ = some v := by rw [Lib.cell_of_heap hS]; rfl
  have c2 : w.cell? ⟨S, 2, none⟩ = some (.bool br) := by rw [Lib.cell_of_heap hS]; rfl
  obtain ⟨a, cap, rfl, -, hcp, -⟩ := hv
  clear hS
  by_cases h0 : ts = []
  · cases br with
    | false =>
      have HE := Lib.hid (show endP E false ts = .ok () from if_pos ⟨h0, rfl⟩)
      subst h0
      go_enter Tryd.func33, Tryd.ntmps33
      go_wp2
      go_end0
      rw [HE.out]
      exact ⟨rfl, rfl⟩
    | true =>
      have HE := Lib.hid (show endP E true ts = .error (hereT E ts) from if_neg (fun h => by cases h.2))
      subst h0
      go_enter Tryd.func33, Tryd.ntmps33
      go_wp2_with fail
      refine HH.out.mono ?_
      rintro e w1 ⟨rfl, rfl⟩
      go_wp2_with fail
      refine (fail_any _ _).mono ?_
      rintro e w1 ⟨rfl, rfl⟩
      unfold faultP
      go_wp2
      rw [HE.out]
      exact ⟨rfl, rfl, rfl⟩
  · have HE := Lib.hid (show endP E br ts = .error (hereT E ts) from if_neg (fun h => h0 h.1))
    have hl : 0 < ts.length := List.length_pos_iff.2 h0
    clear h0
    go_enter Tryd.func33, Tryd.ntmps33
    go_wp2_with fail
    refine HH.out.mono ?_
    rintro e w1 ⟨rfl, rfl⟩
    go_wp2_with fail
    refine (fail_any _ _).mono ?_
    rintro e w1 ⟨rfl, rfl⟩
    unfold faultP
    go_wp2
    rw [HE.out]
    exact ⟨rfl, rfl, rfl⟩
end Go.Proofs.YtdhfbphliejcdaaDoor

namespace Go.Proofs.YtdhfbphliejcdaaDoor.Dv
open Go.RowKit

def wordsL : List ByteArray := [⟨#[115, 111, 114, 116]⟩, ⟨#[118, 97, 114]⟩, ⟨#[112, 105]⟩, ⟨#[108, 97, 109]⟩, ⟨#[97, 112, 112]⟩, ⟨#[115, 105, 103]⟩, ⟨#[112, 97, 105, 114]⟩, ⟨#[102, 115, 116]⟩, ⟨#[115, 110, 100]⟩, ⟨#[101, 113]⟩, ⟨#[114, 101, 102, 108]⟩, ⟨#[99, 111, 110, 118]⟩, ⟨#[115, 97, 109, 101]⟩, ⟨#[115, 121, 109]⟩, ⟨#[116, 114, 97, 110, 115]⟩, ⟨#[99, 111, 110, 118, 115]⟩, ⟨#[114, 101, 102, 108, 101, 99, 116]⟩, ⟨#[98, 101, 116, 97]⟩, ⟨#[102, 105, 114, 115, 116]⟩, ⟨#[115, 101, 99, 111, 110, 100]⟩, ⟨#[101, 116, 97]⟩, ⟨#[115, 117, 114, 106]⟩, ⟨#[114, 101, 112, 108]⟩, ⟨#[105, 114, 114]⟩, ⟨#[120, 112, 105]⟩, ⟨#[120, 115, 105, 103]⟩, ⟨#[120, 108, 97, 109]⟩, ⟨#[120, 112, 97, 105, 114]⟩]
def kidsL : List Int := [0, 0, 2, 2, 2, 2, 3, 1, 1, 2, 1, 2, 1, 1, 2, 2, 1, 2, 3, 3, 1, 1, 2, 2, 2, 2, 3, 4]
def wordN (r : Int) : ByteArray := if 1 ≤ r ∧ r ≤ 28 then (wordsL[(r - 1).toNat]?).getD ⟨#[]⟩ else ⟨#[]⟩
def dkidsN (r : Int) : Int := if 1 ≤ r ∧ r ≤ 28 then (kidsL[(r - 1).toNat]?).getD 0 else -1
def equalB (r : Int) : Bool := decide (13 ≤ r) && decide (r ≤ 28)
theorem ret_str {a b : ByteArray} (h : a = b) : Ending.returned (.string a) = .returned (.string b) := by rw [h]
theorem in28 {r : Int} (h : 1 ≤ r ∧ r ≤ 28) : r = 1 ∨ r = 2 ∨ r = 3 ∨ r = 4 ∨ r = 5 ∨ r = 6 ∨ r = 7 ∨ r = 8 ∨ r = 9 ∨ r = 10 ∨ r = 11 ∨ r = 12 ∨ r = 13 ∨ r = 14 ∨ r = 15 ∨ r = 16 ∨ r = 17 ∨ r = 18 ∨ r = 19 ∨ r = 20 ∨ r = 21 ∨ r = 22 ∨ r = 23 ∨ r = 24 ∨ r = 25 ∨ r = 26 ∨ r = 27 ∨ r = 28 := by omega
theorem out_word {r : Int} (h : ¬ (1 ≤ r ∧ r ≤ 28)) : wordN r = ⟨#[]⟩ := if_neg h
theorem out_kids {r : Int} (h : ¬ (1 ≤ r ∧ r ≤ 28)) : dkidsN r = -1 := if_neg h

set_option maxHeartbeats 1000000 in
theorem dkids_any (r : Int) (w : World) : Calls Tryd.prog 38 #[.int .i64 r] w fun e w' => e = .returned (.int .i64 (dkidsN r)) ∧ w' = w := by
  by_cases h : 1 ≤ r ∧ r ≤ 28
  · rcases in28 h with rfl | rfl | rfl | rfl | rfl | rfl | rfl | rfl | rfl | rfl | rfl | rfl | rfl | rfl | rfl | rfl | rfl | rfl | rfl | rfl | rfl | rfl | rfl | rfl | rfl | rfl | rfl | rfl
    all_goals
      clear h
      go_enter Tryd.func38, Tryd.ntmps38
      go_wp2
      go_ret
      exact ⟨ret_int (by decide), rfl⟩
  · rw [out_kids h]
    go_enter Tryd.func38, Tryd.ntmps38
    go_wp2
    all_goals go_ret
    all_goals exact ⟨ret_int (by first | rfl | (exfalso; simp only [beq_iff_eq] at *; omega)), rfl⟩

set_option maxHeartbeats 1000000 in
theorem dequal_any (r : Int) (w : World) : Calls Tryd.prog 51 #[.int .i64 r] w fun e w' => e = .returned (.bool (equalB r)) ∧ w' = w := by
  go_enter Tryd.func51, Tryd.ntmps51
  go_wp2
  all_goals go_ret
  all_goals exact ⟨ret_bool (by unfold equalB; first | (simp_all; done) | (simp_all; omega)), rfl⟩
end Go.Proofs.YtdhfbphliejcdaaDoor.Dv

namespace Go.Proofs.YtdhfbphliejcdaaDoor.Dv
open Go.RowKit

set_option maxHeartbeats 2000000 in
theorem wordeq_any (r : Int) (w : World) (h : 13 ≤ r ∧ r ≤ 28) : Calls Tryd.prog 52 #[.int .i64 r] w fun e w' => e = .returned (.string (wordN r)) ∧ w' = w := by
  rcases (show r = 13 ∨ r = 14 ∨ r = 15 ∨ r = 16 ∨ r = 17 ∨ r = 18 ∨ r = 19 ∨ r = 20 ∨ r = 21 ∨ r = 22 ∨ r = 23 ∨ r = 24 ∨ r = 25 ∨ r = 26 ∨ r = 27 ∨ r = 28 by omega) with rfl | rfl | rfl | rfl | rfl | rfl | rfl | rfl | rfl | rfl | rfl | rfl | rfl | rfl | rfl | rfl
  all_goals
    clear h
    go_enter Tryd.func52, Tryd.ntmps52
    go_wp2
    go_ret
    exact ⟨ret_str (by rfl), rfl⟩

set_option maxHeartbeats 2000000 in
theorem dword_any (r : Int) (w : World) : Calls Tryd.prog 40 #[.int .i64 r] w fun e w' => e = .returned (.string (wordN r)) ∧ w' = w := by
  by_cases h : 13 ≤ r ∧ r ≤ 28
  · have he : equalB r = true := by unfold equalB; simp; omega
    go_enter Tryd.func40, Tryd.ntmps40
    go_wp2_with fail
    refine (dequal_any r w).mono ?_
    rw [he]
    rintro e w1 ⟨rfl, rfl⟩
    go_wp2_with fail
    refine (wordeq_any r _ h).mono ?_
    rintro e w2 ⟨rfl, rfl⟩
    go_wp2
    go_ret
    exact ⟨rfl, rfl⟩
  · have he : equalB r = false := by unfold equalB; simp; omega
    by_cases h1 : 1 ≤ r ∧ r ≤ 12
    · rcases (show r = 1 ∨ r = 2 ∨ r = 3 ∨ r = 4 ∨ r = 5 ∨ r = 6 ∨ r = 7 ∨ r = 8 ∨ r = 9 ∨ r = 10 ∨ r = 11 ∨ r = 12 by omega) with rfl | rfl | rfl | rfl | rfl | rfl | rfl | rfl | rfl | rfl | rfl | rfl
      all_goals
        clear h h1
        go_enter Tryd.func40, Tryd.ntmps40
        go_wp2_with fail
        refine (dequal_any _ w).mono ?_
        rw [he]
        rintro e w1 ⟨rfl, rfl⟩
        clear he
        go_wp2
        go_ret
        exact ⟨ret_str (by rfl), rfl⟩
    · rw [out_word (by omega)]
      go_enter Tryd.func40, Tryd.ntmps40
      go_wp2_with fail
      refine (dequal_any r w).mono ?_
      rw [he]
      rintro e w1 ⟨rfl, rfl⟩
      go_wp2
      all_goals go_ret
      all_goals exact ⟨ret_str (by first | rfl | (exfalso; simp only [beq_iff_eq, beq_eq_false_iff_ne, ne_eq] at *; omega)), rfl⟩

theorem bytes_iff (x y : ByteArray) : (x.toList == y.toList) = true ↔ x = y := by
  rw [beq_iff_eq]
  refine ⟨fun h => ?_, fun h => by rw [h]⟩
  rw [ByteArray.toList_eq, ByteArray.toList_eq] at h
  cases x; cases y
  simp only [ByteArray.mk.injEq]
  exact Array.toList_inj.1 h
theorem bytes_ne {x y : ByteArray} (h : (x.toList == y.toList) = false) : x ≠ y := fun e => by rw [(bytes_iff x y).2 e] at h; cases h
/-- The rule of a word: the first one that bears it, or 0. -/
def RuleIs (s : ByteArray) (r : Int) : Prop := (∃ k : Nat, 1 ≤ k ∧ k ≤ 28 ∧ wordN k = s ∧ (∀ j : Nat, 1 ≤ j → j < k → wordN j ≠ s) ∧ r = k) ∨ ((∀ j : Nat, 1 ≤ j → j ≤ 28 → wordN j ≠ s) ∧ r = 0)
theorem RuleIs.same {s : ByteArray} {r q : Int} (h : RuleIs s r) (h' : RuleIs s q) : r = q := by
  rcases h with ⟨k, k1, k2, k3, k4, rfl⟩ | ⟨k4, rfl⟩ <;> rcases h' with ⟨j, j1, j2, j3, j4, rfl⟩ | ⟨j4, rfl⟩
  · rcases Nat.lt_trichotomy k j with hlt | rfl | hlt
    · exact absurd k3 (j4 k k1 hlt)
    · rfl
    · exact absurd j3 (k4 j j1 hlt)
  · exact absurd k3 (j4 k k1 k2)
  · exact absurd j3 (k4 j j1 j2)
  · rfl
set_option maxHeartbeats 1000000 in
theorem drule_any (s : ByteArray) (R : Int) (hR : RuleIs s R) (w : World) : Calls Tryd.prog 60 #[.string s] w fun e w' => e = .returned (.int .i64 R) ∧ w' = w := by
  have HR := Lib.hid hR
  clear hR
  go_enter Tryd.func60, Tryd.ntmps60
  go_wp2
  go_loopw [3] (fun rv wr => ∃ k : Nat, 1 ≤ k ∧ k ≤ 29 ∧ rv = .int .i64 k ∧ Hid (∀ j : Nat, 1 ≤ j → j < k → wordN j ≠ s) ∧ wr = w) (fun rv _ => 29 - (intOf rv).toNat)
  case atStart => exact ⟨1, Nat.le_refl _, by omega, rfl, fun j h1 h2 => by omega, rfl⟩
  case round =>
    obtain ⟨k, hk1, hk2, rfl, hno, rfl⟩ := hrel
    by_cases hlt : k ≤ 28
    · go_wp2_with fail
      refine (dword_any _ _).mono ?_
      rintro e w1 ⟨rfl, rfl⟩
      cases hs : ((wordN (k : Int)).toList == s.toList)
      · go_wp2
        go_roundw
        case rel => exact ⟨k + 1, by omega, by omega, by go_num, fun j h1 h2 => by
          by_cases e : j = k
          · subst e; exact bytes_ne hs
          · exact hno.out j h1 (by omega), trivial⟩
        case measure => simp [intOf]; omega
      · have hi : RuleIs s k := Or.inl ⟨k, hk1, hlt, (bytes_iff _ _).1 hs, hno.out, rfl⟩
        have HQ := Lib.hid (hi.same HR.out)
        clear hi
        go_wp2
        go_ret
        exact ⟨ret_int HQ.out, rfl⟩
    · have HQ := Lib.hid ((show RuleIs s 0 from Or.inr ⟨fun j h1 h2 => hno.out j h1 (by omega), rfl⟩).same HR.out)
      go_wp2
      go_ret
      exact ⟨ret_int HQ.out, rfl⟩

end Go.Proofs.YtdhfbphliejcdaaDoor.Dv

namespace Go.Proofs.YtdhfbphliejcdaaDoor.Dv
open Go.RowKit

/-- A derivation: its rule, its number, its kids. -/
inductive Tm where
  | mk (k i : Int) (l : List Tm)

namespace Tm
def k : Tm → Int | .mk k _ _ => k
def i : Tm → Int | .mk _ i _ => i
def kids : Tm → List Tm | .mk _ _ l => l
theorem eta (t : Tm) : Tm.mk t.k t.i t.kids = t := by cases t; rfl

theorem ind {P : Tm → Prop} (h : ∀ t, (∀ x ∈ t.kids, P x) → P t) : ∀ t, P t
  | .mk k i l => h (.mk k i l) (fun x (_ : x ∈ l) => ind h x)
end Tm

def Tm.fine (t : Tm) : Prop := I64 t.k ∧ I64 t.i

/-- A term by value: s is the slice of its kids. -/
abbrev tv (t : Tm) (s : Value) : Value := .agg #[.int .i64 t.k, .int .i64 t.i, s]

/-- The three cells of a term at a place. -/
structure Node (w : World) (b o : Nat) (t : Tm) (s : Value) : Prop where
  c0 : w.cell? ⟨b, o, none⟩ = some (.int .i64 t.k)
  c1 : w.cell? ⟨b, o + 1, none⟩ = some (.int .i64 t.i)
  c2 : w.cell? ⟨b, o + 2, none⟩ = some s

/-- Terms that lie behind a slice. -/
inductive Lies (w : World) : List Tm → Value → Prop
  | mk (l : List Tm) (a : Option Addr) (cap : Nat) (S : Nat → Value) (hc : l.length ≤ cap) (hm : cap ≤ maxLen) (hf : ∀ x ∈ l, x.fine)
      (hn : ∀ i (h : i < l.length), ∃ b o, a = some ⟨b, o, none⟩ ∧ Node w b (o + i * 3) l[i] (S i)) (hk : ∀ i (h : i < l.length), Lies w (l[i]).kids (S i)) : Lies w l (.slice a l.length cap)

theorem Lies.out {w : World} {l : List Tm} {s : Value} (h : Lies w l s) : ∃ (a : Option Addr) (cap : Nat) (S : Nat → Value), s = .slice a l.length cap ∧ l.length ≤ cap ∧ cap ≤ maxLen ∧ (∀ x ∈ l, x.fine) ∧
    (∀ i (h : i < l.length), ∃ b o, a = some ⟨b, o, none⟩ ∧ Node w b (o + i * 3) l[i] (S i)) ∧ (∀ i (h : i < l.length), Lies w (l[i]).kids (S i)) := by
  cases h with
  | mk l a cap S hc hm hf hn hk => exact ⟨a, cap, S, rfl, hc, hm, hf, hn, hk⟩

theorem Node.lt {w : World} {b o : Nat} {t : Tm} {s : Value} (h : Node w b o t s) : b < w.heap.size := World.block_lt_of_cell? _ _ h.c0

theorem Node.below {w w' : World} {b o B : Nat} {t : Tm} {s : Value} (h : Node w b o t s) (hb : Below B w w') (hB : b < B) : Node w' b o t s :=
  ⟨(hb.cell (by exact hB)).trans h.c0, (hb.cell (by exact hB)).trans h.c1, (hb.cell (by exact hB)).trans h.c2⟩

/-- What lies in a world lies in every later one. -/
theorem Lies.keep {w w' : World} {l : List Tm} {s : Value} (h : Lies w l s) (hb : Below w.heap.size w w') : Lies w' l s := by
  induction h with
  | mk l a cap S hc hm hf hn hk ih =>
    exact .mk l a cap S hc hm hf (fun i hi => by obtain ⟨b, o, ha, hx⟩ := hn i hi; exact ⟨b, o, ha, hx.below hb hx.lt⟩) ih

end Go.Proofs.YtdhfbphliejcdaaDoor.Dv

namespace Go.Proofs.YtdhfbphliejcdaaDoor.Dv
open Go.RowKit

mutual
def Tm.size : Tm → Nat
  | .mk _ _ l => sizes l + 1
def sizes : List Tm → Nat
  | [] => 0
  | t :: r => t.size + sizes r
end

theorem sizes_take (l : List Tm) (k : Nat) (h : k < l.length) : sizes (l.take (k + 1)) = sizes (l.take k) + (l[k]).size := by
  induction l generalizing k with
  | nil => simp at h
  | cons a r ih =>
    cases k with
    | zero => simp [sizes]
    | succ k => simp only [List.take_succ_cons, sizes, List.getElem_cons_succ]; rw [ih k (by simpa using h)]; omega

theorem sizes_le (l : List Tm) (k : Nat) : sizes (l.take k) ≤ sizes l := by
  induction l generalizing k with
  | nil => simp
  | cons a r ih =>
    cases k with
    | zero => simp [sizes]
    | succ k => simp only [List.take_succ_cons, sizes]; have := ih k; omega

theorem Tm.size_eq (t : Tm) : t.size = sizes t.kids + 1 := by cases t; rfl

end Go.Proofs.YtdhfbphliejcdaaDoor.Dv

namespace Go.Proofs.YtdhfbphliejcdaaDoor.Fl
open Ieee

theorem cmp_le {a b : Int} : (compare a b == .lt || compare a b == .eq) = decide (a ≤ b) := by
  by_cases h : a < b
  · have : compare a b = .lt := Int.compare_eq_lt.2 h
    rw [this]; simp; omega
  · by_cases h2 : a = b
    · subst h2
      have : compare a a = .eq := Int.compare_eq_eq.2 rfl
      rw [this]; simp
    · have : compare a b = .gt := Int.compare_eq_gt.2 (by omega)
      rw [this]; simp; omega

/-- At most. -/
def leD (x y : Datum) : Bool := x.order y == some .lt || x.order y == some .eq
/-- The number at a base. -/
def sg (s : Bool) (m : Nat) : Int := if s then -(m : Int) else m
theorem signed_eq (s : Bool) (m u : Nat) : signed s m u = sg s m * 2 ^ u := by
  unfold signed sg
  rw [Nat.shiftLeft_eq]
  cases s <;> simp [Int.neg_mul]
theorem pow_split {base base' i : Int} (h : base' ≤ base) (h2 : base ≤ i) : (2 : Int) ^ (i - base').toNat = 2 ^ (i - base).toNat * 2 ^ (base - base').toNat := by
  rw [← Int.pow_add]; congr 1; omega
theorem order_num (s t : Bool) (m n : Nat) (i j base : Int) (hi : base ≤ i) (hj : base ≤ j) : leD (.number s m i) (.number t n j) = decide (sg s m * 2 ^ (i - base).toNat ≤ sg t n * 2 ^ (j - base).toNat) := by
  have h0 : leD (.number s m i) (.number t n j) = decide (sg s m * 2 ^ (i - min i j).toNat ≤ sg t n * 2 ^ (j - min i j).toNat) := by
    unfold leD
    simp only [Datum.order]
    rw [signed_eq, signed_eq, ← cmp_le]
    rfl
  rw [h0, pow_split (show base ≤ min i j by omega) (show min i j ≤ i by omega), pow_split (show base ≤ min i j by omega) (show min i j ≤ j by omega), ← Int.mul_assoc, ← Int.mul_assoc]
  have hp : (0 : Int) < 2 ^ (min i j - base).toNat := Int.pow_pos (by decide)
  rw [decide_eq_decide]
  exact ⟨fun h => Int.mul_le_mul_of_nonneg_right h (Int.le_of_lt hp), fun h => Int.le_of_mul_le_mul_right h hp⟩
theorem dbl_sw : double.signWeight = 2 ^ 63 := by decide
theorem dbl_bin : double.binade = 2 ^ 52 := by decide
theorem dbl_inf : double.infRung = 2047 * 2 ^ 52 := by decide
theorem dbl_least : double.leastPlace = -1074 := by decide
theorem dbl_fb : double.fractionBits = 52 := rfl

/-- A rung's number at the least place. -/
def rv (r : Nat) : Nat := if r < 2 ^ 52 then r else (2 ^ 52 + r % 2 ^ 52) * 2 ^ (r / 2 ^ 52 - 1)
theorem rv_succ (r : Nat) : rv r ≤ rv (r + 1) := by
  unfold rv
  by_cases h : r + 1 < 2 ^ 52
  · rw [if_pos (by omega), if_pos h]; omega
  · rw [if_neg h]
    by_cases h2 : r < 2 ^ 52
    · have e : r + 1 = 2 ^ 52 := by omega
      rw [if_pos h2, e]; simp; omega
    · rw [if_neg h2]
      by_cases h3 : r % 2 ^ 52 + 1 = 2 ^ 52
      · have e1 : (r + 1) % 2 ^ 52 = 0 := by omega
        have e2 : (r + 1) / 2 ^ 52 = r / 2 ^ 52 + 1 := by omega
        have e3 : 1 ≤ r / 2 ^ 52 := by omega
        obtain ⟨q, hq⟩ : ∃ q, r / 2 ^ 52 = q + 1 := ⟨r / 2 ^ 52 - 1, by omega⟩
        have hm : r % 2 ^ 52 < 2 ^ 52 := Nat.mod_lt _ (by omega)
        rw [e1, e2, hq, Nat.add_sub_cancel, Nat.add_sub_cancel]
        generalize r % 2 ^ 52 = m at hm
        have hp : 2 ^ (q + 1) = 2 ^ q * 2 := Nat.pow_succ ..
        rw [hp]
        refine Nat.le_trans (Nat.mul_le_mul_right (2 ^ q) (show 2 ^ 52 + m ≤ 2 ^ 53 by omega)) ?_
        generalize 2 ^ q = x
        omega
      · have e1 : (r + 1) % 2 ^ 52 = r % 2 ^ 52 + 1 := by omega
        have e2 : (r + 1) / 2 ^ 52 = r / 2 ^ 52 := by omega
        rw [e1, e2]
        exact Nat.mul_le_mul_right _ (by omega)
theorem rv_mono {r r' : Nat} (h : r ≤ r') : rv r ≤ rv r' := by
  induction r' with
  | zero => have : r = 0 := by omega
            subst this; exact Nat.le_refl _
  | succ n ih =>
    by_cases h2 : r = n + 1
    · subst h2; exact Nat.le_refl _
    · exact Nat.le_trans (ih (by omega)) (rv_succ n)

theorem read_word (s : Bool) (r : Nat) (h : r ≤ 2047 * 2 ^ 52) : double.read (double.word s r) =
    if r < 2 ^ 52 then .number s r (-1074) else if r < 2047 * 2 ^ 52 then .number s (2 ^ 52 + r % 2 ^ 52) (-1074 + (r / 2 ^ 52 - 1 : Nat)) else .infinity s := by
  unfold Format.read Format.word
  rw [dbl_sw, dbl_bin, dbl_inf, dbl_least]
  have e1 : ((if s = true then 2 ^ 63 + r else r) / 2 ^ 63 % 2 == 1) = s := by
    cases s <;> simp <;> omega
  have e2 : (if s = true then 2 ^ 63 + r else r) % 2 ^ 63 = r := by
    cases s <;> simp <;> omega
  simp only [e1, e2]
  split
  · rfl
  · split
    · rfl
    · rw [if_pos (by omega)]
theorem le_word_num {s t : Bool} {r r' : Nat} (h : r < 2047 * 2 ^ 52) (h' : r' < 2047 * 2 ^ 52) (hs : sg s (rv r) ≤ sg t (rv r')) : leD (double.read (double.word s r)) (double.read (double.word t r')) = true := by
  have key : ∀ (s : Bool) (r : Nat), r < 2047 * 2 ^ 52 → ∃ m i, double.read (double.word s r) = .number s m i ∧ -1074 ≤ i ∧ sg s m * 2 ^ (i - (-1074)).toNat = sg s (rv r) := by
    intro s r hr
    rw [read_word s r (by omega)]
    by_cases h1 : r < 2 ^ 52
    · refine ⟨r, -1074, by rw [if_pos h1], by omega, ?_⟩
      unfold rv; rw [if_pos h1]; simp
    · refine ⟨_, _, by rw [if_neg h1, if_pos hr], by omega, ?_⟩
      unfold rv; rw [if_neg h1]
      have e : (-1074 + ((r / 2 ^ 52 - 1 : Nat) : Int) - -1074).toNat = r / 2 ^ 52 - 1 := by omega
      rw [e]
      cases s <;> simp [sg, Int.neg_mul]
  obtain ⟨m, i, e1, b1, v1⟩ := key s r h
  obtain ⟨n, j, e2, b2, v2⟩ := key t r' h'
  rw [e1, e2, order_num s t m n i j (-1074) b1 b2, v1, v2]
  simpa using hs

/-- The rung of the nearest word to a whole number. -/
def rung (m : Nat) : Nat := if m = 0 then 0 else (m.log2 + 1022) * 2 ^ 52 + (if m.log2 ≤ 52 then m * 2 ^ (52 - m.log2) else Toward.even.cut false m (m.log2 - 52))
theorem cut_neg (s : Bool) (n d : Nat) : Toward.even.cut s n d = Toward.even.cut false n d := rfl
theorem cut_zero (n : Nat) : Toward.even.cut false n 0 = n := by
  unfold Toward.cut
  simp [Nat.mod_one]
theorem nearest_int (s : Bool) (m : Nat) (h : rung m ≤ 2047 * 2 ^ 52) : double.nearest s m 0 = double.word s (rung m) := by
  unfold Format.nearest rung at *
  by_cases h0 : m = 0
  · rw [if_pos h0, if_pos h0]
  · rw [if_neg h0] at h
    rw [if_neg h0, if_neg h0, dbl_least, dbl_fb, dbl_bin, dbl_inf]
    have e1 : max (0 + (m.log2 : Int) - ((52 : Nat) : Int)) (-1074) = (m.log2 : Int) - 52 := by omega
    have e2 : ((m.log2 : Int) - 52 - -1074).toNat = m.log2 + 1022 := by omega
    simp only [e1, e2, cut_neg s]
    have e3 : Toward.even.cut false (m <<< (0 - ((m.log2 : Int) - 52)).toNat) ((m.log2 : Int) - 52 - 0).toNat = (if m.log2 ≤ 52 then m * 2 ^ (52 - m.log2) else Toward.even.cut false m (m.log2 - 52)) := by
      by_cases hl : m.log2 ≤ 52
      · rw [if_pos hl, show ((m.log2 : Int) - 52 - 0).toNat = 0 by omega, cut_zero, Nat.shiftLeft_eq, show (0 - ((m.log2 : Int) - 52)).toNat = 52 - m.log2 by omega]
      · rw [if_neg hl, show (0 - ((m.log2 : Int) - 52)).toNat = 0 by omega, show ((m.log2 : Int) - 52 - 0).toNat = m.log2 - 52 by omega]; rfl
    rw [e3, Nat.min_eq_left h]
theorem cut_gap {m d : Nat} (h : d ≤ m.log2 + 2) : Toward.even.cut false m d = m / 2 ^ d + (decide (2 ^ d < 2 * (m % 2 ^ d)) || (2 ^ d == 2 * (m % 2 ^ d) && (m / 2 ^ d) % 2 == 1)).toNat := by
  unfold Toward.cut
  simp only [Nat.min_eq_left h, Nat.shiftLeft_eq, Nat.one_mul]
theorem cut_mono {a b d : Nat} (ha : d ≤ a.log2 + 2) (hb : d ≤ b.log2 + 2) (h : a ≤ b) : Toward.even.cut false a d ≤ Toward.even.cut false b d := by
  rw [cut_gap ha, cut_gap hb]
  obtain ⟨g, hg⟩ : ∃ g, 2 ^ d = g := ⟨_, rfl⟩
  have hgp : 0 < g := by rw [← hg]; exact Nat.two_pow_pos d
  rw [hg]
  have hq := Nat.div_le_div_right (c := g) h
  by_cases he : a / g = b / g
  · have hr : a % g ≤ b % g := by
      have h1 := Nat.div_add_mod a g
      have h2 := Nat.div_add_mod b g
      rw [he] at h1; omega
    rw [he]
    refine Nat.add_le_add_left ?_ _
    by_cases c1 : g < 2 * (b % g)
    · simp [c1]; exact Bool.toNat_le _
    · by_cases c2 : g = 2 * (b % g)
      · by_cases c3 : g < 2 * (a % g)
        · omega
        · by_cases c4 : g = 2 * (a % g)
          · have : a % g = b % g := by omega
            rw [this]; exact Nat.le_refl _
          · have c5 : (g == 2 * (a % g)) = false := by simpa using c4
            simp [c3, c5]
      · have c3 : ¬ g < 2 * (a % g) := by omega
        have c4 : ¬ g = 2 * (a % g) := by omega
        have c5 : (g == 2 * (a % g)) = false := by simpa using c4
        simp [c3, c5]
  · have h1 : a / g + 1 ≤ b / g := by omega
    have h2 := Bool.toNat_le (decide (g < 2 * (a % g)) || (g == 2 * (a % g) && (a / g) % 2 == 1))
    omega
theorem kept_range {m : Nat} (h0 : m ≠ 0) : 2 ^ 52 ≤ (if m.log2 ≤ 52 then m * 2 ^ (52 - m.log2) else Toward.even.cut false m (m.log2 - 52)) ∧ (if m.log2 ≤ 52 then m * 2 ^ (52 - m.log2) else Toward.even.cut false m (m.log2 - 52)) ≤ 2 ^ 53 := by
  have hl := Nat.log2_self_le h0
  have hu := @Nat.lt_log2_self m
  by_cases h : m.log2 ≤ 52
  · rw [if_pos h]
    have hp : 2 ^ m.log2 * 2 ^ (52 - m.log2) = 2 ^ 52 := by rw [← Nat.pow_add]; congr 1; omega
    have hp2 : 2 ^ (m.log2 + 1) * 2 ^ (52 - m.log2) = 2 ^ 53 := by rw [← Nat.pow_add]; congr 1; omega
    exact ⟨by rw [← hp]; exact Nat.mul_le_mul_right _ hl, by rw [← hp2]; exact Nat.mul_le_mul_right _ (Nat.le_of_lt hu)⟩
  · rw [if_neg h, cut_gap (by omega)]
    have hg : 0 < 2 ^ (m.log2 - 52) := Nat.two_pow_pos _
    have hp : 2 ^ m.log2 = 2 ^ 52 * 2 ^ (m.log2 - 52) := by rw [← Nat.pow_add]; congr 1; omega
    have hp2 : 2 ^ (m.log2 + 1) = 2 ^ 53 * 2 ^ (m.log2 - 52) := by rw [← Nat.pow_add]; congr 1; omega
    have q1 : 2 ^ 52 ≤ m / 2 ^ (m.log2 - 52) := (Nat.le_div_iff_mul_le hg).2 (by rw [← hp]; exact hl)
    have q2 : m / 2 ^ (m.log2 - 52) < 2 ^ 53 := (Nat.div_lt_iff_lt_mul hg).2 (by rw [← hp2]; exact hu)
    have h2 := Bool.toNat_le (decide (2 ^ (m.log2 - 52) < 2 * (m % 2 ^ (m.log2 - 52))) || (2 ^ (m.log2 - 52) == 2 * (m % 2 ^ (m.log2 - 52)) && (m / 2 ^ (m.log2 - 52)) % 2 == 1))
    exact ⟨by omega, by omega⟩
theorem log2_mono {a b : Nat} (ha : a ≠ 0) (h : a ≤ b) : a.log2 ≤ b.log2 :=
  (Nat.le_log2 (by omega)).2 (Nat.le_trans (Nat.log2_self_le ha) h)
theorem rung_mono {a b : Nat} (h : a ≤ b) : rung a ≤ rung b := by
  unfold rung
  by_cases ha : a = 0
  · rw [if_pos ha]; exact Nat.zero_le _
  have hb : b ≠ 0 := by omega
  rw [if_neg ha, if_neg hb]
  have hl := log2_mono ha h
  have ka := kept_range ha
  have kb := kept_range hb
  by_cases he : a.log2 = b.log2
  · rw [← he]
    refine Nat.add_le_add_left ?_ _
    by_cases hs : a.log2 ≤ 52
    · rw [if_pos hs, if_pos hs]; exact Nat.mul_le_mul_right _ h
    · rw [if_neg hs, if_neg hs]; exact cut_mono (by omega) (by omega) h
  · omega
theorem rung_small {m : Nat} (h : m ≤ 2 ^ 64) : rung m < 2047 * 2 ^ 52 := by
  unfold rung
  by_cases h0 : m = 0
  · rw [if_pos h0]; omega
  · rw [if_neg h0]
    have k := kept_range h0
    have : m.log2 ≤ 64 := by
      have := log2_mono h0 h
      rw [show (2 ^ 64 : Nat).log2 = 64 by decide +kernel] at this
      exact this
    omega
/-- The float of an int. -/
def fi (n : Int) : Datum := double.read (double.nearest (decide (n < 0)) n.natAbs 0)
theorem fi_mono {m n : Int} (hm : m.natAbs ≤ 2 ^ 64) (hn : n.natAbs ≤ 2 ^ 64) (h : m ≤ n) : leD (fi m) (fi n) = true := by
  have r1 := rung_small hm
  have r2 := rung_small hn
  unfold fi
  rw [nearest_int _ _ (Nat.le_of_lt r1), nearest_int _ _ (Nat.le_of_lt r2)]
  refine le_word_num r1 r2 ?_
  by_cases c1 : m < 0
  · by_cases c2 : n < 0
    · have := rv_mono (rung_mono (show n.natAbs ≤ m.natAbs by omega))
      simp [sg, c1, c2]; omega
    · simp [sg, c1, c2] <;> omega
  · have c2 : ¬ n < 0 := by omega
    have := rv_mono (rung_mono (show m.natAbs ≤ n.natAbs by omega))
    simp [sg, c1, c2]; omega
end Go.Proofs.YtdhfbphliejcdaaDoor.Fl

namespace Go.Proofs.YtdhfbphliejcdaaDoor
open Go.RowKit

/-- Is a number within an allowance? -/
def withinB (n : Int) (m : Nat) : Bool := FloatKind.f64.format.order (floatOfInt .f64 n) m == some .lt || FloatKind.f64.format.order (floatOfInt .f64 n) m == some .eq
theorem withinB_eq (n : Int) (m : Nat) : withinB n m = Fl.leD (Fl.fi n) (Ieee.double.read m) := rfl
theorem within_any (n : Int) (m : Nat) (w : World) : Calls Tryd.prog 58 #[.int .i64 n, .float .f64 m] w fun e w' => e = .returned (.bool (withinB n m)) ∧ w' = w := by
  go_enter Tryd.func58, Tryd.ntmps58
  go_wp2
  go_ret
  exact ⟨rfl, rfl⟩
/-- A budget lies here. -/
abbrev budObj (m : Nat) (u : Int) : Obj := .cells #[.float .f64 m, .int .i64 u] 86
theorem bud_cells {w : World} {b : Nat} {x y : Value} {T : TypeId} {fr : Nat × Nat} (h : w.heap[b]? = some (.cells #[x, y] T fr)) : w.cell? ⟨b, 0, none⟩ = some x ∧ w.cell? ⟨b, 1, none⟩ = some y :=
  ⟨by rw [cell_of_row w b 0 _ _ _ h]; rfl, by rw [cell_of_row w b 1 _ _ _ h]; rfl⟩
theorem bud_unfrozen {w : World} {b : Nat} {cs : Array Value} {T : TypeId} (h : w.heap[b]? = some (.cells cs T (0, 0))) (q : Nat) : w.frozen? ⟨b, q, none⟩ = false := by
  unfold World.frozen?
  rw [show (⟨b, q, none⟩ : Addr).block = b from rfl, h]; rfl
theorem new_any (m : Nat) (w : World) : Calls Tryd.prog 30 #[.float .f64 m] w fun e w' => e = .returned (.pointer (some ⟨w.heap.size, 0, none⟩)) ∧ w' = w.alloc (budObj m 0) := by
  go_enter Tryd.func30, Tryd.ntmps30
  go_wp2
  go_ret
  exact ⟨rfl, rfl⟩

set_option maxHeartbeats 1000000 in
theorem take_out (b m : Nat) (u n : Int) (w : World) (h : w.heap[b]? = some (budObj m u)) (h0 : 0 ≤ n) (hu : 0 ≤ u) (hn : n ≤ 9223372036854775807 - u) (hw : withinB (u + n) m = false) : Calls Tryd.prog 59 #[.pointer (some ⟨b, 0, none⟩), .int .i64 n] w fun e w' => e = .returned (.bool false) ∧ ∃ k, w' = w.drewN k := by
  have e1 : decide (n < 0) = false := by simpa using h0
  have e2 : decide (9223372036854775807 - u < n) = false := by simpa using hn
  obtain ⟨c0, c1⟩ := bud_cells h
  have HW := Lib.hid fun w => within_any (u + n) m w
  rw [hw] at HW
  have hs : IntKind.i64.wrap (u + n) = u + n := IntWalk.i64_in _ (by omega)
  clear h hw
  go_enter Tryd.func59, Tryd.ntmps59
  go_wp2_with fail
  go_quiet ((go_at_call 58; exact Calls.quiet_of_same (HW.out _)))
  go_wp2
  go_ret
  exact ⟨rfl, _, rfl⟩
set_option maxHeartbeats 1000000 in
theorem take_yes (b m : Nat) (u n : Int) (w : World) (h : w.heap[b]? = some (budObj m u)) (h0 : 0 ≤ n) (hu : 0 ≤ u) (hn : n ≤ 9223372036854775807 - u) (hw : withinB (u + n) m = true) : Calls Tryd.prog 59 #[.pointer (some ⟨b, 0, none⟩), .int .i64 n] w fun e w' => e = .returned (.bool true) ∧ ∃ k, w' = (w.drewN k).setCell ⟨b, 1, none⟩ (.int .i64 (u + n)) := by
  have e1 : decide (n < 0) = false := by simpa using h0
  have e2 : decide (9223372036854775807 - u < n) = false := by simpa using hn
  obtain ⟨c0, c1⟩ := bud_cells h
  have HW := Lib.hid fun w => within_any (u + n) m w
  rw [hw] at HW
  have hs : IntKind.i64.wrap (u + n) = u + n := IntWalk.i64_in _ (by omega)
  have f1 := bud_unfrozen h 1
  clear h hw
  go_enter Tryd.func59, Tryd.ntmps59
  go_wp2_with fail
  go_quiet ((go_at_call 58; exact Calls.quiet_of_same (HW.out _)))
  go_wp2
  go_ret
  exact ⟨rfl, _, rfl⟩
end Go.Proofs.YtdhfbphliejcdaaDoor

namespace Go.Proofs.YtdhfbphliejcdaaDoor.Dv

def wordsB : List (List UInt8) := wordsL.map fun b => b.data.toList
/-- The rule of a word; nought: there is none. -/
def ruleN (s : List UInt8) : Int := match idxL s wordsB with
  | some i => (i : Int) + 1
  | none => 0
/-- A fault: of the text (0), too deep (1), too many (2); and where. -/
abbrev PF := Nat × Nat
abbrev DP := Nat → Nat → List Tok → Except PF (Tm × Nat × List Tok)
def numD (E : Nat) (r : Int) (ts : List Tok) : Except PF (Int × List Tok) :=
  if r = 1 ∨ r = 2 then (match takeT E 4 ts with
    | .error e => .error (0, e)
    | .ok (t, q) => .ok ((((getB t.s).getD 0 : Nat) : Int), q)) else .ok (0, ts)
def kidsD (dp : DP) (d : Nat) : Nat → Nat → List Tok → Except PF (List Tm × Nat × List Tok)
  | 0, u, ts => .ok ([], u, ts)
  | c + 1, u, ts => match dp d u ts with
    | .error e => .error e
    | .ok (t, u1, r) => match kidsD dp d c u1 r with
      | .error e => .error e
      | .ok (l, u2, r2) => .ok (t :: l, u2, r2)
/-- What stands behind a derivation's bracket. -/
def ruleD (dp : DP) (E d u : Nat) (ts : List Tok) : Except PF (Tm × Nat × List Tok) :=
  match takeT E 3 ts with
  | .error e => .error (0, e)
  | .ok (w, r1) =>
    if ruleN w.s = 0 then .error (0, w.at_) else
    match numD E (ruleN w.s) r1 with
    | .error e => .error e
    | .ok (n, r2) => match kidsD dp (d + 1) (dkidsN (ruleN w.s)).toNat (u + 1) r2 with
      | .error e => .error e
      | .ok (l, u2, r3) => match takeT E 2 r3 with
        | .error e => .error (0, e)
        | .ok (_, r4) => .ok (.mk (ruleN w.s) n l, u2, r4)
/-- A derivation at a depth, u nodes being used up. -/
def derP (deep nodes E : Nat) : Nat → DP
  | 0, _, _, ts => .error (0, hereT E ts)
  | f + 1, d, u, ts => match takeT E 1 ts with
    | .error e => .error (0, e)
    | .ok (o, r) =>
      if withinB d deep = false then .error (1, o.at_)
      else if withinB (u + 1 : Nat) nodes = false then .error (2, o.at_)
      else ruleD (derP deep nodes E f) E d u r
def ctxD (dp : DP) (E : Nat) : Nat → Nat → List Tok → Except PF (List Tm × Nat × List Tok)
  | 0, _, ts => .error (0, hereT E ts)
  | f + 1, u, ts => if ((ts.head?.map fun t => t.k == 2).getD false) = true then .ok ([], u, ts)
    else match dp 1 u ts with
      | .error e => .error e
      | .ok (t, u1, r) => match ctxD dp E f u1 r with
        | .error e => .error e
        | .ok (l, u2, r2) => .ok (t :: l, u2, r2)
def fileW : List UInt8 := [102, 105, 108, 101]
def fileP (dp : DP) (E f : Nat) (ts : List Tok) : Except PF ((List Tm × Tm) × List Tok) :=
  match takeT E 1 ts with
  | .error e => .error (0, e)
  | .ok (_, r1) => match takeT E 3 r1 with
    | .error e => .error (0, e)
    | .ok (w, r2) => if w.s = fileW then
        match takeT E 1 r2 with
        | .error e => .error (0, e)
        | .ok (_, r3) => match ctxD dp E f 0 r3 with
          | .error e => .error e
          | .ok (c, u, r4) => match takeT E 2 r4 with
            | .error e => .error (0, e)
            | .ok (_, r5) => match dp 1 u r5 with
              | .error e => .error e
              | .ok (t, _, r6) => match takeT E 2 r6 with
                | .error e => .error (0, e)
                | .ok (_, r7) => .ok ((c, t), r7)
      else .error (0, w.at_)
/-- A file of a text. -/
def parseB (l : List UInt8) (deep nodes : Nat) : Except PF (List Tm × Tm) :=
  match fileP (derP deep nodes (ofL l).2.1 ((ofL l).1.length + 1)) (ofL l).2.1 ((ofL l).1.length + 1) (ofL l).1 with
  | .error e => .error e
  | .ok (x, r) => match endP (ofL l).2.1 (ofL l).2.2 r with
    | .error a => .error (0, a)
    | .ok _ => .ok x

theorem idxL_some {x : List UInt8} : ∀ {l : List (List UInt8)} {q : Nat}, idxL x l = some q → l[q]? = some x ∧ ∀ j < q, l[j]? ≠ some x
  | [], q, h => by cases h
  | y :: r, q, h => by
    unfold idxL at h
    split at h
    · rename_i e
      obtain rfl := Option.some.inj h
      subst e
      exact ⟨rfl, fun j hj => by omega⟩
    · rename_i e
      obtain ⟨p, hp, rfl⟩ := Option.map_eq_some_iff.1 h
      obtain ⟨h1, h2⟩ := idxL_some hp
      refine ⟨by simpa using h1, fun j hj => ?_⟩
      match j with
      | 0 => simp only [List.getElem?_cons_zero]; exact fun h => e (Option.some.inj h)
      | j + 1 => simp only [List.getElem?_cons_succ]; exact h2 j (by omega)
theorem idxL_none {x : List UInt8} : ∀ {l : List (List UInt8)}, idxL x l = none → ∀ j : Nat, l[j]? ≠ some x
  | [], h, j => by simp
  | y :: r, h, j => by
    unfold idxL at h
    split at h
    · cases h
    · rename_i e
      have hp := Option.map_eq_none_iff.1 h
      match j with
      | 0 => simp only [List.getElem?_cons_zero]; exact fun h => e (Option.some.inj h)
      | j + 1 => simp only [List.getElem?_cons_succ]; exact idxL_none hp j
theorem wordsB_at (j : Nat) (h1 : 1 ≤ j) (h2 : j ≤ 28) : wordsB[j - 1]? = some (wordN (j : Int)).data.toList := by
  have hl : wordsL.length = 28 := rfl
  unfold wordsB wordN
  rw [List.getElem?_map, if_pos (by omega), show ((j : Int) - 1).toNat = j - 1 by omega, List.getElem?_eq_getElem (by omega)]
  rfl
theorem word_list {b : ByteArray} {s : List UInt8} : b.data.toList = s ↔ b = ⟨s.toArray⟩ := by
  constructor
  · rintro rfl; rfl
  · rintro rfl; rfl
theorem ruleN_is (s : List UInt8) : RuleIs ⟨s.toArray⟩ (ruleN s) := by
  unfold ruleN
  cases h : idxL s wordsB with
  | some q =>
    obtain ⟨h1, h2⟩ := idxL_some h
    have hq : q < 28 := idxL_lt h
    refine Or.inl ⟨q + 1, by omega, by omega, ?_, fun j hj1 hj2 e => ?_, by simp⟩
    · have := wordsB_at (q + 1) (by omega) (by omega)
      rw [Nat.add_sub_cancel, h1] at this
      exact (word_list.1 (Option.some.inj this).symm)
    · have := wordsB_at j hj1 (by omega)
      exact h2 (j - 1) (by omega) (by rw [this, e])
  | none =>
    refine Or.inr ⟨fun j hj1 hj2 e => ?_, rfl⟩
    have := wordsB_at j hj1 hj2
    exact idxL_none h (j - 1) (by rw [this, e])
theorem ruleN_range (s : List UInt8) : 0 ≤ ruleN s ∧ ruleN s ≤ 28 := by
  unfold ruleN
  split
  · rename_i i h
    have : i < 28 := idxL_lt h
    omega
  · omega
theorem dkids_nn {r : Int} (h : 1 ≤ r ∧ r ≤ 28) : 0 ≤ dkidsN r ∧ dkidsN r ≤ 4 := by
  rcases in28 h with rfl | rfl | rfl | rfl | rfl | rfl | rfl | rfl | rfl | rfl | rfl | rfl | rfl | rfl | rfl | rfl | rfl | rfl | rfl | rfl | rfl | rfl | rfl | rfl | rfl | rfl | rfl | rfl <;> decide

/-- What is left is shorter, and no more nodes are used up than there are tokens. -/
def DpL (dp : DP) : Prop := ∀ d u ts t u2 r, dp d u ts = .ok (t, u2, r) → r.length < ts.length ∧ u2 + r.length ≤ u + ts.length ∧ u < u2
theorem kidsD_len {dp : DP} (h : DpL dp) {d : Nat} : ∀ {c u : Nat} {ts r : List Tok} {l : List Tm} {u2 : Nat}, kidsD dp d c u ts = .ok (l, u2, r) → r.length ≤ ts.length ∧ u2 + r.length ≤ u + ts.length ∧ u ≤ u2 ∧ l.length = c
  | 0, u, ts, r, l, u2, e => by unfold kidsD at e; cases e; exact ⟨Nat.le_refl _, Nat.le_refl _, Nat.le_refl _, rfl⟩
  | c + 1, u, ts, r, l, u2, e => by
    unfold kidsD at e
    split at e
    · cases e
    · rename_i t u1 r1 h1
      have l1 := h _ _ _ _ _ _ h1
      split at e
      · cases e
      · rename_i l2 u3 r2 h2
        have l2 := kidsD_len h h2
        cases e
        refine ⟨by omega, by omega, by omega, by simp; omega⟩
theorem numD_le {E : Nat} {k : Int} {ts r : List Tok} {n : Int} (h : numD E k ts = .ok (n, r)) : r.length ≤ ts.length ∧ 0 ≤ n := by
  unfold numD at h
  split at h
  · split at h
    · cases h
    · rename_i t q h0
      have := takeT_len h0
      cases h
      exact ⟨by omega, by omega⟩
  · cases h; exact ⟨Nat.le_refl _, Int.le_refl _⟩
theorem ruleD_len {dp : DP} (hd : DpL dp) {E d u : Nat} {ts r : List Tok} {t : Tm} {u2 : Nat} (h : ruleD dp E d u ts = .ok (t, u2, r)) : r.length < ts.length ∧ u2 + r.length < u + ts.length ∧ u < u2 := by
  unfold ruleD at h
  split at h
  · cases h
  · rename_i w r1 h1
    have l1 := takeT_len h1
    split at h
    · cases h
    · split at h
      · cases h
      · rename_i n r2 h2
        have l2 := (numD_le h2).1
        split at h
        · cases h
        · rename_i l u3 r3 h3
          have l3 := kidsD_len hd h3
          split at h
          · cases h
          · rename_i z r4 h4
            have l4 := takeT_len h4
            cases h
            exact ⟨by omega, by omega, by omega⟩
theorem derP_len {deep nodes E : Nat} : ∀ f, DpL (derP deep nodes E f)
  | 0 => fun d u ts t u2 r h => by cases h
  | f + 1 => fun d u ts t u2 r h => by
    unfold derP at h
    split at h
    · cases h
    · rename_i o r0 h0
      have l0 := takeT_len h0
      split at h
      · cases h
      · split at h
        · cases h
        · have := ruleD_len (derP_len f) h
          omega
theorem ctxD_len {dp : DP} (hd : DpL dp) {E : Nat} : ∀ {f u : Nat} {ts r : List Tok} {l : List Tm} {u2 : Nat}, ctxD dp E f u ts = .ok (l, u2, r) → r.length ≤ ts.length ∧ u2 + r.length ≤ u + ts.length ∧ l.length + r.length ≤ ts.length
  | 0, u, ts, r, l, u2, h => by cases h
  | f + 1, u, ts, r, l, u2, h => by
    unfold ctxD at h
    split at h
    · cases h; exact ⟨Nat.le_refl _, Nat.le_refl _, by simp⟩
    · split at h
      · cases h
      · rename_i t u1 r1 h1
        have l1 := hd _ _ _ _ _ _ h1
        split at h
        · cases h
        · rename_i l2 u3 r2 h2
          have l2 := ctxD_len hd h2
          cases h
          refine ⟨by omega, by omega, by simp; omega⟩
end Go.Proofs.YtdhfbphliejcdaaDoor.Dv

namespace Go.Proofs.YtdhfbphliejcdaaDoor.Dv
open Go.RowKit

/-- A new block of five cells, asked for later. -/
theorem box_cells {w wr : World} {v0 v1 v2 : Value} {T : TypeId} (h : Below (w.heap.size + 1) (w.alloc (.cells #[v0, v1, v2] T)) wr) :
    wr.cell? ⟨w.heap.size, 0, none⟩ = some v0 ∧ wr.cell? ⟨w.heap.size, 1, none⟩ = some v1 ∧ wr.cell? ⟨w.heap.size, 2, none⟩ = some v2 := by
  have key : ∀ o, wr.cell? ⟨w.heap.size, o, none⟩ = (#[v0, v1, v2] : Array Value)[o]? := fun o => by
    rw [h.cell (p := ⟨w.heap.size, o, none⟩) (by exact Nat.lt_succ_self _), World.cell?_alloc_at _ _ _ _ rfl]
  exact ⟨by rw [key]; rfl, by rw [key]; rfl, by rw [key]; rfl⟩

end Go.Proofs.YtdhfbphliejcdaaDoor.Dv

namespace Go.Proofs.YtdhfbphliejcdaaDoor.Dv
open Go.RowKit

/-- The block of a term by value. -/
def boxOf (t : Tm) (s : Value) : Obj := .cells #[.int .i64 t.k, .int .i64 t.i, s] 24

/-- Beside the boxed term there is only what is new. -/
def Held (w : World) (t : Tm) (s : Value) (w' : World) : Prop := Below (w.heap.size + 1) (w.alloc (boxOf t s)) w'

theorem held_start (w : World) (t : Tm) (s : Value) : Held w t s (w.alloc (.cells #[.int .i64 t.k, .int .i64 t.i, s] 24)) := Below.refl _ _
theorem held_cells {w w' : World} {t : Tm} {s : Value} (h : Held w t s w') : w'.cell? ⟨w.heap.size, 0, none⟩ = some (.int .i64 t.k) ∧ w'.cell? ⟨w.heap.size, 1, none⟩ = some (.int .i64 t.i) ∧ w'.cell? ⟨w.heap.size, 2, none⟩ = some s := box_cells h
theorem held_call {w w1 w2 : World} {t : Tm} {s : Value} (h : Held w t s w1) (hb : Below w1.heap.size w1 w2) : Held w t s w2 :=
  below_call h hb (by have := h.size; simpa using this)
theorem held_below {w w1 : World} {t : Tm} {s : Value} (h : Held w t s w1) : Below w.heap.size w w1 := below_of_box h
end Go.Proofs.YtdhfbphliejcdaaDoor.Dv
