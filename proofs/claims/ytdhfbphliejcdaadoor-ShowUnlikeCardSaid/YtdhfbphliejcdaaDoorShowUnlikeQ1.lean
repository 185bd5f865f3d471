/-
  Facts and contracts that the proof of ShowUnlike uses.
-/
import Derived.Lib.ItoaNum
import Derived.Lib.ItoaLen
import Derived.Test.YtdhfbphliejcdaaDoorRows
import Derived.WalkKit
import Derived.Lib.Hide
import Derived.ProofKit
import Derived.LoopTactic
import Derived.Below
import Derived.IntWalk
import Derived.Lib.Strings
import Derived.Laws.Strings2
import Derived.Deep.AppendLies
import Derived.Laws.Rows
import Derived.OwnWalk
import Derived.KernelRfl
import Derived.Deep.RegionHeld3
import Derived.Lib.Builder
import Derived.WalkSmall
import Derived.Maps.GroupsBeside
import Derived.Maps.StringElems
import Derived.Laws.OwnMore
import Derived.Deep.RegionLaw
import Derived.Maps.AppendAt
import Derived.Deep.Cut
import Derived.Deep.DeepCutAuto
import Derived.Maps.OwnOps
import Derived.Maps.OwnSet
import Derived.Lib.MinMax
import Derived.Laws.IdiomCopy
import Derived.Deep.Slices
import Derived.Lib.QuietBelow
import Derived.StillTailTactics
import Derived.BigQuiet
import Derived.Deep.RegionWith
import Derived.OrdersHeld
import Derived.Laws.StructEq
import GoSem.Core.Float
import Derived.Laws.Cover2
import Derived.Laws.FloatArith
import Derived.Laws.Externs
import Derived.Deep.QuietTactic
import Derived.Recover
import Derived.RegionTactic
import Derived.Defers
import Derived.Test.YtdhfbphliejcdaaDoorShelf
import Derived.Lib.AppendIntMem
import Derived.Lib.LaidTab
import Derived.Lib.AppendStr
import Derived.Lib.UnsafeStr
import Derived.Shelf.RegionOpenPlain
import Derived.Laws.AppendOwn
import Derived.Deep.CutBlock
import Derived.Deep.LoopGhost
import Derived.Laws.BytesArg
import Derived.Laws.AppendOwnNone
import Derived.OpenShut
import Derived.Carry
import Derived.LaidMore
import Derived.LaidSub
import Derived.LaidHandle
import Derived.Stop.Joined
import Derived.JoinedOf
import Derived.Test.YtdhfbphliejcdaaDoorCards
import Derived.Test.YtdhfbphliejcdaaDoorTie
import Derived.SevenTiedAt
import Derived.ChangeMaps5
namespace Go.Proofs.YtdhfbphliejcdaaDoor
open Go.Lib

/-- What a list of digits says. -/
def val (l : List UInt8) : Nat := l.foldl (fun n c => 10 * n + (c.toNat - 48)) 0
def isd (c : UInt8) : Bool := decide (48 ≤ c.toNat) && decide (c.toNat ≤ 57)
def digs (l : List UInt8) : Bool := l.all isd

theorem val_snoc (l : List UInt8) (c : UInt8) : val (l ++ [c]) = 10 * val l + (c.toNat - 48) := by simp [val]
theorem digs_snoc (l : List UInt8) (c : UInt8) : digs (l ++ [c]) = (digs l && isd c) := by simp [digs]

/-- The number that a text says, if it says one. -/
def getB (l : List UInt8) : Option Nat :=
  if l = [] ∨ (1 < l.length ∧ l.head? = some 48) then none
  else if digs l = true ∧ val l ≤ 1000000 then some (val l) else none

theorem ofNat_toNat (k : Nat) (h : k < 10) : (UInt8.ofNat (48 + k)).toNat = 48 + k := by
  rw [UInt8.toNat_ofNat']; omega
theorem dec_val (u : Nat) : val (decDigits u) = u := by
  induction u using Nat.strongRecOn with
  | ind u ih =>
    by_cases h : u < 10
    · rw [decDigits_one h]; simp only [val, List.foldl_cons, List.foldl_nil]; rw [ofNat_toNat u h]; omega
    · rw [decDigits, dif_neg h, val_snoc, ih (u / 10) (by omega), ofNat_toNat _ (by omega)]; omega
theorem dec_digs (u : Nat) : digs (decDigits u) = true := by
  induction u using Nat.strongRecOn with
  | ind u ih =>
    by_cases h : u < 10
    · rw [decDigits_one h]; simp only [digs, List.all_cons, List.all_nil, Bool.and_true, isd]; rw [ofNat_toNat u h]; simp; omega
    · rw [decDigits, dif_neg h, digs_snoc, ih (u / 10) (by omega)]; simp only [isd]; rw [ofNat_toNat _ (by omega)]; simp; omega
theorem dec_inj {a b : Nat} (h : decDigits a = decDigits b) : a = b := by rw [← dec_val a, h, dec_val]
theorem dec_not_neg (u : Nat) (l : List UInt8) : decDigits u ≠ 45 :: l := fun h => by
  have := dec_digs u; rw [h] at this; simp [digs, isd] at this
theorem itoa_inj {a b : Int} (h : itoa a = itoa b) : a = b := by
  unfold itoa at h
  by_cases ha : a < 0 <;> by_cases hb : b < 0
  · rw [if_pos ha, if_pos hb] at h; have := dec_inj (List.cons.inj h).2; omega
  · rw [if_pos ha, if_neg hb] at h; exact absurd h.symm (dec_not_neg _ _)
  · rw [if_neg ha, if_pos hb] at h; exact absurd h (dec_not_neg _ _)
  · rw [if_neg ha, if_neg hb] at h; have := dec_inj h; omega
end Go.Proofs.YtdhfbphliejcdaaDoor

namespace Go.Proofs.YtdhfbphliejcdaaDoor
open Go.RowKit

def givenN (s : Int) : Int := if s = 3 ∨ s = 5 ∨ s = 6 ∨ s = 8 ∨ s = 10 ∨ s = 11 then 4 else if s = 1 ∨ s = 2 ∨ s = 7 ∨ s = 9 then 5 else if s = 4 ∨ s = 12 ∨ s = 13 ∨ s = 14 ∨ s = 21 then 6 else if s = 15 ∨ s = 18 ∨ s = 19 ∨ s = 20 then 9 else if s = 16 ∨ s = 17 then 12 else -1

def kidsN (k s : Int) : Int :=
  if k = 1 ∨ k = 2 then 0 else if k = 18 ∨ k = 19 then 1 else if k = 3 ∨ k = 6 ∨ k = 13 ∨ k = 14 ∨ k = 15 ∨ k = 16 ∨ k = 21 ∨ k = 11 then 2
  else if k = 4 ∨ k = 8 ∨ k = 9 ∨ k = 10 ∨ k = 20 then 3 else if k = 5 ∨ k = 7 ∨ k = 12 ∨ k = 17 then 4 else if k = 22 then 6 else if k = 23 then givenN s else -1

def bindsN (k i : Int) : Int :=
  if k = 3 ∨ k = 5 ∨ k = 6 ∨ k = 7 ∨ k = 8 ∨ k = 9 ∨ k = 13 ∨ k = 14 ∨ k = 16 ∨ k = 17 then (if i = 1 then 1 else 0)
  else if k = 4 then (if i = 1 ∨ i = 2 then 1 else 0) else if k = 22 then (if i = 2 then 2 else 0) else 0

theorem ret_int {a b : Int} (h : a = b) : Ending.returned (.int .i64 a) = .returned (.int .i64 b) := by rw [h]
theorem ret_bool {a b : Bool} (h : a = b) : Ending.returned (.bool a) = .returned (.bool b) := by rw [h]

def levelB (i : Int) : Bool := decide (0 ≤ i) && decide (i ≤ 1000)
end Go.Proofs.YtdhfbphliejcdaaDoor

namespace Go.Proofs.YtdhfbphliejcdaaDoor
open Go.Lib

def headsW : List (List UInt8) := [[], [115, 111, 114, 116], [], [112, 105], [108, 97, 109], [97, 112, 112], [115, 105, 103], [112, 97, 105, 114], [102, 115, 116], [115, 110, 100], [101, 113], [114, 101, 102, 108], [116, 114], [80, 105], [76, 97, 109], [65, 112, 112], [83, 105, 103], [80, 97, 105, 114], [70, 115, 116], [83, 110, 100], [69, 113], [82, 101, 102, 108], [74], [117, 115, 101]]
def symsW : List (List UInt8) := [[117, 105, 112], [102, 117, 110, 101, 120, 116], [115, 121, 109], [116, 114, 97, 110, 115], [116, 114], [104, 101, 116], [116, 121, 112], [116, 114, 104], [104, 112], [104, 50, 101], [101, 50, 104], [114, 112], [99, 112, 105], [99, 115, 105, 103], [99, 108, 97, 109], [99, 97, 112, 112], [99, 112, 97, 105, 114], [99, 102, 115, 116], [99, 115, 110, 100], [99, 101, 113], [99, 114, 101, 102, 108]]
def headL (k : Int) : List UInt8 := (headsW[k.toNat]?).getD []
def symL (n : Int) : List UInt8 := if 1 ≤ n ∧ n ≤ 21 then (symsW[(n - 1).toNat]?).getD [] else []
def nameW (n : Int) : List UInt8 := 118 :: itoa n
def levelsN (k : Int) : Int := if k = 1 ∨ k = 10 ∨ k = 11 ∨ k = 12 then 1 else if k = 3 ∨ k = 4 ∨ k = 5 ∨ k = 6 ∨ k = 7 ∨ k = 8 ∨ k = 9 ∨ k = 23 then 2 else 0
def lvlL (k i j : Int) : List UInt8 := if levelsN k = 1 then 32 :: itoa i else if levelsN k = 2 then 32 :: (itoa i ++ 32 :: itoa j) else []
/-- What stands ahead of the kids. -/
def frontL (k i j n m : Int) : List UInt8 := (if k = 23 then 32 :: symL n else []) ++ (lvlL k i j ++ (if 0 < bindsN k 1 then 32 :: nameW m else []))
/-- What stands ahead of a kid. -/
def midL (k : Int) (p : Nat) (m : Int) : List UInt8 := if k = 22 ∧ p = 2 then 32 :: (nameW m ++ 32 :: nameW (m + 1)) else []
end Go.Proofs.YtdhfbphliejcdaaDoor

namespace Go.Proofs.YtdhfbphliejcdaaDoor

def blankC (c : UInt8) : Bool := c.toNat == 32 || c.toNat == 9 || c.toNat == 10
def lineC (c : UInt8) : Bool := !(c.toNat == 10)
def letterC (c : UInt8) : Bool := (decide (97 ≤ c.toNat) && decide (c.toNat ≤ 122)) || (decide (65 ≤ c.toNat) && decide (c.toNat ≤ 90))
def wordC (c : UInt8) : Bool := letterC c || isd c
/-- How many of the first bytes are of a sort. -/
def runL (p : UInt8 → Bool) : List UInt8 → Nat
  | [] => 0
  | c :: r => if p c = true then runL p r + 1 else 0
theorem runL_le (p : UInt8 → Bool) : ∀ l, runL p l ≤ l.length
  | [] => Nat.le_refl _
  | c :: r => by unfold runL; split <;> simp <;> have := runL_le p r <;> omega
theorem runL_yes {p : UInt8 → Bool} {c : UInt8} {r : List UInt8} (h : p c = true) : runL p (c :: r) = runL p r + 1 := by rw [runL, if_pos h]
theorem runL_no {p : UInt8 → Bool} {c : UInt8} {r : List UInt8} (h : p c = false) : runL p (c :: r) = 0 := by rw [runL, if_neg (by rw [h]; decide)]
/-- How many bytes of blanks and remarks stand first. -/
def skipL (l : List UInt8) : Nat :=
  match l with
  | [] => 0
  | c :: r => if blankC c = true then skipL r + 1
    else if c.toNat = 59 then runL lineC r + 1 + skipL (r.drop (runL lineC r))
    else 0
termination_by l.length
decreasing_by
  · simp
  · simp; omega
theorem skipL_blank {c : UInt8} {r : List UInt8} (h : blankC c = true) : skipL (c :: r) = skipL r + 1 := by rw [skipL, if_pos h]
theorem skipL_stop {c : UInt8} {r : List UInt8} (h : blankC c = false) (h2 : ¬ c.toNat = 59) : skipL (c :: r) = 0 := by rw [skipL, if_neg (by rw [h]; decide), if_neg h2]
/-- The kind and the length of the token that stands first. -/
def nextL (l : List UInt8) : Option (Nat × Nat) :=
  match l with
  | [] => none
  | c :: r =>
    if c.toNat = 40 then some (1, 1)
    else if c.toNat = 41 then some (2, 1)
    else if letterC c = true then (if 20 < runL wordC (c :: r) then none else some (3, runL wordC (c :: r)))
    else if isd c = true then (if getB ((c :: r).take (runL isd (c :: r))) = none ∨ ((((c :: r).drop (runL isd (c :: r))).head?.map letterC).getD false) = true then none else some (4, runL isd (c :: r)))
    else none
theorem nextL_range {l : List UInt8} {k n : Nat} (h : nextL l = some (k, n)) : 1 ≤ n ∧ n ≤ l.length ∧ 1 ≤ k ∧ k ≤ 4 := by
  match l with
  | [] => cases h
  | c :: r =>
    have hw := runL_le wordC (c :: r)
    have hd := runL_le isd (c :: r)
    rw [nextL] at h
    by_cases c1 : c.toNat = 40
    · rw [if_pos c1] at h; cases h; simp
    rw [if_neg c1] at h
    by_cases c2 : c.toNat = 41
    · rw [if_pos c2] at h; cases h; simp
    rw [if_neg c2] at h
    by_cases c3 : letterC c = true
    · rw [if_pos c3] at h
      by_cases c4 : 20 < runL wordC (c :: r)
      · rw [if_pos c4] at h; cases h
      · rw [if_neg c4] at h
        cases h
        have : runL wordC (c :: r) = runL wordC r + 1 := runL_yes (by unfold wordC; rw [c3]; rfl)
        omega
    rw [if_neg c3] at h
    by_cases c5 : isd c = true
    · rw [if_pos c5] at h
      by_cases c6 : getB ((c :: r).take (runL isd (c :: r))) = none ∨ ((((c :: r).drop (runL isd (c :: r))).head?.map letterC).getD false) = true
      · rw [if_pos c6] at h; cases h
      · rw [if_neg c6] at h
        cases h
        have : runL isd (c :: r) = runL isd r + 1 := runL_yes c5
        omega
    · rw [if_neg c5] at h; cases h
structure Tok where
  k : Nat
  s : List UInt8
  at_ : Nat
/-- The tokens from a place on, and the place of the first fault. -/
def lexL (l : List UInt8) (p : Nat) : List Tok × Option Nat :=
  if _h : p + skipL (l.drop p) < l.length then
    match _hn : nextL (l.drop (p + skipL (l.drop p))) with
    | none => ([], some (p + skipL (l.drop p)))
    | some (k, n) =>
      let r := lexL l (p + skipL (l.drop p) + n)
      (⟨k, (l.drop (p + skipL (l.drop p))).take n, p + skipL (l.drop p)⟩ :: r.1, r.2)
  else ([], none)
termination_by l.length - p
decreasing_by
  have := nextL_range _hn
  omega
theorem lexL_end {l : List UInt8} {p : Nat} (h : ¬ p + skipL (l.drop p) < l.length) : lexL l p = ([], none) := by rw [lexL, dif_neg h]
theorem lexL_fault {l : List UInt8} {p q : Nat} (hq : p + skipL (l.drop p) = q) (h : q < l.length) (hn : nextL (l.drop q) = none) : lexL l p = ([], some q) := by
  subst hq
  rw [lexL, dif_pos h]
  split
  · rfl
  · rename_i e; rw [hn] at e; cases e
theorem lexL_next {l : List UInt8} {p q k n : Nat} (hq : p + skipL (l.drop p) = q) (h : q < l.length) (hn : nextL (l.drop q) = some (k, n)) : lexL l p = (⟨k, (l.drop q).take n, q⟩ :: (lexL l (q + n)).1, (lexL l (q + n)).2) := by
  subst hq
  rw [lexL, dif_pos h]
  split
  · rename_i e; rw [hn] at e; cases e
  · rename_i e; rw [hn] at e; cases e; rfl
/-- Two places with the same token behind them. -/
theorem lexL_same {l : List UInt8} {p q : Nat} (h : p + skipL (l.drop p) = q + skipL (l.drop q)) : lexL l p = lexL l q := by
  by_cases h1 : q + skipL (l.drop q) < l.length
  · cases hn : nextL (l.drop (q + skipL (l.drop q))) with
    | none => rw [lexL_fault h h1 hn, lexL_fault rfl h1 hn]
    | some x => obtain ⟨k, n⟩ := x; rw [lexL_next h h1 hn, lexL_next rfl h1 hn]
  · rw [lexL_end h1, lexL_end (by rw [h]; exact h1)]
end Go.Proofs.YtdhfbphliejcdaaDoor

namespace Go.Proofs.YtdhfbphliejcdaaDoor
open Go.RowKit

theorem next_open {c : UInt8} {r : List UInt8} (h : c.toNat = 40) : nextL (c :: r) = some (1, 1) := by rw [nextL, if_pos h]
theorem next_close {c : UInt8} {r : List UInt8} (h : c.toNat = 41) : nextL (c :: r) = some (2, 1) := by rw [nextL, if_neg (by omega), if_pos h]
theorem next_long {c : UInt8} {r : List UInt8} (h1 : c.toNat ≠ 40) (h2 : c.toNat ≠ 41) (h3 : letterC c = true) (h4 : 20 < runL wordC (c :: r)) : nextL (c :: r) = none := by rw [nextL, if_neg h1, if_neg h2, if_pos h3, if_pos h4]
theorem next_word {c : UInt8} {r : List UInt8} (h1 : c.toNat ≠ 40) (h2 : c.toNat ≠ 41) (h3 : letterC c = true) (h4 : ¬ 20 < runL wordC (c :: r)) : nextL (c :: r) = some (3, runL wordC (c :: r)) := by rw [nextL, if_neg h1, if_neg h2, if_pos h3, if_neg h4]
theorem next_bad {c : UInt8} {r : List UInt8} (h1 : c.toNat ≠ 40) (h2 : c.toNat ≠ 41) (h3 : letterC c = false) (h4 : isd c = true) (h5 : getB ((c :: r).take (runL isd (c :: r))) = none ∨ ((((c :: r).drop (runL isd (c :: r))).head?.map letterC).getD false) = true) : nextL (c :: r) = none := by rw [nextL, if_neg h1, if_neg h2, if_neg (by rw [h3]; decide), if_pos h4, if_pos h5]
theorem next_num {c : UInt8} {r : List UInt8} (h1 : c.toNat ≠ 40) (h2 : c.toNat ≠ 41) (h3 : letterC c = false) (h4 : isd c = true) (h5 : ¬ (getB ((c :: r).take (runL isd (c :: r))) = none ∨ ((((c :: r).drop (runL isd (c :: r))).head?.map letterC).getD false) = true)) : nextL (c :: r) = some (4, runL isd (c :: r)) := by rw [nextL, if_neg h1, if_neg h2, if_neg (by rw [h3]; decide), if_pos h4, if_neg h5]
theorem next_other {c : UInt8} {r : List UInt8} (h1 : c.toNat ≠ 40) (h2 : c.toNat ≠ 41) (h3 : letterC c = false) (h4 : isd c = false) : nextL (c :: r) = none := by rw [nextL, if_neg h1, if_neg h2, if_neg (by rw [h3]; decide), if_neg (by rw [h4]; decide)]
end Go.Proofs.YtdhfbphliejcdaaDoor

namespace Go.Proofs.YtdhfbphliejcdaaDoor
open Go.RowKit

def cells3 : List Tok → List Value
  | [] => []
  | t :: r => .int .i64 t.k :: .string ⟨t.s.toArray⟩ :: .int .i64 t.at_ :: cells3 r
end Go.Proofs.YtdhfbphliejcdaaDoor

namespace Go.Proofs.YtdhfbphliejcdaaDoor
open Go.RowKit

/-- A term: its kind, its three numbers, its kids. -/
inductive Tm where
  | mk (k i j n : Int) (l : List Tm)

namespace Tm
def k : Tm → Int | .mk k _ _ _ _ => k
def i : Tm → Int | .mk _ i _ _ _ => i
def j : Tm → Int | .mk _ _ j _ _ => j
def n : Tm → Int | .mk _ _ _ n _ => n
def kids : Tm → List Tm | .mk _ _ _ _ l => l
theorem eta (t : Tm) : Tm.mk t.k t.i t.j t.n t.kids = t := by cases t; rfl

theorem ind {P : Tm → Prop} (h : ∀ t, (∀ x ∈ t.kids, P x) → P t) : ∀ t, P t
  | .mk k i j n l => h (.mk k i j n l) (fun x (_ : x ∈ l) => ind h x)
end Tm

def I64 (x : Int) : Prop := -9223372036854775808 ≤ x ∧ x ≤ 9223372036854775807
def Tm.fine (t : Tm) : Prop := I64 t.k ∧ I64 t.i ∧ I64 t.j ∧ I64 t.n

/-- A term by value: s is the slice of its kids. -/
abbrev tv (t : Tm) (s : Value) : Value := .agg #[.int .i64 t.k, .int .i64 t.i, .int .i64 t.j, .int .i64 t.n, s]

/-- The five cells of a term at a place. -/
structure Node (w : World) (b o : Nat) (t : Tm) (s : Value) : Prop where
  c0 : w.cell? ⟨b, o, none⟩ = some (.int .i64 t.k)
  c1 : w.cell? ⟨b, o + 1, none⟩ = some (.int .i64 t.i)
  c2 : w.cell? ⟨b, o + 2, none⟩ = some (.int .i64 t.j)
  c3 : w.cell? ⟨b, o + 3, none⟩ = some (.int .i64 t.n)
  c4 : w.cell? ⟨b, o + 4, none⟩ = some s

/-- Terms that lie behind a slice. -/
inductive Lies (w : World) : List Tm → Value → Prop
  | mk (l : List Tm) (a : Option Addr) (cap : Nat) (S : Nat → Value) (hc : l.length ≤ cap) (hm : cap ≤ maxLen) (hf : ∀ x ∈ l, x.fine)
      (hn : ∀ i (h : i < l.length), ∃ b o, a = some ⟨b, o, none⟩ ∧ Node w b (o + i * 5) l[i] (S i)) (hk : ∀ i (h : i < l.length), Lies w (l[i]).kids (S i)) : Lies w l (.slice a l.length cap)

theorem Lies.out {w : World} {l : List Tm} {s : Value} (h : Lies w l s) : ∃ (a : Option Addr) (cap : Nat) (S : Nat → Value), s = .slice a l.length cap ∧ l.length ≤ cap ∧ cap ≤ maxLen ∧ (∀ x ∈ l, x.fine) ∧
    (∀ i (h : i < l.length), ∃ b o, a = some ⟨b, o, none⟩ ∧ Node w b (o + i * 5) l[i] (S i)) ∧ (∀ i (h : i < l.length), Lies w (l[i]).kids (S i)) := by
  cases h with
  | mk l a cap S hc hm hf hn hk => exact ⟨a, cap, S, rfl, hc, hm, hf, hn, hk⟩

theorem Node.lt {w : World} {b o : Nat} {t : Tm} {s : Value} (h : Node w b o t s) : b < w.heap.size := World.block_lt_of_cell? _ _ h.c0

theorem Node.below {w w' : World} {b o B : Nat} {t : Tm} {s : Value} (h : Node w b o t s) (hb : Below B w w') (hB : b < B) : Node w' b o t s :=
  ⟨(hb.cell (by exact hB)).trans h.c0, (hb.cell (by exact hB)).trans h.c1, (hb.cell (by exact hB)).trans h.c2, (hb.cell (by exact hB)).trans h.c3, (hb.cell (by exact hB)).trans h.c4⟩

/-- What lies in a world lies in every later one. -/
theorem Lies.keep {w w' : World} {l : List Tm} {s : Value} (h : Lies w l s) (hb : Below w.heap.size w w') : Lies w' l s := by
  induction h with
  | mk l a cap S hc hm hf hn hk ih =>
    exact .mk l a cap S hc hm hf (fun i hi => by obtain ⟨b, o, ha, hx⟩ := hn i hi; exact ⟨b, o, ha, hx.below hb hx.lt⟩) ih

end Go.Proofs.YtdhfbphliejcdaaDoor

namespace Go.Proofs.YtdhfbphliejcdaaDoor
open Go.RowKit

/-- A new block of five cells, asked for later. -/
theorem box_cells {w wr : World} {v0 v1 v2 v3 v4 : Value} {T : TypeId} (h : Below (w.heap.size + 1) (w.alloc (.cells #[v0, v1, v2, v3, v4] T)) wr) :
    wr.cell? ⟨w.heap.size, 0, none⟩ = some v0 ∧ wr.cell? ⟨w.heap.size, 1, none⟩ = some v1 ∧ wr.cell? ⟨w.heap.size, 2, none⟩ = some v2 ∧ wr.cell? ⟨w.heap.size, 3, none⟩ = some v3 ∧ wr.cell? ⟨w.heap.size, 4, none⟩ = some v4 := by
  have key : ∀ o, wr.cell? ⟨w.heap.size, o, none⟩ = (#[v0, v1, v2, v3, v4] : Array Value)[o]? := fun o => by
    rw [h.cell (p := ⟨w.heap.size, o, none⟩) (by exact Nat.lt_succ_self _), World.cell?_alloc_at _ _ _ _ rfl]
  exact ⟨by rw [key]; rfl, by rw [key]; rfl, by rw [key]; rfl, by rw [key]; rfl, by rw [key]; rfl⟩

/-- What is new beside a new block is new. -/
theorem below_of_box {w wr : World} {o : Obj} (h : Below (w.heap.size + 1) (w.alloc o) wr) : Below w.heap.size w wr :=
  ((Below.refl _ _).alloc (Nat.le_refl _) _).trans (h.mono (Nat.le_succ _))

/-- A call in a later world: it leaves alone what was there. -/
theorem below_call {B : Nat} {a w w' : World} (h : Below B a w) (h' : Below w.heap.size w w') (hB : B ≤ w.heap.size) : Below B a w' := h.trans (h'.mono hB)

end Go.Proofs.YtdhfbphliejcdaaDoor

namespace Go.Proofs.YtdhfbphliejcdaaDoor
open Go.RowKit

/-- Terms behind a slice, in blocks of which P speaks. -/
inductive LiesP (w : World) (P : Nat → Prop) : List Tm → Value → Prop
  | mk (l : List Tm) (a : Option Addr) (cap : Nat) (S : Nat → Value) (hc : l.length ≤ cap) (hm : cap ≤ maxLen) (hf : ∀ x ∈ l, x.fine)
      (hn : ∀ i (h : i < l.length), ∃ b, a = some ⟨b, 0, none⟩ ∧ P b ∧ Node w b (i * 5) l[i] (S i)) (hk : ∀ i (h : i < l.length), LiesP w P (l[i]).kids (S i)) : LiesP w P l (.slice a l.length cap)

theorem LiesP.lies {w : World} {P : Nat → Prop} {l : List Tm} {s : Value} (h : LiesP w P l s) : Lies w l s := by
  induction h with
  | mk l a cap S hc hm hf hn hk ih => exact .mk l a cap S hc hm hf (fun i hi => by obtain ⟨b, ha, _, hx⟩ := hn i hi; exact ⟨b, 0, ha, by rw [Nat.zero_add]; exact hx⟩) ih

theorem Node.same {w w' : World} {b o : Nat} {t : Tm} {s : Value} (h : Node w b o t s) (hb : w'.heap[b]? = w.heap[b]?) : Node w' b o t s :=
  ⟨(World.cell?_of_block (a := ⟨b, o, none⟩) hb).trans h.c0, (World.cell?_of_block (a := ⟨b, o + 1, none⟩) hb).trans h.c1, (World.cell?_of_block (a := ⟨b, o + 2, none⟩) hb).trans h.c2,
    (World.cell?_of_block (a := ⟨b, o + 3, none⟩) hb).trans h.c3, (World.cell?_of_block (a := ⟨b, o + 4, none⟩) hb).trans h.c4⟩

/-- They lie in a later world where their blocks are as they were; P may be turned on the way. -/
theorem LiesP.keep {w w' : World} {P Q : Nat → Prop} {l : List Tm} {s : Value} (h : LiesP w P l s) (hb : ∀ b, P b → b < w.heap.size → w'.heap[b]? = w.heap[b]?) (hq : ∀ b, P b → b < w.heap.size → Q b) : LiesP w' Q l s := by
  induction h with
  | mk l a cap S hc hm hf hn hk ih =>
    exact .mk l a cap S hc hm hf (fun i hi => by obtain ⟨b, ha, hp, hx⟩ := hn i hi; exact ⟨b, ha, hq b hp hx.lt, hx.same (hb b hp hx.lt)⟩) ih

def cells5 : List (Tm × Value) → List Value
  | [] => []
  | (t, s) :: r => .int .i64 t.k :: .int .i64 t.i :: .int .i64 t.j :: .int .i64 t.n :: s :: cells5 r

theorem alloc_new (w : World) (o : Obj) : (w.alloc o).heap[w.heap.size]? = some o := by
  unfold World.alloc; simp

end Go.Proofs.YtdhfbphliejcdaaDoor

namespace Go.Proofs.YtdhfbphliejcdaaDoor
open Go.RowKit

/-- Tokens behind a slice, wherever they lie. -/
def TLies (w : World) (ts : List Tok) (v : Value) : Prop := ∃ a cap, v = .slice a ts.length cap ∧ ts.length ≤ cap ∧ cap ≤ maxLen ∧ (ts = [] ∨ ∃ g o cs fz, a = some ⟨g, o, none⟩ ∧ w.heap[g]? = some (Obj.cells cs 88 fz) ∧ (cs.toList.drop o).take (ts.length * 3) = cells3 ts)
theorem TLies.keep {w w' : World} {ts : List Tok} {v : Value} (h : TLies w ts v) (hk : ∀ (g : Nat) (cs : Array Value) (fz : Nat × Nat), w.heap[g]? = some (Obj.cells cs 88 fz) → w'.heap[g]? = some (Obj.cells cs 88 fz)) : TLies w' ts v := by
  obtain ⟨a, cap, hv, h1, h2, h3⟩ := h
  refine ⟨a, cap, hv, h1, h2, ?_⟩
  rcases h3 with h3 | ⟨g, o, cs, fz, h4, h5, h6⟩
  · exact Or.inl h3
  · exact Or.inr ⟨g, o, cs, fz, h4, hk _ _ _ h5, h6⟩
theorem at_drop {α : Type} {l m : List α} {o n : Nat} (h : (l.drop o).take n = m) (q : Nat) (hq : q < m.length) : l[o + q]? = m[q]? := by
  have hn : q < n := by
    have := congrArg List.length h
    simp at this
    omega
  rw [← h, List.getElem?_take, if_pos hn, List.getElem?_drop]
theorem TLies.cons {w : World} {t : Tok} {r : List Tok} {v : Value} (h : TLies w (t :: r) v) : ∃ g o cap, v = .slice (some ⟨g, o, none⟩) (r.length + 1) cap ∧ r.length + 1 ≤ cap ∧ cap ≤ maxLen ∧
    w.cell? ⟨g, o, none⟩ = some (.int .i64 t.k) ∧ w.cell? ⟨g, o + 1, none⟩ = some (.string ⟨t.s.toArray⟩) ∧ w.cell? ⟨g, o + 2, none⟩ = some (.int .i64 t.at_) ∧ g < w.heap.size ∧ TLies w r (.slice (some ⟨g, o + 3, none⟩) r.length (cap - 1)) := by
  obtain ⟨a, cap, hv, h1, h2, h3⟩ := h
  rcases h3 with h3 | ⟨g, o, cs, fz, rfl, h5, h6⟩
  · cases h3
  · simp only [List.length_cons] at h1 h6 hv
    have e0 := at_drop h6 0 (by simp [cells3])
    have e1 := at_drop h6 1 (by simp [cells3])
    have e2 := at_drop h6 2 (by simp [cells3])
    simp [cells3] at e0 e1 e2
    refine ⟨g, o, cap, hv, h1, h2, by rw [Lib.cell_of_heap h5]; exact e0, by rw [Lib.cell_of_heap h5]; exact e1, by rw [Lib.cell_of_heap h5]; exact e2, (Array.getElem?_eq_some_iff.1 h5).1, ?_⟩
    refine ⟨some ⟨g, o + 3, none⟩, cap - 1, rfl, by omega, by omega, Or.inr ⟨g, o + 3, cs, fz, rfl, h5, ?_⟩⟩
    have h7 : ((cs.toList.drop o).take ((r.length + 1) * 3)).drop 3 = (cells3 (t :: r)).drop 3 := by rw [h6]
    rw [List.drop_take, List.drop_drop] at h7
    rw [show (r.length + 1) * 3 - 3 = r.length * 3 by omega] at h7
    exact h7
/-- The block of a stream. -/
def SAt (w : World) (S : Nat) (v : Value) (E : Nat) (br : Bool) : Prop := w.heap[S]? = some (.cells #[v, .int .i64 E, .bool br] 84 (0, 0))
def hereT (E : Nat) : List Tok → Nat
  | [] => E
  | t :: _ => t.at_
theorem grown_at {w w1 : World} {S : Nat} (h : w.grownBy w1 none) (i : Nat) (v : Value) : w.grownBy (w1.setCell ⟨S, i, none⟩ v) (some S) :=
  ⟨h.os, h.tape, h.output, by simpa using h.size, fun k hk hne => (heap_setCell_other w1 ⟨S, i, none⟩ k v (by intro e; exact hne (by rw [e]))).trans (h.block k hk (by simp))⟩

theorem tk_ne : (84 : TypeId) ≠ 88 := by decide
theorem SAt.lt {w : World} {S : Nat} {v : Value} {E : Nat} {br : Bool} (h : SAt w S v E br) : S < w.heap.size := (Array.getElem?_eq_some_iff.1 h).1
theorem TLies.grown {w w' : World} {S : Nat} {v v0 : Value} {E : Nat} {br : Bool} {ts : List Tok} (h : TLies w ts v) (hS : SAt w S v0 E br) (hg : w.grownBy w' (some S)) : TLies w' ts v :=
  h.keep fun g cs fz e => (hg.block g (Array.getElem?_eq_some_iff.1 e).1 (by intro e2; obtain rfl : g = S := Option.some.inj e2; unfold SAt at hS; rw [hS] at e; injection e with e; injection e with _ e3 _; exact tk_ne e3)).trans e
end Go.Proofs.YtdhfbphliejcdaaDoor

namespace Go.Proofs.YtdhfbphliejcdaaDoor

/-- The first place of a text in a list. -/
def idxL (x : List UInt8) : List (List UInt8) → Option Nat
  | [] => none
  | y :: r => if y = x then some 0 else (idxL x r).map (· + 1)
abbrev Names := List (List UInt8)
end Go.Proofs.YtdhfbphliejcdaaDoor

namespace Go.Proofs.YtdhfbphliejcdaaDoor
open Go.RowKit Go.Maps Go.ChangeShapes

/-- The constants of a reading: where its blocks lie, the end of the text, the levels, the outer names. -/
structure RC where
  B : Nat
  S : Nat
  R : Nat
  M : Nat
  E : Nat
  br : Bool
  i : Int
  j : Int
  out : Names
  ov : Value
  K : Nat
/-- Texts behind a slice, below B. -/
def TxLies (B : Nat) (w : World) (l : Names) (v : Value) : Prop := ∃ a cap, v = .slice a l.length cap ∧ l.length ≤ cap ∧ cap ≤ maxLen ∧ ∀ q (h : q < l.length), ∃ g o, a = some ⟨g, o, none⟩ ∧ g < B ∧ w.cell? ⟨g, o + q, none⟩ = some (.string ⟨(l[q]).toArray⟩)
theorem TxLies.keep {B : Nat} {w w' : World} {l : Names} {v : Value} (h : TxLies B w l v) (hb : Below B w w') : TxLies B w' l v := by
  obtain ⟨a, cap, h1, h2, h3, h4⟩ := h
  exact ⟨a, cap, h1, h2, h3, fun q hq => by obtain ⟨g, o, e1, e2, e3⟩ := h4 q hq; exact ⟨g, o, e1, e2, (hb.cell (by exact e2)).trans e3⟩⟩
theorem hlt_of {w : World} {b : Nat} {o : Obj} (h : w.heap[b]? = some o) : b < w.heap.size := (Array.getElem?_eq_some_iff.1 h).1
end Go.Proofs.YtdhfbphliejcdaaDoor

namespace Go.Proofs.YtdhfbphliejcdaaDoor
open Go.RowKit Go.Maps Go.ChangeShapes

/-- All blocks but the reader's own. -/
def OldBut (c : RC) (w w' : World) : Prop := ∀ (b : Nat) (o : Obj), w.heap[b]? = some o → b ≠ c.R → w'.heap[b]? = some o
theorem OldBut.trans {c : RC} {w w1 w2 : World} (h : OldBut c w w1) (k : OldBut c w1 w2) : OldBut c w w2 := fun b o e hne => k b o (h b o e hne) hne
theorem OldBut.alloc (c : RC) (w : World) (o : Obj) : OldBut c w (w.alloc o) := fun b o' e _ => by rw [Lib.alloc_old _ _ _ (hlt_of e)]; exact e
end Go.Proofs.YtdhfbphliejcdaaDoor

namespace Go.Proofs.YtdhfbphliejcdaaDoor
open Go.RowKit

mutual
def Tm.size : Tm → Nat
  | .mk _ _ _ _ l => sizes l + 1
def sizes : List Tm → Nat
  | [] => 0
  | t :: r => t.size + sizes r
end

theorem sizes_take (l : List Tm) (k : Nat) (h : k < l.length) : sizes (l.take (k + 1)) = sizes (l.take k) + (l[k]).size := by
  induction l generalizing k with
  | nil => simp at h
  | cons a r ih =>
    cases k with
    | zero => simp [sizes]
    | succ k => simp only [List.take_succ_cons, sizes, List.getElem_cons_succ]; rw [ih k (by simpa using h)]; omega

theorem sizes_le (l : List Tm) (k : Nat) : sizes (l.take k) ≤ sizes l := by
  induction l generalizing k with
  | nil => simp
  | cons a r ih =>
    cases k with
    | zero => simp [sizes]
    | succ k => simp only [List.take_succ_cons, sizes]; have := ih k; omega

theorem Tm.size_eq (t : Tm) : t.size = sizes t.kids + 1 := by cases t; rfl

end Go.Proofs.YtdhfbphliejcdaaDoor

namespace Go.Proofs.YtdhfbphliejcdaaDoor
open Go.RowKit

theorem sizes_map_le {n : Nat} (f : Nat → Tm) : ∀ (l : List Tm), l.length = n → (∀ i (h : i < l.length), (f i).size ≤ (l[i]).size) → sizes ((List.range n).map f) ≤ sizes l := by
  intro l hl h
  subst hl
  induction l generalizing f with
  | nil => simp [sizes]
  | cons a r ih =>
    have h0 := h 0 (by simp)
    simp only [List.getElem_cons_zero] at h0
    have := ih (fun i => f (i + 1)) (fun i hi => by have := h (i + 1) (by simpa using hi); simpa using this)
    rw [List.length_cons, List.range_succ_eq_map, List.map_cons, List.map_map]
    simp only [sizes]
    have e : ((fun i => f (i + 1))) = f ∘ Nat.succ := rfl
    rw [e] at this
    omega

instance : Inhabited (Tm × Value) := ⟨(.mk 0 0 0 0 [], .nilIface)⟩

end Go.Proofs.YtdhfbphliejcdaaDoor

namespace Go.Proofs.YtdhfbphliejcdaaDoor
open Go.RowKit

theorem LiesP.out {w : World} {P : Nat → Prop} {l : List Tm} {s : Value} (h : LiesP w P l s) : ∃ (a : Option Addr) (cap : Nat), s = .slice a l.length cap ∧ l.length ≤ cap ∧ cap ≤ maxLen := by
  cases h with
  | mk l a cap S hc hm hf hn hk => exact ⟨a, cap, rfl, hc, hm⟩

end Go.Proofs.YtdhfbphliejcdaaDoor

namespace Go.Proofs.YtdhfbphliejcdaaDoor
open Go.RowKit

def numbersN (k i j n : Int) : Bool :=
  if k = 2 then decide (0 ≤ i) && (decide (i ≤ 2147483647) && ((j == 0) && (n == 0)))
  else if k = 1 ∨ k = 10 ∨ k = 11 ∨ k = 12 then levelB i && ((j == 0) && (n == 0))
  else if k = 3 ∨ k = 4 ∨ k = 5 ∨ k = 6 ∨ k = 7 ∨ k = 8 ∨ k = 9 then levelB i && (levelB j && (n == 0))
  else if k = 23 then levelB i && levelB j else (i == 0) && ((j == 0) && (n == 0))

end Go.Proofs.YtdhfbphliejcdaaDoor

namespace Go.Proofs.YtdhfbphliejcdaaDoor
open Go.RowKit

mutual
def Tm.plainB : Tm → Bool
  | .mk k i j n l => (k == 1 || (k == 2 || (decide (13 ≤ k) && decide (k ≤ 23)))) && (((l.length : Int) == kidsN k n) && (numbersN k i j n && plains l))
def plains : List Tm → Bool
  | [] => true
  | t :: r => t.plainB && plains r
end

mutual
def Tm.markedB : Tm → Bool
  | .mk k i j n l => (decide (1 ≤ k) && decide (k ≤ 12)) && (((l.length : Int) == kidsN k n) && (numbersN k i j n && markeds (k == 12) 0 l))
def markeds : Bool → Nat → List Tm → Bool
  | _, _, [] => true
  | tr, p, t :: r => (if tr && p == 2 then t.plainB else t.markedB) && markeds tr (p + 1) r
end

end Go.Proofs.YtdhfbphliejcdaaDoor

namespace Go.Proofs.YtdhfbphliejcdaaDoor
open Go.RowKit

mutual
def Tm.deep : Tm → Nat
  | .mk _ _ _ _ l => deeps l + 1
def deeps : List Tm → Nat
  | [] => 0
  | t :: r => max t.deep (deeps r)
end

theorem deeps_take (l : List Tm) (k : Nat) (h : k < l.length) : deeps (l.take (k + 1)) = max (deeps (l.take k)) (l[k]).deep := by
  induction l generalizing k with
  | nil => simp at h
  | cons a r ih =>
    cases k with
    | zero => simp [deeps]
    | succ k => simp only [List.take_succ_cons, deeps, List.getElem_cons_succ]; rw [ih k (by simpa using h)]; omega

theorem Tm.deep_eq (t : Tm) : t.deep = deeps t.kids + 1 := by cases t; rfl

end Go.Proofs.YtdhfbphliejcdaaDoor

namespace Go.Proofs.YtdhfbphliejcdaaDoor
open Go.RowKit

def Weighed (t : Tm) (most deep : Int) (w : World) (e : Ending) (w' : World) : Prop :=
  ∃ r : Int, e = .returned (.int .i64 r) ∧ 1 ≤ r ∧ r ≤ most + 1 ∧ (r ≤ most → r = t.size ∧ (t.deep : Int) ≤ deep + 1) ∧ Below w.heap.size w w'

def NotGreat (t : Tm) (most : Int) (w : World) (e : Ending) (w' : World) : Prop :=
  ∃ g : Bool, e = .returned (.bool g) ∧ (g = false → (t.size : Int) ≤ most ∧ t.deep ≤ 201) ∧ Below w.heap.size w w'

end Go.Proofs.YtdhfbphliejcdaaDoor

namespace Go.Proofs.YtdhfbphliejcdaaDoor
open Go.RowKit

def Tm.rightB (t : Tm) : Bool := t.markedB || t.plainB

end Go.Proofs.YtdhfbphliejcdaaDoor

namespace Go.Proofs.YtdhfbphliejcdaaDoor

def Tm.zero : Tm := .mk 0 0 0 0 []

end Go.Proofs.YtdhfbphliejcdaaDoor

namespace Go.Proofs.YtdhfbphliejcdaaDoor
open Go.RowKit

theorem five_cells {w : World} {g : Nat} {v0 v1 v2 v3 v4 : Value} {T : TypeId} (h : w.heap[g]? = some (.cells #[v0, v1, v2, v3, v4] T (0, 0))) :
    w.cell? ⟨g, 0, none⟩ = some v0 ∧ w.cell? ⟨g, 1, none⟩ = some v1 ∧ w.cell? ⟨g, 2, none⟩ = some v2 ∧ w.cell? ⟨g, 3, none⟩ = some v3 ∧ w.cell? ⟨g, 4, none⟩ = some v4 := by
  refine ⟨?_, ?_, ?_, ?_, ?_⟩ <;> (rw [cell_of_row w g _ _ _ _ h]; rfl)
end Go.Proofs.YtdhfbphliejcdaaDoor

namespace Go.Proofs.YtdhfbphliejcdaaDoor
open Go.RowKit Go.Maps Go.ChangeShapes

theorem g1 (w : World) (b i : Nat) (v : Value) : w.grownBy (w.setCell ⟨b, i, none⟩ v) (some b) := grown_at ⟨rfl, rfl, rfl, Nat.le_refl _, fun _ _ _ => rfl⟩ i v
end Go.Proofs.YtdhfbphliejcdaaDoor

namespace Go.Proofs.YtdhfbphliejcdaaDoor.Dv
open Go.RowKit

def wordsL : List ByteArray := [⟨#[115, 111, 114, 116]⟩, ⟨#[118, 97, 114]⟩, ⟨#[112, 105]⟩, ⟨#[108, 97, 109]⟩, ⟨#[97, 112, 112]⟩, ⟨#[115, 105, 103]⟩, ⟨#[112, 97, 105, 114]⟩, ⟨#[102, 115, 116]⟩, ⟨#[115, 110, 100]⟩, ⟨#[101, 113]⟩, ⟨#[114, 101, 102, 108]⟩, ⟨#[99, 111, 110, 118]⟩, ⟨#[115, 97, 109, 101]⟩, ⟨#[115, 121, 109]⟩, ⟨#[116, 114, 97, 110, 115]⟩, ⟨#[99, 111, 110, 118, 115]⟩, ⟨#[114, 101, 102, 108, 101, 99, 116]⟩, ⟨#[98, 101, 116, 97]⟩, ⟨#[102, 105, 114, 115, 116]⟩, ⟨#[115, 101, 99, 111, 110, 100]⟩, ⟨#[101, 116, 97]⟩, ⟨#[115, 117, 114, 106]⟩, ⟨#[114, 101, 112, 108]⟩, ⟨#[105, 114, 114]⟩, ⟨#[120, 112, 105]⟩, ⟨#[120, 115, 105, 103]⟩, ⟨#[120, 108, 97, 109]⟩, ⟨#[120, 112, 97, 105, 114]⟩]
def kidsL : List Int := [0, 0, 2, 2, 2, 2, 3, 1, 1, 2, 1, 2, 1, 1, 2, 2, 1, 2, 3, 3, 1, 1, 2, 2, 2, 2, 3, 4]
def wordN (r : Int) : ByteArray := if 1 ≤ r ∧ r ≤ 28 then (wordsL[(r - 1).toNat]?).getD ⟨#[]⟩ else ⟨#[]⟩
def dkidsN (r : Int) : Int := if 1 ≤ r ∧ r ≤ 28 then (kidsL[(r - 1).toNat]?).getD 0 else -1
def equalB (r : Int) : Bool := decide (13 ≤ r) && decide (r ≤ 28)
theorem ret_str {a b : ByteArray} (h : a = b) : Ending.returned (.string a) = .returned (.string b) := by rw [h]
theorem in28 {r : Int} (h : 1 ≤ r ∧ r ≤ 28) : r = 1 ∨ r = 2 ∨ r = 3 ∨ r = 4 ∨ r = 5 ∨ r = 6 ∨ r = 7 ∨ r = 8 ∨ r = 9 ∨ r = 10 ∨ r = 11 ∨ r = 12 ∨ r = 13 ∨ r = 14 ∨ r = 15 ∨ r = 16 ∨ r = 17 ∨ r = 18 ∨ r = 19 ∨ r = 20 ∨ r = 21 ∨ r = 22 ∨ r = 23 ∨ r = 24 ∨ r = 25 ∨ r = 26 ∨ r = 27 ∨ r = 28 := by omega
theorem out_word {r : Int} (h : ¬ (1 ≤ r ∧ r ≤ 28)) : wordN r = ⟨#[]⟩ := if_neg h
theorem out_kids {r : Int} (h : ¬ (1 ≤ r ∧ r ≤ 28)) : dkidsN r = -1 := if_neg h

set_option maxHeartbeats 1000000 in
theorem dkids_any (r : Int) (w : World) : Calls Tryd.prog 38 #[.int .i64 r] w fun e w' => e = .returned (.int .i64 (dkidsN r)) ∧ w' = w := by
  by_cases h : 1 ≤ r ∧ r ≤ 28
  · rcases in28 h with rfl | rfl | rfl | rfl | rfl | rfl | rfl | rfl | rfl | rfl | rfl | rfl | rfl | rfl | rfl | rfl | rfl | rfl | rfl | rfl | rfl | rfl | rfl | rfl | rfl | rfl | rfl | rfl
    all_goals
      clear h
      go_enter Tryd.func38, Tryd.ntmps38
      go_wp2
      go_ret
      exact ⟨ret_int (by decide), rfl⟩
  · rw [out_kids h]
    go_enter Tryd.func38, Tryd.ntmps38
    go_wp2
    all_goals go_ret
    all_goals exact ⟨ret_int (by first | rfl | (exfalso; simp only [beq_iff_eq] at *; omega)), rfl⟩

def kidsObj : Obj := .cells (kidsL.map (Value.int .i64)).toArray 3
theorem kids_cell {w : World} {g : Nat} (h : w.heap[g]? = some kidsObj) (i : Nat) (hi : i < 28) : w.cell? ⟨g, i, none⟩ = some (.int .i64 (dkidsN ((i : Int) + 1))) := by
  rw [cell_of_row w g _ _ _ _ h]
  have hl : kidsL.length = 28 := rfl
  have : dkidsN ((i : Int) + 1) = kidsL[i] := by
    unfold dkidsN
    rw [if_pos (by omega), show ((i : Int) + 1 - 1).toNat = i by omega, List.getElem?_eq_getElem (by omega)]; rfl
  rw [this, List.getElem?_toArray, List.getElem?_map, List.getElem?_eq_getElem (by omega)]
  rfl
set_option maxHeartbeats 1000000 in
theorem drefkids_any (r : Int) (w : World) : Calls Tryd.prog 27 #[.int .i64 r] w fun e w' => e = .returned (.int .i64 (dkidsN r)) ∧ Below w.heap.size w w' := by
  by_cases h : 1 ≤ r ∧ r ≤ 28
  · have hq : (w.alloc (.cells #[.int .i64 0, .int .i64 0, .int .i64 2, .int .i64 2, .int .i64 2, .int .i64 2, .int .i64 3, .int .i64 1, .int .i64 1, .int .i64 2, .int .i64 1, .int .i64 2, .int .i64 1, .int .i64 1, .int .i64 2, .int .i64 2, .int .i64 1, .int .i64 2, .int .i64 3, .int .i64 3, .int .i64 1, .int .i64 1, .int .i64 2, .int .i64 2, .int .i64 2, .int .i64 2, .int .i64 3, .int .i64 4] 3)).heap[w.heap.size]? = some kidsObj := by unfold World.alloc; simp; rfl
    have hcell := kids_cell hq
    clear hq
    obtain ⟨n, rfl⟩ : ∃ n : Nat, r = (n : Int) + 1 := ⟨(r - 1).toNat, by omega⟩
    have hn : n < 28 := by omega
    have hc := hcell n hn
    have e1 : decide ((n : Int) + 1 < 1) = false := by simp; omega
    have e2 : decide (28 < (n : Int) + 1) = false := by simp; omega
    have g1 : ((n : Int) + 1 < 1) = False := by simp; omega
    have g2 : ((28 : Int) < (n : Int) + 1) = False := by simp; omega
    have hw : IntKind.i64.wrap ((n : Int) + 1 - 1) = (n : Int) := by rw [IntWalk.i64_in _ (by omega)]; omega
    have b0 : (0 : Int) ≤ (n : Int) := by omega
    have b1 : (n : Int) < 28 := by omega
    clear h hcell
    go_enter Tryd.func27, Tryd.ntmps27
    go_wp2
    go_ret
    exact ⟨rfl, (Below.refl _ _).alloc (Nat.le_refl _) _⟩
  · rw [out_kids h]
    by_cases h1 : r < 1
    · have e1 : decide (r < 1) = true := by simpa using h1
      clear h
      go_enter Tryd.func27, Tryd.ntmps27
      go_wp2
      go_ret
      exact ⟨rfl, (Below.refl _ _).alloc (Nat.le_refl _) _⟩
    · have e1 : decide (r < 1) = false := by simpa using h1
      have h2 : 28 < r := by omega
      have e2 : decide (28 < r) = true := by simpa using h2
      clear h
      go_enter Tryd.func27, Tryd.ntmps27
      go_wp2
      go_ret
      exact ⟨rfl, (Below.refl _ _).alloc (Nat.le_refl _) _⟩

set_option maxHeartbeats 1000000 in
theorem dequal_any (r : Int) (w : World) : Calls Tryd.prog 51 #[.int .i64 r] w fun e w' => e = .returned (.bool (equalB r)) ∧ w' = w := by
  go_enter Tryd.func51, Tryd.ntmps51
  go_wp2
  all_goals go_ret
  all_goals exact ⟨ret_bool (by unfold equalB; first | (simp_all; done) | (simp_all; omega)), rfl⟩
end Go.Proofs.YtdhfbphliejcdaaDoor.Dv

namespace Go.Proofs.YtdhfbphliejcdaaDoor.Dv
open Go.RowKit

set_option maxHeartbeats 2000000 in
theorem wordeq_any (r : Int) (w : World) (h : 13 ≤ r ∧ r ≤ 28) : Calls Tryd.prog 52 #[.int .i64 r] w fun e w' => e = .returned (.string (wordN r)) ∧ w' = w := by
  rcases (show r = 13 ∨ r = 14 ∨ r = 15 ∨ r = 16 ∨ r = 17 ∨ r = 18 ∨ r = 19 ∨ r = 20 ∨ r = 21 ∨ r = 22 ∨ r = 23 ∨ r = 24 ∨ r = 25 ∨ r = 26 ∨ r = 27 ∨ r = 28 by omega) with rfl | rfl | rfl | rfl | rfl | rfl | rfl | rfl | rfl | rfl | rfl | rfl | rfl | rfl | rfl | rfl
  all_goals
    clear h
    go_enter Tryd.func52, Tryd.ntmps52
    go_wp2
    go_ret
    exact ⟨ret_str (by rfl), rfl⟩

set_option maxHeartbeats 2000000 in
theorem dword_any (r : Int) (w : World) : Calls Tryd.prog 40 #[.int .i64 r] w fun e w' => e = .returned (.string (wordN r)) ∧ w' = w := by
  by_cases h : 13 ≤ r ∧ r ≤ 28
  · have he : equalB r = true := by unfold equalB; simp; omega
    go_enter Tryd.func40, Tryd.ntmps40
    go_wp2_with fail
    refine (dequal_any r w).mono ?_
    rw [he]
    rintro e w1 ⟨rfl, rfl⟩
    go_wp2_with fail
    refine (wordeq_any r _ h).mono ?_
    rintro e w2 ⟨rfl, rfl⟩
    go_wp2
    go_ret
    exact ⟨rfl, rfl⟩
  · have he : equalB r = false := by unfold equalB; simp; omega
    by_cases h1 : 1 ≤ r ∧ r ≤ 12
    · rcases (show r = 1 ∨ r = 2 ∨ r = 3 ∨ r = 4 ∨ r = 5 ∨ r = 6 ∨ r = 7 ∨ r = 8 ∨ r = 9 ∨ r = 10 ∨ r = 11 ∨ r = 12 by omega) with rfl | rfl | rfl | rfl | rfl | rfl | rfl | rfl | rfl | rfl | rfl | rfl
      all_goals
        clear h h1
        go_enter Tryd.func40, Tryd.ntmps40
        go_wp2_with fail
        refine (dequal_any _ w).mono ?_
        rw [he]
        rintro e w1 ⟨rfl, rfl⟩
        clear he
        go_wp2
        go_ret
        exact ⟨ret_str (by rfl), rfl⟩
    · rw [out_word (by omega)]
      go_enter Tryd.func40, Tryd.ntmps40
      go_wp2_with fail
      refine (dequal_any r w).mono ?_
      rw [he]
      rintro e w1 ⟨rfl, rfl⟩
      go_wp2
      all_goals go_ret
      all_goals exact ⟨ret_str (by first | rfl | (exfalso; simp only [beq_iff_eq, beq_eq_false_iff_ne, ne_eq] at *; omega)), rfl⟩

/-- The rule of a word: the first one that bears it, or 0. -/
def RuleIs (s : ByteArray) (r : Int) : Prop := (∃ k : Nat, 1 ≤ k ∧ k ≤ 28 ∧ wordN k = s ∧ (∀ j : Nat, 1 ≤ j → j < k → wordN j ≠ s) ∧ r = k) ∨ ((∀ j : Nat, 1 ≤ j → j ≤ 28 → wordN j ≠ s) ∧ r = 0)
theorem RuleIs.same {s : ByteArray} {r q : Int} (h : RuleIs s r) (h' : RuleIs s q) : r = q := by
  rcases h with ⟨k, k1, k2, k3, k4, rfl⟩ | ⟨k4, rfl⟩ <;> rcases h' with ⟨j, j1, j2, j3, j4, rfl⟩ | ⟨j4, rfl⟩
  · rcases Nat.lt_trichotomy k j with hlt | rfl | hlt
    · exact absurd k3 (j4 k k1 hlt)
    · rfl
    · exact absurd j3 (k4 j j1 hlt)
  · exact absurd k3 (j4 k k1 k2)
  · exact absurd j3 (k4 j j1 j2)
  · rfl
end Go.Proofs.YtdhfbphliejcdaaDoor.Dv

namespace Go.Proofs.YtdhfbphliejcdaaDoor.Dv
open Go.RowKit

/-- A derivation: its rule, its number, its kids. -/
inductive Tm where
  | mk (k i : Int) (l : List Tm)

namespace Tm
def k : Tm → Int | .mk k _ _ => k
def i : Tm → Int | .mk _ i _ => i
def kids : Tm → List Tm | .mk _ _ l => l
theorem eta (t : Tm) : Tm.mk t.k t.i t.kids = t := by cases t; rfl

theorem ind {P : Tm → Prop} (h : ∀ t, (∀ x ∈ t.kids, P x) → P t) : ∀ t, P t
  | .mk k i l => h (.mk k i l) (fun x (_ : x ∈ l) => ind h x)
end Tm

def Tm.fine (t : Tm) : Prop := I64 t.k ∧ I64 t.i

/-- A term by value: s is the slice of its kids. -/
abbrev tv (t : Tm) (s : Value) : Value := .agg #[.int .i64 t.k, .int .i64 t.i, s]

/-- The three cells of a term at a place. -/
structure Node (w : World) (b o : Nat) (t : Tm) (s : Value) : Prop where
  c0 : w.cell? ⟨b, o, none⟩ = some (.int .i64 t.k)
  c1 : w.cell? ⟨b, o + 1, none⟩ = some (.int .i64 t.i)
  c2 : w.cell? ⟨b, o + 2, none⟩ = some s

/-- Terms that lie behind a slice. -/
inductive Lies (w : World) : List Tm → Value → Prop
  | mk (l : List Tm) (a : Option Addr) (cap : Nat) (S : Nat → Value) (hc : l.length ≤ cap) (hm : cap ≤ maxLen) (hf : ∀ x ∈ l, x.fine)
      (hn : ∀ i (h : i < l.length), ∃ b o, a = some ⟨b, o, none⟩ ∧ Node w b (o + i * 3) l[i] (S i)) (hk : ∀ i (h : i < l.length), Lies w (l[i]).kids (S i)) : Lies w l (.slice a l.length cap)

theorem Lies.out {w : World} {l : List Tm} {s : Value} (h : Lies w l s) : ∃ (a : Option Addr) (cap : Nat) (S : Nat → Value), s = .slice a l.length cap ∧ l.length ≤ cap ∧ cap ≤ maxLen ∧ (∀ x ∈ l, x.fine) ∧
    (∀ i (h : i < l.length), ∃ b o, a = some ⟨b, o, none⟩ ∧ Node w b (o + i * 3) l[i] (S i)) ∧ (∀ i (h : i < l.length), Lies w (l[i]).kids (S i)) := by
  cases h with
  | mk l a cap S hc hm hf hn hk => exact ⟨a, cap, S, rfl, hc, hm, hf, hn, hk⟩

theorem Node.lt {w : World} {b o : Nat} {t : Tm} {s : Value} (h : Node w b o t s) : b < w.heap.size := World.block_lt_of_cell? _ _ h.c0

theorem Node.below {w w' : World} {b o B : Nat} {t : Tm} {s : Value} (h : Node w b o t s) (hb : Below B w w') (hB : b < B) : Node w' b o t s :=
  ⟨(hb.cell (by exact hB)).trans h.c0, (hb.cell (by exact hB)).trans h.c1, (hb.cell (by exact hB)).trans h.c2⟩

/-- What lies in a world lies in every later one. -/
theorem Lies.keep {w w' : World} {l : List Tm} {s : Value} (h : Lies w l s) (hb : Below w.heap.size w w') : Lies w' l s := by
  induction h with
  | mk l a cap S hc hm hf hn hk ih =>
    exact .mk l a cap S hc hm hf (fun i hi => by obtain ⟨b, o, ha, hx⟩ := hn i hi; exact ⟨b, o, ha, hx.below hb hx.lt⟩) ih

end Go.Proofs.YtdhfbphliejcdaaDoor.Dv

namespace Go.Proofs.YtdhfbphliejcdaaDoor.Dv
open Go.RowKit

mutual
def Tm.size : Tm → Nat
  | .mk _ _ l => sizes l + 1
def sizes : List Tm → Nat
  | [] => 0
  | t :: r => t.size + sizes r
end

theorem sizes_take (l : List Tm) (k : Nat) (h : k < l.length) : sizes (l.take (k + 1)) = sizes (l.take k) + (l[k]).size := by
  induction l generalizing k with
  | nil => simp at h
  | cons a r ih =>
    cases k with
    | zero => simp [sizes]
    | succ k => simp only [List.take_succ_cons, sizes, List.getElem_cons_succ]; rw [ih k (by simpa using h)]; omega

theorem sizes_le (l : List Tm) (k : Nat) : sizes (l.take k) ≤ sizes l := by
  induction l generalizing k with
  | nil => simp
  | cons a r ih =>
    cases k with
    | zero => simp [sizes]
    | succ k => simp only [List.take_succ_cons, sizes]; have := ih k; omega

theorem Tm.size_eq (t : Tm) : t.size = sizes t.kids + 1 := by cases t; rfl

end Go.Proofs.YtdhfbphliejcdaaDoor.Dv

namespace Go.Proofs.YtdhfbphliejcdaaDoor
open Go.RowKit

/-- Is a number within an allowance? -/
def withinB (n : Int) (m : Nat) : Bool := FloatKind.f64.format.order (floatOfInt .f64 n) m == some .lt || FloatKind.f64.format.order (floatOfInt .f64 n) m == some .eq
theorem wf_I64 {x : Int} (h : (Lit.int .i64 x).wf = true) : I64 x := by
  simp [Lit.wf] at h
  have hm : IntKind.i64.min = -9223372036854775808 := by decide
  rw [hm] at h
  exact h
/-- A budget lies here. -/
abbrev budObj (m : Nat) (u : Int) : Obj := .cells #[.float .f64 m, .int .i64 u] 86
end Go.Proofs.YtdhfbphliejcdaaDoor

namespace Go.Proofs.YtdhfbphliejcdaaDoor.Dv

def wordsB : List (List UInt8) := wordsL.map fun b => b.data.toList
/-- The rule of a word; nought: there is none. -/
def ruleN (s : List UInt8) : Int := match idxL s wordsB with
  | some i => (i : Int) + 1
  | none => 0
/-- A fault: of the text (0), too deep (1), too many (2); and where. -/
abbrev PF := Nat × Nat
abbrev DP := Nat → Nat → List Tok → Except PF (Tm × Nat × List Tok)
def kidsD (dp : DP) (d : Nat) : Nat → Nat → List Tok → Except PF (List Tm × Nat × List Tok)
  | 0, u, ts => .ok ([], u, ts)
  | c + 1, u, ts => match dp d u ts with
    | .error e => .error e
    | .ok (t, u1, r) => match kidsD dp d c u1 r with
      | .error e => .error e
      | .ok (l, u2, r2) => .ok (t :: l, u2, r2)
def ctxD (dp : DP) (E : Nat) : Nat → Nat → List Tok → Except PF (List Tm × Nat × List Tok)
  | 0, _, ts => .error (0, hereT E ts)
  | f + 1, u, ts => if ((ts.head?.map fun t => t.k == 2).getD false) = true then .ok ([], u, ts)
    else match dp 1 u ts with
      | .error e => .error e
      | .ok (t, u1, r) => match ctxD dp E f u1 r with
        | .error e => .error e
        | .ok (l, u2, r2) => .ok (t :: l, u2, r2)
def fileW : List UInt8 := [102, 105, 108, 101]
end Go.Proofs.YtdhfbphliejcdaaDoor.Dv

namespace Go.Proofs.YtdhfbphliejcdaaDoor.Dv
open Go.RowKit

/-- A new block of five cells, asked for later. -/
theorem box_cells {w wr : World} {v0 v1 v2 : Value} {T : TypeId} (h : Below (w.heap.size + 1) (w.alloc (.cells #[v0, v1, v2] T)) wr) :
    wr.cell? ⟨w.heap.size, 0, none⟩ = some v0 ∧ wr.cell? ⟨w.heap.size, 1, none⟩ = some v1 ∧ wr.cell? ⟨w.heap.size, 2, none⟩ = some v2 := by
  have key : ∀ o, wr.cell? ⟨w.heap.size, o, none⟩ = (#[v0, v1, v2] : Array Value)[o]? := fun o => by
    rw [h.cell (p := ⟨w.heap.size, o, none⟩) (by exact Nat.lt_succ_self _), World.cell?_alloc_at _ _ _ _ rfl]
  exact ⟨by rw [key]; rfl, by rw [key]; rfl, by rw [key]; rfl⟩

end Go.Proofs.YtdhfbphliejcdaaDoor.Dv

namespace Go.Proofs.YtdhfbphliejcdaaDoor.Dv
open Go.RowKit

/-- The block of a term by value. -/
def boxOf (t : Tm) (s : Value) : Obj := .cells #[.int .i64 t.k, .int .i64 t.i, s] 24

/-- Beside the boxed term there is only what is new. -/
def Held (w : World) (t : Tm) (s : Value) (w' : World) : Prop := Below (w.heap.size + 1) (w.alloc (boxOf t s)) w'

theorem held_start (w : World) (t : Tm) (s : Value) : Held w t s (w.alloc (.cells #[.int .i64 t.k, .int .i64 t.i, s] 24)) := Below.refl _ _
theorem held_cells {w w' : World} {t : Tm} {s : Value} (h : Held w t s w') : w'.cell? ⟨w.heap.size, 0, none⟩ = some (.int .i64 t.k) ∧ w'.cell? ⟨w.heap.size, 1, none⟩ = some (.int .i64 t.i) ∧ w'.cell? ⟨w.heap.size, 2, none⟩ = some s := box_cells h
theorem held_call {w w1 w2 : World} {t : Tm} {s : Value} (h : Held w t s w1) (hb : Below w1.heap.size w1 w2) : Held w t s w2 :=
  below_call h hb (by have := h.size; simpa using this)
theorem held_below {w w1 : World} {t : Tm} {s : Value} (h : Held w t s w1) : Below w.heap.size w w1 := below_of_box h
end Go.Proofs.YtdhfbphliejcdaaDoor.Dv

namespace Go.Proofs.YtdhfbphliejcdaaDoor.Dv
open Go.RowKit

/-- Terms behind a slice, in blocks of which P speaks. -/
inductive LiesP (w : World) (P : Nat → Prop) : List Tm → Value → Prop
  | mk (l : List Tm) (a : Option Addr) (cap : Nat) (S : Nat → Value) (hc : l.length ≤ cap) (hm : cap ≤ maxLen) (hf : ∀ x ∈ l, x.fine)
      (hn : ∀ i (h : i < l.length), ∃ b, a = some ⟨b, 0, none⟩ ∧ P b ∧ Node w b (i * 3) l[i] (S i)) (hk : ∀ i (h : i < l.length), LiesP w P (l[i]).kids (S i)) : LiesP w P l (.slice a l.length cap)

theorem LiesP.lies {w : World} {P : Nat → Prop} {l : List Tm} {s : Value} (h : LiesP w P l s) : Lies w l s := by
  induction h with
  | mk l a cap S hc hm hf hn hk ih => exact .mk l a cap S hc hm hf (fun i hi => by obtain ⟨b, ha, _, hx⟩ := hn i hi; exact ⟨b, 0, ha, by rw [Nat.zero_add]; exact hx⟩) ih

theorem Node.same {w w' : World} {b o : Nat} {t : Tm} {s : Value} (h : Node w b o t s) (hb : w'.heap[b]? = w.heap[b]?) : Node w' b o t s :=
  ⟨(World.cell?_of_block (a := ⟨b, o, none⟩) hb).trans h.c0, (World.cell?_of_block (a := ⟨b, o + 1, none⟩) hb).trans h.c1, (World.cell?_of_block (a := ⟨b, o + 2, none⟩) hb).trans h.c2⟩

/-- They lie in a later world where their blocks are as they were; P may be turned on the way. -/
theorem LiesP.keep {w w' : World} {P Q : Nat → Prop} {l : List Tm} {s : Value} (h : LiesP w P l s) (hb : ∀ b, P b → b < w.heap.size → w'.heap[b]? = w.heap[b]?) (hq : ∀ b, P b → b < w.heap.size → Q b) : LiesP w' Q l s := by
  induction h with
  | mk l a cap S hc hm hf hn hk ih =>
    exact .mk l a cap S hc hm hf (fun i hi => by obtain ⟨b, ha, hp, hx⟩ := hn i hi; exact ⟨b, ha, hq b hp hx.lt, hx.same (hb b hp hx.lt)⟩) ih

/-- A block of the call's own: new since B, and nothing of it is frozen. -/
def Own (B : Nat) (w : World) (b : Nat) : Prop := B ≤ b ∧ ∃ cs, w.heap[b]? = some (.cells cs 24 (0, 0))
theorem Own.lt {B : Nat} {w : World} {b : Nat} (h : Own B w b) : b < w.heap.size := by obtain ⟨-, cs, h⟩ := h; exact (Array.getElem?_eq_some_iff.1 h).1
theorem Own.same {B : Nat} {w w' : World} {b : Nat} (h : Own B w b) (hb : w'.heap[b]? = w.heap[b]?) : Own B w' b := ⟨h.1, by rw [hb]; exact h.2⟩
theorem Own.later {B : Nat} {w w' : World} {b : Nat} (h : Own B w b) (hb : Below w.heap.size w w') : Own B w' b := h.same (hb.block b h.lt)
theorem Own.from {B B' : Nat} {w : World} {b : Nat} (h : Own B w b) (hB : B' ≤ B) : Own B' w b := ⟨Nat.le_trans hB h.1, h.2⟩

/-- What a call has made lies there later, too. -/
theorem LiesP.later {w w' : World} {B : Nat} {l : List Tm} {s : Value} (h : LiesP w (Own B w) l s) (hb : Below w.heap.size w w') : LiesP w' (Own B w') l s := h.keep (fun b _ hlt => hb.block b hlt) (fun _ hp _ => hp.later hb)
theorem LiesP.from {w : World} {B B' : Nat} {l : List Tm} {s : Value} (h : LiesP w (Own B w) l s) (hB : B' ≤ B) : LiesP w (Own B' w) l s := h.keep (fun _ _ _ => rfl) (fun _ hp _ => hp.from hB)

def cells5 : List (Tm × Value) → List Value
  | [] => []
  | (t, s) :: r => .int .i64 t.k :: .int .i64 t.i :: s :: cells5 r

/-- A list of terms that the call has made so far: v is the slice, ps the terms with the slices of their kids; B: where its own memory begins. -/
structure Made (B : Nat) (w : World) (v : Value) (ps : List (Tm × Value)) : Prop where
  own : w.ownsRow B 24 3 v ps.length (cells5 ps)
  fine : ∀ p ∈ ps, p.1.fine
  kids : ∀ p ∈ ps, LiesP w (fun b => Own B w b ∧ v.ownBlock ≠ some b) p.1.kids p.2

end Go.Proofs.YtdhfbphliejcdaaDoor.Dv

namespace Go.Proofs.YtdhfbphliejcdaaDoor.Dv
open Go.RowKit

/-- A list that was made whole and is filled from the left: block g; xs: the terms as they stand there now. -/
structure Full (B : Nat) (w : World) (g : Nat) (xs : List (Tm × Value)) : Prop where
  above : B ≤ g
  open' : ∃ cs, w.heap[g]? = some (.cells cs 24 (0, 0))
  node : ∀ i (h : i < xs.length), Node w g (i * 3) (xs[i]).1 (xs[i]).2
  fine : ∀ p ∈ xs, p.1.fine
  kids : ∀ p ∈ xs, LiesP w (fun b => Own B w b ∧ b ≠ g) p.1.kids p.2

theorem Full.later {B g : Nat} {w w' : World} {xs : List (Tm × Value)} (h : Full B w g xs) (hb : Below w.heap.size w w') : Full B w' g xs := by
  have hg : g < w.heap.size := by obtain ⟨cs, h⟩ := h.open'; exact (Array.getElem?_eq_some_iff.1 h).1
  exact ⟨h.above, by rw [hb.block g hg]; exact h.open', fun i hi => (h.node i hi).below hb hg, h.fine, fun p hp => (h.kids p hp).keep (fun b _ hlt => hb.block b hlt) (fun _ hq _ => ⟨hq.1.later hb, hq.2⟩)⟩

/-- The whole list as terms of the call's own memory. -/
theorem Full.lies {B g cap : Nat} {w : World} {xs : List (Tm × Value)} (h : Full B w g xs) (hc : xs.length ≤ cap) (hm : cap ≤ maxLen) : LiesP w (Own B w) (xs.map (·.1)) (.slice (some ⟨g, 0, none⟩) xs.length cap) := by
  have := LiesP.mk (w := w) (P := Own B w) (xs.map (·.1)) (some ⟨g, 0, none⟩) cap (fun i => (xs[i]?.map (·.2)).getD (.slice none 0 0)) (by simpa using hc) hm
    (fun x hx => by obtain ⟨p, hp, rfl⟩ := List.mem_map.1 hx; exact h.fine p hp)
    (fun i hi => by
      have hi' : i < xs.length := by simpa using hi
      refine ⟨g, rfl, ⟨h.above, h.open'⟩, ?_⟩
      simp only [List.getElem_map, List.getElem?_eq_getElem hi', Option.map_some, Option.getD_some]
      exact h.node i hi')
    (fun i hi => by
      have hi' : i < xs.length := by simpa using hi
      simp only [List.getElem_map, List.getElem?_eq_getElem hi', Option.map_some, Option.getD_some]
      exact (h.kids _ (List.getElem_mem hi')).keep (fun _ _ _ => rfl) (fun _ hb _ => hb.1))
  simpa using this

end Go.Proofs.YtdhfbphliejcdaaDoor.Dv

namespace Go.Proofs.YtdhfbphliejcdaaDoor.Dv
open Go.RowKit

def Tm.zero : Tm := .mk 0 0 []
abbrev zeroObj : Obj := .cells #[.int .i64 0, .int .i64 0, .slice none 0 0] 24

theorem five_cells {w : World} {g : Nat} {v0 v1 v2 : Value} {T : TypeId} (h : w.heap[g]? = some (.cells #[v0, v1, v2] T (0, 0))) :
    w.cell? ⟨g, 0, none⟩ = some v0 ∧ w.cell? ⟨g, 1, none⟩ = some v1 ∧ w.cell? ⟨g, 2, none⟩ = some v2 := by
  refine ⟨?_, ?_, ?_⟩ <;> (rw [cell_of_row w g _ _ _ _ h]; rfl)
theorem Full.below {B g b o : Nat} {w : World} {xs : List (Tm × Value)} (h : Full B w g xs) (hb : b < B) (v : Value) : Full B (w.setCell ⟨b, o, none⟩ v) g xs := by
  have hg := h.above
  have hk : ∀ b', B ≤ b' → (w.setCell ⟨b, o, none⟩ v).heap[b']? = w.heap[b']? := fun b' hb' => Below.heap_setCell _ _ _ _ (by show b' ≠ b; omega)
  exact ⟨hg, by rw [hk g hg]; exact h.open', fun i hi => (h.node i hi).same (hk g hg), h.fine, fun p hp => (h.kids p hp).keep (fun b' hb' _ => hk b' hb'.1.1) (fun b' hb' _ => ⟨hb'.1.same (hk b' hb'.1.1), hb'.2⟩)⟩

theorem held_alloc {w w1 : World} {t : Tm} {s : Value} (h : Held w t s w1) (o : Obj) : Held w t s (w1.alloc o) := Below.alloc h (by have := Below.size h; simpa using this) o
abbrev five (w : World) (g : Nat) (v0 v1 v2 : Value) : World := ((w.setCell ⟨g, 0, none⟩ v0).setCell ⟨g, 1, none⟩ v1).setCell ⟨g, 2, none⟩ v2
end Go.Proofs.YtdhfbphliejcdaaDoor.Dv

namespace Go.Proofs.YtdhfbphliejcdaaDoor.Dv
open Go.RowKit

def mostN (r : Int) : Int := if r = 1 ∨ r = 2 then 1000000 else 0
def nodeOk (k i : Int) (n : Nat) : Bool := decide (0 ≤ dkidsN k) && ((n : Int) == dkidsN k) && decide (0 ≤ i) && decide (i ≤ mostN k)
mutual
def Tm.rightB : Tm → Bool
  | .mk k i l => nodeOk k i l.length && rights l
def rights : List Tm → Bool
  | [] => true
  | x :: r => x.rightB && rights r
end
theorem Tm.rightB_eq (t : Tm) : t.rightB = (nodeOk t.k t.i t.kids.length && rights t.kids) := by cases t; simp only [Tm.rightB]; rfl
theorem rights_take : ∀ (l : List Tm) (k : Nat) (h : k < l.length), rights (l.take (k + 1)) = (rights (l.take k) && (l[k]).rightB)
  | x :: r, 0, _ => by simp [rights]
  | x :: r, k + 1, h => by
    simp only [List.take_succ_cons, rights, List.getElem_cons_succ]
    rw [rights_take r k (by simpa using h), Bool.and_assoc]
theorem rights_of : ∀ (l : List Tm) (k : Nat) (h : k < l.length), (l[k]).rightB = false → rights l = false
  | x :: r, 0, _, hs => by simp only [List.getElem_cons_zero] at hs; simp [rights, hs]
  | x :: r, k + 1, h, hs => by
    simp only [List.getElem_cons_succ] at hs
    simp [rights, rights_of r k (by simpa using h) hs]
theorem right_bad {t : Tm} (h : nodeOk t.k t.i t.kids.length = false) : t.rightB = false := by rw [t.rightB_eq, h]; rfl
theorem bad1 {k i : Int} {n : Nat} (h : dkidsN k < 0) : nodeOk k i n = false := by unfold nodeOk; rw [decide_eq_false (by omega)]; simp
theorem bad2 {k i : Int} {n : Nat} (h : ¬ (n : Int) = dkidsN k) : nodeOk k i n = false := by unfold nodeOk; rw [beq_eq_false_iff_ne.2 h]; simp
theorem bad3 {k i : Int} {n : Nat} (h : i < 0) : nodeOk k i n = false := by unfold nodeOk; rw [decide_eq_false (by omega : ¬ 0 ≤ i)]; simp
theorem bad4 {k i : Int} {n : Nat} (h : mostN k < i) : nodeOk k i n = false := by unfold nodeOk; rw [decide_eq_false (by omega : ¬ i ≤ mostN k)]; simp
theorem good_node {k i : Int} {n : Nat} (h1 : 0 ≤ dkidsN k) (h2 : (n : Int) = dkidsN k) (h3 : 0 ≤ i) (h4 : i ≤ mostN k) : nodeOk k i n = true := by unfold nodeOk; simp [h1, h2, h3, h4]

theorem dmost_any (r : Int) (w : World) : Calls Tryd.prog 39 #[.int .i64 r] w fun e w' => e = .returned (.int .i64 (mostN r)) ∧ w' = w := by
  go_enter Tryd.func39, Tryd.ntmps39
  go_wp2
  all_goals go_ret
  all_goals exact ⟨ret_int (by unfold mostN; split <;> first | rfl | (simp_all; done) | (simp only [beq_iff_eq, beq_eq_false_iff_ne, ne_eq] at *; omega)), rfl⟩
def numberedB (r : Int) : Bool := r == 1 || r == 2
theorem numbered_any (r : Int) (w : World) : Calls Tryd.prog 28 #[.int .i64 r] w fun e w' => e = .returned (.bool (numberedB r)) ∧ w' = w := by
  go_enter Tryd.func28, Tryd.ntmps28
  go_wp2
  all_goals go_ret
  all_goals exact ⟨ret_bool (by unfold numberedB; simp_all), rfl⟩

theorem held_drewN {w w1 : World} {t : Tm} {s : Value} (h : Held w t s w1) (n : Nat) : Held w t s (w1.drewN n) := Below.trans h ⟨rfl, rfl, rfl, Nat.le_refl _, fun _ _ => rfl⟩
theorem held_grown {w w1 : World} {t : Tm} {s : Value} (h : Held w t s w1) (d : Nat) (os : Array Obj) : Held w t s (Go.Sort.grow (redrawn w1 d) os) := held_call h (below_regrown w1 d os)
set_option maxHeartbeats 2000000 in
theorem dright_any (t : Tm) : ∀ (w : World) (s : Value), Lies w t.kids s → Calls Tryd.prog 21 #[tv t s] w fun e w' => e = .returned (.bool t.rightB) ∧ Below w.heap.size w w' := by
  induction t using Tm.ind with
  | h t ih =>
    intro w s hl
    obtain ⟨a, cap, S, rfl, hc, hm, hf, hn, hk⟩ := hl.out
    unfold tv
    unfold maxLen at hm
    have H0 := held_start w t (.slice a t.kids.length cap)
    have IH := Lib.hid ih
    have HN := Lib.hid hn
    have HK := Lib.hid hk
    clear ih hn hk hf hl
    obtain ⟨n, hnn⟩ : ∃ n, dkidsN t.k = n := ⟨_, rfl⟩
    have HNN := Lib.hid hnn
    have CK := Lib.hid (fun w' => dkids_any t.k w')
    rw [hnn] at CK
    obtain ⟨m, hmm⟩ : ∃ m, mostN t.k = m := ⟨_, rfl⟩
    have HMM := Lib.hid hmm
    have CM := Lib.hid (fun w' => dmost_any t.k w')
    rw [hmm] at CM
    clear hnn hmm
    by_cases h1 : n < 0
    · have HB := Lib.hid (right_bad (t := t) (bad1 (by rw [HNN.out]; exact h1)))
      have e1 : decide (n < 0) = true := by simpa using h1
      go_enter Tryd.func21, Tryd.ntmps21
      go_wp2_with fail
      refine (CK.out _).mono ?_
      rintro e w1 ⟨rfl, rfl⟩
      go_wp2_with fail
      go_quiet ((go_at_call 39; exact Calls.quiet_of_same (CM.out _)))
      go_wp2_with fail
      go_ret
      exact ⟨ret_bool HB.out.symm, held_below (held_drewN H0 _)⟩
    have e1 : decide (n < 0) = false := by simpa using h1
    by_cases h2 : (t.kids.length : Int) = n
    rotate_left
    · have HB := Lib.hid (right_bad (t := t) (bad2 (by rw [HNN.out]; exact h2)))
      have e2 : ((t.kids.length : Int) == n) = false := by simpa using h2
      have e2' : ((t.kids.length : Int) != n) = true := by simpa using h2
      clear h2
      go_enter Tryd.func21, Tryd.ntmps21
      go_wp2_with fail
      refine (CK.out _).mono ?_
      rintro e w1 ⟨rfl, rfl⟩
      go_wp2_with fail
      go_quiet ((go_at_call 39; exact Calls.quiet_of_same (CM.out _)))
      go_wp2_with fail
      all_goals go_ret
      all_goals exact ⟨ret_bool HB.out.symm, held_below (held_drewN H0 _)⟩
    have e2 : ((t.kids.length : Int) == n) = true := by simpa using h2
    have e2' : ((t.kids.length : Int) != n) = false := by simpa using h2
    have H2 := Lib.hid h2
    clear h2
    by_cases h3 : t.i < 0
    · have HB := Lib.hid (right_bad (t := t) (bad3 (n := t.kids.length) h3))
      have e3 : decide (t.i < 0) = true := by simpa using h3
      go_enter Tryd.func21, Tryd.ntmps21
      go_wp2_with fail
      refine (CK.out _).mono ?_
      rintro e w1 ⟨rfl, rfl⟩
      go_wp2_with fail
      go_quiet ((go_at_call 39; exact Calls.quiet_of_same (CM.out _)))
      go_wp2_with fail
      all_goals go_ret
      all_goals exact ⟨ret_bool HB.out.symm, held_below (held_drewN H0 _)⟩
    have e3 : decide (t.i < 0) = false := by simpa using h3
    by_cases h4 : m < t.i
    · have HB := Lib.hid (right_bad (t := t) (bad4 (n := t.kids.length) (by rw [HMM.out]; exact h4)))
      have e4 : decide (m < t.i) = true := by simpa using h4
      go_enter Tryd.func21, Tryd.ntmps21
      go_wp2_with fail
      refine (CK.out _).mono ?_
      rintro e w1 ⟨rfl, rfl⟩
      go_wp2_with fail
      go_quiet ((go_at_call 39; exact Calls.quiet_of_same (CM.out _)))
      go_wp2_with fail
      all_goals go_ret
      all_goals exact ⟨ret_bool HB.out.symm, held_below (held_drewN H0 _)⟩
    have e4 : decide (m < t.i) = false := by simpa using h4
    have HG := Lib.hid (show t.rightB = rights t.kids by rw [t.rightB_eq, good_node (by rw [HNN.out]; omega) (by rw [HNN.out]; exact H2.out) (by omega) (by rw [HMM.out]; omega)]; rfl)
    go_enter Tryd.func21, Tryd.ntmps21
    go_wp2_with fail
    refine (CK.out _).mono ?_
    rintro e w1 ⟨rfl, rfl⟩
    go_wp2_with fail
    go_quiet ((go_at_call 39; exact Calls.quiet_of_same (CM.out _)))
    go_wp2_with fail
    go_loopw [34] (fun iv wr => ∃ q : Nat, q ≤ t.kids.length ∧ iv = .int .i64 q ∧ Hid (rights (t.kids.take q) = true) ∧ Held w t (.slice a t.kids.length cap) wr) (fun iv _ => t.kids.length - (intOf iv).toNat)
    case atStart => exact ⟨0, Nat.zero_le _, rfl, by simp [Hid, rights], held_drewN H0 _⟩
    case round =>
      clear H0
      obtain ⟨q, hq0, rfl, hgood, hh⟩ := hrel
      have hb := held_below hh
      by_cases hlt : q < t.kids.length
      · obtain ⟨b, o, rfl, hx⟩ := HN.out q hlt
        obtain ⟨c0, c1, c2⟩ := hx.below hb hx.lt
        have hq := (HK.out q hlt).keep hb
        obtain ⟨a', cap', S', hS, -⟩ := hq.out
        rw [hS] at c2 hq
        have HQ := Lib.hid hq
        have HM := Lib.hid (List.getElem_mem hlt)
        have hh2 := held_alloc hh (.cells #[.int .i64 t.kids[q].k, .int .i64 t.kids[q].i, .slice a' t.kids[q].kids.length cap'] 24)
        have HNEW := Lib.hid ((Below.refl wr.heap.size wr).alloc (Nat.le_refl _) (.cells #[.int .i64 t.kids[q].k, .int .i64 t.kids[q].i, .slice a' t.kids[q].kids.length cap'] 24))
        clear hS hq
        go_wp2_with fail
        refine (IH.out _ HM.out _ _ (HQ.out.keep HNEW.out)).mono ?_
        rintro e wn ⟨rfl, hbn⟩
        have hh3 := held_call hh2 hbn
        clear hbn hh2 hb
        cases hr : (t.kids[q]).rightB
        · have HR := Lib.hid (rights_of t.kids q hlt hr)
          go_wp2
          go_ret
          exact ⟨ret_bool (by rw [HG.out]; exact HR.out.symm), held_below hh3⟩
        · go_wp2
          go_roundw
          case rel => exact ⟨q + 1, by omega, by go_num, by show _ = true; rw [rights_take _ _ hlt, hgood.out, hr]; rfl, hh3⟩
          case measure => simp [intOf]; omega
      · have : q = t.kids.length := by omega
        subst this
        go_wp2
        go_ret
        exact ⟨ret_bool (by have := hgood.out; rw [List.take_length] at this; rw [HG.out]; exact this.symm), hb⟩

theorem numbered_most {r : Int} (h : numberedB r = true) : mostN r = 1000000 := by unfold numberedB at h; unfold mostN; simp at h; rw [if_pos h]
theorem numbered_least {r : Int} (h : numberedB r = false) : mostN r = 0 := by unfold numberedB at h; unfold mostN; simp at h; rw [if_neg (by omega)]
theorem most_le (r : Int) : mostN r ≤ 1000000 := by unfold mostN; split <;> omega
set_option maxRecDepth 20000 in
set_option maxHeartbeats 4000000 in
theorem drefright_any (t : Tm) : ∀ (w : World) (s : Value), Lies w t.kids s → Calls Tryd.prog 14 #[tv t s] w fun e w' => e = .returned (.bool t.rightB) ∧ Below w.heap.size w w' := by
  induction t using Tm.ind with
  | h t ih =>
    intro w s hl
    obtain ⟨a, cap, S, rfl, hc, hm, hf, hn, hk⟩ := hl.out
    unfold tv
    unfold maxLen at hm
    have H0 := held_start w t (.slice a t.kids.length cap)
    obtain ⟨d0, d1, d2⟩ := held_cells H0
    have IH := Lib.hid ih
    have HN := Lib.hid hn
    have HK := Lib.hid hk
    clear ih hn hk hf hl
    obtain ⟨n, hnn⟩ : ∃ n, dkidsN t.k = n := ⟨_, rfl⟩
    have HNN := Lib.hid hnn
    obtain ⟨nb, hnb⟩ : ∃ nb, numberedB t.k = nb := ⟨_, rfl⟩
    have HNB := Lib.hid hnb
    clear hnn hnb
    by_cases h1 : n < 0
    · have HB := Lib.hid (right_bad (t := t) (bad1 (by rw [HNN.out]; exact h1)))
      have e1 : decide (n < 0) = true := by simpa using h1
      go_enter Tryd.func14, Tryd.ntmps14
      go_wp2_with fail
      generalize w.alloc (.cells #[.int .i64 t.k, .int .i64 t.i, .slice a t.kids.length cap] 24) = w2 at H0 d0 d1 d2 ⊢
      have k0 := cell_regrown d0
      have k1 := cell_regrown d1
      have k2 := cell_regrown d2
      have cK : ∀ d os, Calls Tryd.prog 27 #[.int .i64 t.k] (Go.Sort.grow (redrawn w2 d) os) fun e w'' => e = .returned (.int .i64 n) ∧ ∃ p : Regrown, w'' = Go.Sort.grow (redrawn w2 p.d) p.os := fun d os => Calls.regrown_of ((drefkids_any t.k _).mono fun e w' ⟨he, hb⟩ => ⟨by rw [he, HNN.out], hb⟩)
      have cN : ∀ d os, Calls Tryd.prog 28 #[.int .i64 t.k] (Go.Sort.grow (redrawn w2 d) os) fun e w'' => e = .returned (.bool nb) ∧ ∃ p : Regrown, w'' = Go.Sort.grow (redrawn w2 p.d) p.os := fun d os => Calls.regrown_of ((numbered_any t.k _).mono fun e w' ⟨he, hw⟩ => ⟨by rw [he, HNB.out], by rw [hw]; exact Below.refl _ _⟩)
      refine wp_region_quiet_below (by kernel_rfl) (by kernel_rfl) ?_
      repeat (any_goals (first | go_big_quiet_step (first | with_reducible exact cK _ _ | with_reducible exact cN _ _) | quiet_step (first | with_reducible exact cK _ _ | with_reducible exact cN _ _)))
      refine wpQuiet_nil ?_
      intro _ hw'
      obtain ⟨⟨dq, osq⟩, hw''⟩ := hw'
      subst hw''
      have H1 := held_grown H0 dq osq
      clear H0 k0 k1 k2 cK cN d0 d1 d2
      go_wp2
      go_ret
      exact ⟨ret_bool HB.out.symm, held_below H1⟩
    have e1 : decide (n < 0) = false := by simpa using h1
    by_cases h2 : (t.kids.length : Int) = n
    rotate_left
    · have HB := Lib.hid (right_bad (t := t) (bad2 (by rw [HNN.out]; exact h2)))
      have e2 : ((t.kids.length : Int) == n) = false := by simpa using h2
      have e2' : ((t.kids.length : Int) != n) = true := by simpa using h2
      clear h2
      go_enter Tryd.func14, Tryd.ntmps14
      go_wp2_with fail
      generalize w.alloc (.cells #[.int .i64 t.k, .int .i64 t.i, .slice a t.kids.length cap] 24) = w2 at H0 d0 d1 d2 ⊢
      have k0 := cell_regrown d0
      have k1 := cell_regrown d1
      have k2 := cell_regrown d2
      have cK : ∀ d os, Calls Tryd.prog 27 #[.int .i64 t.k] (Go.Sort.grow (redrawn w2 d) os) fun e w'' => e = .returned (.int .i64 n) ∧ ∃ p : Regrown, w'' = Go.Sort.grow (redrawn w2 p.d) p.os := fun d os => Calls.regrown_of ((drefkids_any t.k _).mono fun e w' ⟨he, hb⟩ => ⟨by rw [he, HNN.out], hb⟩)
      have cN : ∀ d os, Calls Tryd.prog 28 #[.int .i64 t.k] (Go.Sort.grow (redrawn w2 d) os) fun e w'' => e = .returned (.bool nb) ∧ ∃ p : Regrown, w'' = Go.Sort.grow (redrawn w2 p.d) p.os := fun d os => Calls.regrown_of ((numbered_any t.k _).mono fun e w' ⟨he, hw⟩ => ⟨by rw [he, HNB.out], by rw [hw]; exact Below.refl _ _⟩)
      refine wp_region_quiet_below (by kernel_rfl) (by kernel_rfl) ?_
      repeat (any_goals (first | go_big_quiet_step (first | with_reducible exact cK _ _ | with_reducible exact cN _ _) | quiet_step (first | with_reducible exact cK _ _ | with_reducible exact cN _ _)))
      refine wpQuiet_nil ?_
      intro _ hw'
      obtain ⟨⟨dq, osq⟩, hw''⟩ := hw'
      subst hw''
      have H1 := held_grown H0 dq osq
      clear H0 k0 k1 k2 cK cN d0 d1 d2
      go_wp2
      go_ret
      exact ⟨ret_bool HB.out.symm, held_below H1⟩
    have e2 : ((t.kids.length : Int) == n) = true := by simpa using h2
    have e2' : ((t.kids.length : Int) != n) = false := by simpa using h2
    have H2 := Lib.hid h2
    clear h2
    by_cases h3 : t.i < 0
    · have HB := Lib.hid (right_bad (t := t) (bad3 (n := t.kids.length) h3))
      have e3 : decide (t.i < 0) = true := by simpa using h3
      go_enter Tryd.func14, Tryd.ntmps14
      go_wp2_with fail
      generalize w.alloc (.cells #[.int .i64 t.k, .int .i64 t.i, .slice a t.kids.length cap] 24) = w2 at H0 d0 d1 d2 ⊢
      have k0 := cell_regrown d0
      have k1 := cell_regrown d1
      have k2 := cell_regrown d2
      have cK : ∀ d os, Calls Tryd.prog 27 #[.int .i64 t.k] (Go.Sort.grow (redrawn w2 d) os) fun e w'' => e = .returned (.int .i64 n) ∧ ∃ p : Regrown, w'' = Go.Sort.grow (redrawn w2 p.d) p.os := fun d os => Calls.regrown_of ((drefkids_any t.k _).mono fun e w' ⟨he, hb⟩ => ⟨by rw [he, HNN.out], hb⟩)
      have cN : ∀ d os, Calls Tryd.prog 28 #[.int .i64 t.k] (Go.Sort.grow (redrawn w2 d) os) fun e w'' => e = .returned (.bool nb) ∧ ∃ p : Regrown, w'' = Go.Sort.grow (redrawn w2 p.d) p.os := fun d os => Calls.regrown_of ((numbered_any t.k _).mono fun e w' ⟨he, hw⟩ => ⟨by rw [he, HNB.out], by rw [hw]; exact Below.refl _ _⟩)
      refine wp_region_quiet_below (by kernel_rfl) (by kernel_rfl) ?_
      repeat (any_goals (first | go_big_quiet_step (first | with_reducible exact cK _ _ | with_reducible exact cN _ _) | quiet_step (first | with_reducible exact cK _ _ | with_reducible exact cN _ _)))
      refine wpQuiet_nil ?_
      intro _ hw'
      obtain ⟨⟨dq, osq⟩, hw''⟩ := hw'
      subst hw''
      have H1 := held_grown H0 dq osq
      clear H0 k0 k1 k2 cK cN d0 d1 d2
      go_wp2
      go_ret
      exact ⟨ret_bool HB.out.symm, held_below H1⟩
    have e3 : decide (t.i < 0) = false := by simpa using h3
    by_cases h4 : 1000000 < t.i
    · have HB := Lib.hid (right_bad (t := t) (bad4 (n := t.kids.length) (by have := most_le t.k; omega)))
      have e4 : decide (1000000 < t.i) = true := by simpa using h4
      go_enter Tryd.func14, Tryd.ntmps14
      go_wp2_with fail
      generalize w.alloc (.cells #[.int .i64 t.k, .int .i64 t.i, .slice a t.kids.length cap] 24) = w2 at H0 d0 d1 d2 ⊢
      have k0 := cell_regrown d0
      have k1 := cell_regrown d1
      have k2 := cell_regrown d2
      have cK : ∀ d os, Calls Tryd.prog 27 #[.int .i64 t.k] (Go.Sort.grow (redrawn w2 d) os) fun e w'' => e = .returned (.int .i64 n) ∧ ∃ p : Regrown, w'' = Go.Sort.grow (redrawn w2 p.d) p.os := fun d os => Calls.regrown_of ((drefkids_any t.k _).mono fun e w' ⟨he, hb⟩ => ⟨by rw [he, HNN.out], hb⟩)
      have cN : ∀ d os, Calls Tryd.prog 28 #[.int .i64 t.k] (Go.Sort.grow (redrawn w2 d) os) fun e w'' => e = .returned (.bool nb) ∧ ∃ p : Regrown, w'' = Go.Sort.grow (redrawn w2 p.d) p.os := fun d os => Calls.regrown_of ((numbered_any t.k _).mono fun e w' ⟨he, hw⟩ => ⟨by rw [he, HNB.out], by rw [hw]; exact Below.refl _ _⟩)
      refine wp_region_quiet_below (by kernel_rfl) (by kernel_rfl) ?_
      repeat (any_goals (first | go_big_quiet_step (first | with_reducible exact cK _ _ | with_reducible exact cN _ _) | quiet_step (first | with_reducible exact cK _ _ | with_reducible exact cN _ _)))
      refine wpQuiet_nil ?_
      intro _ hw'
      obtain ⟨⟨dq, osq⟩, hw''⟩ := hw'
      subst hw''
      have H1 := held_grown H0 dq osq
      clear H0 k0 k1 k2 cK cN d0 d1 d2
      go_wp2
      go_ret
      exact ⟨ret_bool HB.out.symm, held_below H1⟩
    have e4 : decide (1000000 < t.i) = false := by simpa using h4
    by_cases h5 : 0 < t.i
    · have e5 : decide (0 < t.i) = true := by simpa using h5
      cases nb with
      | false =>
        have HB := Lib.hid (right_bad (t := t) (bad4 (n := t.kids.length) (by rw [numbered_least HNB.out]; exact h5)))
        go_enter Tryd.func14, Tryd.ntmps14
        go_wp2_with fail
        generalize w.alloc (.cells #[.int .i64 t.k, .int .i64 t.i, .slice a t.kids.length cap] 24) = w2 at H0 d0 d1 d2 ⊢
        have k0 := cell_regrown d0
        have k1 := cell_regrown d1
        have k2 := cell_regrown d2
        have cK : ∀ d os, Calls Tryd.prog 27 #[.int .i64 t.k] (Go.Sort.grow (redrawn w2 d) os) fun e w'' => e = .returned (.int .i64 n) ∧ ∃ p : Regrown, w'' = Go.Sort.grow (redrawn w2 p.d) p.os := fun d os => Calls.regrown_of ((drefkids_any t.k _).mono fun e w' ⟨he, hb⟩ => ⟨by rw [he, HNN.out], hb⟩)
        have cN : ∀ d os, Calls Tryd.prog 28 #[.int .i64 t.k] (Go.Sort.grow (redrawn w2 d) os) fun e w'' => e = .returned (.bool false) ∧ ∃ p : Regrown, w'' = Go.Sort.grow (redrawn w2 p.d) p.os := fun d os => Calls.regrown_of ((numbered_any t.k _).mono fun e w' ⟨he, hw⟩ => ⟨by rw [he, HNB.out], by rw [hw]; exact Below.refl _ _⟩)
        refine wp_region_quiet_below (by kernel_rfl) (by kernel_rfl) ?_
        repeat (any_goals (first | go_big_quiet_step (first | with_reducible exact cK _ _ | with_reducible exact cN _ _) | quiet_step (first | with_reducible exact cK _ _ | with_reducible exact cN _ _)))
        refine wpQuiet_nil ?_
        intro _ hw'
        obtain ⟨⟨dq, osq⟩, hw''⟩ := hw'
        subst hw''
        have H1 := held_grown H0 dq osq
        clear H0 k0 k1 k2 cK cN d0 d1 d2
        go_wp2
        go_ret
        exact ⟨ret_bool HB.out.symm, held_below H1⟩
      | true =>
        have HG := Lib.hid (show t.rightB = rights t.kids by rw [t.rightB_eq, good_node (by rw [HNN.out]; omega) (by rw [HNN.out]; exact H2.out) (by omega) (by rw [numbered_most HNB.out]; omega)]; rfl)
        go_enter Tryd.func14, Tryd.ntmps14
        go_wp2_with fail
        generalize w.alloc (.cells #[.int .i64 t.k, .int .i64 t.i, .slice a t.kids.length cap] 24) = w2 at H0 d0 d1 d2 ⊢
        have k0 := cell_regrown d0
        have k1 := cell_regrown d1
        have k2 := cell_regrown d2
        have cK : ∀ d os, Calls Tryd.prog 27 #[.int .i64 t.k] (Go.Sort.grow (redrawn w2 d) os) fun e w'' => e = .returned (.int .i64 n) ∧ ∃ p : Regrown, w'' = Go.Sort.grow (redrawn w2 p.d) p.os := fun d os => Calls.regrown_of ((drefkids_any t.k _).mono fun e w' ⟨he, hb⟩ => ⟨by rw [he, HNN.out], hb⟩)
        have cN : ∀ d os, Calls Tryd.prog 28 #[.int .i64 t.k] (Go.Sort.grow (redrawn w2 d) os) fun e w'' => e = .returned (.bool true) ∧ ∃ p : Regrown, w'' = Go.Sort.grow (redrawn w2 p.d) p.os := fun d os => Calls.regrown_of ((numbered_any t.k _).mono fun e w' ⟨he, hw⟩ => ⟨by rw [he, HNB.out], by rw [hw]; exact Below.refl _ _⟩)
        refine wp_region_quiet_below (by kernel_rfl) (by kernel_rfl) ?_
        repeat (any_goals (first | go_big_quiet_step (first | with_reducible exact cK _ _ | with_reducible exact cN _ _) | quiet_step (first | with_reducible exact cK _ _ | with_reducible exact cN _ _)))
        refine wpQuiet_nil ?_
        intro _ hw'
        obtain ⟨⟨dq, osq⟩, hw''⟩ := hw'
        subst hw''
        have H1 := held_grown H0 dq osq
        clear H0 k0 k1 k2 cK cN d0 d1 d2
        generalize Go.Sort.grow (redrawn w2 dq) osq = w3 at H1 ⊢
        go_wp2_with fail
        go_loopw [3] (fun iv wr => ∃ q : Nat, q ≤ t.kids.length ∧ iv = .int .i64 q ∧ Hid (rights (t.kids.take q) = true) ∧ Held w t (.slice a t.kids.length cap) wr) (fun iv _ => t.kids.length - (intOf iv).toNat)
        case atStart => exact ⟨0, Nat.zero_le _, rfl, by simp [Hid, rights], H1⟩
        case round =>
          clear H1
          obtain ⟨q, hq0, rfl, hgood, hh⟩ := hrel
          have hb := held_below hh
          obtain ⟨d0, d1, d2⟩ := held_cells hh
          by_cases hlt : q < t.kids.length
          · obtain ⟨b, o, rfl, hx⟩ := HN.out q hlt
            obtain ⟨c0, c1, c2⟩ := hx.below hb hx.lt
            have hq := (HK.out q hlt).keep hb
            obtain ⟨a', cap', S', hS, -⟩ := hq.out
            rw [hS] at c2 hq
            have HQ := Lib.hid hq
            have HM := Lib.hid (List.getElem_mem hlt)
            clear hS hq
            go_wp2_with fail
            refine (IH.out _ HM.out _ _ HQ.out).mono ?_
            rintro e wn ⟨rfl, hbn⟩
            have hh3 := held_call hh hbn
            clear hbn hb d0 d1 d2
            cases hr : (t.kids[q]).rightB
            · have HR := Lib.hid (rights_of t.kids q hlt hr)
              go_wp2
              go_ret
              exact ⟨ret_bool (by rw [HG.out]; exact HR.out.symm), held_below hh3⟩
            · go_wp2
              go_roundw
              case rel => exact ⟨q + 1, by omega, by go_num, by show _ = true; rw [rights_take _ _ hlt, hgood.out, hr]; rfl, hh3⟩
              case measure => simp [intOf]; omega
          · have : q = t.kids.length := by omega
            subst this
            go_wp2
            go_ret
            exact ⟨ret_bool (by have := hgood.out; rw [List.take_length] at this; rw [HG.out]; exact this.symm), hb⟩
    · have e5 : decide (0 < t.i) = false := by simpa using h5
      have HG := Lib.hid (show t.rightB = rights t.kids by rw [t.rightB_eq, good_node (by rw [HNN.out]; omega) (by rw [HNN.out]; exact H2.out) (by omega) (by unfold mostN; split <;> omega)]; rfl)
      go_enter Tryd.func14, Tryd.ntmps14
      go_wp2_with fail
      generalize w.alloc (.cells #[.int .i64 t.k, .int .i64 t.i, .slice a t.kids.length cap] 24) = w2 at H0 d0 d1 d2 ⊢
      have k0 := cell_regrown d0
      have k1 := cell_regrown d1
      have k2 := cell_regrown d2
      have cK : ∀ d os, Calls Tryd.prog 27 #[.int .i64 t.k] (Go.Sort.grow (redrawn w2 d) os) fun e w'' => e = .returned (.int .i64 n) ∧ ∃ p : Regrown, w'' = Go.Sort.grow (redrawn w2 p.d) p.os := fun d os => Calls.regrown_of ((drefkids_any t.k _).mono fun e w' ⟨he, hb⟩ => ⟨by rw [he, HNN.out], hb⟩)
      have cN : ∀ d os, Calls Tryd.prog 28 #[.int .i64 t.k] (Go.Sort.grow (redrawn w2 d) os) fun e w'' => e = .returned (.bool nb) ∧ ∃ p : Regrown, w'' = Go.Sort.grow (redrawn w2 p.d) p.os := fun d os => Calls.regrown_of ((numbered_any t.k _).mono fun e w' ⟨he, hw⟩ => ⟨by rw [he, HNB.out], by rw [hw]; exact Below.refl _ _⟩)
      refine wp_region_quiet_below (by kernel_rfl) (by kernel_rfl) ?_
      repeat (any_goals (first | go_big_quiet_step (first | with_reducible exact cK _ _ | with_reducible exact cN _ _) | quiet_step (first | with_reducible exact cK _ _ | with_reducible exact cN _ _)))
      refine wpQuiet_nil ?_
      intro _ hw'
      obtain ⟨⟨dq, osq⟩, hw''⟩ := hw'
      subst hw''
      have H1 := held_grown H0 dq osq
      clear H0 k0 k1 k2 cK cN d0 d1 d2
      generalize Go.Sort.grow (redrawn w2 dq) osq = w3 at H1 ⊢
      go_wp2_with fail
      go_loopw [3] (fun iv wr => ∃ q : Nat, q ≤ t.kids.length ∧ iv = .int .i64 q ∧ Hid (rights (t.kids.take q) = true) ∧ Held w t (.slice a t.kids.length cap) wr) (fun iv _ => t.kids.length - (intOf iv).toNat)
      case atStart => exact ⟨0, Nat.zero_le _, rfl, by simp [Hid, rights], H1⟩
      case round =>
        clear H1
        obtain ⟨q, hq0, rfl, hgood, hh⟩ := hrel
        have hb := held_below hh
        obtain ⟨d0, d1, d2⟩ := held_cells hh
        by_cases hlt : q < t.kids.length
        · obtain ⟨b, o, rfl, hx⟩ := HN.out q hlt
          obtain ⟨c0, c1, c2⟩ := hx.below hb hx.lt
          have hq := (HK.out q hlt).keep hb
          obtain ⟨a', cap', S', hS, -⟩ := hq.out
          rw [hS] at c2 hq
          have HQ := Lib.hid hq
          have HM := Lib.hid (List.getElem_mem hlt)
          clear hS hq
          go_wp2_with fail
          refine (IH.out _ HM.out _ _ HQ.out).mono ?_
          rintro e wn ⟨rfl, hbn⟩
          have hh3 := held_call hh hbn
          clear hbn hb d0 d1 d2
          cases hr : (t.kids[q]).rightB
          · have HR := Lib.hid (rights_of t.kids q hlt hr)
            go_wp2
            go_ret
            exact ⟨ret_bool (by rw [HG.out]; exact HR.out.symm), held_below hh3⟩
          · go_wp2
            go_roundw
            case rel => exact ⟨q + 1, by omega, by go_num, by show _ = true; rw [rights_take _ _ hlt, hgood.out, hr]; rfl, hh3⟩
            case measure => simp [intOf]; omega
        · have : q = t.kids.length := by omega
          subst this
          go_wp2
          go_ret
          exact ⟨ret_bool (by have := hgood.out; rw [List.take_length] at this; rw [HG.out]; exact this.symm), hb⟩
end Go.Proofs.YtdhfbphliejcdaaDoor.Dv

namespace Go.Proofs.YtdhfbphliejcdaaDoor.Dv

/-- What the one gives the other gives, but for what is beyond an allowance. -/
def Mo {α : Type} (x y : Except PF α) : Prop := (∀ r, x = .ok r → y = .ok r) ∧ ∀ a, x = .error (0, a) → y = .error (0, a)
theorem Mo.refl {α : Type} (x : Except PF α) : Mo x x := ⟨fun _ h => h, fun _ h => h⟩
end Go.Proofs.YtdhfbphliejcdaaDoor.Dv

namespace Go.Proofs.YtdhfbphliejcdaaDoor.Dv
open Go.RowKit

mutual
def Tm.deep : Tm → Nat
  | .mk _ _ l => deeps l + 1
def deeps : List Tm → Nat
  | [] => 0
  | t :: r => max t.deep (deeps r)
end

theorem deeps_take (l : List Tm) (k : Nat) (h : k < l.length) : deeps (l.take (k + 1)) = max (deeps (l.take k)) (l[k]).deep := by
  induction l generalizing k with
  | nil => simp at h
  | cons a r ih =>
    cases k with
    | zero => simp [deeps]
    | succ k => simp only [List.take_succ_cons, deeps, List.getElem_cons_succ]; rw [ih k (by simpa using h)]; omega

theorem Tm.deep_eq (t : Tm) : t.deep = deeps t.kids + 1 := by cases t; rfl

end Go.Proofs.YtdhfbphliejcdaaDoor.Dv

namespace Go.Proofs.YtdhfbphliejcdaaDoor.Dv

/-- Within the depth from one to another. -/
def AllIn (m : Nat) (a b : Nat) : Prop := ∀ n : Nat, a ≤ n → n < b → withinB n m = true
def SomeOut (m : Nat) (a b : Nat) : Prop := ∃ n : Nat, a ≤ n ∧ n < b ∧ withinB n m = false
theorem AllIn.nil {m a : Nat} : AllIn m a a := fun n h1 h2 => by omega
theorem AllIn.one {m a : Nat} (h : withinB a m = true) : AllIn m a (a + 1) := fun n h1 h2 => by
  obtain rfl : n = a := by omega
  exact h
theorem SomeOut.mono {m a b c d : Nat} (h : SomeOut m a b) (h1 : c ≤ a) (h2 : b ≤ d) : SomeOut m c d := by
  obtain ⟨n, k1, k2, k3⟩ := h
  exact ⟨n, by omega, by omega, k3⟩
end Go.Proofs.YtdhfbphliejcdaaDoor.Dv

namespace Go.Proofs.YtdhfbphliejcdaaDoor

/-- Tokens of a text that stands m bytes further on. -/
def shB (m : Nat) (R : List Tok × Option Nat) : List Tok × Option Nat := (R.1.map (fun t => ⟨t.k, t.s, t.at_ + m⟩), R.2.map (· + m))
theorem lex_shift (pre l : List UInt8) : ∀ n p, l.length - p ≤ n → lexL (pre ++ l) (p + pre.length) = shB pre.length (lexL l p) := by
  intro n
  have dr : ∀ q, (pre ++ l).drop (q + pre.length) = l.drop q := fun q => by rw [Nat.add_comm, List.drop_append, List.drop_of_length_le (by omega), List.nil_append, Nat.add_sub_cancel_left]
  induction n with
  | zero =>
    intro p h
    rw [lexL_end (l := l) (p := p) (by omega), lexL_end (by rw [List.length_append]; omega)]
    rfl
  | succ n ih =>
    intro p h
    by_cases h1 : p + skipL (l.drop p) < l.length
    · obtain ⟨q, hq⟩ : ∃ q, p + skipL (l.drop p) = q := ⟨_, rfl⟩
      have hq2 : p + pre.length + skipL ((pre ++ l).drop (p + pre.length)) = q + pre.length := by rw [dr]; omega
      rw [hq] at h1
      have hlt : q + pre.length < (pre ++ l).length := by rw [List.length_append]; omega
      cases hn : nextL (l.drop q) with
      | none => rw [lexL_fault hq h1 hn, lexL_fault hq2 hlt (by rw [dr]; exact hn)]; rfl
      | some x =>
        obtain ⟨k, m⟩ := x
        have hrg := nextL_range hn
        rw [lexL_next hq h1 hn, lexL_next hq2 hlt (by rw [dr]; exact hn), dr, show q + pre.length + m = q + m + pre.length by omega, ih (q + m) (by omega)]
        rfl
    · rw [lexL_end h1, lexL_end (by rw [dr, List.length_append]; omega)]
      rfl

end Go.Proofs.YtdhfbphliejcdaaDoor

namespace Go.Proofs.YtdhfbphliejcdaaDoor

/-- What stands behind a token ends it. -/
def Stops (Y : List UInt8) : Prop := ∀ c r, Y = c :: r → wordC c = false
theorem wordC_no {c : UInt8} (h : wordC c = false) : letterC c = false ∧ isd c = false := by unfold wordC at h; simpa using h
theorem runL_cut {p : UInt8 → Bool} {Y : List UInt8} (hY : ∀ c r, Y = c :: r → p c = false) : ∀ X, runL p (X.take (runL p X) ++ Y) = runL p X
  | [] => by
    match Y, hY with
    | [], _ => rfl
    | c :: r, hY => exact runL_no (hY c r rfl)
  | c :: r => by
    by_cases h : p c = true
    · rw [runL_yes h, List.take_succ_cons, List.cons_append, runL_yes h, runL_cut hY r]
    · have h' : p c = false := by simpa using h
      rw [runL_no h', List.take_zero, List.nil_append]
      match Y, hY with
      | [], _ => rfl
      | c :: r, hY => exact runL_no (hY c r rfl)
/-- A token by itself: it is read again wherever something stands behind it that ends it. -/
def Solid (t : Tok) : Prop := ∀ Y, Stops Y → nextL (t.s ++ Y) = some (t.k, t.s.length) ∧ skipL (t.s ++ Y) = 0
theorem solid_of {X : List UInt8} {k n a : Nat} (h : nextL X = some (k, n)) : Solid ⟨k, X.take n, a⟩ := by
  intro Y hY
  match X, h with
  | [], h => cases h
  | c :: r, h =>
    show nextL ((c :: r).take n ++ Y) = some (k, ((c :: r).take n).length) ∧ skipL ((c :: r).take n ++ Y) = 0
    by_cases c1 : c.toNat = 40
    · rw [next_open c1] at h
      cases h
      exact ⟨next_open c1, skipL_stop (by unfold blankC; rw [c1]; rfl) (by omega)⟩
    by_cases c2 : c.toNat = 41
    · rw [next_close c2] at h
      cases h
      exact ⟨next_close c2, skipL_stop (by unfold blankC; rw [c2]; rfl) (by omega)⟩
    have hw := runL_cut (p := wordC) (Y := Y) (fun c r e => hY c r e) (c :: r)
    have hd := runL_cut (p := isd) (Y := Y) (fun c r e => (wordC_no (hY c r e)).2) (c :: r)
    have hlw := runL_le wordC (c :: r)
    have hld := runL_le isd (c :: r)
    by_cases c3 : letterC c = true
    · have hy : runL wordC (c :: r) = runL wordC r + 1 := runL_yes (by unfold wordC; rw [c3]; rfl)
      by_cases c4 : 20 < runL wordC (c :: r)
      · rw [next_long c1 c2 c3 c4] at h; cases h
      · rw [next_word c1 c2 c3 c4] at h
        cases h
        have hl : ((c :: r).take (runL wordC (c :: r))).length = runL wordC (c :: r) := by rw [List.length_take]; omega
        rw [hl]
        rw [hy, List.take_succ_cons, List.cons_append] at hw ⊢
        refine ⟨?_, skipL_stop ?_ ?_⟩
        · rw [next_word c1 c2 c3 (by omega), hw]
        · unfold letterC at c3
          unfold blankC
          have h2 : (97 ≤ c.toNat ∧ c.toNat ≤ 122) ∨ (65 ≤ c.toNat ∧ c.toNat ≤ 90) := by simpa using c3
          rw [beq_eq_false_iff_ne.2 (by omega : c.toNat ≠ 32), beq_eq_false_iff_ne.2 (by omega : c.toNat ≠ 9), beq_eq_false_iff_ne.2 (by omega : c.toNat ≠ 10)]; rfl
        · unfold letterC at c3
          have h2 : (97 ≤ c.toNat ∧ c.toNat ≤ 122) ∨ (65 ≤ c.toNat ∧ c.toNat ≤ 90) := by simpa using c3
          omega
    have c3' : letterC c = false := by simpa using c3
    by_cases c5 : isd c = true
    · have hy : runL isd (c :: r) = runL isd r + 1 := runL_yes c5
      by_cases c6 : getB ((c :: r).take (runL isd (c :: r))) = none ∨ ((((c :: r).drop (runL isd (c :: r))).head?.map letterC).getD false) = true
      · rw [next_bad c1 c2 c3' c5 c6] at h; cases h
      · rw [next_num c1 c2 c3' c5 c6] at h
        cases h
        have hl : ((c :: r).take (runL isd (c :: r))).length = runL isd (c :: r) := by rw [List.length_take]; omega
        have hg : getB ((c :: r).take (runL isd (c :: r))) ≠ none := fun e => c6 (Or.inl e)
        have ht : ((c :: r).take (runL isd (c :: r)) ++ Y).take (runL isd (c :: r)) = (c :: r).take (runL isd (c :: r)) := by
          conv => lhs; rw [List.take_append_of_le_length (by rw [hl]; exact Nat.le_refl _)]
          rw [List.take_take, Nat.min_self]
        have hdr : ((c :: r).take (runL isd (c :: r)) ++ Y).drop (runL isd (c :: r)) = Y := List.drop_left' hl
        have hY2 : (Y.head?.map letterC).getD false = false := by
          match Y, hY with
          | [], _ => rfl
          | d :: s, hY => exact (wordC_no (hY d s rfl)).1
        rw [hl]
        generalize hX : (c :: r).take (runL isd (c :: r)) = X at *
        have hX2 : X = c :: r.take (runL isd r) := by rw [← hX, hy, List.take_succ_cons]
        rw [hX2, List.cons_append] at hd ht hdr ⊢
        refine ⟨?_, skipL_stop ?_ ?_⟩
        · rw [next_num c1 c2 c3' c5 (by rw [hd, ht, hdr, hY2, ← hX2]; rintro (e | e); exact hg e; cases e), hd]
        · unfold isd at c5
          have h2 : 48 ≤ c.toNat ∧ c.toNat ≤ 57 := by simpa using c5
          unfold blankC
          rw [beq_eq_false_iff_ne.2 (by omega : c.toNat ≠ 32), beq_eq_false_iff_ne.2 (by omega : c.toNat ≠ 9), beq_eq_false_iff_ne.2 (by omega : c.toNat ≠ 10)]; rfl
        · unfold isd at c5
          have h2 : 48 ≤ c.toNat ∧ c.toNat ≤ 57 := by simpa using c5
          omega
    · rw [next_other c1 c2 c3' (by simpa using c5)] at h; cases h
end Go.Proofs.YtdhfbphliejcdaaDoor

namespace Go.Proofs.YtdhfbphliejcdaaDoor.Dv

inductive Ak : List Tok → List Tok → Prop
  | nil : Ak [] []
  | cons {t u : Tok} {r q : List Tok} : t.k = u.k → t.s = u.s → Ak r q → Ak (t :: r) (u :: q)
theorem Ak.length {r q : List Tok} (h : Ak r q) : r.length = q.length := by
  induction h with
  | nil => rfl
  | cons _ _ _ ih => simp [ih]
inductive Rp : Except PF (List Tm × Tm) → Except PF (List Tm × Tm) → Prop
  | ok (x : List Tm × Tm) : Rp (.ok x) (.ok x)
  | err (k a b : Nat) : Rp (.error (k, a)) (.error (k, b))
end Go.Proofs.YtdhfbphliejcdaaDoor.Dv

namespace Go.Proofs.YtdhfbphliejcdaaDoor
open Go.RowKit Go.Maps Go.ChangeShapes

theorem TxLies.up {B B' : Nat} {w : World} {l : Names} {v : Value} (h : TxLies B w l v) (hB : B ≤ B') : TxLies B' w l v := by
  obtain ⟨a, c, e1, e2, e3, e4⟩ := h
  exact ⟨a, c, e1, e2, e3, fun q hq => by obtain ⟨g, o, h1, h2, h3⟩ := e4 q hq; exact ⟨g, o, h1, by omega, h3⟩⟩
end Go.Proofs.YtdhfbphliejcdaaDoor

namespace Go.Proofs.YtdhfbphliejcdaaDoor

def Lk (a b : List Tok) : Prop := a.map (fun t => (t.k, t.s)) = b.map (fun t => (t.k, t.s))
theorem Lk.nil {b : List Tok} (h : Lk [] b) : b = [] := by unfold Lk at h; simpa using h.symm
theorem Lk.cons {t : Tok} {r b : List Tok} (h : Lk (t :: r) b) : ∃ t1 r1, b = t1 :: r1 ∧ t1.k = t.k ∧ t1.s = t.s ∧ Lk r r1 := by
  cases b with
  | nil => unfold Lk at h; simp at h
  | cons t1 r1 =>
    unfold Lk at h
    simp only [List.map_cons, List.cons.injEq, Prod.mk.injEq] at h
    exact ⟨t1, r1, rfl, h.1.1.symm, h.1.2.symm, h.2⟩
end Go.Proofs.YtdhfbphliejcdaaDoor

namespace Go.Proofs.YtdhfbphliejcdaaDoor

theorem Lk.refl (ts : List Tok) : Lk ts ts := rfl
end Go.Proofs.YtdhfbphliejcdaaDoor

namespace Go.Proofs.YtdhfbphliejcdaaDoor
open Go.Lib

/-- The words of a whole text, without their places. -/
def LX (l : List UInt8) (ps : List (Nat × List UInt8)) : Prop := ∃ ts, lexL l 0 = (ts, none) ∧ ts.map (fun t => (t.k, t.s)) = ps
theorem LX.nil : LX [] [] := ⟨[], lexL_end (by simp), rfl⟩
theorem LX.blank {Y : List UInt8} {ps : List (Nat × List UInt8)} (h : LX Y ps) : LX (32 :: Y) ps := by
  obtain ⟨ts, h1, h2⟩ := h
  have h3 := lex_shift [32] Y _ 0 (Nat.le_refl _)
  rw [h1] at h3
  have h4 : lexL (32 :: Y) 0 = lexL (32 :: Y) 1 := lexL_same (by
    rw [List.drop_zero, skipL_blank (by decide)]
    show 0 + (skipL Y + 1) = 1 + skipL Y
    omega)
  exact ⟨_, h4.trans h3, by rw [← h2]; simp⟩
theorem LX.tok {k : Nat} {s Y : List UInt8} {ps : List (Nat × List UInt8)} (ht : Solid ⟨k, s, 0⟩) (hY : Stops Y) (h : LX Y ps) : LX (s ++ Y) ((k, s) :: ps) := by
  obtain ⟨ts, h1, h2⟩ := h
  obtain ⟨n1, n2⟩ := ht Y hY
  simp only at n1 n2
  have hr := nextL_range n1
  have hx := lex_shift s Y _ 0 (Nat.le_refl _)
  rw [h1] at hx
  have h5 := lexL_next (l := s ++ Y) (p := 0) (q := 0) (k := k) (n := s.length) (by rw [List.drop_zero, n2]) (by simp at hr ⊢; omega) (by rw [List.drop_zero]; exact n1)
  rw [hx] at h5
  exact ⟨_, h5, by rw [← h2]; simp [shB]⟩
theorem runL_all {p : UInt8 → Bool} : ∀ {l : List UInt8}, l.all p = true → runL p l = l.length
  | [], _ => rfl
  | c :: r, h => by
    rw [List.all_cons, Bool.and_eq_true] at h
    rw [runL_yes h.1, runL_all h.2]
    rfl
theorem letter_not {c : UInt8} (h : letterC c = true) : ¬ c.toNat = 40 ∧ ¬ c.toNat = 41 ∧ ¬ c.toNat = 32 := by
  unfold letterC at h
  simp only [Bool.or_eq_true, Bool.and_eq_true, decide_eq_true_eq] at h
  omega
theorem sol_word {c : UInt8} {r : List UInt8} (h1 : letterC c = true) (h2 : r.all wordC = true) (h3 : r.length < 20) : Solid ⟨3, c :: r, 0⟩ := by
  obtain ⟨n1, n2, -⟩ := letter_not h1
  have hl : runL wordC (c :: r) = (c :: r).length := runL_all (by rw [List.all_cons, h2]; unfold wordC; rw [h1]; rfl)
  have hn := next_word (r := r) n1 n2 h1 (by rw [hl]; simp; omega)
  have h := solid_of (a := 0) hn
  rw [hl, List.take_length] at h
  exact h
end Go.Proofs.YtdhfbphliejcdaaDoor

namespace Go.Proofs.YtdhfbphliejcdaaDoor
open Go.RowKit

mutual
def sameB : Tm → Tm → Bool
  | .mk k i j n l, .mk k' i' j' n' l' => (k == k') && ((i == i') && ((j == j') && ((n == n') && samesB l l')))
def samesB : List Tm → List Tm → Bool
  | [], [] => true
  | x :: r, y :: s => sameB x y && samesB r s
  | [], _ :: _ => false
  | _ :: _, [] => false
end

theorem sameB_eq (a b : Tm) : sameB a b = ((a.k == b.k) && ((a.i == b.i) && ((a.j == b.j) && ((a.n == b.n) && samesB a.kids b.kids)))) := by
  cases a; cases b; simp only [sameB]; rfl

theorem samesB_length : ∀ {l m : List Tm}, samesB l m = true → l.length = m.length
  | [], [], _ => rfl
  | x :: r, y :: s, h => by simp only [samesB, Bool.and_eq_true] at h; simp [samesB_length h.2]
  | [], _ :: _, h => by simp [samesB] at h
  | _ :: _, [], h => by simp [samesB] at h

theorem sameB_true (a : Tm) : ∀ b, sameB a b = true → a = b := by
  induction a using Tm.ind with
  | h a ih =>
    intro b h
    rw [sameB_eq] at h
    simp only [Bool.and_eq_true, beq_iff_eq] at h
    have key : ∀ (l m : List Tm), (∀ x ∈ l, ∀ b, sameB x b = true → x = b) → samesB l m = true → l = m := by
      intro l
      induction l with
      | nil => intro m _ h; cases m with
        | nil => rfl
        | cons y s => simp [samesB] at h
      | cons x r ihl => intro m hx h; cases m with
        | nil => simp [samesB] at h
        | cons y s =>
          simp only [samesB, Bool.and_eq_true] at h
          rw [hx x List.mem_cons_self y h.1, ihl s (fun z hz => hx z (List.mem_cons_of_mem _ hz)) h.2]
    have hk := key a.kids b.kids ih h.2.2.2.2
    rw [← a.eta, ← b.eta, h.1, h.2.1, h.2.2.1, h.2.2.2.1, hk]

theorem sameB_self (a : Tm) : sameB a a = true := by
  induction a using Tm.ind with
  | h a ih =>
    rw [sameB_eq]
    have key : ∀ (l : List Tm), (∀ x ∈ l, sameB x x = true) → samesB l l = true := by
      intro l
      induction l with
      | nil => intro _; simp [samesB]
      | cons x r ihl => intro hx; simp only [samesB, hx x List.mem_cons_self, Bool.true_and]; exact ihl (fun z hz => hx z (List.mem_cons_of_mem _ hz))
    simp [key a.kids ih]

theorem sames_take : ∀ (l m : List Tm) (k : Nat) (h : k < l.length) (h' : k < m.length), samesB (l.take (k + 1)) (m.take (k + 1)) = (samesB (l.take k) (m.take k) && sameB l[k] m[k])
  | x :: r, y :: s, 0, _, _ => by simp [samesB]
  | x :: r, y :: s, k + 1, h, h' => by
    simp only [List.take_succ_cons, samesB, List.getElem_cons_succ]
    rw [sames_take r s k (by simpa using h) (by simpa using h'), Bool.and_assoc]

theorem sames_of : ∀ (l m : List Tm) (k : Nat) (h : k < l.length) (h' : k < m.length), sameB l[k] m[k] = false → samesB l m = false
  | x :: r, y :: s, 0, _, _, hs => by simp only [List.getElem_cons_zero] at hs; simp [samesB, hs]
  | x :: r, y :: s, k + 1, h, h', hs => by
    simp only [List.getElem_cons_succ] at hs
    simp [samesB, sames_of r s k (by simpa using h) (by simpa using h') hs]

theorem sames_ne {l m : List Tm} (h : l.length ≠ m.length) : samesB l m = false := by
  cases hs : samesB l m with
  | false => rfl
  | true => exact absurd (samesB_length hs) h

end Go.Proofs.YtdhfbphliejcdaaDoor

namespace Go.Proofs.YtdhfbphliejcdaaDoor
open Go.Lib

mutual
/-- The text of a term in a scope of m names. -/
def Tm.wr : Tm → Int → List UInt8
  | .mk k i j n l, m => if k = 2 then nameW (m - 1 - i) else 40 :: (headL k ++ (frontL k i j n m ++ (wrs k 0 l m ++ [41])))
def wrs (k : Int) : Nat → List Tm → Int → List UInt8
  | _, [], _ => []
  | p, t :: r, m => midL k p m ++ (32 :: (t.wr (m + bindsN k p) ++ wrs k (p + 1) r m))
end
/-- Behind a word: nothing, a blank or a closing bracket. -/
def DelW (r : List UInt8) : Prop := ∀ c, r.head? = some c → c = 32 ∨ c = 41
theorem del_nil : DelW [] := fun _ h => by cases h
theorem del_32 (r : List UInt8) : DelW (32 :: r) := fun c h => Or.inl (by simpa using h.symm)
theorem del_41 (r : List UInt8) : DelW (41 :: r) := fun c h => Or.inr (by simpa using h.symm)
def plainW (x : List UInt8) : Bool := x.all (fun c => c != 32 && c != 41)
theorem word_inj : ∀ {x y r s : List UInt8}, plainW x = true → plainW y = true → DelW r → DelW s → x ++ r = y ++ s → x = y ∧ r = s
  | [], [], r, s, _, _, _, _, h => ⟨rfl, h⟩
  | [], d :: y, r, s, _, hy, hr, _, h => by
    simp only [List.nil_append, List.cons_append] at h
    have := hr d (by rw [h]; rfl)
    simp [plainW] at hy
    rcases this with rfl | rfl <;> simp at hy
  | c :: x, [], r, s, hx, _, _, hs, h => by
    simp only [List.nil_append, List.cons_append] at h
    have := hs c (by rw [← h]; rfl)
    simp [plainW] at hx
    rcases this with rfl | rfl <;> simp at hx
  | c :: x, d :: y, r, s, hx, hy, hr, hs, h => by
    simp only [List.cons_append, List.cons.injEq] at h
    obtain ⟨rfl, h⟩ := h
    simp only [plainW, List.all_cons, Bool.and_eq_true] at hx hy
    obtain ⟨rfl, h2⟩ := word_inj (x := x) (y := y) (by simpa [plainW] using hx.2) (by simpa [plainW] using hy.2) hr hs h
    exact ⟨rfl, h2⟩
theorem isd_plain {c : UInt8} (h : isd c = true) : (c != 32 && c != 41) = true := by
  unfold isd at h
  simp only [Bool.and_eq_true, decide_eq_true_eq] at h
  have h1 : c ≠ 32 := fun e => by rw [e] at h; simp at h
  have h2 : c ≠ 41 := fun e => by rw [e] at h; simp at h
  simp [h1, h2]
theorem digs_plain {l : List UInt8} (h : digs l = true) : plainW l = true := by
  unfold digs at h
  unfold plainW
  rw [List.all_eq_true] at h ⊢
  exact fun c hc => isd_plain (h c hc)
theorem itoa_plain (n : Int) : plainW (itoa n) = true := by
  unfold itoa
  split
  · have := digs_plain (dec_digs n.natAbs)
    unfold plainW at this ⊢
    rw [List.all_cons, this]
    decide
  · exact digs_plain (dec_digs n.toNat)
theorem num_inj {a b : Int} {r s : List UInt8} (hr : DelW r) (hs : DelW s) (h : itoa a ++ r = itoa b ++ s) : a = b ∧ r = s := by
  obtain ⟨h1, h2⟩ := word_inj (itoa_plain a) (itoa_plain b) hr hs h
  exact ⟨itoa_inj h1, h2⟩
end Go.Proofs.YtdhfbphliejcdaaDoor

namespace Go.Proofs.YtdhfbphliejcdaaDoor.Dv
open Go.Lib

def wordL (k : Int) : List UInt8 := (wordN k).data.toList
def numL (k i : Int) : List UInt8 := if k = 1 ∨ k = 2 then 32 :: itoa i else []
mutual
/-- The text of a derivation. -/
def Tm.sh : Tm → List UInt8
  | .mk k i l => 40 :: (wordL k ++ (numL k i ++ (shs l ++ [41])))
def shs : List Tm → List UInt8
  | [] => []
  | t :: r => 32 :: (t.sh ++ shs r)
end
theorem Tm.sh_eq (t : Tm) : t.sh = 40 :: (wordL t.k ++ (numL t.k t.i ++ (shs t.kids ++ [41]))) := by cases t; rw [Tm.sh]; rfl
def ctxL : List Tm → List UInt8
  | [] => []
  | t :: r => t.sh ++ shs r
/-- The text of a file. -/
def fileL (c : List Tm) (t : Tm) : List UInt8 := 40 :: (fileW ++ (32 :: 40 :: (ctxL c ++ (41 :: 32 :: (t.sh ++ [41, 10])))))
theorem shs_append : ∀ a b : List Tm, shs (a ++ b) = shs a ++ shs b
  | [], b => by simp [shs]
  | t :: r, b => by rw [List.cons_append, shs, shs, shs_append r b]; simp
theorem words_read : ∀ a < 28, ruleN (wordL ((a : Nat) + 1 : Int)) = (a : Nat) + 1 ∧ ∃ c r, wordL ((a : Nat) + 1 : Int) = c :: r ∧ letterC c = true ∧ r.all wordC = true ∧ r.length < 7 := by
  intro a ha
  match a, ha with
  | n + 28, h => omega
  | 0, _ | 1, _ | 2, _ | 3, _ | 4, _ | 5, _ | 6, _ | 7, _ | 8, _ | 9, _ | 10, _ | 11, _ | 12, _ | 13, _ | 14, _ | 15, _ | 16, _ | 17, _ | 18, _ | 19, _ | 20, _ | 21, _ | 22, _ | 23, _ | 24, _ | 25, _ | 26, _ | 27, _ => exact ⟨by kernel_rfl, _, _, rfl, by decide, by decide, by decide⟩
theorem word_read {k : Int} (h : 1 ≤ k ∧ k ≤ 28) : ruleN (wordL k) = k ∧ Solid ⟨3, wordL k, 0⟩ ∧ (wordL k).length ≤ 7 ∧ plainW (wordL k) = true := by
  obtain ⟨a, rfl⟩ : ∃ a : Nat, k = (a : Int) + 1 := ⟨(k - 1).toNat, by omega⟩
  obtain ⟨h1, c, r, h2, h3, h4, h5⟩ := words_read a (by omega)
  refine ⟨h1, ?_, ?_, ?_⟩
  · rw [h2]; exact sol_word h3 h4 (by omega)
  · rw [h2]; simp only [List.length_cons]; omega
  · rw [h2]
    unfold plainW
    rw [List.all_eq_true]
    intro x hx
    have hw : wordC x = true := by
      rcases List.mem_cons.1 hx with rfl | hx
      · unfold wordC; rw [h3]; rfl
      · exact (List.all_eq_true.1 h4) x hx
    have n1 : x ≠ 32 := fun e => by rw [e] at hw; revert hw; decide
    have n2 : x ≠ 41 := fun e => by rw [e] at hw; revert hw; decide
    simp [n1, n2]
theorem word_inj28 {a b : Int} (ha : 1 ≤ a ∧ a ≤ 28) (hb : 1 ≤ b ∧ b ≤ 28) (h : wordL a = wordL b) : a = b := by rw [← (word_read ha).1, h, (word_read hb).1]
theorem dright_of {t : Tm} (h : t.rightB = true) : (1 ≤ t.k ∧ t.k ≤ 28) ∧ (t.kids.length : Int) = dkidsN t.k ∧ 0 ≤ t.i ∧ t.i ≤ mostN t.k ∧ rights t.kids = true := by
  rw [t.rightB_eq, Bool.and_eq_true] at h
  obtain ⟨h1, h2⟩ := h
  unfold nodeOk at h1
  simp only [Bool.and_eq_true, decide_eq_true_eq, beq_iff_eq] at h1
  refine ⟨?_, h1.1.1.2, h1.1.2, h1.2, h2⟩
  by_cases hk : 1 ≤ t.k ∧ t.k ≤ 28
  · exact hk
  · have := out_kids hk
    omega
theorem rights_mem : ∀ {l : List Tm}, rights l = true → ∀ x ∈ l, x.rightB = true
  | [], _, x, hx => by cases hx
  | t :: r, h, x, hx => by
    simp only [rights, Bool.and_eq_true] at h
    rcases List.mem_cons.1 hx with rfl | hx
    · exact h.1
    · exact rights_mem h.2 x hx
theorem most_num {k i : Int} (h : i ≤ mostN k) : i ≤ 1000000 ∧ (¬ (k = 1 ∨ k = 2) → i ≤ 0) := by
  unfold mostN at h
  split at h
  · exact ⟨h, fun hn => absurd (by assumption) hn⟩
  · exact ⟨by omega, fun _ => h⟩
theorem shs_del : ∀ (l : List Tm) (r : List UInt8), DelW (shs l ++ 41 :: r)
  | [], _ => del_41 _
  | _ :: _, _ => del_32 _
theorem num_del {k i : Int} {r : List UInt8} (h : DelW r) : DelW (numL k i ++ r) := by
  unfold numL
  split
  · exact del_32 _
  · exact h
theorem shs_inj : ∀ (l l' : List Tm), (∀ x ∈ l, ∀ (y : Tm) (r s : List UInt8), y.rightB = true → DelW r → DelW s → x.sh ++ r = y.sh ++ s → x = y ∧ r = s) → (∀ y ∈ l', y.rightB = true) →
    ∀ (r s : List UInt8), shs l ++ 41 :: r = shs l' ++ 41 :: s → l = l' ∧ r = s
  | [], [], _, _, r, s, h => by
    simp only [shs, List.nil_append, List.cons.injEq, true_and] at h
    exact ⟨rfl, h⟩
  | [], y :: l', _, _, r, s, h => by
    simp [shs] at h
  | x :: l, [], _, _, r, s, h => by
    simp [shs] at h
  | x :: l, y :: l', ih, hr, r, s, h => by
    simp only [shs, List.append_assoc, List.cons_append, List.cons.injEq, true_and] at h
    obtain ⟨rfl, h2⟩ := ih x List.mem_cons_self y _ _ (hr y List.mem_cons_self) (shs_del _ _) (shs_del _ _) h
    obtain ⟨rfl, h3⟩ := shs_inj l l' (fun z hz => ih z (List.mem_cons_of_mem _ hz)) (fun z hz => hr z (List.mem_cons_of_mem _ hz)) r s h2
    exact ⟨rfl, h3⟩
/-- The text says the derivation, and where it ends. -/
theorem sh_inj (a : Tm) : a.rightB = true → ∀ (b : Tm) (r s : List UInt8), b.rightB = true → DelW r → DelW s → a.sh ++ r = b.sh ++ s → a = b ∧ r = s := by
  induction a using Tm.ind with
  | h a ih =>
    intro ha b r s hb hr hs h
    obtain ⟨ka, la, i0, i1, ra⟩ := dright_of ha
    obtain ⟨kb, lb, j0, j1, rb⟩ := dright_of hb
    rw [Tm.sh_eq a, Tm.sh_eq b] at h
    simp only [List.cons_append, List.cons.injEq, true_and, List.append_assoc, List.nil_append] at h
    obtain ⟨h4, h5⟩ := word_inj (word_read ka).2.2.2 (word_read kb).2.2.2 (num_del (shs_del _ _)) (num_del (shs_del _ _)) h
    have hk := word_inj28 ka kb h4
    rw [← hk] at h5 j1
    have hi : a.i = b.i ∧ shs a.kids ++ 41 :: r = shs b.kids ++ 41 :: s := by
      unfold numL at h5
      by_cases hn : a.k = 1 ∨ a.k = 2
      · rw [if_pos hn, if_pos hn] at h5
        simp only [List.cons_append, List.cons.injEq, true_and] at h5
        exact num_inj (shs_del _ _) (shs_del _ _) h5
      · rw [if_neg hn, if_neg hn] at h5
        have e1 := (most_num i1).2 hn
        have e2 := (most_num j1).2 hn
        exact ⟨by omega, h5⟩
    obtain ⟨e3, e4⟩ := shs_inj a.kids b.kids (fun x hx y r s hy h1 h2 h3 => ih x hx (rights_mem ra x hx) y r s hy h1 h2 h3) (rights_mem rb) r s hi.2
    refine ⟨?_, e4⟩
    rw [← a.eta, ← b.eta, hk, hi.1, e3]
theorem sh_same {a b : Tm} (ha : a.rightB = true) (hb : b.rightB = true) : a.sh = b.sh ↔ a = b :=
  ⟨fun h => (sh_inj a ha b [] [] hb del_nil del_nil (by rw [h])).1, fun h => by rw [h]⟩

/-- How long a text is. -/
theorem shs_len : ∀ (l : List Tm), (∀ x ∈ l, (x.sh).length + 1 ≤ 32 * x.size) → (shs l).length ≤ 32 * sizes l
  | [], _ => by simp [shs]
  | x :: r, h => by
    have h1 := h x List.mem_cons_self
    have h2 := shs_len r (fun y hy => h y (List.mem_cons_of_mem _ hy))
    simp only [shs, sizes, List.length_cons, List.length_append]
    omega
theorem sh_len (t : Tm) : t.rightB = true → (t.sh).length + 1 ≤ 32 * t.size := by
  induction t using Tm.ind with
  | h t ih =>
    intro h
    obtain ⟨k1, -, i0, i1, r⟩ := dright_of h
    have hi := most_num i1
    have a := itoa_length_le t.i (by omega) (by omega)
    have b := (word_read k1).2.2.1
    have c := shs_len t.kids (fun x hx => ih x hx (rights_mem r x hx))
    have d : (numL t.k t.i).length ≤ 22 := by
      unfold numL
      split
      · simp only [List.length_cons]; omega
      · simp
    rw [Tm.sh_eq, Tm.size_eq]
    simp only [List.length_cons, List.length_append, List.length_nil]
    omega
theorem ctx_len {l : List Tm} (h : rights l = true) : (ctxL l).length ≤ 32 * sizes l := by
  cases l with
  | nil => simp [ctxL]
  | cons t r =>
    simp only [rights, Bool.and_eq_true] at h
    have h1 := sh_len t h.1
    have h2 := shs_len r (fun x hx => sh_len x (rights_mem h.2 x hx))
    simp only [ctxL, sizes, List.length_append]
    omega

abbrev PS := List (Nat × List UInt8)
mutual
/-- The words of a derivation's text. -/
def Tm.sp : Tm → PS
  | .mk k i l => (1, [40]) :: (3, wordL k) :: ((if k = 1 ∨ k = 2 then [(4, itoa i)] else []) ++ (sps l ++ [(2, [41])]))
def sps : List Tm → PS
  | [] => []
  | t :: r => t.sp ++ sps r
end
end Go.Proofs.YtdhfbphliejcdaaDoor.Dv

namespace Go.Proofs.YtdhfbphliejcdaaDoor
open Go.RowKit Go.Lib

/-- The library's table stays as it is whatever is made. -/
def Tab (w : World) : Prop := TabBelow Tryd.prog w.heap.size w "internal/strconv.uint64pow10" .u64 pow10Tab
theorem Tab.later {w w' : World} (h : Tab w) (hb : Below w.heap.size w w') : Tab w' := fun _ h2 => TabBelow.here (TabBelow.on h (hb.trans (h2.mono hb.size)))
/-- A variable that holds just these texts. -/
def StrIs (w : World) (name : String) (ss : List (List UInt8)) : Prop := w.var? Tryd.prog name = some (ss.map fun s => Value.string ⟨s.toArray⟩).toArray
theorem StrIs.cell {W : World} {name : String} {ss : List (List UInt8)} {g : Nat} (h : StrIs W name ss) (hg : Tryd.prog.globalNamed name = some g) (i : Nat) (hi : i < ss.length) : W.cell? ⟨g, i, none⟩ = some (.string ⟨(ss[i]).toArray⟩) := by
  have := World.var?_cell hg h i
  simpa [hi] using this
theorem StrIs.on {w w' : World} {name : String} {ss : List (List UInt8)} (h : StrIs w name ss) (hb : Below w.heap.size w w') : StrIs w' name ss := by
  unfold StrIs World.var? at *
  cases hg : Tryd.prog.globalNamed name with
  | none => simp [hg] at h
  | some g =>
    simp only [hg, Option.bind_some] at h ⊢
    have hlt : g < w.heap.size := by
      rcases Nat.lt_or_ge g w.heap.size with h' | h'
      · exact h'
      · rw [Array.getElem?_eq_none h'] at h; simp at h
    rw [hb.block g hlt]
    exact h
/-- What a text of a term is written from. -/
structure WTab (w : World) : Prop where
  pow : Tab w
  syms : StrIs w "tranship/read.symbols" symsW
  heads : StrIs w "tranship/write.heads" headsW
theorem WTab.later {w w' : World} (h : WTab w) (hb : Below w.heap.size w w') : WTab w' := ⟨h.pow.later hb, h.syms.on hb, h.heads.on hb⟩
theorem put_any (n : Int) (w : World) (hn : I64 n) (hT : Tab w) : Calls Tryd.prog 41 #[.int .i64 n] w fun e w' => e = .returned (.string ⟨(itoa n).toArray⟩) ∧ Below w.heap.size w w' := by
  have HC := Lib.hid (Tryd.strconv_Itoa n hn.1 hn.2 w (TabBelow.here hT))
  clear hn hT
  go_enter Tryd.func41, Tryd.ntmps41
  go_wp2_with fail
  refine HC.out.mono ?_
  rintro e w' ⟨rfl, k, os, rfl⟩
  go_wp2
  go_ret
  exact ⟨rfl, below_grow _ _ (Nat.le_refl _) _ _⟩
theorem str_add (a b : List UInt8) : (⟨a.toArray⟩ : ByteArray) ++ (⟨b.toArray⟩ : ByteArray) = ⟨(a ++ b).toArray⟩ := by
  apply ByteArray.ext; simp
end Go.Proofs.YtdhfbphliejcdaaDoor

namespace Go.Proofs.YtdhfbphliejcdaaDoor
open Go.RowKit

theorem bl_size : (Tryd.prog.info? 51).map (·.size) = some 2 := by kernel_rfl
theorem bl_lies : liesAt Tryd.prog Tryd.prog.depth 51 (2 / Tryd.prog.cellsOf 51) 0 51 1 = true := by kernel_rfl
theorem bl_byte : (Tryd.prog.info? 5).map (fun i => (i.zero, i.size, i.bytes)) = some (some (.int .u8 0), 1, 1) := by kernel_rfl
theorem bl_cells : Tryd.prog.cellsOf 5 = 1 := by kernel_rfl
abbrev BAt (B b : Nat) (p : Value) (bs : List Value) (w : World) : Prop := Lib.BuilderAt 51 5 B b p bs w
abbrev IsB (B b : Nat) (bs : List Value) (w : World) : Prop := Lib.IsBuilder 51 5 B b bs w

/-- What is no row of bytes and not the builder stays. -/
def Kept (b : Nat) (w w' : World) : Prop := ∀ j o, w.heap[j]? = some o → j ≠ b → (∀ cur fz, o ≠ .cells cur 5 fz) → w'.heap[j]? = some o
theorem Kept.refl (b : Nat) (w : World) : Kept b w w := fun _ _ h _ _ => h
theorem Kept.trans {b : Nat} {w w1 w2 : World} (h : Kept b w w1) (k : Kept b w1 w2) : Kept b w w2 := fun j o h1 h2 h3 => k j o (h j o h1 h2 h3) h2 h3
theorem Kept.below {b : Nat} {w w' : World} (h : Below w.heap.size w w') : Kept b w w' := fun j o h1 _ _ => by
  rw [h.block j (by rcases Nat.lt_or_ge j w.heap.size with h' | h'; exact h'; rw [Array.getElem?_eq_none h'] at h1; cases h1)]; exact h1
theorem Kept.alloc (b : Nat) (w : World) (o : Obj) : Kept b w (w.alloc o) := Kept.below ((Below.refl _ w).alloc (Nat.le_refl _) o)
theorem Kept.setCell {b : Nat} {w w' : World} (h : Kept b w w') (i : Nat) (v : Value) : Kept b w (w'.setCell ⟨b, i, none⟩ v) := fun j o h1 h2 h3 => by
  rw [Below.heap_setCell _ _ _ _ (by simpa using h2)]; exact h j o h1 h2 h3
theorem Kept.grown {B b n : Nat} {v : Value} {xs : List Value} {w w' : World} (h : w.grownBy w' v.ownBlock) (ho : w.ownsRow B 5 1 v n xs) : Kept b w w' := fun j o h1 _ h3 => by
  have hj : j < w.heap.size := by rcases Nat.lt_or_ge j w.heap.size with h' | h'; exact h'; rw [Array.getElem?_eq_none h'] at h1; cases h1
  rw [h.block j hj]
  · exact h1
  · intro e
    rcases ho.2 with ⟨rfl, _⟩ | ⟨g, cap, cur, rfl, _, hg, _⟩
    · cases e
    · obtain rfl := Option.some.inj e
      rw [h1] at hg
      exact h3 _ _ (Option.some.inj hg)
theorem bat_below {B b : Nat} {p : Value} {bs : List Value} {w w' : World} (h : BAt B b p bs w) (k : Below w.heap.size w w') : BAt B b p bs w' := by
  obtain ⟨hBb, v, hbk, hown, hne⟩ := h
  have lt : ∀ {j : Nat} {o : Obj}, w.heap[j]? = some o → j < w.heap.size := fun {j o} h1 => by rcases Nat.lt_or_ge j w.heap.size with h' | h'; exact h'; rw [Array.getElem?_eq_none h'] at h1; cases h1
  refine ⟨hBb, v, by rw [k.block _ (lt hbk)]; exact hbk, ⟨hown.1, ?_⟩, hne⟩
  rcases hown.2 with h0 | ⟨g, cap, cur, hv, hg, hh, r⟩
  · exact .inl h0
  · exact .inr ⟨g, cap, cur, hv, hg, by rw [k.block _ (lt hh)]; exact hh, r⟩
theorem isb_below {B b : Nat} {bs : List Value} {w w' : World} (h : IsB B b bs w) (k : Below w.heap.size w w') : IsB B b bs w' := h.elim (fun h => .inl (bat_below h k)) (fun h => .inr (bat_below h k))

set_option maxHeartbeats 1000000 in
set_option maxRecDepth 100000 in
theorem bcheck_any (B b : Nat) (bs : List Value) (w : World) (h : IsB B b bs w) : Calls Tryd.prog 44 #[.pointer (some ⟨b, 0, none⟩)] w fun e w' => e = .returned (.tuple #[]) ∧ BAt B b (.pointer (some ⟨b, 0, none⟩)) bs w' ∧ Below B w w' ∧ Kept b w w' := by
  obtain ⟨j, hj, hjs⟩ := Option.map_eq_some_iff.1 bl_size
  rcases h with h | h
  · have h0 := h.cell0
    have hsh := h.shape
    have hfz := h.frozen0
    have HH := Lib.hid h
    clear h
    go_enter Tryd.func44, Tryd.ntmps44
    go_wp2
    rw [Lib.run_to_unsafe w ⟨b, 0, none⟩ Tryd.underlying48 Tryd.underlying96 hj (by rw [hjs]; decide) hsh (Nat.zero_lt_succ 1)]
    simp only [Result.andThen]
    rw [Oper.upon_value]
    go_wp2
    rw [run_callFunc_extern Tryd.func55 (by kernel_rfl) (by kernel_rfl) (by kernel_rfl) (e := Extern.AbiNoEscape.same) (by kernel_rfl), Lib.run_noEscape]
    simp only [Result.andThen]
    rw [Oper.upon_value]
    go_wp2
    rw [Lib.run_from_unsafe w ⟨b, 0, none⟩ Tryd.underlying96 Tryd.underlying48 hj hsh bl_lies]
    simp only [Result.andThen]
    rw [Oper.upon_value]
    go_wp2
    go_end0
    exact ⟨rfl, HH.out.used _, (Below.refl B w).setCell (p := ⟨b, 0, none⟩) HH.out.1 _, (Kept.refl b w).setCell 0 _⟩
  · have h0 := h.cell0
    have HH := Lib.hid h
    clear h
    go_enter Tryd.func44, Tryd.ntmps44
    go_wp2
    rw [Lib.run_neq_ptr_same w _ Tryd.underlying48 hj]
    go_wp2
    go_end0
    exact ⟨rfl, HH.out, Below.refl B _, Kept.refl b _⟩

theorem bl_ne : (51 : TypeId) ≠ 5 := by decide
theorem bat_lt {B b : Nat} {p : Value} {bs : List Value} {w : World} (h : BAt B b p bs w) : b < w.heap.size := h.lt

set_option maxHeartbeats 2000000 in
set_option maxRecDepth 100000 in
theorem bstr_any (B b : Nat) (bs : List Value) (s : ByteArray) (w : World) (h : IsB B b bs w) (hlen : bs.length + s.size ≤ 140737488355328) (hB : B ≤ w.heap.size) :
    Calls Tryd.prog 25 #[.pointer (some ⟨b, 0, none⟩), .string s] w fun e w' => e = .returned (.tuple #[.int .i64 s.size, .nilIface]) ∧ BAt B b (.pointer (some ⟨b, 0, none⟩)) (bs ++ Lib.strCells s) w' ∧ Below B w w' ∧ Kept b w w' := by
  obtain ⟨i0, hi, hz0, hz1, hz2⟩ := info_parts bl_byte
  have HI := Lib.hid (And.intro hi (And.intro hz0 (And.intro hz1 hz2)))
  have HH := Lib.hid h
  clear h hi hz0 hz1 hz2
  go_enter Tryd.func25, Tryd.ntmps25
  go_wp2_with fail
  refine (bcheck_any B b bs _ HH.out).mono ?_
  rintro e w1 ⟨rfl, h1, hb1, hk1⟩
  have hlt := bat_lt h1
  obtain ⟨hBb, v, hbk, hown, hne⟩ := h1
  have c0 : w1.cell? ⟨b, 0, none⟩ = some (.pointer (some ⟨b, 0, none⟩)) := by rw [Lib.cell_of_heap hbk]; rfl
  have c1 : w1.cell? ⟨b, 1, none⟩ = some v := by rw [Lib.cell_of_heap hbk]; rfl
  have HO := Lib.hid hown
  have HK := Lib.hid hbk
  have HN := Lib.hid hne
  clear hown hbk hne
  go_wp2_with (at_builtin; refine Lib.wpList_append_own_string _ rfl _ _ 49 9 rfl B 5 i0 Tryd.underlying49 Tryd.underlying9 HI.out.1 HI.out.2.1 HI.out.2.2.1 HI.out.2.2.2 _ _ _ rfl HO.out s rfl ?c3 ?c4 ?c5 ?_)
  case c3 => unfold maxLen; omega
  case c4 => omega
  case c5 => have := hb1.size; omega
  intro v' w2 hown' hgrow _
  have hb2 : w2.heap[b]? = some (.cells #[.pointer (some ⟨b, 0, none⟩), v] 51 (0, 0)) := (hgrow.block b hlt (fun e => HN.out e.symm)).trans HK.out
  have d0 : w2.cell? ⟨b, 0, none⟩ = some (.pointer (some ⟨b, 0, none⟩)) := by rw [Lib.cell_of_heap hb2]; rfl
  have d1 : w2.cell? ⟨b, 1, none⟩ = some v := by rw [Lib.cell_of_heap hb2]; rfl
  have f1 : w2.frozen? ⟨b, 1, none⟩ = false := Lib.frozen_of_heap hb2 1
  obtain ⟨ao, n', cap, rfl⟩ : ∃ ao n' cap, v' = .slice ao n' cap := by
    rcases hown'.2 with ⟨hv, _⟩ | ⟨g, cap, cur, hv, _⟩
    · exact ⟨_, _, _, hv⟩
    · exact ⟨_, _, _, hv⟩
  have hkk : Kept b w w2 := hk1.trans (Kept.grown hgrow HO.out)
  have hkb : Below B w w2 := hb1.grown hgrow (by have := hb1.size; omega) (fun k hk => (HO.out.lt k hk).1)
  have HO2 := Lib.hid hown'
  have HB2 := Lib.hid hb2
  clear hown' hgrow hb2 c0 c1
  go_wp2
  go_ret2
  exact ⟨rfl, Lib.BuilderAt.put (T := 51) (e := 5) hBb HB2.out (bs' := bs ++ Lib.strCells s) (by simpa [Lib.strCells_length] using HO2.out) bl_ne, hkb.setCell (p := ⟨b, 1, none⟩) hBb _, hkk.setCell 1 _⟩

set_option maxHeartbeats 2000000 in
set_option maxRecDepth 100000 in
theorem bbyte_any (B b : Nat) (bs : List Value) (c : Int) (w : World) (h : IsB B b bs w) (hlen : bs.length + 1 ≤ 140737488355328) (hB : B ≤ w.heap.size) :
    Calls Tryd.prog 26 #[.pointer (some ⟨b, 0, none⟩), .int .u8 c] w fun e w' => e = .returned .nilIface ∧ BAt B b (.pointer (some ⟨b, 0, none⟩)) (bs ++ [.int .u8 c]) w' ∧ Below B w w' ∧ Kept b w w' := by
  obtain ⟨i0, hi, hz0, hz1, hz2⟩ := info_parts bl_byte
  have HI := Lib.hid (And.intro hi (And.intro hz0 (And.intro hz1 hz2)))
  have HH := Lib.hid h
  clear h hi hz0 hz1 hz2
  go_enter Tryd.func26, Tryd.ntmps26
  go_wp2_with fail
  refine (bcheck_any B b bs _ HH.out).mono ?_
  rintro e w1 ⟨rfl, h1, hb1, hk1⟩
  have hlt := bat_lt h1
  obtain ⟨hBb, v, hbk, hown, hne⟩ := h1
  have c0 : w1.cell? ⟨b, 0, none⟩ = some (.pointer (some ⟨b, 0, none⟩)) := by rw [Lib.cell_of_heap hbk]; rfl
  have c1 : w1.cell? ⟨b, 1, none⟩ = some v := by rw [Lib.cell_of_heap hbk]; rfl
  have HO := Lib.hid hown
  have HK := Lib.hid hbk
  have HN := Lib.hid hne
  clear hown hbk hne
  go_wp2_with (at_builtin; refine wpList_append_own _ rfl _ _ 49 rfl B 5 i0 (.int .u8 0) 1 1 Tryd.underlying49 HI.out.1 HI.out.2.1 HI.out.2.2.1 HI.out.2.2.2 rfl (by decide) _ _ _ rfl (HO.out.alloc _) ⟨w1.heap.size, 0, none⟩ 1 1 [.int .u8 c] rfl rfl ?c1 ?c2 ?c3 ?c4 ?c5 ?_)
  case c1 =>
    intro j u hj
    match j, hj with
    | 0, hj => simp at hj; subst hj; simp [Addr.add]
  case c2 => intro u hu; simp at hu; subst hu; rfl
  case c3 => unfold maxLen; omega
  case c4 => omega
  case c5 => have := hb1.size; simp; omega
  intro v' w2 hown' hgrow _
  have hb2 : w2.heap[b]? = some (.cells #[.pointer (some ⟨b, 0, none⟩), v] 51 (0, 0)) := by
    rw [hgrow.block b (by simp; omega) (fun e => HN.out e.symm), Lib.alloc_old w1 _ b hlt]
    exact HK.out
  have d0 : w2.cell? ⟨b, 0, none⟩ = some (.pointer (some ⟨b, 0, none⟩)) := by rw [Lib.cell_of_heap hb2]; rfl
  have d1 : w2.cell? ⟨b, 1, none⟩ = some v := by rw [Lib.cell_of_heap hb2]; rfl
  have f1 : w2.frozen? ⟨b, 1, none⟩ = false := Lib.frozen_of_heap hb2 1
  obtain ⟨g, cap, rfl⟩ : ∃ g cap, v' = .slice (some ⟨g, 0, none⟩) (bs.length + 1) cap := by
    rcases hown'.2 with ⟨_, h0⟩ | ⟨g, cap, cur, hv, _⟩
    · omega
    · exact ⟨g, cap, hv⟩
  have hkk : Kept b w w2 := (hk1.trans (Kept.alloc b w1 _)).trans (Kept.grown hgrow (HO.out.alloc _))
  have hkb : Below B w w2 := (hb1.alloc (by have := hb1.size; omega) _).grown hgrow (by have := hb1.size; simp; omega) (fun k hk => (HO.out.lt k hk).1)
  have HO2 := Lib.hid hown'
  have HB2 := Lib.hid hb2
  clear hown' hgrow hb2 c0 c1
  go_wp2
  go_ret
  exact ⟨rfl, Lib.BuilderAt.put (T := 51) (e := 5) hBb HB2.out (bs' := bs ++ [.int .u8 c]) (by simpa using HO2.out) bl_ne, hkb.setCell (p := ⟨b, 1, none⟩) hBb _, hkk.setCell 1 _⟩

set_option maxHeartbeats 2000000 in
set_option maxRecDepth 100000 in
/-- What a builder that holds a byte says. -/
theorem btext_any (B b : Nat) (p : Value) (l : List UInt8) (w : World) (h : BAt B b p (Lib.byteCells l) w) (h0 : l ≠ []) :
    Calls Tryd.prog 23 #[.pointer (some ⟨b, 0, none⟩)] w fun e w' => e = .returned (.string ⟨l.toArray⟩) ∧ Below B w w' := by
  obtain ⟨hBb, v, hbk, hown, hne⟩ := h
  have hl0 : l.length ≠ 0 := by simpa using h0
  rw [Lib.byteCells_length] at hown
  obtain ⟨g, cap, cur, rfl, hbg, hg, hnc, hcm, hcs, htake⟩ : ∃ g cap cur, v = .slice (some ⟨g, 0, none⟩) l.length cap ∧ B ≤ g ∧ w.heap[g]? = some (.cells cur 5 (0, 0)) ∧ l.length ≤ cap ∧ cap ≤ maxLen ∧ cur.size = cap * 1 ∧ cur.toList.take (l.length * 1) = Lib.byteCells l := by
    rcases hown.2 with ⟨_, hz⟩ | ⟨g, cap, cur, hv, r⟩
    · exact absurd hz hl0
    · exact ⟨g, cap, cur, hv, r⟩
  have hbd : w.drew.heap[b]? = some (.cells #[p, .slice (some ⟨g, 0, none⟩) l.length cap] 51 (0, 0)) := hbk
  have c1 : w.drew.cell? ⟨b, 1, none⟩ = some (.slice (some ⟨g, 0, none⟩) l.length cap) := by rw [Lib.cell_of_heap hbd]; rfl
  have hSD : (Builtin.unsafeSliceData_ #[49] 78 #[.slice (some ⟨g, 0, none⟩) l.length cap]).run Tryd.prog w.drew = .ok (.pointer (some ⟨g, 0, none⟩)) w.drew := Lib.run_unsafeSliceData_row _ _ _ _ _ _ (by omega)
  have hUS : (Builtin.unsafeString_ #[78, 3] 9 #[.pointer (some ⟨g, 0, none⟩), .int .i64 l.length]).run Tryd.prog w.drew = .ok (.string ⟨l.toArray⟩) (w.drew.freeze ⟨g, 0, none⟩ l.length) := by
    refine Lib.run_unsafeString_row w.drew 78 3 9 5 Tryd.underlying78 bl_cells g cur.size (by have hg' : w.drew.heap[g]? = some (.cells cur 5 (0, 0)) := hg; simp [World.shape?, hg']) l h0 (by omega) (by unfold maxLen at hcm; omega) ?_
    intro j x hx
    exact hown.cells (g := g) rfl j (.int .u8 x.toNat) (by simp [Lib.byteCells, hx])
  have HBG := Lib.hid hbg
  clear hown hne hbk hbd hg hnc hcm hcs htake hbg
  have mixed : Tryd.prog.follows .mixedOrders = true := by kernel_rfl
  go_enter Tryd.func23, Tryd.ntmps23
  go_wp2
  go_region_o
  all_goals (go_wp2; go_ret; exact ⟨rfl, Lib.below_freeze (Below.drew (Below.refl B w)) (p := ⟨g, 0, none⟩) HBG.out _⟩)
end Go.Proofs.YtdhfbphliejcdaaDoor

namespace Go.Proofs.YtdhfbphliejcdaaDoor.Dv
open Go.RowKit

theorem LiesP.out {w : World} {P : Nat → Prop} {l : List Tm} {s : Value} (h : LiesP w P l s) : ∃ (a : Option Addr) (cap : Nat), s = .slice a l.length cap ∧ l.length ≤ cap ∧ cap ≤ maxLen := by
  cases h with
  | mk l a cap S hc hm hf hn hk => exact ⟨a, cap, rfl, hc, hm⟩

end Go.Proofs.YtdhfbphliejcdaaDoor.Dv

namespace Go.Proofs.YtdhfbphliejcdaaDoor.Dv
open Go.RowKit

theorem hltD {w : World} {b : Nat} {o : Obj} (h : w.heap[b]? = some o) : b < w.heap.size := (Array.getElem?_eq_some_iff.1 h).1
theorem typeD {w : World} {b : Nat} {cs cs' : Array Value} {T T' : TypeId} {fz fz' : Nat × Nat} (h : w.heap[b]? = some (Obj.cells cs T fz)) (k : w.heap[b]? = some (Obj.cells cs' T' fz')) : T = T' := by
  rw [h] at k; injection k with k; injection k
/-- The constants of a parsing: where its blocks lie, the allowances, the end of the text. -/
structure PC where
  B : Nat
  P : Nat
  S : Nat
  G : Nat
  deep : Nat
  nodes : Nat
  E : Nat
  br : Bool
def PAt (w : World) (c : PC) : Prop := w.heap[c.P]? = some (.cells #[.pointer (some ⟨c.S, 0, none⟩), .float .f64 c.deep, .pointer (some ⟨c.G, 0, none⟩)] 66 (0, 0))
/-- The parser has the tokens ts left; u nodes are used up. -/
structure PSt (c : PC) (u : Nat) (ts : List Tok) (w : World) : Prop where
  bS : c.B ≤ c.S
  bP : c.B ≤ c.P
  bG : c.B ≤ c.G
  lo : c.B ≤ w.heap.size
  str : ∃ tv, SAt w c.S tv c.E c.br ∧ TLies w ts tv
  par : PAt w c
  bud : w.heap[c.G]? = some (budObj c.nodes u)
  tok : ∀ t ∈ ts, t.s.length ≤ 10000000
  few : u + ts.length ≤ 1000000000
/-- What stays: all that is older than the parsing, and every block of its own but the stream and the budget. -/
structure Fp (c : PC) (w w' : World) : Prop where
  below : Below c.B w w'
  kept : ∀ (b : Nat) (cs : Array Value) (T : TypeId) (fz : Nat × Nat), w.heap[b]? = some (Obj.cells cs T fz) → T ≠ 84 → T ≠ 86 → w'.heap[b]? = some (Obj.cells cs T fz)
theorem Fp.size {c : PC} {w w' : World} (h : Fp c w w') : w.heap.size ≤ w'.heap.size := h.below.size
theorem Fp.refl (c : PC) (w : World) : Fp c w w := ⟨Below.refl _ _, fun _ _ _ _ h _ _ => h⟩
theorem Fp.trans {c : PC} {w w1 w2 : World} (h : Fp c w w1) (k : Fp c w1 w2) : Fp c w w2 := ⟨h.below.trans k.below, fun b cs T fz e h1 h2 => k.kept b cs T fz (h.kept b cs T fz e h1 h2) h1 h2⟩
theorem Fp.grown {c : PC} {w w' : World} {row : Option Nat} (hg : w.grownBy w' row) (hB : ∀ b, row = some b → c.B ≤ b) (hT : ∀ b, row = some b → ∀ cs T fz, w.heap[b]? = some (Obj.cells cs T fz) → T = 84 ∨ T = 86) (hlo : c.B ≤ w.heap.size) : Fp c w w' := by
  refine ⟨⟨hg.os, hg.tape, hg.output, hg.size, fun k hk => hg.block k (by omega) (fun e => by have := hB k e.symm; omega)⟩, fun b cs T fz e h1 h2 => ?_⟩
  by_cases hb : some b = row
  · rcases hT b hb.symm cs T fz e with h | h
    · exact absurd h h1
    · exact absurd h h2
  · rw [hg.block b (hltD e) hb]; exact e
theorem Fp.later {c : PC} {w w' : World} (hb : Below w.heap.size w w') (hlo : c.B ≤ w.heap.size) : Fp c w w' := ⟨hb.mono hlo, fun b cs T fz e _ _ => by rw [hb.block b (hltD e)]; exact e⟩
theorem Fp.drew {c : PC} {w w' : World} (h : Fp c w w') : Fp c w w'.drew := ⟨h.below.drew, h.kept⟩
theorem Fp.drewN {c : PC} {w w' : World} (h : Fp c w w') : ∀ k, Fp c w (w'.drewN k)
  | 0 => h
  | k + 1 => (Fp.drewN h k).drew
theorem Fp.other {c : PC} {w w1 w2 : World} (h : Fp c w w1) {b : Nat} (hg : w1.grownBy w2 (some b)) (hb : w.heap.size ≤ b) (hlo : c.B ≤ w.heap.size) : Fp c w w2 := by
  refine ⟨h.below.trans ⟨hg.os, hg.tape, hg.output, hg.size, fun k hk => hg.block k (by have := h.size; omega) (fun e => by have := Option.some.inj e; omega)⟩, fun q cs T fz e h1 h2 => ?_⟩
  have e1 := h.kept q cs T fz e h1 h2
  rw [hg.block q (hltD e1) (fun e2 => by have := hltD e; have := Option.some.inj e2; omega)]; exact e1
theorem PSt.later {c : PC} {u : Nat} {ts : List Tok} {w w' : World} (h : PSt c u ts w) (hb : Below w.heap.size w w') : PSt c u ts w' := by
  obtain ⟨tv, h1, h2⟩ := h.str
  refine ⟨h.bS, h.bP, h.bG, Nat.le_trans h.lo hb.size, ⟨tv, ?_, ?_⟩, ?_, ?_, h.tok, h.few⟩
  · unfold SAt at h1 ⊢; rw [hb.block _ (hltD h1)]; exact h1
  · exact h2.keep fun g cs fz e => by rw [hb.block _ (hltD e)]; exact e
  · have r := h.par; unfold PAt at r ⊢; rw [hb.block _ (hltD r)]; exact r
  · rw [hb.block _ (hltD h.bud)]; exact h.bud
theorem PSt.drew {c : PC} {u : Nat} {ts : List Tok} {w : World} (h : PSt c u ts w) : PSt c u ts w.drew := h.later (Below.refl _ _).drew
theorem PSt.alloc {c : PC} {u : Nat} {ts : List Tok} {w : World} (h : PSt c u ts w) (o : Obj) : PSt c u ts (w.alloc o) := h.later ((Below.refl _ _).alloc (Nat.le_refl _) o)
/-- A step that writes a block of derivations. -/
theorem PSt.other {c : PC} {u : Nat} {ts : List Tok} {w w' : World} (h : PSt c u ts w) {row : Option Nat} (hg : w.grownBy w' row) (hb : ∀ b, row = some b → c.B ≤ b ∧ ∃ cs fz, w.heap[b]? = some (Obj.cells cs 24 fz)) : PSt c u ts w' := by
  obtain ⟨tv, h1, h2⟩ := h.str
  have old : ∀ {q : Nat} {cs : Array Value} {T : TypeId} {fz : Nat × Nat}, T ≠ 24 → w.heap[q]? = some (Obj.cells cs T fz) → w'.heap[q]? = some (Obj.cells cs T fz) := fun {q cs T fz} hne e => by
    rw [hg.block q (hltD e) (fun e2 => by obtain ⟨-, cs', fz', e3⟩ := hb q e2.symm; exact hne (typeD e e3))]; exact e
  refine ⟨h.bS, h.bP, h.bG, Nat.le_trans h.lo hg.size, ⟨tv, ?_, ?_⟩, ?_, ?_, h.tok, h.few⟩
  · exact old (by decide) h1
  · exact h2.keep fun g cs fz e => old (by decide) e
  · exact old (by decide) h.par
  · exact old (by decide) h.bud
/-- A step of the stream. -/
theorem PSt.stream {c : PC} {u : Nat} {ts r : List Tok} {w w' : World} (h : PSt c u ts w) (hg : w.grownBy w' (some c.S)) (hs : ∃ tv, SAt w' c.S tv c.E c.br ∧ TLies w' r tv) (hr : ∀ t ∈ r, t ∈ ts) (hl : r.length ≤ ts.length) : PSt c u r w' ∧ Fp c w w' := by
  obtain ⟨tv, h1, h2⟩ := h.str
  have hfr : Fp c w w' := Fp.grown hg (fun b e => by obtain rfl := Option.some.inj e; exact h.bS) (fun b e cs T fz e2 => by obtain rfl := Option.some.inj e; exact Or.inl (typeD e2 h1)) h.lo
  have old : ∀ {q : Nat} {cs : Array Value} {T : TypeId} {fz : Nat × Nat}, T ≠ 84 → w.heap[q]? = some (Obj.cells cs T fz) → w'.heap[q]? = some (Obj.cells cs T fz) := fun {q cs T fz} hne e => by
    rw [hg.block q (hltD e) (fun e2 => by obtain rfl := Option.some.inj e2; exact hne (typeD e h1))]; exact e
  exact ⟨⟨h.bS, h.bP, h.bG, Nat.le_trans h.lo hg.size, hs, old (by decide) h.par, old (by decide) h.bud, fun t ht => h.tok t (hr t ht), by have := h.few; omega⟩, hfr⟩
theorem PSt.cells {c : PC} {u : Nat} {ts : List Tok} {w : World} (h : PSt c u ts w) : w.cell? ⟨c.P, 0, none⟩ = some (.pointer (some ⟨c.S, 0, none⟩)) ∧ w.cell? ⟨c.P, 1, none⟩ = some (.float .f64 c.deep) ∧ w.cell? ⟨c.P, 2, none⟩ = some (.pointer (some ⟨c.G, 0, none⟩)) ∧ c.P < w.heap.size := by
  have r1 := h.par
  unfold PAt at r1
  exact ⟨by rw [Lib.cell_of_heap r1]; rfl, by rw [Lib.cell_of_heap r1]; rfl, by rw [Lib.cell_of_heap r1]; rfl, hltD r1⟩
/-- What a parsing leaves by. -/
def faultV : PF → Value
  | (0, a) => .iface 70 (.agg #[.int .i64 a])
  | (1, a) => .iface 68 (.agg #[.int .i64 a, .string ⟨#[100, 101, 101, 112]⟩])
  | (_ + 2, a) => .iface 68 (.agg #[.int .i64 a, .string ⟨#[110, 111, 100, 101, 115]⟩])
def leaveP (p : PF) : Ending := .panicked [{ v := faultV p, recovered := false }]
theorem Fp.row {c : PC} {w w1 w2 : World} (h : Fp c w w1) {row : Option Nat} (hg : w1.grownBy w2 row) (hb : ∀ b, row = some b → w.heap.size ≤ b) (hlo : c.B ≤ w.heap.size) : Fp c w w2 := by
  refine ⟨h.below.trans ⟨hg.os, hg.tape, hg.output, hg.size, fun k hk => hg.block k (by have := h.size; omega) (fun e => by have := hb k e.symm; omega)⟩, fun q cs T fz e h1 h2 => ?_⟩
  have e1 := h.kept q cs T fz e h1 h2
  rw [hg.block q (hltD e1) (fun e2 => by have := hltD e; have := hb q e2.symm; omega)]; exact e1
/-- The parsing of premises, some of them done. -/
def KInv (dp : DP) (d n u0 : Nat) (ts0 : List Tok) (acc : List Tm) (m u : Nat) (ts : List Tok) : Prop := kidsD dp d n u0 ts0 = (match kidsD dp d m u ts with
  | .error e => .error e
  | .ok (l, u2, r) => .ok (acc ++ l, u2, r))
theorem KInv.err {dp : DP} {d n u0 m u : Nat} {ts0 ts : List Tok} {acc : List Tm} {e : PF} (h : KInv dp d n u0 ts0 acc (m + 1) u ts) (hx : dp d u ts = .error e) : kidsD dp d n u0 ts0 = .error e := by
  unfold KInv at h
  rw [h, kidsD, hx]
theorem KInv.step {dp : DP} {d n u0 m u u1 : Nat} {ts0 ts r : List Tok} {acc : List Tm} {t : Tm} (h : KInv dp d n u0 ts0 acc (m + 1) u ts) (hx : dp d u ts = .ok (t, u1, r)) : KInv dp d n u0 ts0 (acc ++ [t]) m u1 r := by
  unfold KInv at h ⊢
  rw [h, kidsD, hx]
  dsimp only
  cases kidsD dp d m u1 r with
  | error e => rfl
  | ok x => obtain ⟨l, u2, r2⟩ := x; simp
theorem KInv.done {dp : DP} {d n u0 u : Nat} {ts0 ts : List Tok} {acc : List Tm} (h : KInv dp d n u0 ts0 acc 0 u ts) : kidsD dp d n u0 ts0 = .ok (acc, u, ts) := by
  unfold KInv at h
  rw [h, kidsD]
  simp
/-- What the parsing of a derivation gives. -/
def DerG (c : PC) (w : World) (x : Except PF (Tm × Nat × List Tok)) (e : Ending) (w' : World) : Prop :=
  match x with
  | .error a => e = leaveP a ∧ Fp c w w'
  | .ok (t, u, r) => ∃ s, e = .returned (tv t s) ∧ LiesP w' (Own w.heap.size w') t.kids s ∧ t.fine ∧ PSt c u r w' ∧ Fp c w w'
def DerC (c : PC) (f : Nat) (dp : DP) : Prop := ∀ (d u : Nat) (ts : List Tok) (w : World), ts.length < f → d + ts.length ≤ 1000000000 → PSt c u ts w → Calls Tryd.prog 49 #[.pointer (some ⟨c.P, 0, none⟩), .int .i64 d] w (DerG c w (dp d u ts))
theorem DerC.use {c : PC} {f : Nat} {dp : DP} (h : DerC c f dp) (d u : Nat) (ts : List Tok) (w : World) (h1 : ts.length < f) (h2 : d + ts.length ≤ 1000000000) (h3 : PSt c u ts w) : Calls Tryd.prog 49 #[.pointer (some ⟨c.P, 0, none⟩), .int .i64 d] w (DerG c w (dp d u ts)) := h d u ts w h1 h2 h3
end Go.Proofs.YtdhfbphliejcdaaDoor.Dv

namespace Go.Proofs.YtdhfbphliejcdaaDoor.Dv
open Go.RowKit

theorem setD_grown (w : World) (b i : Nat) (v : Value) : w.grownBy (w.setCell ⟨b, i, none⟩ v) (some b) := grown_at ⟨rfl, rfl, rfl, Nat.le_refl _, fun _ _ _ => rfl⟩ i v
/-- What stands by when the premises are parsed: the result's block, the derivation's block. -/
structure Stand (c : PC) (w : World) (D : Nat) (t : Tm) (v : Value) (u : Nat) (ts : List Tok) (w' : World) : Prop where
  box : w'.heap[D]? = some (boxOf t v)
  res : w'.heap[w.heap.size]? = some zeroObj
  st : PSt c u ts w'
  fr : Fp c w w'
theorem Stand.size {c : PC} {w w' : World} {D u : Nat} {t : Tm} {v : Value} {ts : List Tok} (h : Stand c w D t v u ts w') : D < w'.heap.size := hltD h.box
theorem Stand.drew {c : PC} {w w' : World} {D u : Nat} {t : Tm} {v : Value} {ts : List Tok} (h : Stand c w D t v u ts w') : Stand c w D t v u ts w'.drew := ⟨h.box, h.res, h.st.drew, h.fr.drew⟩
theorem Stand.call {c : PC} {w w' wn : World} {D u u1 : Nat} {t : Tm} {v : Value} {ts r : List Tok} (h : Stand c w D t v u ts w') (hf : Fp c w' wn) (hs : PSt c u1 r wn) : Stand c w D t v u1 r wn :=
  ⟨hf.kept _ _ _ _ h.box (by decide) (by decide), hf.kept _ _ _ _ h.res (by decide) (by decide), hs, h.fr.trans hf⟩
theorem Stand.later {c : PC} {w w' wn : World} {D u : Nat} {t : Tm} {v : Value} {ts : List Tok} (h : Stand c w D t v u ts w') (hb : Below w'.heap.size w' wn) : Stand c w D t v u ts wn :=
  h.call (Fp.later hb h.st.lo) (h.st.later hb)
theorem Stand.grow {c : PC} {w w' wn : World} {D u : Nat} {t : Tm} {v : Value} {ts : List Tok} (h : Stand c w D t v u ts w') {row : Option Nat} (hg : w'.grownBy wn row) (hlo : c.B ≤ w.heap.size) (hD : w.heap.size < D) (hb : ∀ b, row = some b → D + 1 ≤ b ∧ ∃ cs fz, w'.heap[b]? = some (Obj.cells cs 24 fz)) : Stand c w D t v u ts wn :=
  ⟨by rw [hg.block _ h.size (fun e => by have := (hb D e.symm).1; omega)]; exact h.box, by rw [hg.block _ (hltD h.res) (fun e => by have := (hb _ e.symm).1; omega)]; exact h.res,
    h.st.other hg (fun b e => ⟨by have := (hb b e).1; omega, (hb b e).2⟩), h.fr.row hg (fun b e => by have := (hb b e).1; omega) hlo⟩
theorem Stand.put {c : PC} {w w' : World} {D u : Nat} {t : Tm} {v : Value} {ts : List Tok} (h : Stand c w D t v u ts w') (hlo : c.B ≤ w.heap.size) (hD : w.heap.size < D) (v' : Value) : Stand c w D t v' u ts (w'.setCell ⟨D, 2, none⟩ v') :=
  ⟨by exact heap_setCell_same _ _ 2 _ _ v' h.box, (Below.heap_setCell _ _ _ _ (by show w.heap.size ≠ D; omega)).trans h.res,
    h.st.other (setD_grown w' D 2 v') (fun b e => by obtain rfl := Option.some.inj e; exact ⟨by omega, _, _, h.box⟩), h.fr.row (setD_grown w' D 2 v') (fun b e => by obtain rfl := Option.some.inj e; omega) hlo⟩
end Go.Proofs.YtdhfbphliejcdaaDoor.Dv

namespace Go.Proofs.YtdhfbphliejcdaaDoor.Dv
open Go.RowKit

/-- A file by value. -/
abbrev fv (cv : Value) (t : Tm) (s : Value) : Value := .agg #[cv, .int .i64 t.k, .int .i64 t.i, s]
abbrev fileO (cv : Value) (k i : Int) (s : Value) : Obj := .cells #[cv, .int .i64 k, .int .i64 i, s] 26
theorem four_cells {w : World} {g : Nat} {v0 v1 v2 v3 : Value} {T : TypeId} (h : w.heap[g]? = some (.cells #[v0, v1, v2, v3] T (0, 0))) :
    w.cell? ⟨g, 0, none⟩ = some v0 ∧ w.cell? ⟨g, 1, none⟩ = some v1 ∧ w.cell? ⟨g, 2, none⟩ = some v2 ∧ w.cell? ⟨g, 3, none⟩ = some v3 := by
  refine ⟨?_, ?_, ?_, ?_⟩ <;> (rw [cell_of_row w g _ _ _ _ h]; rfl)
abbrev four (w : World) (g : Nat) (v0 v1 v2 v3 : Value) : World := (((w.setCell ⟨g, 0, none⟩ v0).setCell ⟨g, 1, none⟩ v1).setCell ⟨g, 2, none⟩ v2).setCell ⟨g, 3, none⟩ v3
theorem four_set {w : World} {g : Nat} {T : TypeId} {z0 z1 z2 z3 v0 v1 v2 v3 : Value} (h : w.heap[g]? = some (.cells #[z0, z1, z2, z3] T (0, 0))) :
    (four w g v0 v1 v2 v3).heap[g]? = some (.cells #[v0, v1, v2, v3] T (0, 0)) :=
  heap_setCell_same _ _ _ _ _ _ (heap_setCell_same _ _ _ _ _ _ (heap_setCell_same _ _ _ _ _ _ (heap_setCell_same _ _ _ _ _ _ h)))
/-- A step that writes a block of the sort of files. -/
theorem PSt.file {c : PC} {u : Nat} {ts : List Tok} {w w' : World} (h : PSt c u ts w) {b : Nat} (hg : w.grownBy w' (some b)) {cs : Array Value} {fz : Nat × Nat} (hb : w.heap[b]? = some (Obj.cells cs 26 fz)) : PSt c u ts w' := by
  obtain ⟨tv, h1, h2⟩ := h.str
  have old : ∀ {q : Nat} {cs : Array Value} {T : TypeId} {fz : Nat × Nat}, T ≠ 26 → w.heap[q]? = some (Obj.cells cs T fz) → w'.heap[q]? = some (Obj.cells cs T fz) := fun {q cs T fz} hne e => by
    rw [hg.block q (hltD e) (fun e2 => by obtain rfl := Option.some.inj e2; exact hne (typeD e hb))]; exact e
  refine ⟨h.bS, h.bP, h.bG, Nat.le_trans h.lo hg.size, ⟨tv, ?_, ?_⟩, ?_, ?_, h.tok, h.few⟩
  · exact old (by decide) h1
  · exact h2.keep fun g cs fz e => old (by decide) e
  · exact old (by decide) h.par
  · exact old (by decide) h.bud
/-- What stands by when a file is parsed: the result's block, the file's block. -/
structure StandF (c : PC) (w : World) (D : Nat) (cv : Value) (k i : Int) (s : Value) (u : Nat) (ts : List Tok) (w' : World) : Prop where
  box : w'.heap[D]? = some (fileO cv k i s)
  res : w'.heap[w.heap.size]? = some (fileO (.slice none 0 0) 0 0 (.slice none 0 0))
  st : PSt c u ts w'
  fr : Fp c w w'
theorem StandF.size {c : PC} {w w' : World} {D u : Nat} {cv : Value} {k i : Int} {s : Value} {ts : List Tok} (h : StandF c w D cv k i s u ts w') : D < w'.heap.size := hltD h.box
theorem StandF.drew {c : PC} {w w' : World} {D u : Nat} {cv : Value} {k i : Int} {s : Value} {ts : List Tok} (h : StandF c w D cv k i s u ts w') : StandF c w D cv k i s u ts w'.drew := ⟨h.box, h.res, h.st.drew, h.fr.drew⟩
theorem StandF.call {c : PC} {w w' wn : World} {D u u1 : Nat} {cv : Value} {k i : Int} {s : Value} {ts r : List Tok} (h : StandF c w D cv k i s u ts w') (hf : Fp c w' wn) (hs : PSt c u1 r wn) : StandF c w D cv k i s u1 r wn :=
  ⟨hf.kept _ _ _ _ h.box (by decide) (by decide), hf.kept _ _ _ _ h.res (by decide) (by decide), hs, h.fr.trans hf⟩
theorem StandF.later {c : PC} {w w' wn : World} {D u : Nat} {cv : Value} {k i : Int} {s : Value} {ts : List Tok} (h : StandF c w D cv k i s u ts w') (hb : Below w'.heap.size w' wn) : StandF c w D cv k i s u ts wn :=
  h.call (Fp.later hb h.st.lo) (h.st.later hb)
theorem StandF.grow {c : PC} {w w' wn : World} {D u : Nat} {cv : Value} {k i : Int} {s : Value} {ts : List Tok} (h : StandF c w D cv k i s u ts w') {row : Option Nat} (hg : w'.grownBy wn row) (hlo : c.B ≤ w.heap.size) (hD : w.heap.size < D) (hb : ∀ b, row = some b → D + 1 ≤ b ∧ ∃ cs fz, w'.heap[b]? = some (Obj.cells cs 24 fz)) : StandF c w D cv k i s u ts wn :=
  ⟨by rw [hg.block _ h.size (fun e => by have := (hb D e.symm).1; omega)]; exact h.box, by rw [hg.block _ (hltD h.res) (fun e => by have := (hb _ e.symm).1; omega)]; exact h.res,
    h.st.other hg (fun b e => ⟨by have := (hb b e).1; omega, (hb b e).2⟩), h.fr.row hg (fun b e => by have := (hb b e).1; omega) hlo⟩
theorem StandF.put {c : PC} {w w' : World} {D u : Nat} {cv : Value} {k i : Int} {s : Value} {ts : List Tok} (h : StandF c w D cv k i s u ts w') (hlo : c.B ≤ w.heap.size) (hD : w.heap.size < D) (v' : Value) : StandF c w D v' k i s u ts (w'.setCell ⟨D, 0, none⟩ v') :=
  ⟨heap_setCell_same _ _ 0 _ _ v' h.box, (Below.heap_setCell _ _ _ _ (by show w.heap.size ≠ D; omega)).trans h.res,
    h.st.file (setD_grown w' D 0 v') h.box, h.fr.row (setD_grown w' D 0 v') (fun b e => by obtain rfl := Option.some.inj e; omega) hlo⟩
/-- The contexts, some of them done. -/
def CInv (dp : DP) (E f u0 : Nat) (ts0 : List Tok) (acc : List Tm) (m u : Nat) (ts : List Tok) : Prop := ctxD dp E f u0 ts0 = (match ctxD dp E m u ts with
  | .error e => .error e
  | .ok (l, u2, r) => .ok (acc ++ l, u2, r))
theorem CInv.err {dp : DP} {E f u0 m u : Nat} {ts0 ts : List Tok} {acc : List Tm} {e : PF} (h : CInv dp E f u0 ts0 acc (m + 1) u ts) (hn : ((ts.head?.map fun t => t.k == 2).getD false) = false) (hx : dp 1 u ts = .error e) : ctxD dp E f u0 ts0 = .error e := by
  unfold CInv at h
  rw [h, ctxD, if_neg (by rw [hn]; decide), hx]
theorem CInv.step {dp : DP} {E f u0 m u u1 : Nat} {ts0 ts r : List Tok} {acc : List Tm} {t : Tm} (h : CInv dp E f u0 ts0 acc (m + 1) u ts) (hn : ((ts.head?.map fun t => t.k == 2).getD false) = false) (hx : dp 1 u ts = .ok (t, u1, r)) : CInv dp E f u0 ts0 (acc ++ [t]) m u1 r := by
  unfold CInv at h ⊢
  rw [h, ctxD, if_neg (by rw [hn]; decide), hx]
  dsimp only
  cases ctxD dp E m u1 r with
  | error e => rfl
  | ok x => obtain ⟨l, u2, r2⟩ := x; simp
theorem CInv.done {dp : DP} {E f u0 m u : Nat} {ts0 ts : List Tok} {acc : List Tm} (h : CInv dp E f u0 ts0 acc (m + 1) u ts) (hn : ((ts.head?.map fun t => t.k == 2).getD false) = true) : ctxD dp E f u0 ts0 = .ok (acc, u, ts) := by
  unfold CInv at h
  rw [h, ctxD, if_pos hn]
  simp
end Go.Proofs.YtdhfbphliejcdaaDoor.Dv
