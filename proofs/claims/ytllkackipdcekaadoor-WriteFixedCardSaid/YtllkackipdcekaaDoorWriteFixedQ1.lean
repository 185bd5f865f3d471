/-
  Facts and contracts that the proof of WriteFixed uses.
-/
import Derived.Lib.ItoaNum
import Derived.Lib.ItoaLen
import Derived.Test.YtllkackipdcekaaDoorRows
import Derived.WalkKit
import Derived.Lib.Hide
import Derived.KernelRfl
import Derived.Deep.RegionWith
import Derived.Deep.RegionHeld3
import Derived.Test.YtllkackipdcekaaDoorShelf
import Derived.ProofKit
import Derived.Lib.AppendIntMem
import Derived.Lib.LaidTab
import Derived.Below
import Derived.Lib.Builder
import Derived.Lib.AppendStr
import Derived.Lib.UnsafeStr
import Derived.Lib.Strings
import Derived.Laws.Externs
import Derived.Laws.Rows
import Derived.Shelf.RegionOpenPlain
import Derived.OrdersHeld
import Derived.Laws.OwnMore
import Derived.OwnWalk
import Derived.LoopTactic
import Derived.IntWalk
import Derived.Laws.Strings2
import Derived.Deep.AppendLies
import Derived.WalkSmall
import Derived.Maps.GroupsBeside
import Derived.Maps.StringElems
import Derived.Deep.RegionLaw
import Derived.Maps.AppendAt
import Derived.Deep.Cut
import Derived.Deep.DeepCutAuto
import Derived.Maps.OwnOps
import Derived.Maps.OwnSet
import Derived.Lib.MinMax
import Derived.Laws.IdiomCopy
import Derived.Deep.Slices
import Derived.Lib.QuietBelow
import Derived.StillTailTactics
import Derived.BigQuiet
import Derived.Recover
import Derived.RegionTactic
import Derived.Defers
import Derived.Deep.QuietTactic
import Derived.OpenShut
import Derived.Carry
import Derived.LaidMore
import Derived.LaidSub
import Derived.LaidHandle
import Derived.Stop.Joined
import Derived.JoinedOf
import Derived.Test.YtllkackipdcekaaDoorCards
import Derived.Test.YtllkackipdcekaaDoorTie
import Derived.SevenTiedAt
import Derived.ChangeMaps5
namespace Go.Proofs.YtllkackipdcekaaDoor
open Go.Lib

/-- What a list of digits says. -/
def val (l : List UInt8) : Nat := l.foldl (fun n c => 10 * n + (c.toNat - 48)) 0
def isd (c : UInt8) : Bool := decide (48 ≤ c.toNat) && decide (c.toNat ≤ 57)
def digs (l : List UInt8) : Bool := l.all isd

theorem val_snoc (l : List UInt8) (c : UInt8) : val (l ++ [c]) = 10 * val l + (c.toNat - 48) := by simp [val]
theorem digs_snoc (l : List UInt8) (c : UInt8) : digs (l ++ [c]) = (digs l && isd c) := by simp [digs]

theorem foldl_mono (l : List UInt8) : ∀ a : Nat, a ≤ l.foldl (fun n c => 10 * n + (c.toNat - 48)) a := by
  induction l with
  | nil => intro a; exact Nat.le_refl _
  | cons c l ih => intro a; simp only [List.foldl_cons]; exact Nat.le_trans (by omega) (ih _)
theorem foldl_pow (l : List UInt8) : ∀ a : Nat, a * 10 ^ l.length ≤ l.foldl (fun n c => 10 * n + (c.toNat - 48)) a := by
  induction l with
  | nil => intro a; simp
  | cons c l ih =>
    intro a
    simp only [List.foldl_cons, List.length_cons, Nat.pow_succ]
    refine Nat.le_trans ?_ (ih _)
    rw [Nat.mul_comm (10 ^ l.length) 10, ← Nat.mul_assoc, Nat.mul_comm a 10]
    exact Nat.mul_le_mul_right _ (by omega)
theorem val_append (l m : List UInt8) : val l ≤ val (l ++ m) := by
  simp only [val, List.foldl_append]; exact foldl_mono _ _

/-- The number that a text says, if it says one. -/
def getB (l : List UInt8) : Option Nat :=
  if l = [] ∨ (1 < l.length ∧ l.head? = some 48) then none
  else if digs l = true ∧ val l ≤ 1000000 then some (val l) else none

theorem ofNat_toNat (k : Nat) (h : k < 10) : (UInt8.ofNat (48 + k)).toNat = 48 + k := by
  rw [UInt8.toNat_ofNat']; omega
theorem dec_val (u : Nat) : val (decDigits u) = u := by
  induction u using Nat.strongRecOn with
  | ind u ih =>
    by_cases h : u < 10
    · rw [decDigits_one h]; simp only [val, List.foldl_cons, List.foldl_nil]; rw [ofNat_toNat u h]; omega
    · rw [decDigits, dif_neg h, val_snoc, ih (u / 10) (by omega), ofNat_toNat _ (by omega)]; omega
theorem dec_digs (u : Nat) : digs (decDigits u) = true := by
  induction u using Nat.strongRecOn with
  | ind u ih =>
    by_cases h : u < 10
    · rw [decDigits_one h]; simp only [digs, List.all_cons, List.all_nil, Bool.and_true, isd]; rw [ofNat_toNat u h]; simp; omega
    · rw [decDigits, dif_neg h, digs_snoc, ih (u / 10) (by omega)]; simp only [isd]; rw [ofNat_toNat _ (by omega)]; simp; omega
theorem dec_head (u : Nat) : ∃ c l, decDigits u = c :: l ∧ (u ≠ 0 → c ≠ 48) ∧ (u < 10 → l = []) := by
  induction u using Nat.strongRecOn with
  | ind u ih =>
    by_cases h : u < 10
    · refine ⟨_, [], decDigits_one h, fun h0 e => ?_, fun _ => rfl⟩
      have := congrArg UInt8.toNat e
      rw [ofNat_toNat u h] at this
      simp at this; omega
    · obtain ⟨c, l, e, h1, -⟩ := ih (u / 10) (by omega)
      refine ⟨c, l ++ [UInt8.ofNat (48 + u % 10)], by rw [decDigits, dif_neg h, e]; rfl, fun _ => h1 (by omega), fun h' => absurd h' h⟩

theorem get_dec (u : Nat) : getB (decDigits u) = if u ≤ 1000000 then some u else none := by
  obtain ⟨c, l, e, h1, h2⟩ := dec_head u
  have hd := dec_digs u
  have hv := dec_val u
  unfold getB
  rw [if_neg (by
    rw [e]
    rintro (h | ⟨h, h'⟩)
    · cases h
    · simp only [List.head?_cons, Option.some.injEq] at h'
      by_cases h0 : u = 0
      · have := h2 (by omega); subst this; simp at h
      · exact h1 h0 h')]
  rw [hd, hv]
  simp
theorem get_neg (l : List UInt8) : getB (45 :: l) = none := by
  unfold getB
  split
  · rfl
  · rw [if_neg]; simp [digs, isd]
/-- What is put is got. -/
theorem get_itoa (n : Int) : getB (itoa n) = if 0 ≤ n ∧ n ≤ 1000000 then some n.toNat else none := by
  unfold itoa
  by_cases h : n < 0
  · rw [if_pos h, get_neg, if_neg (by omega)]
  · rw [if_neg h, get_dec]
    by_cases h2 : n ≤ 1000000
    · rw [if_pos (by omega), if_pos (by omega)]
    · rw [if_neg (by omega), if_neg (by omega)]
theorem dec_inj {a b : Nat} (h : decDigits a = decDigits b) : a = b := by rw [← dec_val a, h, dec_val]
theorem dec_not_neg (u : Nat) (l : List UInt8) : decDigits u ≠ 45 :: l := fun h => by
  have := dec_digs u; rw [h] at this; simp [digs, isd] at this
theorem itoa_inj {a b : Int} (h : itoa a = itoa b) : a = b := by
  unfold itoa at h
  by_cases ha : a < 0 <;> by_cases hb : b < 0
  · rw [if_pos ha, if_pos hb] at h; have := dec_inj (List.cons.inj h).2; omega
  · rw [if_pos ha, if_neg hb] at h; exact absurd h.symm (dec_not_neg _ _)
  · rw [if_neg ha, if_pos hb] at h; exact absurd h (dec_not_neg _ _)
  · rw [if_neg ha, if_neg hb] at h; have := dec_inj h; omega
/-- The page's bound on the length says nothing more. -/
theorem get_long {l : List UInt8} (h : 7 < l.length) : getB l = none := by
  unfold getB
  by_cases h1 : l = [] ∨ (1 < l.length ∧ l.head? = some 48)
  · rw [if_pos h1]
  · rw [if_neg h1, if_neg]
    rintro ⟨hd, hv⟩
    match l, h with
    | c :: l, h =>
      have hc : c ≠ 48 := fun e => h1 (Or.inr ⟨by omega, by rw [e]; rfl⟩)
      simp only [digs, List.all_cons, Bool.and_eq_true, isd, decide_eq_true_eq] at hd
      have hc2 : c.toNat ≠ 48 := fun e => hc (UInt8.toNat_inj.1 (by rw [e]; rfl))
      have hp := foldl_pow l (10 * 0 + (c.toNat - 48))
      have hl : 7 ≤ l.length := by simp at h; omega
      have hpow : 10 ^ 7 ≤ 10 ^ l.length := Nat.pow_le_pow_right (by omega) hl
      simp only [val, List.foldl_cons] at hv
      have : 1 * 10 ^ 7 ≤ (10 * 0 + (c.toNat - 48)) * 10 ^ l.length := Nat.mul_le_mul (by omega) hpow
      omega
end Go.Proofs.YtllkackipdcekaaDoor

namespace Go.Proofs.YtllkackipdcekaaDoor
open Go.RowKit

def givenN (s : Int) : Int := if s = 3 ∨ s = 5 ∨ s = 6 ∨ s = 8 ∨ s = 10 ∨ s = 11 then 4 else if s = 1 ∨ s = 2 ∨ s = 7 ∨ s = 9 then 5 else if s = 4 ∨ s = 12 ∨ s = 13 ∨ s = 14 ∨ s = 21 then 6 else if s = 15 ∨ s = 18 ∨ s = 19 ∨ s = 20 then 9 else if s = 16 ∨ s = 17 then 12 else -1

def kidsN (k s : Int) : Int :=
  if k = 1 ∨ k = 2 then 0 else if k = 18 ∨ k = 19 then 1 else if k = 3 ∨ k = 6 ∨ k = 13 ∨ k = 14 ∨ k = 15 ∨ k = 16 ∨ k = 21 ∨ k = 11 then 2
  else if k = 4 ∨ k = 8 ∨ k = 9 ∨ k = 10 ∨ k = 20 then 3 else if k = 5 ∨ k = 7 ∨ k = 12 ∨ k = 17 then 4 else if k = 22 then 6 else if k = 23 then givenN s else -1

def bindsN (k i : Int) : Int :=
  if k = 3 ∨ k = 5 ∨ k = 6 ∨ k = 7 ∨ k = 8 ∨ k = 9 ∨ k = 13 ∨ k = 14 ∨ k = 16 ∨ k = 17 then (if i = 1 then 1 else 0)
  else if k = 4 then (if i = 1 ∨ i = 2 then 1 else 0) else if k = 22 then (if i = 2 then 2 else 0) else 0

theorem ret_int {a b : Int} (h : a = b) : Ending.returned (.int .i64 a) = .returned (.int .i64 b) := by rw [h]
theorem ret_bool {a b : Bool} (h : a = b) : Ending.returned (.bool a) = .returned (.bool b) := by rw [h]

set_option maxHeartbeats 1000000 in
theorem given_any (s : Int) (w : World) : Calls Tryd.prog 90 #[.int .i64 s] w fun e w' => e = .returned (.int .i64 (givenN s)) ∧ w = w' := by
  go_enter Tryd.func90, Tryd.ntmps90
  go_wp2
  all_goals go_ret
  all_goals exact ⟨ret_int (by simp only [beq_iff_eq, beq_eq_false_iff_ne, ne_eq] at *; unfold givenN; (repeat' split) <;> omega), rfl⟩

set_option maxHeartbeats 1000000 in
theorem kids_any (k s : Int) (w : World) : Calls Tryd.prog 77 #[.int .i64 k, .int .i64 s] w fun e w' => e = .returned (.int .i64 (kidsN k s)) ∧ w = w' := by
  go_enter Tryd.func77, Tryd.ntmps77
  go_wp2_with (go_at_call 90; refine (given_any _ _).mono ?_; rintro e w' ⟨rfl, rfl⟩)
  all_goals go_ret
  all_goals exact ⟨ret_int (by simp only [beq_iff_eq, beq_eq_false_iff_ne, ne_eq] at *; unfold kidsN; (repeat' split) <;> omega), rfl⟩

set_option maxHeartbeats 1000000 in
theorem binds_any (k i : Int) (w : World) : Calls Tryd.prog 61 #[.int .i64 k, .int .i64 i] w fun e w' => e = .returned (.int .i64 (bindsN k i)) ∧ w = w' := by
  go_enter Tryd.func61, Tryd.ntmps61
  go_wp2
  all_goals go_ret
  all_goals exact ⟨ret_int (by simp only [beq_iff_eq, beq_eq_false_iff_ne, ne_eq] at *; unfold bindsN; (repeat' split) <;> omega), rfl⟩

def levelB (i : Int) : Bool := decide (0 ≤ i) && decide (i ≤ 1000)
set_option maxHeartbeats 1000000 in
theorem level_any (i : Int) (w : World) : Calls Tryd.prog 91 #[.int .i64 i] w fun e w' => e = .returned (.bool (levelB i)) ∧ w = w' := by
  go_enter Tryd.func91, Tryd.ntmps91
  go_wp2
  all_goals go_ret
  all_goals exact ⟨ret_bool (by unfold levelB; first | (simp_all; done) | (simp_all; omega)), rfl⟩
end Go.Proofs.YtllkackipdcekaaDoor

namespace Go.Proofs.YtllkackipdcekaaDoor
open Go.Lib

def headsW : List (List UInt8) := [[], [115, 111, 114, 116], [], [112, 105], [108, 97, 109], [97, 112, 112], [115, 105, 103], [112, 97, 105, 114], [102, 115, 116], [115, 110, 100], [101, 113], [114, 101, 102, 108], [116, 114], [80, 105], [76, 97, 109], [65, 112, 112], [83, 105, 103], [80, 97, 105, 114], [70, 115, 116], [83, 110, 100], [69, 113], [82, 101, 102, 108], [74], [117, 115, 101]]
def symsW : List (List UInt8) := [[117, 105, 112], [102, 117, 110, 101, 120, 116], [115, 121, 109], [116, 114, 97, 110, 115], [116, 114], [104, 101, 116], [116, 121, 112], [116, 114, 104], [104, 112], [104, 50, 101], [101, 50, 104], [114, 112], [99, 112, 105], [99, 115, 105, 103], [99, 108, 97, 109], [99, 97, 112, 112], [99, 112, 97, 105, 114], [99, 102, 115, 116], [99, 115, 110, 100], [99, 101, 113], [99, 114, 101, 102, 108]]
def headL (k : Int) : List UInt8 := (headsW[k.toNat]?).getD []
def symL (n : Int) : List UInt8 := if 1 ≤ n ∧ n ≤ 21 then (symsW[(n - 1).toNat]?).getD [] else []
def nameW (n : Int) : List UInt8 := 118 :: itoa n
def levelsN (k : Int) : Int := if k = 1 ∨ k = 10 ∨ k = 11 ∨ k = 12 then 1 else if k = 3 ∨ k = 4 ∨ k = 5 ∨ k = 6 ∨ k = 7 ∨ k = 8 ∨ k = 9 ∨ k = 23 then 2 else 0
def lvlL (k i j : Int) : List UInt8 := if levelsN k = 1 then 32 :: itoa i else if levelsN k = 2 then 32 :: (itoa i ++ 32 :: itoa j) else []
/-- What stands ahead of the kids. -/
def frontL (k i j n m : Int) : List UInt8 := (if k = 23 then 32 :: symL n else []) ++ (lvlL k i j ++ (if 0 < bindsN k 1 then 32 :: nameW m else []))
/-- What stands ahead of a kid. -/
def midL (k : Int) (p : Nat) (m : Int) : List UInt8 := if k = 22 ∧ p = 2 then 32 :: (nameW m ++ 32 :: nameW (m + 1)) else []
end Go.Proofs.YtllkackipdcekaaDoor

namespace Go.Proofs.YtllkackipdcekaaDoor
open Go.RowKit

/-- A term: its kind, its three numbers, its kids. -/
inductive Tm where
  | mk (k i j n : Int) (l : List Tm)

namespace Tm
def k : Tm → Int | .mk k _ _ _ _ => k
def i : Tm → Int | .mk _ i _ _ _ => i
def j : Tm → Int | .mk _ _ j _ _ => j
def n : Tm → Int | .mk _ _ _ n _ => n
def kids : Tm → List Tm | .mk _ _ _ _ l => l
theorem eta (t : Tm) : Tm.mk t.k t.i t.j t.n t.kids = t := by cases t; rfl

theorem ind {P : Tm → Prop} (h : ∀ t, (∀ x ∈ t.kids, P x) → P t) : ∀ t, P t
  | .mk k i j n l => h (.mk k i j n l) (fun x (_ : x ∈ l) => ind h x)
end Tm

def I64 (x : Int) : Prop := -9223372036854775808 ≤ x ∧ x ≤ 9223372036854775807
def Tm.fine (t : Tm) : Prop := I64 t.k ∧ I64 t.i ∧ I64 t.j ∧ I64 t.n

/-- A term by value: s is the slice of its kids. -/
abbrev tv (t : Tm) (s : Value) : Value := .agg #[.int .i64 t.k, .int .i64 t.i, .int .i64 t.j, .int .i64 t.n, s]

/-- The five cells of a term at a place. -/
structure Node (w : World) (b o : Nat) (t : Tm) (s : Value) : Prop where
  c0 : w.cell? ⟨b, o, none⟩ = some (.int .i64 t.k)
  c1 : w.cell? ⟨b, o + 1, none⟩ = some (.int .i64 t.i)
  c2 : w.cell? ⟨b, o + 2, none⟩ = some (.int .i64 t.j)
  c3 : w.cell? ⟨b, o + 3, none⟩ = some (.int .i64 t.n)
  c4 : w.cell? ⟨b, o + 4, none⟩ = some s

/-- Terms that lie behind a slice. -/
inductive Lies (w : World) : List Tm → Value → Prop
  | mk (l : List Tm) (a : Option Addr) (cap : Nat) (S : Nat → Value) (hc : l.length ≤ cap) (hm : cap ≤ maxLen) (hf : ∀ x ∈ l, x.fine)
      (hn : ∀ i (h : i < l.length), ∃ b o, a = some ⟨b, o, none⟩ ∧ Node w b (o + i * 5) l[i] (S i)) (hk : ∀ i (h : i < l.length), Lies w (l[i]).kids (S i)) : Lies w l (.slice a l.length cap)

theorem Lies.out {w : World} {l : List Tm} {s : Value} (h : Lies w l s) : ∃ (a : Option Addr) (cap : Nat) (S : Nat → Value), s = .slice a l.length cap ∧ l.length ≤ cap ∧ cap ≤ maxLen ∧ (∀ x ∈ l, x.fine) ∧
    (∀ i (h : i < l.length), ∃ b o, a = some ⟨b, o, none⟩ ∧ Node w b (o + i * 5) l[i] (S i)) ∧ (∀ i (h : i < l.length), Lies w (l[i]).kids (S i)) := by
  cases h with
  | mk l a cap S hc hm hf hn hk => exact ⟨a, cap, S, rfl, hc, hm, hf, hn, hk⟩

theorem Node.lt {w : World} {b o : Nat} {t : Tm} {s : Value} (h : Node w b o t s) : b < w.heap.size := World.block_lt_of_cell? _ _ h.c0

theorem Node.below {w w' : World} {b o B : Nat} {t : Tm} {s : Value} (h : Node w b o t s) (hb : Below B w w') (hB : b < B) : Node w' b o t s :=
  ⟨(hb.cell (by exact hB)).trans h.c0, (hb.cell (by exact hB)).trans h.c1, (hb.cell (by exact hB)).trans h.c2, (hb.cell (by exact hB)).trans h.c3, (hb.cell (by exact hB)).trans h.c4⟩

/-- What lies in a world lies in every later one. -/
theorem Lies.keep {w w' : World} {l : List Tm} {s : Value} (h : Lies w l s) (hb : Below w.heap.size w w') : Lies w' l s := by
  induction h with
  | mk l a cap S hc hm hf hn hk ih =>
    exact .mk l a cap S hc hm hf (fun i hi => by obtain ⟨b, o, ha, hx⟩ := hn i hi; exact ⟨b, o, ha, hx.below hb hx.lt⟩) ih

end Go.Proofs.YtllkackipdcekaaDoor

namespace Go.Proofs.YtllkackipdcekaaDoor
open Go.RowKit

def numbersN (k i j n : Int) : Bool :=
  if k = 2 then decide (0 ≤ i) && (decide (i ≤ 2147483647) && ((j == 0) && (n == 0)))
  else if k = 1 ∨ k = 10 ∨ k = 11 ∨ k = 12 then levelB i && ((j == 0) && (n == 0))
  else if k = 3 ∨ k = 4 ∨ k = 5 ∨ k = 6 ∨ k = 7 ∨ k = 8 ∨ k = 9 then levelB i && (levelB j && (n == 0))
  else if k = 23 then levelB i && levelB j else (i == 0) && ((j == 0) && (n == 0))

set_option maxHeartbeats 2000000 in
theorem numbers_any (t : Tm) (s : Value) (w : World) : Calls Tryd.prog 78 #[tv t s] w fun e w' => e = .returned (.bool (numbersN t.k t.i t.j t.n)) ∧ Below w.heap.size w w' := by
  unfold tv
  generalize t.k = k, t.i = i, t.j = j, t.n = n
  go_enter Tryd.func78, Tryd.ntmps78
  go_wp2_with (go_at_call 91; refine (level_any _ _).mono ?_; rintro e w' ⟨rfl, rfl⟩)
  all_goals go_ret
  all_goals exact ⟨ret_bool (by simp only [beq_iff_eq, beq_eq_false_iff_ne, ne_eq] at *; unfold numbersN; (simp [*] <;> omega)), (Below.refl _ _).alloc (Nat.le_refl _) _⟩

end Go.Proofs.YtllkackipdcekaaDoor

namespace Go.Proofs.YtllkackipdcekaaDoor
open Go.RowKit

mutual
def Tm.plainB : Tm → Bool
  | .mk k i j n l => (k == 1 || (k == 2 || (decide (13 ≤ k) && decide (k ≤ 23)))) && (((l.length : Int) == kidsN k n) && (numbersN k i j n && plains l))
def plains : List Tm → Bool
  | [] => true
  | t :: r => t.plainB && plains r
end

mutual
def Tm.markedB : Tm → Bool
  | .mk k i j n l => (decide (1 ≤ k) && decide (k ≤ 12)) && (((l.length : Int) == kidsN k n) && (numbersN k i j n && markeds (k == 12) 0 l))
def markeds : Bool → Nat → List Tm → Bool
  | _, _, [] => true
  | tr, p, t :: r => (if tr && p == 2 then t.plainB else t.markedB) && markeds tr (p + 1) r
end

/-- A node has as many kids, and the numbers, that its kind says. -/
def Tm.nodeB (t : Tm) : Bool := ((t.kids.length : Int) == kidsN t.k t.n) && numbersN t.k t.i t.j t.n

theorem Tm.plainB_eq (t : Tm) : t.plainB = ((t.k == 1 || (t.k == 2 || (decide (13 ≤ t.k) && decide (t.k ≤ 23)))) && (t.nodeB && plains t.kids)) := by
  cases t; simp only [Tm.plainB, Tm.nodeB, Tm.k, Tm.i, Tm.j, Tm.n, Tm.kids, Bool.and_assoc]; rfl
theorem Tm.markedB_eq (t : Tm) : t.markedB = ((decide (1 ≤ t.k) && decide (t.k ≤ 12)) && (t.nodeB && markeds (t.k == 12) 0 t.kids)) := by
  cases t; simp only [Tm.markedB, Tm.nodeB, Tm.k, Tm.i, Tm.j, Tm.n, Tm.kids, Bool.and_assoc]; rfl

theorem plains_take (l : List Tm) (k : Nat) (h : k < l.length) : plains (l.take (k + 1)) = (plains (l.take k) && (l[k]).plainB) := by
  induction l generalizing k with
  | nil => simp at h
  | cons a r ih =>
    cases k with
    | zero => simp [plains]
    | succ k => simp only [List.take_succ_cons, plains, List.getElem_cons_succ]; rw [ih k (by simpa using h), Bool.and_assoc]

theorem plains_of (l : List Tm) (k : Nat) (h : k < l.length) (hp : (l[k]).plainB = false) : plains l = false := by
  induction l generalizing k with
  | nil => simp at h
  | cons a r ih =>
    cases k with
    | zero => simp only [List.getElem_cons_zero] at hp; simp [plains, hp]
    | succ k => simp only [List.getElem_cons_succ] at hp; simp [plains, ih k (by simpa using h) hp]

/-- What is asked of the kid number k of a marked term. -/
def Tm.kidB (t : Tm) (tr : Bool) (k : Nat) : Bool := if tr && k == 2 then t.plainB else t.markedB

theorem markeds_take (tr : Bool) (l : List Tm) (p k : Nat) (h : k < l.length) : markeds tr p (l.take (k + 1)) = (markeds tr p (l.take k) && (l[k]).kidB tr (p + k)) := by
  induction l generalizing p k with
  | nil => simp at h
  | cons a r ih =>
    cases k with
    | zero => simp [markeds, Tm.kidB]
    | succ k =>
      simp only [List.take_succ_cons, markeds, List.getElem_cons_succ]
      rw [ih (p + 1) k (by simpa using h), Bool.and_assoc, show p + 1 + k = p + (k + 1) by omega]

theorem markeds_of (tr : Bool) (l : List Tm) (p k : Nat) (h : k < l.length) (hp : (l[k]).kidB tr (p + k) = false) : markeds tr p l = false := by
  induction l generalizing p k with
  | nil => simp at h
  | cons a r ih =>
    cases k with
    | zero => simp only [List.getElem_cons_zero, Nat.add_zero, Tm.kidB] at hp; simp only [markeds, hp, Bool.false_and]
    | succ k =>
      simp only [List.getElem_cons_succ] at hp
      simp only [markeds]
      rw [ih (p + 1) k (by simpa using h) (by rw [show p + 1 + k = p + (k + 1) by omega]; exact hp), Bool.and_false]

theorem kidsN_nonneg {k n : Int} (h : 0 ≤ kidsN k n) : 1 ≤ k ∧ k ≤ 23 := by
  unfold kidsN at h; (repeat' split at h) <;> omega
theorem kidsN_two {k n : Int} (h1 : 1 ≤ k) (h2 : k ≤ 2) : kidsN k n = 0 := by
  unfold kidsN; rw [if_pos (by omega)]

theorem Tm.node_kind {t : Tm} (h : t.nodeB = true) : 1 ≤ t.k ∧ t.k ≤ 23 := by
  simp only [Tm.nodeB, Bool.and_eq_true, beq_iff_eq] at h
  exact kidsN_nonneg (n := t.n) (by omega)

/-- Its sorts: 1 for marked, 2 for plain, 3 for both. -/
def Tm.sortsN (t : Tm) : Int := (if t.markedB then 1 else 0) + (if t.plainB then 2 else 0)

theorem sorts_bad {t : Tm} (h : t.nodeB = false) : t.sortsN = 0 := by
  simp [Tm.sortsN, Tm.plainB_eq, Tm.markedB_eq, h]
theorem sorts_two {t : Tm} (h : t.nodeB = true) (h2 : t.k ≤ 2) : t.sortsN = 3 ∧ t.kids = [] := by
  have hk := (Tm.node_kind h).1
  have hl : t.kids = [] := by
    simp only [Tm.nodeB, Bool.and_eq_true, beq_iff_eq] at h
    rw [kidsN_two hk h2] at h
    exact List.eq_nil_of_length_eq_zero (by omega)
  have h3 : (t.k == 1 || (t.k == 2 || (decide (13 ≤ t.k) && decide (t.k ≤ 23)))) = true := by
    have : t.k = 1 ∨ t.k = 2 := by omega
    rcases this with e | e <;> simp [e]
  have h4 : (decide (1 ≤ t.k) && decide (t.k ≤ 12)) = true := by simp; omega
  refine ⟨?_, hl⟩
  simp [Tm.sortsN, Tm.plainB_eq, Tm.markedB_eq, h, h3, h4, hl, plains, markeds]
theorem sorts_marked {t : Tm} (h : t.nodeB = true) (h2 : 2 < t.k) (h3 : t.k ≤ 12) : t.sortsN = if markeds (t.k == 12) 0 t.kids then 1 else 0 := by
  have h4 : (decide (1 ≤ t.k) && decide (t.k ≤ 12)) = true := by simp; omega
  have h5 : (t.k == 1 || (t.k == 2 || (decide (13 ≤ t.k) && decide (t.k ≤ 23)))) = false := by
    simp; omega
  simp [Tm.sortsN, Tm.plainB_eq, Tm.markedB_eq, h, h4, h5]
theorem sorts_plain {t : Tm} (h : t.nodeB = true) (h2 : 12 < t.k) : t.sortsN = if plains t.kids then 2 else 0 := by
  have hk := (Tm.node_kind h).2
  have h4 : (decide (1 ≤ t.k) && decide (t.k ≤ 12)) = false := by simp; omega
  have h5 : (t.k == 1 || (t.k == 2 || (decide (13 ≤ t.k) && decide (t.k ≤ 23)))) = true := by
    simp; omega
  simp [Tm.sortsN, Tm.plainB_eq, Tm.markedB_eq, h, h4, h5]
end Go.Proofs.YtllkackipdcekaaDoor

namespace Go.Proofs.YtllkackipdcekaaDoor
open Go.RowKit

mutual
def Tm.size : Tm → Nat
  | .mk _ _ _ _ l => sizes l + 1
def sizes : List Tm → Nat
  | [] => 0
  | t :: r => t.size + sizes r
end

theorem sizes_take (l : List Tm) (k : Nat) (h : k < l.length) : sizes (l.take (k + 1)) = sizes (l.take k) + (l[k]).size := by
  induction l generalizing k with
  | nil => simp at h
  | cons a r ih =>
    cases k with
    | zero => simp [sizes]
    | succ k => simp only [List.take_succ_cons, sizes, List.getElem_cons_succ]; rw [ih k (by simpa using h)]; omega

theorem sizes_le (l : List Tm) (k : Nat) : sizes (l.take k) ≤ sizes l := by
  induction l generalizing k with
  | nil => simp
  | cons a r ih =>
    cases k with
    | zero => simp [sizes]
    | succ k => simp only [List.take_succ_cons, sizes]; have := ih k; omega

theorem Tm.size_eq (t : Tm) : t.size = sizes t.kids + 1 := by cases t; rfl

end Go.Proofs.YtllkackipdcekaaDoor

namespace Go.Proofs.YtllkackipdcekaaDoor
open Go.RowKit

/-- A new block of five cells, asked for later. -/
theorem box_cells {w wr : World} {v0 v1 v2 v3 v4 : Value} {T : TypeId} (h : Below (w.heap.size + 1) (w.alloc (.cells #[v0, v1, v2, v3, v4] T)) wr) :
    wr.cell? ⟨w.heap.size, 0, none⟩ = some v0 ∧ wr.cell? ⟨w.heap.size, 1, none⟩ = some v1 ∧ wr.cell? ⟨w.heap.size, 2, none⟩ = some v2 ∧ wr.cell? ⟨w.heap.size, 3, none⟩ = some v3 ∧ wr.cell? ⟨w.heap.size, 4, none⟩ = some v4 := by
  have key : ∀ o, wr.cell? ⟨w.heap.size, o, none⟩ = (#[v0, v1, v2, v3, v4] : Array Value)[o]? := fun o => by
    rw [h.cell (p := ⟨w.heap.size, o, none⟩) (by exact Nat.lt_succ_self _), World.cell?_alloc_at _ _ _ _ rfl]
  exact ⟨by rw [key]; rfl, by rw [key]; rfl, by rw [key]; rfl, by rw [key]; rfl, by rw [key]; rfl⟩

/-- What is new beside a new block is new. -/
theorem below_of_box {w wr : World} {o : Obj} (h : Below (w.heap.size + 1) (w.alloc o) wr) : Below w.heap.size w wr :=
  ((Below.refl _ _).alloc (Nat.le_refl _) _).trans (h.mono (Nat.le_succ _))

/-- A call in a later world: it leaves alone what was there. -/
theorem below_call {B : Nat} {a w w' : World} (h : Below B a w) (h' : Below w.heap.size w w') (hB : B ≤ w.heap.size) : Below B a w' := h.trans (h'.mono hB)

end Go.Proofs.YtllkackipdcekaaDoor

namespace Go.Proofs.YtllkackipdcekaaDoor
open Go.RowKit

theorem bits_table : bits BinOp.and IntKind.i64 0 1 = 0 ∧ bits BinOp.and IntKind.i64 1 1 = 1 ∧ bits BinOp.and IntKind.i64 2 1 = 0 ∧ bits BinOp.and IntKind.i64 3 1 = 1 ∧
    bits BinOp.and IntKind.i64 0 2 = 0 ∧ bits BinOp.and IntKind.i64 1 2 = 0 ∧ bits BinOp.and IntKind.i64 2 2 = 2 ∧ bits BinOp.and IntKind.i64 3 2 = 2 := by
  refine ⟨?_, ?_, ?_, ?_, ?_, ?_, ?_, ?_⟩ <;> kernel_rfl

set_option maxHeartbeats 800000 in
theorem sorts_any (t : Tm) : ∀ (w : World) (s : Value), Lies w t.kids s → Calls Tryd.prog 56 #[tv t s] w fun e w' => e = .returned (.int .i64 t.sortsN) ∧ Below w.heap.size w w' := by
  induction t using Tm.ind with
  | h t ih =>
    intro w s hl
    obtain ⟨a, cap, S, rfl, hc, hm, hf, hn, hk⟩ := hl.out
    unfold tv
    unfold maxLen at hm
    have IH := Lib.hid ih
    have HN := Lib.hid hn
    have HK := Lib.hid hk
    have HBX := Lib.hid (fun (wr : World) => box_cells (w := w) (wr := wr) (v0 := .int .i64 t.k) (v1 := .int .i64 t.i) (v2 := .int .i64 t.j) (v3 := .int .i64 t.n) (v4 := .slice a t.kids.length cap) (T := 26))
    clear ih hn hk hf hl
    by_cases h1 : kidsN t.k t.n < 0
    · have hv : t.sortsN = 0 := sorts_bad (by simp only [Tm.nodeB, Bool.and_eq_false_iff]; left; simp; omega)
      have HV := Lib.hid hv
      clear hv
      go_enter Tryd.func56, Tryd.ntmps56
      go_wp2_with (go_at_call 77; refine (kids_any _ _ _).mono ?_; rintro e w' ⟨rfl, rfl⟩)
      go_ret
      exact ⟨by rw [HV.out]; rfl, (Below.refl _ _).alloc (Nat.le_refl _) _⟩
    by_cases h2 : (t.kids.length : Int) = kidsN t.k t.n
    rotate_left
    · have hv : t.sortsN = 0 := sorts_bad (by simp only [Tm.nodeB, Bool.and_eq_false_iff]; left; simp; omega)
      have HV := Lib.hid hv
      have h3 : ((t.kids.length : Int) == kidsN t.k t.n) = false := by simpa using h2
      have h4 : ((t.kids.length : Int) != kidsN t.k t.n) = true := by simpa using h2
      clear hv
      go_enter Tryd.func56, Tryd.ntmps56
      go_wp2_with (go_at_call 77; refine (kids_any _ _ _).mono ?_; rintro e w' ⟨rfl, rfl⟩)
      go_ret
      exact ⟨by rw [HV.out]; rfl, (Below.refl _ _).alloc (Nat.le_refl _) _⟩
    have h3 : ((t.kids.length : Int) == kidsN t.k t.n) = true := by simpa using h2
    have h4 : ((t.kids.length : Int) != kidsN t.k t.n) = false := by simpa using h2
    have H2 := Lib.hid h2
    clear h2
    cases h5 : numbersN t.k t.i t.j t.n with
    | false =>
      have hv : t.sortsN = 0 := sorts_bad (by simp only [Tm.nodeB, Bool.and_eq_false_iff]; right; exact h5)
      have HV := Lib.hid hv
      clear hv
      go_enter Tryd.func56, Tryd.ntmps56
      go_wp2_with (first | (go_at_call 77; refine (kids_any _ _ _).mono ?_; rintro e w' ⟨rfl, rfl⟩) | (go_at_call 78; refine (numbers_any t _ _).mono ?_; rintro e w' ⟨rfl, hb'⟩; have HB' := ((Below.refl w.heap.size w).alloc (Nat.le_refl _) _).trans (hb'.mono (by simp)); clear hb'; rw [h5]))
      go_ret
      exact ⟨by rw [HV.out]; rfl, HB'⟩
    | true =>
      have hnode : t.nodeB = true := by simp only [Tm.nodeB, h5, Bool.and_true]; simpa using H2.out
      by_cases k2 : t.k ≤ 2
      · have hv := sorts_two hnode k2
        have hl0 : t.kids.length = 0 := by rw [hv.2]; rfl
        have HL0 := Lib.hid hl0
        clear hl0
        have HV := Lib.hid hv.1
        clear hv hnode
        go_enter Tryd.func56, Tryd.ntmps56
        go_wp2_with (first | (go_at_call 77; refine (kids_any _ _ _).mono ?_; rintro e w' ⟨rfl, rfl⟩) | (go_at_call 78; refine (numbers_any t _ _).mono ?_; rintro e w' ⟨rfl, hb'⟩; have HB' := below_call (Below.refl (w.heap.size + 1) _) hb' (by simp); clear hb'; obtain ⟨d0, d1, d2, d3, d4⟩ := HBX.out _ HB'; rw [h5]))
        have hl0 := HL0.out
        refine wp_loop_rounds 1 ?_
        rw [rounds_succ]
        go_wp2
        go_ret
        exact ⟨by rw [HV.out]; rfl, below_of_box HB'⟩
      by_cases k12 : t.k ≤ 12
      · have hv := sorts_marked hnode (by omega) k12
        have HV := Lib.hid hv
        clear hv hnode
        go_enter Tryd.func56, Tryd.ntmps56
        go_wp2_with (first | (go_at_call 77; refine (kids_any _ _ _).mono ?_; rintro e w' ⟨rfl, rfl⟩) | (go_at_call 78; refine (numbers_any t _ _).mono ?_; rintro e w' ⟨rfl, hb'⟩; have HB' := below_call (Below.refl (w.heap.size + 1) _) hb' (by simp); clear hb'; obtain ⟨d0, d1, d2, d3, d4⟩ := HBX.out _ HB'; rw [h5]))
        go_loopw [36] (fun iv wr => ∃ k : Nat, k ≤ t.kids.length ∧ iv = .int .i64 k ∧ Hid (markeds (t.k == 12) 0 (t.kids.take k) = true) ∧ Below (w.heap.size + 1) (w.alloc (.cells #[.int .i64 t.k, .int .i64 t.i, .int .i64 t.j, .int .i64 t.n, .slice a t.kids.length cap] 26)) wr) (fun i _ => t.kids.length - (intOf i).toNat)
        case atStart => exact ⟨0, Nat.zero_le _, rfl, by simp [Hid, markeds], HB'⟩
        case round =>
          obtain ⟨k, hk, rfl, hgood, hb⟩ := hrel
          obtain ⟨d0, d1, d2, d3, d4⟩ := HBX.out _ hb
          have hb0 := below_of_box hb
          by_cases hlt : k < t.kids.length
          · obtain ⟨b, o, rfl, hx⟩ := HN.out k hlt
            have hy := hx.below hb0 hx.lt
            obtain ⟨c0, c1, c2, c3, c4⟩ := hy
            have hq := HK.out k hlt
            obtain ⟨a', cap', S', hS, -⟩ := hq.out
            rw [hS] at c4 hq
            have HM := Lib.hid (List.getElem_mem hlt)
            have HB2 : Below (w.heap.size + 1) (w.alloc (.cells #[.int .i64 t.k, .int .i64 t.i, .int .i64 t.j, .int .i64 t.n, .slice (some ⟨b, o, none⟩) t.kids.length cap] 26)) (wr.alloc (.cells #[.int .i64 t.kids[k].k, .int .i64 t.kids[k].i, .int .i64 t.kids[k].j, .int .i64 t.kids[k].n, .slice a' t.kids[k].kids.length cap'] 26)) := hb.alloc (by have := hb.size; simpa using this) _
            have hq2 := hq.keep (below_of_box HB2)
            have HQ := Lib.hid hq2
            have hsz2 : w.heap.size + 1 ≤ wr.heap.size := by have := hb.size; simpa using this
            obtain ⟨y0, y1, y2, y3, y4⟩ := HBX.out _ HB2
            clear hS hq hq2 hb HB'
            cases e12 : (t.k == 12) <;> cases e2 : ((k : Int) == 2)
            all_goals
              go_wp2_with fail
              refine (IH.out _ HM.out _ _ HQ.out).mono ?_
              rintro e w' ⟨he, hb'⟩
              have HB3 := below_call HB2 hb' (by simp; omega)
              obtain ⟨x0, x1, x2, x3, x4⟩ := HBX.out _ HB3
              have e2' : (k == 2) = ((k : Int) == 2) := by rw [e2]; simp at e2 ⊢; omega
              have HE2 := Lib.hid e2'
              clear e2' hb' HB2 d0 d1 d2 d3 d4 y0 y1 y2 y3 y4 hb0
              cases hm : (t.kids[k]).markedB <;> cases hp : (t.kids[k]).plainB
              all_goals
                simp [Tm.sortsN, hm, hp] at he
                subst he
                obtain ⟨t1, t2, t3, t4, t5, t6, t7, t8⟩ := bits_table
                go_wp2
                first
                | (go_ret
                   exact ⟨by rw [HV.out, if_neg (by rw [markeds_of _ t.kids 0 k hlt (by simp [Tm.kidB, e12, HE2.out, e2, hm, hp])]; simp)]; rfl, below_of_box HB3⟩)
                | (go_roundw
                   case rel => exact ⟨k + 1, by omega, by go_num, by have hg := hgood.out; rw [e12] at hg; show _ = true; rw [markeds_take _ _ _ _ hlt, hg]; simp [Tm.kidB, HE2.out, e2, hm, hp], HB3⟩
                   case measure => simp [intOf]; omega)
          · have : k = t.kids.length := by omega
            subst this
            go_wp2
            go_ret
            exact ⟨by rw [HV.out, if_pos (by have := hgood.out; rwa [List.take_length] at this)]; rfl, hb0⟩
      · have hv := sorts_plain hnode (by omega)
        have HV := Lib.hid hv
        clear hv hnode
        go_enter Tryd.func56, Tryd.ntmps56
        go_wp2_with (first | (go_at_call 77; refine (kids_any _ _ _).mono ?_; rintro e w' ⟨rfl, rfl⟩) | (go_at_call 78; refine (numbers_any t _ _).mono ?_; rintro e w' ⟨rfl, hb'⟩; have HB' := below_call (Below.refl (w.heap.size + 1) _) hb' (by simp); clear hb'; obtain ⟨d0, d1, d2, d3, d4⟩ := HBX.out _ HB'; rw [h5]))
        go_loopw [36] (fun iv wr => ∃ k : Nat, k ≤ t.kids.length ∧ iv = .int .i64 k ∧ Hid (plains (t.kids.take k) = true) ∧ Below (w.heap.size + 1) (w.alloc (.cells #[.int .i64 t.k, .int .i64 t.i, .int .i64 t.j, .int .i64 t.n, .slice a t.kids.length cap] 26)) wr) (fun i _ => t.kids.length - (intOf i).toNat)
        case atStart => exact ⟨0, Nat.zero_le _, rfl, by simp [Hid, plains], HB'⟩
        case round =>
          obtain ⟨k, hk, rfl, hgood, hb⟩ := hrel
          obtain ⟨d0, d1, d2, d3, d4⟩ := HBX.out _ hb
          have hb0 := below_of_box hb
          by_cases hlt : k < t.kids.length
          · obtain ⟨b, o, rfl, hx⟩ := HN.out k hlt
            have hy := hx.below hb0 hx.lt
            obtain ⟨c0, c1, c2, c3, c4⟩ := hy
            have hq := HK.out k hlt
            obtain ⟨a', cap', S', hS, -⟩ := hq.out
            rw [hS] at c4 hq
            have HM := Lib.hid (List.getElem_mem hlt)
            have HB2 : Below (w.heap.size + 1) (w.alloc (.cells #[.int .i64 t.k, .int .i64 t.i, .int .i64 t.j, .int .i64 t.n, .slice (some ⟨b, o, none⟩) t.kids.length cap] 26)) (wr.alloc (.cells #[.int .i64 t.kids[k].k, .int .i64 t.kids[k].i, .int .i64 t.kids[k].j, .int .i64 t.kids[k].n, .slice a' t.kids[k].kids.length cap'] 26)) := hb.alloc (by have := hb.size; simpa using this) _
            have hq2 := hq.keep (below_of_box HB2)
            have HQ := Lib.hid hq2
            have hsz2 : w.heap.size + 1 ≤ wr.heap.size := by have := hb.size; simpa using this
            obtain ⟨y0, y1, y2, y3, y4⟩ := HBX.out _ HB2
            clear hS hq hq2 hb HB'
            have e12 : (t.k == 12) = false := by simp; omega
            cases e2 : ((k : Int) == 2)
            all_goals
              go_wp2_with fail
              refine (IH.out _ HM.out _ _ HQ.out).mono ?_
              rintro e w' ⟨he, hb'⟩
              have HB3 := below_call HB2 hb' (by simp; omega)
              obtain ⟨x0, x1, x2, x3, x4⟩ := HBX.out _ HB3
              have e2' : (k == 2) = ((k : Int) == 2) := by rw [e2]; simp at e2 ⊢; omega
              have HE2 := Lib.hid e2'
              clear e2' hb' HB2 d0 d1 d2 d3 d4 y0 y1 y2 y3 y4 hb0
              cases hm : (t.kids[k]).markedB <;> cases hp : (t.kids[k]).plainB
              all_goals
                simp [Tm.sortsN, hm, hp] at he
                subst he
                obtain ⟨t1, t2, t3, t4, t5, t6, t7, t8⟩ := bits_table
                go_wp2
                first
                | (go_ret
                   exact ⟨by rw [HV.out, if_neg (by rw [plains_of t.kids k hlt hp]; simp)]; rfl, below_of_box HB3⟩)
                | (go_roundw
                   case rel => exact ⟨k + 1, by omega, by go_num, by show _ = true; rw [plains_take _ _ hlt, hgood.out]; simp [hp], HB3⟩
                   case measure => simp [intOf]; omega)
          · have : k = t.kids.length := by omega
            subst this
            go_wp2
            go_ret
            exact ⟨by rw [HV.out, if_pos (by have := hgood.out; rwa [List.take_length] at this)]; rfl, hb0⟩
end Go.Proofs.YtllkackipdcekaaDoor

namespace Go.Proofs.YtllkackipdcekaaDoor
open Go.RowKit

mutual
def Tm.freeN : Tm → Int
  | .mk k i _ _ l => if k = 2 then i + 1 else frees k 0 l
def frees : Int → Nat → List Tm → Int
  | _, _, [] => 0
  | k, p, t :: r => max (t.freeN - bindsN k p) (frees k (p + 1) r)
end
theorem Tm.freeN_eq (t : Tm) : t.freeN = if t.k = 2 then t.i + 1 else frees t.k 0 t.kids := by cases t; rfl

theorem frees_nonneg (k : Int) (l : List Tm) (p : Nat) : 0 ≤ frees k p l := by
  induction l generalizing p with
  | nil => simp [frees]
  | cons a r ih => simp only [frees]; have := ih (p + 1); omega

theorem frees_take (k : Int) (l : List Tm) (p m : Nat) (h : m < l.length) : frees k p (l.take (m + 1)) = max (frees k p (l.take m)) ((l[m]).freeN - bindsN k ((p + m : Nat) : Int)) := by
  induction l generalizing p m with
  | nil => simp at h
  | cons a r ih =>
    cases m with
    | zero => simp [frees]; omega
    | succ m => simp only [List.take_succ_cons, frees, List.getElem_cons_succ]; rw [ih (p + 1) m (by simpa using h), show p + 1 + m = p + (m + 1) by omega]; omega

def Tm.rightB (t : Tm) : Bool := t.markedB || t.plainB

theorem plains_mem {l : List Tm} (h : plains l = true) : ∀ x ∈ l, x.plainB = true := by
  induction l with
  | nil => simp
  | cons a r ih =>
    simp only [plains, Bool.and_eq_true] at h
    intro x hx
    rcases List.mem_cons.1 hx with rfl | hx
    · exact h.1
    · exact ih h.2 x hx
theorem markeds_mem {tr : Bool} {l : List Tm} {p : Nat} (h : markeds tr p l = true) : ∀ x ∈ l, x.rightB = true := by
  induction l generalizing p with
  | nil => simp
  | cons a r ih =>
    simp only [markeds, Bool.and_eq_true] at h
    intro x hx
    rcases List.mem_cons.1 hx with rfl | hx
    · have := h.1; simp only [Tm.rightB]; split at this <;> simp [this]
    · exact ih h.2 x hx
theorem Tm.right_node {t : Tm} (h : t.rightB = true) : t.nodeB = true := by
  simp only [Tm.rightB, Tm.markedB_eq, Tm.plainB_eq, Bool.or_eq_true, Bool.and_eq_true] at h
  rcases h with h | h
  · exact h.2.1
  · exact h.2.1
theorem Tm.right_kids {t : Tm} (h : t.rightB = true) : ∀ x ∈ t.kids, x.rightB = true := by
  simp only [Tm.rightB, Tm.markedB_eq, Tm.plainB_eq, Bool.or_eq_true, Bool.and_eq_true] at h
  rcases h with h | h
  · exact markeds_mem h.2.2
  · intro x hx; simp only [Tm.rightB, Bool.or_eq_true]; right; exact plains_mem h.2.2 x hx
theorem Tm.right_var {t : Tm} (h : t.rightB = true) (hk : t.k = 2) : 0 ≤ t.i ∧ t.i ≤ 2147483647 := by
  have := t.right_node h
  simp only [Tm.nodeB, numbersN, hk, Bool.and_eq_true, if_true, decide_eq_true_eq] at this
  exact ⟨this.2.1, this.2.2.1⟩
theorem frees_le (k : Int) (B : Int) (hB : 0 ≤ B) (l : List Tm) (p : Nat) (h : ∀ x ∈ l, x.freeN ≤ B) : frees k p l ≤ B := by
  induction l generalizing p with
  | nil => simpa [frees] using hB
  | cons a r ih =>
    simp only [frees]
    have h1 := ih (p + 1) (fun x hx => h x (List.mem_cons_of_mem _ hx))
    have h2 := h a List.mem_cons_self
    have h3 : 0 ≤ bindsN k p := by unfold bindsN; (repeat' split) <;> omega
    omega
theorem binds_range (k i : Int) : 0 ≤ bindsN k i ∧ bindsN k i ≤ 2 := by unfold bindsN; (repeat' split) <;> omega
theorem Tm.free_range (t : Tm) : t.rightB = true → 0 ≤ t.freeN ∧ t.freeN ≤ 2147483648 := by
  induction t using Tm.ind with
  | h t ih =>
    intro h
    rw [t.freeN_eq]
    split
    · rename_i hk; have := t.right_var h hk; omega
    · exact ⟨frees_nonneg _ _ _, frees_le _ _ (by omega) _ _ (fun x hx => (ih x hx (t.right_kids h x hx)).2)⟩

set_option maxHeartbeats 800000 in
theorem free_any (t : Tm) : ∀ (w : World) (s : Value), Lies w t.kids s → t.rightB = true → Calls Tryd.prog 57 #[tv t s] w fun e w' => e = .returned (.int .i64 t.freeN) ∧ Below w.heap.size w w' := by
  induction t using Tm.ind with
  | h t ih =>
    intro w s hl hr
    obtain ⟨a, cap, S, rfl, hc, hm, hf, hn, hk⟩ := hl.out
    unfold tv
    unfold maxLen at hm
    have HF := Lib.hid (t.freeN_eq)
    have HR := Lib.hid (t.right_kids hr)
    have IH := Lib.hid ih
    have HN := Lib.hid hn
    have HK := Lib.hid hk
    have HBX := Lib.hid (fun (wr : World) => box_cells (w := w) (wr := wr) (v0 := .int .i64 t.k) (v1 := .int .i64 t.i) (v2 := .int .i64 t.j) (v3 := .int .i64 t.n) (v4 := .slice a t.kids.length cap) (T := 26))
    clear ih hn hk hf hl
    by_cases h2 : t.k = 2
    · have hv := t.right_var hr h2
      have e2 : (t.k == 2) = true := by simpa using h2
      have H2 := Lib.hid h2
      clear h2 hr
      go_enter Tryd.func57, Tryd.ntmps57
      go_wp2
      go_ret
      exact ⟨ret_int (by rw [HF.out, if_pos H2.out]), (Below.refl _ _).alloc (Nat.le_refl _) _⟩
    have e2 : (t.k == 2) = false := by simpa using h2
    have H2 := Lib.hid h2
    have HFB := Lib.hid (fun (x : Tm) (hx : x ∈ t.kids) => x.free_range (t.right_kids hr x hx))
    clear h2 hr
    go_enter Tryd.func57, Tryd.ntmps57
    go_wp2
    go_loopw [3, 15] (fun n i wr => ∃ k : Nat, k ≤ t.kids.length ∧ i = .int .i64 k ∧ n = .int .i64 (frees t.k 0 (t.kids.take k)) ∧ Below (w.heap.size + 1) (w.alloc (.cells #[.int .i64 t.k, .int .i64 t.i, .int .i64 t.j, .int .i64 t.n, .slice a t.kids.length cap] 26)) wr) (fun n i _ => t.kids.length - (intOf i).toNat)
    case atStart => exact ⟨0, Nat.zero_le _, rfl, by simp [frees], Below.refl _ _⟩
    case round =>
      obtain ⟨k, hk, rfl, rfl, hb⟩ := hrel
      obtain ⟨d0, d1, d2, d3, d4⟩ := HBX.out _ hb
      have hb0 := below_of_box hb
      by_cases hlt : k < t.kids.length
      · obtain ⟨b, o, rfl, hx⟩ := HN.out k hlt
        have hy := hx.below hb0 hx.lt
        obtain ⟨c0, c1, c2, c3, c4⟩ := hy
        have hq := HK.out k hlt
        obtain ⟨a', cap', S', hS, -⟩ := hq.out
        rw [hS] at c4 hq
        have HM := Lib.hid (List.getElem_mem hlt)
        have HB2 : Below (w.heap.size + 1) (w.alloc (.cells #[.int .i64 t.k, .int .i64 t.i, .int .i64 t.j, .int .i64 t.n, .slice (some ⟨b, o, none⟩) t.kids.length cap] 26)) (wr.alloc (.cells #[.int .i64 t.kids[k].k, .int .i64 t.kids[k].i, .int .i64 t.kids[k].j, .int .i64 t.kids[k].n, .slice a' t.kids[k].kids.length cap'] 26)) := hb.alloc (by have := hb.size; simpa using this) _
        have HQ := Lib.hid (hq.keep (below_of_box HB2))
        have hsz2 : w.heap.size + 1 ≤ wr.heap.size := by have := hb.size; simpa using this
        obtain ⟨y0, y1, y2, y3, y4⟩ := HBX.out _ HB2
        clear hS hq
        have hfr := HFB.out _ HM.out
        have hbr := binds_range t.k k
        have HT := Lib.hid (frees_take t.k t.kids 0 k hlt)
        have hfn := frees_nonneg t.k (t.kids.take k) 0
        have HRK := Lib.hid (HR.out _ HM.out)
        have hfl : frees t.k 0 (t.kids.take k) ≤ 2147483648 := frees_le _ _ (by omega) _ _ (fun x hx => (HFB.out x (List.mem_of_mem_take hx)).2)
        go_wp2_with fail
        go_region_with (first | (go_at_call 61; refine (binds_any _ _ _).mono ?_; rintro e w' ⟨rfl, rfl⟩) | (go_at_call 57; refine (IH.out _ HM.out _ _ (HQ.out.keep (Below.refl _ _).drew) HRK.out).mono ?_; rintro e w' ⟨rfl, hb'⟩; have HB3 := below_call HB2.drew hb' (by simp; omega); obtain ⟨x0, x1, x2, x3, x4⟩ := HBX.out _ HB3))
        all_goals
          clear hfn hfl hb0
          go_wp2
          go_roundw
          case rel => exact ⟨k + 1, by omega, by go_num, by rw [HT.out, Nat.zero_add]; all_goals ((try split) <;> go_num), HB3⟩
          case measure => simp [intOf]; omega
      · have : k = t.kids.length := by omega
        subst this
        go_wp2
        go_ret
        refine ⟨?_, hb0⟩
        rw [HF.out, if_neg H2.out, List.take_length]
        rfl

end Go.Proofs.YtllkackipdcekaaDoor

namespace Go.Proofs.YtllkackipdcekaaDoor

mutual
/-- Each variable v beneath b binders becomes f v b; nothing if one has no image. -/
def Tm.each (f : Int → Int → Option Int) : Tm → Int → Option Tm
  | .mk k i j n l, b => if k = 2 then (f i b).map (fun v => .mk 2 v 0 0 []) else (eaches f k 0 b l).map (fun l' => .mk k i j n l')
def eaches (f : Int → Int → Option Int) : Int → Nat → Int → List Tm → Option (List Tm)
  | _, _, _, [] => some []
  | k, p, b, t :: r => (t.each f (b + bindsN k p)).bind fun x => (eaches f k (p + 1) b r).map fun y => x :: y
end

theorem right_var_eq {t : Tm} (h : t.rightB = true) (hk : t.k = 2) : t = .mk 2 t.i 0 0 [] := by
  have h2 := t.right_node h
  have h0 : t.kids = [] := (sorts_two h2 (by omega)).2
  simp only [Tm.nodeB, numbersN, hk, Bool.and_eq_true, if_true, decide_eq_true_eq] at h2
  have h3 := h2.2
  have hj : t.j = 0 := by simp at h3; omega
  have hn : t.n = 0 := by simp at h3; omega
  rw [← t.eta, hk, hj, hn, h0]; rfl

end Go.Proofs.YtllkackipdcekaaDoor

namespace Go.Proofs.YtllkackipdcekaaDoor
open Go.RowKit

/-- The block of a term by value. -/
def boxOf (t : Tm) (s : Value) : Obj := .cells #[.int .i64 t.k, .int .i64 t.i, .int .i64 t.j, .int .i64 t.n, s] 26

/-- Beside the boxed term there is only what is new. -/
def Held (w : World) (t : Tm) (s : Value) (w' : World) : Prop := Below (w.heap.size + 1) (w.alloc (boxOf t s)) w'

theorem held_below {w w1 : World} {t : Tm} {s : Value} (h : Held w t s w1) : Below w.heap.size w w1 := below_of_box h
end Go.Proofs.YtllkackipdcekaaDoor

namespace Go.Proofs.YtllkackipdcekaaDoor
open Go.RowKit

mutual
def sameB : Tm → Tm → Bool
  | .mk k i j n l, .mk k' i' j' n' l' => (k == k') && ((i == i') && ((j == j') && ((n == n') && samesB l l')))
def samesB : List Tm → List Tm → Bool
  | [], [] => true
  | x :: r, y :: s => sameB x y && samesB r s
  | [], _ :: _ => false
  | _ :: _, [] => false
end

theorem sameB_eq (a b : Tm) : sameB a b = ((a.k == b.k) && ((a.i == b.i) && ((a.j == b.j) && ((a.n == b.n) && samesB a.kids b.kids)))) := by
  cases a; cases b; simp only [sameB]; rfl

theorem samesB_length : ∀ {l m : List Tm}, samesB l m = true → l.length = m.length
  | [], [], _ => rfl
  | x :: r, y :: s, h => by simp only [samesB, Bool.and_eq_true] at h; simp [samesB_length h.2]
  | [], _ :: _, h => by simp [samesB] at h
  | _ :: _, [], h => by simp [samesB] at h

theorem sameB_self (a : Tm) : sameB a a = true := by
  induction a using Tm.ind with
  | h a ih =>
    rw [sameB_eq]
    have key : ∀ (l : List Tm), (∀ x ∈ l, sameB x x = true) → samesB l l = true := by
      intro l
      induction l with
      | nil => intro _; simp [samesB]
      | cons x r ihl => intro hx; simp only [samesB, hx x List.mem_cons_self, Bool.true_and]; exact ihl (fun z hz => hx z (List.mem_cons_of_mem _ hz))
    simp [key a.kids ih]

theorem sames_take : ∀ (l m : List Tm) (k : Nat) (h : k < l.length) (h' : k < m.length), samesB (l.take (k + 1)) (m.take (k + 1)) = (samesB (l.take k) (m.take k) && sameB l[k] m[k])
  | x :: r, y :: s, 0, _, _ => by simp [samesB]
  | x :: r, y :: s, k + 1, h, h' => by
    simp only [List.take_succ_cons, samesB, List.getElem_cons_succ]
    rw [sames_take r s k (by simpa using h) (by simpa using h'), Bool.and_assoc]

theorem sames_of : ∀ (l m : List Tm) (k : Nat) (h : k < l.length) (h' : k < m.length), sameB l[k] m[k] = false → samesB l m = false
  | x :: r, y :: s, 0, _, _, hs => by simp only [List.getElem_cons_zero] at hs; simp [samesB, hs]
  | x :: r, y :: s, k + 1, h, h', hs => by
    simp only [List.getElem_cons_succ] at hs
    simp [samesB, sames_of r s k (by simpa using h) (by simpa using h') hs]

theorem sames_ne {l m : List Tm} (h : l.length ≠ m.length) : samesB l m = false := by
  cases hs : samesB l m with
  | false => rfl
  | true => exact absurd (samesB_length hs) h

/-- Two boxed terms, and what is new beside them. -/
def Held2 (w : World) (a : Tm) (s : Value) (b : Tm) (r : Value) (w' : World) : Prop := Below (w.heap.size + 2) ((w.alloc (boxOf a s)).alloc (boxOf b r)) w'

theorem held2_start (w : World) (a : Tm) (s : Value) (b : Tm) (r : Value) : Held2 w a s b r ((w.alloc (.cells #[.int .i64 a.k, .int .i64 a.i, .int .i64 a.j, .int .i64 a.n, s] 26)).alloc (.cells #[.int .i64 b.k, .int .i64 b.i, .int .i64 b.j, .int .i64 b.n, r] 26)) := Below.refl _ _
theorem held2_first {w w' : World} {a b : Tm} {s r : Value} (h : Held2 w a s b r w') : Held w a s w' := by
  unfold Held2 at h; unfold Held
  exact ((Below.refl _ _).alloc (by simp) _).trans (h.mono (by omega))
theorem held2_call {w w1 w2 : World} {a b : Tm} {s r : Value} (h : Held2 w a s b r w1) (hb : Below w1.heap.size w1 w2) : Held2 w a s b r w2 :=
  below_call h hb (by have := h.size; simpa using this)
theorem held2_below {w w1 : World} {a b : Tm} {s r : Value} (h : Held2 w a s b r w1) : Below w.heap.size w w1 := held_below (held2_first h)
theorem held2_lies {w w1 : World} {a b : Tm} {s r s' : Value} {l : List Tm} (h : Held2 w a s b r w1) (hl : Lies w l s') : Lies w1 l s' := hl.keep (held2_below h)
end Go.Proofs.YtllkackipdcekaaDoor

namespace Go.Proofs.YtllkackipdcekaaDoor
open Go.RowKit

def Tm.freeB (t : Tm) : Int := if t.rightB then t.freeN else 0

set_option maxHeartbeats 800000 in
theorem right_any (t : Tm) (w : World) (s : Value) (hl : Lies w t.kids s) : Calls Tryd.prog 36 #[tv t s] w fun e w' => e = .returned (.bool t.rightB) ∧ Below w.heap.size w w' := by
  obtain ⟨a, cap, S, hs, -⟩ := hl.out
  subst hs
  have HB := (Below.refl (w.heap.size + 1) (w.alloc (.cells #[.int .i64 t.k, .int .i64 t.i, .int .i64 t.j, .int .i64 t.n, .slice a t.kids.length cap] 26)))
  have HL := Lib.hid (hl.keep (below_of_box HB))
  have HBX := Lib.hid (fun (wr : World) => box_cells (w := w) (wr := wr) (v0 := .int .i64 t.k) (v1 := .int .i64 t.i) (v2 := .int .i64 t.j) (v3 := .int .i64 t.n) (v4 := .slice a t.kids.length cap) (T := 26))
  clear hl
  unfold tv
  go_enter Tryd.func36, Tryd.ntmps36
  go_wp2_with fail
  refine (sorts_any t _ _ HL.out).mono ?_
  rintro e w' ⟨he, hb'⟩
  have HB2 := below_call HB hb' (by simp)
  obtain ⟨d0, d1, d2, d3, d4⟩ := HBX.out _ HB2
  clear hb'
  obtain ⟨t1, t2, t3, t4, t5, t6, t7, t8⟩ := bits_table
  cases hm : t.markedB <;> cases hp : t.plainB
  all_goals
    simp [Tm.sortsN, hm, hp] at he
    subst he
    go_wp2
    go_ret
    exact ⟨ret_bool (by simp [Tm.rightB, hm, hp]), below_of_box HB2⟩

set_option maxHeartbeats 800000 in
theorem Free_any (t : Tm) (w : World) (s : Value) (hl : Lies w t.kids s) : Calls Tryd.prog 37 #[tv t s] w fun e w' => e = .returned (.int .i64 t.freeB) ∧ Below w.heap.size w w' := by
  obtain ⟨a, cap, S, hs, -⟩ := hl.out
  subst hs
  have HB := (Below.refl (w.heap.size + 1) (w.alloc (.cells #[.int .i64 t.k, .int .i64 t.i, .int .i64 t.j, .int .i64 t.n, .slice a t.kids.length cap] 26)))
  have HL := Lib.hid (hl.keep (below_of_box HB))
  have HBX := Lib.hid (fun (wr : World) => box_cells (w := w) (wr := wr) (v0 := .int .i64 t.k) (v1 := .int .i64 t.i) (v2 := .int .i64 t.j) (v3 := .int .i64 t.n) (v4 := .slice a t.kids.length cap) (T := 26))
  have hl0 := Lib.hid hl
  clear hl
  unfold tv
  go_enter Tryd.func37, Tryd.ntmps37
  go_wp2_with fail
  refine (right_any t _ _ HL.out).mono ?_
  rintro e w' ⟨rfl, hb'⟩
  have HB2 := below_call HB hb' (by simp)
  obtain ⟨d0, d1, d2, d3, d4⟩ := HBX.out _ HB2
  clear hb'
  have HL2 := Lib.hid (hl0.out.keep (below_of_box HB2))
  cases hr : t.rightB
  · go_wp2
    go_ret
    exact ⟨ret_int (by simp [Tm.freeB, hr]), below_of_box HB2⟩
  · go_wp2_with fail
    refine (free_any t _ _ HL2.out hr).mono ?_
    rintro e w2 ⟨rfl, hb'⟩
    have HB3 := below_call HB2 hb' (by have := HB2.size; simpa using this)
    clear hb'
    go_wp2
    go_ret
    exact ⟨ret_int (by simp [Tm.freeB, hr]), below_of_box HB3⟩

end Go.Proofs.YtllkackipdcekaaDoor

namespace Go.Proofs.YtllkackipdcekaaDoor
open Go.Lib

mutual
/-- The text of a term in a scope of m names. -/
def Tm.wr : Tm → Int → List UInt8
  | .mk k i j n l, m => if k = 2 then nameW (m - 1 - i) else 40 :: (headL k ++ (frontL k i j n m ++ (wrs k 0 l m ++ [41])))
def wrs (k : Int) : Nat → List Tm → Int → List UInt8
  | _, [], _ => []
  | p, t :: r, m => midL k p m ++ (32 :: (t.wr (m + bindsN k p) ++ wrs k (p + 1) r m))
end
theorem Tm.wr_eq (t : Tm) (m : Int) : t.wr m = if t.k = 2 then nameW (m - 1 - t.i) else 40 :: (headL t.k ++ (frontL t.k t.i t.j t.n m ++ (wrs t.k 0 t.kids m ++ [41]))) := by cases t; rfl

/-- Behind a word: nothing, a blank or a closing bracket. -/
def DelW (r : List UInt8) : Prop := ∀ c, r.head? = some c → c = 32 ∨ c = 41
theorem del_nil : DelW [] := fun _ h => by cases h
theorem del_32 (r : List UInt8) : DelW (32 :: r) := fun c h => Or.inl (by simpa using h.symm)
theorem del_41 (r : List UInt8) : DelW (41 :: r) := fun c h => Or.inr (by simpa using h.symm)
theorem mid_del {k : Int} {p : Nat} {m : Int} {r : List UInt8} (h : DelW r) : DelW (midL k p m ++ r) := by
  unfold midL
  split
  · exact del_32 _
  · exact h
theorem wrs_del (k : Int) : ∀ (l : List Tm) (p : Nat) (m : Int) (r : List UInt8), DelW (wrs k p l m ++ 41 :: r)
  | [], p, m, r => del_41 _
  | t :: l, p, m, r => by
    simp only [wrs, List.append_assoc]
    exact mid_del (del_32 _)
theorem if_del {p : Prop} [Decidable p] {x r : List UInt8} (h : DelW r) : DelW ((if p then 32 :: x else []) ++ r) := by
  split
  · exact del_32 _
  · exact h
theorem lvl_del {k i j : Int} {r : List UInt8} (h : DelW r) : DelW (lvlL k i j ++ r) := by
  unfold lvlL
  split
  · exact del_32 _
  · split
    · exact del_32 _
    · exact h
theorem front_del {k i j n m : Int} {r : List UInt8} (h : DelW r) : DelW (frontL k i j n m ++ r) := by
  unfold frontL
  rw [List.append_assoc, List.append_assoc]
  exact if_del (lvl_del (if_del h))
theorem right_kind {t : Tm} (h : t.rightB = true) : 1 ≤ t.k ∧ t.k ≤ 23 := Tm.node_kind (t.right_node h)
theorem right_length {t : Tm} (h : t.rightB = true) : (t.kids.length : Int) = kidsN t.k t.n := by
  have := t.right_node h
  rw [Tm.nodeB, Bool.and_eq_true] at this
  simpa using this.1
theorem right_numbers {t : Tm} (h : t.rightB = true) : numbersN t.k t.i t.j t.n = true := by
  have := t.right_node h
  rw [Tm.nodeB, Bool.and_eq_true] at this
  exact this.2
theorem given_range {n : Int} (h : 0 ≤ givenN n) : 1 ≤ n ∧ n ≤ 21 := by
  unfold givenN at h
  (repeat' split at h) <;> omega
theorem wr_some (a : Tm) (m : Int) : a.wr m ≠ [] := by
  rw [Tm.wr_eq]
  split
  · simp [nameW]
  · simp
/-- What Write hands back. -/
def writeB (t : Tm) (n : Int) : List UInt8 := if (0 ≤ n ∧ n ≤ 1000000) ∧ t.rightB = true ∧ t.freeB ≤ n then t.wr n else []
end Go.Proofs.YtllkackipdcekaaDoor

namespace Go.Proofs.YtllkackipdcekaaDoor
open Go.Lib

def Fit (x : Int) : Prop := -9223372036854775808 ≤ x ∧ x ≤ 9223372036854775807
theorem name_len {n : Int} (h : Fit n) : (nameW n).length ≤ 22 := by
  have := itoa_length_le n h.1 h.2
  unfold nameW; simp only [List.length_cons]; omega
theorem word_len {l : List (List UInt8)} {c : Nat} (h : (l.all fun x => decide (x.length ≤ c)) = true) (i : Nat) : ((l[i]?).getD []).length ≤ c := by
  cases e : l[i]? with
  | none => simp
  | some x => simpa using (List.all_eq_true.1 h) x (List.mem_of_getElem? e)
theorem sym_len (n : Int) : (symL n).length ≤ 6 := by
  unfold symL
  split
  · exact word_len (by decide) _
  · simp
theorem head_len (k : Int) : (headL k).length ≤ 4 := word_len (by decide) _
theorem front_len {k i j n m : Int} (hi : Fit i) (hj : Fit j) (hm : Fit m) : (frontL k i j n m).length ≤ 74 := by
  have a := itoa_length_le i hi.1 hi.2
  have b := itoa_length_le j hj.1 hj.2
  have c := name_len hm
  have d := sym_len n
  unfold frontL lvlL
  simp only [List.length_append]
  have e1 : (if k = 23 then 32 :: symL n else []).length ≤ 7 := by split <;> simp <;> omega
  have e2 : (if levelsN k = 1 then 32 :: itoa i else if levelsN k = 2 then 32 :: (itoa i ++ 32 :: itoa j) else []).length ≤ 44 := by (repeat' split) <;> simp <;> omega
  have e3 : (if 0 < bindsN k 1 then 32 :: nameW m else []).length ≤ 23 := by split <;> simp <;> omega
  omega
theorem wrs_len (k m : Int) (h0 : 0 ≤ m) (h1 : m ≤ 1000000000000000000) : ∀ (l : List Tm) (p : Nat), (∀ x ∈ l, ∀ b : Int, 0 ≤ b → b ≤ 2 → x.freeN - b ≤ m → (x.wr (m + b)).length + 1 ≤ 100 * x.size) → frees k p l ≤ m →
    (wrs k p l m).length ≤ 100 * sizes l + (if k = 22 ∧ p ≤ 2 then 46 else 0)
  | [], p, _, _ => by simp [wrs]
  | x :: r, p, hl, hf => by
    simp only [frees] at hf
    have hb := binds_range k p
    have hx := hl x List.mem_cons_self (bindsN k p) hb.1 hb.2 (by omega)
    have ih := wrs_len k m h0 h1 r (p + 1) (fun y hy => hl y (List.mem_cons_of_mem _ hy)) (by omega)
    have a := name_len (n := m) ⟨by omega, by omega⟩
    have b := name_len (n := m + 1) ⟨by omega, by omega⟩
    simp only [wrs, sizes, List.length_append, List.length_cons]
    have hm : (midL k p m).length ≤ if k = 22 ∧ p = 2 then 46 else 0 := by
      unfold midL
      split
      · simp only [List.length_append, List.length_cons]; omega
      · simp
    by_cases hk : k = 22
    · by_cases h2 : p = 2
      · rw [if_pos ⟨hk, h2⟩] at hm
        rw [if_neg (by omega)] at ih
        rw [if_pos ⟨hk, by omega⟩]
        omega
      · rw [if_neg (by omega)] at hm
        by_cases h3 : p ≤ 2
        · rw [if_pos ⟨hk, by omega⟩] at ih
          rw [if_pos ⟨hk, h3⟩]
          omega
        · rw [if_neg (by omega)] at ih
          rw [if_neg (by omega)]
          omega
    · rw [if_neg (by omega)] at hm ih ⊢
      omega
theorem right_fit {t : Tm} (h : t.rightB = true) : Fit t.i ∧ Fit t.j := by
  have hn := t.right_node h
  simp only [Tm.nodeB, Bool.and_eq_true] at hn
  have h2 := hn.2
  unfold numbersN levelB at h2
  unfold Fit
  (repeat' split at h2) <;> simp only [Bool.and_eq_true, decide_eq_true_eq, beq_iff_eq] at h2 <;> omega
theorem wsize_mem {l : List Tm} {x : Tm} (h : x ∈ l) : x.size ≤ sizes l := by
  induction l with
  | nil => cases h
  | cons a r ih =>
    simp only [sizes]
    rcases List.mem_cons.1 h with rfl | h
    · omega
    · have := ih h; omega
theorem wr_len (t : Tm) : ∀ m : Int, t.rightB = true → 0 ≤ m → t.freeN ≤ m → m + 2 * t.size ≤ 1000000000000000000 → (t.wr m).length + 1 ≤ 100 * t.size := by
  induction t using Tm.ind with
  | h t ih =>
    intro m hr h0 hf hs
    have hz := t.size_eq
    rw [t.wr_eq]
    rw [t.freeN_eq] at hf
    split
    · rename_i h2
      rw [if_pos h2] at hf
      have hv := t.right_var hr h2
      have := name_len (n := m - 1 - t.i) ⟨by omega, by omega⟩
      omega
    · rename_i h2
      rw [if_neg h2] at hf
      have hfi := right_fit hr
      have a := head_len t.k
      have b := front_len (k := t.k) (n := t.n) hfi.1 hfi.2 (m := m) ⟨by omega, by omega⟩
      have c := wrs_len t.k m h0 (by omega) t.kids 0 (fun x hx q q0 q2 hq => ih x hx (m + q) (t.right_kids hr x hx) (by omega) (by omega) (by have := wsize_mem hx; omega)) hf
      simp only [List.length_append, List.length_cons, List.length_nil]
      by_cases hk : t.k = 22
      · have b' : (frontL t.k t.i t.j t.n m).length = 0 := by rw [hk]; unfold frontL lvlL levelsN bindsN; simp
        rw [if_pos ⟨hk, by omega⟩] at c
        omega
      · rw [if_neg (by omega)] at c
        omega
theorem wrs_take (k m : Int) (l : List Tm) (p q : Nat) (h : q < l.length) : wrs k p (l.take (q + 1)) m = wrs k p (l.take q) m ++ (midL k (p + q) m ++ 32 :: (l[q]).wr (m + bindsN k ((p + q : Nat) : Int))) := by
  induction l generalizing p q with
  | nil => simp at h
  | cons a r ih =>
    cases q with
    | zero => simp [wrs]
    | succ q => simp only [List.take_succ_cons, wrs, List.getElem_cons_succ]; rw [ih (p + 1) q (by simpa using h), show p + 1 + q = p + (q + 1) by omega]; simp
theorem frees_take_le (k : Int) (l : List Tm) (p q : Nat) : frees k p (l.take q) ≤ frees k p l := by
  induction l generalizing p q with
  | nil => simp
  | cons a r ih =>
    cases q with
    | zero => simp only [List.take_zero]; exact frees_nonneg k (a :: r) p
    | succ q => simp only [List.take_succ_cons, frees]; have := ih (p + 1) q; omega
theorem kid_free {k m : Int} {l : List Tm} {q : Nat} (hf : frees k 0 l ≤ m) (h : q < l.length) : (l[q]).freeN ≤ m + bindsN k q := by
  have h1 := frees_take k l 0 q h
  have h2 := frees_take_le k l 0 (q + 1)
  rw [Nat.zero_add] at h1
  omega
theorem kid_size {t : Tm} {q : Nat} (h : q < t.kids.length) : sizes (t.kids.take q) + (t.kids[q]).size + 1 ≤ t.size := by
  have h1 := sizes_take t.kids q h
  have h2 := sizes_le t.kids (q + 1)
  have := t.size_eq
  omega
/-- There is room for a kid. -/
theorem put_room {t : Tm} {m : Int} (hr : t.rightB = true) (h0 : 0 ≤ m) (hf : frees t.k 0 t.kids ≤ m) (hs : m + 2 * t.size ≤ 1000000000000000000) {q : Nat} (h : q < t.kids.length) :
    1 + (headL t.k).length + (frontL t.k t.i t.j t.n m).length + (wrs t.k 0 (t.kids.take q) m).length + (midL t.k q m).length + 1 + 100 * (t.kids[q]).size ≤ 100 * t.size := by
  have hfi := right_fit hr
  have a := head_len t.k
  have b := front_len (k := t.k) (n := t.n) hfi.1 hfi.2 (m := m) ⟨by omega, by omega⟩
  have hk := kid_size h
  have c := wrs_len t.k m h0 (by omega) (t.kids.take q) 0 (fun x hx b b0 b2 hb => by
    have hx' := List.mem_of_mem_take hx
    exact wr_len x (m + b) (t.right_kids hr x hx') (by omega) (by omega) (by have := wsize_mem hx'; have := t.size_eq; omega)) (by have := frees_take_le t.k t.kids 0 q; omega)
  have d1 := name_len (n := m) ⟨by omega, by omega⟩
  have d2 := name_len (n := m + 1) ⟨by omega, by omega⟩
  by_cases h22 : t.k = 22
  · have b' : (frontL t.k t.i t.j t.n m).length = 0 := by rw [h22]; unfold frontL lvlL levelsN bindsN; simp
    have e : (midL t.k q m).length ≤ 46 := by unfold midL; split <;> simp <;> omega
    have c' : (wrs t.k 0 (t.kids.take q) m).length ≤ 100 * sizes (t.kids.take q) + 46 := by split at c <;> omega
    omega
  · have e : (midL t.k q m).length = 0 := by unfold midL; rw [if_neg (by omega)]; rfl
    rw [if_neg (by omega)] at c
    omega
end Go.Proofs.YtllkackipdcekaaDoor

namespace Go.Proofs.YtllkackipdcekaaDoor
open Go.RowKit Go.Lib

/-- The library's table stays as it is whatever is made. -/
def Tab (w : World) : Prop := TabBelow Tryd.prog w.heap.size w "internal/strconv.uint64pow10" .u64 pow10Tab
theorem Tab.later {w w' : World} (h : Tab w) (hb : Below w.heap.size w w') : Tab w' := fun _ h2 => TabBelow.here (TabBelow.on h (hb.trans (h2.mono hb.size)))
/-- A variable that holds just these texts. -/
def StrIs (w : World) (name : String) (ss : List (List UInt8)) : Prop := w.var? Tryd.prog name = some (ss.map fun s => Value.string ⟨s.toArray⟩).toArray
theorem StrIs.cell {W : World} {name : String} {ss : List (List UInt8)} {g : Nat} (h : StrIs W name ss) (hg : Tryd.prog.globalNamed name = some g) (i : Nat) (hi : i < ss.length) : W.cell? ⟨g, i, none⟩ = some (.string ⟨(ss[i]).toArray⟩) := by
  have := World.var?_cell hg h i
  simpa [hi] using this
theorem StrIs.on {w w' : World} {name : String} {ss : List (List UInt8)} (h : StrIs w name ss) (hb : Below w.heap.size w w') : StrIs w' name ss := by
  unfold StrIs World.var? at *
  cases hg : Tryd.prog.globalNamed name with
  | none => simp [hg] at h
  | some g =>
    simp only [hg, Option.bind_some] at h ⊢
    have hlt : g < w.heap.size := by
      rcases Nat.lt_or_ge g w.heap.size with h' | h'
      · exact h'
      · rw [Array.getElem?_eq_none h'] at h; simp at h
    rw [hb.block g hlt]
    exact h
/-- What a text of a term is written from. -/
structure WTab (w : World) : Prop where
  pow : Tab w
  syms : StrIs w "tranship/read.symbols" symsW
  heads : StrIs w "tranship/write.heads" headsW
theorem WTab.later {w w' : World} (h : WTab w) (hb : Below w.heap.size w w') : WTab w' := ⟨h.pow.later hb, h.syms.on hb, h.heads.on hb⟩
theorem WTab.heads_cell {w : World} (h : WTab w) (k : Int) (h0 : 0 ≤ k) (h1 : k < 24) : w.cell? ⟨1, k.toNat, none⟩ = some (.string ⟨(headL k).toArray⟩) := by
  have := h.heads.cell (g := 1) (by kernel_rfl) k.toNat (by show _ < 24; omega)
  rw [this]; unfold headL; rw [List.getElem?_eq_getElem (by show _ < 24; omega)]; rfl

theorem put_any (n : Int) (w : World) (hn : I64 n) (hT : Tab w) : Calls Tryd.prog 60 #[.int .i64 n] w fun e w' => e = .returned (.string ⟨(itoa n).toArray⟩) ∧ Below w.heap.size w w' := by
  have HC := Lib.hid (Tryd.strconv_Itoa n hn.1 hn.2 w (TabBelow.here hT))
  clear hn hT
  go_enter Tryd.func60, Tryd.ntmps60
  go_wp2_with fail
  refine HC.out.mono ?_
  rintro e w' ⟨rfl, k, os, rfl⟩
  go_wp2
  go_ret
  exact ⟨rfl, below_grow _ _ (Nat.le_refl _) _ _⟩
theorem str_add (a b : List UInt8) : (⟨a.toArray⟩ : ByteArray) ++ (⟨b.toArray⟩ : ByteArray) = ⟨(a ++ b).toArray⟩ := by
  apply ByteArray.ext; simp
theorem name_any (n : Int) (w : World) (hn : I64 n) (hT : Tab w) : Calls Tryd.prog 40 #[.int .i64 n] w fun e w' => e = .returned (.string ⟨(nameW n).toArray⟩) ∧ Below w.heap.size w w' := by
  have HC := Lib.hid (put_any n w hn hT)
  have HL := Lib.hid (itoa_length_le n hn.1 hn.2)
  clear hn hT
  go_enter Tryd.func40, Tryd.ntmps40
  go_wp2_with fail
  refine HC.out.mono ?_
  rintro e w' ⟨rfl, hb⟩
  go_wp2
  · exfalso; have := HL.out; omega
  go_ret
  exact ⟨by rw [show (⟨#[118]⟩ : ByteArray) = ⟨[(118 : UInt8)].toArray⟩ from rfl, str_add]; rfl, hb⟩
set_option maxHeartbeats 1000000 in
theorem levels_any (k : Int) (w : World) : Calls Tryd.prog 59 #[.int .i64 k] w fun e w' => e = .returned (.int .i64 (levelsN k)) ∧ w = w' := by
  go_enter Tryd.func59, Tryd.ntmps59
  go_wp2
  all_goals go_ret
  all_goals exact ⟨ret_int (by simp only [beq_iff_eq, beq_eq_false_iff_ne, ne_eq] at *; unfold levelsN; (repeat' split) <;> omega), rfl⟩
theorem rname_any (n : Int) (w : World) (hT : WTab w) : Calls Tryd.prog 18 #[.int .i64 n] w fun e w' => e = .returned (.string ⟨(symL n).toArray⟩) ∧ w = w' := by
  by_cases h : 1 ≤ n ∧ n ≤ 21
  · obtain ⟨m, rfl⟩ : ∃ m : Nat, n = (m : Int) + 1 := ⟨(n - 1).toNat, by omega⟩
    have hm : m < 21 := by omega
    have hc := hT.syms.cell (g := 0) (by kernel_rfl) m hm
    have e1 : decide ((m : Int) + 1 < 1) = false := by simp; omega
    have e2 : decide (21 < (m : Int) + 1) = false := by simp; omega
    have HE := Lib.hid (show symL ((m : Int) + 1) = symsW[m]'hm from by
      unfold symL
      rw [if_pos h, show ((m : Int) + 1 - 1).toNat = m by omega, List.getElem?_eq_getElem hm]; rfl)
    clear hT h
    go_enter Tryd.func18, Tryd.ntmps18
    go_wp2
    all_goals go_ret
    all_goals exact ⟨by rw [HE.out]; rfl, rfl⟩
  · have HE := Lib.hid (show symL n = [] from if_neg h)
    clear hT
    go_enter Tryd.func18, Tryd.ntmps18
    go_wp2
    all_goals go_ret
    all_goals first | exact ⟨by rw [HE.out]; rfl, rfl⟩ | (exfalso; simp only [beq_iff_eq, decide_eq_true_eq, decide_eq_false_iff_not] at *; omega)
end Go.Proofs.YtllkackipdcekaaDoor

namespace Go.Proofs.YtllkackipdcekaaDoor
open Go.RowKit

theorem bl_size : (Tryd.prog.info? 61).map (·.size) = some 2 := by kernel_rfl
theorem bl_lies : liesAt Tryd.prog Tryd.prog.depth 61 (2 / Tryd.prog.cellsOf 61) 0 61 1 = true := by kernel_rfl
theorem bl_byte : (Tryd.prog.info? 5).map (fun i => (i.zero, i.size, i.bytes)) = some (some (.int .u8 0), 1, 1) := by kernel_rfl
theorem bl_cells : Tryd.prog.cellsOf 5 = 1 := by kernel_rfl
abbrev BAt (B b : Nat) (p : Value) (bs : List Value) (w : World) : Prop := Lib.BuilderAt 61 5 B b p bs w
abbrev IsB (B b : Nat) (bs : List Value) (w : World) : Prop := Lib.IsBuilder 61 5 B b bs w

/-- What is no row of bytes and not the builder stays. -/
def Kept (b : Nat) (w w' : World) : Prop := ∀ j o, w.heap[j]? = some o → j ≠ b → (∀ cur fz, o ≠ .cells cur 5 fz) → w'.heap[j]? = some o
theorem Kept.refl (b : Nat) (w : World) : Kept b w w := fun _ _ h _ _ => h
theorem Kept.trans {b : Nat} {w w1 w2 : World} (h : Kept b w w1) (k : Kept b w1 w2) : Kept b w w2 := fun j o h1 h2 h3 => k j o (h j o h1 h2 h3) h2 h3
theorem Kept.below {b : Nat} {w w' : World} (h : Below w.heap.size w w') : Kept b w w' := fun j o h1 _ _ => by
  rw [h.block j (by rcases Nat.lt_or_ge j w.heap.size with h' | h'; exact h'; rw [Array.getElem?_eq_none h'] at h1; cases h1)]; exact h1
theorem Kept.alloc (b : Nat) (w : World) (o : Obj) : Kept b w (w.alloc o) := Kept.below ((Below.refl _ w).alloc (Nat.le_refl _) o)
theorem Kept.setCell {b : Nat} {w w' : World} (h : Kept b w w') (i : Nat) (v : Value) : Kept b w (w'.setCell ⟨b, i, none⟩ v) := fun j o h1 h2 h3 => by
  rw [Below.heap_setCell _ _ _ _ (by simpa using h2)]; exact h j o h1 h2 h3
theorem Kept.grown {B b n : Nat} {v : Value} {xs : List Value} {w w' : World} (h : w.grownBy w' v.ownBlock) (ho : w.ownsRow B 5 1 v n xs) : Kept b w w' := fun j o h1 _ h3 => by
  have hj : j < w.heap.size := by rcases Nat.lt_or_ge j w.heap.size with h' | h'; exact h'; rw [Array.getElem?_eq_none h'] at h1; cases h1
  rw [h.block j hj]
  · exact h1
  · intro e
    rcases ho.2 with ⟨rfl, _⟩ | ⟨g, cap, cur, rfl, _, hg, _⟩
    · cases e
    · obtain rfl := Option.some.inj e
      rw [h1] at hg
      exact h3 _ _ (Option.some.inj hg)
theorem bat_below {B b : Nat} {p : Value} {bs : List Value} {w w' : World} (h : BAt B b p bs w) (k : Below w.heap.size w w') : BAt B b p bs w' := by
  obtain ⟨hBb, v, hbk, hown, hne⟩ := h
  have lt : ∀ {j : Nat} {o : Obj}, w.heap[j]? = some o → j < w.heap.size := fun {j o} h1 => by rcases Nat.lt_or_ge j w.heap.size with h' | h'; exact h'; rw [Array.getElem?_eq_none h'] at h1; cases h1
  refine ⟨hBb, v, by rw [k.block _ (lt hbk)]; exact hbk, ⟨hown.1, ?_⟩, hne⟩
  rcases hown.2 with h0 | ⟨g, cap, cur, hv, hg, hh, r⟩
  · exact .inl h0
  · exact .inr ⟨g, cap, cur, hv, hg, by rw [k.block _ (lt hh)]; exact hh, r⟩
theorem isb_below {B b : Nat} {bs : List Value} {w w' : World} (h : IsB B b bs w) (k : Below w.heap.size w w') : IsB B b bs w' := h.elim (fun h => .inl (bat_below h k)) (fun h => .inr (bat_below h k))

set_option maxHeartbeats 1000000 in
set_option maxRecDepth 100000 in
theorem bcheck_any (B b : Nat) (bs : List Value) (w : World) (h : IsB B b bs w) : Calls Tryd.prog 79 #[.pointer (some ⟨b, 0, none⟩)] w fun e w' => e = .returned (.tuple #[]) ∧ BAt B b (.pointer (some ⟨b, 0, none⟩)) bs w' ∧ Below B w w' ∧ Kept b w w' := by
  obtain ⟨j, hj, hjs⟩ := Option.map_eq_some_iff.1 bl_size
  rcases h with h | h
  · have h0 := h.cell0
    have hsh := h.shape
    have hfz := h.frozen0
    have HH := Lib.hid h
    clear h
    go_enter Tryd.func79, Tryd.ntmps79
    go_wp2
    rw [Lib.run_to_unsafe w ⟨b, 0, none⟩ Tryd.underlying58 Tryd.underlying105 hj (by rw [hjs]; decide) hsh (Nat.zero_lt_succ 1)]
    simp only [Result.andThen]
    rw [Oper.upon_value]
    go_wp2
    rw [run_callFunc_extern Tryd.func92 (by kernel_rfl) (by kernel_rfl) (by kernel_rfl) (e := Extern.AbiNoEscape.same) (by kernel_rfl), Lib.run_noEscape]
    simp only [Result.andThen]
    rw [Oper.upon_value]
    go_wp2
    rw [Lib.run_from_unsafe w ⟨b, 0, none⟩ Tryd.underlying105 Tryd.underlying58 hj hsh bl_lies]
    simp only [Result.andThen]
    rw [Oper.upon_value]
    go_wp2
    go_end0
    exact ⟨rfl, HH.out.used _, (Below.refl B w).setCell (p := ⟨b, 0, none⟩) HH.out.1 _, (Kept.refl b w).setCell 0 _⟩
  · have h0 := h.cell0
    have HH := Lib.hid h
    clear h
    go_enter Tryd.func79, Tryd.ntmps79
    go_wp2
    rw [Lib.run_neq_ptr_same w _ Tryd.underlying58 hj]
    go_wp2
    go_end0
    exact ⟨rfl, HH.out, Below.refl B _, Kept.refl b _⟩

theorem bl_ne : (61 : TypeId) ≠ 5 := by decide
theorem bat_lt {B b : Nat} {p : Value} {bs : List Value} {w : World} (h : BAt B b p bs w) : b < w.heap.size := h.lt

set_option maxHeartbeats 2000000 in
set_option maxRecDepth 100000 in
theorem bstr_any (B b : Nat) (bs : List Value) (s : ByteArray) (w : World) (h : IsB B b bs w) (hlen : bs.length + s.size ≤ 140737488355328) (hB : B ≤ w.heap.size) :
    Calls Tryd.prog 58 #[.pointer (some ⟨b, 0, none⟩), .string s] w fun e w' => e = .returned (.tuple #[.int .i64 s.size, .nilIface]) ∧ BAt B b (.pointer (some ⟨b, 0, none⟩)) (bs ++ Lib.strCells s) w' ∧ Below B w w' ∧ Kept b w w' := by
  obtain ⟨i0, hi, hz0, hz1, hz2⟩ := info_parts bl_byte
  have HI := Lib.hid (And.intro hi (And.intro hz0 (And.intro hz1 hz2)))
  have HH := Lib.hid h
  clear h hi hz0 hz1 hz2
  go_enter Tryd.func58, Tryd.ntmps58
  go_wp2_with fail
  refine (bcheck_any B b bs _ HH.out).mono ?_
  rintro e w1 ⟨rfl, h1, hb1, hk1⟩
  have hlt := bat_lt h1
  obtain ⟨hBb, v, hbk, hown, hne⟩ := h1
  have c0 : w1.cell? ⟨b, 0, none⟩ = some (.pointer (some ⟨b, 0, none⟩)) := by rw [Lib.cell_of_heap hbk]; rfl
  have c1 : w1.cell? ⟨b, 1, none⟩ = some v := by rw [Lib.cell_of_heap hbk]; rfl
  have HO := Lib.hid hown
  have HK := Lib.hid hbk
  have HN := Lib.hid hne
  clear hown hbk hne
  go_wp2_with (at_builtin; refine Lib.wpList_append_own_string _ rfl _ _ 59 9 rfl B 5 i0 Tryd.underlying59 Tryd.underlying9 HI.out.1 HI.out.2.1 HI.out.2.2.1 HI.out.2.2.2 _ _ _ rfl HO.out s rfl ?c3 ?c4 ?c5 ?_)
  case c3 => unfold maxLen; omega
  case c4 => omega
  case c5 => have := hb1.size; omega
  intro v' w2 hown' hgrow _
  have hb2 : w2.heap[b]? = some (.cells #[.pointer (some ⟨b, 0, none⟩), v] 61 (0, 0)) := (hgrow.block b hlt (fun e => HN.out e.symm)).trans HK.out
  have d0 : w2.cell? ⟨b, 0, none⟩ = some (.pointer (some ⟨b, 0, none⟩)) := by rw [Lib.cell_of_heap hb2]; rfl
  have d1 : w2.cell? ⟨b, 1, none⟩ = some v := by rw [Lib.cell_of_heap hb2]; rfl
  have f1 : w2.frozen? ⟨b, 1, none⟩ = false := Lib.frozen_of_heap hb2 1
  obtain ⟨ao, n', cap, rfl⟩ : ∃ ao n' cap, v' = .slice ao n' cap := by
    rcases hown'.2 with ⟨hv, _⟩ | ⟨g, cap, cur, hv, _⟩
    · exact ⟨_, _, _, hv⟩
    · exact ⟨_, _, _, hv⟩
  have hkk : Kept b w w2 := hk1.trans (Kept.grown hgrow HO.out)
  have hkb : Below B w w2 := hb1.grown hgrow (by have := hb1.size; omega) (fun k hk => (HO.out.lt k hk).1)
  have HO2 := Lib.hid hown'
  have HB2 := Lib.hid hb2
  clear hown' hgrow hb2 c0 c1
  go_wp2
  go_ret2
  exact ⟨rfl, Lib.BuilderAt.put (T := 61) (e := 5) hBb HB2.out (bs' := bs ++ Lib.strCells s) (by simpa [Lib.strCells_length] using HO2.out) bl_ne, hkb.setCell (p := ⟨b, 1, none⟩) hBb _, hkk.setCell 1 _⟩

set_option maxHeartbeats 2000000 in
set_option maxRecDepth 100000 in
theorem bbyte_any (B b : Nat) (bs : List Value) (c : Int) (w : World) (h : IsB B b bs w) (hlen : bs.length + 1 ≤ 140737488355328) (hB : B ≤ w.heap.size) :
    Calls Tryd.prog 62 #[.pointer (some ⟨b, 0, none⟩), .int .u8 c] w fun e w' => e = .returned .nilIface ∧ BAt B b (.pointer (some ⟨b, 0, none⟩)) (bs ++ [.int .u8 c]) w' ∧ Below B w w' ∧ Kept b w w' := by
  obtain ⟨i0, hi, hz0, hz1, hz2⟩ := info_parts bl_byte
  have HI := Lib.hid (And.intro hi (And.intro hz0 (And.intro hz1 hz2)))
  have HH := Lib.hid h
  clear h hi hz0 hz1 hz2
  go_enter Tryd.func62, Tryd.ntmps62
  go_wp2_with fail
  refine (bcheck_any B b bs _ HH.out).mono ?_
  rintro e w1 ⟨rfl, h1, hb1, hk1⟩
  have hlt := bat_lt h1
  obtain ⟨hBb, v, hbk, hown, hne⟩ := h1
  have c0 : w1.cell? ⟨b, 0, none⟩ = some (.pointer (some ⟨b, 0, none⟩)) := by rw [Lib.cell_of_heap hbk]; rfl
  have c1 : w1.cell? ⟨b, 1, none⟩ = some v := by rw [Lib.cell_of_heap hbk]; rfl
  have HO := Lib.hid hown
  have HK := Lib.hid hbk
  have HN := Lib.hid hne
  clear hown hbk hne
  go_wp2_with (at_builtin; refine wpList_append_own _ rfl _ _ 59 rfl B 5 i0 (.int .u8 0) 1 1 Tryd.underlying59 HI.out.1 HI.out.2.1 HI.out.2.2.1 HI.out.2.2.2 rfl (by decide) _ _ _ rfl (HO.out.alloc _) ⟨w1.heap.size, 0, none⟩ 1 1 [.int .u8 c] rfl rfl ?c1 ?c2 ?c3 ?c4 ?c5 ?_)
  case c1 =>
    intro j u hj
    match j, hj with
    | 0, hj => simp at hj; subst hj; simp [Addr.add]
  case c2 => intro u hu; simp at hu; subst hu; rfl
  case c3 => unfold maxLen; omega
  case c4 => omega
  case c5 => have := hb1.size; simp; omega
  intro v' w2 hown' hgrow _
  have hb2 : w2.heap[b]? = some (.cells #[.pointer (some ⟨b, 0, none⟩), v] 61 (0, 0)) := by
    rw [hgrow.block b (by simp; omega) (fun e => HN.out e.symm), Lib.alloc_old w1 _ b hlt]
    exact HK.out
  have d0 : w2.cell? ⟨b, 0, none⟩ = some (.pointer (some ⟨b, 0, none⟩)) := by rw [Lib.cell_of_heap hb2]; rfl
  have d1 : w2.cell? ⟨b, 1, none⟩ = some v := by rw [Lib.cell_of_heap hb2]; rfl
  have f1 : w2.frozen? ⟨b, 1, none⟩ = false := Lib.frozen_of_heap hb2 1
  obtain ⟨g, cap, rfl⟩ : ∃ g cap, v' = .slice (some ⟨g, 0, none⟩) (bs.length + 1) cap := by
    rcases hown'.2 with ⟨_, h0⟩ | ⟨g, cap, cur, hv, _⟩
    · omega
    · exact ⟨g, cap, hv⟩
  have hkk : Kept b w w2 := (hk1.trans (Kept.alloc b w1 _)).trans (Kept.grown hgrow (HO.out.alloc _))
  have hkb : Below B w w2 := (hb1.alloc (by have := hb1.size; omega) _).grown hgrow (by have := hb1.size; simp; omega) (fun k hk => (HO.out.lt k hk).1)
  have HO2 := Lib.hid hown'
  have HB2 := Lib.hid hb2
  clear hown' hgrow hb2 c0 c1
  go_wp2
  go_ret
  exact ⟨rfl, Lib.BuilderAt.put (T := 61) (e := 5) hBb HB2.out (bs' := bs ++ [.int .u8 c]) (by simpa using HO2.out) bl_ne, hkb.setCell (p := ⟨b, 1, none⟩) hBb _, hkk.setCell 1 _⟩

set_option maxHeartbeats 2000000 in
set_option maxRecDepth 100000 in
/-- What a builder that holds a byte says. -/
theorem btext_any (B b : Nat) (p : Value) (l : List UInt8) (w : World) (h : BAt B b p (Lib.byteCells l) w) (h0 : l ≠ []) :
    Calls Tryd.prog 39 #[.pointer (some ⟨b, 0, none⟩)] w fun e w' => e = .returned (.string ⟨l.toArray⟩) ∧ Below B w w' := by
  obtain ⟨hBb, v, hbk, hown, hne⟩ := h
  have hl0 : l.length ≠ 0 := by simpa using h0
  rw [Lib.byteCells_length] at hown
  obtain ⟨g, cap, cur, rfl, hbg, hg, hnc, hcm, hcs, htake⟩ : ∃ g cap cur, v = .slice (some ⟨g, 0, none⟩) l.length cap ∧ B ≤ g ∧ w.heap[g]? = some (.cells cur 5 (0, 0)) ∧ l.length ≤ cap ∧ cap ≤ maxLen ∧ cur.size = cap * 1 ∧ cur.toList.take (l.length * 1) = Lib.byteCells l := by
    rcases hown.2 with ⟨_, hz⟩ | ⟨g, cap, cur, hv, r⟩
    · exact absurd hz hl0
    · exact ⟨g, cap, cur, hv, r⟩
  have hbd : w.drew.heap[b]? = some (.cells #[p, .slice (some ⟨g, 0, none⟩) l.length cap] 61 (0, 0)) := hbk
  have c1 : w.drew.cell? ⟨b, 1, none⟩ = some (.slice (some ⟨g, 0, none⟩) l.length cap) := by rw [Lib.cell_of_heap hbd]; rfl
  have hSD : (Builtin.unsafeSliceData_ #[59] 89 #[.slice (some ⟨g, 0, none⟩) l.length cap]).run Tryd.prog w.drew = .ok (.pointer (some ⟨g, 0, none⟩)) w.drew := Lib.run_unsafeSliceData_row _ _ _ _ _ _ (by omega)
  have hUS : (Builtin.unsafeString_ #[89, 3] 9 #[.pointer (some ⟨g, 0, none⟩), .int .i64 l.length]).run Tryd.prog w.drew = .ok (.string ⟨l.toArray⟩) (w.drew.freeze ⟨g, 0, none⟩ l.length) := by
    refine Lib.run_unsafeString_row w.drew 89 3 9 5 Tryd.underlying89 bl_cells g cur.size (by have hg' : w.drew.heap[g]? = some (.cells cur 5 (0, 0)) := hg; simp [World.shape?, hg']) l h0 (by omega) (by unfold maxLen at hcm; omega) ?_
    intro j x hx
    exact hown.cells (g := g) rfl j (.int .u8 x.toNat) (by simp [Lib.byteCells, hx])
  have HBG := Lib.hid hbg
  clear hown hne hbk hbd hg hnc hcm hcs htake hbg
  have mixed : Tryd.prog.follows .mixedOrders = true := by kernel_rfl
  go_enter Tryd.func39, Tryd.ntmps39
  go_wp2
  go_region_o
  all_goals (go_wp2; go_ret; exact ⟨rfl, Lib.below_freeze (Below.drew (Below.refl B w)) (p := ⟨g, 0, none⟩) HBG.out _⟩)
end Go.Proofs.YtllkackipdcekaaDoor

namespace Go.Proofs.YtllkackipdcekaaDoor
open Go.RowKit

/-- Beside the boxed term there is a builder that holds cs. -/
structure WSt (w0 : World) (b : Nat) (w : World) (cs : List Value) (wr : World) : Prop where
  bld : IsB w0.heap.size b cs wr
  low : Below w0.heap.size w0 wr
  kept : Kept b w wr
  up : Below w0.heap.size w wr
theorem WSt.size {w0 w wr : World} {b : Nat} {cs : List Value} (h : WSt w0 b w cs wr) : w.heap.size ≤ wr.heap.size := h.up.size
theorem WSt.call {w0 w wr wr' : World} {b : Nat} {cs : List Value} (h : WSt w0 b w cs wr) (k : Below wr.heap.size wr wr') : WSt w0 b w cs wr' :=
  ⟨isb_below h.bld k, h.low.trans (k.mono h.low.size), h.kept.trans (Kept.below k), h.up.trans (k.mono h.low.size)⟩
theorem WSt.put {w0 w wr wr' : World} {b : Nat} {cs cs' : List Value} (h : WSt w0 b w cs wr) (h1 : BAt w0.heap.size b (.pointer (some ⟨b, 0, none⟩)) cs' wr') (h2 : Below w0.heap.size wr wr') (h3 : Kept b wr wr') : WSt w0 b w cs' wr' :=
  ⟨.inr h1, h.low.trans h2, h.kept.trans h3, h.up.trans h2⟩
theorem WSt.tab {w0 w wr : World} {b : Nat} {cs : List Value} (h : WSt w0 b w cs wr) (hT : WTab w0) : WTab wr := hT.later h.low
theorem WSt.hB {w0 w wr : World} {b : Nat} {cs : List Value} (h : WSt w0 b w cs wr) : w0.heap.size ≤ wr.heap.size := h.low.size
theorem WSt.lies {w0 w wr : World} {b : Nat} {cs : List Value} {l : List Tm} {s : Value} (h : WSt w0 b w cs wr) (hl : Lies w0 l s) : Lies wr l s := hl.keep h.low
theorem IsB.lt {B b : Nat} {bs : List Value} {w : World} (h : IsB B b bs w) : b < w.heap.size := h.elim (fun h => h.lt) (fun h => h.lt)
theorem wst_start {w0 w : World} {b : Nat} {cs : List Value} (h : IsB w0.heap.size b cs w) (hl : Below w0.heap.size w0 w) (o : Obj) : WSt w0 b (w.alloc o) cs (w.alloc o) :=
  ⟨isb_below h ((Below.refl _ w).alloc (Nat.le_refl _) o), hl.alloc hl.size o, Kept.refl _ _, Below.refl _ _⟩
theorem ut_ne : (26 : TypeId) ≠ 5 := by decide
theorem WSt.cells {w0 w wr : World} {b : Nat} {cs : List Value} {t : Tm} {s : Value} (h : WSt w0 b (w.alloc (.cells #[.int .i64 t.k, .int .i64 t.i, .int .i64 t.j, .int .i64 t.n, s] 26)) cs wr) (hb : b < w.heap.size) :
    wr.cell? ⟨w.heap.size, 0, none⟩ = some (.int .i64 t.k) ∧ wr.cell? ⟨w.heap.size, 1, none⟩ = some (.int .i64 t.i) ∧ wr.cell? ⟨w.heap.size, 2, none⟩ = some (.int .i64 t.j) ∧
    wr.cell? ⟨w.heap.size, 3, none⟩ = some (.int .i64 t.n) ∧ wr.cell? ⟨w.heap.size, 4, none⟩ = some s := by
  have hq : wr.heap[w.heap.size]? = some (.cells #[.int .i64 t.k, .int .i64 t.i, .int .i64 t.j, .int .i64 t.n, s] 26) :=
    h.kept _ _ (by show (w.heap.push _)[w.heap.size]? = _; simp) (by omega) (fun cur fz e => by injection e with _ e2 _; exact ut_ne e2)
  refine ⟨?_, ?_, ?_, ?_, ?_⟩ <;> (rw [Lib.cell_of_heap hq]; rfl)
theorem WSt.at {w0 w wr : World} {b j : Nat} {cs : List Value} {vs : Array Value} {T : TypeId} {fr : Nat × Nat} (h : WSt w0 b w cs wr) (hj : w.heap[j]? = some (.cells vs T fr)) (hb : j ≠ b) (hT : T ≠ 5) : wr.heap[j]? = some (.cells vs T fr) :=
  h.kept _ _ hj hb (fun cur fz e => by injection e with _ e2 _; exact hT e2)
theorem WSt.again {w0 w wr : World} {b : Nat} {cs : List Value} (h : WSt w0 b w cs wr) : WSt w0 b wr cs wr := ⟨h.bld, h.low, Kept.refl _ _, Below.refl _ _⟩
theorem WSt.over {w0 w wr w8 : World} {b : Nat} {cs cs' : List Value} {o : Obj} (h : WSt w0 b w cs wr) (k : WSt w0 b (wr.alloc o) cs' w8) : WSt w0 b w cs' w8 := ⟨k.bld, k.low, h.kept.trans ((Kept.alloc b wr o).trans k.kept), (h.up.alloc h.hB o).trans k.up⟩
theorem alloc_heap_new (w : World) (o : Obj) : (w.alloc o).drew.heap[w.heap.size]? = some o := by show (w.heap.push _)[w.heap.size]? = _; simp
theorem alloc_heap_new' (w : World) (o : Obj) : (w.alloc o).heap[w.heap.size]? = some o := by show (w.heap.push _)[w.heap.size]? = _; simp
theorem ti_ne : (3 : TypeId) ≠ 5 := by decide
/-- The words of the levels, so far. -/
def lvP (i j : Int) : Nat → List UInt8
  | 0 => []
  | 1 => 32 :: Lib.itoa i
  | _ => 32 :: (Lib.itoa i ++ 32 :: Lib.itoa j)
theorem bytes_app (a : List Value) (x y : List UInt8) : (a ++ Lib.byteCells x) ++ Lib.byteCells y = a ++ Lib.byteCells (x ++ y) := by simp [Lib.byteCells]

set_option maxHeartbeats 2000000 in
set_option maxRecDepth 100000 in
theorem wput_var (w0 : World) (hW : WTab w0) (b : Nat) (t : Tm) (w : World) (s : Value) (bs : List Value) (m : Int) (hlw : Below w0.heap.size w0 w) (hB : IsB w0.heap.size b bs w) (hr : t.rightB = true) (h2 : t.k = 2) (h0 : 0 ≤ m) (hf : t.freeN ≤ m) (hm : m ≤ 1000000000000000000) (hbs : bs.length + 100 ≤ 140737488355328) :
    Calls Tryd.prog 38 #[.pointer (some ⟨b, 0, none⟩), tv t s, .int .i64 m] w fun e w' => e = .returned (.tuple #[]) ∧ BAt w0.heap.size b (.pointer (some ⟨b, 0, none⟩)) (bs ++ Lib.byteCells (t.wr m)) w' ∧ Below w0.heap.size w w' ∧ Kept b w w' := by
  have hv := t.right_var hr h2
  rw [t.freeN_eq, if_pos h2] at hf
  have HQ := Lib.hid (show t.wr m = nameW (m - 1 - t.i) by rw [t.wr_eq, if_pos h2])
  have e2 : (t.k == 2) = true := by simpa using h2
  have HS := Lib.hid (wst_start hB hlw (.cells #[.int .i64 t.k, .int .i64 t.i, .int .i64 t.j, .int .i64 t.n, s] 26))
  have HL := Lib.hid (name_len (n := m - 1 - t.i) ⟨by omega, by omega⟩)
  have HW := Lib.hid hW
  have HBS := Lib.hid hbs
  have hsw := hlw.size
  clear hB hlw hr h2 hW hbs
  unfold tv
  go_enter Tryd.func38, Tryd.ntmps38
  go_wp2_with fail
  refine (name_any (m - 1 - t.i) _ ⟨by omega, by omega⟩ (HS.out.tab HW.out).pow).mono ?_
  rintro e w1 ⟨rfl, hb1⟩
  have HS1 := Lib.hid (HS.out.call hb1)
  go_wp2_with fail
  refine (bstr_any _ b _ _ _ HS1.out.bld (by have := HL.out; have := HBS.out; simp [ByteArray.size]; omega) HS1.out.hB).mono ?_
  rintro e w2 ⟨rfl, hb2, hl2, hk2⟩
  have HS2 := Lib.hid (HS1.out.put hb2 hl2 hk2)
  have HB2 := Lib.hid hb2
  clear hb1 hb2 hl2 hk2
  go_wp2
  refine bodyPost_ret (results_none rfl _ _ _) rfl ?_
  exact ⟨rfl, by rw [HQ.out]; exact HB2.out, ((Below.refl _ w).alloc hsw _).trans HS2.out.up, (Kept.alloc b w _).trans HS2.out.kept⟩
end Go.Proofs.YtllkackipdcekaaDoor

namespace Go.Proofs.YtllkackipdcekaaDoor
open Go.RowKit

theorem yields_row {P : Program} {ops : Array Oper} {S : World → Prop} {oi : Oper} {a : Act} (g : Nat) (ty t : TypeId) (x : Operand) (cs : Array Value) (fr : Nat × Nat) (d : TypeDesc) (hw : Region.wanted oi (yielded ops a.tmps) = true) (ho : oi.op = .load ty x)
    (hx : a.eval x = .pointer (some ⟨g, 0, none⟩)) (hS : ∀ w, S w → w.heap[g]? = some (.cells cs t fr))
    (hu : P.underlying ty = some d) (hd : (match d with | .struct _ | .array _ _ => true | _ => false) = true) (hi : (P.info? ty).map (·.size) = some cs.size) : YieldsIf P ops S oi (.agg cs) a := by
  refine .inl ⟨hw, fun w h => ?_⟩
  have hr := run_loadVar_row (P := P) w g t ty cs fr d (hS w h) hu hd hi
  unfold execOp
  simp only [ho, hx, Instr.loadAt, Instr.sureAddr, Sem.run_bind, Sem.run_pure, Result.andThen_ok, hr]
end Go.Proofs.YtllkackipdcekaaDoor

namespace Go.Proofs.YtllkackipdcekaaDoor
open Go

theorem take_at {P : Program} {ops : Array Oper} {Q : Exit → Act → World → Prop} {md : Region.Mode} {S : World → Prop} (i d : Nat) (oi : Oper) {v : Value} {fuel : Nat} {listed : Array Bool} {a : Act} {w : World} (hy : YieldsIf P ops S oi v a)
    (h : wpAnyH P md ops Q S fuel (listed.setIfInBounds i true) (a.put (some d) v) w)
    (hi : ops[i]? = some oi := by rfl) (hd : oi.dst = some d := by rfl)
    (hs : Region.noSelect ops = true := by kernel_rfl) (hf : Region.free md ops listed i = true := by kernel_rfl) (hr : (Region.ready md ops listed).contains i = true := by kernel_rfl)
    (hQ : ∀ c a w, Q (.panic c) (a.put (some d) v) w → Q (.panic c) a w := by exact fun _ _ _ h => h) (hS : S w := by assumption) : wpAnyH P md ops Q S (fuel + 1) listed a w := by
  rw [← hd] at hQ h
  exact wpAnyH_take hi hs hf hr hQ hy hS h
end Go.Proofs.YtllkackipdcekaaDoor

namespace Go.Proofs.YtllkackipdcekaaDoor
open Go.RowKit

theorem under_termW : ∃ d, Tryd.prog.underlying 26 = some d ∧ (match d with | .struct _ | .array _ _ => true | _ => false) = true := by
  have h : (Tryd.prog.underlying 26).map (fun d => match d with | .struct _ | .array _ _ => true | _ => false) = some true := by kernel_rfl
  cases e : Tryd.prog.underlying 26 with
  | none => rw [e] at h; cases h
  | some d => rw [e] at h; exact ⟨d, rfl, Option.some.inj h⟩
theorem size_termW : (Tryd.prog.info? 26).map (·.size) = some 5 := by kernel_rfl
theorem rl_keep {w1 w' : World} {x : Nat} {v0 v1 v2 : Value} (hx : x < w1.heap.size) (d0 : w1.cell? ⟨x, 0, none⟩ = some v0) (d1 : w1.cell? ⟨x, 1, none⟩ = some v1) (d2 : w1.cell? ⟨x, 2, none⟩ = some v2) (h : Below w1.heap.size w1 w') :
    Below w1.heap.size w1 w' ∧ w'.cell? ⟨x, 0, none⟩ = some v0 ∧ w'.cell? ⟨x, 1, none⟩ = some v1 ∧ w'.cell? ⟨x, 2, none⟩ = some v2 := by
  have e := h.block x hx
  exact ⟨h, by rw [World.cell?_of_block e]; exact d0, by rw [World.cell?_of_block e]; exact d1, by rw [World.cell?_of_block e]; exact d2⟩
theorem kid_keep2 {b x y : Nat} {w6 w' : World} {k0 k1 k2 k3 k4 v0 v1 v2 v3 v4 : Value} (hy : w6.heap[y]? = some (.cells #[k0, k1, k2, k3, k4] 26)) (hz : w6.heap[x]? = some (.cells #[v0, v1, v2, v3, v4] 26)) (hb : y ≠ b ∧ x ≠ b) (h : Kept b w6 w') :
    Kept b w6 w' ∧ w'.heap[y]? = some (.cells #[k0, k1, k2, k3, k4] 26) ∧ w'.cell? ⟨x, 0, none⟩ = some v0 := by
  have a := h _ _ hy hb.1 (fun cur fz e => by injection e with _ e2 _; exact ut_ne e2)
  have c := h _ _ hz hb.2 (fun cur fz e => by injection e with _ e2 _; exact ut_ne e2)
  exact ⟨h, a, by rw [Lib.cell_of_heap c]; rfl⟩

def WPut (w0 : World) (b : Nat) (t : Tm) : Prop := ∀ (w : World) (s : Value) (bs : List Value) (m : Int), Lies w0 t.kids s → Below w0.heap.size w0 w → IsB w0.heap.size b bs w → t.rightB = true → 0 ≤ m → t.freeN ≤ m → m + 2 * t.size ≤ 1000000000000000000 → bs.length + 100 * t.size ≤ 140737488355328 →
    Calls Tryd.prog 38 #[.pointer (some ⟨b, 0, none⟩), tv t s, .int .i64 m] w fun e w' => e = .returned (.tuple #[]) ∧ BAt w0.heap.size b (.pointer (some ⟨b, 0, none⟩)) (bs ++ Lib.byteCells (t.wr m)) w' ∧ Below w0.heap.size w w' ∧ Kept b w w'
theorem WPut.use {w0 : World} {b : Nat} {t : Tm} (h : WPut w0 b t) (w : World) (s : Value) (bs : List Value) (m : Int) (h1 : Lies w0 t.kids s) (h2 : Below w0.heap.size w0 w) (h3 : IsB w0.heap.size b bs w) (h4 : t.rightB = true) (h5 : 0 ≤ m) (h6 : t.freeN ≤ m) (h7 : m + 2 * t.size ≤ 1000000000000000000) (h8 : bs.length + 100 * t.size ≤ 140737488355328) :
    Calls Tryd.prog 38 #[.pointer (some ⟨b, 0, none⟩), tv t s, .int .i64 m] w fun e w' => e = .returned (.tuple #[]) ∧ BAt w0.heap.size b (.pointer (some ⟨b, 0, none⟩)) (bs ++ Lib.byteCells (t.wr m)) w' ∧ Below w0.heap.size w w' ∧ Kept b w w' := h w s bs m h1 h2 h3 h4 h5 h6 h7 h8
end Go.Proofs.YtllkackipdcekaaDoor

namespace Go.Proofs.YtllkackipdcekaaDoor
open Go.RowKit

def o19A_0 : Oper := { dst := some 93, op := Go.Op.move (Go.Operand.tmp 0), type := 58, pos := "write.go:60", after := #[], guard := none }
def o19A_1 : Oper := { dst := some 94, op := Go.Op.load 26 (Go.Operand.tmp 9), type := 26, pos := "write.go:60", after := #[], guard := none }
def o19A_2 : Oper := { dst := some 95, op := Go.Op.move (Go.Operand.tmp 2), type := 3, pos := "write.go:60", after := #[], guard := none }
def o19A_3 : Oper := { dst := some 96, op := Go.Op.fieldAddr 26 (Go.Operand.tmp 4) 0, type := 0, pos := "write.go:60", after := #[], guard := none }
def o19A_4 : Oper := { dst := some 97, op := Go.Op.load 3 (Go.Operand.tmp 96), type := 3, pos := "write.go:60", after := #[{ on := 3, ground := Go.Ground.data }], guard := none }
def o19A_5 : Oper := { dst := some 98, op := Go.Op.move (Go.Operand.tmp 8), type := 3, pos := "write.go:60", after := #[], guard := none }
def o19A_6 : Oper := { dst := some 99, op := Go.Op.call { callee := Go.Callee.value (Go.Operand.func 61), args := #[Go.Operand.tmp 97, Go.Operand.tmp 98], argTypes := #[3, 3] }, type := 3, pos := "write.go:60", after := #[{ on := 4, ground := Go.Ground.data }, { on := 5, ground := Go.Ground.data }], guard := none }
def o19A_7 : Oper := { dst := some 100, op := Go.Op.binOp Go.BinOp.add 3 (Go.Operand.tmp 95) (Go.Operand.tmp 99) 3, type := 3, pos := "write.go:60", after := #[{ on := 2, ground := Go.Ground.data }, { on := 6, ground := Go.Ground.data }], guard := none }
def o19A_8 : Oper := { dst := some 101, op := Go.Op.call { callee := Go.Callee.value (Go.Operand.func 38), args := #[Go.Operand.tmp 93, Go.Operand.tmp 94, Go.Operand.tmp 100], argTypes := #[58, 26, 3] }, type := 0, pos := "write.go:60", after := #[{ on := 0, ground := Go.Ground.data }, { on := 1, ground := Go.Ground.data }, { on := 7, ground := Go.Ground.data }, { on := 6, ground := Go.Ground.chain }], guard := none }

set_option maxHeartbeats 4000000 in
set_option maxRecDepth 100000 in
theorem wput_A (w0 : World) (hW : WTab w0) (b : Nat) (t : Tm) (ih : ∀ x ∈ t.kids, WPut w0 b x) (e2 : (t.k == 2) = false) (e22 : (t.k == 22) = false) (e23 : (t.k == 23) = false) (hbd : bindsN t.k 1 = 0) (hlv : levelsN t.k = 1) : WPut w0 b t := by
  intro w s bs m hl hlw hB hr h0 hf hm hbs
  obtain ⟨a, cap, S, rfl, hc, hmx, hfi, hn, hk⟩ := hl.out
  have hkr := t.node_kind (t.right_node hr)
  have hfit := right_fit hr
  obtain ⟨du, hu1, hu2⟩ := under_termW
  have HX := Lib.hid (show t.wr m = 40 :: (headL t.k ++ (frontL t.k t.i t.j t.n m ++ (wrs t.k 0 t.kids m ++ [41]))) by rw [t.wr_eq, if_neg (by simpa using e2)])
  have HS := Lib.hid (wst_start hB hlw (.cells #[.int .i64 t.k, .int .i64 t.i, .int .i64 t.j, .int .i64 t.n, .slice a t.kids.length cap] 26))
  have HBL := Lib.hid hB.lt
  have HW := Lib.hid hW
  have HL := Lib.hid (wr_len t m hr h0 hf hm)
  have HLN := Lib.hid (show bs.length + (1 + (headL t.k).length + (frontL t.k t.i t.j t.n m).length + (wrs t.k 0 t.kids m).length + 1) ≤ 140737488355328 from by
    have := HL.out; rw [HX.out] at this; simp only [List.length_append, List.length_cons, List.length_nil] at this; omega)
  have HN := Lib.hid hn
  have HK := Lib.hid hk
  have HBS := Lib.hid hbs
  have HR := Lib.hid (t.right_kids hr)
  have HF := Lib.hid (by rw [t.freeN_eq, if_neg (by simpa using e2)] at hf; exact hf : frees t.k 0 t.kids ≤ m)
  have IH := Lib.hid ih
  have hh := (HS.out.tab HW.out).heads_cell t.k (by omega) (by omega)
  have HLV := Lib.hid hlv
  have HFR := Lib.hid (show frontL t.k t.i t.j t.n m = ([]) ++ (lvP t.i t.j 1 ++ ([])) from by
    have hq : ¬ t.k = 23 := by simpa using e23
    unfold frontL lvlL; simp [hlv, hbd, hq, lvP])
  have HRR := Lib.hid hr
  have HBD := Lib.hid hbd
  have HFM := Lib.hid (show Fit m from ⟨by omega, by omega⟩)
  have HFM1 := Lib.hid (show Fit (m + 1) from ⟨by omega, by omega⟩)
  have hsw := hlw.size
  clear hB hlw hr hW hbs hn hk hl hf ih hfi hlv hbd
  have hk0 : 0 ≤ t.k := by omega
  have hk1 : t.k < 24 := by omega
  unfold tv
  unfold maxLen at hmx
  go_enter Tryd.func38, Tryd.ntmps38
  go_wp2_with fail
  · exfalso; have := head_len t.k; omega
  rw [show (⟨#[40]⟩ : ByteArray) = ⟨[(40 : UInt8)].toArray⟩ from rfl, str_add]
  refine (bstr_any _ b _ _ _ HS.out.bld (by have := HLN.out; simp [ByteArray.size]; omega) HS.out.hB).mono ?_
  rintro e w1 ⟨rfl, hb1, hl1, hk1⟩
  have HS1 := Lib.hid (HS.out.put hb1 hl1 hk1)
  rw [Lib.strCells_toArray] at HS1
  obtain ⟨d0, d1, d2, d3, d4⟩ := HS1.out.cells HBL.out
  have hsz : w.heap.size < w1.heap.size := by have := HS1.out.size; rw [World.size_alloc] at this; omega
  clear hb1 hl1 hk1 hh
  go_wp2_with fail
  go_region_held3 (fun w' => Below w1.heap.size w1 w' ∧ w'.cell? ⟨w.heap.size, 0, none⟩ = some (.int .i64 t.k) ∧ w'.cell? ⟨w.heap.size, 1, none⟩ = some (.int .i64 t.i) ∧ w'.cell? ⟨w.heap.size, 2, none⟩ = some (.int .i64 t.j))
    (first | (refine rl_keep hsz d0 d1 d2 ?_; repeat (first | exact Below.refl _ _ | (with_reducible assumption) | exact (by assumption : _ ∧ _).1 | refine Below.drew ?_ | refine Below.alloc ?_ (Nat.le_refl _) _)) | go_keep)
    (first | (go_at_call 59; refine (levels_any _ _).mono ?_; rintro e wn ⟨rfl, rfl⟩; rw [HLV.out]))
  all_goals
    rename_i hHeld
    clear hHeld
    go_wp2_with fail
    obtain ⟨w2, hw2⟩ : ∃ w2, w2 = (w1.alloc (.cells #[.int .i64 t.i, .int .i64 t.j] 3)).drew := ⟨_, rfl⟩
    rw [← hw2]
    have HS2 := Lib.hid (HS1.out.call (wr' := w2) (by rw [hw2]; exact ((Below.refl _ w1).alloc (Nat.le_refl _) _).drew)).again
    have HBX2 := Lib.hid (show w2.heap[w.heap.size]? = some (.cells #[.int .i64 t.k, .int .i64 t.i, .int .i64 t.j, .int .i64 t.n, .slice a t.kids.length cap] 26) from by
      have h := HS1.out.at (alloc_heap_new' w _) (by have := HBL.out; omega) ut_ne
      rw [hw2]; show (w1.alloc _).heap[w.heap.size]? = _; rw [Lib.alloc_old _ _ _ hsz]; exact h)
    have HRW2 := Lib.hid (show w2.heap[w1.heap.size]? = some (.cells #[.int .i64 t.i, .int .i64 t.j] 3) from by rw [hw2]; exact alloc_heap_new _ _)
    have HUP := Lib.hid (show Below w0.heap.size w w2 from by
      rw [hw2]; exact (((Below.refl _ w).alloc hsw _).trans HS1.out.up |>.alloc HS1.out.hB _).drew)
    have HKP := Lib.hid (show Kept b w w2 from by
      rw [hw2]; exact ((Kept.alloc b w _).trans HS1.out.kept).trans (Kept.alloc b w1 _))
    have hs2 : w1.heap.size < w2.heap.size := by rw [hw2]; show _ < (w1.alloc _).heap.size; simp
    clear hw2 d0 d1 d2 d3 d4
    go_loopw [47] (fun i wr => ∃ k : Nat, k ≤ 1 ∧ i = .int .i64 k ∧ WSt w0 b w2 (bs ++ Lib.byteCells ([40] ++ headL t.k) ++ Lib.byteCells (lvP t.i t.j k)) wr) (fun i _ => 1 - (intOf i).toNat)
    case atStart => exact ⟨0, by omega, rfl, by simpa [lvP, Lib.byteCells] using HS2.out⟩
    case round =>
      obtain ⟨k, hk, rfl, hst⟩ := hrel
      have hrow := hst.at HRW2.out (by have := HBL.out; omega) ti_ne
      have r0 : wr.cell? ⟨w1.heap.size, 0, none⟩ = some (.int .i64 t.i) := by rw [Lib.cell_of_heap hrow]; rfl
      have r1 : wr.cell? ⟨w1.heap.size, 1, none⟩ = some (.int .i64 t.j) := by rw [Lib.cell_of_heap hrow]; rfl
      have hbox := hst.at HBX2.out (by have := HBL.out; omega) ut_ne
      have d0 : wr.cell? ⟨w.heap.size, 0, none⟩ = some (.int .i64 t.k) := by rw [Lib.cell_of_heap hbox]; rfl
      have d4 : wr.cell? ⟨w.heap.size, 4, none⟩ = some (.slice a t.kids.length cap) := by rw [Lib.cell_of_heap hbox]; rfl
      have HST := Lib.hid hst
      clear hrow hbox hst
      by_cases hlt : k < 1
      · obtain rfl : k = 0 := by omega
        go_wp2_with fail
        refine (put_any _ _ hfit.1 (HST.out.tab HW.out).pow).mono ?_
        rintro e w3 ⟨rfl, hb3⟩
        have HS3 := Lib.hid (HST.out.call hb3)
        have HLI := Lib.hid (Lib.itoa_length_le t.i hfit.1.1 hfit.1.2)
        clear hb3
        go_wp2_with fail
        · exfalso; have := HLI.out; omega
        rw [show (⟨#[32]⟩ : ByteArray) = ⟨[(32 : UInt8)].toArray⟩ from rfl, str_add]
        refine (bstr_any _ b _ _ _ HS3.out.bld (by have := HLN.out; rw [HFR.out] at this; simp [ByteArray.size, lvP, Lib.byteCells] at this ⊢; omega) HS3.out.hB).mono ?_
        rintro e w4 ⟨rfl, hb4, hl4, hk4⟩
        have HS4 := Lib.hid (HS3.out.put hb4 hl4 hk4)
        clear hb4 hl4 hk4
        go_wp2
        go_roundw
        case rel => exact ⟨1, by omega, by go_num, by have h := HS4.out; rw [Lib.strCells_toArray] at h; simpa [lvP, Lib.byteCells] using h⟩
        case measure => simp [intOf]
      · obtain rfl : k = 1 := by omega
        go_wp2_with fail
        refine (binds_any _ _ _).mono ?_
        rintro e w5 ⟨rfl, rfl⟩
        rw [HBD.out]
        go_wp2_with fail
        clear r0 r1 d0 d4
        go_loopw [69] (fun i wv => ∃ q : Nat, q ≤ t.kids.length ∧ i = .int .i64 q ∧ WSt w0 b w2 (bs ++ Lib.byteCells ([40] ++ headL t.k ++ frontL t.k t.i t.j t.n m ++ wrs t.k 0 (t.kids.take q) m)) wv) (fun i _ => t.kids.length - (intOf i).toNat)
        case atStart => exact ⟨0, Nat.zero_le _, rfl, by have h := HST.out; rw [HFR.out]; simpa [wrs, lvP, Lib.byteCells] using h⟩
        case round =>
          obtain ⟨q, hq, rfl, hv⟩ := hrel
          have HV := Lib.hid hv
          have HBX3 := Lib.hid (hv.at HBX2.out (by have := HBL.out; omega) ut_ne)
          have hsv : w.heap.size < wr.heap.size := by have := HV.out.size; omega
          have d0 : wr.cell? ⟨w.heap.size, 0, none⟩ = some (.int .i64 t.k) := by rw [Lib.cell_of_heap HBX3.out]; rfl
          clear hv HST
          by_cases hlt : q < t.kids.length
          · obtain ⟨bn, o, rfl, hx⟩ := HN.out q hlt
            obtain ⟨c0, c1, c2, c3, c4⟩ := hx.below HV.out.low hx.lt
            have hq4 := HK.out q hlt
            obtain ⟨a', cap', S', hS, -⟩ := hq4.out
            rw [hS] at c4 hq4
            have HQ := Lib.hid hq4
            have HM := Lib.hid (List.getElem_mem hlt)
            have HROOM := Lib.hid (put_room HRR.out h0 HF.out hm hlt)
            have HTK := Lib.hid (wrs_take t.k m t.kids 0 q hlt)
            have HKF := Lib.hid (kid_free HF.out hlt)
            have HKS := Lib.hid (kid_size hlt)
            have HV5 := Lib.hid (HV.out.call (wr' := wr.alloc (.cells #[.int .i64 t.kids[q].k, .int .i64 t.kids[q].i, .int .i64 t.kids[q].j, .int .i64 t.kids[q].n, .slice a' t.kids[q].kids.length cap'] 26)) ((Below.refl _ _).alloc (Nat.le_refl _) _)).again
            clear hS hq4 hx
            have hbr := binds_range t.k q
            have HMD := Lib.hid (show midL t.k (0 + q) m = [] from if_neg (fun h => by have := h.1; simp [this] at e22))
            go_wp2_with fail
            refine (bbyte_any _ b _ _ _ HV5.out.bld (by have h1 := HROOM.out; have h2 := HBS.out; simp [Lib.byteCells] ; omega) HV5.out.hB).mono ?_
            rintro e w6 ⟨rfl, hb6, hl6, hk6⟩
            have HS6 := Lib.hid (HV5.out.put hb6 hl6 hk6)
            clear hb6 hl6 hk6
            have hy := HS6.out.at (alloc_heap_new' wr _) (by have := HBL.out; omega) ut_ne
            have hz := HS6.out.at (j := w.heap.size) (by rw [Lib.alloc_old _ _ _ hsv]; exact HBX3.out) (by have := HBL.out; omega) ut_ne
            have HNE := Lib.hid (show wr.heap.size ≠ b ∧ w.heap.size ≠ b by have := HBL.out; omega)
            have HY := Lib.hid hy
            have HZ := Lib.hid hz
            clear hy hz
            have HS6d := Lib.hid (HS6.out.call (wr' := w6.drew) (Below.refl _ w6).drew)
            have hS0 := kid_keep2 HY.out HZ.out HNE.out (Kept.refl b w6)
            have hwr : IntKind.i64.wrap (m + bindsN t.k (q : Int)) = m + bindsN t.k (q : Int) := IntWalk.i64_in _ (by omega)
            go_wp2_with fail
            refine wp_region_held_drew (S := fun w' => Kept b w6 w' ∧ w'.heap[wr.heap.size]? = some (.cells #[.int .i64 t.kids[q].k, .int .i64 t.kids[q].i, .int .i64 t.kids[q].j, .int .i64 t.kids[q].n, .slice a' t.kids[q].kids.length cap'] 26) ∧ w'.cell? ⟨w.heap.size, 0, none⟩ = some (.int .i64 t.k)) (by kernel_rfl) ?_ (fun hHeld => ?_)
            · (try dsimp only)
              (first | exact hS8 | exact hHeld | exact hS0)
            refine take_at 0 93 o19A_0 (v := ?_) (Or.inl ⟨by rfl, ?_⟩) ?_
            rotate_left 1
            · ((intro w hSw; (try dsimp only at hSw); unfold o19A_0; go_simp) <;> with_reducible rfl)
            (try simp only [Act.put, List.setIfInBounds_toArray, List.set_cons_zero, List.set_cons_succ])
            refine take_at 1 94 o19A_1 (yields_row wr.heap.size _ _ _ #[.int .i64 t.kids[q].k, .int .i64 t.kids[q].i, .int .i64 t.kids[q].j, .int .i64 t.kids[q].n, .slice a' t.kids[q].kids.length cap'] _ du (by rfl) rfl (by rfl) (fun w' h => h.2.1) hu1 (by cases du <;> first | rfl | exact hu2) size_termW) ?_
            (try simp only [Act.put, List.setIfInBounds_toArray, List.set_cons_zero, List.set_cons_succ])
            refine take_at 2 95 o19A_2 (v := ?_) (Or.inl ⟨by rfl, ?_⟩) ?_
            rotate_left 1
            · ((intro w hSw; (try dsimp only at hSw); unfold o19A_2; go_simp) <;> with_reducible rfl)
            (try simp only [Act.put, List.setIfInBounds_toArray, List.set_cons_zero, List.set_cons_succ])
            refine take_at 3 96 o19A_3 (v := ?_) (Or.inl ⟨by rfl, ?_⟩) ?_
            rotate_left 1
            · ((intro w hSw; (try dsimp only at hSw); unfold o19A_3; go_simp) <;> with_reducible rfl)
            (try simp only [Act.put, List.setIfInBounds_toArray, List.set_cons_zero, List.set_cons_succ])
            refine take_at 4 97 o19A_4 (v := ?_) (Or.inl ⟨by rfl, ?_⟩) ?_
            rotate_left 1
            · ((intro w hSw; (try dsimp only at hSw); obtain ⟨hSa, hSb, hSc⟩ := hSw; unfold o19A_4; go_simp) <;> with_reducible rfl)
            (try simp only [Act.put, List.setIfInBounds_toArray, List.set_cons_zero, List.set_cons_succ])
            refine take_at 5 98 o19A_5 (v := ?_) (Or.inl ⟨by rfl, ?_⟩) ?_
            rotate_left 1
            · ((intro w hSw; (try dsimp only at hSw); unfold o19A_5; go_simp) <;> with_reducible rfl)
            (try simp only [Act.put, List.setIfInBounds_toArray, List.set_cons_zero, List.set_cons_succ])
            refine wpAnyH_ready (rs := [6]) (by kernel_rfl) (by simp) ?_
            refine AllReadyH.cons (o := o19A_6) rfl (fun K hK => ?_) ?_
            · unfold o19A_6
              go_simp
              (go_at_call 61; refine (binds_any _ _ _).mono ?_; rintro e w7 ⟨rfl, rfl⟩)
              refine hK.out _ _ ?_ (fun hHeld => ?_)
              · (try dsimp only)
                (first | exact hS8 | exact hHeld | exact hS0)
              clear hK K
              (try simp only [Act.put, List.setIfInBounds_toArray, List.set_cons_zero, List.set_cons_succ])
              refine take_at 7 100 o19A_7 (v := ?_) (Or.inl ⟨by rfl, ?_⟩) ?_
              rotate_left 1
              · ((intro w hSw; (try dsimp only at hSw); unfold o19A_7; go_simp) <;> with_reducible rfl)
              (try simp only [Act.put, List.setIfInBounds_toArray, List.set_cons_zero, List.set_cons_succ])
              refine wpAnyH_ready (rs := [8]) (by kernel_rfl) (by simp) ?_
              refine AllReadyH.cons (o := o19A_8) rfl (fun K hK => ?_) ?_
              · unfold o19A_8
                go_simp
                (go_at_call 38; with_reducible refine Calls.mono ((IH.out _ HM.out).use _ _ _ _ HQ.out HS6d.out.low HS6d.out.bld (HR.out _ HM.out) (by omega) HKF.out (by have := HKS.out; omega) (by have h1 := HROOM.out; have h2 := HBS.out; simp [Lib.byteCells] ; omega)) ?_; rintro e w8 ⟨rfl, hb8, hl8, hk8⟩)
                have HS8 := Lib.hid (HV.out.over (HS6d.out.put hb8 hl8 hk8))
                have hS8 := kid_keep2 HY.out HZ.out HNE.out hk8
                clear hb8 hl8 hk8 hHeld
                refine hK.out _ _ ?_ (fun hHeld => ?_)
                · (try dsimp only)
                  (first | exact hS8 | exact hHeld | exact hS0)
                clear hK K
                (try simp only [Act.put, List.setIfInBounds_toArray, List.set_cons_zero, List.set_cons_succ])
                refine wpAnyH_done (by kernel_rfl) ?_ _
                go_wp2
                go_roundw
                case rel => exact ⟨q + 1, by omega, by go_num, by have h := HS8.out; rw [HTK.out, HMD.out]; simpa [Lib.byteCells] using h⟩
                case measure => simp [intOf]; omega
              exact AllReadyH.nil
            exact AllReadyH.nil
          · obtain rfl : q = t.kids.length := by omega
            go_wp2_with fail
            refine (bbyte_any _ b _ _ _ HV.out.bld (by have := HLN.out; simp [Lib.byteCells]; omega) HV.out.hB).mono ?_
            rintro e w6 ⟨rfl, hb6, hl6, hk6⟩
            have HS6 := Lib.hid (HV.out.put hb6 hl6 hk6)
            have HB6 := Lib.hid hb6
            clear hb6 hl6 hk6
            go_wp2
            go_end0
            exact ⟨rfl, by have h := HB6.out; rw [HX.out]; rw [List.take_length] at h; simpa [Lib.byteCells] using h, HUP.out.trans HS6.out.up, HKP.out.trans HS6.out.kept⟩
end Go.Proofs.YtllkackipdcekaaDoor

namespace Go.Proofs.YtllkackipdcekaaDoor
open Go.RowKit

def o19B_0 : Oper := { dst := some 93, op := Go.Op.move (Go.Operand.tmp 0), type := 58, pos := "write.go:60", after := #[], guard := none }
def o19B_1 : Oper := { dst := some 94, op := Go.Op.load 26 (Go.Operand.tmp 9), type := 26, pos := "write.go:60", after := #[], guard := none }
def o19B_2 : Oper := { dst := some 95, op := Go.Op.move (Go.Operand.tmp 2), type := 3, pos := "write.go:60", after := #[], guard := none }
def o19B_3 : Oper := { dst := some 96, op := Go.Op.fieldAddr 26 (Go.Operand.tmp 4) 0, type := 0, pos := "write.go:60", after := #[], guard := none }
def o19B_4 : Oper := { dst := some 97, op := Go.Op.load 3 (Go.Operand.tmp 96), type := 3, pos := "write.go:60", after := #[{ on := 3, ground := Go.Ground.data }], guard := none }
def o19B_5 : Oper := { dst := some 98, op := Go.Op.move (Go.Operand.tmp 8), type := 3, pos := "write.go:60", after := #[], guard := none }
def o19B_6 : Oper := { dst := some 99, op := Go.Op.call { callee := Go.Callee.value (Go.Operand.func 61), args := #[Go.Operand.tmp 97, Go.Operand.tmp 98], argTypes := #[3, 3] }, type := 3, pos := "write.go:60", after := #[{ on := 4, ground := Go.Ground.data }, { on := 5, ground := Go.Ground.data }], guard := none }
def o19B_7 : Oper := { dst := some 100, op := Go.Op.binOp Go.BinOp.add 3 (Go.Operand.tmp 95) (Go.Operand.tmp 99) 3, type := 3, pos := "write.go:60", after := #[{ on := 2, ground := Go.Ground.data }, { on := 6, ground := Go.Ground.data }], guard := none }
def o19B_8 : Oper := { dst := some 101, op := Go.Op.call { callee := Go.Callee.value (Go.Operand.func 38), args := #[Go.Operand.tmp 93, Go.Operand.tmp 94, Go.Operand.tmp 100], argTypes := #[58, 26, 3] }, type := 0, pos := "write.go:60", after := #[{ on := 0, ground := Go.Ground.data }, { on := 1, ground := Go.Ground.data }, { on := 7, ground := Go.Ground.data }, { on := 6, ground := Go.Ground.chain }], guard := none }

set_option maxHeartbeats 4000000 in
set_option maxRecDepth 100000 in
theorem wput_B (w0 : World) (hW : WTab w0) (b : Nat) (t : Tm) (ih : ∀ x ∈ t.kids, WPut w0 b x) (e2 : (t.k == 2) = false) (e22 : (t.k == 22) = false) (e23 : (t.k == 23) = false) (hbd : bindsN t.k 1 = 1) (hlv : levelsN t.k = 2) : WPut w0 b t := by
  intro w s bs m hl hlw hB hr h0 hf hm hbs
  obtain ⟨a, cap, S, rfl, hc, hmx, hfi, hn, hk⟩ := hl.out
  have hkr := t.node_kind (t.right_node hr)
  have hfit := right_fit hr
  obtain ⟨du, hu1, hu2⟩ := under_termW
  have HX := Lib.hid (show t.wr m = 40 :: (headL t.k ++ (frontL t.k t.i t.j t.n m ++ (wrs t.k 0 t.kids m ++ [41]))) by rw [t.wr_eq, if_neg (by simpa using e2)])
  have HS := Lib.hid (wst_start hB hlw (.cells #[.int .i64 t.k, .int .i64 t.i, .int .i64 t.j, .int .i64 t.n, .slice a t.kids.length cap] 26))
  have HBL := Lib.hid hB.lt
  have HW := Lib.hid hW
  have HL := Lib.hid (wr_len t m hr h0 hf hm)
  have HLN := Lib.hid (show bs.length + (1 + (headL t.k).length + (frontL t.k t.i t.j t.n m).length + (wrs t.k 0 t.kids m).length + 1) ≤ 140737488355328 from by
    have := HL.out; rw [HX.out] at this; simp only [List.length_append, List.length_cons, List.length_nil] at this; omega)
  have HN := Lib.hid hn
  have HK := Lib.hid hk
  have HBS := Lib.hid hbs
  have HR := Lib.hid (t.right_kids hr)
  have HF := Lib.hid (by rw [t.freeN_eq, if_neg (by simpa using e2)] at hf; exact hf : frees t.k 0 t.kids ≤ m)
  have IH := Lib.hid ih
  have hh := (HS.out.tab HW.out).heads_cell t.k (by omega) (by omega)
  have HLV := Lib.hid hlv
  have HFR := Lib.hid (show frontL t.k t.i t.j t.n m = ([]) ++ (lvP t.i t.j 2 ++ (32 :: nameW m)) from by
    have hq : ¬ t.k = 23 := by simpa using e23
    unfold frontL lvlL; simp [hlv, hbd, hq, lvP])
  have HRR := Lib.hid hr
  have HBD := Lib.hid hbd
  have HFM := Lib.hid (show Fit m from ⟨by omega, by omega⟩)
  have HFM1 := Lib.hid (show Fit (m + 1) from ⟨by omega, by omega⟩)
  have hsw := hlw.size
  clear hB hlw hr hW hbs hn hk hl hf ih hfi hlv hbd
  have hk0 : 0 ≤ t.k := by omega
  have hk1 : t.k < 24 := by omega
  unfold tv
  unfold maxLen at hmx
  go_enter Tryd.func38, Tryd.ntmps38
  go_wp2_with fail
  · exfalso; have := head_len t.k; omega
  rw [show (⟨#[40]⟩ : ByteArray) = ⟨[(40 : UInt8)].toArray⟩ from rfl, str_add]
  refine (bstr_any _ b _ _ _ HS.out.bld (by have := HLN.out; simp [ByteArray.size]; omega) HS.out.hB).mono ?_
  rintro e w1 ⟨rfl, hb1, hl1, hk1⟩
  have HS1 := Lib.hid (HS.out.put hb1 hl1 hk1)
  rw [Lib.strCells_toArray] at HS1
  obtain ⟨d0, d1, d2, d3, d4⟩ := HS1.out.cells HBL.out
  have hsz : w.heap.size < w1.heap.size := by have := HS1.out.size; rw [World.size_alloc] at this; omega
  clear hb1 hl1 hk1 hh
  go_wp2_with fail
  go_region_held3 (fun w' => Below w1.heap.size w1 w' ∧ w'.cell? ⟨w.heap.size, 0, none⟩ = some (.int .i64 t.k) ∧ w'.cell? ⟨w.heap.size, 1, none⟩ = some (.int .i64 t.i) ∧ w'.cell? ⟨w.heap.size, 2, none⟩ = some (.int .i64 t.j))
    (first | (refine rl_keep hsz d0 d1 d2 ?_; repeat (first | exact Below.refl _ _ | (with_reducible assumption) | exact (by assumption : _ ∧ _).1 | refine Below.drew ?_ | refine Below.alloc ?_ (Nat.le_refl _) _)) | go_keep)
    (first | (go_at_call 59; refine (levels_any _ _).mono ?_; rintro e wn ⟨rfl, rfl⟩; rw [HLV.out]))
  all_goals
    rename_i hHeld
    clear hHeld
    go_wp2_with fail
    obtain ⟨w2, hw2⟩ : ∃ w2, w2 = (w1.alloc (.cells #[.int .i64 t.i, .int .i64 t.j] 3)).drew := ⟨_, rfl⟩
    rw [← hw2]
    have HS2 := Lib.hid (HS1.out.call (wr' := w2) (by rw [hw2]; exact ((Below.refl _ w1).alloc (Nat.le_refl _) _).drew)).again
    have HBX2 := Lib.hid (show w2.heap[w.heap.size]? = some (.cells #[.int .i64 t.k, .int .i64 t.i, .int .i64 t.j, .int .i64 t.n, .slice a t.kids.length cap] 26) from by
      have h := HS1.out.at (alloc_heap_new' w _) (by have := HBL.out; omega) ut_ne
      rw [hw2]; show (w1.alloc _).heap[w.heap.size]? = _; rw [Lib.alloc_old _ _ _ hsz]; exact h)
    have HRW2 := Lib.hid (show w2.heap[w1.heap.size]? = some (.cells #[.int .i64 t.i, .int .i64 t.j] 3) from by rw [hw2]; exact alloc_heap_new _ _)
    have HUP := Lib.hid (show Below w0.heap.size w w2 from by
      rw [hw2]; exact (((Below.refl _ w).alloc hsw _).trans HS1.out.up |>.alloc HS1.out.hB _).drew)
    have HKP := Lib.hid (show Kept b w w2 from by
      rw [hw2]; exact ((Kept.alloc b w _).trans HS1.out.kept).trans (Kept.alloc b w1 _))
    have hs2 : w1.heap.size < w2.heap.size := by rw [hw2]; show _ < (w1.alloc _).heap.size; simp
    clear hw2 d0 d1 d2 d3 d4
    go_loopw [47] (fun i wr => ∃ k : Nat, k ≤ 2 ∧ i = .int .i64 k ∧ WSt w0 b w2 (bs ++ Lib.byteCells ([40] ++ headL t.k) ++ Lib.byteCells (lvP t.i t.j k)) wr) (fun i _ => 2 - (intOf i).toNat)
    case atStart => exact ⟨0, by omega, rfl, by simpa [lvP, Lib.byteCells] using HS2.out⟩
    case round =>
      obtain ⟨k, hk, rfl, hst⟩ := hrel
      have hrow := hst.at HRW2.out (by have := HBL.out; omega) ti_ne
      have r0 : wr.cell? ⟨w1.heap.size, 0, none⟩ = some (.int .i64 t.i) := by rw [Lib.cell_of_heap hrow]; rfl
      have r1 : wr.cell? ⟨w1.heap.size, 1, none⟩ = some (.int .i64 t.j) := by rw [Lib.cell_of_heap hrow]; rfl
      have hbox := hst.at HBX2.out (by have := HBL.out; omega) ut_ne
      have d0 : wr.cell? ⟨w.heap.size, 0, none⟩ = some (.int .i64 t.k) := by rw [Lib.cell_of_heap hbox]; rfl
      have d4 : wr.cell? ⟨w.heap.size, 4, none⟩ = some (.slice a t.kids.length cap) := by rw [Lib.cell_of_heap hbox]; rfl
      have HST := Lib.hid hst
      clear hrow hbox hst
      by_cases hlt : k < 2
      · rcases (show k = 0 ∨ k = 1 by omega) with rfl | rfl
        · go_wp2_with fail
          refine (put_any _ _ hfit.1 (HST.out.tab HW.out).pow).mono ?_
          rintro e w3 ⟨rfl, hb3⟩
          have HS3 := Lib.hid (HST.out.call hb3)
          have HLI := Lib.hid (Lib.itoa_length_le t.i hfit.1.1 hfit.1.2)
          clear hb3
          go_wp2_with fail
          · exfalso; have := HLI.out; omega
          rw [show (⟨#[32]⟩ : ByteArray) = ⟨[(32 : UInt8)].toArray⟩ from rfl, str_add]
          refine (bstr_any _ b _ _ _ HS3.out.bld (by have := HLN.out; rw [HFR.out] at this; simp [ByteArray.size, lvP, Lib.byteCells] at this ⊢; omega) HS3.out.hB).mono ?_
          rintro e w4 ⟨rfl, hb4, hl4, hk4⟩
          have HS4 := Lib.hid (HS3.out.put hb4 hl4 hk4)
          clear hb4 hl4 hk4
          go_wp2
          go_roundw
          case rel => exact ⟨1, by omega, by go_num, by have h := HS4.out; rw [Lib.strCells_toArray] at h; simpa [lvP, Lib.byteCells] using h⟩
          case measure => simp [intOf]
        · go_wp2_with fail
          refine (put_any _ _ hfit.2 (HST.out.tab HW.out).pow).mono ?_
          rintro e w3 ⟨rfl, hb3⟩
          have HS3 := Lib.hid (HST.out.call hb3)
          have HLI := Lib.hid (Lib.itoa_length_le t.j hfit.2.1 hfit.2.2)
          clear hb3
          go_wp2_with fail
          · exfalso; have := HLI.out; omega
          rw [show (⟨#[32]⟩ : ByteArray) = ⟨[(32 : UInt8)].toArray⟩ from rfl, str_add]
          refine (bstr_any _ b _ _ _ HS3.out.bld (by have := HLN.out; rw [HFR.out] at this; simp [ByteArray.size, lvP, Lib.byteCells] at this ⊢; omega) HS3.out.hB).mono ?_
          rintro e w4 ⟨rfl, hb4, hl4, hk4⟩
          have HS4 := Lib.hid (HS3.out.put hb4 hl4 hk4)
          clear hb4 hl4 hk4
          go_wp2
          go_roundw
          case rel => exact ⟨2, by omega, by go_num, by have h := HS4.out; rw [Lib.strCells_toArray] at h; simpa [lvP, Lib.byteCells] using h⟩
          case measure => simp [intOf]
      · obtain rfl : k = 2 := by omega
        go_wp2_with fail
        refine (binds_any _ _ _).mono ?_
        rintro e w5 ⟨rfl, rfl⟩
        rw [HBD.out]
        go_wp2_with fail
        refine (name_any m _ HFM.out (HST.out.tab HW.out).pow).mono ?_
        rintro e w5 ⟨rfl, hb5⟩
        have HS5 := Lib.hid (HST.out.call hb5)
        have HNL := Lib.hid (name_len HFM.out)
        clear hb5
        go_wp2_with fail
        · exfalso; have := HNL.out; omega
        rw [show (⟨#[32]⟩ : ByteArray) = ⟨[(32 : UInt8)].toArray⟩ from rfl, str_add]
        refine (bstr_any _ b _ _ _ HS5.out.bld (by have := HLN.out; rw [HFR.out] at this; simp [ByteArray.size, lvP, Lib.byteCells] at this ⊢; omega) HS5.out.hB).mono ?_
        rintro e w5' ⟨rfl, hb5, hl5, hk5⟩
        have HSB := Lib.hid (HS5.out.put hb5 hl5 hk5)
        rw [Lib.strCells_toArray] at HSB
        clear hb5 hl5 hk5 r0 r1 d0 d4
        have hbox5 := HSB.out.at HBX2.out (by have := HBL.out; omega) ut_ne
        have d4 : w5'.cell? ⟨w.heap.size, 4, none⟩ = some (.slice a t.kids.length cap) := by rw [Lib.cell_of_heap hbox5]; rfl
        clear hbox5
        go_wp2_with fail
        clear d4
        go_loopw [69] (fun i wv => ∃ q : Nat, q ≤ t.kids.length ∧ i = .int .i64 q ∧ WSt w0 b w2 (bs ++ Lib.byteCells ([40] ++ headL t.k ++ frontL t.k t.i t.j t.n m ++ wrs t.k 0 (t.kids.take q) m)) wv) (fun i _ => t.kids.length - (intOf i).toNat)
        case atStart => exact ⟨0, Nat.zero_le _, rfl, by have h := HSB.out; rw [HFR.out]; simpa [wrs, lvP, Lib.byteCells] using h⟩
        case round =>
          obtain ⟨q, hq, rfl, hv⟩ := hrel
          have HV := Lib.hid hv
          have HBX3 := Lib.hid (hv.at HBX2.out (by have := HBL.out; omega) ut_ne)
          have hsv : w.heap.size < wr.heap.size := by have := HV.out.size; omega
          have d0 : wr.cell? ⟨w.heap.size, 0, none⟩ = some (.int .i64 t.k) := by rw [Lib.cell_of_heap HBX3.out]; rfl
          clear hv HSB
          by_cases hlt : q < t.kids.length
          · obtain ⟨bn, o, rfl, hx⟩ := HN.out q hlt
            obtain ⟨c0, c1, c2, c3, c4⟩ := hx.below HV.out.low hx.lt
            have hq4 := HK.out q hlt
            obtain ⟨a', cap', S', hS, -⟩ := hq4.out
            rw [hS] at c4 hq4
            have HQ := Lib.hid hq4
            have HM := Lib.hid (List.getElem_mem hlt)
            have HROOM := Lib.hid (put_room HRR.out h0 HF.out hm hlt)
            have HTK := Lib.hid (wrs_take t.k m t.kids 0 q hlt)
            have HKF := Lib.hid (kid_free HF.out hlt)
            have HKS := Lib.hid (kid_size hlt)
            have HV5 := Lib.hid (HV.out.call (wr' := wr.alloc (.cells #[.int .i64 t.kids[q].k, .int .i64 t.kids[q].i, .int .i64 t.kids[q].j, .int .i64 t.kids[q].n, .slice a' t.kids[q].kids.length cap'] 26)) ((Below.refl _ _).alloc (Nat.le_refl _) _)).again
            clear hS hq4 hx
            have hbr := binds_range t.k q
            have HMD := Lib.hid (show midL t.k (0 + q) m = [] from if_neg (fun h => by have := h.1; simp [this] at e22))
            go_wp2_with fail
            refine (bbyte_any _ b _ _ _ HV5.out.bld (by have h1 := HROOM.out; have h2 := HBS.out; simp [Lib.byteCells] ; omega) HV5.out.hB).mono ?_
            rintro e w6 ⟨rfl, hb6, hl6, hk6⟩
            have HS6 := Lib.hid (HV5.out.put hb6 hl6 hk6)
            clear hb6 hl6 hk6
            have hy := HS6.out.at (alloc_heap_new' wr _) (by have := HBL.out; omega) ut_ne
            have hz := HS6.out.at (j := w.heap.size) (by rw [Lib.alloc_old _ _ _ hsv]; exact HBX3.out) (by have := HBL.out; omega) ut_ne
            have HNE := Lib.hid (show wr.heap.size ≠ b ∧ w.heap.size ≠ b by have := HBL.out; omega)
            have HY := Lib.hid hy
            have HZ := Lib.hid hz
            clear hy hz
            have HS6d := Lib.hid (HS6.out.call (wr' := w6.drew) (Below.refl _ w6).drew)
            have hS0 := kid_keep2 HY.out HZ.out HNE.out (Kept.refl b w6)
            have hwr : IntKind.i64.wrap (m + bindsN t.k (q : Int)) = m + bindsN t.k (q : Int) := IntWalk.i64_in _ (by omega)
            go_wp2_with fail
            refine wp_region_held_drew (S := fun w' => Kept b w6 w' ∧ w'.heap[wr.heap.size]? = some (.cells #[.int .i64 t.kids[q].k, .int .i64 t.kids[q].i, .int .i64 t.kids[q].j, .int .i64 t.kids[q].n, .slice a' t.kids[q].kids.length cap'] 26) ∧ w'.cell? ⟨w.heap.size, 0, none⟩ = some (.int .i64 t.k)) (by kernel_rfl) ?_ (fun hHeld => ?_)
            · (try dsimp only)
              (first | exact hS8 | exact hHeld | exact hS0)
            refine take_at 0 93 o19B_0 (v := ?_) (Or.inl ⟨by rfl, ?_⟩) ?_
            rotate_left 1
            · ((intro w hSw; (try dsimp only at hSw); unfold o19B_0; go_simp) <;> with_reducible rfl)
            (try simp only [Act.put, List.setIfInBounds_toArray, List.set_cons_zero, List.set_cons_succ])
            refine take_at 1 94 o19B_1 (yields_row wr.heap.size _ _ _ #[.int .i64 t.kids[q].k, .int .i64 t.kids[q].i, .int .i64 t.kids[q].j, .int .i64 t.kids[q].n, .slice a' t.kids[q].kids.length cap'] _ du (by rfl) rfl (by rfl) (fun w' h => h.2.1) hu1 (by cases du <;> first | rfl | exact hu2) size_termW) ?_
            (try simp only [Act.put, List.setIfInBounds_toArray, List.set_cons_zero, List.set_cons_succ])
            refine take_at 2 95 o19B_2 (v := ?_) (Or.inl ⟨by rfl, ?_⟩) ?_
            rotate_left 1
            · ((intro w hSw; (try dsimp only at hSw); unfold o19B_2; go_simp) <;> with_reducible rfl)
            (try simp only [Act.put, List.setIfInBounds_toArray, List.set_cons_zero, List.set_cons_succ])
            refine take_at 3 96 o19B_3 (v := ?_) (Or.inl ⟨by rfl, ?_⟩) ?_
            rotate_left 1
            · ((intro w hSw; (try dsimp only at hSw); unfold o19B_3; go_simp) <;> with_reducible rfl)
            (try simp only [Act.put, List.setIfInBounds_toArray, List.set_cons_zero, List.set_cons_succ])
            refine take_at 4 97 o19B_4 (v := ?_) (Or.inl ⟨by rfl, ?_⟩) ?_
            rotate_left 1
            · ((intro w hSw; (try dsimp only at hSw); obtain ⟨hSa, hSb, hSc⟩ := hSw; unfold o19B_4; go_simp) <;> with_reducible rfl)
            (try simp only [Act.put, List.setIfInBounds_toArray, List.set_cons_zero, List.set_cons_succ])
            refine take_at 5 98 o19B_5 (v := ?_) (Or.inl ⟨by rfl, ?_⟩) ?_
            rotate_left 1
            · ((intro w hSw; (try dsimp only at hSw); unfold o19B_5; go_simp) <;> with_reducible rfl)
            (try simp only [Act.put, List.setIfInBounds_toArray, List.set_cons_zero, List.set_cons_succ])
            refine wpAnyH_ready (rs := [6]) (by kernel_rfl) (by simp) ?_
            refine AllReadyH.cons (o := o19B_6) rfl (fun K hK => ?_) ?_
            · unfold o19B_6
              go_simp
              (go_at_call 61; refine (binds_any _ _ _).mono ?_; rintro e w7 ⟨rfl, rfl⟩)
              refine hK.out _ _ ?_ (fun hHeld => ?_)
              · (try dsimp only)
                (first | exact hS8 | exact hHeld | exact hS0)
              clear hK K
              (try simp only [Act.put, List.setIfInBounds_toArray, List.set_cons_zero, List.set_cons_succ])
              refine take_at 7 100 o19B_7 (v := ?_) (Or.inl ⟨by rfl, ?_⟩) ?_
              rotate_left 1
              · ((intro w hSw; (try dsimp only at hSw); unfold o19B_7; go_simp) <;> with_reducible rfl)
              (try simp only [Act.put, List.setIfInBounds_toArray, List.set_cons_zero, List.set_cons_succ])
              refine wpAnyH_ready (rs := [8]) (by kernel_rfl) (by simp) ?_
              refine AllReadyH.cons (o := o19B_8) rfl (fun K hK => ?_) ?_
              · unfold o19B_8
                go_simp
                (go_at_call 38; with_reducible refine Calls.mono ((IH.out _ HM.out).use _ _ _ _ HQ.out HS6d.out.low HS6d.out.bld (HR.out _ HM.out) (by omega) HKF.out (by have := HKS.out; omega) (by have h1 := HROOM.out; have h2 := HBS.out; simp [Lib.byteCells] ; omega)) ?_; rintro e w8 ⟨rfl, hb8, hl8, hk8⟩)
                have HS8 := Lib.hid (HV.out.over (HS6d.out.put hb8 hl8 hk8))
                have hS8 := kid_keep2 HY.out HZ.out HNE.out hk8
                clear hb8 hl8 hk8 hHeld
                refine hK.out _ _ ?_ (fun hHeld => ?_)
                · (try dsimp only)
                  (first | exact hS8 | exact hHeld | exact hS0)
                clear hK K
                (try simp only [Act.put, List.setIfInBounds_toArray, List.set_cons_zero, List.set_cons_succ])
                refine wpAnyH_done (by kernel_rfl) ?_ _
                go_wp2
                go_roundw
                case rel => exact ⟨q + 1, by omega, by go_num, by have h := HS8.out; rw [HTK.out, HMD.out]; simpa [Lib.byteCells] using h⟩
                case measure => simp [intOf]; omega
              exact AllReadyH.nil
            exact AllReadyH.nil
          · obtain rfl : q = t.kids.length := by omega
            go_wp2_with fail
            refine (bbyte_any _ b _ _ _ HV.out.bld (by have := HLN.out; simp [Lib.byteCells]; omega) HV.out.hB).mono ?_
            rintro e w6 ⟨rfl, hb6, hl6, hk6⟩
            have HS6 := Lib.hid (HV.out.put hb6 hl6 hk6)
            have HB6 := Lib.hid hb6
            clear hb6 hl6 hk6
            go_wp2
            go_end0
            exact ⟨rfl, by have h := HB6.out; rw [HX.out]; rw [List.take_length] at h; simpa [Lib.byteCells] using h, HUP.out.trans HS6.out.up, HKP.out.trans HS6.out.kept⟩
end Go.Proofs.YtllkackipdcekaaDoor

namespace Go.Proofs.YtllkackipdcekaaDoor
open Go.RowKit

def o19C_0 : Oper := { dst := some 93, op := Go.Op.move (Go.Operand.tmp 0), type := 58, pos := "write.go:60", after := #[], guard := none }
def o19C_1 : Oper := { dst := some 94, op := Go.Op.load 26 (Go.Operand.tmp 9), type := 26, pos := "write.go:60", after := #[], guard := none }
def o19C_2 : Oper := { dst := some 95, op := Go.Op.move (Go.Operand.tmp 2), type := 3, pos := "write.go:60", after := #[], guard := none }
def o19C_3 : Oper := { dst := some 96, op := Go.Op.fieldAddr 26 (Go.Operand.tmp 4) 0, type := 0, pos := "write.go:60", after := #[], guard := none }
def o19C_4 : Oper := { dst := some 97, op := Go.Op.load 3 (Go.Operand.tmp 96), type := 3, pos := "write.go:60", after := #[{ on := 3, ground := Go.Ground.data }], guard := none }
def o19C_5 : Oper := { dst := some 98, op := Go.Op.move (Go.Operand.tmp 8), type := 3, pos := "write.go:60", after := #[], guard := none }
def o19C_6 : Oper := { dst := some 99, op := Go.Op.call { callee := Go.Callee.value (Go.Operand.func 61), args := #[Go.Operand.tmp 97, Go.Operand.tmp 98], argTypes := #[3, 3] }, type := 3, pos := "write.go:60", after := #[{ on := 4, ground := Go.Ground.data }, { on := 5, ground := Go.Ground.data }], guard := none }
def o19C_7 : Oper := { dst := some 100, op := Go.Op.binOp Go.BinOp.add 3 (Go.Operand.tmp 95) (Go.Operand.tmp 99) 3, type := 3, pos := "write.go:60", after := #[{ on := 2, ground := Go.Ground.data }, { on := 6, ground := Go.Ground.data }], guard := none }
def o19C_8 : Oper := { dst := some 101, op := Go.Op.call { callee := Go.Callee.value (Go.Operand.func 38), args := #[Go.Operand.tmp 93, Go.Operand.tmp 94, Go.Operand.tmp 100], argTypes := #[58, 26, 3] }, type := 0, pos := "write.go:60", after := #[{ on := 0, ground := Go.Ground.data }, { on := 1, ground := Go.Ground.data }, { on := 7, ground := Go.Ground.data }, { on := 6, ground := Go.Ground.chain }], guard := none }

set_option maxHeartbeats 4000000 in
set_option maxRecDepth 100000 in
theorem wput_C (w0 : World) (hW : WTab w0) (b : Nat) (t : Tm) (ih : ∀ x ∈ t.kids, WPut w0 b x) (e2 : (t.k == 2) = false) (e22 : (t.k == 22) = false) (e23 : (t.k == 23) = true) (hbd : bindsN t.k 1 = 0) (hlv : levelsN t.k = 2) : WPut w0 b t := by
  intro w s bs m hl hlw hB hr h0 hf hm hbs
  obtain ⟨a, cap, S, rfl, hc, hmx, hfi, hn, hk⟩ := hl.out
  have hkr := t.node_kind (t.right_node hr)
  have hfit := right_fit hr
  obtain ⟨du, hu1, hu2⟩ := under_termW
  have HX := Lib.hid (show t.wr m = 40 :: (headL t.k ++ (frontL t.k t.i t.j t.n m ++ (wrs t.k 0 t.kids m ++ [41]))) by rw [t.wr_eq, if_neg (by simpa using e2)])
  have HS := Lib.hid (wst_start hB hlw (.cells #[.int .i64 t.k, .int .i64 t.i, .int .i64 t.j, .int .i64 t.n, .slice a t.kids.length cap] 26))
  have HBL := Lib.hid hB.lt
  have HW := Lib.hid hW
  have HL := Lib.hid (wr_len t m hr h0 hf hm)
  have HLN := Lib.hid (show bs.length + (1 + (headL t.k).length + (frontL t.k t.i t.j t.n m).length + (wrs t.k 0 t.kids m).length + 1) ≤ 140737488355328 from by
    have := HL.out; rw [HX.out] at this; simp only [List.length_append, List.length_cons, List.length_nil] at this; omega)
  have HN := Lib.hid hn
  have HK := Lib.hid hk
  have HBS := Lib.hid hbs
  have HR := Lib.hid (t.right_kids hr)
  have HF := Lib.hid (by rw [t.freeN_eq, if_neg (by simpa using e2)] at hf; exact hf : frees t.k 0 t.kids ≤ m)
  have IH := Lib.hid ih
  have hh := (HS.out.tab HW.out).heads_cell t.k (by omega) (by omega)
  have HLV := Lib.hid hlv
  have HFR := Lib.hid (show frontL t.k t.i t.j t.n m = (32 :: symL t.n) ++ (lvP t.i t.j 2 ++ ([])) from by
    have hq :  t.k = 23 := by simpa using e23
    unfold frontL lvlL; rw [if_pos hq, if_neg (by omega), if_pos hlv, if_neg (by omega)]; simp [lvP])
  have HRR := Lib.hid hr
  have HBD := Lib.hid hbd
  have HFM := Lib.hid (show Fit m from ⟨by omega, by omega⟩)
  have HFM1 := Lib.hid (show Fit (m + 1) from ⟨by omega, by omega⟩)
  have hsw := hlw.size
  clear hB hlw hr hW hbs hn hk hl hf ih hfi hlv hbd
  have hk0 : 0 ≤ t.k := by omega
  have hk1 : t.k < 24 := by omega
  unfold tv
  unfold maxLen at hmx
  go_enter Tryd.func38, Tryd.ntmps38
  go_wp2_with fail
  · exfalso; have := head_len t.k; omega
  rw [show (⟨#[40]⟩ : ByteArray) = ⟨[(40 : UInt8)].toArray⟩ from rfl, str_add]
  refine (bstr_any _ b _ _ _ HS.out.bld (by have := HLN.out; simp [ByteArray.size]; omega) HS.out.hB).mono ?_
  rintro e w1 ⟨rfl, hb1, hl1, hk1⟩
  have HS1 := Lib.hid (HS.out.put hb1 hl1 hk1)
  rw [Lib.strCells_toArray] at HS1
  obtain ⟨d0, d1, d2, d3, d4⟩ := HS1.out.cells HBL.out
  have hsz : w.heap.size < w1.heap.size := by have := HS1.out.size; rw [World.size_alloc] at this; omega
  clear hb1 hl1 hk1 hh
  go_wp2_with fail
  refine (rname_any _ _ (HS1.out.tab HW.out)).mono ?_
  rintro e wn ⟨rfl, rfl⟩
  have HSY := Lib.hid (sym_len t.n)
  go_wp2_with fail
  · exfalso; have := HSY.out; omega
  rw [show (⟨#[32]⟩ : ByteArray) = ⟨[(32 : UInt8)].toArray⟩ from rfl, str_add]
  refine (bstr_any _ b _ _ _ HS1.out.bld (by have := HLN.out; rw [HFR.out] at this; simp [ByteArray.size, Lib.byteCells] at this ⊢; omega) HS1.out.hB).mono ?_
  rintro e wu ⟨rfl, hbu, hlu, hku⟩
  have HSU := Lib.hid (HS1.out.put hbu hlu hku)
  rw [Lib.strCells_toArray, bytes_app] at HSU
  clear hbu hlu hku hsz d0 d1 d2 d3 d4 HS1
  obtain ⟨w1, rfl⟩ : ∃ w1, w1 = wu := ⟨_, rfl⟩
  have HS1 := Lib.hid (show WSt w0 b (w.alloc (.cells #[.int .i64 t.k, .int .i64 t.i, .int .i64 t.j, .int .i64 t.n, .slice a t.kids.length cap] 26)) (bs ++ Lib.byteCells ([40] ++ headL t.k ++ 32 :: symL t.n)) w1 from by have h := HSU.out; simpa [Lib.byteCells] using h)
  clear HSU
  obtain ⟨d0, d1, d2, d3, d4⟩ := HS1.out.cells HBL.out
  have hsz : w.heap.size < w1.heap.size := by have := HS1.out.size; rw [World.size_alloc] at this; omega
  go_wp2_with fail
  go_region_held3 (fun w' => Below w1.heap.size w1 w' ∧ w'.cell? ⟨w.heap.size, 0, none⟩ = some (.int .i64 t.k) ∧ w'.cell? ⟨w.heap.size, 1, none⟩ = some (.int .i64 t.i) ∧ w'.cell? ⟨w.heap.size, 2, none⟩ = some (.int .i64 t.j))
    (first | (refine rl_keep hsz d0 d1 d2 ?_; repeat (first | exact Below.refl _ _ | (with_reducible assumption) | exact (by assumption : _ ∧ _).1 | refine Below.drew ?_ | refine Below.alloc ?_ (Nat.le_refl _) _)) | go_keep)
    (first | (go_at_call 59; refine (levels_any _ _).mono ?_; rintro e wn ⟨rfl, rfl⟩; rw [HLV.out]))
  all_goals
    rename_i hHeld
    clear hHeld
    go_wp2_with fail
    obtain ⟨w2, hw2⟩ : ∃ w2, w2 = (w1.alloc (.cells #[.int .i64 t.i, .int .i64 t.j] 3)).drew := ⟨_, rfl⟩
    rw [← hw2]
    have HS2 := Lib.hid (HS1.out.call (wr' := w2) (by rw [hw2]; exact ((Below.refl _ w1).alloc (Nat.le_refl _) _).drew)).again
    have HBX2 := Lib.hid (show w2.heap[w.heap.size]? = some (.cells #[.int .i64 t.k, .int .i64 t.i, .int .i64 t.j, .int .i64 t.n, .slice a t.kids.length cap] 26) from by
      have h := HS1.out.at (alloc_heap_new' w _) (by have := HBL.out; omega) ut_ne
      rw [hw2]; show (w1.alloc _).heap[w.heap.size]? = _; rw [Lib.alloc_old _ _ _ hsz]; exact h)
    have HRW2 := Lib.hid (show w2.heap[w1.heap.size]? = some (.cells #[.int .i64 t.i, .int .i64 t.j] 3) from by rw [hw2]; exact alloc_heap_new _ _)
    have HUP := Lib.hid (show Below w0.heap.size w w2 from by
      rw [hw2]; exact (((Below.refl _ w).alloc hsw _).trans HS1.out.up |>.alloc HS1.out.hB _).drew)
    have HKP := Lib.hid (show Kept b w w2 from by
      rw [hw2]; exact ((Kept.alloc b w _).trans HS1.out.kept).trans (Kept.alloc b w1 _))
    have hs2 : w1.heap.size < w2.heap.size := by rw [hw2]; show _ < (w1.alloc _).heap.size; simp
    clear hw2 d0 d1 d2 d3 d4
    go_loopw [47] (fun i wr => ∃ k : Nat, k ≤ 2 ∧ i = .int .i64 k ∧ WSt w0 b w2 (bs ++ Lib.byteCells ([40] ++ headL t.k ++ 32 :: symL t.n) ++ Lib.byteCells (lvP t.i t.j k)) wr) (fun i _ => 2 - (intOf i).toNat)
    case atStart => exact ⟨0, by omega, rfl, by simpa [lvP, Lib.byteCells] using HS2.out⟩
    case round =>
      obtain ⟨k, hk, rfl, hst⟩ := hrel
      have hrow := hst.at HRW2.out (by have := HBL.out; omega) ti_ne
      have r0 : wr.cell? ⟨w1.heap.size, 0, none⟩ = some (.int .i64 t.i) := by rw [Lib.cell_of_heap hrow]; rfl
      have r1 : wr.cell? ⟨w1.heap.size, 1, none⟩ = some (.int .i64 t.j) := by rw [Lib.cell_of_heap hrow]; rfl
      have hbox := hst.at HBX2.out (by have := HBL.out; omega) ut_ne
      have d0 : wr.cell? ⟨w.heap.size, 0, none⟩ = some (.int .i64 t.k) := by rw [Lib.cell_of_heap hbox]; rfl
      have d4 : wr.cell? ⟨w.heap.size, 4, none⟩ = some (.slice a t.kids.length cap) := by rw [Lib.cell_of_heap hbox]; rfl
      have HST := Lib.hid hst
      clear hrow hbox hst
      by_cases hlt : k < 2
      · rcases (show k = 0 ∨ k = 1 by omega) with rfl | rfl
        · go_wp2_with fail
          refine (put_any _ _ hfit.1 (HST.out.tab HW.out).pow).mono ?_
          rintro e w3 ⟨rfl, hb3⟩
          have HS3 := Lib.hid (HST.out.call hb3)
          have HLI := Lib.hid (Lib.itoa_length_le t.i hfit.1.1 hfit.1.2)
          clear hb3
          go_wp2_with fail
          · exfalso; have := HLI.out; omega
          rw [show (⟨#[32]⟩ : ByteArray) = ⟨[(32 : UInt8)].toArray⟩ from rfl, str_add]
          refine (bstr_any _ b _ _ _ HS3.out.bld (by have := HLN.out; rw [HFR.out] at this; simp [ByteArray.size, lvP, Lib.byteCells] at this ⊢; omega) HS3.out.hB).mono ?_
          rintro e w4 ⟨rfl, hb4, hl4, hk4⟩
          have HS4 := Lib.hid (HS3.out.put hb4 hl4 hk4)
          clear hb4 hl4 hk4
          go_wp2
          go_roundw
          case rel => exact ⟨1, by omega, by go_num, by have h := HS4.out; rw [Lib.strCells_toArray] at h; simpa [lvP, Lib.byteCells] using h⟩
          case measure => simp [intOf]
        · go_wp2_with fail
          refine (put_any _ _ hfit.2 (HST.out.tab HW.out).pow).mono ?_
          rintro e w3 ⟨rfl, hb3⟩
          have HS3 := Lib.hid (HST.out.call hb3)
          have HLI := Lib.hid (Lib.itoa_length_le t.j hfit.2.1 hfit.2.2)
          clear hb3
          go_wp2_with fail
          · exfalso; have := HLI.out; omega
          rw [show (⟨#[32]⟩ : ByteArray) = ⟨[(32 : UInt8)].toArray⟩ from rfl, str_add]
          refine (bstr_any _ b _ _ _ HS3.out.bld (by have := HLN.out; rw [HFR.out] at this; simp [ByteArray.size, lvP, Lib.byteCells] at this ⊢; omega) HS3.out.hB).mono ?_
          rintro e w4 ⟨rfl, hb4, hl4, hk4⟩
          have HS4 := Lib.hid (HS3.out.put hb4 hl4 hk4)
          clear hb4 hl4 hk4
          go_wp2
          go_roundw
          case rel => exact ⟨2, by omega, by go_num, by have h := HS4.out; rw [Lib.strCells_toArray] at h; simpa [lvP, Lib.byteCells] using h⟩
          case measure => simp [intOf]
      · obtain rfl : k = 2 := by omega
        go_wp2_with fail
        refine (binds_any _ _ _).mono ?_
        rintro e w5 ⟨rfl, rfl⟩
        rw [HBD.out]
        go_wp2_with fail
        clear r0 r1 d0 d4
        go_loopw [69] (fun i wv => ∃ q : Nat, q ≤ t.kids.length ∧ i = .int .i64 q ∧ WSt w0 b w2 (bs ++ Lib.byteCells ([40] ++ headL t.k ++ frontL t.k t.i t.j t.n m ++ wrs t.k 0 (t.kids.take q) m)) wv) (fun i _ => t.kids.length - (intOf i).toNat)
        case atStart => exact ⟨0, Nat.zero_le _, rfl, by have h := HST.out; rw [HFR.out]; simpa [wrs, lvP, Lib.byteCells] using h⟩
        case round =>
          obtain ⟨q, hq, rfl, hv⟩ := hrel
          have HV := Lib.hid hv
          have HBX3 := Lib.hid (hv.at HBX2.out (by have := HBL.out; omega) ut_ne)
          have hsv : w.heap.size < wr.heap.size := by have := HV.out.size; omega
          have d0 : wr.cell? ⟨w.heap.size, 0, none⟩ = some (.int .i64 t.k) := by rw [Lib.cell_of_heap HBX3.out]; rfl
          clear hv HST
          by_cases hlt : q < t.kids.length
          · obtain ⟨bn, o, rfl, hx⟩ := HN.out q hlt
            obtain ⟨c0, c1, c2, c3, c4⟩ := hx.below HV.out.low hx.lt
            have hq4 := HK.out q hlt
            obtain ⟨a', cap', S', hS, -⟩ := hq4.out
            rw [hS] at c4 hq4
            have HQ := Lib.hid hq4
            have HM := Lib.hid (List.getElem_mem hlt)
            have HROOM := Lib.hid (put_room HRR.out h0 HF.out hm hlt)
            have HTK := Lib.hid (wrs_take t.k m t.kids 0 q hlt)
            have HKF := Lib.hid (kid_free HF.out hlt)
            have HKS := Lib.hid (kid_size hlt)
            have HV5 := Lib.hid (HV.out.call (wr' := wr.alloc (.cells #[.int .i64 t.kids[q].k, .int .i64 t.kids[q].i, .int .i64 t.kids[q].j, .int .i64 t.kids[q].n, .slice a' t.kids[q].kids.length cap'] 26)) ((Below.refl _ _).alloc (Nat.le_refl _) _)).again
            clear hS hq4 hx
            have hbr := binds_range t.k q
            have HMD := Lib.hid (show midL t.k (0 + q) m = [] from if_neg (fun h => by have := h.1; simp [this] at e22))
            go_wp2_with fail
            refine (bbyte_any _ b _ _ _ HV5.out.bld (by have h1 := HROOM.out; have h2 := HBS.out; simp [Lib.byteCells] ; omega) HV5.out.hB).mono ?_
            rintro e w6 ⟨rfl, hb6, hl6, hk6⟩
            have HS6 := Lib.hid (HV5.out.put hb6 hl6 hk6)
            clear hb6 hl6 hk6
            have hy := HS6.out.at (alloc_heap_new' wr _) (by have := HBL.out; omega) ut_ne
            have hz := HS6.out.at (j := w.heap.size) (by rw [Lib.alloc_old _ _ _ hsv]; exact HBX3.out) (by have := HBL.out; omega) ut_ne
            have HNE := Lib.hid (show wr.heap.size ≠ b ∧ w.heap.size ≠ b by have := HBL.out; omega)
            have HY := Lib.hid hy
            have HZ := Lib.hid hz
            clear hy hz
            have HS6d := Lib.hid (HS6.out.call (wr' := w6.drew) (Below.refl _ w6).drew)
            have hS0 := kid_keep2 HY.out HZ.out HNE.out (Kept.refl b w6)
            have hwr : IntKind.i64.wrap (m + bindsN t.k (q : Int)) = m + bindsN t.k (q : Int) := IntWalk.i64_in _ (by omega)
            go_wp2_with fail
            refine wp_region_held_drew (S := fun w' => Kept b w6 w' ∧ w'.heap[wr.heap.size]? = some (.cells #[.int .i64 t.kids[q].k, .int .i64 t.kids[q].i, .int .i64 t.kids[q].j, .int .i64 t.kids[q].n, .slice a' t.kids[q].kids.length cap'] 26) ∧ w'.cell? ⟨w.heap.size, 0, none⟩ = some (.int .i64 t.k)) (by kernel_rfl) ?_ (fun hHeld => ?_)
            · (try dsimp only)
              (first | exact hS8 | exact hHeld | exact hS0)
            refine take_at 0 93 o19C_0 (v := ?_) (Or.inl ⟨by rfl, ?_⟩) ?_
            rotate_left 1
            · ((intro w hSw; (try dsimp only at hSw); unfold o19C_0; go_simp) <;> with_reducible rfl)
            (try simp only [Act.put, List.setIfInBounds_toArray, List.set_cons_zero, List.set_cons_succ])
            refine take_at 1 94 o19C_1 (yields_row wr.heap.size _ _ _ #[.int .i64 t.kids[q].k, .int .i64 t.kids[q].i, .int .i64 t.kids[q].j, .int .i64 t.kids[q].n, .slice a' t.kids[q].kids.length cap'] _ du (by rfl) rfl (by rfl) (fun w' h => h.2.1) hu1 (by cases du <;> first | rfl | exact hu2) size_termW) ?_
            (try simp only [Act.put, List.setIfInBounds_toArray, List.set_cons_zero, List.set_cons_succ])
            refine take_at 2 95 o19C_2 (v := ?_) (Or.inl ⟨by rfl, ?_⟩) ?_
            rotate_left 1
            · ((intro w hSw; (try dsimp only at hSw); unfold o19C_2; go_simp) <;> with_reducible rfl)
            (try simp only [Act.put, List.setIfInBounds_toArray, List.set_cons_zero, List.set_cons_succ])
            refine take_at 3 96 o19C_3 (v := ?_) (Or.inl ⟨by rfl, ?_⟩) ?_
            rotate_left 1
            · ((intro w hSw; (try dsimp only at hSw); unfold o19C_3; go_simp) <;> with_reducible rfl)
            (try simp only [Act.put, List.setIfInBounds_toArray, List.set_cons_zero, List.set_cons_succ])
            refine take_at 4 97 o19C_4 (v := ?_) (Or.inl ⟨by rfl, ?_⟩) ?_
            rotate_left 1
            · ((intro w hSw; (try dsimp only at hSw); obtain ⟨hSa, hSb, hSc⟩ := hSw; unfold o19C_4; go_simp) <;> with_reducible rfl)
            (try simp only [Act.put, List.setIfInBounds_toArray, List.set_cons_zero, List.set_cons_succ])
            refine take_at 5 98 o19C_5 (v := ?_) (Or.inl ⟨by rfl, ?_⟩) ?_
            rotate_left 1
            · ((intro w hSw; (try dsimp only at hSw); unfold o19C_5; go_simp) <;> with_reducible rfl)
            (try simp only [Act.put, List.setIfInBounds_toArray, List.set_cons_zero, List.set_cons_succ])
            refine wpAnyH_ready (rs := [6]) (by kernel_rfl) (by simp) ?_
            refine AllReadyH.cons (o := o19C_6) rfl (fun K hK => ?_) ?_
            · unfold o19C_6
              go_simp
              (go_at_call 61; refine (binds_any _ _ _).mono ?_; rintro e w7 ⟨rfl, rfl⟩)
              refine hK.out _ _ ?_ (fun hHeld => ?_)
              · (try dsimp only)
                (first | exact hS8 | exact hHeld | exact hS0)
              clear hK K
              (try simp only [Act.put, List.setIfInBounds_toArray, List.set_cons_zero, List.set_cons_succ])
              refine take_at 7 100 o19C_7 (v := ?_) (Or.inl ⟨by rfl, ?_⟩) ?_
              rotate_left 1
              · ((intro w hSw; (try dsimp only at hSw); unfold o19C_7; go_simp) <;> with_reducible rfl)
              (try simp only [Act.put, List.setIfInBounds_toArray, List.set_cons_zero, List.set_cons_succ])
              refine wpAnyH_ready (rs := [8]) (by kernel_rfl) (by simp) ?_
              refine AllReadyH.cons (o := o19C_8) rfl (fun K hK => ?_) ?_
              · unfold o19C_8
                go_simp
                (go_at_call 38; with_reducible refine Calls.mono ((IH.out _ HM.out).use _ _ _ _ HQ.out HS6d.out.low HS6d.out.bld (HR.out _ HM.out) (by omega) HKF.out (by have := HKS.out; omega) (by have h1 := HROOM.out; have h2 := HBS.out; simp [Lib.byteCells] ; omega)) ?_; rintro e w8 ⟨rfl, hb8, hl8, hk8⟩)
                have HS8 := Lib.hid (HV.out.over (HS6d.out.put hb8 hl8 hk8))
                have hS8 := kid_keep2 HY.out HZ.out HNE.out hk8
                clear hb8 hl8 hk8 hHeld
                refine hK.out _ _ ?_ (fun hHeld => ?_)
                · (try dsimp only)
                  (first | exact hS8 | exact hHeld | exact hS0)
                clear hK K
                (try simp only [Act.put, List.setIfInBounds_toArray, List.set_cons_zero, List.set_cons_succ])
                refine wpAnyH_done (by kernel_rfl) ?_ _
                go_wp2
                go_roundw
                case rel => exact ⟨q + 1, by omega, by go_num, by have h := HS8.out; rw [HTK.out, HMD.out]; simpa [Lib.byteCells] using h⟩
                case measure => simp [intOf]; omega
              exact AllReadyH.nil
            exact AllReadyH.nil
          · obtain rfl : q = t.kids.length := by omega
            go_wp2_with fail
            refine (bbyte_any _ b _ _ _ HV.out.bld (by have := HLN.out; simp [Lib.byteCells]; omega) HV.out.hB).mono ?_
            rintro e w6 ⟨rfl, hb6, hl6, hk6⟩
            have HS6 := Lib.hid (HV.out.put hb6 hl6 hk6)
            have HB6 := Lib.hid hb6
            clear hb6 hl6 hk6
            go_wp2
            go_end0
            exact ⟨rfl, by have h := HB6.out; rw [HX.out]; rw [List.take_length] at h; simpa [Lib.byteCells] using h, HUP.out.trans HS6.out.up, HKP.out.trans HS6.out.kept⟩
end Go.Proofs.YtllkackipdcekaaDoor
