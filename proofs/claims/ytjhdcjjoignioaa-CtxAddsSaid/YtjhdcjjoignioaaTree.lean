/-
  Terms as trees: how a tree lies in memory behind a slice, and what stays of it when new memory is made. No function of the program is named here.
-/
import Derived.WalkKit
import Derived.Lib.Hide
namespace Go.Proofs.Ytjhdcjjoignioaa
open Go.RowKit

/-- A term: its kind, its three numbers, its kids. -/
inductive Tm where
  | mk (k i j n : Int) (l : List Tm)

namespace Tm
def k : Tm → Int | .mk k _ _ _ _ => k
def i : Tm → Int | .mk _ i _ _ _ => i
def j : Tm → Int | .mk _ _ j _ _ => j
def n : Tm → Int | .mk _ _ _ n _ => n
def kids : Tm → List Tm | .mk _ _ _ _ l => l
theorem eta (t : Tm) : Tm.mk t.k t.i t.j t.n t.kids = t := by cases t; rfl

theorem ind {P : Tm → Prop} (h : ∀ t, (∀ x ∈ t.kids, P x) → P t) : ∀ t, P t
  | .mk k i j n l => h (.mk k i j n l) (fun x (_ : x ∈ l) => ind h x)
end Tm

def I64 (x : Int) : Prop := -9223372036854775808 ≤ x ∧ x ≤ 9223372036854775807
def Tm.fine (t : Tm) : Prop := I64 t.k ∧ I64 t.i ∧ I64 t.j ∧ I64 t.n

/-- A term by value: s is the slice of its kids. -/
abbrev tv (t : Tm) (s : Value) : Value := .agg #[.int .i64 t.k, .int .i64 t.i, .int .i64 t.j, .int .i64 t.n, s]

/-- The five cells of a term at a place. -/
structure Node (w : World) (b o : Nat) (t : Tm) (s : Value) : Prop where
  c0 : w.cell? ⟨b, o, none⟩ = some (.int .i64 t.k)
  c1 : w.cell? ⟨b, o + 1, none⟩ = some (.int .i64 t.i)
  c2 : w.cell? ⟨b, o + 2, none⟩ = some (.int .i64 t.j)
  c3 : w.cell? ⟨b, o + 3, none⟩ = some (.int .i64 t.n)
  c4 : w.cell? ⟨b, o + 4, none⟩ = some s

/-- Terms that lie behind a slice. -/
inductive Lies (w : World) : List Tm → Value → Prop
  | mk (l : List Tm) (a : Option Addr) (cap : Nat) (S : Nat → Value) (hc : l.length ≤ cap) (hm : cap ≤ maxLen) (hf : ∀ x ∈ l, x.fine)
      (hn : ∀ i (h : i < l.length), ∃ b o, a = some ⟨b, o, none⟩ ∧ Node w b (o + i * 5) l[i] (S i)) (hk : ∀ i (h : i < l.length), Lies w (l[i]).kids (S i)) : Lies w l (.slice a l.length cap)

theorem Lies.out {w : World} {l : List Tm} {s : Value} (h : Lies w l s) : ∃ (a : Option Addr) (cap : Nat) (S : Nat → Value), s = .slice a l.length cap ∧ l.length ≤ cap ∧ cap ≤ maxLen ∧ (∀ x ∈ l, x.fine) ∧
    (∀ i (h : i < l.length), ∃ b o, a = some ⟨b, o, none⟩ ∧ Node w b (o + i * 5) l[i] (S i)) ∧ (∀ i (h : i < l.length), Lies w (l[i]).kids (S i)) := by
  cases h with
  | mk l a cap S hc hm hf hn hk => exact ⟨a, cap, S, rfl, hc, hm, hf, hn, hk⟩

theorem Node.lt {w : World} {b o : Nat} {t : Tm} {s : Value} (h : Node w b o t s) : b < w.heap.size := World.block_lt_of_cell? _ _ h.c0

theorem Node.below {w w' : World} {b o B : Nat} {t : Tm} {s : Value} (h : Node w b o t s) (hb : Below B w w') (hB : b < B) : Node w' b o t s :=
  ⟨(hb.cell (by exact hB)).trans h.c0, (hb.cell (by exact hB)).trans h.c1, (hb.cell (by exact hB)).trans h.c2, (hb.cell (by exact hB)).trans h.c3, (hb.cell (by exact hB)).trans h.c4⟩

/-- What lies in a world lies in every later one. -/
theorem Lies.keep {w w' : World} {l : List Tm} {s : Value} (h : Lies w l s) (hb : Below w.heap.size w w') : Lies w' l s := by
  induction h with
  | mk l a cap S hc hm hf hn hk ih =>
    exact .mk l a cap S hc hm hf (fun i hi => by obtain ⟨b, o, ha, hx⟩ := hn i hi; exact ⟨b, o, ha, hx.below hb hx.lt⟩) ih

end Go.Proofs.Ytjhdcjjoignioaa
