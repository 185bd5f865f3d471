/-
  Facts and contracts that the proof of HetMakes uses.
-/
import Derived.Test.YtkdceahmknhojaaRows
import Derived.WalkKit
import Derived.Lib.Hide
import Derived.KernelRfl
import Derived.Deep.RegionWith
import Derived.Deep.RegionHeld3
import Derived.Deep.AppendLies
import Derived.Laws.Rows
import Derived.Laws.IdiomCopy
import Derived.Deep.Slices
import Derived.Lib.QuietBelow
import Derived.StillTailTactics
import Derived.BigQuiet
import Derived.IntWalk
import Derived.OwnWalk
import Derived.Deep.RegionLaw
import Derived.Deep.QuietTactic
import Derived.Deep.LoopGhost
import Derived.Deep.DeepCutAuto
import Derived.Deep.MidRow
import Derived.OrdersHeld
import Derived.Laws.Tables
import Derived.Laws.CopyOwn
import Derived.Laws.CopyRow
import Derived.Deep.RegionHeld
import Derived.ProofKit
import Derived.OpenShut
import Derived.Carry
import Derived.ChangeSlices
import Derived.JoinedOf
import Derived.Test.YtkdceahmknhojaaHetMakesQ1
namespace Go.Proofs.Ytkdceahmknhojaa

/-- An equality across types. -/
structure He where
  i : Int
  a : Tm
  b : Tm
  x : Tm
  y : Tm
  h : Tm
def He.zero : He := ⟨0, .zero, .zero, .zero, .zero, .zero⟩
def He.fine (h : He) : Prop := I64 h.i ∧ h.a.fine ∧ h.b.fine ∧ h.x.fine ∧ h.y.fine ∧ h.h.fine
/-- A family. -/
structure Fm where
  i : Int
  j : Int
  a : Tm
  c : Tm
  b : Tm
  d : Tm
  e : Tm
  f : Tm
def Fm.fine (g : Fm) : Prop := I64 g.i ∧ I64 g.j ∧ g.a.fine ∧ g.c.fine ∧ g.b.fine ∧ g.d.fine ∧ g.e.fine ∧ g.f.fine

/-- A level, with so many above it. -/
def levN (low i : Int) : Bool := decide (0 ≤ i) && decide (i ≤ 1000 - low)
theorem levN_true {low i : Int} (h : levN low i = true) : 0 ≤ i ∧ i ≤ 1000 - low := by unfold levN at h; simp at h; exact h
/-- All are plain. -/
def plainL (l : List Tm) : Bool := l.all Tm.plainB
theorem plainL_iff {l : List Tm} : plainL l = true ↔ ∀ x ∈ l, x.plainB = true := by unfold plainL; exact List.all_eq_true
def heR2 (i : Int) (l : List Tm) : Bool := levN 2 i && plainL l
def heR (h : He) : Bool := heR2 h.i [h.a, h.b, h.x, h.y, h.h]
def sortT (i : Int) : Tm := .mk 1 i 0 0 []
def useT (n i j : Int) (l : List Tm) : Tm := .mk 23 i j n l
def nodeT (k : Int) (l : List Tm) : Tm := .mk k 0 0 0 l
def pointT (i : Int) (a x : Tm) : Tm := nodeT 17 [sortT i, varT 0, a, x]
def pointsT (i : Int) : Tm := nodeT 16 [sortT i, varT 0]
def pointB (i : Int) (a x : Tm) : Tm := if heR2 i [a, x] then pointT i a x else .zero
def pointsB (i : Int) : Tm := if heR2 i [] then pointsT i else .zero
def heType (h : He) : Tm := if heR h then useT 6 h.i 0 [h.a, h.b, h.x, h.y] else .zero
def heSelf (i : Int) (a x : Tm) : He := if heR2 i [a, x] then ⟨i, a, a, x, x, nodeT 21 [pointsT i, pointT i a x]⟩ else .zero
def heTurn (h : He) : He := if heR h then ⟨h.i, h.b, h.a, h.y, h.x, useT 3 (h.i + 1) 0 [pointsT h.i, pointT h.i h.a h.x, pointT h.i h.b h.y, h.h]⟩ else .zero
def heEq (h : He) : Tm := if heR h then useT 10 h.i 0 [h.a, h.x, h.y, h.h] else .zero
def heOf (i : Int) (a x y e : Tm) : He := if heR2 i [a, x, y, e] then ⟨i, a, a, x, y, useT 11 i 0 [a, x, y, e]⟩ else .zero
def heMoved (i : Int) (a b p x : Tm) : He := if heR2 i [a, b, p, x] then ⟨i, a, b, x, useT 5 i 0 [a, b, p, x], useT 8 i 0 [a, b, p, x]⟩ else .zero
def heUp (h : He) (k : Int) : He := ⟨h.i, h.a.liftB k 0, h.b.liftB k 0, h.x.liftB k 0, h.y.liftB k 0, h.h.liftB k 0⟩
def heLift (h : He) (k : Int) : He := if heR h && heR (heUp h k) then heUp h k else .zero

theorem heR2_lev {i : Int} {l : List Tm} (h : heR2 i l = true) : levN 2 i = true := by unfold heR2 at h; simp only [Bool.and_eq_true] at h; exact h.1
theorem heR2_pl {i : Int} {l : List Tm} (h : heR2 i l = true) : ∀ x ∈ l, x.plainB = true := by unfold heR2 at h; simp only [Bool.and_eq_true] at h; exact plainL_iff.1 h.2
theorem heR_lev {h : He} (H : heR h = true) : levN 2 h.i = true := heR2_lev H
theorem heR_pl {h : He} (H : heR h = true) : ∀ x ∈ [h.a, h.b, h.x, h.y, h.h], x.plainB = true := heR2_pl H
theorem lev_succ {low i : Int} (h : levN low i = true) (hl : 0 ≤ low) : I64 (i + 1) := by have := levN_true h; unfold I64; omega
theorem use_fine {n i : Int} {l : List Tm} (hn : I64 n) (hi : I64 i) (hj : I64 0) : (useT n i 0 l).fine := ⟨by show I64 23; unfold I64; decide, hi, hj, hn⟩
theorem sort_plain {i : Int} (h : levN 2 i = true) : (sortT i).plainB = true := by
  have := levN_true h
  rw [Tm.plainB_eq]; unfold sortT
  have hl : levelB i = true := by unfold levelB; simp; omega
  simp [Tm.nodeB, mk_k, mk_i, mk_j, mk_n, mk_kids, kidsN, numbersN, hl, plains]
theorem var0_plain : (varT 0).plainB = true := by rw [Tm.plainB_eq]; rfl
theorem points_plain {i : Int} (h : levN 2 i = true) : (pointsT i).plainB = true := by
  have e1 := sort_plain h
  have e2 := var0_plain
  rw [Tm.plainB_eq]; unfold pointsT nodeT
  simp [Tm.nodeB, mk_k, mk_i, mk_j, mk_n, mk_kids, kidsN, numbersN, plains, e1, e2]
theorem point_plain {i : Int} {a x : Tm} (h : levN 2 i = true) (ha : a.plainB = true) (hx : x.plainB = true) : (pointT i a x).plainB = true := by
  have e1 := sort_plain h
  have e2 := var0_plain
  rw [Tm.plainB_eq]; unfold pointT nodeT
  simp [Tm.nodeB, mk_k, mk_i, mk_j, mk_n, mk_kids, kidsN, numbersN, plains, e1, e2, ha, hx]
theorem lev_level {low i : Int} (h : levN low i = true) (hl : 0 ≤ low) : levelB i = true := by have := levN_true h; unfold levelB; simp; omega
theorem plainL_plains {l : List Tm} (h : ∀ x ∈ l, x.plainB = true) : plains l = true := plains_all h
theorem use_plain {n i j : Int} {l : List Tm} (hk : kidsN 23 n = l.length) (hi : levelB i = true) (hj : levelB j = true) (hp : ∀ x ∈ l, x.plainB = true) : (useT n i j l).plainB = true := by
  have e := plainL_plains hp
  rw [Tm.plainB_eq]; unfold useT
  simp [Tm.nodeB, mk_k, mk_i, mk_j, mk_n, mk_kids, numbersN, hk, hi, hj, e]
/-- A lifted plain term is plain, or there is none. -/
theorem lift_plain {t : Tm} (k : Int) (h : t.plainB = true) : ((t.liftB k 0).plainB = true ∧ (t.liftB k 0).k ≠ 0 ∧ 0 ≤ k) ∨ (t.liftB k 0 = .zero) := by
  by_cases hk : k < 0
  · exact Or.inr (liftB_bad (Or.inl hk))
  · rw [liftB_good (by omega) (Int.le_refl _) (plain_right h)]
    cases he : t.each (liftF k 0) 0 with
    | none => exact Or.inr rfl
    | some u =>
      have := (each_keeps (liftF k 0) (liftF_range k 0 (by omega)) t 0 u (plain_right h) he).2.1
      rw [h] at this
      refine Or.inl ⟨this, ?_, by omega⟩
      have := plain_kind this
      show u.k ≠ 0
      omega
theorem zero_plain : Tm.zero.plainB = false := by rw [Tm.plainB_eq]; rfl
theorem lift_plain_k {t : Tm} (k : Int) (h : t.plainB = true) : (t.liftB k 0).plainB = ((t.liftB k 0).k != 0) := by
  rcases lift_plain k h with ⟨h1, h2, -⟩ | h1
  · rw [h1]; symm; simpa using h2
  · rw [h1, zero_plain]; rfl
theorem lift_neg {t : Tm} {k : Int} (h : k < 0) : t.liftB k 0 = .zero := liftB_bad (Or.inl h)
theorem heLift_neg (h : He) {k : Int} (hk : k < 0) : heLift h k = .zero := by
  unfold heLift heUp heR heR2 plainL
  rw [lift_neg hk, lift_neg hk, lift_neg hk, lift_neg hk, lift_neg hk]
  simp [zero_plain]
/-- What the page asks: that none of the five is nothing. -/
theorem heLift_kinds {h : He} (k : Int) (hr : heR h = true) : heLift h k = if [h.a, h.b, h.x, h.y, h.h].all (fun t => (t.liftB k 0).k != 0) then heUp h k else .zero := by
  unfold heLift
  rw [hr]
  unfold heR heR2 at hr
  simp only [Bool.and_eq_true] at hr
  have hp := plainL_iff.1 hr.2
  have e : heR (heUp h k) = [h.a, h.b, h.x, h.y, h.h].all (fun t => (t.liftB k 0).k != 0) := by
    unfold heR heR2 heUp plainL
    simp only [List.all_cons, List.all_nil, hr.1, Bool.true_and]
    rw [lift_plain_k k (hp h.a (by simp)), lift_plain_k k (hp h.b (by simp)), lift_plain_k k (hp h.x (by simp)), lift_plain_k k (hp h.y (by simp)), lift_plain_k k (hp h.h (by simp))]
  rw [e, Bool.true_and]

end Go.Proofs.Ytkdceahmknhojaa

namespace Go.Proofs.Ytkdceahmknhojaa
open Go.RowKit

/-- What was there is there, but for block g. -/
def Sees (V : World) (g : Nat) (w' : World) : Prop := ∀ k, k < V.heap.size → k ≠ g → w'.heap[k]? = V.heap[k]?
theorem sees_kept {V W : World} (g : Nat) (h : Kept V W) : Sees V g W := fun k hk _ => Below.block h k hk
theorem sees_of {V W w' : World} {g : Nat} (h : Kept V W) (hs : Sees W g w') : Sees V g w' := fun k hk hne => (hs k (Nat.lt_of_lt_of_le hk (Below.size h)) hne).trans (Below.block h k hk)
theorem extract_list {C vs : Array Value} {o : Nat} (h : (C.toList.drop o).take vs.size = vs.toList) : C.extract o (o + vs.size) = vs := by
  apply Array.toList_inj.1
  rw [← h, Array.toList_extract]
  simp
/-- A cell of a block. -/
theorem part_cell {V : World} {r g : Nat} {C : Array Value} {T : TypeId} {fr : Nat × Nat} (h : V.heap[g]? = some (.cells C T fr)) (hne : g ≠ r) (o : Nat) (v : Value) (hv : C[o]? = some v) : ∀ w', Sees V r w' → w'.cell? ⟨g, o, none⟩ = some v := fun w' hk => by
  have hb : w'.heap[g]? = some (.cells C T fr) := (hk g (block_lt h) hne).trans h
  rw [cell_of_row w' g o C T fr hb]; exact hv
theorem kept_refl (w : World) : Kept w w := Below.refl _ _
theorem kept_trans {w w1 w2 : World} (h : Kept w w1) (h' : Kept w1 w2) : Kept w w2 := kept_call h h'
theorem kept_new (w : World) (o : Obj) : Kept w (w.alloc o) := (Below.refl _ _).alloc (Nat.le_refl _) _

/-- An equality across types by value. -/
abbrev hv (h : He) (sa sb sx sy sh : Value) : Value := .agg #[.int .i64 h.i, .int .i64 h.a.k, .int .i64 h.a.i, .int .i64 h.a.j, .int .i64 h.a.n, sa, .int .i64 h.b.k, .int .i64 h.b.i, .int .i64 h.b.j, .int .i64 h.b.n, sb, .int .i64 h.x.k, .int .i64 h.x.i, .int .i64 h.x.j, .int .i64 h.x.n, sx, .int .i64 h.y.k, .int .i64 h.y.i, .int .i64 h.y.j, .int .i64 h.y.n, sy, .int .i64 h.h.k, .int .i64 h.h.i, .int .i64 h.h.j, .int .i64 h.h.n, sh]
def HLies (w : World) (h : He) (sa sb sx sy sh : Value) : Prop := Lies w h.a.kids sa ∧ Lies w h.b.kids sb ∧ Lies w h.x.kids sx ∧ Lies w h.y.kids sy ∧ Lies w h.h.kids sh
theorem HLies.keep {w w' : World} {h : He} {sa sb sx sy sh : Value} (H : HLies w h sa sb sx sy sh) (hb : Kept w w') : HLies w' h sa sb sx sy sh := ⟨H.1.keep hb, H.2.1.keep hb, H.2.2.1.keep hb, H.2.2.2.1.keep hb, H.2.2.2.2.keep hb⟩
def FLies (w : World) (g : Fm) (sa sc sb sd se sf : Value) : Prop := Lies w g.a.kids sa ∧ Lies w g.c.kids sc ∧ Lies w g.b.kids sb ∧ Lies w g.d.kids sd ∧ Lies w g.e.kids se ∧ Lies w g.f.kids sf
theorem FLies.keep {w w' : World} {g : Fm} {sa sc sb sd se sf : Value} (H : FLies w g sa sc sb sd se sf) (hb : Kept w w') : FLies w' g sa sc sb sd se sf := ⟨H.1.keep hb, H.2.1.keep hb, H.2.2.1.keep hb, H.2.2.2.1.keep hb, H.2.2.2.2.1.keep hb, H.2.2.2.2.2.keep hb⟩

end Go.Proofs.Ytkdceahmknhojaa

namespace Go.Proofs.Ytkdceahmknhojaa
open Go.RowKit

/-- Terms behind a slice, at whatever place of blocks of which P speaks. -/
inductive LiesQ (w : World) (P : Nat → Prop) : List Tm → Value → Prop
  | mk (l : List Tm) (a : Option Addr) (cap : Nat) (S : Nat → Value) (hc : l.length ≤ cap) (hm : cap ≤ maxLen) (hf : ∀ x ∈ l, x.fine)
      (hn : ∀ i (h : i < l.length), ∃ b o, a = some ⟨b, o, none⟩ ∧ P b ∧ Node w b (o + i * 5) l[i] (S i)) (hk : ∀ i (h : i < l.length), LiesQ w P (l[i]).kids (S i)) : LiesQ w P l (.slice a l.length cap)

theorem LiesQ.lies {w : World} {P : Nat → Prop} {l : List Tm} {s : Value} (h : LiesQ w P l s) : Lies w l s := by
  induction h with
  | mk l a cap S hc hm hf hn hk ih => exact .mk l a cap S hc hm hf (fun i hi => by obtain ⟨b, o, ha, _, hx⟩ := hn i hi; exact ⟨b, o, ha, hx⟩) ih
theorem Lies.q {w : World} {l : List Tm} {s : Value} (h : Lies w l s) : LiesQ w (fun b => b < w.heap.size) l s := by
  induction h with
  | mk l a cap S hc hm hf hn hk ih => exact .mk l a cap S hc hm hf (fun i hi => by obtain ⟨b, o, ha, hx⟩ := hn i hi; exact ⟨b, o, ha, hx.lt, hx⟩) ih
theorem LiesQ.keep {w w' : World} {P Q : Nat → Prop} {l : List Tm} {s : Value} (h : LiesQ w P l s) (hb : ∀ b, P b → b < w.heap.size → w'.heap[b]? = w.heap[b]?) (hq : ∀ b, P b → b < w.heap.size → Q b) : LiesQ w' Q l s := by
  induction h with
  | mk l a cap S hc hm hf hn hk ih =>
    exact .mk l a cap S hc hm hf (fun i hi => by obtain ⟨b, o, ha, hp, hx⟩ := hn i hi; exact ⟨b, o, ha, hq b hp hx.lt, hx.same (hb b hp hx.lt)⟩) ih
theorem LiesQ.later {w w' : World} {P : Nat → Prop} {l : List Tm} {s : Value} (h : LiesQ w P l s) (hb : Below w.heap.size w w') : LiesQ w' P l s := h.keep (fun b _ hlt => hb.block b hlt) (fun _ hp _ => hp)
theorem LiesQ.wide {w : World} {P Q : Nat → Prop} {l : List Tm} {s : Value} (h : LiesQ w P l s) (hq : ∀ b, P b → Q b) : LiesQ w Q l s := h.keep (fun _ _ _ => rfl) (fun b hp _ => hq b hp)
theorem LiesQ.out {w : World} {P : Nat → Prop} {l : List Tm} {s : Value} (h : LiesQ w P l s) : ∃ (a : Option Addr) (cap : Nat) (S : Nat → Value), s = .slice a l.length cap ∧ l.length ≤ cap ∧ cap ≤ maxLen ∧ (∀ x ∈ l, x.fine) ∧
    (∀ i (h : i < l.length), ∃ b o, a = some ⟨b, o, none⟩ ∧ P b ∧ Node w b (o + i * 5) l[i] (S i)) ∧ (∀ i (h : i < l.length), LiesQ w P (l[i]).kids (S i)) := by
  cases h with
  | mk l a cap S hc hm hf hn hk => exact ⟨a, cap, S, rfl, hc, hm, hf, hn, hk⟩
theorem liesQ_nil (w : World) (P : Nat → Prop) : LiesQ w P [] (.slice none 0 0) := .mk [] none 0 (fun _ => .nilIface) (Nat.le_refl _) (by decide) (fun _ h => by cases h) (fun _ h => by cases h) (fun _ h => by cases h)

/-- What lies in a call's own memory. -/
theorem LiesP.q {w : World} {P : Nat → Prop} {l : List Tm} {s : Value} (h : LiesP w P l s) : LiesQ w P l s := by
  induction h with
  | mk l a cap S hc hm hf hn hk ih => exact .mk l a cap S hc hm hf (fun i hi => by obtain ⟨b, ha, hp, hx⟩ := hn i hi; exact ⟨b, 0, ha, hp, by rw [Nat.zero_add]; exact hx⟩) ih

/-- Blocks that were there before E, or that are new since N. -/
def Far (E N b : Nat) : Prop := b < E ∨ N ≤ b
structure MadeQ (E N B : Nat) (w : World) (v : Value) (ps : List (Tm × Value)) : Prop where
  own : w.ownsRow B 32 5 v ps.length (cells5 ps)
  fine : ∀ p ∈ ps, p.1.fine
  kids : ∀ p ∈ ps, LiesQ w (fun b => Far E N b ∧ v.ownBlock ≠ some b) p.1.kids p.2
theorem madeQ_nil (E N B : Nat) (w : World) : MadeQ E N B w (.slice none 0 0) [] := ⟨⟨rfl, Or.inl ⟨rfl, rfl⟩⟩, (fun _ h => by cases h), (fun _ h => by cases h)⟩
theorem madeQ_later {E N B : Nat} {w w' : World} {v : Value} {ps : List (Tm × Value)} (h : MadeQ E N B w v ps) (hb : Below w.heap.size w w') : MadeQ E N B w' v ps := by
  refine ⟨?_, h.fine, fun p hp => (h.kids p hp).later hb⟩
  obtain ⟨h1, h2⟩ := h.own
  refine ⟨h1, ?_⟩
  rcases h2 with h2 | ⟨g, cap, cur, hv, hg, hh, r⟩
  · exact Or.inl h2
  · refine Or.inr ⟨g, cap, cur, hv, hg, ?_, r⟩
    rw [hb.block g ?_]; exact hh
    exact (Array.getElem?_eq_some_iff.1 hh).1
/-- The block of the list lies between. -/
theorem madeQ_block {E N B : Nat} {w : World} {v : Value} {ps : List (Tm × Value)} (h : MadeQ E N B w v ps) {g : Nat} (hg : v.ownBlock = some g) : B ≤ g ∧ g < w.heap.size := by
  rcases h.own.2 with ⟨rfl, -⟩ | ⟨g', cap, cur, rfl, hg', hh, -⟩
  · simp [Value.ownBlock] at hg
  · have := (Array.getElem?_eq_some_iff.1 hh).1
    simp [Value.ownBlock] at hg
    omega
/-- What a kid's call has handed back is appended. -/
theorem madeQ_push {E N B : Nat} {wr w2 w3 : World} {v : Value} {ps : List (Tm × Value)} {u : Tm} {s2 : Value} {g cap : Nat} (h : MadeQ E N B wr v ps) (hEN : E ≤ N) (hNB : N ≤ B) (hB : B ≤ wr.heap.size) (hf : u.fine) (hb2 : Below wr.heap.size wr w2)
    (hk : LiesQ w2 (Far E wr.heap.size) u.kids s2) (o : Obj) (hown : w3.ownsRow B 32 5 (.slice (some ⟨g, 0, none⟩) (ps.length + 1) cap) (ps.length + 1) (cells5 ps ++ cells5 [(u, s2)]))
    (hgrow : (w2.alloc o).grownBy w3 v.ownBlock) (hat : v.ownBlock = some g ∨ g = (w2.alloc o).heap.size) : MadeQ E N B w3 (.slice (some ⟨g, 0, none⟩) (ps.length + 1) cap) (ps ++ [(u, s2)]) := by
  have hs2 : (w2.alloc o).heap.size = w2.heap.size + 1 := by simp
  have hsz := hb2.size
  have h2 : MadeQ E N B (w2.alloc o) v ps := madeQ_later (madeQ_later h hb2) ((Below.refl _ _).alloc (Nat.le_refl _) _)
  have keep : ∀ q : Tm × Value, LiesQ (w2.alloc o) (fun b => Far E N b ∧ v.ownBlock ≠ some b) q.1.kids q.2 → LiesQ w3 (fun b => Far E N b ∧ (Value.slice (some ⟨g, 0, none⟩) (ps.length + 1) cap).ownBlock ≠ some b) q.1.kids q.2 := fun q hq =>
    hq.keep (fun b hb hlt => hgrow.block b hlt (fun e => hb.2 e.symm)) (fun b hb hlt => ⟨hb.1, by
      show some g ≠ some b
      rcases hat with e | e
      · rw [← e]; exact hb.2
      · intro e'; have := Option.some.inj e'; omega⟩)
  have hnew : LiesQ (w2.alloc o) (fun b => Far E N b ∧ v.ownBlock ≠ some b) u.kids s2 :=
    (hk.later ((Below.refl _ _).alloc (Nat.le_refl _) o)).wide (fun b hb => ⟨by rcases hb with hb | hb; exact Or.inl hb; exact Or.inr (by omega), fun e => by
      have := madeQ_block h e
      rcases hb with hb | hb <;> omega⟩)
  refine ⟨by rw [cells5_append]; simpa using hown, fun q hq => ?_, fun q hq => ?_⟩
  · rcases List.mem_append.1 hq with hq | hq
    · exact h.fine q hq
    · rw [List.mem_singleton.1 hq]; exact hf
  · rcases List.mem_append.1 hq with hq | hq
    · exact keep q (h2.kids q hq)
    · rw [List.mem_singleton.1 hq]; exact keep (u, s2) hnew
theorem madeQ_above {E N B : Nat} {w : World} {v : Value} {ps : List (Tm × Value)} (h : MadeQ E N B w v ps) : ∀ g, v.ownBlock = some g → B ≤ g := fun _ hg => (madeQ_block h hg).1
/-- The list as terms. -/
theorem madeQ_lies {E N B : Nat} {w : World} {v : Value} {ps : List (Tm × Value)} (h : MadeQ E N B w v ps) (hNB : N ≤ B) : LiesQ w (Far E N) (ps.map (·.1)) v := by
  have fin : ∀ x ∈ ps.map (·.1), x.fine := fun x hx => by obtain ⟨p, hp, rfl⟩ := List.mem_map.1 hx; exact h.fine p hp
  have kid : ∀ i (hi : i < ps.length), LiesQ w (Far E N) (ps[i]).1.kids (ps[i]).2 := fun i hi => (h.kids _ (List.getElem_mem hi)).wide (fun _ hb => hb.1)
  obtain ⟨-, ⟨rfl, hn⟩ | ⟨g, cap, cur, rfl, hg, hh, hnc, hcm, hsz, htk⟩⟩ := h.own
  · obtain rfl : ps = [] := List.eq_nil_of_length_eq_zero hn
    exact liesQ_nil _ _
  · have := LiesQ.mk (w := w) (P := Far E N) (ps.map (·.1)) (some ⟨g, 0, none⟩) cap (fun i => (ps[i]?.map (·.2)).getD (.slice none 0 0)) (by simpa using hnc) hcm fin
      (fun i hi => by
        have hi' : i < ps.length := by simpa using hi
        refine ⟨g, 0, rfl, Or.inr (by omega), ?_⟩
        simp only [List.getElem_map, List.getElem?_eq_getElem hi', Option.map_some, Option.getD_some, Nat.zero_add]
        have cellq : ∀ q, q < 5 → w.cell? ⟨g, i * 5 + q, none⟩ = [Value.int .i64 (ps[i]).1.k, .int .i64 (ps[i]).1.i, .int .i64 (ps[i]).1.j, .int .i64 (ps[i]).1.n, (ps[i]).2][q]? := fun q hq => by
          rw [h.own.cellAt (i * 5 + q) (by omega)]; exact cells5_get ps i hi' q hq
        exact ⟨cellq 0 (by omega), cellq 1 (by omega), cellq 2 (by omega), cellq 3 (by omega), cellq 4 (by omega)⟩)
      (fun i hi => by
        have hi' : i < ps.length := by simpa using hi
        simp only [List.getElem_map, List.getElem?_eq_getElem hi', Option.map_some, Option.getD_some]
        exact kid i hi')
    simpa using this
end Go.Proofs.Ytkdceahmknhojaa

namespace Go.Proofs.Ytkdceahmknhojaa
open Go.RowKit

/-- An entry: a type, its level. -/
structure En where
  a : Tm
  i : Int

def En.fine (e : En) : Prop := e.a.fine ∧ I64 e.i

/-- The six cells of an entry at a place. -/
structure ENode (w : World) (b o : Nat) (e : En) (s : Value) : Prop where
  c0 : w.cell? ⟨b, o, none⟩ = some (.int .i64 e.a.k)
  c1 : w.cell? ⟨b, o + 1, none⟩ = some (.int .i64 e.a.i)
  c2 : w.cell? ⟨b, o + 2, none⟩ = some (.int .i64 e.a.j)
  c3 : w.cell? ⟨b, o + 3, none⟩ = some (.int .i64 e.a.n)
  c4 : w.cell? ⟨b, o + 4, none⟩ = some s
  c5 : w.cell? ⟨b, o + 5, none⟩ = some (.int .i64 e.i)

theorem ENode.lt {w : World} {b o : Nat} {e : En} {s : Value} (h : ENode w b o e s) : b < w.heap.size := World.block_lt_of_cell? _ _ h.c0
theorem ENode.below {w w' : World} {b o B : Nat} {e : En} {s : Value} (h : ENode w b o e s) (hb : Below B w w') (hB : b < B) : ENode w' b o e s :=
  ⟨(hb.cell (by exact hB)).trans h.c0, (hb.cell (by exact hB)).trans h.c1, (hb.cell (by exact hB)).trans h.c2, (hb.cell (by exact hB)).trans h.c3, (hb.cell (by exact hB)).trans h.c4, (hb.cell (by exact hB)).trans h.c5⟩
theorem ENode.same {w w' : World} {b o : Nat} {e : En} {s : Value} (h : ENode w b o e s) (hb : w'.heap[b]? = w.heap[b]?) : ENode w' b o e s :=
  ⟨(World.cell?_of_block (a := ⟨b, o, none⟩) hb).trans h.c0, (World.cell?_of_block (a := ⟨b, o + 1, none⟩) hb).trans h.c1, (World.cell?_of_block (a := ⟨b, o + 2, none⟩) hb).trans h.c2,
    (World.cell?_of_block (a := ⟨b, o + 3, none⟩) hb).trans h.c3, (World.cell?_of_block (a := ⟨b, o + 4, none⟩) hb).trans h.c4, (World.cell?_of_block (a := ⟨b, o + 5, none⟩) hb).trans h.c5⟩

/-- Entries that lie behind a slice. -/
structure LiesE (w : World) (l : List En) (s : Value) : Prop where
  out : ∃ (a : Option Addr) (cap : Nat) (S : Nat → Value), s = .slice a l.length cap ∧ l.length ≤ cap ∧ cap ≤ maxLen ∧ (∀ x ∈ l, x.fine) ∧
    (∀ i (h : i < l.length), ∃ b o, a = some ⟨b, o, none⟩ ∧ ENode w b (o + i * 6) l[i] (S i)) ∧ (∀ i (h : i < l.length), Lies w (l[i]).a.kids (S i))

theorem LiesE.keep {w w' : World} {l : List En} {s : Value} (h : LiesE w l s) (hb : Below w.heap.size w w') : LiesE w' l s := by
  obtain ⟨a, cap, S, hs, hc, hm, hf, hn, hk⟩ := h.out
  exact ⟨a, cap, S, hs, hc, hm, hf, fun i hi => by obtain ⟨b, o, ha, hx⟩ := hn i hi; exact ⟨b, o, ha, hx.below hb hx.lt⟩, fun i hi => (hk i hi).keep hb⟩
end Go.Proofs.Ytkdceahmknhojaa

namespace Go.Proofs.Ytkdceahmknhojaa
open Go.RowKit

/-- A block of entries of the call's own. -/
def OwnE (B : Nat) (w : World) (b : Nat) : Prop := B ≤ b ∧ ∃ cs, w.heap[b]? = some (.cells cs 97 (0, 0))
theorem OwnE.same {B : Nat} {w w' : World} {b : Nat} (h : OwnE B w b) (hb : w'.heap[b]? = w.heap[b]?) : OwnE B w' b := ⟨h.1, by rw [hb]; exact h.2⟩

/-- Entries behind a slice, all in memory from block B on that is open. -/
structure LiesEP (w : World) (B : Nat) (l : List En) (s : Value) : Prop where
  out : ∃ (a : Option Addr) (cap : Nat) (S : Nat → Value), s = .slice a l.length cap ∧ l.length ≤ cap ∧ cap ≤ maxLen ∧ (∀ x ∈ l, x.fine) ∧
    (∀ i (h : i < l.length), ∃ b, a = some ⟨b, 0, none⟩ ∧ OwnE B w b ∧ ENode w b (i * 6) l[i] (S i)) ∧ (∀ i (h : i < l.length), LiesP w (Own B w) (l[i]).a.kids (S i))
theorem LiesEP.lies {w : World} {B : Nat} {l : List En} {s : Value} (h : LiesEP w B l s) : LiesE w l s := by
  obtain ⟨a, cap, S, hs, hc, hm, hf, hn, hk⟩ := h.out
  exact ⟨a, cap, S, hs, hc, hm, hf, fun i hi => by obtain ⟨b, ha, _, hx⟩ := hn i hi; exact ⟨b, 0, ha, by rw [Nat.zero_add]; exact hx⟩, fun i hi => (hk i hi).lies⟩
theorem LiesEP.keep {w w' : World} {B : Nat} {l : List En} {s : Value} (h : LiesEP w B l s) (hb : ∀ b, B ≤ b → b < w.heap.size → w'.heap[b]? = w.heap[b]?) : LiesEP w' B l s := by
  obtain ⟨a, cap, S, hs, hc, hm, hf, hn, hk⟩ := h.out
  exact ⟨a, cap, S, hs, hc, hm, hf, fun i hi => by obtain ⟨b, ha, hp, hx⟩ := hn i hi; exact ⟨b, ha, hp.same (hb b hp.1 hx.lt), hx.same (hb b hp.1 hx.lt)⟩,
    fun i hi => (hk i hi).keep (fun b hp hlt => hb b hp.1 hlt) (fun b hp hlt => hp.same (hb b hp.1 hlt))⟩
theorem LiesEP.later {w w' : World} {B : Nat} {l : List En} {s : Value} (h : LiesEP w B l s) (hb : Below w.heap.size w w') : LiesEP w' B l s := h.keep (fun b _ hlt => hb.block b hlt)
theorem LiesEP.from {w : World} {B B' : Nat} {l : List En} {s : Value} (h : LiesEP w B l s) (hB : B' ≤ B) : LiesEP w B' l s := by
  obtain ⟨a, cap, S, hs, hc, hm, hf, hn, hk⟩ := h.out
  exact ⟨a, cap, S, hs, hc, hm, hf, fun i hi => by obtain ⟨b, ha, hp, hx⟩ := hn i hi; exact ⟨b, ha, ⟨Nat.le_trans hB hp.1, hp.2⟩, hx⟩, fun i hi => (hk i hi).from hB⟩
def cells6 : List (En × Value) → List Value
  | [] => []
  | (t, s) :: r => .int .i64 t.a.k :: .int .i64 t.a.i :: .int .i64 t.a.j :: .int .i64 t.a.n :: s :: .int .i64 t.i :: cells6 r
/-- A row of entries that the call has made so far. -/
structure MadeE (B : Nat) (w : World) (v : Value) (ps : List (En × Value)) : Prop where
  own : w.ownsRow B 97 6 v ps.length (cells6 ps)
  fine : ∀ p ∈ ps, p.1.fine
  kids : ∀ p ∈ ps, LiesP w (fun b => Own B w b ∧ v.ownBlock ≠ some b) p.1.a.kids p.2
/-- The six cells of an element, written one behind the other. -/
def put6 (w : World) (g o : Nat) (t : En) (s : Value) : World := (put5 w g o t.a s).setCell ⟨g, o + 5, none⟩ (.int .i64 t.i)
theorem put6_other (w : World) (g o : Nat) (t : En) (s : Value) {b : Nat} (h : b ≠ g) : (put6 w g o t s).heap[b]? = w.heap[b]? := by
  unfold put6; rw [Below.heap_setCell _ _ _ _ (by exact h), put5_other _ _ _ _ _ h]
theorem ENode.node {w : World} {b o : Nat} {e : En} {s : Value} (h : ENode w b o e s) : Node w b o e.a s := ⟨h.c0, h.c1, h.c2, h.c3, h.c4⟩
theorem ENode.of {w : World} {b o : Nat} {e : En} {s : Value} (h : Node w b o e.a s) (h5 : w.cell? ⟨b, o + 5, none⟩ = some (.int .i64 e.i)) : ENode w b o e s := ⟨h.c0, h.c1, h.c2, h.c3, h.c4, h5⟩
theorem put6_node {w : World} {g o : Nat} {t0 : En} {s0 : Value} (t : En) (s : Value) (h : ENode w g o t0 s0) : ENode (put6 w g o t s) g o t s := by
  have ne : ∀ p q : Nat, p ≠ q → (⟨g, p, none⟩ : Addr) ≠ ⟨g, q, none⟩ := fun p q hpq e => hpq (congrArg Addr.off e)
  have hn := put5_node t.a s h.node
  unfold put6
  refine ⟨?_, ?_, ?_, ?_, ?_, ?_⟩
  · rw [World.cell?_setCell_other _ _ _ _ (ne _ _ (by omega))]; exact hn.c0
  · rw [World.cell?_setCell_other _ _ _ _ (ne _ _ (by omega))]; exact hn.c1
  · rw [World.cell?_setCell_other _ _ _ _ (ne _ _ (by omega))]; exact hn.c2
  · rw [World.cell?_setCell_other _ _ _ _ (ne _ _ (by omega))]; exact hn.c3
  · rw [World.cell?_setCell_other _ _ _ _ (ne _ _ (by omega))]; exact hn.c4
  · refine World.cell?_setCell_same _ _ _ (u := .int .i64 t0.i) ?_
    rw [put5_out _ _ _ _ _ (by omega)]; exact h.c5
theorem put6_keep {w : World} {g o o' b : Nat} {t x : En} {s sx : Value} (h : ENode w b o' x sx) (hne : b ≠ g ∨ o' + 6 ≤ o ∨ o + 6 ≤ o') : ENode (put6 w g o t s) b o' x sx := by
  by_cases hb : b = g
  · subst hb
    have hne' : o' + 6 ≤ o ∨ o + 6 ≤ o' := hne.resolve_left (fun h => h rfl)
    have ne : ∀ p q : Nat, p ≠ q → (⟨b, p, none⟩ : Addr) ≠ ⟨b, q, none⟩ := fun p q hpq e => hpq (congrArg Addr.off e)
    have hn := put5_keep (g := b) (o := o) (t := t.a) (s := s) h.node (Or.inr (by omega))
    unfold put6
    refine ⟨?_, ?_, ?_, ?_, ?_, ?_⟩
    · rw [World.cell?_setCell_other _ _ _ _ (ne _ _ (by omega))]; exact hn.c0
    · rw [World.cell?_setCell_other _ _ _ _ (ne _ _ (by omega))]; exact hn.c1
    · rw [World.cell?_setCell_other _ _ _ _ (ne _ _ (by omega))]; exact hn.c2
    · rw [World.cell?_setCell_other _ _ _ _ (ne _ _ (by omega))]; exact hn.c3
    · rw [World.cell?_setCell_other _ _ _ _ (ne _ _ (by omega))]; exact hn.c4
    · rw [World.cell?_setCell_other _ _ _ _ (ne _ _ (by omega)), put5_out _ _ _ _ _ (by omega)]; exact h.c5
  · exact h.same (put6_other _ _ _ _ _ hb)

/-- A row that was made whole and is filled from the left: block g; xs: the entries as they stand there now. -/
structure FullE (B : Nat) (w : World) (g : Nat) (xs : List (En × Value)) : Prop where
  above : B ≤ g
  open' : ∃ cs, w.heap[g]? = some (.cells cs 97 (0, 0))
  node : ∀ i (h : i < xs.length), ENode w g (i * 6) (xs[i]).1 (xs[i]).2
  fine : ∀ p ∈ xs, p.1.fine
  kids : ∀ p ∈ xs, LiesP w (fun b => Own B w b ∧ b ≠ g) p.1.a.kids p.2
theorem FullE.lt {B g : Nat} {w : World} {xs : List (En × Value)} (h : FullE B w g xs) : g < w.heap.size := by obtain ⟨cs, h⟩ := h.open'; exact (Array.getElem?_eq_some_iff.1 h).1
theorem FullE.later {B g : Nat} {w w' : World} {xs : List (En × Value)} (h : FullE B w g xs) (hb : Below w.heap.size w w') : FullE B w' g xs :=
  ⟨h.above, by rw [hb.block g h.lt]; exact h.open', fun i hi => (h.node i hi).below hb h.lt, h.fine, fun p hp => (h.kids p hp).keep (fun b _ hlt => hb.block b hlt) (fun _ hq _ => ⟨hq.1.later hb, hq.2⟩)⟩
theorem FullE.fill {B g k : Nat} {w : World} {xs : List (En × Value)} {t : En} {s : Value} (h : FullE B w g xs) (hk : k < xs.length) (hf : t.fine) (hl : LiesP w (fun b => Own B w b ∧ b ≠ g) t.a.kids s) :
    FullE B (put6 w g (k * 6) t s) g (xs.set k (t, s)) := by
  have keepL : ∀ l s', LiesP w (fun b => Own B w b ∧ b ≠ g) l s' → LiesP (put6 w g (k * 6) t s) (fun b => Own B (put6 w g (k * 6) t s) b ∧ b ≠ g) l s' := fun l s' h' =>
    h'.keep (fun b hb _ => put6_other _ _ _ _ _ hb.2) (fun b hb _ => ⟨hb.1.same (put6_other _ _ _ _ _ hb.2), hb.2⟩)
  refine ⟨h.above, ?_, fun i hi => ?_, fun p hp => ?_, fun p hp => ?_⟩
  · obtain ⟨cs, hcs⟩ := h.open'
    exact ⟨_, heap_setCell_same _ _ _ _ _ _ (put5_block _ _ _ hcs)⟩
  · have hi' : i < xs.length := by simpa using hi
    by_cases e : k = i
    · subst e
      simp only [List.getElem_set_self]
      exact put6_node t s (h.node k hk)
    · rw [List.getElem_set_ne e]
      exact put6_keep (h.node i hi') (Or.inr (by omega))
  · rcases List.mem_or_eq_of_mem_set hp with hp | rfl
    · exact h.fine p hp
    · exact hf
  · rcases List.mem_or_eq_of_mem_set hp with hp | rfl
    · exact keepL _ _ (h.kids p hp)
    · exact keepL _ _ hl
theorem FullE.fresh {B g : Nat} {wr w2 : World} {xs : List (En × Value)} {l : List Tm} {s2 : Value} (h : FullE B wr g xs) (hB : B ≤ wr.heap.size) (hk : LiesP w2 (Own wr.heap.size w2) l s2) : LiesP w2 (fun b => Own B w2 b ∧ b ≠ g) l s2 := by
  have hg := h.lt
  exact hk.keep (fun _ _ _ => rfl) (fun b hb _ => ⟨hb.from hB, by have := hb.1; omega⟩)
theorem FullE.lies {B g cap : Nat} {w : World} {xs : List (En × Value)} (h : FullE B w g xs) (hc : xs.length ≤ cap) (hm : cap ≤ maxLen) : LiesEP w B (xs.map (·.1)) (.slice (some ⟨g, 0, none⟩) xs.length cap) := by
  refine ⟨some ⟨g, 0, none⟩, cap, fun i => (xs[i]?.map (·.2)).getD (.slice none 0 0), by simp, by simpa using hc, hm, (fun x hx => by obtain ⟨p, hp, rfl⟩ := List.mem_map.1 hx; exact h.fine p hp), fun i hi => ?_, fun i hi => ?_⟩
  · have hi' : i < xs.length := by simpa using hi
    refine ⟨g, rfl, ⟨h.above, h.open'⟩, ?_⟩
    simp only [List.getElem_map, List.getElem?_eq_getElem hi', Option.map_some, Option.getD_some]
    exact h.node i hi'
  · have hi' : i < xs.length := by simpa using hi
    simp only [List.getElem_map, List.getElem?_eq_getElem hi', Option.map_some, Option.getD_some]
    exact (h.kids _ (List.getElem_mem hi')).keep (fun _ _ _ => rfl) (fun _ hb _ => hb.1)

end Go.Proofs.Ytkdceahmknhojaa

namespace Go.Proofs.Ytkdceahmknhojaa
open Go

theorem take_at {P : Program} {ops : Array Oper} {Q : Exit → Act → World → Prop} {md : Region.Mode} {S : World → Prop} (i d : Nat) (oi : Oper) {v : Value} {fuel : Nat} {listed : Array Bool} {a : Act} {w : World} (hy : YieldsIf P ops S oi v a)
    (h : wpAnyH P md ops Q S fuel (listed.setIfInBounds i true) (a.put (some d) v) w)
    (hi : ops[i]? = some oi := by rfl) (hd : oi.dst = some d := by rfl)
    (hs : Region.noSelect ops = true := by kernel_rfl) (hf : Region.free md ops listed i = true := by kernel_rfl) (hr : (Region.ready md ops listed).contains i = true := by kernel_rfl)
    (hQ : ∀ c a w, Q (.panic c) (a.put (some d) v) w → Q (.panic c) a w := by exact fun _ _ _ h => h) (hS : S w := by assumption) : wpAnyH P md ops Q S (fuel + 1) listed a w := by
  rw [← hd] at hQ h
  exact wpAnyH_take hi hs hf hr hQ hy hS h
end Go.Proofs.Ytkdceahmknhojaa

namespace Go.Proofs.Ytkdceahmknhojaa
open Go.RowKit

/-- A judgment. -/
structure Jd where
  eq : Bool
  u : Tm
  v : Tm
  a : Tm
  i : Int
def Jd.fine (j : Jd) : Prop := j.u.fine ∧ j.v.fine ∧ j.a.fine ∧ I64 j.i
/-- Its three lists lie there. -/
def JLies (w : World) (j : Jd) (su sv sa : Value) : Prop := Lies w j.u.kids su ∧ Lies w j.v.kids sv ∧ Lies w j.a.kids sa
theorem JLies.keep {w w' : World} {j : Jd} {su sv sa : Value} (h : JLies w j su sv sa) (hb : Below w.heap.size w w') : JLies w' j su sv sa := ⟨h.1.keep hb, h.2.1.keep hb, h.2.2.keep hb⟩
/-- Its cells, at the head of a block. -/
def JBox (w : World) (b : Nat) (j : Jd) (su sv sa : Value) : Prop := w.cell? ⟨b, 0, none⟩ = some (.bool j.eq) ∧ w.cell? ⟨b, 1, none⟩ = some (.int .i64 j.u.k) ∧ w.cell? ⟨b, 2, none⟩ = some (.int .i64 j.u.i) ∧ w.cell? ⟨b, 3, none⟩ = some (.int .i64 j.u.j) ∧ w.cell? ⟨b, 4, none⟩ = some (.int .i64 j.u.n) ∧ w.cell? ⟨b, 5, none⟩ = some (su) ∧ w.cell? ⟨b, 6, none⟩ = some (.int .i64 j.v.k) ∧ w.cell? ⟨b, 7, none⟩ = some (.int .i64 j.v.i) ∧ w.cell? ⟨b, 8, none⟩ = some (.int .i64 j.v.j) ∧ w.cell? ⟨b, 9, none⟩ = some (.int .i64 j.v.n) ∧ w.cell? ⟨b, 10, none⟩ = some (sv) ∧ w.cell? ⟨b, 11, none⟩ = some (.int .i64 j.a.k) ∧ w.cell? ⟨b, 12, none⟩ = some (.int .i64 j.a.i) ∧ w.cell? ⟨b, 13, none⟩ = some (.int .i64 j.a.j) ∧ w.cell? ⟨b, 14, none⟩ = some (.int .i64 j.a.n) ∧ w.cell? ⟨b, 15, none⟩ = some (sa) ∧ w.cell? ⟨b, 16, none⟩ = some (.int .i64 j.i)
/-- Its cells, at a place. -/
def JNode (w : World) (b o : Nat) (j : Jd) (su sv sa : Value) : Prop := w.cell? ⟨b, o, none⟩ = some (.bool j.eq) ∧ w.cell? ⟨b, o + 1, none⟩ = some (.int .i64 j.u.k) ∧ w.cell? ⟨b, o + 2, none⟩ = some (.int .i64 j.u.i) ∧ w.cell? ⟨b, o + 3, none⟩ = some (.int .i64 j.u.j) ∧ w.cell? ⟨b, o + 4, none⟩ = some (.int .i64 j.u.n) ∧ w.cell? ⟨b, o + 5, none⟩ = some (su) ∧ w.cell? ⟨b, o + 6, none⟩ = some (.int .i64 j.v.k) ∧ w.cell? ⟨b, o + 7, none⟩ = some (.int .i64 j.v.i) ∧ w.cell? ⟨b, o + 8, none⟩ = some (.int .i64 j.v.j) ∧ w.cell? ⟨b, o + 9, none⟩ = some (.int .i64 j.v.n) ∧ w.cell? ⟨b, o + 10, none⟩ = some (sv) ∧ w.cell? ⟨b, o + 11, none⟩ = some (.int .i64 j.a.k) ∧ w.cell? ⟨b, o + 12, none⟩ = some (.int .i64 j.a.i) ∧ w.cell? ⟨b, o + 13, none⟩ = some (.int .i64 j.a.j) ∧ w.cell? ⟨b, o + 14, none⟩ = some (.int .i64 j.a.n) ∧ w.cell? ⟨b, o + 15, none⟩ = some (sa) ∧ w.cell? ⟨b, o + 16, none⟩ = some (.int .i64 j.i)
theorem JBox.keep {w w' : World} {b : Nat} {j : Jd} {su sv sa : Value} (h : JBox w b j su sv sa) (hb : Below w.heap.size w w') : JBox w' b j su sv sa := by
  obtain ⟨x0, x1, x2, x3, x4, x5, x6, x7, x8, x9, x10, x11, x12, x13, x14, x15, x16⟩ := h
  exact ⟨cell_lat hb x0, cell_lat hb x1, cell_lat hb x2, cell_lat hb x3, cell_lat hb x4, cell_lat hb x5, cell_lat hb x6, cell_lat hb x7, cell_lat hb x8, cell_lat hb x9, cell_lat hb x10, cell_lat hb x11, cell_lat hb x12, cell_lat hb x13, cell_lat hb x14, cell_lat hb x15, cell_lat hb x16⟩
theorem JNode.keep {w w' : World} {b o : Nat} {j : Jd} {su sv sa : Value} (h : JNode w b o j su sv sa) (hb : Below w.heap.size w w') : JNode w' b o j su sv sa := by
  obtain ⟨x0, x1, x2, x3, x4, x5, x6, x7, x8, x9, x10, x11, x12, x13, x14, x15, x16⟩ := h
  exact ⟨cell_lat hb x0, cell_lat hb x1, cell_lat hb x2, cell_lat hb x3, cell_lat hb x4, cell_lat hb x5, cell_lat hb x6, cell_lat hb x7, cell_lat hb x8, cell_lat hb x9, cell_lat hb x10, cell_lat hb x11, cell_lat hb x12, cell_lat hb x13, cell_lat hb x14, cell_lat hb x15, cell_lat hb x16⟩
theorem JNode.lt {w : World} {b o : Nat} {j : Jd} {su sv sa : Value} (h : JNode w b o j su sv sa) : b < w.heap.size := World.block_lt_of_cell? _ _ h.1
theorem JNode.same {w w' : World} {b o : Nat} {j : Jd} {su sv sa : Value} (h : JNode w b o j su sv sa) (hb : w'.heap[b]? = w.heap[b]?) : JNode w' b o j su sv sa := by
  have hc : ∀ q, w'.cell? ⟨b, q, none⟩ = w.cell? ⟨b, q, none⟩ := fun q => World.cell?_of_block (a := ⟨b, q, none⟩) hb
  obtain ⟨x0, x1, x2, x3, x4, x5, x6, x7, x8, x9, x10, x11, x12, x13, x14, x15, x16⟩ := h
  exact ⟨(hc _).trans x0, (hc _).trans x1, (hc _).trans x2, (hc _).trans x3, (hc _).trans x4, (hc _).trans x5, (hc _).trans x6, (hc _).trans x7, (hc _).trans x8, (hc _).trans x9, (hc _).trans x10, (hc _).trans x11, (hc _).trans x12, (hc _).trans x13, (hc _).trans x14, (hc _).trans x15, (hc _).trans x16⟩

end Go.Proofs.Ytkdceahmknhojaa

namespace Go.Proofs.Ytkdceahmknhojaa
open Go.RowKit

/-- A term is handed back: its lists lie in blocks of P or in new ones. -/
def GivesP (P : Nat → Prop) (u : Tm) (w : World) (e : Ending) (w' : World) : Prop := ∃ s' : Value, e = .returned (tv u s') ∧ LiesQ w' (fun b => P b ∨ w.heap.size ≤ b) u.kids s' ∧ Kept w w'
theorem Makes.givesP {P : Nat → Prop} {u : Tm} {w w' : World} {e : Ending} (h : Makes u w e w') : GivesP P u w e w' := by
  obtain ⟨s', h1, h2, h3⟩ := h
  exact ⟨s', h1, h2.q.wide (fun _ hb => Or.inr hb.1), h3⟩
/-- A list is handed back. -/
def GivesLP (P : Nat → Prop) (l : List Tm) (w : World) (e : Ending) (w' : World) : Prop := ∃ s' : Value, e = .returned s' ∧ LiesQ w' (fun b => P b ∨ w.heap.size ≤ b) l s' ∧ Kept w w'
theorem MakesAll.givesP {P : Nat → Prop} {l : List Tm} {w w' : World} {e : Ending} (h : MakesAll l w e w') : GivesLP P l w e w' := by
  obtain ⟨s', h1, h2, h3⟩ := h
  exact ⟨s', h1, h2.q.wide (fun _ hb => Or.inr hb.1), h3⟩
/-- Blocks of P that were there at w, and those from n on but for X (the body's own variables). -/
def Par (w : World) (n : Nat) (X : List Nat) (P : Nat → Prop) (b : Nat) : Prop := (P b ∧ b < w.heap.size) ∨ (n ≤ b ∧ b ∉ X)
def XLt (X : List Nat) (V : World) : Prop := ∀ x ∈ X, x < V.heap.size
theorem xlt_nil (V : World) : XLt [] V := fun _ h => by cases h
theorem xlt_later {X : List Nat} {V W : World} (h : XLt X V) (hk : Kept V W) : XLt X W := fun x hx => Nat.lt_of_lt_of_le (h x hx) (Below.size hk)
theorem xlt_more {X : List Nat} {V W : World} (h : XLt X V) (hk : Kept V W) (hs : V.heap.size < W.heap.size) : XLt (V.heap.size :: X) W := fun x hx => by
  rcases List.mem_cons.1 hx with rfl | hx
  · exact hs
  · exact Nat.lt_of_lt_of_le (h x hx) (Below.size hk)
theorem xlt_set {X : List Nat} {V W : World} {g : Nat} {cs : Array Value} (h : XLt X V) (hw : V.setRow g cs = W) : XLt X W := fun x hx => by rw [← hw, setRow_size]; exact h x hx
theorem par_in {w : World} {P : Nat → Prop} {l : List Tm} {s : Value} (n : Nat) (X : List Nat) (h : LiesQ w P l s) : LiesQ w (Par w n X P) l s := h.keep (fun _ _ _ => rfl) (fun _ hp hlt => Or.inl ⟨hp, hlt⟩)
theorem par_give {w V w' : World} {n : Nat} {X : List Nat} {P : Nat → Prop} {l : List Tm} {s : Value} (h : LiesQ w' (fun b => Par w n X P b ∨ V.heap.size ≤ b) l s) (hn : n ≤ V.heap.size) (hX : XLt X V) : LiesQ w' (Par w n X P) l s :=
  h.wide (fun b hb => hb.elim id (fun h => Or.inr ⟨Nat.le_trans hn h, fun hx => by have := hX b hx; omega⟩))
theorem par_new {w V : World} {n : Nat} {X : List Nat} {P : Nat → Prop} {g : Nat} (hn : n ≤ V.heap.size) (hX : XLt X V) (hg : V.heap.size ≤ g) : Par w n X P g := Or.inr ⟨Nat.le_trans hn hg, fun hx => by have := hX g hx; omega⟩
/-- A variable of the body's own more. -/
theorem par_more {w V : World} {n : Nat} {X : List Nat} {P : Nat → Prop} {l : List Tm} {s : Value} (h : LiesQ V (Par w n X P) l s) : LiesQ V (Par w n (V.heap.size :: X) P) l s :=
  h.keep (fun _ _ _ => rfl) (fun b hb hlt => hb.imp id (fun hb => ⟨hb.1, fun hx => by rcases List.mem_cons.1 hx with rfl | hx; exact absurd hlt (Nat.lt_irrefl _); exact hb.2 hx⟩))
/-- Such a variable is stored. -/
theorem par_set {w V W : World} {n g : Nat} {X : List Nat} {P : Nat → Prop} {l : List Tm} {s : Value} {cs : Array Value} (h : LiesQ V (Par w n X P) l s) (hw : V.setRow g cs = W) (hg : g ∈ X) (hn : w.heap.size ≤ g) : LiesQ W (Par w n X P) l s := by
  subst hw
  exact h.keep (fun b hb _ => setRow_other _ _ _ _ (by rintro rfl; rcases hb with ⟨-, hb⟩ | hb; omega; exact hb.2 hg)) (fun _ hb _ => hb)
/-- A block of the body's beginning is stored. -/
theorem par_row' {w V W : World} {n g : Nat} {X : List Nat} {P : Nat → Prop} {l : List Tm} {s : Value} {cs : Array Value} (h : LiesQ V (Par w n X P) l s) (hw : V.setRow g cs = W) (hg : w.heap.size ≤ g) (hg2 : g < n) : LiesQ W (Par w n X P) l s := by
  subst hw
  exact h.keep (fun b hb _ => setRow_other _ _ _ _ (by rcases hb with ⟨-, hb⟩ | hb <;> omega)) (fun _ hb _ => hb)
theorem par_end {w V : World} {n : Nat} {X : List Nat} {P : Nat → Prop} {l : List Tm} {s : Value} (h : LiesQ V (Par w n X P) l s) (hn : w.heap.size ≤ n) : LiesQ V (fun b => P b ∨ w.heap.size ≤ b) l s :=
  h.wide (fun _ hb => hb.elim (fun h => Or.inl h.1) (fun h => Or.inr (Nat.le_trans hn h.1)))
theorem kept_set {b V W : World} {g : Nat} {cs : Array Value} (h : Kept b V) (hw : V.setRow g cs = W) (hg : b.heap.size ≤ g) : Kept b W := by subst hw; exact below_setRow h hg _
theorem sees_set {V W W' : World} {g : Nat} {cs : Array Value} (h : Kept V W) (hw : W.setRow g cs = W') : Sees V g W' := by
  subst hw
  exact fun k hk hne => (setRow_other _ _ _ _ hne).trans (Below.block h k hk)
theorem blk_same {V W : World} {g : Nat} {old cs : Array Value} {T : TypeId} {fr : Nat × Nat} (h : V.heap[g]? = some (.cells old T fr)) (hw : V.setRow g cs = W) : W.heap[g]? = some (.cells cs T fr) := by subst hw; exact setRow_heap _ _ _ _ _ _ h
theorem blk_other {V W : World} {g k : Nat} {cs : Array Value} {o : Obj} (h : V.heap[k]? = some o) (hw : V.setRow g cs = W) (hne : k ≠ g) : W.heap[k]? = some o := by subst hw; rw [setRow_other _ _ _ _ hne]; exact h
/-- Terms in a row, in a block of Q. -/
theorem q_row {V : World} {Q : Nat → Prop} {g : Nat} {T : TypeId} {fr : Nat × Nat} (ps : List (Tm × Value)) (C : Array Value) (hC : cells5 ps = C.toList) (h : V.heap[g]? = some (.cells C T fr)) (hQ : Q g) (hp : ∀ p ∈ ps, p.1.fine ∧ LiesQ V Q p.1.kids p.2) (hm : ps.length ≤ 1000) :
    LiesQ V Q (ps.map (·.1)) (.slice (some ⟨g, 0, none⟩) ps.length ps.length) := by
  have := LiesQ.mk (w := V) (P := Q) (ps.map (·.1)) (some ⟨g, 0, none⟩) ps.length (fun i => (ps[i]?.map (·.2)).getD (.slice none 0 0)) (by simp) (by unfold maxLen; omega) (fun x hx => by obtain ⟨p, hq, rfl⟩ := List.mem_map.1 hx; exact (hp p hq).1)
    (fun i hi => by
      have hi' : i < ps.length := by simpa using hi
      refine ⟨g, 0, rfl, hQ, ?_⟩
      simp only [List.getElem_map, List.getElem?_eq_getElem hi', Option.map_some, Option.getD_some, Nat.zero_add]
      have cellq : ∀ q, q < 5 → V.cell? ⟨g, i * 5 + q, none⟩ = [Value.int .i64 (ps[i]).1.k, .int .i64 (ps[i]).1.i, .int .i64 (ps[i]).1.j, .int .i64 (ps[i]).1.n, (ps[i]).2][q]? := fun q hq => by
        rw [cell_of_row V g _ C T fr h, ← Array.getElem?_toList, ← hC]; exact cells5_get ps i hi' q hq
      exact ⟨cellq 0 (by omega), cellq 1 (by omega), cellq 2 (by omega), cellq 3 (by omega), cellq 4 (by omega)⟩)
    (fun i hi => by
      have hi' : i < ps.length := by simpa using hi
      simp only [List.getElem_map, List.getElem?_eq_getElem hi', Option.map_some, Option.getD_some]
      exact (hp _ (List.getElem_mem hi')).2)
  simpa using this
theorem mk_fine {k i j n : Int} {l : List Tm} (hk : I64 k) (hi : I64 i) (hj : I64 j) (hn : I64 n) : (Tm.mk k i j n l).fine := ⟨hk, hi, hj, hn⟩
theorem at_world {P : Program} {f : FuncId} {args : Array Value} {V : World} {K : Ending → World → Prop} (h : ∀ W, V = W → Calls P f args W K) : Calls P f args V K := h V rfl
theorem at_code {P : Program} {c : Code} {Q : Exit → Act → World → Prop} {a : Act} {V : World} (h : ∀ W, V = W → c.wp P Q a W) : c.wp P Q a V := h V rfl
theorem at_K {K : Act → World → Prop} {a : Act} {V : World} (h : ∀ W, V = W → K a W) : K a V := h V rfl
theorem stop_store {P : Program} {ops : Array Oper} {rest : List Oper} {o : Oper} {a : Act} {w : World} {Q : Exit → Act → World → Prop} (ty : TypeId) (x y : Operand) (_ : o.op = .store ty x y) (h : True → wpList P ops Q (o :: rest) a w) : wpList P ops Q (o :: rest) a w := h trivial
theorem stop_load {P : Program} {ops : Array Oper} {rest : List Oper} {o : Oper} {a : Act} {w : World} {Q : Exit → Act → World → Prop} (ty : TypeId) (x : Operand) (_ : o.op = .load ty x) (h : True → wpList P ops Q (o :: rest) a w) : wpList P ops Q (o :: rest) a w := h trivial
theorem run_loadAt_part {P : Program} {w : World} {g : Nat} {C : Array Value} {T : TypeId} {fr : Nat × Nat} (hb : w.heap[g]? = some (.cells C T fr)) (o : Nat) (ty : TypeId) (vs : Array Value) (d : TypeDesc) (hv : (C.toList.drop o).take vs.size = vs.toList)
    (hu : P.underlying ty = some d) (hd : (match d with | .struct _ | .array _ _ => true | _ => false) = true) (hi : (P.info? ty).map (·.size) = some vs.size) :
    (Instr.loadAt ty (.pointer (some ⟨g, o, none⟩))).run P w = .ok (.agg vs) w := by
  have hr := World.rangeAt_of_block hb o vs.size
  rw [extract_list hv] at hr
  have := run_loadAt_mid (P := P) w g o ty vs.toList d hr hu (by cases d <;> first | rfl | exact hd) (by simpa using hi)
  simpa using this
theorem wpList_load_part {P : Program} {ops : Array Oper} {rest : List Oper} {op : Oper} {a : Act} {w : World} {Q : Exit → Act → World → Prop} (g o : Nat) (ty : TypeId) (x : Operand) (vs : Array Value) (d : TypeDesc) {C : Array Value} {T : TypeId} {fr : Nat × Nat}
    (hg : w.heap[g]? = some (.cells C T fr)) (hw : Region.wanted op (yielded ops a.tmps) = true) (ho : op.op = .load ty x) (hx : a.eval x = .pointer (some ⟨g, o, none⟩)) (hv : (C.toList.drop o).take vs.size = vs.toList)
    (hu : P.underlying ty = some d) (hd : (match d with | .struct _ | .array _ _ => true | _ => false) = true) (hi : (P.info? ty).map (·.size) = some vs.size)
    (h : wpList P ops Q rest (a.put op.dst (.agg vs)) w) : wpList P ops Q (op :: rest) a w := by
  unfold wpList
  rw [if_pos hw]
  refine .inl ?_
  unfold Oper.wp execOp
  simp only [ho, hx, run_loadAt_part hg o ty vs d hv hu hd hi, Result.andThen_ok, Sem.run_bind, Sem.run_pure]
  exact h
theorem yields_part {P : Program} {ops : Array Oper} {S : World → Prop} {op : Oper} {a : Act} (g o : Nat) (ty : TypeId) (x : Operand) (vs : Array Value) (d : TypeDesc) {C : Array Value} {T : TypeId} {fr : Nat × Nat}
    (hS : ∀ w, S w → w.heap[g]? = some (.cells C T fr)) (hw : Region.wanted op (yielded ops a.tmps) = true) (ho : op.op = .load ty x) (hx : a.eval x = .pointer (some ⟨g, o, none⟩)) (hv : (C.toList.drop o).take vs.size = vs.toList)
    (hu : P.underlying ty = some d) (hd : (match d with | .struct _ | .array _ _ => true | _ => false) = true) (hi : (P.info? ty).map (·.size) = some vs.size) : YieldsIf P ops S op (.agg vs) a := by
  refine .inl ⟨hw, fun w h => ?_⟩
  unfold execOp
  simp only [ho, hx, run_loadAt_part (hS w h) o ty vs d hv hu hd hi, Result.andThen_ok, Sem.run_bind, Sem.run_pure]
theorem sees_blk {V w' : World} {r g : Nat} {o : Obj} (h : V.heap[g]? = some o) (hne : g ≠ r) (hs : Sees V r w') : w'.heap[g]? = some o := (hs g (block_lt h) hne).trans h
theorem row_ok {cells : Array Value} (h : cells.toList.all (·.oneCell') = true) : cells.all (·.oneCell') = true := by rw [← Array.all_toList]; exact h
theorem setCells_row (g : Nat) (t : TypeId) (fr : Nat × Nat) : ∀ (vs : List Value) (o : Nat) (cur : Array Value) (w : World), w.heap[g]? = some (.cells cur t fr) → o + vs.length ≤ cur.size →
    w.setCells g o vs = w.setRow g (cur.toList.take o ++ vs ++ cur.toList.drop (o + vs.length)).toArray
  | [], o, cur, w, hg, _ => by
    have e : (cur.toList.take o ++ ([] : List Value) ++ cur.toList.drop (o + ([] : List Value).length)).toArray = cur := by simp
    rw [e, setRow_self w g cur t fr hg]; rfl
  | v :: r, o, cur, w, hg, hl => by
    have hl' : o + 1 + r.length ≤ (cur.setIfInBounds o v).size := by simp at hl ⊢; omega
    rw [World.setCells, setCell_eq_setRow w g o cur t fr v hg, setCells_row g t fr r (o + 1) (cur.setIfInBounds o v) _ (setRow_heap w g cur _ t _ hg) hl', setRow_setRow]
    congr 2
    simp only [List.length_cons] at hl ⊢
    have ho : o < cur.toList.length := by simp; omega
    rw [Array.toList_setIfInBounds]
    rw [List.take_succ_eq_append_getElem (by simpa using ho), List.take_set_of_le (Nat.le_refl _), List.getElem_set_self, List.drop_set_of_lt (by omega)]
    simp [Nat.add_assoc, Nat.add_comm 1]
theorem run_storeVar_part {P : Program} (w : World) (g o : Nat) (t ty : TypeId) (old cells new : Array Value) (hg : w.heap[g]? = some (.cells old t (0, 0))) (hi : (P.info? ty).map (·.size) = some cells.size)
    (hn : old.toList.take o ++ cells.toList ++ old.toList.drop (o + cells.size) = new.toList) (hl : o + cells.size ≤ old.size) (h1 : cells.all (·.oneCell') = true) :
    (storeVar ty ⟨g, o, none⟩ (.agg cells)).run P w = .ok () (w.setRow g new) := by
  have ht : w.there g o cells.size := fun j hj => by
    rw [cell_of_row w g (o + j) old t _ hg]
    exact ⟨by rw [Array.getElem?_eq_getElem (by omega)]; rfl, by simp [World.frozen?, hg]⟩
  rw [run_storeVar_mid w g o ty cells ht hi h1, setCells_row g t (0, 0) cells.toList o old w hg (by simpa using hl)]
  simp only [Array.length_toList]
  rw [hn]
theorem wp_store_part {P : Program} {o : Oper} {a : Act} {w : World} {K : Act → World → Prop} {Q : Exit → Act → World → Prop} (ty : TypeId) (x y : Operand) (ho : o.op = .store ty x y)
    (g off : Nat) (cells : Array Value) (hx : a.eval x = .pointer (some ⟨g, off, none⟩)) (hy : a.eval y = .agg cells) (t : TypeId) (hi : (P.info? ty).map (·.size) = some cells.size) (h1 : cells.all (·.oneCell') = true)
    (old new : Array Value) (hg : w.heap[g]? = some (.cells old t (0, 0))) (hn : old.toList.take off ++ cells.toList ++ old.toList.drop (off + cells.size) = new.toList) (hl : off + cells.size ≤ old.size)
    (h : K (a.put o.dst undef) (w.setRow g new)) : o.wp P a w K Q := by
  unfold Oper.wp execOp
  simp only [ho, hx, hy, Instr.storeAt, Instr.sureAddr, Sem.run_bind, Sem.run_pure, Result.andThen_ok, run_storeVar_part w g off t ty old cells new hg hi hn hl h1]
  exact h
theorem step_store_part {P : Program} {ops : Array Oper} {o : Oper} {a : Act} {w : World} {K : Act → World → Prop} {Q : Exit → Act → World → Prop} {E : Prop} (hgd : o.guard = none) (ty : TypeId) (x y : Operand) (ho : o.op = .store ty x y)
    (g off : Nat) (cells : Array Value) (hx : a.eval x = .pointer (some ⟨g, off, none⟩)) (hy : a.eval y = .agg cells) (t : TypeId) (hi : (P.info? ty).map (·.size) = some cells.size) (h1 : cells.all (·.oneCell') = true)
    (old new : Array Value) (hg : w.heap[g]? = some (.cells old t (0, 0))) (hn : old.toList.take off ++ cells.toList ++ old.toList.drop (off + cells.size) = new.toList) (hl : off + cells.size ≤ old.size)
    (h : ∀ W, w.setRow g new = W → K (a.put o.dst undef) W) : if Region.wanted o (yielded ops a.tmps) = true then Oper.wp P o a w K Q else E := by
  have hw : Region.wanted o (yielded ops a.tmps) = true := by simp [Region.wanted, hgd]
  rw [if_pos hw]
  exact wp_store_part ty x y ho g off cells hx hy t hi h1 old new hg hn hl (h _ rfl)
theorem wpList_store_part_n {P : Program} {ops : Array Oper} {rest : List Oper} {o : Oper} {a : Act} {w : World} {Q : Exit → Act → World → Prop} (hgd : o.guard = none) (ty : TypeId) (x y : Operand) (ho : o.op = .store ty x y)
    (g off : Nat) (cells : Array Value) (hx : a.eval x = .pointer (some ⟨g, off, none⟩)) (hy : a.eval y = .agg cells) (t : TypeId) (hi : (P.info? ty).map (·.size) = some cells.size) (h1 : cells.all (·.oneCell') = true)
    (h : ∀ W, w = W → ∃ old new : Array Value, W.heap[g]? = some (.cells old t (0, 0)) ∧ old.toList.take off ++ cells.toList ++ old.toList.drop (off + cells.size) = new.toList ∧ off + cells.size ≤ old.size ∧ ∀ W', W.setRow g new = W' → wpList P ops Q rest (a.put o.dst undef) W') : wpList P ops Q (o :: rest) a w := by
  obtain ⟨old, new, hg, hn, hl, h2⟩ := h w rfl
  exact wpList_plain hgd fun _ hK => wp_store_part ty x y ho g off cells hx hy t hi h1 old new hg hn hl (hK _ _ (h2 _ rfl))
theorem blk_at {V W : World} {g : Nat} {o : Obj} (h : V.heap[g]? = some o) (hk : Kept V W) : W.heap[g]? = some o := (Below.block hk g (block_lt h)).trans h
theorem alloc1 {w V : World} {o0 : Obj} (h : w.alloc o0 = V) : Kept w V ∧ V.heap[w.heap.size]? = some o0 ∧ V.heap.size = w.heap.size + 1 := by
  subst h
  exact ⟨kept_new _ _, alloc_new _ _, by simp⟩
theorem alloc2 {w V : World} {o0 o1 : Obj} (h : (w.alloc o0).alloc o1 = V) : Kept w V ∧ V.heap[w.heap.size]? = some o0 ∧ V.heap[w.heap.size + 1]? = some o1 ∧ V.heap.size = w.heap.size + 2 := by
  obtain ⟨W, hW⟩ : ∃ W, w.alloc o0 = W := ⟨_, rfl⟩
  rw [hW] at h
  obtain ⟨hk, h0, hs⟩ := alloc1 hW
  obtain ⟨gk, g0, gs⟩ := alloc1 h
  exact ⟨kept_trans hk gk, blk_at h0 gk, by rw [← hs]; exact g0, by omega⟩
theorem alloc3 {w V : World} {o0 o1 o2 : Obj} (h : ((w.alloc o0).alloc o1).alloc o2 = V) : Kept w V ∧ V.heap[w.heap.size]? = some o0 ∧ V.heap[w.heap.size + 1]? = some o1 ∧ V.heap[w.heap.size + 2]? = some o2 ∧ V.heap.size = w.heap.size + 3 := by
  obtain ⟨W, hW⟩ : ∃ W, (w.alloc o0).alloc o1 = W := ⟨_, rfl⟩
  rw [hW] at h
  obtain ⟨hk, h0, h1, hs⟩ := alloc2 hW
  obtain ⟨gk, g0, gs⟩ := alloc1 h
  exact ⟨kept_trans hk gk, blk_at h0 gk, blk_at h1 gk, by rw [← hs]; exact g0, by omega⟩
theorem alloc4 {w V : World} {o0 o1 o2 o3 : Obj} (h : (((w.alloc o0).alloc o1).alloc o2).alloc o3 = V) : Kept w V ∧ V.heap[w.heap.size]? = some o0 ∧ V.heap[w.heap.size + 1]? = some o1 ∧ V.heap[w.heap.size + 2]? = some o2 ∧ V.heap[w.heap.size + 3]? = some o3 ∧ V.heap.size = w.heap.size + 4 := by
  obtain ⟨W, hW⟩ : ∃ W, ((w.alloc o0).alloc o1).alloc o2 = W := ⟨_, rfl⟩
  rw [hW] at h
  obtain ⟨hk, h0, h1, h2, hs⟩ := alloc3 hW
  obtain ⟨gk, g0, gs⟩ := alloc1 h
  exact ⟨kept_trans hk gk, blk_at h0 gk, blk_at h1 gk, blk_at h2 gk, by rw [← hs]; exact g0, by omega⟩
theorem alloc5 {w V : World} {o0 o1 o2 o3 o4 : Obj} (h : ((((w.alloc o0).alloc o1).alloc o2).alloc o3).alloc o4 = V) : Kept w V ∧ V.heap[w.heap.size]? = some o0 ∧ V.heap[w.heap.size + 1]? = some o1 ∧ V.heap[w.heap.size + 2]? = some o2 ∧ V.heap[w.heap.size + 3]? = some o3 ∧ V.heap[w.heap.size + 4]? = some o4 ∧ V.heap.size = w.heap.size + 5 := by
  obtain ⟨W, hW⟩ : ∃ W, (((w.alloc o0).alloc o1).alloc o2).alloc o3 = W := ⟨_, rfl⟩
  rw [hW] at h
  obtain ⟨hk, h0, h1, h2, h3, hs⟩ := alloc4 hW
  obtain ⟨gk, g0, gs⟩ := alloc1 h
  exact ⟨kept_trans hk gk, blk_at h0 gk, blk_at h1 gk, blk_at h2 gk, blk_at h3 gk, by rw [← hs]; exact g0, by omega⟩
/-- The five lists of an equality across types. -/
def HQ (w : World) (P : Nat → Prop) (h : He) (sa sb sx sy sh : Value) : Prop := LiesQ w P h.a.kids sa ∧ LiesQ w P h.b.kids sb ∧ LiesQ w P h.x.kids sx ∧ LiesQ w P h.y.kids sy ∧ LiesQ w P h.h.kids sh
theorem HQ.lies {w : World} {P : Nat → Prop} {h : He} {sa sb sx sy sh : Value} (H : HQ w P h sa sb sx sy sh) : HLies w h sa sb sx sy sh := ⟨H.1.lies, H.2.1.lies, H.2.2.1.lies, H.2.2.2.1.lies, H.2.2.2.2.lies⟩
theorem HLies.q {w : World} {h : He} {sa sb sx sy sh : Value} (H : HLies w h sa sb sx sy sh) : HQ w (fun b => b < w.heap.size) h sa sb sx sy sh := ⟨H.1.q, H.2.1.q, H.2.2.1.q, H.2.2.2.1.q, H.2.2.2.2.q⟩
def GivesHP (P : Nat → Prop) (h : He) (w : World) (e : Ending) (w' : World) : Prop := ∃ sa sb sx sy sh : Value, e = .returned (hv h sa sb sx sy sh) ∧ HQ w' (fun b => P b ∨ w.heap.size ≤ b) h sa sb sx sy sh ∧ Kept w w'
def FQ (w : World) (P : Nat → Prop) (g : Fm) (sa sc sb sd se sf : Value) : Prop := LiesQ w P g.a.kids sa ∧ LiesQ w P g.c.kids sc ∧ LiesQ w P g.b.kids sb ∧ LiesQ w P g.d.kids sd ∧ LiesQ w P g.e.kids se ∧ LiesQ w P g.f.kids sf
theorem FLies.q {w : World} {g : Fm} {sa sc sb sd se sf : Value} (H : FLies w g sa sc sb sd se sf) : FQ w (fun b => b < w.heap.size) g sa sc sb sd se sf := ⟨H.1.q, H.2.1.q, H.2.2.1.q, H.2.2.2.1.q, H.2.2.2.2.1.q, H.2.2.2.2.2.q⟩
theorem under_of (t : TypeId) (h : (Try.prog.underlying t).map (fun d => match d with | .struct _ | .array _ _ => true | _ => false) = some true) : ∃ d, Try.prog.underlying t = some d ∧ (match d with | .struct _ | .array _ _ => true | _ => false) = true := by
  cases e : Try.prog.underlying t with
  | none => rw [e] at h; cases h
  | some d => rw [e] at h; exact ⟨d, rfl, Option.some.inj h⟩
end Go.Proofs.Ytkdceahmknhojaa

namespace Go.Proofs.Ytkdceahmknhojaa
open Go.RowKit

/-- An entry in a block of its own. -/
def BNode (w : World) (b : Nat) (e : En) (s : Value) : Prop := w.cell? ⟨b, 0, none⟩ = some (.int .i64 e.a.k) ∧ w.cell? ⟨b, 1, none⟩ = some (.int .i64 e.a.i) ∧ w.cell? ⟨b, 2, none⟩ = some (.int .i64 e.a.j) ∧ w.cell? ⟨b, 3, none⟩ = some (.int .i64 e.a.n) ∧ w.cell? ⟨b, 4, none⟩ = some (s) ∧ w.cell? ⟨b, 5, none⟩ = some (.int .i64 e.i)
theorem BNode.keep {v w' : World} {b : Nat} {e : En} {s : Value} (h : BNode v b e s) (hk : Kept v w') : BNode w' b e s := ⟨cell_lat hk h.1, cell_lat hk h.2.1, cell_lat hk h.2.2.1, cell_lat hk h.2.2.2.1, cell_lat hk h.2.2.2.2.1, cell_lat hk h.2.2.2.2.2⟩
end Go.Proofs.Ytkdceahmknhojaa

namespace Go.Proofs.Ytkdceahmknhojaa
open Go.RowKit

set_option maxRecDepth 20000 in
set_option maxHeartbeats 1000000 in
theorem eachl_any (k c : Int) (bf bk : Nat) (hk : I64 k) (hk0 : 0 ≤ k) (t : Tm) : ∀ (b : Int) (w : World) (s : Value), Lies w t.kids s → t.rightB = true → 0 ≤ b → b + 2 * t.deep ≤ 1000000 → w.cell? ⟨bf, 0, none⟩ = some (.int .i64 c) → w.cell? ⟨bk, 0, none⟩ = some (.int .i64 k) →
    Calls Try.prog 160 #[tv t s, .int .i64 b, .func (.func 161) #[] #[.pointer (some ⟨bf, 0, none⟩), .pointer (some ⟨bk, 0, none⟩)]] w (Gives (t.each (liftF k c) b) w) := by
  induction t using Tm.ind with
  | h t ih =>
    intro b w s hl hr hb hd hcf hck
    obtain ⟨a, cap, S, rfl, hc, hm, hf, hn, hk⟩ := hl.out
    have hde := t.deep_eq
    have hlen := right_len hr
    have HB0 := boxes_start w t (.slice a t.kids.length cap)
    unfold tv
    unfold maxLen at hm
    obtain ⟨du, hu1, hu2⟩ := under_term
    by_cases hk2 : t.k = 2
    · have e2 : (t.k == 2) = true := by simpa using hk2
      have hv := t.right_var hr hk2
      have heq := Tm.each_var (liftF k c) t b hk2
      have HEQ := Lib.hid heq
      clear heq hk2 ih hn hk hf
      cases hx : (liftF k c) t.i b with
      | none =>
        have HX := Lib.hid hx
        clear hx
        go_enter Try.func160, Try.ntmps160
        go_wp2_with fail
        refine (liftc_none t.i b c k bf bk _ HX.out hv.1 hv.2 hb (by omega) hk hk0 (cell_lat (boxes_under HB0) hcf) (cell_lat (boxes_under HB0) hck)).mono ?_
        rintro e w' ⟨rfl, rfl⟩
        go_wp2
        refine bodyPost_ret (results_cell_tmp rfl _ _ (w.heap.size + 1) _ _ _ du rfl (heap_alloc2_new _ _ _) hu1 (by cases du <;> first | rfl | exact hu2) size_term) rfl ?_
        refine ⟨((Below.refl _ _).alloc (Nat.le_refl _) _).alloc (by simp) _, Or.inr ⟨.mk 2 0 0 0 [], by rw [HEQ.out, HX.out]; rfl, rfl, rfl⟩⟩
      | some r =>
        have HX := Lib.hid hx
        clear hx
        go_enter Try.func160, Try.ntmps160
        go_wp2_with fail
        refine (liftc_some t.i b c k r bf bk _ HX.out hv.1 hv.2 hb (by omega) hk hk0 (cell_lat (boxes_under HB0) hcf) (cell_lat (boxes_under HB0) hck)).mono ?_
        rintro e w' ⟨rfl, rfl⟩
        go_wp2
        refine bodyPost_ret (results_cell_tmp rfl _ _ (w.heap.size + 1) _ _ _ du rfl (heap_alloc2_new _ _ _) hu1 (by cases du <;> first | rfl | exact hu2) size_term) rfl ?_
        refine ⟨((Below.refl _ _).alloc (Nat.le_refl _) _).alloc (by simp) _, Or.inl ⟨.mk 2 r 0 0 [], .slice none 0 0, by rw [HEQ.out, HX.out]; rfl, rfl, liesP_nil _ _⟩⟩
    · have e2 : (t.k == 2) = false := by simpa using hk2
      have heq := Tm.each_node (liftF k c) t b hk2
      have HEQ := Lib.hid heq
      have HRK := Lib.hid (t.right_kids hr)
      have HR := Lib.hid hr
      have HFI := Lib.hid hf
      have IH := Lib.hid ih
      have HN := Lib.hid hn
      have HK := Lib.hid hk
      have HDE := Lib.hid hde
      have hd0 := desk_start w t t (.slice a t.kids.length cap) (.slice none 0 0)
      clear heq hk2 ih hn hk hf hr hl hde
      by_cases h0 : t.kids.length = 0
      · have h1 : t.kids.length < 1 := by omega
        have HNL := Lib.hid (List.eq_nil_of_length_eq_zero h0)
        clear h0 HB0
        go_enter Try.func160, Try.ntmps160
        go_wp2_with fail
        go_loopw [50] (fun i wr => i = .int .i64 0 ∧ Desk w t t (.slice a t.kids.length cap) (.slice none 0 0) wr) (fun _ _ => 0)
        case atStart => exact ⟨rfl, hd0⟩
        case round =>
          clear hd0
          obtain ⟨rfl, hdk⟩ := hrel
          obtain ⟨q0, q1, q2⟩ := desk_blocks hdk
          obtain ⟨d0, d1, d2, d3, d4⟩ := five_cells q0
          obtain ⟨y0, y1, y2, y3, y4⟩ := five_cells q2
          obtain ⟨z0, z1, z2, z3, z4⟩ := five_cells q1
          obtain ⟨f0, f1, f2, f3, f4⟩ := five_free q1
          clear q0 q2
          go_wp2_with fail
          (try simp only [Exit.inBlock, Exit.then])
          refine bodyPost_ret (results_cell_tmp rfl _ _ (w.heap.size + 1) _ _ _ du rfl (five_set q1) hu1 (by cases du <;> first | rfl | exact hu2) size_term) rfl ?_
          exact ⟨((((((desk_under hdk).setCell (by simp) _).setCell (by simp) _).setCell (by simp) _).setCell (by simp) _).setCell (by simp) _), Or.inl ⟨.mk t.k t.i t.j t.n [], .slice none 0 0, by rw [HEQ.out, HNL.out]; rfl, rfl, liesP_nil _ _⟩⟩
      · have h0' : 0 < t.kids.length := by omega
        obtain ⟨i0, hi, hz0, hz1, hz2⟩ := info_parts info_term
        have HI := Lib.hid (And.intro hi (And.intro hz0 (And.intro hz1 hz2)))
        clear hi hz0 hz1 hz2
        go_enter Try.func160, Try.ntmps160
        go_wp2_with (at_make; refine wpList_make_full _ rfl _ _ 30 rfl (w.heap.size + 3) 32 i0 _ 5 (by kernel_rfl) HI.out.1 HI.out.2.1 HI.out.2.2.1 _ _ _ _ t.kids.length rfl rfl rfl rfl ?bytes ?max ?base ?next)
        case bytes => rw [HI.out.2.2.2]; omega
        case max => unfold maxLen; omega
        case base => simp
        case next =>
        intro w1 hown hgrow
        have hful := full_made hown
        have hbel : Below (w.heap.size + 3) _ w1 := (Below.refl _ _).grown hgrow (by simp) (by simp)
        have hd1 : Desk w t t _ _ w1 := hbel
        clear hbel hgrow hown
        obtain ⟨q0, q1, q2⟩ := desk_blocks hd1
        obtain ⟨d0, d1, d2, d3, d4⟩ := five_cells q0
        obtain ⟨y0, y1, y2, y3, y4⟩ := five_cells q2
        obtain ⟨f0, f1, f2, f3, f4⟩ := five_free q2
        have hd2 := desk_set (v' := .slice (some ⟨w.heap.size + 3, 0, none⟩) t.kids.length t.kids.length) hd1
        clear q0 q1 q2
        have hf2 := hful.below (b := w.heap.size + 2) (o := 4) (by omega) (.slice (some ⟨w.heap.size + 3, 0, none⟩) t.kids.length t.kids.length)
        clear hd1 hful HB0 hd0
        go_wp2_with fail
        go_loopw [50] (fun i wr => ∃ (q : Nat) (xs : List (Tm × Value)), q ≤ t.kids.length ∧ i = .int .i64 q ∧ Hid (xs.length = t.kids.length) ∧ Hid (optK (fun q x => x.each (liftF k c) (b + bindsN t.k q)) 0 (t.kids.take q) = some ((xs.map (·.1)).take q)) ∧ Full (w.heap.size + 3) wr (w.heap.size + 3) xs ∧ Desk w t t (.slice a t.kids.length cap) (.slice (some ⟨w.heap.size + 3, 0, none⟩) t.kids.length t.kids.length) wr) (fun i _ => t.kids.length - (intOf i).toNat)
        case atStart => exact ⟨0, _, Nat.zero_le _, rfl, List.length_replicate, rfl, hf2, hd2⟩
        case round =>
          clear hf2 hd2 d0 d1 d2 d3 d4 y0 y1 y2 y3 y4 f0 f1 f2 f3 f4
          obtain ⟨q, xs, hq0, rfl, hxl, hxs, hfu, hdk⟩ := hrel
          have HXL := Lib.hid hxl.out
          have HXS := Lib.hid hxs.out
          clear hxl hxs
          obtain ⟨q0, q1, q2⟩ := desk_blocks hdk
          obtain ⟨d0, d1, d2, d3, d4⟩ := five_cells q0
          obtain ⟨y0, y1, y2, y3, y4⟩ := five_cells q2
          obtain ⟨z0, z1, z2, z3, z4⟩ := five_cells q1
          obtain ⟨f0, f1, f2, f3, f4⟩ := five_free q1
          have hsz := desk_size hdk
          clear q0 q2
          by_cases hlt : q < t.kids.length
          · obtain ⟨b', o, rfl, hx⟩ := HN.out q hlt
            have hy := hx.below (desk_under hdk) hx.lt
            obtain ⟨c0, c1, c2, c3, c4⟩ := hy
            have hq := HK.out q hlt
            obtain ⟨a', cap', S', hS, -⟩ := hq.out
            rw [hS] at c4 hq
            have HM := Lib.hid (List.getElem_mem hlt)
            have hbd := binds_range t.k q
            have hdq := deeps_get t.kids q hlt
            rw [HDE.out] at hd
            have hsum : IntKind.i64.wrap (b + bindsN t.k q) = b + bindsN t.k q := IntWalk.i64_in _ (by omega)
            have hH0 := held_start wr t.kids[q] (.slice a' t.kids[q].kids.length cap')
            have CALL : ∀ w', Held wr t.kids[q] (.slice a' t.kids[q].kids.length cap') w' → Calls Try.prog 160 #[tv t.kids[q] (.slice a' t.kids[q].kids.length cap'), .int .i64 (b + bindsN t.k q), .func (.func 161) #[] #[.pointer (some ⟨bf, 0, none⟩), .pointer (some ⟨bk, 0, none⟩)]] w' (Gives (t.kids[q].each (liftF k c) (b + bindsN t.k q)) w') := fun w' h' =>
              IH.out _ HM.out _ w' _ (hq.keep ((desk_under hdk).trans ((held_below h').mono (by omega)))) (HRK.out _ HM.out) (by omega) (by omega) (cell_lat ((desk_under hdk).trans ((held_below h').mono (by omega))) hcf) (cell_lat ((desk_under hdk).trans ((held_below h').mono (by omega))) hck)
            clear hS hq hx hd hdq hbd
            cases hx2 : t.kids[q].each (liftF k c) (b + bindsN t.k q) with
            | none =>
              rw [hx2] at CALL
              have HX2 := Lib.hid hx2
              have CALL2 : ∀ w', Held wr t.kids[q] (.slice a' t.kids[q].kids.length cap') w' → Calls Try.prog 160 #[tv t.kids[q] (.slice a' t.kids[q].kids.length cap'), .int .i64 (b + bindsN t.k q), .func (.func 161) #[] #[.pointer (some ⟨bf, 0, none⟩), .pointer (some ⟨bk, 0, none⟩)]] w' (GivesNone w') := fun w' h' => (CALL w' h').mono fun e w'' h => h.none
              have CALLB := Lib.hid (CALL2 (wr.alloc (.cells #[.int .i64 t.kids[q].k, .int .i64 t.kids[q].i, .int .i64 t.kids[q].j, .int .i64 t.kids[q].n, .slice a' t.kids[q].kids.length cap'] 32)).drew (held_drew hH0))
              have CALLA := Lib.hid ((CALL2 ((wr.alloc (.cells #[.int .i64 t.kids[q].k, .int .i64 t.kids[q].i, .int .i64 t.kids[q].j, .int .i64 t.kids[q].n, .slice a' t.kids[q].kids.length cap'] 32)).alloc zeroObj).drew (held_drew (held_alloc hH0 _))).mono fun e w'' h => And.intro h (zero_blocks_new h.2))
              clear hx2 CALL CALL2
              go_wp2_with fail
              go_region_held3 (fun w' => Held wr t.kids[q] (.slice a' t.kids[q].kids.length cap') w' ∧ w'.cell? ⟨w.heap.size, 0, none⟩ = some (.int .i64 t.k) ∧ w'.cell? ⟨wr.heap.size, 0, none⟩ = some (.int .i64 t.kids[q].k) ∧ w'.cell? ⟨wr.heap.size, 1, none⟩ = some (.int .i64 t.kids[q].i) ∧ w'.cell? ⟨wr.heap.size, 2, none⟩ = some (.int .i64 t.kids[q].j) ∧ w'.cell? ⟨wr.heap.size, 3, none⟩ = some (.int .i64 t.kids[q].n) ∧ w'.cell? ⟨wr.heap.size, 4, none⟩ = some (.slice a' t.kids[q].kids.length cap'))
                (((with_reducible refine held_and ?_ d0); repeat (first | with_reducible assumption | with_reducible exact hH0 | with_reducible refine held_drew ?_ | with_reducible refine held_alloc ?_ _ | ((with_reducible refine held_set ?_ ?hh _); (case hh => simp)))))
                (first | (go_at_call 182; refine (binds_any _ _ _).mono ?_; rintro e w' ⟨rfl, rfl⟩) | (go_at_call 160; ((with_reducible refine Calls.mono CALLB.out ?_); rintro e wn ⟨⟨z, rfl⟩, hbn⟩; have hh := held_call (held_drew hH0) hbn)) | (go_at_call 160; ((with_reducible refine Calls.mono CALLA.out ?_); rintro e wn ⟨⟨⟨z, rfl⟩, hbn⟩, hZ⟩; obtain ⟨⟨g0, g1, g2, g3, g4⟩, k0, k1, k2, k3, k4⟩ := And.intro (five_cells hZ) (five_free hZ); have hh := held_call (held_drew (held_alloc hH0 _)) hbn)))
              · have hW : Held wr t.kids[q] (.slice a' t.kids[q].kids.length cap') (wn.alloc (.cells #[.int .i64 z.k, .int .i64 z.i, .int .i64 z.j, .int .i64 z.n, .slice none 0 0] 32)) := held_alloc hh _
                clear hh hbn
                generalize wn.alloc (.cells #[.int .i64 z.k, .int .i64 z.i, .int .i64 z.j, .int .i64 z.n, .slice none 0 0] 32) = W at hW ⊢
                have hdW := desk_trans hdk (below_from (held_below hW) hsz)
                obtain ⟨-, q1, -⟩ := desk_blocks hdW
                obtain ⟨z0, z1, z2, z3, z4⟩ := five_cells q1
                obtain ⟨f0, f1, f2, f3, f4⟩ := five_free q1
                go_wp2
                (try simp only [Exit.inBlock, Exit.then])
                refine bodyPost_ret (results_cell_tmp rfl _ _ (w.heap.size + 1) _ _ _ du rfl (five_set q1) hu1 (by cases du <;> first | rfl | exact hu2) size_term) rfl ?_
                exact ⟨((((((desk_under hdW).setCell (by simp) _).setCell (by simp) _).setCell (by simp) _).setCell (by simp) _).setCell (by simp) _), Or.inr ⟨Tm.zero, by rw [HEQ.out, optK_stop hlt HX2.out]; rfl, rfl, rfl⟩⟩
              · have hW : Held wr t.kids[q] (.slice a' t.kids[q].kids.length cap') (((((wn.setCell ⟨wr.heap.size + 1, 0, none⟩ (.int .i64 z.k)).setCell ⟨wr.heap.size + 1, 1, none⟩ (.int .i64 z.i)).setCell ⟨wr.heap.size + 1, 2, none⟩ (.int .i64 z.j)).setCell ⟨wr.heap.size + 1, 3, none⟩ (.int .i64 z.n)).setCell ⟨wr.heap.size + 1, 4, none⟩ (.slice none 0 0)) := held_five hh _ _ _ _ _
                clear hh hbn hZ g0 g1 g2 g3 g4 k0 k1 k2 k3 k4
                generalize ((((wn.setCell ⟨wr.heap.size + 1, 0, none⟩ (.int .i64 z.k)).setCell ⟨wr.heap.size + 1, 1, none⟩ (.int .i64 z.i)).setCell ⟨wr.heap.size + 1, 2, none⟩ (.int .i64 z.j)).setCell ⟨wr.heap.size + 1, 3, none⟩ (.int .i64 z.n)).setCell ⟨wr.heap.size + 1, 4, none⟩ (.slice none 0 0) = W at hW ⊢
                have hdW := desk_trans hdk (below_from (held_below hW) hsz)
                obtain ⟨-, q1, -⟩ := desk_blocks hdW
                obtain ⟨z0, z1, z2, z3, z4⟩ := five_cells q1
                obtain ⟨f0, f1, f2, f3, f4⟩ := five_free q1
                go_wp2
                (try simp only [Exit.inBlock, Exit.then])
                refine bodyPost_ret (results_cell_tmp rfl _ _ (w.heap.size + 1) _ _ _ du rfl (five_set q1) hu1 (by cases du <;> first | rfl | exact hu2) size_term) rfl ?_
                exact ⟨((((((desk_under hdW).setCell (by simp) _).setCell (by simp) _).setCell (by simp) _).setCell (by simp) _).setCell (by simp) _), Or.inr ⟨Tm.zero, by rw [HEQ.out, optK_stop hlt HX2.out]; rfl, rfl, rfl⟩⟩
              · have hW : Held wr t.kids[q] (.slice a' t.kids[q].kids.length cap') (((((wn.setCell ⟨wr.heap.size + 1, 0, none⟩ (.int .i64 z.k)).setCell ⟨wr.heap.size + 1, 1, none⟩ (.int .i64 z.i)).setCell ⟨wr.heap.size + 1, 2, none⟩ (.int .i64 z.j)).setCell ⟨wr.heap.size + 1, 3, none⟩ (.int .i64 z.n)).setCell ⟨wr.heap.size + 1, 4, none⟩ (.slice none 0 0)) := held_five hh _ _ _ _ _
                clear hh hbn hZ g0 g1 g2 g3 g4 k0 k1 k2 k3 k4
                generalize ((((wn.setCell ⟨wr.heap.size + 1, 0, none⟩ (.int .i64 z.k)).setCell ⟨wr.heap.size + 1, 1, none⟩ (.int .i64 z.i)).setCell ⟨wr.heap.size + 1, 2, none⟩ (.int .i64 z.j)).setCell ⟨wr.heap.size + 1, 3, none⟩ (.int .i64 z.n)).setCell ⟨wr.heap.size + 1, 4, none⟩ (.slice none 0 0) = W at hW ⊢
                have hdW := desk_trans hdk (below_from (held_below hW) hsz)
                obtain ⟨-, q1, -⟩ := desk_blocks hdW
                obtain ⟨z0, z1, z2, z3, z4⟩ := five_cells q1
                obtain ⟨f0, f1, f2, f3, f4⟩ := five_free q1
                go_wp2
                (try simp only [Exit.inBlock, Exit.then])
                refine bodyPost_ret (results_cell_tmp rfl _ _ (w.heap.size + 1) _ _ _ du rfl (five_set q1) hu1 (by cases du <;> first | rfl | exact hu2) size_term) rfl ?_
                exact ⟨((((((desk_under hdW).setCell (by simp) _).setCell (by simp) _).setCell (by simp) _).setCell (by simp) _).setCell (by simp) _), Or.inr ⟨Tm.zero, by rw [HEQ.out, optK_stop hlt HX2.out]; rfl, rfl, rfl⟩⟩
            | some u =>
              rw [hx2] at CALL
              have hfine : u.fine := right_fine (right_each _ (liftF_range k c hk0) _ _ _ (HRK.out _ HM.out) hx2)
              have HFI2 := Lib.hid hfine
              have hfine' := trivial
              clear hfine
              have HX2 := Lib.hid hx2
              have CALL2 : ∀ w', Held wr t.kids[q] (.slice a' t.kids[q].kids.length cap') w' → Calls Try.prog 160 #[tv t.kids[q] (.slice a' t.kids[q].kids.length cap'), .int .i64 (b + bindsN t.k q), .func (.func 161) #[] #[.pointer (some ⟨bf, 0, none⟩), .pointer (some ⟨bk, 0, none⟩)]] w' (GivesSome u w') := fun w' h' => (CALL w' h').mono fun e w'' h => h.some
              have CALLB := Lib.hid (CALL2 (wr.alloc (.cells #[.int .i64 t.kids[q].k, .int .i64 t.kids[q].i, .int .i64 t.kids[q].j, .int .i64 t.kids[q].n, .slice a' t.kids[q].kids.length cap'] 32)).drew (held_drew hH0))
              have CALLA := Lib.hid ((CALL2 ((wr.alloc (.cells #[.int .i64 t.kids[q].k, .int .i64 t.kids[q].i, .int .i64 t.kids[q].j, .int .i64 t.kids[q].n, .slice a' t.kids[q].kids.length cap'] 32)).alloc zeroObj).drew (held_drew (held_alloc hH0 _))).mono fun e w'' h => And.intro h (zero_blocks_new h.2))
              clear hx2 CALL CALL2
              go_wp2_with fail
              go_region_held3 (fun w' => Held wr t.kids[q] (.slice a' t.kids[q].kids.length cap') w' ∧ w'.cell? ⟨w.heap.size, 0, none⟩ = some (.int .i64 t.k) ∧ w'.cell? ⟨wr.heap.size, 0, none⟩ = some (.int .i64 t.kids[q].k) ∧ w'.cell? ⟨wr.heap.size, 1, none⟩ = some (.int .i64 t.kids[q].i) ∧ w'.cell? ⟨wr.heap.size, 2, none⟩ = some (.int .i64 t.kids[q].j) ∧ w'.cell? ⟨wr.heap.size, 3, none⟩ = some (.int .i64 t.kids[q].n) ∧ w'.cell? ⟨wr.heap.size, 4, none⟩ = some (.slice a' t.kids[q].kids.length cap'))
                (((with_reducible refine held_and ?_ d0); repeat (first | with_reducible assumption | with_reducible exact hH0 | with_reducible refine held_drew ?_ | with_reducible refine held_alloc ?_ _ | ((with_reducible refine held_set ?_ ?hh _); (case hh => simp)))))
                (first | (go_at_call 182; refine (binds_any _ _ _).mono ?_; rintro e w' ⟨rfl, rfl⟩) | (go_at_call 160; ((with_reducible refine Calls.mono CALLB.out ?_); rintro e wn ⟨⟨s2, rfl, hl2⟩, hbn⟩; obtain ⟨a2, cap2, rfl, -, -⟩ := hl2.out; have HL2 := Lib.hid hl2; clear hl2; have hh := held_call (held_drew hH0) hbn)) | (go_at_call 160; ((with_reducible refine Calls.mono CALLA.out ?_); rintro e wn ⟨⟨⟨s2, rfl, hl2⟩, hbn⟩, hZ⟩; obtain ⟨⟨g0, g1, g2, g3, g4⟩, k0, k1, k2, k3, k4⟩ := And.intro (five_cells hZ) (five_free hZ); obtain ⟨a2, cap2, rfl, -, -⟩ := hl2.out; have HL2 := Lib.hid hl2; clear hl2; have hh := held_call (held_drew (held_alloc hH0 _)) hbn)))
              · have hW : Held wr t.kids[q] (.slice a' t.kids[q].kids.length cap') (wn.alloc (.cells #[.int .i64 u.k, .int .i64 u.i, .int .i64 u.j, .int .i64 u.n, .slice a2 u.kids.length cap2] 32)) := held_alloc hh _
                have hLW : LiesP (wn.alloc (.cells #[.int .i64 u.k, .int .i64 u.i, .int .i64 u.j, .int .i64 u.n, .slice a2 u.kids.length cap2] 32)) (Own wr.heap.size (wn.alloc (.cells #[.int .i64 u.k, .int .i64 u.i, .int .i64 u.j, .int .i64 u.n, .slice a2 u.kids.length cap2] 32))) u.kids (.slice a2 u.kids.length cap2) := ((HL2.out.from (by simp)).later ((Below.refl _ _).alloc (Nat.le_refl _) _))
                have hN : (wn.alloc (.cells #[.int .i64 u.k, .int .i64 u.i, .int .i64 u.j, .int .i64 u.n, .slice a2 u.kids.length cap2] 32)).heap[wn.heap.size]? = some (boxOf u (.slice a2 u.kids.length cap2)) := alloc_new _ _
                clear hh hbn HL2
                generalize wn.alloc (.cells #[.int .i64 u.k, .int .i64 u.i, .int .i64 u.j, .int .i64 u.n, .slice a2 u.kids.length cap2] 32) = W at hW hLW hN ⊢
                have hdW := desk_trans hdk (below_from (held_below hW) hsz)
                have hfW := hfu.later (held_below hW)
                have hxq : q < xs.length := by rw [HXL.out]; exact hlt
                have hLF := hfu.fresh hsz hLW
                obtain ⟨-, -, q2⟩ := desk_blocks hdW
                obtain ⟨y0, y1, y2, y3, y4⟩ := five_cells q2
                obtain ⟨p0, p1, p2, p3, p4⟩ := five_cells hN
                obtain ⟨x0, x1, x2, x3, x4⟩ := hfW.node q hxq
                obtain ⟨cs, hcs⟩ := hfW.open'
                have f0 := open_unfrozen hcs (q * 5)
                have f1 := open_unfrozen hcs (q * 5 + 1)
                have f2 := open_unfrozen hcs (q * 5 + 2)
                have f3 := open_unfrozen hcs (q * 5 + 3)
                have f4 := open_unfrozen hcs (q * 5 + 4)
                have HFW := Lib.hid hfW
                have HLF := Lib.hid hLF
                have HFU := Lib.hid hfu
                clear hcs hN hLW hW hfW hLF hfu hfine' d0 d1 d2 d3 d4 z0 z1 z2 z3 z4
                go_wp2
                go_roundw
                case rel => exact ⟨q + 1, xs.set q (u, .slice a2 u.kids.length cap2), hlt, by go_num, by simp [Hid, HXL.out], by rw [Hid, optK_next hlt HXS.out HX2.out, List.map_set, take_set_next _ _ _ (by simpa using hxq)], HFW.out.fill hxq HFI2.out HLF.out, desk_put hdW (Nat.le_refl _) _ _ _⟩
                case measure => simp [intOf]; omega
              · have hW : Held wr t.kids[q] (.slice a' t.kids[q].kids.length cap') (((((wn.setCell ⟨wr.heap.size + 1, 0, none⟩ (.int .i64 u.k)).setCell ⟨wr.heap.size + 1, 1, none⟩ (.int .i64 u.i)).setCell ⟨wr.heap.size + 1, 2, none⟩ (.int .i64 u.j)).setCell ⟨wr.heap.size + 1, 3, none⟩ (.int .i64 u.n)).setCell ⟨wr.heap.size + 1, 4, none⟩ (.slice a2 u.kids.length cap2)) := held_five hh _ _ _ _ _
                have hLW : LiesP (((((wn.setCell ⟨wr.heap.size + 1, 0, none⟩ (.int .i64 u.k)).setCell ⟨wr.heap.size + 1, 1, none⟩ (.int .i64 u.i)).setCell ⟨wr.heap.size + 1, 2, none⟩ (.int .i64 u.j)).setCell ⟨wr.heap.size + 1, 3, none⟩ (.int .i64 u.n)).setCell ⟨wr.heap.size + 1, 4, none⟩ (.slice a2 u.kids.length cap2)) (Own wr.heap.size (((((wn.setCell ⟨wr.heap.size + 1, 0, none⟩ (.int .i64 u.k)).setCell ⟨wr.heap.size + 1, 1, none⟩ (.int .i64 u.i)).setCell ⟨wr.heap.size + 1, 2, none⟩ (.int .i64 u.j)).setCell ⟨wr.heap.size + 1, 3, none⟩ (.int .i64 u.n)).setCell ⟨wr.heap.size + 1, 4, none⟩ (.slice a2 u.kids.length cap2))) u.kids (.slice a2 u.kids.length cap2) := liesP_five (HL2.out.from (B' := wr.heap.size + 2) (by simp)) _ _ _ _ _
                have hN : (((((wn.setCell ⟨wr.heap.size + 1, 0, none⟩ (.int .i64 u.k)).setCell ⟨wr.heap.size + 1, 1, none⟩ (.int .i64 u.i)).setCell ⟨wr.heap.size + 1, 2, none⟩ (.int .i64 u.j)).setCell ⟨wr.heap.size + 1, 3, none⟩ (.int .i64 u.n)).setCell ⟨wr.heap.size + 1, 4, none⟩ (.slice a2 u.kids.length cap2)).heap[wr.heap.size + 1]? = some (boxOf u (.slice a2 u.kids.length cap2)) := five_set hZ
                clear hh hbn HL2 hZ g0 g1 g2 g3 g4 k0 k1 k2 k3 k4
                generalize ((((wn.setCell ⟨wr.heap.size + 1, 0, none⟩ (.int .i64 u.k)).setCell ⟨wr.heap.size + 1, 1, none⟩ (.int .i64 u.i)).setCell ⟨wr.heap.size + 1, 2, none⟩ (.int .i64 u.j)).setCell ⟨wr.heap.size + 1, 3, none⟩ (.int .i64 u.n)).setCell ⟨wr.heap.size + 1, 4, none⟩ (.slice a2 u.kids.length cap2) = W at hW hLW hN ⊢
                have hdW := desk_trans hdk (below_from (held_below hW) hsz)
                have hfW := hfu.later (held_below hW)
                have hxq : q < xs.length := by rw [HXL.out]; exact hlt
                have hLF := hfu.fresh hsz hLW
                obtain ⟨-, -, q2⟩ := desk_blocks hdW
                obtain ⟨y0, y1, y2, y3, y4⟩ := five_cells q2
                obtain ⟨p0, p1, p2, p3, p4⟩ := five_cells hN
                obtain ⟨x0, x1, x2, x3, x4⟩ := hfW.node q hxq
                obtain ⟨cs, hcs⟩ := hfW.open'
                have f0 := open_unfrozen hcs (q * 5)
                have f1 := open_unfrozen hcs (q * 5 + 1)
                have f2 := open_unfrozen hcs (q * 5 + 2)
                have f3 := open_unfrozen hcs (q * 5 + 3)
                have f4 := open_unfrozen hcs (q * 5 + 4)
                have HFW := Lib.hid hfW
                have HLF := Lib.hid hLF
                have HFU := Lib.hid hfu
                clear hcs hN hLW hW hfW hLF hfu hfine' d0 d1 d2 d3 d4 z0 z1 z2 z3 z4
                go_wp2
                go_roundw
                case rel => exact ⟨q + 1, xs.set q (u, .slice a2 u.kids.length cap2), hlt, by go_num, by simp [Hid, HXL.out], by rw [Hid, optK_next hlt HXS.out HX2.out, List.map_set, take_set_next _ _ _ (by simpa using hxq)], HFW.out.fill hxq HFI2.out HLF.out, desk_put hdW (Nat.le_refl _) _ _ _⟩
                case measure => simp [intOf]; omega
              · have hW : Held wr t.kids[q] (.slice a' t.kids[q].kids.length cap') (((((wn.setCell ⟨wr.heap.size + 1, 0, none⟩ (.int .i64 u.k)).setCell ⟨wr.heap.size + 1, 1, none⟩ (.int .i64 u.i)).setCell ⟨wr.heap.size + 1, 2, none⟩ (.int .i64 u.j)).setCell ⟨wr.heap.size + 1, 3, none⟩ (.int .i64 u.n)).setCell ⟨wr.heap.size + 1, 4, none⟩ (.slice a2 u.kids.length cap2)) := held_five hh _ _ _ _ _
                have hLW : LiesP (((((wn.setCell ⟨wr.heap.size + 1, 0, none⟩ (.int .i64 u.k)).setCell ⟨wr.heap.size + 1, 1, none⟩ (.int .i64 u.i)).setCell ⟨wr.heap.size + 1, 2, none⟩ (.int .i64 u.j)).setCell ⟨wr.heap.size + 1, 3, none⟩ (.int .i64 u.n)).setCell ⟨wr.heap.size + 1, 4, none⟩ (.slice a2 u.kids.length cap2)) (Own wr.heap.size (((((wn.setCell ⟨wr.heap.size + 1, 0, none⟩ (.int .i64 u.k)).setCell ⟨wr.heap.size + 1, 1, none⟩ (.int .i64 u.i)).setCell ⟨wr.heap.size + 1, 2, none⟩ (.int .i64 u.j)).setCell ⟨wr.heap.size + 1, 3, none⟩ (.int .i64 u.n)).setCell ⟨wr.heap.size + 1, 4, none⟩ (.slice a2 u.kids.length cap2))) u.kids (.slice a2 u.kids.length cap2) := liesP_five (HL2.out.from (B' := wr.heap.size + 2) (by simp)) _ _ _ _ _
                have hN : (((((wn.setCell ⟨wr.heap.size + 1, 0, none⟩ (.int .i64 u.k)).setCell ⟨wr.heap.size + 1, 1, none⟩ (.int .i64 u.i)).setCell ⟨wr.heap.size + 1, 2, none⟩ (.int .i64 u.j)).setCell ⟨wr.heap.size + 1, 3, none⟩ (.int .i64 u.n)).setCell ⟨wr.heap.size + 1, 4, none⟩ (.slice a2 u.kids.length cap2)).heap[wr.heap.size + 1]? = some (boxOf u (.slice a2 u.kids.length cap2)) := five_set hZ
                clear hh hbn HL2 hZ g0 g1 g2 g3 g4 k0 k1 k2 k3 k4
                generalize ((((wn.setCell ⟨wr.heap.size + 1, 0, none⟩ (.int .i64 u.k)).setCell ⟨wr.heap.size + 1, 1, none⟩ (.int .i64 u.i)).setCell ⟨wr.heap.size + 1, 2, none⟩ (.int .i64 u.j)).setCell ⟨wr.heap.size + 1, 3, none⟩ (.int .i64 u.n)).setCell ⟨wr.heap.size + 1, 4, none⟩ (.slice a2 u.kids.length cap2) = W at hW hLW hN ⊢
                have hdW := desk_trans hdk (below_from (held_below hW) hsz)
                have hfW := hfu.later (held_below hW)
                have hxq : q < xs.length := by rw [HXL.out]; exact hlt
                have hLF := hfu.fresh hsz hLW
                obtain ⟨-, -, q2⟩ := desk_blocks hdW
                obtain ⟨y0, y1, y2, y3, y4⟩ := five_cells q2
                obtain ⟨p0, p1, p2, p3, p4⟩ := five_cells hN
                obtain ⟨x0, x1, x2, x3, x4⟩ := hfW.node q hxq
                obtain ⟨cs, hcs⟩ := hfW.open'
                have f0 := open_unfrozen hcs (q * 5)
                have f1 := open_unfrozen hcs (q * 5 + 1)
                have f2 := open_unfrozen hcs (q * 5 + 2)
                have f3 := open_unfrozen hcs (q * 5 + 3)
                have f4 := open_unfrozen hcs (q * 5 + 4)
                have HFW := Lib.hid hfW
                have HLF := Lib.hid hLF
                have HFU := Lib.hid hfu
                clear hcs hN hLW hW hfW hLF hfu hfine' d0 d1 d2 d3 d4 z0 z1 z2 z3 z4
                go_wp2
                go_roundw
                case rel => exact ⟨q + 1, xs.set q (u, .slice a2 u.kids.length cap2), hlt, by go_num, by simp [Hid, HXL.out], by rw [Hid, optK_next hlt HXS.out HX2.out, List.map_set, take_set_next _ _ _ (by simpa using hxq)], HFW.out.fill hxq HFI2.out HLF.out, desk_put hdW (Nat.le_refl _) _ _ _⟩
                case measure => simp [intOf]; omega
          · have : q = t.kids.length := by omega
            subst this
            go_wp2_with fail
            (try simp only [Exit.inBlock, Exit.then])
            refine bodyPost_ret (results_cell_tmp rfl _ _ (w.heap.size + 1) _ _ _ du rfl (five_set q1) hu1 (by cases du <;> first | rfl | exact hu2) size_term) rfl ?_
            have hxe : (xs.map (·.1)).take t.kids.length = xs.map (·.1) := by rw [← HXL.out, ← List.length_map (f := (·.1)), List.take_length]
            have hres : t.each (liftF k c) b = some (.mk t.k t.i t.j t.n (xs.map (·.1))) := by
              have := HXS.out
              rw [List.take_length, hxe] at this
              rw [HEQ.out, this]; rfl
            refine ⟨((((((desk_under hdk).setCell (by simp) _).setCell (by simp) _).setCell (by simp) _).setCell (by simp) _).setCell (by simp) _), Or.inl ⟨_, _, hres, rfl, ?_⟩⟩
            refine five_lies (hfu.lies (cap := t.kids.length) (by rw [HXL.out]; exact Nat.le_refl _) (by unfold maxLen; omega)) HXL.out _ _ _ _ _
end Go.Proofs.Ytkdceahmknhojaa

namespace Go.Proofs.Ytkdceahmknhojaa
open Go.RowKit

theorem heap_four (w : World) (a b c d : Obj) : ((((w.alloc a).alloc b).alloc c).alloc d).heap[w.heap.size]? = some a ∧ ((((w.alloc a).alloc b).alloc c).alloc d).heap[w.heap.size + 1]? = some b ∧ ((((w.alloc a).alloc b).alloc c).alloc d).heap[w.heap.size + 2]? = some c ∧ ((((w.alloc a).alloc b).alloc c).alloc d).heap[w.heap.size + 3]? = some d := by
  obtain ⟨h0, h1, h2, -⟩ := heap_three w a b c
  refine ⟨?_, ?_, ?_, ?_⟩
  · rw [Below.heap_alloc _ _ _ (by simp <;> omega)]; exact h0
  · rw [Below.heap_alloc _ _ _ (by simp <;> omega)]; exact h1
  · rw [Below.heap_alloc _ _ _ (by simp)]; exact h2
  · have := alloc_new (((w.alloc a).alloc b).alloc c) d
    simpa using this
theorem below_four (w : World) (a b c d : Obj) : Below w.heap.size w ((((w.alloc a).alloc b).alloc c).alloc d) := ((((Below.refl _ _).alloc (Nat.le_refl _) _).alloc (by simp) _).alloc (by simp <;> omega) _).alloc (by simp <;> omega) _

set_option maxHeartbeats 2000000 in
theorem lift_any (t : Tm) (k c : Int) (w : World) (s : Value) (hl : Lies w t.kids s) (hk : I64 k) (_ : I64 c) (hd : t.deep ≤ 100000) : Calls Try.prog 112 #[tv t s, .int .i64 k, .int .i64 c] w (Makes (t.liftB k c) w) := by
  obtain ⟨a, cap, S, rfl, hc, hm, -, -, -⟩ := hl.out
  have HL := Lib.hid hl
  obtain ⟨du, hu1, hu2⟩ := under_term
  have HB := below_four w (.cells #[.int .i64 t.k, .int .i64 t.i, .int .i64 t.j, .int .i64 t.n, .slice a t.kids.length cap] 32) (.cells #[.int .i64 k] 3) (.cells #[.int .i64 c] 3) (.cells #[.int .i64 0, .int .i64 0, .int .i64 0, .int .i64 0, .slice none 0 0] 32)
  obtain ⟨q0, q1, q2, q3⟩ := heap_four w (.cells #[.int .i64 t.k, .int .i64 t.i, .int .i64 t.j, .int .i64 t.n, .slice a t.kids.length cap] 32) (.cells #[.int .i64 k] 3) (.cells #[.int .i64 c] 3) (.cells #[.int .i64 0, .int .i64 0, .int .i64 0, .int .i64 0, .slice none 0 0] 32)
  clear hl
  unfold tv
  by_cases hk0 : k < 0
  · have e1 : decide (k < 0) = true := by simpa using hk0
    have hres : t.liftB k c = Tm.zero := by unfold Tm.liftB; rw [if_pos (Or.inl hk0)]
    rw [hres]
    clear hres
    go_enter Try.func112, Try.ntmps112
    go_wp2
    refine bodyPost_ret (results_cell_row rfl _ _ (w.heap.size + 3) _ _ _ du rfl q3 hu1 (by cases du <;> first | rfl | exact hu2) size_term) rfl ?_
    exact ⟨.slice none 0 0, rfl, liesP_nil _ _, HB⟩
  by_cases hc0 : c < 0
  · have e1 : decide (k < 0) = false := by simpa using hk0
    have e2 : decide (c < 0) = true := by simpa using hc0
    have hres : t.liftB k c = Tm.zero := by unfold Tm.liftB; rw [if_pos (Or.inr (Or.inl hc0))]
    rw [hres]
    clear hres
    go_enter Try.func112, Try.ntmps112
    go_wp2
    refine bodyPost_ret (results_cell_row rfl _ _ (w.heap.size + 3) _ _ _ du rfl q3 hu1 (by cases du <;> first | rfl | exact hu2) size_term) rfl ?_
    exact ⟨.slice none 0 0, rfl, liesP_nil _ _, HB⟩
  have e1 : decide (k < 0) = false := by simpa using hk0
  have e2 : decide (c < 0) = false := by simpa using hc0
  cases hr : t.rightB with
  | false =>
    have hres : t.liftB k c = Tm.zero := by unfold Tm.liftB; rw [if_pos (Or.inr (Or.inr hr))]
    rw [hres]
    clear hres
    go_enter Try.func112, Try.ntmps112
    go_wp2_with fail
    refine (right_any t _ _ (HL.out.keep HB)).mono ?_
    rw [hr]
    rintro e w2 ⟨rfl, hb2⟩
    have h3 := hb2.block (w.heap.size + 3) (by have := (Array.getElem?_eq_some_iff.1 q3).1; exact this)
    rw [q3] at h3
    obtain ⟨z0, z1, z2, z3, z4⟩ := five_cells h3
    obtain ⟨f0, f1, f2, f3, f4⟩ := five_free h3
    have hB2 := HB.trans (hb2.mono HB.size)
    clear hb2 q0 q1 q2 q3
    go_wp2
    refine bodyPost_ret (results_cell_row rfl _ _ (w.heap.size + 3) _ _ _ du rfl (five_set h3) hu1 (by cases du <;> first | rfl | exact hu2) size_term) rfl ?_
    exact ⟨.slice none 0 0, rfl, liesP_nil _ _, ((((hB2.setCell (above3 _) _).setCell (above3 _) _).setCell (above3 _) _).setCell (above3 _) _).setCell (above3 _) _⟩
  | true =>
    have hlb : t.liftB k c = (t.each (liftF k c) 0).getD .zero := by unfold Tm.liftB; rw [if_neg (by rw [hr]; simp; omega)]
    have HLB := Lib.hid hlb
    clear hlb
    go_enter Try.func112, Try.ntmps112
    go_wp2_with fail
    refine (right_any t _ _ (HL.out.keep HB)).mono ?_
    rw [hr]
    rintro e w2 ⟨rfl, hb2⟩
    have hB2 := HB.trans (hb2.mono HB.size)
    have key : ∀ n o, n < w.heap.size + 4 → ((((w.alloc (.cells #[.int .i64 t.k, .int .i64 t.i, .int .i64 t.j, .int .i64 t.n, .slice a t.kids.length cap] 32)).alloc (.cells #[.int .i64 k] 3)).alloc (.cells #[.int .i64 c] 3)).alloc (.cells #[.int .i64 0, .int .i64 0, .int .i64 0, .int .i64 0, .slice none 0 0] 32)).heap[n]? = some o → w2.heap[n]? = some o := fun n o hn h => by rw [hb2.block n (by simpa using hn)]; exact h
    have h0 := key _ _ (by omega) q0
    have h1 := key _ _ (by omega) q1
    have h2 := key _ _ (by omega) q2
    have h3 := key _ _ (by omega) q3
    have hs2 : w.heap.size + 4 ≤ w2.heap.size := by have := hb2.size; simpa using this
    obtain ⟨d0, d1, d2, d3, d4⟩ := five_cells h0
    clear hb2 q0 q1 q2 q3 key
    go_wp2_with fail
    refine (eachl_any k c (w.heap.size + 2) (w.heap.size + 1) hk (by omega) t 0 w2 _ (HL.out.keep hB2) hr (by omega) (by omega) (by rw [cell_of_row _ _ _ _ _ _ h2]; rfl) (by rw [cell_of_row _ _ _ _ _ _ h1]; rfl)).mono ?_
    intro e w3 hg
    cases hx : t.each (liftF k c) 0 with
    | none =>
      rw [hx] at hg HLB
      obtain ⟨⟨z, rfl⟩, hb3⟩ := hg.none
      have h4 := hb3.block (w.heap.size + 3) (by omega)
      rw [h3] at h4
      obtain ⟨z0, z1, z2, z3, z4⟩ := five_cells h4
      obtain ⟨f0, f1, f2, f3, f4⟩ := five_free h4
      have hB3 := hB2.trans (hb3.mono hB2.size)
      have hs3 : w.heap.size + 1 + 1 + 1 < w3.heap.size := by have := hb3.size; omega
      clear hb3 h0 h1 h2 h3
      go_wp2
      refine bodyPost_ret (results_cell_row rfl _ _ (w.heap.size + 3) _ _ _ du rfl (five_alloc h4 _ _ _ _ _ _) hu1 (by cases du <;> first | rfl | exact hu2) size_term) rfl ?_
      rw [HLB.out]
      exact ⟨.slice none 0 0, rfl, liesP_nil _ _, below_five_alloc hB3 hB3.size (above3 _) _ _ _ _ _ _⟩
    | some u =>
      rw [hx] at hg HLB
      obtain ⟨⟨s2, rfl, hl2⟩, hb3⟩ := hg.some
      obtain ⟨a2, cap2, rfl, -, -⟩ := hl2.out
      have h4 := hb3.block (w.heap.size + 3) (by omega)
      rw [h3] at h4
      obtain ⟨z0, z1, z2, z3, z4⟩ := five_cells h4
      obtain ⟨f0, f1, f2, f3, f4⟩ := five_free h4
      have hB3 := hB2.trans (hb3.mono hB2.size)
      have hs3 : w.heap.size + 1 + 1 + 1 < w3.heap.size := by have := hb3.size; omega
      clear hb3 h0 h1 h2 h3
      go_wp2
      refine bodyPost_ret (results_cell_row rfl _ _ (w.heap.size + 3) _ _ _ du rfl (five_alloc h4 _ _ _ _ _ _) hu1 (by cases du <;> first | rfl | exact hu2) size_term) rfl ?_
      rw [HLB.out]
      exact ⟨.slice a2 u.kids.length cap2, rfl, liesP_fives_alloc hl2 (by omega) (by omega) _ _ _ _ _ _, below_five_alloc hB3 hB3.size (above3 _) _ _ _ _ _ _⟩
end Go.Proofs.Ytkdceahmknhojaa

namespace Go.Proofs.Ytkdceahmknhojaa
open Go.RowKit

theorem rlift_fine {k c : Int} (hk : 0 ≤ k) {t u : Tm} (hf : t.fine) (h : t.rlift k c = some u) : u.fine := by
  rw [Tm.rlift_eq] at h
  split at h
  · cases h
  · rename_i h1
    simp only [Option.map_eq_some_iff] at h
    obtain ⟨l, -, rfl⟩ := h
    obtain ⟨a1, a2, a3, a4⟩ := hf
    refine ⟨a1, ?_, a3, a4⟩
    show I64 (if t.k = 2 ∧ c ≤ t.i then t.i + k else t.i)
    split
    · rename_i h2
      have : ¬ (k > 2147483647 - t.i) := fun h => h1 ⟨h2.1, h2.2, h⟩
      unfold I64 at a2 ⊢; omega
    · exact a2
theorem step62_range {c : Int} (hc : 0 ≤ c) (hc2 : c ≤ 9223372036854775807) (k q : Int) : 0 ≤ step62 c k q ∧ step62 c k q ≤ 9223372036854775807 := by
  unfold step62; have := binds_range k q; split <;> omega

set_option maxRecDepth 20000 in
set_option maxHeartbeats 4000000 in
theorem rlift_any (k : Int) (hk : I64 k) (hk0 : 0 ≤ k) (t : Tm) : ∀ (c : Int) (w : World) (s : Value), Lies w t.kids s → t.rightB = true → 0 ≤ c → c ≤ 9223372036854775807 →
    Calls Try.prog 162 #[tv t s, .int .i64 k, .int .i64 c] w (Gives (t.rlift k c) w) := by
  induction t using Tm.ind with
  | h t ih =>
    intro c w s hl hr hc0 hc9
    obtain ⟨a, cap, S, rfl, hc, hm, hf, hn, hkk⟩ := hl.out
    have hlen := right_len hr
    unfold tv
    unfold maxLen at hm
    unfold I64 at hk
    obtain ⟨hk1, hk9⟩ := hk
    obtain ⟨du, hu1, hu2⟩ := under_term
    have hd0 := desk_start w t t (.slice a t.kids.length cap) (.slice none 0 0)
    have heq := Tm.rlift_eq k t c
    by_cases hk2 : t.k = 2
    · have e2 : (t.k == 2) = true := by simpa using hk2
      have hv := t.right_var hr hk2
      have hnil : t.kids = [] := (sorts_two (t.right_node hr) (by omega)).2
      have h1 : t.kids.length < 1 := by rw [hnil]; exact Nat.zero_lt_one
      have HNIL := Lib.hid hnil
      have HK2 := Lib.hid hk2
      clear hnil hk2 ih hn hkk hf hl
      by_cases hci : c ≤ t.i
      · have e3 : decide (c ≤ t.i) = true := by simpa using hci
        by_cases hov : k > 2147483647 - t.i
        · have e4 : decide (2147483647 - t.i < k) = true := by simpa using hov
          rw [if_pos ⟨HK2.out, hci, hov⟩] at heq
          have HEQ := Lib.hid heq
          clear heq hov hci
          go_enter Try.func162, Try.ntmps162
          go_wp2
          (try simp only [Exit.inBlock, Exit.then])
          refine bodyPost_ret (results_cell_tmp rfl _ _ (w.heap.size + 1) _ _ _ du rfl (heap_three _ _ _ _).2.1 hu1 (by cases du <;> first | rfl | exact hu2) size_term) rfl ?_
          exact ⟨below_three _ _ _ _, Or.inr ⟨Tm.zero, HEQ.out, rfl, rfl⟩⟩
        · have e4 : decide (2147483647 - t.i < k) = false := by simpa using hov
          have h5 : k ≤ 2147483647 - t.i := by omega
          rw [if_neg (fun h => hov h.2.2), if_pos ⟨HK2.out, hci⟩] at heq
          have HEQ := Lib.hid heq
          clear heq hov hci
          go_enter Try.func162, Try.ntmps162
          go_wp2_with fail
          go_loopw [9, 10] (fun v i wr => v = .slice none 0 0 ∧ i = .int .i64 0 ∧ Desk w t (.mk t.k (t.i + k) t.j t.n []) (.slice a t.kids.length cap) (.slice none 0 0) wr) (fun _ _ _ => 0)
          case atStart => exact ⟨rfl, rfl, desk_start w t (.mk t.k (t.i + k) t.j t.n []) (.slice a t.kids.length cap) (.slice none 0 0)⟩
          case round =>
            obtain ⟨rfl, rfl, hdk⟩ := hrel
            obtain ⟨q0, q1, q2⟩ := desk_blocks hdk
            obtain ⟨d0, d1, d2, d3, d4⟩ := five_cells q0
            obtain ⟨f0, f1, f2, f3, f4⟩ := five_free q2
            obtain ⟨y0, y1, y2, y3, y4⟩ := five_cells q2
            obtain ⟨z0, z1, z2, z3, z4⟩ := five_cells q1
            obtain ⟨g0, g1, g2, g3, g4⟩ := five_free q1
            have hd2 := desk_set (v' := .slice none 0 0) hdk
            obtain ⟨-, q1', -⟩ := desk_blocks hd2
            clear q0 q1 q2
            go_wp2
            (try simp only [Exit.inBlock, Exit.then])
            refine bodyPost_ret (results_cell_tmp rfl _ _ (w.heap.size + 1) _ _ _ du rfl (five_set q1') hu1 (by cases du <;> first | rfl | exact hu2) size_term) rfl ?_
            exact ⟨below_five (desk_under hd2) (by omega) _ _ _ _ _, Or.inl ⟨(.mk t.k (t.i + k) t.j t.n []), .slice none 0 0, by rw [HEQ.out, HNIL.out]; rfl, rfl, liesP_nil _ _⟩⟩
      · have e3 : decide (c ≤ t.i) = false := by simpa using hci
        rw [if_neg (fun h => hci h.2.1), if_neg (fun h => hci h.2)] at heq
        have HEQ := Lib.hid heq
        clear heq hci
        go_enter Try.func162, Try.ntmps162
        go_wp2_with fail
        go_loopw [9, 10] (fun v i wr => v = .slice none 0 0 ∧ i = .int .i64 0 ∧ Desk w t (.mk t.k t.i t.j t.n []) (.slice a t.kids.length cap) (.slice none 0 0) wr) (fun _ _ _ => 0)
        case atStart => exact ⟨rfl, rfl, desk_start w t (.mk t.k t.i t.j t.n []) (.slice a t.kids.length cap) (.slice none 0 0)⟩
        case round =>
          obtain ⟨rfl, rfl, hdk⟩ := hrel
          obtain ⟨q0, q1, q2⟩ := desk_blocks hdk
          obtain ⟨d0, d1, d2, d3, d4⟩ := five_cells q0
          obtain ⟨f0, f1, f2, f3, f4⟩ := five_free q2
          obtain ⟨y0, y1, y2, y3, y4⟩ := five_cells q2
          obtain ⟨z0, z1, z2, z3, z4⟩ := five_cells q1
          obtain ⟨g0, g1, g2, g3, g4⟩ := five_free q1
          have hd2 := desk_set (v' := .slice none 0 0) hdk
          obtain ⟨-, q1', -⟩ := desk_blocks hd2
          clear q0 q1 q2
          go_wp2
          (try simp only [Exit.inBlock, Exit.then])
          refine bodyPost_ret (results_cell_tmp rfl _ _ (w.heap.size + 1) _ _ _ du rfl (five_set q1') hu1 (by cases du <;> first | rfl | exact hu2) size_term) rfl ?_
          exact ⟨below_five (desk_under hd2) (by omega) _ _ _ _ _, Or.inl ⟨(.mk t.k t.i t.j t.n []), .slice none 0 0, by rw [HEQ.out, HNIL.out]; rfl, rfl, liesP_nil _ _⟩⟩
    · have e2 : (t.k == 2) = false := by simpa using hk2
      rw [if_neg (fun h => hk2 h.1), if_neg (fun h => hk2 h.1)] at heq
      have HEQ := Lib.hid heq
      have HRK := Lib.hid (t.right_kids hr)
      have HFI := Lib.hid hf
      have IH := Lib.hid ih
      have HN := Lib.hid hn
      have HK := Lib.hid hkk
      clear heq hk2 ih hn hkk hf hr hl
      obtain ⟨i0, hi, hz0, hz1, hz2⟩ := info_parts info_term
      have HI := Lib.hid (And.intro hi (And.intro hz0 (And.intro hz1 hz2)))
      clear hi hz0 hz1 hz2
      go_enter Try.func162, Try.ntmps162
      go_wp2_with fail
      go_loopw [9, 10] (fun v i wr => ∃ (q : Nat) (ps : List (Tm × Value)) (vv : Value), vv = v ∧ q ≤ t.kids.length ∧ i = .int .i64 q ∧ Hid (optK (fun q x => x.rlift k (step62 c t.k q)) 0 (t.kids.take q) = some (ps.map (·.1))) ∧ Made (w.heap.size + 3) wr v ps ∧ Desk w t t (.slice a t.kids.length cap) (.slice none 0 0) wr) (fun _ i _ => t.kids.length - (intOf i).toNat)
      case atStart => exact ⟨0, [], _, rfl, Nat.zero_le _, rfl, rfl, made_nil _ _, hd0⟩
      case round =>
        clear hd0
        obtain ⟨q, ps, vv, rfl, hq0, rfl, hps, hmade, hdk⟩ := hrel
        have HPS := Lib.hid hps.out
        clear hps
        obtain ⟨q0, q1, q2⟩ := desk_blocks hdk
        obtain ⟨d0, d1, d2, d3, d4⟩ := five_cells q0
        obtain ⟨y0, y1, y2, y3, y4⟩ := five_cells q2
        obtain ⟨f0, f1, f2, f3, f4⟩ := five_free q2
        obtain ⟨z0, z1, z2, z3, z4⟩ := five_cells q1
        obtain ⟨g0, g1, g2, g3, g4⟩ := five_free q1
        have hsz := desk_size hdk
        clear q0 q2
        by_cases hlt : q < t.kids.length
        · obtain ⟨b', o, rfl, hx⟩ := HN.out q hlt
          have hy := hx.below (desk_under hdk) hx.lt
          obtain ⟨c0, c1, c2, c3, c4⟩ := hy
          have hq := HK.out q hlt
          obtain ⟨a', cap', S', hS, -⟩ := hq.out
          rw [hS] at c4 hq
          have HM := Lib.hid (List.getElem_mem hlt)
          have hbd := binds_range t.k q
          have hst := step62_range hc0 hc9 t.k q
          have hpl : ps.length = q := by have := optK_length HPS.out; simp at this; omega
          have HPL := Lib.hid hpl
          have HMD := Lib.hid hmade
          have CALL := Lib.hid (IH.out _ HM.out (step62 c t.k q) wr _ (hq.keep (desk_under hdk)) (HRK.out _ HM.out) hst.1 hst.2)
          have hstep : step62 c t.k q = c + (if 4611686018427387904 < c then 0 else bindsN t.k q) := rfl
          clear hS hq hx hpl hmade hst
          cases hx2 : t.kids[q].rlift k (step62 c t.k q) with
          | none =>
            rw [hx2] at CALL
            have HX2 := Lib.hid hx2
            clear hx2
            by_cases hbig : 4611686018427387904 < c
            · rw [if_pos hbig, Int.add_zero] at hstep
              rw [hstep] at CALL
              clear hstep
              go_wp2_with (go_at_call 157; refine (refbinds_any _ _ _).mono ?_; rintro e w' ⟨rfl, rfl⟩)
              refine CALL.out.mono ?_
              intro e w2 hg
              obtain ⟨⟨z, rfl⟩, hb2⟩ := hg.none
              have hd2 := desk_later hdk hb2
              have hs2 : w.heap.size + 1 < w2.heap.size := by have := desk_size hd2; omega
              obtain ⟨-, q1', -⟩ := desk_blocks hd2
              obtain ⟨z0, z1, z2, z3, z4⟩ := five_cells q1'
              obtain ⟨g0, g1, g2, g3, g4⟩ := five_free q1'
              clear hg hb2
              go_wp2
              (try simp only [Exit.inBlock, Exit.then])
              refine bodyPost_ret (results_cell_tmp rfl _ _ (w.heap.size + 1) _ _ _ du rfl (five_alloc q1' _ _ _ _ _ _) hu1 (by cases du <;> first | rfl | exact hu2) size_term) rfl ?_

              exact ⟨below_five_alloc (desk_under hd2) (by omega) (by omega) _ _ _ _ _ _, Or.inr ⟨Tm.zero, by rw [HEQ.out, optK_stop hlt HX2.out]; rfl, rfl, rfl⟩⟩
            · rw [if_neg hbig] at hstep
              rw [hstep] at CALL
              have hbig' : c ≤ 4611686018427387904 := by omega
              clear hstep
              go_wp2_with (go_at_call 157; refine (refbinds_any _ _ _).mono ?_; rintro e w' ⟨rfl, rfl⟩)
              refine CALL.out.mono ?_
              intro e w2 hg
              obtain ⟨⟨z, rfl⟩, hb2⟩ := hg.none
              have hd2 := desk_later hdk hb2
              have hs2 : w.heap.size + 1 < w2.heap.size := by have := desk_size hd2; omega
              obtain ⟨-, q1', -⟩ := desk_blocks hd2
              obtain ⟨z0, z1, z2, z3, z4⟩ := five_cells q1'
              obtain ⟨g0, g1, g2, g3, g4⟩ := five_free q1'
              clear hg hb2
              go_wp2
              (try simp only [Exit.inBlock, Exit.then])
              refine bodyPost_ret (results_cell_tmp rfl _ _ (w.heap.size + 1) _ _ _ du rfl (five_alloc q1' _ _ _ _ _ _) hu1 (by cases du <;> first | rfl | exact hu2) size_term) rfl ?_

              exact ⟨below_five_alloc (desk_under hd2) (by omega) (by omega) _ _ _ _ _ _, Or.inr ⟨Tm.zero, by rw [HEQ.out, optK_stop hlt HX2.out]; rfl, rfl, rfl⟩⟩
          | some u =>
            rw [hx2] at CALL
            have hfu := rlift_fine hk0 (HFI.out _ HM.out) hx2
            have HFU := Lib.hid hfu
            have HX2 := Lib.hid hx2
            clear hx2 hfu
            by_cases hbig : 4611686018427387904 < c
            · rw [if_pos hbig, Int.add_zero] at hstep
              rw [hstep] at CALL
              clear hstep
              go_wp2_with (go_at_call 157; refine (refbinds_any _ _ _).mono ?_; rintro e w' ⟨rfl, rfl⟩)
              refine CALL.out.mono ?_
              intro e w2 hg
              obtain ⟨⟨s2, rfl, hl2⟩, hb2⟩ := hg.some
              obtain ⟨a2, cap2, rfl, -, -⟩ := hl2.out
              have HL2 := Lib.hid hl2
              have HB2 := Lib.hid hb2
              clear hg hl2 hb2
              have hsB : wr.heap.size ≤ w2.heap.size := HB2.out.size
              go_wp2_with (at_builtin; refine wpList_append_lies _ rfl _ _ 30 rfl (w.heap.size + 3) 32 i0 _ 5 56 (by kernel_rfl) HI.out.1 HI.out.2.1 HI.out.2.2.1 HI.out.2.2.2 rfl (by decide) _ ps.length (cells5 ps) rfl (made_later (made_later (made_later HMD.out HB2.out) ((Below.refl _ _).alloc (Nat.le_refl _) _)) ((Below.refl _ _).alloc (Nat.le_refl _) _)).own ⟨w2.heap.size + 1, 0, none⟩ 1 1 (cells5 [(u, .slice a2 u.kids.length cap2)]) rfl rfl ?news ?one (by decide) ?max ?bytes ?base _ rfl ?next)
              case news => exact news_new2 _ _ _ _ _
              case one => intro v hv; simp [cells5] at hv; rcases hv with rfl | rfl | rfl | rfl | rfl <;> rfl
              case max => have := HPL.out; unfold maxLen; omega
              case bytes => have := HPL.out; omega
              case base => simp; omega
              case next =>
                intro g cap3 w3 hown hgrow hat _
                have hpb := push_after hdk HMD.out HFU.out HB2.out HL2.out _ _ hown hgrow hat
                clear hown hgrow hat
                go_wp2_with fail
                go_roundw
                case rel => exact ⟨q + 1, ps ++ [(u, .slice a2 u.kids.length cap2)], _, rfl, hlt, by go_num, by rw [Hid, optK_next hlt HPS.out HX2.out]; simp, hpb.1, hpb.2⟩
                case measure => simp [intOf]; omega
            · rw [if_neg hbig] at hstep
              rw [hstep] at CALL
              have hbig' : c ≤ 4611686018427387904 := by omega
              clear hstep
              go_wp2_with (go_at_call 157; refine (refbinds_any _ _ _).mono ?_; rintro e w' ⟨rfl, rfl⟩)
              refine CALL.out.mono ?_
              intro e w2 hg
              obtain ⟨⟨s2, rfl, hl2⟩, hb2⟩ := hg.some
              obtain ⟨a2, cap2, rfl, -, -⟩ := hl2.out
              have HL2 := Lib.hid hl2
              have HB2 := Lib.hid hb2
              clear hg hl2 hb2
              have hsB : wr.heap.size ≤ w2.heap.size := HB2.out.size
              go_wp2_with (at_builtin; refine wpList_append_lies _ rfl _ _ 30 rfl (w.heap.size + 3) 32 i0 _ 5 56 (by kernel_rfl) HI.out.1 HI.out.2.1 HI.out.2.2.1 HI.out.2.2.2 rfl (by decide) _ ps.length (cells5 ps) rfl (made_later (made_later (made_later HMD.out HB2.out) ((Below.refl _ _).alloc (Nat.le_refl _) _)) ((Below.refl _ _).alloc (Nat.le_refl _) _)).own ⟨w2.heap.size + 1, 0, none⟩ 1 1 (cells5 [(u, .slice a2 u.kids.length cap2)]) rfl rfl ?news ?one (by decide) ?max ?bytes ?base _ rfl ?next)
              case news => exact news_new2 _ _ _ _ _
              case one => intro v hv; simp [cells5] at hv; rcases hv with rfl | rfl | rfl | rfl | rfl <;> rfl
              case max => have := HPL.out; unfold maxLen; omega
              case bytes => have := HPL.out; omega
              case base => simp; omega
              case next =>
                intro g cap3 w3 hown hgrow hat _
                have hpb := push_after hdk HMD.out HFU.out HB2.out HL2.out _ _ hown hgrow hat
                clear hown hgrow hat
                go_wp2_with fail
                go_roundw
                case rel => exact ⟨q + 1, ps ++ [(u, .slice a2 u.kids.length cap2)], _, rfl, hlt, by go_num, by rw [Hid, optK_next hlt HPS.out HX2.out]; simp, hpb.1, hpb.2⟩
                case measure => simp [intOf]; omega
        · have : q = t.kids.length := by omega
          subst this
          have hd2 := desk_set (v' := vv) hdk
          have hres : t.rlift k c = some (.mk t.k t.i t.j t.n (ps.map (·.1))) := by
            have := HPS.out
            rw [List.take_length] at this
            rw [HEQ.out, this]; rfl
          obtain ⟨-, q1', -⟩ := desk_blocks hd2
          have hll := made_lies hmade
          obtain ⟨a2, cap2, rfl, -, -⟩ := hll.out
          simp only [List.length_map] at hd2 q1' hll
          go_wp2
          (try simp only [Exit.inBlock, Exit.then])
          refine bodyPost_ret (results_cell_tmp rfl _ _ (w.heap.size + 1) _ _ _ du rfl (five_set q1') hu1 (by cases du <;> first | rfl | exact hu2) size_term) rfl ?_
          exact ⟨below_five (desk_under hd2) (by omega) _ _ _ _ _, Or.inl ⟨_, _, hres, rfl, liesP_fives (liesP_set hll (by omega) (Nat.le_refl _) _) (by omega) (by omega) _ _ _ _ _⟩⟩

end Go.Proofs.Ytkdceahmknhojaa

namespace Go.Proofs.Ytkdceahmknhojaa
open Go.RowKit

set_option maxHeartbeats 2000000 in
theorem reflift_any (t : Tm) (k c : Int) (w : World) (s : Value) (hl : Lies w t.kids s) (hk : I64 k) (hci : I64 c) (hd : t.deep ≤ 100000) : Calls Try.prog 113 #[tv t s, .int .i64 k, .int .i64 c] w (Makes (t.liftB k c) w) := by
  obtain ⟨a, cap, S, rfl, hc, hm, -, -, -⟩ := hl.out
  have HL := Lib.hid hl
  obtain ⟨du, hu1, hu2⟩ := under_term
  have H0 := boxes_start w t (.slice a t.kids.length cap)
  clear hl
  unfold tv
  cases hr : t.rightB with
  | false =>
    have hres : t.liftB k c = Tm.zero := by unfold Tm.liftB; rw [if_pos (Or.inr (Or.inr hr))]
    go_enter Try.func113, Try.ntmps113
    go_wp2_with fail
    refine (refright_any t _ _ (boxes_lies H0 HL.out)).mono ?_
    rw [hr]
    rintro e w2 ⟨rfl, hb2⟩
    have H2 := boxes_call H0 hb2
    have hB2 := boxes_under H2
    obtain ⟨-, q1⟩ := boxes_two H2
    obtain ⟨d0, d1, d2, d3, d4⟩ := held_cells (boxes_held H2)
    obtain ⟨z0, z1, z2, z3, z4⟩ := five_cells q1
    obtain ⟨f0, f1, f2, f3, f4⟩ := five_free q1
    clear hb2
    go_wp2
    refine bodyPost_ret (results_cell_row rfl _ _ (w.heap.size + 1) _ _ _ du rfl (five_set q1) hu1 (by cases du <;> first | rfl | exact hu2) size_term) rfl ?_
    rw [hres]
    exact ⟨.slice none 0 0, rfl, liesP_nil _ _, below_five hB2 (by omega) _ _ _ _ _⟩
  | true =>
    by_cases hk0 : k < 0
    · have e1 : decide (k < 0) = true := by simpa using hk0
      have hres : t.liftB k c = Tm.zero := by unfold Tm.liftB; rw [if_pos (Or.inl hk0)]
      go_enter Try.func113, Try.ntmps113
      go_wp2_with fail
      refine (refright_any t _ _ (boxes_lies H0 HL.out)).mono ?_
      rw [hr]
      rintro e w2 ⟨rfl, hb2⟩
      have H2 := boxes_call H0 hb2
      have hB2 := boxes_under H2
      obtain ⟨-, q1⟩ := boxes_two H2
      obtain ⟨d0, d1, d2, d3, d4⟩ := held_cells (boxes_held H2)
      obtain ⟨z0, z1, z2, z3, z4⟩ := five_cells q1
      obtain ⟨f0, f1, f2, f3, f4⟩ := five_free q1
      clear hb2
      go_wp2
      refine bodyPost_ret (results_cell_row rfl _ _ (w.heap.size + 1) _ _ _ du rfl (five_set q1) hu1 (by cases du <;> first | rfl | exact hu2) size_term) rfl ?_
      rw [hres]
      exact ⟨.slice none 0 0, rfl, liesP_nil _ _, below_five hB2 (by omega) _ _ _ _ _⟩
    have e1 : decide (k < 0) = false := by simpa using hk0
    by_cases hc0 : c < 0
    · have e2 : decide (c < 0) = true := by simpa using hc0
      have hres : t.liftB k c = Tm.zero := by unfold Tm.liftB; rw [if_pos (Or.inr (Or.inl hc0))]
      go_enter Try.func113, Try.ntmps113
      go_wp2_with fail
      refine (refright_any t _ _ (boxes_lies H0 HL.out)).mono ?_
      rw [hr]
      rintro e w2 ⟨rfl, hb2⟩
      have H2 := boxes_call H0 hb2
      have hB2 := boxes_under H2
      obtain ⟨-, q1⟩ := boxes_two H2
      obtain ⟨d0, d1, d2, d3, d4⟩ := held_cells (boxes_held H2)
      obtain ⟨z0, z1, z2, z3, z4⟩ := five_cells q1
      obtain ⟨f0, f1, f2, f3, f4⟩ := five_free q1
      clear hb2
      go_wp2
      refine bodyPost_ret (results_cell_row rfl _ _ (w.heap.size + 1) _ _ _ du rfl (five_set q1) hu1 (by cases du <;> first | rfl | exact hu2) size_term) rfl ?_
      rw [hres]
      exact ⟨.slice none 0 0, rfl, liesP_nil _ _, below_five hB2 (by omega) _ _ _ _ _⟩
    have e2 : decide (c < 0) = false := by simpa using hc0
    have hlb : t.liftB k c = (t.rlift k c).getD .zero := by unfold Tm.liftB; rw [if_neg (by rw [hr]; simp; omega), rlift_lift t k c (by omega) (by omega) (by omega) hr]
    have HLB := Lib.hid hlb
    clear hlb
    go_enter Try.func113, Try.ntmps113
    go_wp2_with fail
    refine (refright_any t _ _ (boxes_lies H0 HL.out)).mono ?_
    rw [hr]
    rintro e w2 ⟨rfl, hb2⟩
    have H2 := boxes_call H0 hb2
    obtain ⟨-, q1⟩ := boxes_two H2
    obtain ⟨d0, d1, d2, d3, d4⟩ := held_cells (boxes_held H2)
    obtain ⟨z0, z1, z2, z3, z4⟩ := five_cells q1
    obtain ⟨f0, f1, f2, f3, f4⟩ := five_free q1
    clear hb2
    go_wp2_with fail
    refine (rlift_any k hk (by omega) t c w2 _ (boxes_lies H2 HL.out) hr (by omega) hci.2).mono ?_
    intro e w3 hg
    cases hx : t.rlift k c with
    | none =>
      rw [hx] at hg HLB
      obtain ⟨⟨z, rfl⟩, hb3⟩ := hg.none
      have H3 := boxes_call H2 hb3
      have hB3 := boxes_under H3
      have hs3 : w.heap.size + 1 < w3.heap.size := by have := Below.size H3; simp at this; omega
      obtain ⟨-, q3⟩ := boxes_two H3
      obtain ⟨z0, z1, z2, z3, z4⟩ := five_cells q3
      obtain ⟨f0, f1, f2, f3, f4⟩ := five_free q3
      clear hb3 hg q1
      go_wp2
      refine bodyPost_ret (results_cell_row rfl _ _ (w.heap.size + 1) _ _ _ du rfl (five_alloc q3 _ _ _ _ _ _) hu1 (by cases du <;> first | rfl | exact hu2) size_term) rfl ?_
      rw [HLB.out]
      exact ⟨.slice none 0 0, rfl, liesP_nil _ _, below_five_alloc hB3 hB3.size (by omega) _ _ _ _ _ _⟩
    | some u =>
      rw [hx] at hg HLB
      obtain ⟨⟨s2, rfl, hl2⟩, hb3⟩ := hg.some
      obtain ⟨a2, cap2, rfl, -, -⟩ := hl2.out
      have H3 := boxes_call H2 hb3
      have hB3 := boxes_under H3
      have hs3 : w.heap.size + 1 < w3.heap.size := by have := Below.size H3; simp at this; omega
      have hs2 : w.heap.size + 2 ≤ w2.heap.size := by have := Below.size H2; simpa using this
      obtain ⟨-, q3⟩ := boxes_two H3
      obtain ⟨z0, z1, z2, z3, z4⟩ := five_cells q3
      obtain ⟨f0, f1, f2, f3, f4⟩ := five_free q3
      clear hb3 hg q1
      go_wp2
      refine bodyPost_ret (results_cell_row rfl _ _ (w.heap.size + 1) _ _ _ du rfl (five_alloc q3 _ _ _ _ _ _) hu1 (by cases du <;> first | rfl | exact hu2) size_term) rfl ?_
      rw [HLB.out]
      exact ⟨.slice a2 u.kids.length cap2, rfl, liesP_fives_alloc hl2 (by omega) (by omega) _ _ _ _ _ _, below_five_alloc hB3 hB3.size (by omega) _ _ _ _ _ _⟩
end Go.Proofs.Ytkdceahmknhojaa

namespace Go.Proofs.Ytkdceahmknhojaa
open Go.RowKit

theorem put5_below {B : Nat} {w w1 : World} (h : Below B w w1) {g : Nat} (hg : B ≤ g) (o : Nat) (t : Tm) (s : Value) : Below B w (put5 w1 g o t s) := by
  unfold put5
  exact ((((h.setCell hg _).setCell hg _).setCell hg _).setCell hg _).setCell hg _
theorem open_free {w : World} {g : Nat} {cs : Array Value} {T : TypeId} (h : w.heap[g]? = some (.cells cs T (0, 0))) (o : Nat) :
    w.frozen? ⟨g, o, none⟩ = false ∧ w.frozen? ⟨g, o + 1, none⟩ = false ∧ w.frozen? ⟨g, o + 2, none⟩ = false ∧ w.frozen? ⟨g, o + 3, none⟩ = false ∧ w.frozen? ⟨g, o + 4, none⟩ = false ∧ w.frozen? ⟨g, o + 5, none⟩ = false :=
  ⟨open_unfrozen h _, open_unfrozen h _, open_unfrozen h _, open_unfrozen h _, open_unfrozen h _, open_unfrozen h _⟩
theorem take_set_map {α β : Type} (f : β → α) {xs : List β} {l : List α} {k : Nat} (hl : xs.length = l.length) (hk : k < l.length) (h : (xs.map f).take k = l.take k) {y : β} (hy : f y = l[k]) : ((xs.set k y).map f).take (k + 1) = l.take (k + 1) := by
  have hk1 : k < (xs.set k y).length := by simp; omega
  rw [List.take_succ_eq_append_getElem (by simpa using hk1), List.take_succ_eq_append_getElem hk]
  congr 1
  · rw [← h]; apply List.ext_getElem?; intro i
    by_cases hi : i < k
    · simp [List.getElem?_take_of_lt hi, List.getElem?_set_ne (Nat.ne_of_gt hi)]
    · simp [List.getElem?_take, hi]
  · simp [hy]
end Go.Proofs.Ytkdceahmknhojaa

namespace Go.Proofs.Ytkdceahmknhojaa
open Go.RowKit

set_option maxRecDepth 20000 in
set_option maxHeartbeats 4000000 in
theorem copies_of (l : List Tm) (ih : ∀ x ∈ l, ∀ (w : World) (s : Value), Lies w x.kids s → Calls Try.prog 92 #[tv x s] w (Makes x w))
    (w : World) (s : Value) (hl : Lies w l s) (hlen : l.length ≤ 1000000) : Calls Try.prog 154 #[s] w (MakesAll l w) := by
  obtain ⟨a, cap, S, rfl, hc, hmx, hf, hn, hk⟩ := hl.out
  unfold maxLen at hmx
  obtain ⟨i0, hi, hz0, hz1, hz2⟩ := info_parts info_term
  have IH := Lib.hid ih
  have HN := Lib.hid hn
  have HK := Lib.hid hk
  have HF := Lib.hid hf
  have HI := Lib.hid (And.intro hi (And.intro hz0 (And.intro hz1 hz2)))
  clear ih hn hk hl hf hi hz0 hz1 hz2
  by_cases h0 : l.length = 0
  · obtain rfl : l = [] := List.eq_nil_of_length_eq_zero h0
    go_enter Try.func154, Try.ntmps154
    go_wp2
    go_ret
    exact ⟨_, rfl, liesP_nil _ _, Below.refl _ _⟩
  have e1 : ((l.length : Int) == 0) = false := by simpa using h0
  have e2 : (l.length == 0) = false := by simpa using h0
  clear h0
  go_enter Try.func154, Try.ntmps154
  go_wp2_with (at_make; refine wpList_make_full _ rfl _ _ 30 rfl w.heap.size 32 i0 _ 5 (by kernel_rfl) HI.out.1 HI.out.2.1 HI.out.2.2.1 _ _ _ _ l.length rfl rfl rfl rfl ?bytes ?max ?base ?next)
  case bytes => rw [HI.out.2.2.2]; omega
  case max => unfold maxLen; omega
  case base => exact Nat.le_refl _
  case next =>
  intro w2 hown hgrow
  have hful := full_made hown
  have hbel : Below w.heap.size w w2 := (Below.refl _ _).grown hgrow (Nat.le_refl _) (by simp)
  obtain ⟨g, hg⟩ : ∃ g, w.heap.size = g := ⟨_, rfl⟩
  have HGE := Lib.hid (show w.heap.size ≤ g by omega)
  (try rw [hg] at hful)
  (try rw [hg])
  have hful' : Full w.heap.size w2 g (List.replicate l.length (Tm.zero, .slice none 0 0)) := by rw [hg]; exact hful
  clear hown hgrow hful e1 e2
  have hbel' : Below w.heap.size w w2 := hbel
  clear hbel
  have HG := Lib.hid hg
  clear hg
  go_wp2_with fail
  go_loopw [14] (fun iv wr => ∃ (k : Nat) (xs : List (Tm × Value)), k ≤ l.length ∧ iv = .int .i64 k ∧ Hid (xs.length = l.length) ∧ Hid ((xs.map (·.1)).take k = l.take k) ∧ Full w.heap.size wr g xs ∧ Below w.heap.size w wr) (fun iv _ => l.length - (intOf iv).toNat)
  case atStart => exact ⟨0, _, Nat.zero_le _, rfl, List.length_replicate, rfl, hful', hbel'⟩
  case round =>
    clear hful' hbel'
    obtain ⟨k, xs, hk, rfl, hxl, hxs, hfu, hb⟩ := hrel
    by_cases hlt : k < l.length
    · obtain ⟨b, o, rfl, hx⟩ := HN.out k hlt
      obtain ⟨x0, x1, x2, x3, x4⟩ := hx.below hb hx.lt
      have hq := (HK.out k hlt).keep hb
      obtain ⟨a', cap', S', hS, -⟩ := hq.out
      rw [hS] at x4 hq
      have HXK := Lib.hid (show k < xs.length by have := hxl.out; omega)
      have HM := Lib.hid (List.getElem_mem hlt)
      have hV : Below wr.heap.size wr (wr.alloc (.cells #[.int .i64 l[k].k, .int .i64 l[k].i, .int .i64 l[k].j, .int .i64 l[k].n, .slice a' l[k].kids.length cap'] 32)) := (Below.refl _ _).alloc (Nat.le_refl _) _
      have hqV := hq.keep hV
      have HFV := Lib.hid (hfu.later hV)
      have HKV := Lib.hid (below_call hb hV hb.size)
      have HW := Lib.hid hb.size
      clear hS hq hV hfu hb
      go_wp2_with fail
      refine (IH.out _ HM.out _ _ hqV).mono ?_
      generalize wr.alloc (.cells #[.int .i64 l[k].k, .int .i64 l[k].i, .int .i64 l[k].j, .int .i64 l[k].n, .slice a' l[k].kids.length cap'] 32) = V at HFV HKV hqV ⊢
      rintro ee wn ⟨s2, rfl, hl2, hbn⟩
      obtain ⟨a2, cap2, rfl, -, -⟩ := hl2.out
      have hfn := HFV.out.later hbn
      have HL2 := Lib.hid (HFV.out.fresh HKV.out.size hl2)
      have HKN := Lib.hid (below_call HKV.out hbn HKV.out.size)
      obtain ⟨z0, z1, z2, z3, z4⟩ := hfn.node k HXK.out
      obtain ⟨cs, hcs⟩ := hfn.open'
      obtain ⟨r0, r1, r2, r3, r4, -⟩ := open_free hcs (k * 5)
      have HFN := Lib.hid hfn
      clear hfn hcs hbn hl2 hqV x0 x1 x2 x3 x4
      go_wp2_with fail
      have hFN := HFN.out.fill (t := l[k]) HXK.out (HF.out _ HM.out) HL2.out
      have hkE := put5_below HKN.out HGE.out (k * 5) l[k] (.slice a2 l[k].kids.length cap2)
      clear z0 z1 z2 z3 z4 r0 r1 r2 r3 r4
      go_roundw
      case rel => exact ⟨k + 1, xs.set k (l[k], .slice a2 l[k].kids.length cap2), by omega, by go_num, by show _ = _; rw [List.length_set]; exact hxl.out, take_set_map _ hxl.out hlt hxs.out rfl, hFN, hkE⟩
      case measure => simp [intOf]; omega
    · obtain rfl : k = l.length := by omega
      have hxs' : xs.map (·.1) = l := by
        have h := hxs.out
        rw [List.take_of_length_le (by simp [hxl.out]), List.take_of_length_le (Nat.le_refl _)] at h
        exact h
      have hres := hfu.lies (cap := l.length) (by rw [hxl.out]; exact Nat.le_refl _) (by unfold maxLen; omega)
      rw [hxs', hxl.out] at hres
      go_wp2_with fail
      go_ret
      exact ⟨_, rfl, hres, hb⟩

end Go.Proofs.Ytkdceahmknhojaa

namespace Go.Proofs.Ytkdceahmknhojaa
open Go.RowKit

set_option maxRecDepth 20000 in
set_option maxHeartbeats 4000000 in
theorem copyR_any (t : Tm) : ∀ (w : World) (s : Value), Lies w t.kids s → t.rightB = true → Calls Try.prog 92 #[tv t s] w (Makes t w) := by
  induction t using Tm.ind with
  | h t ih =>
    intro w s hl hr
    obtain ⟨a, cap, S, rfl, hc, hm, hf, hn, hk⟩ := hl.out
    have CP : ∀ (w' : World) (s' : Value), Lies w' t.kids s' → Calls Try.prog 154 #[s'] w' (MakesAll t.kids w') := fun w' s' h' => copies_of t.kids (fun x hx w2 s2 h2 => ih x hx w2 s2 h2 (t.right_kids hr x hx)) w' s' h' (by have := right_len hr; omega)
    unfold tv
    unfold maxLen at hm
    obtain ⟨du, hu1, hu2⟩ := under_term
    have HL := Lib.hid hl
    replace CP := Lib.hid CP
    have H0 := boxes_start w t (.slice a t.kids.length cap)
    clear ih hn hk hf hl hr
    go_enter Try.func92, Try.ntmps92
    go_wp2_with fail
    refine (CP.out _ _ (boxes_lies H0 HL.out)).mono ?_
    generalize (w.alloc (.cells #[.int .i64 t.k, .int .i64 t.i, .int .i64 t.j, .int .i64 t.n, .slice a t.kids.length cap] 32)).alloc (.cells #[.int .i64 0, .int .i64 0, .int .i64 0, .int .i64 0, .slice none 0 0] 32) = V at H0 ⊢
    rintro ee wn ⟨s2, rfl, hl2, hb2⟩
    obtain ⟨a2, cap2, rfl, -, -⟩ := hl2.out
    have hs := Below.size H0
    have hh := boxes_call H0 hb2
    have hl3 : LiesP wn (Own (w.heap.size + 2) wn) t.kids (.slice a2 t.kids.length cap2) := hl2.from (by simpa using hs)
    have hbx := boxes_block hh
    have hbo : wn.heap[w.heap.size]? = some (boxOf t (.slice a t.kids.length cap)) := by
      rw [Below.block hh _ (by omega), Below.heap_alloc _ _ _ (by simp)]; exact alloc_new _ _
    obtain ⟨x0, x1, x2, x3, x4, z0, z1, z2, z3, z4, f0, f1, f2, f3, f4⟩ := boxes_cells hh
    obtain ⟨q0, q1, q2, q3, q4⟩ := five_free hbo
    have HL3 := Lib.hid hl3
    have HBX : Hid ((wn.setCell ⟨w.heap.size, 4, none⟩ (.slice a2 t.kids.length cap2)).heap[w.heap.size + 1]? = some (.cells #[.int .i64 0, .int .i64 0, .int .i64 0, .int .i64 0, .slice none 0 0] 32 (0, 0))) := (Below.heap_setCell _ _ _ _ (by show w.heap.size + 1 ≠ w.heap.size; omega)).trans hbx
    have HBL := Lib.hid (held_below (boxes_held hh))
    clear hl2 hb2 hl3 hbx hbo hh hs H0
    go_wp2
    refine bodyPost_ret (results_cell_row rfl _ _ (w.heap.size + 1) _ _ _ du rfl (five_set HBX.out) hu1 (by cases du <;> first | rfl | exact hu2) size_term) rfl ?_
    refine ⟨_, rfl, ?_, ?_⟩
    · exact liesP_fives (liesP_set HL3.out (by omega) (Nat.le_refl _) _) (by omega) (by omega) _ _ _ _ _
    · exact below_five (HBL.out.setCell (Nat.le_refl _) _) (by omega) _ _ _ _ _

theorem copiesR_any (l : List Tm) (w : World) (s : Value) (hl : Lies w l s) (hp : ∀ x ∈ l, x.plainB = true) (hlen : l.length ≤ 1000) : Calls Try.prog 154 #[s] w (MakesAll l w) :=
  copies_of l (fun x hx w2 s2 h2 => copyR_any x w2 s2 h2 (plain_right (hp x hx))) w s hl (by omega)
end Go.Proofs.Ytkdceahmknhojaa

namespace Go.Proofs.Ytkdceahmknhojaa
open Go

section
variable {P : Program} {ops : Array Oper} {Q : Exit → Act → World → Prop} {md : Region.Mode} {S : World → Prop} {k0 : Nat}

def wpAnyX (P : Program) (md : Region.Mode) (ops : Array Oper) (Q : Exit → Act → World → Prop) (S : World → Prop) (k0 : Nat) : Nat → Array Bool → Act → World → Prop
  | 0, listed, a, w => Region.ready md ops listed = [] ∧ Q .normal a w
  | fuel + 1, listed, a, w =>
    (Region.ready md ops listed = [] → Q .normal a w) ∧
    ∀ i ∈ Region.ready md ops listed, wpOp P ops Q i (fun a' w' => ((listed.setIfInBounds i true).getD k0 true = false → S w') ∧ wpAnyX P md ops Q S k0 fuel (listed.setIfInBounds i true) a' w') a w

theorem wpAny_of_X : ∀ (fuel : Nat) (listed : Array Bool) (a : Act) (w : World), wpAnyX P md ops Q S k0 fuel listed a w → wpAny P md ops Q fuel listed a w
  | 0, _, _, _, h => h
  | fuel + 1, _, _, _, h => ⟨h.1, fun i hi => wpOp_mono (fun a' w' h' => wpAny_of_X fuel _ a' w' h'.2) (h.2 i hi)⟩

theorem getD_set_ne' {l : Array Bool} {i k : Nat} (h : i ≠ k) : (l.setIfInBounds i true).getD k true = l.getD k true := getD_set_ne true h

theorem wpAnyX_first {i : Nat} {oi : Oper} {v : Value} (hi : ops[i]? = some oi) (hsel : ∀ (j : Nat) (o : Oper) cs b, ops[j]? = some o → o.op ≠ .select cs b)
    (hQ : ∀ c a w, Q (.panic c) (a.put oi.dst v) w → Q (.panic c) a w) (hki : i ≠ k0)
    (hwait : ∃ ok, ops[k0]? = some ok ∧ ∃ e ∈ ok.after, Region.binds md e = true ∧ e.on = i) :
    ∀ (fuel : Nat) (listed : Array Bool) (a : Act) (w : World),
      (∀ j oj, ops[j]? = some oj → j ≠ i → listed.getD j true = false → (∀ e ∈ oj.after, Region.binds md e = true → e.on ≠ i) → oi.apart ops oj = true) →
      i ∈ Region.ready md ops listed → listed.getD k0 true = false → YieldsIf P ops S oi v a → S w →
      wpAnyX P md ops Q S k0 fuel (listed.setIfInBounds i true) (a.put oi.dst v) w → wpAnyX P md ops Q S k0 (fuel + 1) listed a w := by
  intro fuel
  induction fuel with
  | zero =>
    intro listed a w _ hr _ hy hS H
    refine ⟨fun h => (by rw [h] at hr; cases hr), fun j hj => ?_⟩
    by_cases hji : j = i
    · subst hji; exact hy.wpOp hi hS ⟨fun _ => hS, H⟩
    · have := ready_mono hj hji
      rw [H.1] at this
      cases this
  | succ fuel ih =>
    intro listed a w hfree hr hun0 hy hS H
    refine ⟨fun h => (by rw [h] at hr; cases hr), fun j hj => ?_⟩
    by_cases hji : j = i
    · subst hji; exact hy.wpOp hi hS ⟨fun _ => hS, H⟩
    · have h1 := H.2 j (ready_mono hj hji)
      obtain ⟨hjun, oj, hoj, hall⟩ := mem_ready.1 hj
      have hnot : ∀ e ∈ oj.after, Region.binds md e = true → e.on ≠ i := fun e he hb heq => by
        have h1 := hall e he hb
        have h0 := (mem_ready.1 hr).1
        rw [heq] at h1
        rcases Nat.lt_or_ge i listed.size with h' | h'
        · simp [h'] at h0 h1; rw [h0] at h1; cases h1
        · simp [Array.getElem?_eq_none h'] at h1
      have hjk : j ≠ k0 := fun e => by
        obtain ⟨ok, hok, e', he', hb', hon⟩ := hwait
        rw [e, hok] at hoj
        exact hnot e' (by rw [← Option.some.inj hoj]; exact he') hb' hon
      have h2 := wpOp_putIf hoj (hfree j oj hoj hji hjun hnot) (fun cs b => hsel i oi cs b hi) (fun cs b => hsel j oj cs b hoj) hQ hy h1
      have hfree' : ∀ k ok, ops[k]? = some ok → k ≠ i → (listed.setIfInBounds j true).getD k true = false →
          (∀ e ∈ ok.after, Region.binds md e = true → e.on ≠ i) → oi.apart ops ok = true := fun k ok hk hki hun hno => by
        refine hfree k ok hk hki ?_ hno
        by_cases hjk : j = k
        · subst hjk; exact hjun
        · rw [getD_set_ne true hjk] at hun; exact hun
      have hun' : (listed.setIfInBounds j true).getD k0 true = false := by rw [getD_set_ne' hjk]; exact hun0
      have hun2 : ((listed.setIfInBounds i true).setIfInBounds j true).getD k0 true = false := by rw [getD_set_ne' hjk, getD_set_ne' hki]; exact hun0
      refine wpOp_mono (fun a' w' h3 => ⟨fun _ => h3.2.1 hun2, ih (listed.setIfInBounds j true) a' w' hfree' (ready_mono hr (Ne.symm hji)) hun' h3.1 (h3.2.1 hun2) ?_⟩) h2
      rw [Array.setIfInBounds_comm _ _ hji]
      exact h3.2.2

/-- What yields in whatever world may be taken at any time. -/
theorem wpAnyX_any {i : Nat} {oi : Oper} {v : Value} (hi : ops[i]? = some oi) (hsel : ∀ (j : Nat) (o : Oper) cs b, ops[j]? = some o → o.op ≠ .select cs b)
    (hQ : ∀ c a w, Q (.panic c) (a.put oi.dst v) w → Q (.panic c) a w) (hki : i ≠ k0) :
    ∀ (fuel : Nat) (listed : Array Bool) (a : Act) (w : World),
      (∀ j oj, ops[j]? = some oj → j ≠ i → listed.getD j true = false → (∀ e ∈ oj.after, Region.binds md e = true → e.on ≠ i) → oi.apart ops oj = true) →
      i ∈ Region.ready md ops listed → YieldsIf P ops (fun _ => True) oi v a → (listed.getD k0 true = false → S w) →
      wpAnyX P md ops Q S k0 fuel (listed.setIfInBounds i true) (a.put oi.dst v) w → wpAnyX P md ops Q S k0 (fuel + 1) listed a w := by
  intro fuel
  induction fuel with
  | zero =>
    intro listed a w _ hr hy hS H
    refine ⟨fun h => (by rw [h] at hr; cases hr), fun j hj => ?_⟩
    by_cases hji : j = i
    · subst hji; exact hy.wpOp hi trivial ⟨fun h => hS (by rw [getD_set_ne' hki] at h; exact h), H⟩
    · have := ready_mono hj hji
      rw [H.1] at this
      cases this
  | succ fuel ih =>
    intro listed a w hfree hr hy hS H
    refine ⟨fun h => (by rw [h] at hr; cases hr), fun j hj => ?_⟩
    by_cases hji : j = i
    · subst hji; exact hy.wpOp hi trivial ⟨fun h => hS (by rw [getD_set_ne' hki] at h; exact h), H⟩
    · have h1 := H.2 j (ready_mono hj hji)
      obtain ⟨hjun, oj, hoj, hall⟩ := mem_ready.1 hj
      have hnot : ∀ e ∈ oj.after, Region.binds md e = true → e.on ≠ i := fun e he hb heq => by
        have h1 := hall e he hb
        have h0 := (mem_ready.1 hr).1
        rw [heq] at h1
        rcases Nat.lt_or_ge i listed.size with h' | h'
        · simp [h'] at h0 h1; rw [h0] at h1; cases h1
        · simp [Array.getElem?_eq_none h'] at h1
      have h2 := wpOp_putIf hoj (hfree j oj hoj hji hjun hnot) (fun cs b => hsel i oi cs b hi) (fun cs b => hsel j oj cs b hoj) hQ hy h1
      have hfree' : ∀ k ok, ops[k]? = some ok → k ≠ i → (listed.setIfInBounds j true).getD k true = false →
          (∀ e ∈ ok.after, Region.binds md e = true → e.on ≠ i) → oi.apart ops ok = true := fun k ok hk hki hun hno => by
        refine hfree k ok hk hki ?_ hno
        by_cases hjk : j = k
        · subst hjk; exact hjun
        · rw [getD_set_ne true hjk] at hun; exact hun
      have hcomm : (listed.setIfInBounds i true).setIfInBounds j true = (listed.setIfInBounds j true).setIfInBounds i true := Array.setIfInBounds_comm _ _ (Ne.symm hji)
      have hget : ((listed.setIfInBounds i true).setIfInBounds j true).getD k0 true = (listed.setIfInBounds j true).getD k0 true := by rw [hcomm, getD_set_ne' hki]
      refine wpOp_mono (fun a' w' h3 => ⟨fun h => h3.2.1 (by rw [hget]; exact h), ih (listed.setIfInBounds j true) a' w' hfree' (ready_mono hr (Ne.symm hji)) h3.1 (fun h => h3.2.1 (by rw [hget]; exact h)) ?_⟩) h2
      rw [Array.setIfInBounds_comm _ _ hji]
      exact h3.2.2

theorem takeX_at (i d : Nat) (oi : Oper) {v : Value} {fuel : Nat} {listed : Array Bool} {a : Act} {w : World} (hy : YieldsIf P ops S oi v a)
    (h : wpAnyX P md ops Q S k0 fuel (listed.setIfInBounds i true) (a.put (some d) v) w)
    (hi : ops[i]? = some oi := by rfl) (hd : oi.dst = some d := by rfl)
    (hs : Region.noSelect ops = true := by kernel_rfl) (hf : Region.free md ops listed i = true := by kernel_rfl) (hr : (Region.ready md ops listed).contains i = true := by kernel_rfl)
    (hw : (ops[k0]?.map fun o => o.after.any fun e => Region.binds md e && e.on == i) = some true := by kernel_rfl) (hne : (i != k0) = true := by kernel_rfl) (hun : listed.getD k0 true = false := by kernel_rfl)
    (hQ : ∀ c a w, Q (.panic c) (a.put (some d) v) w → Q (.panic c) a w := by exact fun _ _ _ h => h) (hS : S w := by assumption) : wpAnyX P md ops Q S k0 (fuel + 1) listed a w := by
  rw [← hd] at hQ h
  refine wpAnyX_first hi (Region.noSelect_spec hs) hQ (by simpa using hne) ?_ fuel listed a w (Region.free_spec hi hf) (by simpa using hr) hun hy hS h
  obtain ⟨ok, hok, h2⟩ := Option.map_eq_some_iff.1 hw
  obtain ⟨e, he, h3⟩ := Array.any_eq_true'.1 h2
  simp only [Bool.and_eq_true, beq_iff_eq] at h3
  exact ⟨ok, hok, e, he, h3.1, h3.2⟩
theorem takeX_any (i d : Nat) (oi : Oper) {v : Value} {fuel : Nat} {listed : Array Bool} {a : Act} {w : World} (hy : YieldsIf P ops (fun _ => True) oi v a)
    (h : wpAnyX P md ops Q S k0 fuel (listed.setIfInBounds i true) (a.put (some d) v) w) (hS : listed.getD k0 true = false → S w)
    (hi : ops[i]? = some oi := by rfl) (hd : oi.dst = some d := by rfl)
    (hs : Region.noSelect ops = true := by kernel_rfl) (hf : Region.free md ops listed i = true := by kernel_rfl) (hr : (Region.ready md ops listed).contains i = true := by kernel_rfl) (hne : (i != k0) = true := by kernel_rfl)
    (hQ : ∀ c a w, Q (.panic c) (a.put (some d) v) w → Q (.panic c) a w := by exact fun _ _ _ h => h) : wpAnyX P md ops Q S k0 (fuel + 1) listed a w := by
  rw [← hd] at hQ h
  exact wpAnyX_any hi (Region.noSelect_spec hs) hQ (by simpa using hne) fuel listed a w (Region.free_spec hi hf) (by simpa using hr) hy hS h

def AllReadyX (P : Program) (md : Region.Mode) (ops : Array Oper) (Q : Exit → Act → World → Prop) (S : World → Prop) (k0 : Nat) (fuel : Nat) (listed : Array Bool) (a : Act) (w : World) (rs : List Nat) : Prop :=
  ∀ i ∈ rs, wpOp P ops Q i (fun a' w' => ((listed.setIfInBounds i true).getD k0 true = false → S w') ∧ wpAnyX P md ops Q S k0 fuel (listed.setIfInBounds i true) a' w') a w
theorem AllReadyX.nil {fuel : Nat} {listed : Array Bool} {a : Act} {w : World} : AllReadyX P md ops Q S k0 fuel listed a w [] := fun _ h => by cases h
theorem AllReadyX.cons {fuel : Nat} {listed : Array Bool} {a : Act} {w : World} {i : Nat} {o : Oper} {rs : List Nat} (ho : ops[i]? = some o)
    (h : ∀ K' : Act → World → Prop, Shut (∀ a w, ((listed.setIfInBounds i true).getD k0 true = false → S w) → (((listed.setIfInBounds i true).getD k0 true = false → S w) → wpAnyX P md ops Q S k0 fuel (listed.setIfInBounds i true) a w) → K' a w) → if Region.wanted o (yielded ops a.tmps) = true then Oper.wp P o a w K' Q else K' (a.put o.dst undef) w)
    (hs : AllReadyX P md ops Q S k0 fuel listed a w rs) : AllReadyX P md ops Q S k0 fuel listed a w (i :: rs) := fun j hj => by
  rcases List.mem_cons.1 hj with rfl | hj
  · exact wpOp_step ho (fun K' hK => h K' (fun a w hS hW => hK a w ⟨hS, hW hS⟩))
  · exact hs j hj
theorem wpAnyX_ready {rs : List Nat} {fuel : Nat} {listed : Array Bool} {a : Act} {w : World} (hr : Region.ready md ops listed = rs) (hne : rs ≠ [])
    (h : AllReadyX P md ops Q S k0 fuel listed a w rs) : wpAnyX P md ops Q S k0 (fuel + 1) listed a w := ⟨fun h0 => absurd (hr ▸ h0) hne, hr ▸ h⟩
theorem wpAnyX_done {listed : Array Bool} {a : Act} {w : World} (hr : Region.ready md ops listed = []) (h : Q .normal a w) :
    ∀ fuel, wpAnyX P md ops Q S k0 fuel listed a w
  | 0 => ⟨hr, h⟩
  | _ + 1 => ⟨fun _ => h, by rw [hr]; simp⟩
theorem wp_region_X {id : Nat} {a : Act} {w : World} (k0 : Nat) (hm : P.follows .mixedOrders = true) (hS : S w.drew)
    (h : S w.drew → wpAnyX P .any ops Q S k0 ops.size (Array.replicate ops.size false) a w.drew) : (Code.region id ops true).wp P Q a w :=
  wp_region_any hm (wpAny_of_X _ _ _ _ (h hS))
end
end Go.Proofs.Ytkdceahmknhojaa
