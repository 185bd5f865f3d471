/-
  Facts and contracts that the proof of ShowFixed uses.
-/
import Derived.Lib.ItoaNum
import Derived.Lib.ItoaLen
import Derived.Test.YtdhfbphliejcdaaDoorRows
import Derived.WalkKit
import Derived.Lib.Hide
import Derived.ProofKit
import Derived.LoopTactic
import Derived.Below
import Derived.IntWalk
import Derived.Lib.Strings
import Derived.Laws.Strings2
import Derived.Deep.AppendLies
import Derived.Laws.Rows
import Derived.OwnWalk
import Derived.KernelRfl
import Derived.Deep.RegionHeld3
import Derived.Lib.Builder
import Derived.WalkSmall
import Derived.Maps.GroupsBeside
import Derived.Maps.StringElems
import Derived.Laws.OwnMore
import Derived.Deep.RegionLaw
import Derived.Maps.AppendAt
import Derived.Deep.Cut
import Derived.Deep.DeepCutAuto
import Derived.Maps.OwnOps
import Derived.Maps.OwnSet
import Derived.Lib.MinMax
import Derived.Laws.IdiomCopy
import Derived.Deep.Slices
import Derived.Lib.QuietBelow
import Derived.StillTailTactics
import Derived.BigQuiet
import Derived.Deep.RegionWith
import Derived.OrdersHeld
import Derived.Laws.StructEq
import GoSem.Core.Float
import Derived.Laws.Cover2
import Derived.Laws.FloatArith
import Derived.Laws.Externs
import Derived.Deep.QuietTactic
import Derived.Recover
import Derived.RegionTactic
import Derived.Defers
import Derived.Test.YtdhfbphliejcdaaDoorShelf
import Derived.Lib.AppendIntMem
import Derived.Lib.LaidTab
import Derived.Lib.AppendStr
import Derived.Lib.UnsafeStr
import Derived.Shelf.RegionOpenPlain
import Derived.Laws.AppendOwn
import Derived.Deep.CutBlock
import Derived.Deep.LoopGhost
import Derived.Laws.BytesArg
import Derived.Laws.AppendOwnNone
import Derived.OpenShut
import Derived.Carry
import Derived.LaidMore
import Derived.LaidSub
import Derived.LaidHandle
import Derived.Stop.Joined
import Derived.JoinedOf
import Derived.Test.YtdhfbphliejcdaaDoorCards
import Derived.Test.YtdhfbphliejcdaaDoorTie
import Derived.SevenTiedAt
import Derived.ChangeMaps5
import Derived.Test.YtdhfbphliejcdaaDoorShowFixedQ1
namespace Go.Proofs.YtdhfbphliejcdaaDoor.Dv
open Go.RowKit

/-- Terms behind a slice, in blocks of which P speaks. -/
inductive LiesP (w : World) (P : Nat → Prop) : List Tm → Value → Prop
  | mk (l : List Tm) (a : Option Addr) (cap : Nat) (S : Nat → Value) (hc : l.length ≤ cap) (hm : cap ≤ maxLen) (hf : ∀ x ∈ l, x.fine)
      (hn : ∀ i (h : i < l.length), ∃ b, a = some ⟨b, 0, none⟩ ∧ P b ∧ Node w b (i * 3) l[i] (S i)) (hk : ∀ i (h : i < l.length), LiesP w P (l[i]).kids (S i)) : LiesP w P l (.slice a l.length cap)

theorem LiesP.lies {w : World} {P : Nat → Prop} {l : List Tm} {s : Value} (h : LiesP w P l s) : Lies w l s := by
  induction h with
  | mk l a cap S hc hm hf hn hk ih => exact .mk l a cap S hc hm hf (fun i hi => by obtain ⟨b, ha, _, hx⟩ := hn i hi; exact ⟨b, 0, ha, by rw [Nat.zero_add]; exact hx⟩) ih

theorem Node.same {w w' : World} {b o : Nat} {t : Tm} {s : Value} (h : Node w b o t s) (hb : w'.heap[b]? = w.heap[b]?) : Node w' b o t s :=
  ⟨(World.cell?_of_block (a := ⟨b, o, none⟩) hb).trans h.c0, (World.cell?_of_block (a := ⟨b, o + 1, none⟩) hb).trans h.c1, (World.cell?_of_block (a := ⟨b, o + 2, none⟩) hb).trans h.c2⟩

/-- They lie in a later world where their blocks are as they were; P may be turned on the way. -/
theorem LiesP.keep {w w' : World} {P Q : Nat → Prop} {l : List Tm} {s : Value} (h : LiesP w P l s) (hb : ∀ b, P b → b < w.heap.size → w'.heap[b]? = w.heap[b]?) (hq : ∀ b, P b → b < w.heap.size → Q b) : LiesP w' Q l s := by
  induction h with
  | mk l a cap S hc hm hf hn hk ih =>
    exact .mk l a cap S hc hm hf (fun i hi => by obtain ⟨b, ha, hp, hx⟩ := hn i hi; exact ⟨b, ha, hq b hp hx.lt, hx.same (hb b hp hx.lt)⟩) ih

/-- A block of the call's own: new since B, and nothing of it is frozen. -/
def Own (B : Nat) (w : World) (b : Nat) : Prop := B ≤ b ∧ ∃ cs, w.heap[b]? = some (.cells cs 24 (0, 0))
theorem Own.lt {B : Nat} {w : World} {b : Nat} (h : Own B w b) : b < w.heap.size := by obtain ⟨-, cs, h⟩ := h; exact (Array.getElem?_eq_some_iff.1 h).1
theorem Own.same {B : Nat} {w w' : World} {b : Nat} (h : Own B w b) (hb : w'.heap[b]? = w.heap[b]?) : Own B w' b := ⟨h.1, by rw [hb]; exact h.2⟩
theorem Own.later {B : Nat} {w w' : World} {b : Nat} (h : Own B w b) (hb : Below w.heap.size w w') : Own B w' b := h.same (hb.block b h.lt)
theorem Own.from {B B' : Nat} {w : World} {b : Nat} (h : Own B w b) (hB : B' ≤ B) : Own B' w b := ⟨Nat.le_trans hB h.1, h.2⟩

/-- What a call has made lies there later, too. -/
theorem LiesP.later {w w' : World} {B : Nat} {l : List Tm} {s : Value} (h : LiesP w (Own B w) l s) (hb : Below w.heap.size w w') : LiesP w' (Own B w') l s := h.keep (fun b _ hlt => hb.block b hlt) (fun _ hp _ => hp.later hb)
theorem LiesP.from {w : World} {B B' : Nat} {l : List Tm} {s : Value} (h : LiesP w (Own B w) l s) (hB : B' ≤ B) : LiesP w (Own B' w) l s := h.keep (fun _ _ _ => rfl) (fun _ hp _ => hp.from hB)

def cells5 : List (Tm × Value) → List Value
  | [] => []
  | (t, s) :: r => .int .i64 t.k :: .int .i64 t.i :: s :: cells5 r

theorem cells5_append : ∀ ps qs : List (Tm × Value), cells5 (ps ++ qs) = cells5 ps ++ cells5 qs
  | [], qs => rfl
  | (t, s) :: r, qs => by simp [cells5, cells5_append r qs]
theorem cells5_get : ∀ (ps : List (Tm × Value)) (i : Nat) (h : i < ps.length) (q : Nat), q < 3 → (cells5 ps)[i * 3 + q]? = [Value.int .i64 (ps[i]).1.k, .int .i64 (ps[i]).1.i, (ps[i]).2][q]?
  | (t, s) :: r, 0, _, q, hq => by
    rw [Nat.zero_mul, Nat.zero_add]
    match q, hq with
    | 0, _ => rfl
    | 1, _ => rfl
    | 2, _ => rfl
  | (t, s) :: r, i + 1, h, q, hq => by
    have := cells5_get r i (by simpa using h) q hq
    rw [show (i + 1) * 3 + q = (i * 3 + q) + 3 by omega]
    simpa [cells5] using this

/-- A list of terms that the call has made so far: v is the slice, ps the terms with the slices of their kids; B: where its own memory begins. -/
structure Made (B : Nat) (w : World) (v : Value) (ps : List (Tm × Value)) : Prop where
  own : w.ownsRow B 24 3 v ps.length (cells5 ps)
  fine : ∀ p ∈ ps, p.1.fine
  kids : ∀ p ∈ ps, LiesP w (fun b => Own B w b ∧ v.ownBlock ≠ some b) p.1.kids p.2

theorem made_nil (B : Nat) (w : World) : Made B w (.slice none 0 0) [] := ⟨⟨rfl, Or.inl ⟨rfl, rfl⟩⟩, (fun _ h => by cases h), (fun _ h => by cases h)⟩

theorem made_later {B : Nat} {w w' : World} {v : Value} {ps : List (Tm × Value)} (h : Made B w v ps) (hb : Below w.heap.size w w') : Made B w' v ps := by
  refine ⟨?_, h.fine, fun p hp => (h.kids p hp).keep (fun b _ hlt => hb.block b hlt) (fun _ hq _ => ⟨hq.1.later hb, hq.2⟩)⟩
  obtain ⟨h1, h2⟩ := h.own
  refine ⟨h1, ?_⟩
  rcases h2 with h2 | ⟨g, cap, cur, hv, hg, hh, r⟩
  · exact Or.inl h2
  · refine Or.inr ⟨g, cap, cur, hv, hg, ?_, r⟩
    rw [hb.block g ?_]; exact hh
    exact (Array.getElem?_eq_some_iff.1 hh).1

/-- The block of the list, if it has one, is none of a new term's. -/
theorem made_block {B : Nat} {w : World} {v : Value} {ps : List (Tm × Value)} (h : Made B w v ps) {b : Nat} (hb : w.heap.size ≤ b) : v.ownBlock ≠ some b := by
  rcases h.own.2 with ⟨rfl, -⟩ | ⟨g, cap, cur, rfl, -, hh, -⟩
  · simp [Value.ownBlock]
  · have := (Array.getElem?_eq_some_iff.1 hh).1
    simp [Value.ownBlock]; omega

theorem made_step {B : Nat} {w w1 : World} {v : Value} {ps : List (Tm × Value)} {p : Tm × Value} {g cap : Nat} (h : Made B w v ps) (hf : p.1.fine) (hk : LiesP w (fun b => Own B w b ∧ v.ownBlock ≠ some b) p.1.kids p.2)
    (hown : w1.ownsRow B 24 3 (.slice (some ⟨g, 0, none⟩) (ps.length + 1) cap) (ps.length + 1) (cells5 ps ++ cells5 [p])) (hgrow : w.grownBy w1 v.ownBlock) (hg : v.ownBlock = some g ∨ g = w.heap.size) :
    Made B w1 (.slice (some ⟨g, 0, none⟩) (ps.length + 1) cap) (ps ++ [p]) := by
  have keep : ∀ q : Tm × Value, LiesP w (fun b => Own B w b ∧ v.ownBlock ≠ some b) q.1.kids q.2 → LiesP w1 (fun b => Own B w1 b ∧ (Value.slice (some ⟨g, 0, none⟩) (ps.length + 1) cap).ownBlock ≠ some b) q.1.kids q.2 := fun q hq =>
    hq.keep (fun b hb hlt => hgrow.block b hlt (fun e => hb.2 e.symm)) (fun b hb hlt => ⟨hb.1.same (hgrow.block b hlt (fun e => hb.2 e.symm)), by
      show some g ≠ some b
      rcases hg with e | e
      · rw [← e]; exact hb.2
      · intro e'; have := Option.some.inj e'; omega⟩)
  refine ⟨by rw [cells5_append]; simpa using hown, fun q hq => ?_, fun q hq => ?_⟩
  · rcases List.mem_append.1 hq with hq | hq
    · exact h.fine q hq
    · rw [List.mem_singleton.1 hq]; exact hf
  · rcases List.mem_append.1 hq with hq | hq
    · exact keep q (h.kids q hq)
    · rw [List.mem_singleton.1 hq]; exact keep p hk

/-- The list as terms that lie in the call's own memory. -/
theorem made_lies {B : Nat} {w : World} {v : Value} {ps : List (Tm × Value)} (h : Made B w v ps) : LiesP w (Own B w) (ps.map (·.1)) v := by
  have fin : ∀ x ∈ ps.map (·.1), x.fine := fun x hx => by obtain ⟨p, hp, rfl⟩ := List.mem_map.1 hx; exact h.fine p hp
  have kid : ∀ i (hi : i < ps.length), LiesP w (Own B w) (ps[i]).1.kids (ps[i]).2 := fun i hi => (h.kids _ (List.getElem_mem hi)).keep (fun _ _ _ => rfl) (fun _ hb _ => hb.1)
  obtain ⟨-, ⟨rfl, hn⟩ | ⟨g, cap, cur, rfl, hg, hh, hnc, hcm, hsz, htk⟩⟩ := h.own
  · obtain rfl : ps = [] := List.eq_nil_of_length_eq_zero hn
    exact .mk [] none 0 (fun _ => .nilIface) (Nat.le_refl _) (by decide) (fun _ h => by cases h) (fun _ h => by cases h) (fun _ h => by cases h)
  · have := LiesP.mk (w := w) (P := Own B w) (ps.map (·.1)) (some ⟨g, 0, none⟩) cap (fun i => (ps[i]?.map (·.2)).getD (.slice none 0 0)) (by simpa using hnc) hcm fin
      (fun i hi => by
        have hi' : i < ps.length := by simpa using hi
        refine ⟨g, rfl, ⟨hg, cur, hh⟩, ?_⟩
        simp only [List.getElem_map, List.getElem?_eq_getElem hi', Option.map_some, Option.getD_some]
        have cellq : ∀ q, q < 3 → w.cell? ⟨g, i * 3 + q, none⟩ = [Value.int .i64 (ps[i]).1.k, .int .i64 (ps[i]).1.i, (ps[i]).2][q]? := fun q hq => by
          rw [h.own.cellAt (i * 3 + q) (by omega)]; exact cells5_get ps i hi' q hq
        exact ⟨cellq 0 (by omega), cellq 1 (by omega), cellq 2 (by omega)⟩)
      (fun i hi => by
        have hi' : i < ps.length := by simpa using hi
        simp only [List.getElem_map, List.getElem?_eq_getElem hi', Option.map_some, Option.getD_some]
        exact kid i hi')
    simpa using this

/-- The cells of a term that was just laid into a block of its own. -/
theorem news_new (w : World) (t : Tm) (s : Value) (T : TypeId) : ∀ j u, (cells5 [(t, s)])[j]? = some u → (w.alloc (.cells #[.int .i64 t.k, .int .i64 t.i, s] T)).cell? ((⟨w.heap.size, 0, none⟩ : Addr).add j) = some u :=
  World.news_of_block (alloc_new w _)

/-- A term is stored into a block of five cells. -/
theorem five_set {w : World} {g : Nat} {T : TypeId} {z0 z1 z2 v0 v1 v2 : Value} (h : w.heap[g]? = some (.cells #[z0, z1, z2] T (0, 0))) :
    (((w.setCell ⟨g, 0, none⟩ v0).setCell ⟨g, 1, none⟩ v1).setCell ⟨g, 2, none⟩ v2).heap[g]? = some (.cells #[v0, v1, v2] T (0, 0)) :=
  heap_setCell_same _ _ _ _ _ _ (heap_setCell_same _ _ _ _ _ _ (heap_setCell_same _ _ _ _ _ _ h))

theorem info_term : (Tryd.prog.info? 24).map (fun i => (i.zero, i.size, i.bytes)) = some (some (.agg #[.int .i64 0, .int .i64 0, .slice none 0 0]), 3, 40) := by kernel_rfl
end Go.Proofs.YtdhfbphliejcdaaDoor.Dv

namespace Go.Proofs.YtdhfbphliejcdaaDoor.Dv
open Go.RowKit

/-- The five cells of an element, written one behind the other. -/
def put5 (w : World) (g o : Nat) (t : Tm) (s : Value) : World := ((w.setCell ⟨g, o, none⟩ (.int .i64 t.k)).setCell ⟨g, o + 1, none⟩ (.int .i64 t.i)).setCell ⟨g, o + 2, none⟩ s

theorem put5_other (w : World) (g o : Nat) (t : Tm) (s : Value) {b : Nat} (h : b ≠ g) : (put5 w g o t s).heap[b]? = w.heap[b]? := by
  unfold put5; repeat rw [Below.heap_setCell _ _ _ _ (by exact h)]
theorem put5_out (w : World) (g o : Nat) (t : Tm) (s : Value) {q : Nat} (h : q < o ∨ o + 3 ≤ q) : (put5 w g o t s).cell? ⟨g, q, none⟩ = w.cell? ⟨g, q, none⟩ := by
  unfold put5
  repeat rw [World.cell?_setCell_other _ _ _ _ (by intro e; have := congrArg Addr.off e; simp only at this; omega)]
theorem put5_node {w : World} {g o : Nat} {t0 : Tm} {s0 : Value} (t : Tm) (s : Value) (h : Node w g o t0 s0) : Node (put5 w g o t s) g o t s := by
  have ne : ∀ p q : Nat, p ≠ q → (⟨g, p, none⟩ : Addr) ≠ ⟨g, q, none⟩ := fun p q hpq e => hpq (congrArg Addr.off e)
  unfold put5
  refine ⟨?_, ?_, ?_⟩
  · rw [World.cell?_setCell_other _ _ _ _ (ne _ _ (by omega)), World.cell?_setCell_other _ _ _ _ (ne _ _ (by omega))]
    exact World.cell?_setCell_same _ _ _ h.c0
  · rw [World.cell?_setCell_other _ _ _ _ (ne _ _ (by omega))]
    refine World.cell?_setCell_same _ _ _ (u := .int .i64 t0.i) ?_
    rw [World.cell?_setCell_other _ _ _ _ (ne _ _ (by omega))]; exact h.c1
  · refine World.cell?_setCell_same _ _ _ (u := s0) ?_
    rw [World.cell?_setCell_other _ _ _ _ (ne _ _ (by omega)), World.cell?_setCell_other _ _ _ _ (ne _ _ (by omega))]; exact h.c2
/-- Another element's cells stay. -/
theorem put5_keep {w : World} {g o o' b : Nat} {t x : Tm} {s sx : Value} (h : Node w b o' x sx) (hne : b ≠ g ∨ o' + 3 ≤ o ∨ o + 3 ≤ o') : Node (put5 w g o t s) b o' x sx := by
  by_cases hb : b = g
  · subst hb
    have hne' : o' + 3 ≤ o ∨ o + 3 ≤ o' := hne.resolve_left (fun h => h rfl)
    exact ⟨(put5_out _ _ _ _ _ (by omega)).trans h.c0, (put5_out _ _ _ _ _ (by omega)).trans h.c1, (put5_out _ _ _ _ _ (by omega)).trans h.c2⟩
  · exact h.same (put5_other _ _ _ _ _ hb)

/-- A list that was made whole and is filled from the left: block g; xs: the terms as they stand there now. -/
structure Full (B : Nat) (w : World) (g : Nat) (xs : List (Tm × Value)) : Prop where
  above : B ≤ g
  open' : ∃ cs, w.heap[g]? = some (.cells cs 24 (0, 0))
  node : ∀ i (h : i < xs.length), Node w g (i * 3) (xs[i]).1 (xs[i]).2
  fine : ∀ p ∈ xs, p.1.fine
  kids : ∀ p ∈ xs, LiesP w (fun b => Own B w b ∧ b ≠ g) p.1.kids p.2

theorem Full.later {B g : Nat} {w w' : World} {xs : List (Tm × Value)} (h : Full B w g xs) (hb : Below w.heap.size w w') : Full B w' g xs := by
  have hg : g < w.heap.size := by obtain ⟨cs, h⟩ := h.open'; exact (Array.getElem?_eq_some_iff.1 h).1
  exact ⟨h.above, by rw [hb.block g hg]; exact h.open', fun i hi => (h.node i hi).below hb hg, h.fine, fun p hp => (h.kids p hp).keep (fun b _ hlt => hb.block b hlt) (fun _ hq _ => ⟨hq.1.later hb, hq.2⟩)⟩

/-- The whole list as terms of the call's own memory. -/
theorem Full.lies {B g cap : Nat} {w : World} {xs : List (Tm × Value)} (h : Full B w g xs) (hc : xs.length ≤ cap) (hm : cap ≤ maxLen) : LiesP w (Own B w) (xs.map (·.1)) (.slice (some ⟨g, 0, none⟩) xs.length cap) := by
  have := LiesP.mk (w := w) (P := Own B w) (xs.map (·.1)) (some ⟨g, 0, none⟩) cap (fun i => (xs[i]?.map (·.2)).getD (.slice none 0 0)) (by simpa using hc) hm
    (fun x hx => by obtain ⟨p, hp, rfl⟩ := List.mem_map.1 hx; exact h.fine p hp)
    (fun i hi => by
      have hi' : i < xs.length := by simpa using hi
      refine ⟨g, rfl, ⟨h.above, h.open'⟩, ?_⟩
      simp only [List.getElem_map, List.getElem?_eq_getElem hi', Option.map_some, Option.getD_some]
      exact h.node i hi')
    (fun i hi => by
      have hi' : i < xs.length := by simpa using hi
      simp only [List.getElem_map, List.getElem?_eq_getElem hi', Option.map_some, Option.getD_some]
      exact (h.kids _ (List.getElem_mem hi')).keep (fun _ _ _ => rfl) (fun _ hb _ => hb.1))
  simpa using this

theorem liesP_nil (w : World) (P : Nat → Prop) : LiesP w P [] (.slice none 0 0) := .mk [] none 0 (fun _ => .nilIface) (Nat.le_refl _) (by decide) (fun _ h => by cases h) (fun _ h => by cases h) (fun _ h => by cases h)

end Go.Proofs.YtdhfbphliejcdaaDoor.Dv

namespace Go.Proofs.YtdhfbphliejcdaaDoor.Dv
open Go.RowKit

def Tm.zero : Tm := .mk 0 0 []
abbrev zeroObj : Obj := .cells #[.int .i64 0, .int .i64 0, .slice none 0 0] 24

theorem five_cells {w : World} {g : Nat} {v0 v1 v2 : Value} {T : TypeId} (h : w.heap[g]? = some (.cells #[v0, v1, v2] T (0, 0))) :
    w.cell? ⟨g, 0, none⟩ = some v0 ∧ w.cell? ⟨g, 1, none⟩ = some v1 ∧ w.cell? ⟨g, 2, none⟩ = some v2 := by
  refine ⟨?_, ?_, ?_⟩ <;> (rw [cell_of_row w g _ _ _ _ h]; rfl)
theorem five_free {w : World} {g : Nat} {cs : Array Value} {T : TypeId} (h : w.heap[g]? = some (.cells cs T (0, 0))) :
    w.frozen? ⟨g, 0, none⟩ = false ∧ w.frozen? ⟨g, 1, none⟩ = false ∧ w.frozen? ⟨g, 2, none⟩ = false :=
  ⟨open_unfrozen h _, open_unfrozen h _, open_unfrozen h _⟩

theorem Full.below {B g b o : Nat} {w : World} {xs : List (Tm × Value)} (h : Full B w g xs) (hb : b < B) (v : Value) : Full B (w.setCell ⟨b, o, none⟩ v) g xs := by
  have hg := h.above
  have hk : ∀ b', B ≤ b' → (w.setCell ⟨b, o, none⟩ v).heap[b']? = w.heap[b']? := fun b' hb' => Below.heap_setCell _ _ _ _ (by show b' ≠ b; omega)
  exact ⟨hg, by rw [hk g hg]; exact h.open', fun i hi => (h.node i hi).same (hk g hg), h.fine, fun p hp => (h.kids p hp).keep (fun b' hb' _ => hk b' hb'.1.1) (fun b' hb' _ => ⟨hb'.1.same (hk b' hb'.1.1), hb'.2⟩)⟩

theorem held_alloc {w w1 : World} {t : Tm} {s : Value} (h : Held w t s w1) (o : Obj) : Held w t s (w1.alloc o) := Below.alloc h (by have := Below.size h; simpa using this) o
abbrev five (w : World) (g : Nat) (v0 v1 v2 : Value) : World := ((w.setCell ⟨g, 0, none⟩ v0).setCell ⟨g, 1, none⟩ v1).setCell ⟨g, 2, none⟩ v2
theorem five_other (w : World) (g : Nat) (v0 v1 v2 : Value) {b : Nat} (h : b ≠ g) : (five w g v0 v1 v2).heap[b]? = w.heap[b]? := by
  unfold five; repeat rw [Below.heap_setCell _ _ _ _ (by exact h)]
theorem liesP_fives {B N g : Nat} {w : World} {l : List Tm} {s : Value} (h : LiesP w (Own B w) l s) (hg : g < B) (hN : N ≤ B) (v0 v1 v2 : Value) : LiesP (five w g v0 v1 v2) (Own N (five w g v0 v1 v2)) l s :=
  h.keep (fun b hp _ => five_other w g v0 v1 v2 (by have := hp.1; omega)) (fun b hp _ => (hp.from hN).same (five_other w g v0 v1 v2 (by have := hp.1; omega)))
end Go.Proofs.YtdhfbphliejcdaaDoor.Dv

namespace Go.Proofs.YtdhfbphliejcdaaDoor.Dv
open Go.RowKit

def mostN (r : Int) : Int := if r = 1 ∨ r = 2 then 1000000 else 0
def nodeOk (k i : Int) (n : Nat) : Bool := decide (0 ≤ dkidsN k) && ((n : Int) == dkidsN k) && decide (0 ≤ i) && decide (i ≤ mostN k)
mutual
def Tm.rightB : Tm → Bool
  | .mk k i l => nodeOk k i l.length && rights l
def rights : List Tm → Bool
  | [] => true
  | x :: r => x.rightB && rights r
end
theorem Tm.rightB_eq (t : Tm) : t.rightB = (nodeOk t.k t.i t.kids.length && rights t.kids) := by cases t; simp only [Tm.rightB]; rfl
theorem rights_take : ∀ (l : List Tm) (k : Nat) (h : k < l.length), rights (l.take (k + 1)) = (rights (l.take k) && (l[k]).rightB)
  | x :: r, 0, _ => by simp [rights]
  | x :: r, k + 1, h => by
    simp only [List.take_succ_cons, rights, List.getElem_cons_succ]
    rw [rights_take r k (by simpa using h), Bool.and_assoc]
theorem rights_of : ∀ (l : List Tm) (k : Nat) (h : k < l.length), (l[k]).rightB = false → rights l = false
  | x :: r, 0, _, hs => by simp only [List.getElem_cons_zero] at hs; simp [rights, hs]
  | x :: r, k + 1, h, hs => by
    simp only [List.getElem_cons_succ] at hs
    simp [rights, rights_of r k (by simpa using h) hs]
theorem right_bad {t : Tm} (h : nodeOk t.k t.i t.kids.length = false) : t.rightB = false := by rw [t.rightB_eq, h]; rfl
theorem bad1 {k i : Int} {n : Nat} (h : dkidsN k < 0) : nodeOk k i n = false := by unfold nodeOk; rw [decide_eq_false (by omega)]; simp
theorem bad2 {k i : Int} {n : Nat} (h : ¬ (n : Int) = dkidsN k) : nodeOk k i n = false := by unfold nodeOk; rw [beq_eq_false_iff_ne.2 h]; simp
theorem bad3 {k i : Int} {n : Nat} (h : i < 0) : nodeOk k i n = false := by unfold nodeOk; rw [decide_eq_false (by omega : ¬ 0 ≤ i)]; simp
theorem bad4 {k i : Int} {n : Nat} (h : mostN k < i) : nodeOk k i n = false := by unfold nodeOk; rw [decide_eq_false (by omega : ¬ i ≤ mostN k)]; simp
theorem good_node {k i : Int} {n : Nat} (h1 : 0 ≤ dkidsN k) (h2 : (n : Int) = dkidsN k) (h3 : 0 ≤ i) (h4 : i ≤ mostN k) : nodeOk k i n = true := by unfold nodeOk; simp [h1, h2, h3, h4]

theorem dmost_any (r : Int) (w : World) : Calls Tryd.prog 39 #[.int .i64 r] w fun e w' => e = .returned (.int .i64 (mostN r)) ∧ w' = w := by
  go_enter Tryd.func39, Tryd.ntmps39
  go_wp2
  all_goals go_ret
  all_goals exact ⟨ret_int (by unfold mostN; split <;> first | rfl | (simp_all; done) | (simp only [beq_iff_eq, beq_eq_false_iff_ne, ne_eq] at *; omega)), rfl⟩
theorem held_drewN {w w1 : World} {t : Tm} {s : Value} (h : Held w t s w1) (n : Nat) : Held w t s (w1.drewN n) := Below.trans h ⟨rfl, rfl, rfl, Nat.le_refl _, fun _ _ => rfl⟩
set_option maxHeartbeats 2000000 in
theorem dright_any (t : Tm) : ∀ (w : World) (s : Value), Lies w t.kids s → Calls Tryd.prog 21 #[tv t s] w fun e w' => e = .returned (.bool t.rightB) ∧ Below w.heap.size w w' := by
  induction t using Tm.ind with
  | h t ih =>
    intro w s hl
    obtain ⟨a, cap, S, rfl, hc, hm, hf, hn, hk⟩ := hl.out
    unfold tv
    unfold maxLen at hm
    have H0 := held_start w t (.slice a t.kids.length cap)
    have IH := Lib.hid ih
    have HN := Lib.hid hn
    have HK := Lib.hid hk
    clear ih hn hk hf hl
    obtain ⟨n, hnn⟩ : ∃ n, dkidsN t.k = n := ⟨_, rfl⟩
    have HNN := Lib.hid hnn
    have CK := Lib.hid (fun w' => dkids_any t.k w')
    rw [hnn] at CK
    obtain ⟨m, hmm⟩ : ∃ m, mostN t.k = m := ⟨_, rfl⟩
    have HMM := Lib.hid hmm
    have CM := Lib.hid (fun w' => dmost_any t.k w')
    rw [hmm] at CM
    clear hnn hmm
    by_cases h1 : n < 0
    · have HB := Lib.hid (right_bad (t := t) (bad1 (by rw [HNN.out]; exact h1)))
      have e1 : decide (n < 0) = true := by simpa using h1
      go_enter Tryd.func21, Tryd.ntmps21
      go_wp2_with fail
      refine (CK.out _).mono ?_
      rintro e w1 ⟨rfl, rfl⟩
      go_wp2_with fail
      go_quiet ((go_at_call 39; exact Calls.quiet_of_same (CM.out _)))
      go_wp2_with fail
      go_ret
      exact ⟨ret_bool HB.out.symm, held_below (held_drewN H0 _)⟩
    have e1 : decide (n < 0) = false := by simpa using h1
    by_cases h2 : (t.kids.length : Int) = n
    rotate_left
    · have HB := Lib.hid (right_bad (t := t) (bad2 (by rw [HNN.out]; exact h2)))
      have e2 : ((t.kids.length : Int) == n) = false := by simpa using h2
      have e2' : ((t.kids.length : Int) != n) = true := by simpa using h2
      clear h2
      go_enter Tryd.func21, Tryd.ntmps21
      go_wp2_with fail
      refine (CK.out _).mono ?_
      rintro e w1 ⟨rfl, rfl⟩
      go_wp2_with fail
      go_quiet ((go_at_call 39; exact Calls.quiet_of_same (CM.out _)))
      go_wp2_with fail
      all_goals go_ret
      all_goals exact ⟨ret_bool HB.out.symm, held_below (held_drewN H0 _)⟩
    have e2 : ((t.kids.length : Int) == n) = true := by simpa using h2
    have e2' : ((t.kids.length : Int) != n) = false := by simpa using h2
    have H2 := Lib.hid h2
    clear h2
    by_cases h3 : t.i < 0
    · have HB := Lib.hid (right_bad (t := t) (bad3 (n := t.kids.length) h3))
      have e3 : decide (t.i < 0) = true := by simpa using h3
      go_enter Tryd.func21, Tryd.ntmps21
      go_wp2_with fail
      refine (CK.out _).mono ?_
      rintro e w1 ⟨rfl, rfl⟩
      go_wp2_with fail
      go_quiet ((go_at_call 39; exact Calls.quiet_of_same (CM.out _)))
      go_wp2_with fail
      all_goals go_ret
      all_goals exact ⟨ret_bool HB.out.symm, held_below (held_drewN H0 _)⟩
    have e3 : decide (t.i < 0) = false := by simpa using h3
    by_cases h4 : m < t.i
    · have HB := Lib.hid (right_bad (t := t) (bad4 (n := t.kids.length) (by rw [HMM.out]; exact h4)))
      have e4 : decide (m < t.i) = true := by simpa using h4
      go_enter Tryd.func21, Tryd.ntmps21
      go_wp2_with fail
      refine (CK.out _).mono ?_
      rintro e w1 ⟨rfl, rfl⟩
      go_wp2_with fail
      go_quiet ((go_at_call 39; exact Calls.quiet_of_same (CM.out _)))
      go_wp2_with fail
      all_goals go_ret
      all_goals exact ⟨ret_bool HB.out.symm, held_below (held_drewN H0 _)⟩
    have e4 : decide (m < t.i) = false := by simpa using h4
    have HG := Lib.hid (show t.rightB = rights t.kids by rw [t.rightB_eq, good_node (by rw [HNN.out]; omega) (by rw [HNN.out]; exact H2.out) (by omega) (by rw [HMM.out]; omega)]; rfl)
    go_enter Tryd.func21, Tryd.ntmps21
    go_wp2_with fail
    refine (CK.out _).mono ?_
    rintro e w1 ⟨rfl, rfl⟩
    go_wp2_with fail
    go_quiet ((go_at_call 39; exact Calls.quiet_of_same (CM.out _)))
    go_wp2_with fail
    go_loopw [34] (fun iv wr => ∃ q : Nat, q ≤ t.kids.length ∧ iv = .int .i64 q ∧ Hid (rights (t.kids.take q) = true) ∧ Held w t (.slice a t.kids.length cap) wr) (fun iv _ => t.kids.length - (intOf iv).toNat)
    case atStart => exact ⟨0, Nat.zero_le _, rfl, by simp [Hid, rights], held_drewN H0 _⟩
    case round =>
      clear H0
      obtain ⟨q, hq0, rfl, hgood, hh⟩ := hrel
      have hb := held_below hh
      by_cases hlt : q < t.kids.length
      · obtain ⟨b, o, rfl, hx⟩ := HN.out q hlt
        obtain ⟨c0, c1, c2⟩ := hx.below hb hx.lt
        have hq := (HK.out q hlt).keep hb
        obtain ⟨a', cap', S', hS, -⟩ := hq.out
        rw [hS] at c2 hq
        have HQ := Lib.hid hq
        have HM := Lib.hid (List.getElem_mem hlt)
        have hh2 := held_alloc hh (.cells #[.int .i64 t.kids[q].k, .int .i64 t.kids[q].i, .slice a' t.kids[q].kids.length cap'] 24)
        have HNEW := Lib.hid ((Below.refl wr.heap.size wr).alloc (Nat.le_refl _) (.cells #[.int .i64 t.kids[q].k, .int .i64 t.kids[q].i, .slice a' t.kids[q].kids.length cap'] 24))
        clear hS hq
        go_wp2_with fail
        refine (IH.out _ HM.out _ _ (HQ.out.keep HNEW.out)).mono ?_
        rintro e wn ⟨rfl, hbn⟩
        have hh3 := held_call hh2 hbn
        clear hbn hh2 hb
        cases hr : (t.kids[q]).rightB
        · have HR := Lib.hid (rights_of t.kids q hlt hr)
          go_wp2
          go_ret
          exact ⟨ret_bool (by rw [HG.out]; exact HR.out.symm), held_below hh3⟩
        · go_wp2
          go_roundw
          case rel => exact ⟨q + 1, by omega, by go_num, by show _ = true; rw [rights_take _ _ hlt, hgood.out, hr]; rfl, hh3⟩
          case measure => simp [intOf]; omega
      · have : q = t.kids.length := by omega
        subst this
        go_wp2
        go_ret
        exact ⟨ret_bool (by have := hgood.out; rw [List.take_length] at this; rw [HG.out]; exact this.symm), hb⟩

end Go.Proofs.YtdhfbphliejcdaaDoor.Dv

namespace Go.Proofs.YtdhfbphliejcdaaDoor.Dv

theorem getB_most (l : List UInt8) : (getB l).getD 0 ≤ 1000000 := by
  cases e : getB l with
  | none => simp
  | some n =>
    unfold getB at e
    split at e
    · cases e
    · split at e
      · cases e; simp; omega
      · cases e
def DpR (dp : DP) : Prop := ∀ d u ts t u2 r, dp d u ts = .ok (t, u2, r) → t.rightB = true
theorem kidsD_right {dp : DP} (h : DpR dp) {d : Nat} : ∀ {c u : Nat} {ts r : List Tok} {l : List Tm} {u2 : Nat}, kidsD dp d c u ts = .ok (l, u2, r) → rights l = true
  | 0, u, ts, r, l, u2, e => by unfold kidsD at e; cases e; rfl
  | c + 1, u, ts, r, l, u2, e => by
    unfold kidsD at e
    split at e
    · cases e
    · rename_i t u1 r1 h1
      split at e
      · cases e
      · rename_i l2 u3 r2 h2
        have l2 := kidsD_right h h2
        cases e
        simp only [rights]
        rw [h _ _ _ _ _ _ h1, l2]
        rfl
theorem numD_range {E : Nat} {k : Int} {ts r : List Tok} {n : Int} (h : numD E k ts = .ok (n, r)) : 0 ≤ n ∧ n ≤ mostN k := by
  unfold numD at h
  unfold mostN
  split at h
  · rename_i hk
    split at h
    · cases h
    · cases h
      rw [if_pos hk]
      have := getB_most
      exact ⟨by omega, by have := this (by assumption : Tok).s; omega⟩
  · rename_i hk
    cases h
    rw [if_neg hk]
    exact ⟨Int.le_refl _, Int.le_refl _⟩
theorem ruleD_right {dp : DP} (hd : DpL dp) (hr : DpR dp) {E d u : Nat} {ts r : List Tok} {t : Tm} {u2 : Nat} (h : ruleD dp E d u ts = .ok (t, u2, r)) : t.rightB = true := by
  unfold ruleD at h
  split at h
  · cases h
  · rename_i w r1 h1
    split at h
    · cases h
    · rename_i hne
      have hrg := ruleN_range w.s
      have hkn := dkids_nn (r := ruleN w.s) (by omega)
      split at h
      · cases h
      · rename_i n r2 h2
        have hn := numD_range h2
        split at h
        · cases h
        · rename_i l u3 r3 h3
          have l3 := kidsD_len hd h3
          have l4 := kidsD_right hr h3
          split at h
          · cases h
          · cases h
            rw [Tm.rightB_eq]
            show (nodeOk (ruleN w.s) n l.length && rights l) = true
            rw [l4, good_node hkn.1 (by omega) hn.1 hn.2]
            rfl
theorem derP_right {deep nodes E : Nat} : ∀ f, DpR (derP deep nodes E f)
  | 0 => fun d u ts t u2 r h => by cases h
  | f + 1 => fun d u ts t u2 r h => by
    unfold derP at h
    split at h
    · cases h
    · split at h
      · cases h
      · split at h
        · cases h
        · exact ruleD_right (derP_len f) (derP_right f) h
theorem ctxD_right {dp : DP} (hd : DpR dp) {E : Nat} : ∀ {f u : Nat} {ts r : List Tok} {l : List Tm} {u2 : Nat}, ctxD dp E f u ts = .ok (l, u2, r) → rights l = true
  | 0, u, ts, r, l, u2, h => by cases h
  | f + 1, u, ts, r, l, u2, h => by
    unfold ctxD at h
    split at h
    · cases h; rfl
    · split at h
      · cases h
      · rename_i t u1 r1 h1
        split at h
        · cases h
        · rename_i l2 u3 r2 h2
          have l2 := ctxD_right hd h2
          cases h
          simp only [rights]
          rw [hd _ _ _ _ _ _ h1, l2]
          rfl
theorem fileP_inv {dp : DP} {E f : Nat} {ts r : List Tok} {l : List Tm} {t : Tm} (h : fileP dp E f ts = .ok ((l, t), r)) : ∃ r3 u r4 r5 u2 r6, ctxD dp E f 0 r3 = .ok (l, u, r4) ∧ dp 1 u r5 = .ok (t, u2, r6) ∧ r3.length + 3 = ts.length ∧ r5.length + 1 = r4.length := by
  unfold fileP at h
  split at h; · cases h
  rename_i o1 r1 h1
  split at h; · cases h
  rename_i w r2 h2
  split at h
  · split at h; · cases h
    rename_i o3 r3 h3
    split at h; · cases h
    rename_i c u r4 h4
    split at h; · cases h
    rename_i o5 r5 h5
    split at h; · cases h
    rename_i t' u2 r6 h6
    split at h; · cases h
    cases h
    have l1 := takeT_len h1
    have l2 := takeT_len h2
    have l3 := takeT_len h3
    have l5 := takeT_len h5
    exact ⟨r3, u, r4, r5, u2, r6, h4, h6, by omega, by omega⟩
  · cases h
theorem parseB_right {s : List UInt8} {deep nodes : Nat} {l : List Tm} {t : Tm} (h : parseB s deep nodes = .ok (l, t)) : rights l = true ∧ t.rightB = true := by
  unfold parseB at h
  split at h; · cases h
  rename_i x r hx
  split at h; · cases h
  cases h
  obtain ⟨r3, u, r4, r5, u2, r6, h1, h2, -⟩ := fileP_inv hx
  exact ⟨ctxD_right (derP_right _) h1, derP_right _ _ _ _ _ _ _ h2⟩
end Go.Proofs.YtdhfbphliejcdaaDoor.Dv

namespace Go.Proofs.YtdhfbphliejcdaaDoor.Dv

/-- What the one gives the other gives, but for what is beyond an allowance. -/
def Mo {α : Type} (x y : Except PF α) : Prop := (∀ r, x = .ok r → y = .ok r) ∧ ∀ a, x = .error (0, a) → y = .error (0, a)
theorem Mo.refl {α : Type} (x : Except PF α) : Mo x x := ⟨fun _ h => h, fun _ h => h⟩
end Go.Proofs.YtdhfbphliejcdaaDoor.Dv

namespace Go.Proofs.YtdhfbphliejcdaaDoor.Dv
open Go.RowKit

mutual
def Tm.deep : Tm → Nat
  | .mk _ _ l => deeps l + 1
def deeps : List Tm → Nat
  | [] => 0
  | t :: r => max t.deep (deeps r)
end

theorem Tm.deep_eq (t : Tm) : t.deep = deeps t.kids + 1 := by cases t; rfl

end Go.Proofs.YtdhfbphliejcdaaDoor.Dv

namespace Go.Proofs.YtdhfbphliejcdaaDoor.Dv

/-- Within the depth from one to another. -/
def AllIn (m : Nat) (a b : Nat) : Prop := ∀ n : Nat, a ≤ n → n < b → withinB n m = true
def SomeOut (m : Nat) (a b : Nat) : Prop := ∃ n : Nat, a ≤ n ∧ n < b ∧ withinB n m = false
theorem AllIn.nil {m a : Nat} : AllIn m a a := fun n h1 h2 => by omega
theorem AllIn.join {m a b c : Nat} (h1 : AllIn m a b) (h2 : AllIn m b c) : AllIn m a c := fun n k1 k2 => by
  by_cases h : n < b
  · exact h1 n k1 h
  · exact h2 n (by omega) k2
theorem AllIn.top {m a b c : Nat} (h1 : AllIn m a b) (h2 : AllIn m a c) : AllIn m a (max b c) := fun n k1 k2 => by
  by_cases h : n < b
  · exact h1 n k1 h
  · exact h2 n k1 (by omega)
theorem AllIn.one {m a : Nat} (h : withinB a m = true) : AllIn m a (a + 1) := fun n h1 h2 => by
  obtain rfl : n = a := by omega
  exact h
theorem SomeOut.mono {m a b c d : Nat} (h : SomeOut m a b) (h1 : c ≤ a) (h2 : b ≤ d) : SomeOut m c d := by
  obtain ⟨n, k1, k2, k3⟩ := h
  exact ⟨n, by omega, by omega, k3⟩
/-- What a derivation that was read shows. -/
def DpS (deep nodes : Nat) (dp : DP) : Prop := ∀ d u ts t u2 r, dp d u ts = .ok (t, u2, r) → u2 = u + t.size ∧ AllIn deep d (d + t.deep) ∧ AllIn nodes (u + 1) (u2 + 1)
theorem kidsD_suc {deep nodes : Nat} {dp : DP} (h : DpS deep nodes dp) {d : Nat} : ∀ {c u : Nat} {ts r : List Tok} {l : List Tm} {u2 : Nat}, kidsD dp d c u ts = .ok (l, u2, r) → u2 = u + sizes l ∧ AllIn deep d (d + deeps l) ∧ AllIn nodes (u + 1) (u2 + 1)
  | 0, u, ts, r, l, u2, hx => by cases hx; exact ⟨rfl, AllIn.nil, AllIn.nil⟩
  | c + 1, u, ts, r, l, u2, hx => by
    unfold kidsD at hx
    split at hx
    · cases hx
    · rename_i t u1 r1 h1
      split at hx
      · cases hx
      · rename_i l2 u3 r2 h2
        cases hx
        obtain ⟨a1, a2, a3⟩ := h _ _ _ _ _ _ h1
        obtain ⟨b1, b2, b3⟩ := kidsD_suc h h2
        refine ⟨by simp only [sizes]; omega, ?_, a3.join b3⟩
        have := a2.top b2
        simp only [deeps]
        rwa [show d + max t.deep (deeps l2) = max (d + t.deep) (d + deeps l2) by omega]
theorem ruleD_suc {deep nodes : Nat} {dp : DP} (h : DpS deep nodes dp) {E d u : Nat} {ts r : List Tok} {t : Tm} {u2 : Nat} (hx : ruleD dp E d u ts = .ok (t, u2, r)) (hd : withinB d deep = true) (hu : withinB (u + 1 : Nat) nodes = true) : u2 = u + t.size ∧ AllIn deep d (d + t.deep) ∧ AllIn nodes (u + 1) (u2 + 1) := by
  unfold ruleD at hx
  split at hx; · cases hx
  split at hx; · cases hx
  split at hx; · cases hx
  split at hx; · cases hx
  rename_i l u3 r3 h3
  split at hx; · cases hx
  cases hx
  obtain ⟨b1, b2, b3⟩ := kidsD_suc h h3
  refine ⟨by rw [Tm.size_eq]; show _ = u + (sizes l + 1); omega, ?_, (AllIn.one hu).join b3⟩
  rw [Tm.deep_eq]
  show AllIn deep d (d + (deeps l + 1))
  have := (AllIn.one hd).join b2
  rwa [show d + (deeps l + 1) = d + 1 + deeps l by omega]
theorem derP_suc {deep nodes E : Nat} : ∀ f, DpS deep nodes (derP deep nodes E f)
  | 0 => fun d u ts t u2 r h => by cases h
  | f + 1 => fun d u ts t u2 r h => by
    unfold derP at h
    split at h
    · cases h
    · split at h
      · cases h
      · rename_i hd
        split at h
        · cases h
        · rename_i hu
          exact ruleD_suc (derP_suc f) h (by simpa using hd) (by simpa using hu)
theorem ctxD_suc {deep nodes : Nat} {dp : DP} (h : DpS deep nodes dp) {E : Nat} : ∀ {f u : Nat} {ts r : List Tok} {l : List Tm} {u2 : Nat}, ctxD dp E f u ts = .ok (l, u2, r) → u2 = u + sizes l ∧ AllIn deep 1 (1 + deeps l) ∧ AllIn nodes (u + 1) (u2 + 1)
  | 0, u, ts, r, l, u2, hx => by cases hx
  | f + 1, u, ts, r, l, u2, hx => by
    unfold ctxD at hx
    split at hx
    · cases hx; exact ⟨rfl, AllIn.nil, AllIn.nil⟩
    · split at hx
      · cases hx
      · rename_i t u1 r1 h1
        split at hx
        · cases hx
        · rename_i l2 u3 r2 h2
          cases hx
          obtain ⟨a1, a2, a3⟩ := h _ _ _ _ _ _ h1
          obtain ⟨b1, b2, b3⟩ := ctxD_suc h h2
          refine ⟨by simp only [sizes]; omega, ?_, a3.join b3⟩
          have := a2.top b2
          simp only [deeps]
          rwa [show 1 + max t.deep (deeps l2) = max (1 + t.deep) (1 + deeps l2) by omega]

/-- No allowance is passed where the allowances are great enough. -/
def DpN (N : Nat) (dp : DP) : Prop := ∀ d u ts, d + ts.length ≤ N → u + ts.length ≤ N → ∀ k a, dp d u ts ≠ .error (k + 1, a)
theorem kidsD_no {N : Nat} {dp : DP} (hl : DpL dp) (h : DpN N dp) {d : Nat} : ∀ {c u : Nat} {ts : List Tok}, d + ts.length ≤ N → u + ts.length ≤ N → ∀ k a, kidsD dp d c u ts ≠ .error (k + 1, a)
  | 0, u, ts, h1, h2, k, a => fun he => by cases he
  | c + 1, u, ts, h1, h2, k, a => by
    unfold kidsD
    cases hx : dp d u ts with
    | error p => intro he; cases he; exact h _ _ _ h1 h2 _ _ hx
    | ok q =>
      obtain ⟨t, u1, r⟩ := q
      dsimp only
      obtain ⟨l1, l2, -⟩ := hl _ _ _ _ _ _ hx
      cases hy : kidsD dp d c u1 r with
      | error p => intro he; cases he; exact kidsD_no hl h (by omega) (by omega) _ _ hy
      | ok q => intro he; cases he
theorem ruleD_no {N : Nat} {dp : DP} (hl : DpL dp) (h : DpN N dp) {E d u : Nat} {ts : List Tok} (h1 : d + ts.length ≤ N) (h2 : u + ts.length ≤ N) (k a : Nat) : ruleD dp E d u ts ≠ .error (k + 1, a) := by
  unfold ruleD
  cases hw : takeT E 3 ts with
  | error e => intro he; cases he
  | ok w =>
    obtain ⟨w, r1⟩ := w
    have hl1 := takeT_len hw
    dsimp only
    split
    · intro he; cases he
    · cases hn : numD E (ruleN w.s) r1 with
      | error e =>
        intro he
        cases he
        unfold numD at hn
        split at hn
        · split at hn <;> cases hn
        · cases hn
      | ok n =>
        obtain ⟨n, r2⟩ := n
        have hl2 := numD_le hn
        dsimp only
        cases hx : kidsD dp (d + 1) (dkidsN (ruleN w.s)).toNat (u + 1) r2 with
        | error p => intro he; cases he; exact kidsD_no hl h (by omega) (by omega) _ _ hx
        | ok q =>
          obtain ⟨l, u2, r3⟩ := q
          dsimp only
          cases takeT E 2 r3 with
          | error e => intro he; cases he
          | ok o => intro he; cases he
theorem ctxD_no {N : Nat} {dp : DP} (hl : DpL dp) (h : DpN N dp) {E : Nat} : ∀ {f u : Nat} {ts : List Tok}, 1 + ts.length ≤ N → u + ts.length ≤ N → ∀ k a, ctxD dp E f u ts ≠ .error (k + 1, a)
  | 0, u, ts, h1, h2, k, a => fun he => by cases he
  | f + 1, u, ts, h1, h2, k, a => by
    unfold ctxD
    split
    · intro he; cases he
    · cases hx : dp 1 u ts with
      | error p => intro he; cases he; exact h _ _ _ h1 h2 _ _ hx
      | ok q =>
        obtain ⟨t, u1, r⟩ := q
        dsimp only
        obtain ⟨l1, l2, -⟩ := hl _ _ _ _ _ _ hx
        cases hy : ctxD dp E f u1 r with
        | error p => intro he; cases he; exact ctxD_no hl h (by omega) (by omega) _ _ hy
        | ok q => intro he; cases he
theorem fileP_no {N : Nat} {dp : DP} (hl : DpL dp) (h : DpN N dp) {E f : Nat} {ts : List Tok} (h1 : ts.length ≤ N) (k a : Nat) : fileP dp E f ts ≠ .error (k + 1, a) := by
  unfold fileP
  cases e1 : takeT E 1 ts with
  | error e => intro he; cases he
  | ok o =>
  obtain ⟨o, r1⟩ := o
  have l1 := takeT_len e1
  dsimp only
  cases e2 : takeT E 3 r1 with
  | error e => intro he; cases he
  | ok o =>
  obtain ⟨w, r2⟩ := o
  have l2 := takeT_len e2
  dsimp only
  split
  · cases e3 : takeT E 1 r2 with
    | error e => intro he; cases he
    | ok o =>
    obtain ⟨o3, r3⟩ := o
    have l3 := takeT_len e3
    dsimp only
    cases e4 : ctxD dp E f 0 r3 with
    | error p => intro he; cases he; exact ctxD_no hl h (by omega) (by omega) _ _ e4
    | ok q =>
    obtain ⟨c, u, r4⟩ := q
    dsimp only
    have l4 := ctxD_len hl e4
    cases e5 : takeT E 2 r4 with
    | error e => intro he; cases he
    | ok o =>
    obtain ⟨o5, r5⟩ := o
    have l5 := takeT_len e5
    dsimp only
    cases e6 : dp 1 u r5 with
    | error p => intro he; cases he; exact h _ _ _ (by omega) (by omega) _ _ e6
    | ok q =>
    obtain ⟨t, u2, r6⟩ := q
    dsimp only
    cases takeT E 2 r6 with
    | error e => intro he; cases he
    | ok o => intro he; cases he
  · intro he; cases he
theorem derP_no {deep nodes E N : Nat} (h1 : ∀ n : Nat, n ≤ N → withinB n deep = true) (h2 : ∀ n : Nat, n ≤ N → withinB n nodes = true) : ∀ f, DpN N (derP deep nodes E f)
  | 0 => fun d u ts _ _ k a h => by cases h
  | f + 1 => fun d u ts k1 k2 k a => by
    unfold derP
    cases e1 : takeT E 1 ts with
    | error e => intro he; cases he
    | ok o =>
      obtain ⟨o, r⟩ := o
      have l1 := takeT_len e1
      dsimp only
      rw [h1 d (by omega), h2 (u + 1) (by omega)]
      simp only [reduceCtorEq, if_false]
      exact ruleD_no (derP_len f) (derP_no h1 h2 f) (by omega) (by omega) k a
theorem parseB_no {s : List UInt8} {deep nodes N : Nat} (h1 : ∀ n : Nat, n ≤ N → withinB n deep = true) (h2 : ∀ n : Nat, n ≤ N → withinB n nodes = true) (hs : (ofL s).1.length ≤ N) (k a : Nat) : parseB s deep nodes ≠ .error (k + 1, a) := by
  unfold parseB
  cases hx : fileP (derP deep nodes (ofL s).2.1 ((ofL s).1.length + 1)) (ofL s).2.1 ((ofL s).1.length + 1) (ofL s).1 with
  | error p => intro he; cases he; exact fileP_no (derP_len _) (derP_no h1 h2 _) hs _ _ hx
  | ok q =>
    obtain ⟨x, r⟩ := q
    dsimp only
    split
    · intro he; cases he
    · intro he; cases he
end Go.Proofs.YtdhfbphliejcdaaDoor.Dv

namespace Go.Proofs.YtdhfbphliejcdaaDoor.Dv

theorem big_read : Ieee.double.read 4787326403894837248 = Fl.fi 1099511627776 := by kernel_rfl
theorem within_big {n : Int} (h0 : 0 ≤ n) (h : n ≤ 1099511627776) : withinB n 4787326403894837248 = true := by
  rw [withinB_eq, big_read]
  exact Fl.fi_mono (by omega) (by decide) h
theorem parseB_size {s : List UInt8} {deep nodes : Nat} {l : List Tm} {t : Tm} (h : parseB s deep nodes = .ok (l, t)) : sizes l + t.size ≤ s.length := by
  unfold parseB at h
  split at h; · cases h
  rename_i x r hx
  split at h; · cases h
  cases h
  obtain ⟨r3, u, r4, r5, u2, r6, h1, h2, h3, h4⟩ := fileP_inv hx
  have a1 := (ctxD_suc (derP_suc _) h1).1
  have b1 := (derP_suc _ _ _ _ _ _ _ h2).1
  have a2 := ctxD_len (derP_len _) h1
  have b2 := derP_len _ _ _ _ _ _ _ h2
  have := (ofL_bound s).1
  omega
theorem parse_big {s : List UInt8} (hs : s.length ≤ 3000) {p : PF} (h : parseB s 4787326403894837248 4787326403894837248 = .error p) : p.1 = 0 := by
  obtain ⟨k, a⟩ := p
  cases k with
  | zero => rfl
  | succ k => exact absurd h (parseB_no (N := 3000) (fun n hn => within_big (by omega) (by omega)) (fun n hn => within_big (by omega) (by omega)) (by have := (ofL_bound s).1; omega) k a)
end Go.Proofs.YtdhfbphliejcdaaDoor.Dv

namespace Go.Proofs.YtdhfbphliejcdaaDoor
open Go.RowKit

theorem lexL_inv {l : List UInt8} {p : Nat} {t : Tok} {r : List Tok} {o : Option Nat} (h : lexL l p = (t :: r, o)) : ∃ q k n, p + skipL (l.drop p) = q ∧ q < l.length ∧ nextL (l.drop q) = some (k, n) ∧ t = ⟨k, (l.drop q).take n, q⟩ ∧ lexL l (q + n) = (r, o) := by
  by_cases h1 : p + skipL (l.drop p) < l.length
  · cases hn : nextL (l.drop (p + skipL (l.drop p))) with
    | none => rw [lexL_fault rfl h1 hn] at h; cases h
    | some x =>
      obtain ⟨k, n⟩ := x
      rw [lexL_next rfl h1 hn] at h
      obtain ⟨h2, h3⟩ := Prod.mk.inj h
      obtain ⟨h4, h5⟩ := List.cons.inj h2
      exact ⟨_, k, n, rfl, h1, hn, h4.symm, Prod.ext h5 h3⟩
  · rw [lexL_end h1] at h; cases h
end Go.Proofs.YtdhfbphliejcdaaDoor

namespace Go.Proofs.YtdhfbphliejcdaaDoor

/-- Tokens of a text that stands m bytes further on. -/
def shB (m : Nat) (R : List Tok × Option Nat) : List Tok × Option Nat := (R.1.map (fun t => ⟨t.k, t.s, t.at_ + m⟩), R.2.map (· + m))
theorem lex_shift (pre l : List UInt8) : ∀ n p, l.length - p ≤ n → lexL (pre ++ l) (p + pre.length) = shB pre.length (lexL l p) := by
  intro n
  have dr : ∀ q, (pre ++ l).drop (q + pre.length) = l.drop q := fun q => by rw [Nat.add_comm, List.drop_append, List.drop_of_length_le (by omega), List.nil_append, Nat.add_sub_cancel_left]
  induction n with
  | zero =>
    intro p h
    rw [lexL_end (l := l) (p := p) (by omega), lexL_end (by rw [List.length_append]; omega)]
    rfl
  | succ n ih =>
    intro p h
    by_cases h1 : p + skipL (l.drop p) < l.length
    · obtain ⟨q, hq⟩ : ∃ q, p + skipL (l.drop p) = q := ⟨_, rfl⟩
      have hq2 : p + pre.length + skipL ((pre ++ l).drop (p + pre.length)) = q + pre.length := by rw [dr]; omega
      rw [hq] at h1
      have hlt : q + pre.length < (pre ++ l).length := by rw [List.length_append]; omega
      cases hn : nextL (l.drop q) with
      | none => rw [lexL_fault hq h1 hn, lexL_fault hq2 hlt (by rw [dr]; exact hn)]; rfl
      | some x =>
        obtain ⟨k, m⟩ := x
        have hrg := nextL_range hn
        rw [lexL_next hq h1 hn, lexL_next hq2 hlt (by rw [dr]; exact hn), dr, show q + pre.length + m = q + m + pre.length by omega, ih (q + m) (by omega)]
        rfl
    · rw [lexL_end h1, lexL_end (by rw [dr, List.length_append]; omega)]
      rfl

end Go.Proofs.YtdhfbphliejcdaaDoor

namespace Go.Proofs.YtdhfbphliejcdaaDoor

/-- What stands behind a token ends it. -/
def Stops (Y : List UInt8) : Prop := ∀ c r, Y = c :: r → wordC c = false
theorem wordC_no {c : UInt8} (h : wordC c = false) : letterC c = false ∧ isd c = false := by unfold wordC at h; simpa using h
theorem runL_cut {p : UInt8 → Bool} {Y : List UInt8} (hY : ∀ c r, Y = c :: r → p c = false) : ∀ X, runL p (X.take (runL p X) ++ Y) = runL p X
  | [] => by
    match Y, hY with
    | [], _ => rfl
    | c :: r, hY => exact runL_no (hY c r rfl)
  | c :: r => by
    by_cases h : p c = true
    · rw [runL_yes h, List.take_succ_cons, List.cons_append, runL_yes h, runL_cut hY r]
    · have h' : p c = false := by simpa using h
      rw [runL_no h', List.take_zero, List.nil_append]
      match Y, hY with
      | [], _ => rfl
      | c :: r, hY => exact runL_no (hY c r rfl)
/-- A token by itself: it is read again wherever something stands behind it that ends it. -/
def Solid (t : Tok) : Prop := ∀ Y, Stops Y → nextL (t.s ++ Y) = some (t.k, t.s.length) ∧ skipL (t.s ++ Y) = 0
theorem solid_of {X : List UInt8} {k n a : Nat} (h : nextL X = some (k, n)) : Solid ⟨k, X.take n, a⟩ := by
  intro Y hY
  match X, h with
  | [], h => cases h
  | c :: r, h =>
    show nextL ((c :: r).take n ++ Y) = some (k, ((c :: r).take n).length) ∧ skipL ((c :: r).take n ++ Y) = 0
    by_cases c1 : c.toNat = 40
    · rw [next_open c1] at h
      cases h
      exact ⟨next_open c1, skipL_stop (by unfold blankC; rw [c1]; rfl) (by omega)⟩
    by_cases c2 : c.toNat = 41
    · rw [next_close c2] at h
      cases h
      exact ⟨next_close c2, skipL_stop (by unfold blankC; rw [c2]; rfl) (by omega)⟩
    have hw := runL_cut (p := wordC) (Y := Y) (fun c r e => hY c r e) (c :: r)
    have hd := runL_cut (p := isd) (Y := Y) (fun c r e => (wordC_no (hY c r e)).2) (c :: r)
    have hlw := runL_le wordC (c :: r)
    have hld := runL_le isd (c :: r)
    by_cases c3 : letterC c = true
    · have hy : runL wordC (c :: r) = runL wordC r + 1 := runL_yes (by unfold wordC; rw [c3]; rfl)
      by_cases c4 : 20 < runL wordC (c :: r)
      · rw [next_long c1 c2 c3 c4] at h; cases h
      · rw [next_word c1 c2 c3 c4] at h
        cases h
        have hl : ((c :: r).take (runL wordC (c :: r))).length = runL wordC (c :: r) := by rw [List.length_take]; omega
        rw [hl]
        rw [hy, List.take_succ_cons, List.cons_append] at hw ⊢
        refine ⟨?_, skipL_stop ?_ ?_⟩
        · rw [next_word c1 c2 c3 (by omega), hw]
        · unfold letterC at c3
          unfold blankC
          have h2 : (97 ≤ c.toNat ∧ c.toNat ≤ 122) ∨ (65 ≤ c.toNat ∧ c.toNat ≤ 90) := by simpa using c3
          rw [beq_eq_false_iff_ne.2 (by omega : c.toNat ≠ 32), beq_eq_false_iff_ne.2 (by omega : c.toNat ≠ 9), beq_eq_false_iff_ne.2 (by omega : c.toNat ≠ 10)]; rfl
        · unfold letterC at c3
          have h2 : (97 ≤ c.toNat ∧ c.toNat ≤ 122) ∨ (65 ≤ c.toNat ∧ c.toNat ≤ 90) := by simpa using c3
          omega
    have c3' : letterC c = false := by simpa using c3
    by_cases c5 : isd c = true
    · have hy : runL isd (c :: r) = runL isd r + 1 := runL_yes c5
      by_cases c6 : getB ((c :: r).take (runL isd (c :: r))) = none ∨ ((((c :: r).drop (runL isd (c :: r))).head?.map letterC).getD false) = true
      · rw [next_bad c1 c2 c3' c5 c6] at h; cases h
      · rw [next_num c1 c2 c3' c5 c6] at h
        cases h
        have hl : ((c :: r).take (runL isd (c :: r))).length = runL isd (c :: r) := by rw [List.length_take]; omega
        have hg : getB ((c :: r).take (runL isd (c :: r))) ≠ none := fun e => c6 (Or.inl e)
        have ht : ((c :: r).take (runL isd (c :: r)) ++ Y).take (runL isd (c :: r)) = (c :: r).take (runL isd (c :: r)) := by
          conv => lhs; rw [List.take_append_of_le_length (by rw [hl]; exact Nat.le_refl _)]
          rw [List.take_take, Nat.min_self]
        have hdr : ((c :: r).take (runL isd (c :: r)) ++ Y).drop (runL isd (c :: r)) = Y := List.drop_left' hl
        have hY2 : (Y.head?.map letterC).getD false = false := by
          match Y, hY with
          | [], _ => rfl
          | d :: s, hY => exact (wordC_no (hY d s rfl)).1
        rw [hl]
        generalize hX : (c :: r).take (runL isd (c :: r)) = X at *
        have hX2 : X = c :: r.take (runL isd r) := by rw [← hX, hy, List.take_succ_cons]
        rw [hX2, List.cons_append] at hd ht hdr ⊢
        refine ⟨?_, skipL_stop ?_ ?_⟩
        · rw [next_num c1 c2 c3' c5 (by rw [hd, ht, hdr, hY2, ← hX2]; rintro (e | e); exact hg e; cases e), hd]
        · unfold isd at c5
          have h2 : 48 ≤ c.toNat ∧ c.toNat ≤ 57 := by simpa using c5
          unfold blankC
          rw [beq_eq_false_iff_ne.2 (by omega : c.toNat ≠ 32), beq_eq_false_iff_ne.2 (by omega : c.toNat ≠ 9), beq_eq_false_iff_ne.2 (by omega : c.toNat ≠ 10)]; rfl
        · unfold isd at c5
          have h2 : 48 ≤ c.toNat ∧ c.toNat ≤ 57 := by simpa using c5
          omega
    · rw [next_other c1 c2 c3' (by simpa using c5)] at h; cases h
theorem solid_all {l : List UInt8} {o : Option Nat} : ∀ (ts : List Tok) (p : Nat), lexL l p = (ts, o) → ∀ t ∈ ts, Solid t
  | [], _, _, _, h => by cases h
  | t :: r, p, h, x, hx => by
    obtain ⟨q, k, n, -, hq, hn, rfl, hr⟩ := lexL_inv h
    rcases List.mem_cons.1 hx with rfl | hx
    · exact solid_of hn
    · exact solid_all r _ hr x hx

end Go.Proofs.YtdhfbphliejcdaaDoor

namespace Go.Proofs.YtdhfbphliejcdaaDoor.Dv

inductive Ak : List Tok → List Tok → Prop
  | nil : Ak [] []
  | cons {t u : Tok} {r q : List Tok} : t.k = u.k → t.s = u.s → Ak r q → Ak (t :: r) (u :: q)
theorem Ak.length {r q : List Tok} (h : Ak r q) : r.length = q.length := by
  induction h with
  | nil => rfl
  | cons _ _ _ ih => simp [ih]
theorem ak_of : ∀ {r q : List Tok}, q.map (fun t => (t.k, t.s)) = r.map (fun t => (t.k, t.s)) → Ak r q
  | [], [], _ => .nil
  | [], u :: q, h => by simp at h
  | t :: r, [], h => by simp at h
  | t :: r, u :: q, h => by
    simp only [List.map_cons, List.cons.injEq, Prod.mk.injEq] at h
    exact .cons h.1.1.symm h.1.2.symm (ak_of h.2)
inductive Ra {α : Type} : Except PF (α × Nat × List Tok) → Except PF (α × Nat × List Tok) → Prop
  | ok {a : α} {n : Nat} {r q : List Tok} : Ak r q → Ra (.ok (a, n, r)) (.ok (a, n, q))
  | err {k a b : Nat} : Ra (.error (k, a)) (.error (k, b))
inductive Rb {α : Type} : Except PF (α × List Tok) → Except PF (α × List Tok) → Prop
  | ok {a : α} {r q : List Tok} : Ak r q → Rb (.ok (a, r)) (.ok (a, q))
  | err {k a b : Nat} : Rb (.error (k, a)) (.error (k, b))
inductive Rt : Except Nat (Tok × List Tok) → Except Nat (Tok × List Tok) → Prop
  | ok {t u : Tok} {r q : List Tok} : t.s = u.s → Ak r q → Rt (.ok (t, r)) (.ok (u, q))
  | err {a b : Nat} : Rt (.error a) (.error b)
inductive Rp : Except PF (List Tm × Tm) → Except PF (List Tm × Tm) → Prop
  | ok (x : List Tm × Tm) : Rp (.ok x) (.ok x)
  | err (k a b : Nat) : Rp (.error (k, a)) (.error (k, b))
theorem take_ak {E F k : Nat} {ts us : List Tok} (h : Ak ts us) : Rt (takeT E k ts) (takeT F k us) := by
  cases h with
  | nil => exact .err
  | cons h1 h2 h3 =>
    simp only [takeT, h1]
    split
    · exact .ok h2 h3
    · exact .err
def DpA (dp dq : DP) : Prop := ∀ d u ts us, Ak ts us → Ra (dp d u ts) (dq d u us)
theorem kidsD_ak {dp dq : DP} (h : DpA dp dq) {d : Nat} : ∀ {c u : Nat} {ts us : List Tok}, Ak ts us → Ra (kidsD dp d c u ts) (kidsD dq d c u us)
  | 0, u, ts, us, hk => .ok hk
  | c + 1, u, ts, us, hk => by
    unfold kidsD
    have hr := h d u _ _ hk
    generalize dp d u ts = x at hr
    generalize dq d u us = y at hr
    cases hr with
    | err => exact .err
    | @ok a n r q hk2 =>
      have hr := kidsD_ak h (d := d) (c := c) (u := n) hk2
      dsimp only
      generalize kidsD dp d c n r = x at hr
      generalize kidsD dq d c n q = y at hr
      cases hr with
      | err => exact .err
      | ok hk3 => exact .ok hk3
theorem numD_ak {E F : Nat} {k : Int} {ts us : List Tok} (hk : Ak ts us) : Rb (numD E k ts) (numD F k us) := by
  unfold numD
  split
  · have hr := take_ak (E := E) (F := F) (k := 4) hk
    generalize takeT E 4 ts = x at hr
    generalize takeT F 4 us = y at hr
    cases hr with
    | err => exact .err
    | ok hs hk2 => dsimp only; rw [hs]; exact .ok hk2
  · exact .ok hk
theorem ruleD_ak {dp dq : DP} (h : DpA dp dq) {E F d u : Nat} {ts us : List Tok} (hk : Ak ts us) : Ra (ruleD dp E d u ts) (ruleD dq F d u us) := by
  unfold ruleD
  have hr := take_ak (E := E) (F := F) (k := 3) hk
  generalize takeT E 3 ts = x at hr
  generalize takeT F 3 us = y at hr
  cases hr with
  | err => exact .err
  | @ok t v r q hs hk2 =>
    dsimp only
    rw [hs]
    split
    · exact .err
    · have hr := numD_ak (E := E) (F := F) (k := ruleN v.s) hk2
      generalize numD E (ruleN v.s) r = x at hr
      generalize numD F (ruleN v.s) q = y at hr
      cases hr with
      | err => exact .err
      | @ok n r2 q2 hk3 =>
        dsimp only
        have hr := kidsD_ak h (d := d + 1) (c := (dkidsN (ruleN v.s)).toNat) (u := u + 1) hk3
        generalize kidsD dp (d + 1) (dkidsN (ruleN v.s)).toNat (u + 1) r2 = x at hr
        generalize kidsD dq (d + 1) (dkidsN (ruleN v.s)).toNat (u + 1) q2 = y at hr
        cases hr with
        | err => exact .err
        | @ok l u2 r3 q3 hk4 =>
          dsimp only
          have hr := take_ak (E := E) (F := F) (k := 2) hk4
          generalize takeT E 2 r3 = x at hr
          generalize takeT F 2 q3 = y at hr
          cases hr with
          | err => exact .err
          | ok _ hk5 => exact .ok hk5
theorem derP_ak {deep nodes E F : Nat} : ∀ f, DpA (derP deep nodes E f) (derP deep nodes F f)
  | 0 => fun d u ts us hk => .err
  | f + 1 => fun d u ts us hk => by
    unfold derP
    have hr := take_ak (E := E) (F := F) (k := 1) hk
    generalize takeT E 1 ts = x at hr
    generalize takeT F 1 us = y at hr
    cases hr with
    | err => exact .err
    | ok _ hk2 =>
      dsimp only
      split
      · exact .err
      · split
        · exact .err
        · exact ruleD_ak (derP_ak f) hk2
theorem head_ak {ts us : List Tok} (h : Ak ts us) : (ts.head?.map fun t => t.k == 2) = us.head?.map fun t => t.k == 2 := by
  cases h with
  | nil => rfl
  | cons h1 _ _ => simp [h1]
theorem ctxD_ak {dp dq : DP} (h : DpA dp dq) {E F : Nat} : ∀ {f u : Nat} {ts us : List Tok}, Ak ts us → Ra (ctxD dp E f u ts) (ctxD dq F f u us)
  | 0, u, ts, us, hk => .err
  | f + 1, u, ts, us, hk => by
    unfold ctxD
    rw [head_ak hk]
    split
    · exact .ok hk
    · have hr := h 1 u _ _ hk
      generalize dp 1 u ts = x at hr
      generalize dq 1 u us = y at hr
      cases hr with
      | err => exact .err
      | @ok a n r q hk2 =>
        have hr := ctxD_ak h (E := E) (F := F) (f := f) (u := n) hk2
        dsimp only
        generalize ctxD dp E f n r = x at hr
        generalize ctxD dq F f n q = y at hr
        cases hr with
        | err => exact .err
        | ok hk3 => exact .ok hk3
theorem fileP_ak {dp dq : DP} (h : DpA dp dq) {E F f : Nat} {ts us : List Tok} (hk : Ak ts us) : Rb (fileP dp E f ts) (fileP dq F f us) := by
  unfold fileP
  have hr := take_ak (E := E) (F := F) (k := 1) hk
  generalize takeT E 1 ts = x at hr
  generalize takeT F 1 us = y at hr
  cases hr with
  | err => exact .err
  | @ok t v r q hs hk =>
  dsimp only
  have hr := take_ak (E := E) (F := F) (k := 3) hk
  generalize takeT E 3 r = x at hr
  generalize takeT F 3 q = y at hr
  cases hr with
  | err => exact .err
  | @ok t v r q hs hk =>
  dsimp only
  rw [hs]
  split
  · have hr := take_ak (E := E) (F := F) (k := 1) hk
    generalize takeT E 1 r = x at hr
    generalize takeT F 1 q = y at hr
    cases hr with
    | err => exact .err
    | @ok t v r q hs hk =>
    dsimp only
    have hr := ctxD_ak h (E := E) (F := F) (f := f) (u := 0) hk
    generalize ctxD dp E f 0 r = x at hr
    generalize ctxD dq F f 0 q = y at hr
    cases hr with
    | err => exact .err
    | @ok c u r q hk =>
    dsimp only
    have hr := take_ak (E := E) (F := F) (k := 2) hk
    generalize takeT E 2 r = x at hr
    generalize takeT F 2 q = y at hr
    cases hr with
    | err => exact .err
    | @ok t v r q hs hk =>
    dsimp only
    have hr := h 1 u _ _ hk
    generalize dp 1 u r = x at hr
    generalize dq 1 u q = y at hr
    cases hr with
    | err => exact .err
    | @ok a u2 r q hk =>
    dsimp only
    have hr := take_ak (E := E) (F := F) (k := 2) hk
    generalize takeT E 2 r = x at hr
    generalize takeT F 2 q = y at hr
    cases hr with
    | err => exact .err
    | ok hs hk => exact .ok hk
  · exact .err
end Go.Proofs.YtdhfbphliejcdaaDoor.Dv

namespace Go.Proofs.YtdhfbphliejcdaaDoor
open Go.RowKit Go.Maps Go.ChangeShapes

theorem TxLies.up {B B' : Nat} {w : World} {l : Names} {v : Value} (h : TxLies B w l v) (hB : B ≤ B') : TxLies B' w l v := by
  obtain ⟨a, c, e1, e2, e3, e4⟩ := h
  exact ⟨a, c, e1, e2, e3, fun q hq => by obtain ⟨g, o, h1, h2, h3⟩ := e4 q hq; exact ⟨g, o, h1, by omega, h3⟩⟩
end Go.Proofs.YtdhfbphliejcdaaDoor

namespace Go.Proofs.YtdhfbphliejcdaaDoor

def Lk (a b : List Tok) : Prop := a.map (fun t => (t.k, t.s)) = b.map (fun t => (t.k, t.s))
theorem Lk.nil {b : List Tok} (h : Lk [] b) : b = [] := by unfold Lk at h; simpa using h.symm
theorem Lk.cons {t : Tok} {r b : List Tok} (h : Lk (t :: r) b) : ∃ t1 r1, b = t1 :: r1 ∧ t1.k = t.k ∧ t1.s = t.s ∧ Lk r r1 := by
  cases b with
  | nil => unfold Lk at h; simp at h
  | cons t1 r1 =>
    unfold Lk at h
    simp only [List.map_cons, List.cons.injEq, Prod.mk.injEq] at h
    exact ⟨t1, r1, rfl, h.1.1.symm, h.1.2.symm, h.2⟩
end Go.Proofs.YtdhfbphliejcdaaDoor

namespace Go.Proofs.YtdhfbphliejcdaaDoor

theorem Lk.refl (ts : List Tok) : Lk ts ts := rfl
end Go.Proofs.YtdhfbphliejcdaaDoor

namespace Go.Proofs.YtdhfbphliejcdaaDoor
open Go.Lib

/-- The words of a whole text, without their places. -/
def LX (l : List UInt8) (ps : List (Nat × List UInt8)) : Prop := ∃ ts, lexL l 0 = (ts, none) ∧ ts.map (fun t => (t.k, t.s)) = ps
theorem LX.nil : LX [] [] := ⟨[], lexL_end (by simp), rfl⟩
theorem LX.blank {Y : List UInt8} {ps : List (Nat × List UInt8)} (h : LX Y ps) : LX (32 :: Y) ps := by
  obtain ⟨ts, h1, h2⟩ := h
  have h3 := lex_shift [32] Y _ 0 (Nat.le_refl _)
  rw [h1] at h3
  have h4 : lexL (32 :: Y) 0 = lexL (32 :: Y) 1 := lexL_same (by
    rw [List.drop_zero, skipL_blank (by decide)]
    show 0 + (skipL Y + 1) = 1 + skipL Y
    omega)
  exact ⟨_, h4.trans h3, by rw [← h2]; simp⟩
theorem LX.tok {k : Nat} {s Y : List UInt8} {ps : List (Nat × List UInt8)} (ht : Solid ⟨k, s, 0⟩) (hY : Stops Y) (h : LX Y ps) : LX (s ++ Y) ((k, s) :: ps) := by
  obtain ⟨ts, h1, h2⟩ := h
  obtain ⟨n1, n2⟩ := ht Y hY
  simp only at n1 n2
  have hr := nextL_range n1
  have hx := lex_shift s Y _ 0 (Nat.le_refl _)
  rw [h1] at hx
  have h5 := lexL_next (l := s ++ Y) (p := 0) (q := 0) (k := k) (n := s.length) (by rw [List.drop_zero, n2]) (by simp at hr ⊢; omega) (by rw [List.drop_zero]; exact n1)
  rw [hx] at h5
  exact ⟨_, h5, by rw [← h2]; simp [shB]⟩
theorem runL_all {p : UInt8 → Bool} : ∀ {l : List UInt8}, l.all p = true → runL p l = l.length
  | [], _ => rfl
  | c :: r, h => by
    rw [List.all_cons, Bool.and_eq_true] at h
    rw [runL_yes h.1, runL_all h.2]
    rfl
theorem letter_not {c : UInt8} (h : letterC c = true) : ¬ c.toNat = 40 ∧ ¬ c.toNat = 41 ∧ ¬ c.toNat = 32 := by
  unfold letterC at h
  simp only [Bool.or_eq_true, Bool.and_eq_true, decide_eq_true_eq] at h
  omega
theorem digit_not {c : UInt8} (h : isd c = true) : ¬ c.toNat = 40 ∧ ¬ c.toNat = 41 ∧ letterC c = false := by
  unfold isd at h
  simp only [Bool.and_eq_true, decide_eq_true_eq] at h
  refine ⟨by omega, by omega, ?_⟩
  unfold letterC
  rw [decide_eq_false (by omega : ¬ 97 ≤ c.toNat), decide_eq_false (by omega : ¬ 65 ≤ c.toNat)]
  rfl
theorem sol_word {c : UInt8} {r : List UInt8} (h1 : letterC c = true) (h2 : r.all wordC = true) (h3 : r.length < 20) : Solid ⟨3, c :: r, 0⟩ := by
  obtain ⟨n1, n2, -⟩ := letter_not h1
  have hl : runL wordC (c :: r) = (c :: r).length := runL_all (by rw [List.all_cons, h2]; unfold wordC; rw [h1]; rfl)
  have hn := next_word (r := r) n1 n2 h1 (by rw [hl]; simp; omega)
  have h := solid_of (a := 0) hn
  rw [hl, List.take_length] at h
  exact h
theorem sol_num {n : Int} (h0 : 0 ≤ n) (h1 : n ≤ 1000000) : Solid ⟨4, itoa n, 0⟩ := by
  have hg : getB (itoa n) = some n.toNat := by rw [get_itoa, if_pos ⟨h0, h1⟩]
  have hd : digs (itoa n) = true := by
    unfold itoa
    rw [if_neg (by omega)]
    exact dec_digs _
  have hne : itoa n ≠ [] := by
    intro e
    rw [e] at hg
    have := congrArg getB e
    unfold itoa at e
    rw [if_neg (by omega)] at e
    obtain ⟨c, l, h, -⟩ := dec_head n.toNat
    rw [h] at e
    cases e
  generalize itoa n = x at hg hd hne
  match x, hne with
  | c :: r, _ =>
    have hl : runL isd (c :: r) = (c :: r).length := runL_all hd
    have hc : isd c = true := by
      unfold digs at hd
      rw [List.all_cons, Bool.and_eq_true] at hd
      exact hd.1
    obtain ⟨n1, n2, n3⟩ := digit_not hc
    have hn := next_num (r := r) n1 n2 n3 hc (by
      rw [hl, List.take_length, List.drop_length, hg]
      rintro (e | e) <;> cases e)
    have h := solid_of (a := 0) hn
    rw [hl, List.take_length] at h
    exact h
theorem stops_nil : Stops [] := fun c r e => by cases e
theorem stops_32 (Y : List UInt8) : Stops (32 :: Y) := fun c r e => by cases e; decide
theorem LX.open_ {Y : List UInt8} {ps : List (Nat × List UInt8)} (h : LX Y ps) : LX (40 :: Y) ((1, [40]) :: ps) := by
  obtain ⟨ts, h1, h2⟩ := h
  have hx := lex_shift [40] Y _ 0 (Nat.le_refl _)
  rw [h1] at hx
  have h5 := lexL_next (l := 40 :: Y) (p := 0) (q := 0) (k := 1) (n := 1) (by rw [List.drop_zero, skipL_stop (by decide) (by decide)]) (by simp) (by rw [List.drop_zero]; exact next_open (by decide))
  rw [show lexL (40 :: Y) (0 + 1) = shB 1 (ts, none) from hx] at h5
  exact ⟨_, h5, by rw [← h2]; simp [shB]⟩
theorem LX.close {Y : List UInt8} {ps : List (Nat × List UInt8)} (h : LX Y ps) : LX (41 :: Y) ((2, [41]) :: ps) := by
  obtain ⟨ts, h1, h2⟩ := h
  have hx := lex_shift [41] Y _ 0 (Nat.le_refl _)
  rw [h1] at hx
  have h5 := lexL_next (l := 41 :: Y) (p := 0) (q := 0) (k := 2) (n := 1) (by rw [List.drop_zero, skipL_stop (by decide) (by decide)]) (by simp) (by rw [List.drop_zero]; exact next_close (by decide))
  rw [show lexL (41 :: Y) (0 + 1) = shB 1 (ts, none) from hx] at h5
  exact ⟨_, h5, by rw [← h2]; simp [shB]⟩
def tk (p : Nat × List UInt8) : Tok := ⟨p.1, p.2, 0⟩
end Go.Proofs.YtdhfbphliejcdaaDoor

namespace Go.Proofs.YtdhfbphliejcdaaDoor
open Go.Lib

mutual
/-- The text of a term in a scope of m names. -/
def Tm.wr : Tm → Int → List UInt8
  | .mk k i j n l, m => if k = 2 then nameW (m - 1 - i) else 40 :: (headL k ++ (frontL k i j n m ++ (wrs k 0 l m ++ [41])))
def wrs (k : Int) : Nat → List Tm → Int → List UInt8
  | _, [], _ => []
  | p, t :: r, m => midL k p m ++ (32 :: (t.wr (m + bindsN k p) ++ wrs k (p + 1) r m))
end
/-- Behind a word: nothing, a blank or a closing bracket. -/
def DelW (r : List UInt8) : Prop := ∀ c, r.head? = some c → c = 32 ∨ c = 41
theorem del_32 (r : List UInt8) : DelW (32 :: r) := fun c h => Or.inl (by simpa using h.symm)
theorem del_41 (r : List UInt8) : DelW (41 :: r) := fun c h => Or.inr (by simpa using h.symm)
def plainW (x : List UInt8) : Bool := x.all (fun c => c != 32 && c != 41)
end Go.Proofs.YtdhfbphliejcdaaDoor

namespace Go.Proofs.YtdhfbphliejcdaaDoor.Dv
open Go.Lib

def wordL (k : Int) : List UInt8 := (wordN k).data.toList
def numL (k i : Int) : List UInt8 := if k = 1 ∨ k = 2 then 32 :: itoa i else []
mutual
/-- The text of a derivation. -/
def Tm.sh : Tm → List UInt8
  | .mk k i l => 40 :: (wordL k ++ (numL k i ++ (shs l ++ [41])))
def shs : List Tm → List UInt8
  | [] => []
  | t :: r => 32 :: (t.sh ++ shs r)
end
theorem Tm.sh_eq (t : Tm) : t.sh = 40 :: (wordL t.k ++ (numL t.k t.i ++ (shs t.kids ++ [41]))) := by cases t; rw [Tm.sh]; rfl
def ctxL : List Tm → List UInt8
  | [] => []
  | t :: r => t.sh ++ shs r
/-- The text of a file. -/
def fileL (c : List Tm) (t : Tm) : List UInt8 := 40 :: (fileW ++ (32 :: 40 :: (ctxL c ++ (41 :: 32 :: (t.sh ++ [41, 10])))))
theorem shs_append : ∀ a b : List Tm, shs (a ++ b) = shs a ++ shs b
  | [], b => by simp [shs]
  | t :: r, b => by rw [List.cons_append, shs, shs, shs_append r b]; simp
theorem words_read : ∀ a < 28, ruleN (wordL ((a : Nat) + 1 : Int)) = (a : Nat) + 1 ∧ ∃ c r, wordL ((a : Nat) + 1 : Int) = c :: r ∧ letterC c = true ∧ r.all wordC = true ∧ r.length < 7 := by
  intro a ha
  match a, ha with
  | n + 28, h => omega
  | 0, _ | 1, _ | 2, _ | 3, _ | 4, _ | 5, _ | 6, _ | 7, _ | 8, _ | 9, _ | 10, _ | 11, _ | 12, _ | 13, _ | 14, _ | 15, _ | 16, _ | 17, _ | 18, _ | 19, _ | 20, _ | 21, _ | 22, _ | 23, _ | 24, _ | 25, _ | 26, _ | 27, _ => exact ⟨by kernel_rfl, _, _, rfl, by decide, by decide, by decide⟩
theorem word_read {k : Int} (h : 1 ≤ k ∧ k ≤ 28) : ruleN (wordL k) = k ∧ Solid ⟨3, wordL k, 0⟩ ∧ (wordL k).length ≤ 7 ∧ plainW (wordL k) = true := by
  obtain ⟨a, rfl⟩ : ∃ a : Nat, k = (a : Int) + 1 := ⟨(k - 1).toNat, by omega⟩
  obtain ⟨h1, c, r, h2, h3, h4, h5⟩ := words_read a (by omega)
  refine ⟨h1, ?_, ?_, ?_⟩
  · rw [h2]; exact sol_word h3 h4 (by omega)
  · rw [h2]; simp only [List.length_cons]; omega
  · rw [h2]
    unfold plainW
    rw [List.all_eq_true]
    intro x hx
    have hw : wordC x = true := by
      rcases List.mem_cons.1 hx with rfl | hx
      · unfold wordC; rw [h3]; rfl
      · exact (List.all_eq_true.1 h4) x hx
    have n1 : x ≠ 32 := fun e => by rw [e] at hw; revert hw; decide
    have n2 : x ≠ 41 := fun e => by rw [e] at hw; revert hw; decide
    simp [n1, n2]
theorem dright_of {t : Tm} (h : t.rightB = true) : (1 ≤ t.k ∧ t.k ≤ 28) ∧ (t.kids.length : Int) = dkidsN t.k ∧ 0 ≤ t.i ∧ t.i ≤ mostN t.k ∧ rights t.kids = true := by
  rw [t.rightB_eq, Bool.and_eq_true] at h
  obtain ⟨h1, h2⟩ := h
  unfold nodeOk at h1
  simp only [Bool.and_eq_true, decide_eq_true_eq, beq_iff_eq] at h1
  refine ⟨?_, h1.1.1.2, h1.1.2, h1.2, h2⟩
  by_cases hk : 1 ≤ t.k ∧ t.k ≤ 28
  · exact hk
  · have := out_kids hk
    omega
theorem rights_mem : ∀ {l : List Tm}, rights l = true → ∀ x ∈ l, x.rightB = true
  | [], _, x, hx => by cases hx
  | t :: r, h, x, hx => by
    simp only [rights, Bool.and_eq_true] at h
    rcases List.mem_cons.1 hx with rfl | hx
    · exact h.1
    · exact rights_mem h.2 x hx
theorem most_num {k i : Int} (h : i ≤ mostN k) : i ≤ 1000000 ∧ (¬ (k = 1 ∨ k = 2) → i ≤ 0) := by
  unfold mostN at h
  split at h
  · exact ⟨h, fun hn => absurd (by assumption) hn⟩
  · exact ⟨by omega, fun _ => h⟩
theorem shs_del : ∀ (l : List Tm) (r : List UInt8), DelW (shs l ++ 41 :: r)
  | [], _ => del_41 _
  | _ :: _, _ => del_32 _
theorem num_del {k i : Int} {r : List UInt8} (h : DelW r) : DelW (numL k i ++ r) := by
  unfold numL
  split
  · exact del_32 _
  · exact h
/-- How long a text is. -/
theorem shs_len : ∀ (l : List Tm), (∀ x ∈ l, (x.sh).length + 1 ≤ 32 * x.size) → (shs l).length ≤ 32 * sizes l
  | [], _ => by simp [shs]
  | x :: r, h => by
    have h1 := h x List.mem_cons_self
    have h2 := shs_len r (fun y hy => h y (List.mem_cons_of_mem _ hy))
    simp only [shs, sizes, List.length_cons, List.length_append]
    omega
theorem sh_len (t : Tm) : t.rightB = true → (t.sh).length + 1 ≤ 32 * t.size := by
  induction t using Tm.ind with
  | h t ih =>
    intro h
    obtain ⟨k1, -, i0, i1, r⟩ := dright_of h
    have hi := most_num i1
    have a := itoa_length_le t.i (by omega) (by omega)
    have b := (word_read k1).2.2.1
    have c := shs_len t.kids (fun x hx => ih x hx (rights_mem r x hx))
    have d : (numL t.k t.i).length ≤ 22 := by
      unfold numL
      split
      · simp only [List.length_cons]; omega
      · simp
    rw [Tm.sh_eq, Tm.size_eq]
    simp only [List.length_cons, List.length_append, List.length_nil]
    omega
theorem ctx_len {l : List Tm} (h : rights l = true) : (ctxL l).length ≤ 32 * sizes l := by
  cases l with
  | nil => simp [ctxL]
  | cons t r =>
    simp only [rights, Bool.and_eq_true] at h
    have h1 := sh_len t h.1
    have h2 := shs_len r (fun x hx => sh_len x (rights_mem h.2 x hx))
    simp only [ctxL, sizes, List.length_append]
    omega

abbrev PS := List (Nat × List UInt8)
mutual
/-- The words of a derivation's text. -/
def Tm.sp : Tm → PS
  | .mk k i l => (1, [40]) :: (3, wordL k) :: ((if k = 1 ∨ k = 2 then [(4, itoa i)] else []) ++ (sps l ++ [(2, [41])]))
def sps : List Tm → PS
  | [] => []
  | t :: r => t.sp ++ sps r
end
theorem Tm.sp_eq (t : Tm) : t.sp = (1, [40]) :: (3, wordL t.k) :: ((if t.k = 1 ∨ t.k = 2 then [(4, itoa t.i)] else []) ++ (sps t.kids ++ [(2, [41])])) := by cases t; rw [Tm.sp]; rfl
def filePs (c : List Tm) (t : Tm) : PS := (1, [40]) :: (3, fileW) :: (1, [40]) :: (sps c ++ ((2, [41]) :: (t.sp ++ [(2, [41])])))
theorem dstops {Y : List UInt8} (h : DelW Y) : Stops Y := fun c r e => by
  rcases h c (by rw [e]; rfl) with rfl | rfl <;> decide
theorem shs_lx : ∀ (l : List Tm), (∀ x ∈ l, ∀ (Y : List UInt8) (ps : PS), DelW Y → LX Y ps → LX (x.sh ++ Y) (x.sp ++ ps)) →
    ∀ (Y : List UInt8) (ps : PS), LX Y ps → LX (shs l ++ 41 :: Y) (sps l ++ (2, [41]) :: ps)
  | [], _, Y, ps, hx => by
    simp only [shs, sps, List.nil_append]
    exact LX.close hx
  | t :: r, ih, Y, ps, hx => by
    have h1 := shs_lx r (fun x hx => ih x (List.mem_cons_of_mem _ hx)) Y ps hx
    simp only [shs, sps, List.append_assoc, List.cons_append]
    exact LX.blank (ih t List.mem_cons_self _ _ (shs_del r Y) h1)
/-- A right derivation's text has these words. -/
theorem sh_lx (t : Tm) : t.rightB = true → ∀ (Y : List UInt8) (ps : PS), DelW Y → LX Y ps → LX (t.sh ++ Y) (t.sp ++ ps) := by
  induction t using Tm.ind with
  | h t ih =>
    intro hr Y ps hY hx
    obtain ⟨k1, -, i0, i1, r⟩ := dright_of hr
    have hi := most_num i1
    rw [Tm.sh_eq, Tm.sp_eq]
    have h3 := shs_lx t.kids (fun x hx Y ps h1 h2 => ih x hx (rights_mem r x hx) Y ps h1 h2) Y ps hx
    simp only [List.cons_append, List.append_assoc, List.nil_append]
    refine LX.open_ (LX.tok (word_read k1).2.1 (dstops (num_del (shs_del _ _))) ?_)
    unfold numL
    split
    · exact LX.blank (LX.tok (sol_num i0 hi.1) (dstops (shs_del _ _)) h3)
    · exact h3
theorem LX.line : LX [10] [] := ⟨[], lexL_end (by
  rw [List.drop_zero, skipL_blank (by decide), skipL_nil]
  simp), rfl⟩
theorem file_solid : Solid ⟨3, fileW, 0⟩ := sol_word (by decide) (by decide) (by decide)
theorem file_lx {c : List Tm} {t : Tm} (hc : rights c = true) (ht : t.rightB = true) : LX (fileL c t) (filePs c t) := by
  unfold fileL filePs
  refine LX.open_ (LX.tok file_solid (stops_32 _) (LX.blank (LX.open_ ?_)))
  have h1 : LX (32 :: (t.sh ++ [41, 10])) (t.sp ++ [(2, [41])]) := LX.blank (sh_lx t ht _ _ (del_41 _) (LX.close LX.line))
  have key : ∀ l : List Tm, rights l = true → LX (shs l ++ 41 :: (32 :: (t.sh ++ [41, 10]))) (sps l ++ (2, [41]) :: (t.sp ++ [(2, [41])])) := fun l hl => shs_lx l (fun x hx Y ps a b => sh_lx x (rights_mem hl x hx) Y ps a b) _ _ h1
  cases c with
  | nil => exact key [] rfl
  | cons x r =>
    simp only [rights, Bool.and_eq_true] at hc
    simp only [ctxL, sps, List.append_assoc]
    exact sh_lx x hc.1 _ _ (shs_del _ _) (key r hc.2)

def tkz (p : Nat × List UInt8) : Tok := ⟨p.1, p.2, 0⟩
theorem kids_back {dp : DP} {d U : Nat} : ∀ (l : List Tm) (u : Nat) (r : List Tok), (∀ x ∈ l, ∀ u r, u + x.size ≤ U → dp d u ((x.sp).map tkz ++ r) = .ok (x, u + x.size, r)) → u + sizes l ≤ U → kidsD dp d l.length u ((sps l).map tkz ++ r) = .ok (l, u + sizes l, r)
  | [], u, r, _, _ => by simp [kidsD, sps, sizes]
  | t :: l, u, r, h, hU => by
    simp only [sizes] at hU
    rw [List.length_cons]
    unfold kidsD
    simp only [sps, List.map_append, List.append_assoc]
    rw [h t List.mem_cons_self _ _ (by omega)]
    dsimp only
    rw [kids_back l (u + t.size) r (fun x hx => h x (List.mem_cons_of_mem _ hx)) (by omega)]
    simp only [sizes]
    rw [show u + t.size + sizes l = u + (t.size + sizes l) by omega]
theorem shsize_mem : ∀ {l : List Tm} {x : Tm}, x ∈ l → x.size ≤ sizes l
  | [], x, h => by cases h
  | t :: r, x, h => by
    simp only [sizes]
    rcases List.mem_cons.1 h with rfl | h
    · omega
    · have := shsize_mem h; omega
/-- Read back with any words behind. -/
theorem sp_back {deep nodes E : Nat} (h1 : ∀ n : Nat, withinB (n : Nat) deep = true ∨ 1000000 < n) (h2 : ∀ n : Nat, withinB (n : Nat) nodes = true ∨ 1000000 < n) (t : Tm) : t.rightB = true → ∀ (f d u : Nat) (r : List Tok), t.size ≤ f → d + t.size ≤ 1000000 → u + t.size ≤ 1000000 → derP deep nodes E f d u ((t.sp).map tkz ++ r) = .ok (t, u + t.size, r) := by
  induction t using Tm.ind with
  | h t ih =>
    intro hr f d u r hf hd hu
    obtain ⟨k1, hl, i0, i1, hk⟩ := dright_of hr
    have hi := most_num i1
    have hs := t.size_eq
    match f, hf with
    | 0, hf => omega
    | f + 1, hf =>
    rw [Tm.sp_eq]
    have w1 : withinB d deep = true := (h1 d).resolve_right (by omega)
    have w2 : withinB (u + 1 : Nat) nodes = true := (h2 (u + 1)).resolve_right (by omega)
    unfold derP
    simp only [List.map_cons, List.cons_append, tkz, takeT, if_true, w1, w2, reduceCtorEq, if_false]
    unfold ruleD
    simp only [takeT, if_true, (word_read k1).1]
    rw [if_neg (by omega)]
    have hn : numD E t.k (((if t.k = 1 ∨ t.k = 2 then [(4, itoa t.i)] else []) ++ (sps t.kids ++ [(2, [41])])).map tkz ++ r) = .ok (t.i, (sps t.kids).map tkz ++ (tkz (2, [41]) :: r)) := by
      unfold numD
      by_cases hn : t.k = 1 ∨ t.k = 2
      · rw [if_pos hn, if_pos hn]
        simp only [List.map_append, List.map_cons, List.map_nil, List.cons_append, List.nil_append, tkz, takeT, if_true, List.append_assoc]
        rw [get_itoa, if_pos ⟨i0, hi.1⟩]
        simp only [Option.getD_some]
        rw [Int.toNat_of_nonneg i0]
      · rw [if_neg hn, if_neg hn]
        have := hi.2 hn
        rw [show t.i = 0 by omega]
        simp [List.map_append]
    have hn' := hn
    simp only [tkz] at hn'
    rw [hn']
    dsimp only
    rw [← hl, Int.toNat_natCast]
    have hb := kids_back (dp := derP deep nodes E f) (d := d + 1) (U := 1000000) t.kids (u + 1) (tkz (2, [41]) :: r) (fun x hx u' r' hu' => by
      have := shsize_mem hx
      exact ih x hx (rights_mem hk x hx) f (d + 1) u' r' (by omega) (by omega) hu') (by omega)
    simp only [tkz] at hb
    rw [hb]
    simp only [if_true]
    rw [t.eta, hs]
    rw [show u + 1 + sizes t.kids = u + (sizes t.kids + 1) by omega]
theorem ctx_back {dp : DP} {U E : Nat} (hne : ∀ (x : Tm), ∃ s p, x.sp = (1, s) :: p) : ∀ (l : List Tm) (f u : Nat) (r : List Tok), l.length < f → (∀ x ∈ l, ∀ u r, u + x.size ≤ U → dp 1 u ((x.sp).map tkz ++ r) = .ok (x, u + x.size, r)) → u + sizes l ≤ U → ctxD dp E f u ((sps l).map tkz ++ (tkz (2, [41]) :: r)) = .ok (l, u + sizes l, tkz (2, [41]) :: r)
  | [], f, u, r, hf, _, _ => by
    match f, hf with
    | f + 1, _ =>
    unfold ctxD
    simp [sps, sizes, tkz]
  | t :: l, f, u, r, hf, h, hU => by
    simp only [sizes] at hU
    match f, hf with
    | f + 1, hf =>
    unfold ctxD
    obtain ⟨s, p, hp⟩ := hne t
    have h1 := h t List.mem_cons_self u ((sps l).map tkz ++ (tkz (2, [41]) :: r)) (by omega)
    have hh : ((((sps (t :: l)).map tkz ++ (tkz (2, [41]) :: r)).head?.map fun t => t.k == 2).getD false) = false := by simp [sps, hp, tkz]
    rw [hh, if_neg (by decide)]
    simp only [sps, List.map_append, List.append_assoc]
    rw [h1]
    dsimp only
    rw [ctx_back hne l f (u + t.size) r (by simp at hf; omega) (fun x hx => h x (List.mem_cons_of_mem _ hx)) (by omega)]
    simp only [sizes]
    rw [show u + t.size + sizes l = u + (t.size + sizes l) by omega]
theorem sp_ne (x : Tm) : ∃ s p, x.sp = (1, s) :: p := ⟨_, _, x.sp_eq⟩
theorem sizes_len : ∀ l : List Tm, l.length ≤ sizes l
  | [] => Nat.le_refl _
  | t :: r => by
    have := sizes_len r
    have := t.size_eq
    simp only [sizes, List.length_cons]; omega
theorem sps_len : ∀ (l : List Tm), (∀ x ∈ l, x.size ≤ (x.sp).length) → sizes l ≤ (sps l).length
  | [], _ => Nat.le_refl _
  | t :: r, h => by
    have h1 := h t List.mem_cons_self
    have h2 := sps_len r (fun x hx => h x (List.mem_cons_of_mem _ hx))
    simp only [sizes, sps, List.length_append]; omega
theorem sp_len (t : Tm) : t.size ≤ (t.sp).length := by
  induction t using Tm.ind with
  | h t ih =>
    have := sps_len t.kids ih
    rw [t.size_eq, t.sp_eq]
    simp only [List.length_cons, List.length_append]; omega
theorem file_back {deep nodes E f : Nat} (h1 : ∀ n : Nat, withinB (n : Nat) deep = true ∨ 1000000 < n) (h2 : ∀ n : Nat, withinB (n : Nat) nodes = true ∨ 1000000 < n) {c : List Tm} {t : Tm} (hc : rights c = true) (ht : t.rightB = true) (hs : sizes c + t.size ≤ 900000) (hf : sizes c + t.size < f) :
    fileP (derP deep nodes E f) E f ((filePs c t).map tkz) = .ok ((c, t), []) := by
  have hk := fun x hx u r hu => sp_back (E := E) h1 h2 x (rights_mem hc x hx) f 1 u r (by have := shsize_mem hx; omega) (by have := shsize_mem hx; omega) hu
  have hq := ctx_back (dp := derP deep nodes E f) (U := 1000000) (E := E) sp_ne c f 0 ((t.sp ++ [(2, [41])]).map tkz) (by have := sizes_len c; omega) hk (by omega)
  have ht2 := sp_back (E := E) h1 h2 t ht f 1 (0 + sizes c) [tkz (2, [41])] (by omega) (by omega) (by omega)
  unfold fileP filePs
  simp only [List.map_cons, List.map_append, List.map_nil, tkz, takeT, if_true]
  simp only [List.map_append, List.map_cons, List.map_nil, tkz] at hq ht2
  rw [hq]
  simp only [if_true]
  rw [ht2]
  simp only [if_true]
theorem ak_tkz {ts : List Tok} {ps : PS} (h : ts.map (fun t => (t.k, t.s)) = ps) : Ak (ps.map tkz) ts := ak_of (by
  rw [h, List.map_map]
  exact (List.map_id' _).symm)
/-- A file's text is read as the file. -/
theorem parse_shown {deep nodes : Nat} (h1 : ∀ n : Nat, withinB (n : Nat) deep = true ∨ 1000000 < n) (h2 : ∀ n : Nat, withinB (n : Nat) nodes = true ∨ 1000000 < n) {c : List Tm} {t : Tm} (hc : rights c = true) (ht : t.rightB = true) (hs : sizes c + t.size ≤ 900000) : parseB (fileL c t) deep nodes = .ok (c, t) := by
  obtain ⟨ts, l1, l2⟩ := file_lx hc ht
  have ho : ofL (fileL c t) = (ts, (fileL c t).length, false) := by unfold ofL; rw [l1]
  have hk := ak_tkz l2
  have hlen : sizes c + t.size < ts.length + 1 := by
    have e : ts.length = (filePs c t).length := by rw [← l2, List.length_map]
    have a := sps_len c (fun x _ => sp_len x)
    have b := sp_len t
    rw [e]
    unfold filePs
    simp only [List.length_cons, List.length_append]; omega
  have hb := file_back (E := (fileL c t).length) (f := ts.length + 1) h1 h2 hc ht hs hlen
  have hr := fileP_ak (derP_ak (deep := deep) (nodes := nodes) (E := (fileL c t).length) (F := (fileL c t).length) (ts.length + 1)) (E := (fileL c t).length) (F := (fileL c t).length) (f := ts.length + 1) hk
  rw [hb] at hr
  unfold parseB
  rw [ho]
  dsimp only
  generalize fileP (derP deep nodes (fileL c t).length (ts.length + 1)) (fileL c t).length (ts.length + 1) ts = y at hr
  cases hr with
  | ok hk2 =>
    cases hk2
    rfl
end Go.Proofs.YtdhfbphliejcdaaDoor.Dv

namespace Go.Proofs.YtdhfbphliejcdaaDoor
open Go.RowKit Go.Lib

/-- The library's table stays as it is whatever is made. -/
def Tab (w : World) : Prop := TabBelow Tryd.prog w.heap.size w "internal/strconv.uint64pow10" .u64 pow10Tab
theorem Tab.later {w w' : World} (h : Tab w) (hb : Below w.heap.size w w') : Tab w' := fun _ h2 => TabBelow.here (TabBelow.on h (hb.trans (h2.mono hb.size)))
/-- A variable that holds just these texts. -/
def StrIs (w : World) (name : String) (ss : List (List UInt8)) : Prop := w.var? Tryd.prog name = some (ss.map fun s => Value.string ⟨s.toArray⟩).toArray
theorem StrIs.cell {W : World} {name : String} {ss : List (List UInt8)} {g : Nat} (h : StrIs W name ss) (hg : Tryd.prog.globalNamed name = some g) (i : Nat) (hi : i < ss.length) : W.cell? ⟨g, i, none⟩ = some (.string ⟨(ss[i]).toArray⟩) := by
  have := World.var?_cell hg h i
  simpa [hi] using this
theorem StrIs.on {w w' : World} {name : String} {ss : List (List UInt8)} (h : StrIs w name ss) (hb : Below w.heap.size w w') : StrIs w' name ss := by
  unfold StrIs World.var? at *
  cases hg : Tryd.prog.globalNamed name with
  | none => simp [hg] at h
  | some g =>
    simp only [hg, Option.bind_some] at h ⊢
    have hlt : g < w.heap.size := by
      rcases Nat.lt_or_ge g w.heap.size with h' | h'
      · exact h'
      · rw [Array.getElem?_eq_none h'] at h; simp at h
    rw [hb.block g hlt]
    exact h
/-- What a text of a term is written from. -/
structure WTab (w : World) : Prop where
  pow : Tab w
  syms : StrIs w "tranship/read.symbols" symsW
  heads : StrIs w "tranship/write.heads" headsW
theorem WTab.later {w w' : World} (h : WTab w) (hb : Below w.heap.size w w') : WTab w' := ⟨h.pow.later hb, h.syms.on hb, h.heads.on hb⟩
theorem put_any (n : Int) (w : World) (hn : I64 n) (hT : Tab w) : Calls Tryd.prog 41 #[.int .i64 n] w fun e w' => e = .returned (.string ⟨(itoa n).toArray⟩) ∧ Below w.heap.size w w' := by
  have HC := Lib.hid (Tryd.strconv_Itoa n hn.1 hn.2 w (TabBelow.here hT))
  clear hn hT
  go_enter Tryd.func41, Tryd.ntmps41
  go_wp2_with fail
  refine HC.out.mono ?_
  rintro e w' ⟨rfl, k, os, rfl⟩
  go_wp2
  go_ret
  exact ⟨rfl, below_grow _ _ (Nat.le_refl _) _ _⟩
theorem str_add (a b : List UInt8) : (⟨a.toArray⟩ : ByteArray) ++ (⟨b.toArray⟩ : ByteArray) = ⟨(a ++ b).toArray⟩ := by
  apply ByteArray.ext; simp
end Go.Proofs.YtdhfbphliejcdaaDoor

namespace Go.Proofs.YtdhfbphliejcdaaDoor
open Go.RowKit

theorem bl_size : (Tryd.prog.info? 51).map (·.size) = some 2 := by kernel_rfl
theorem bl_lies : liesAt Tryd.prog Tryd.prog.depth 51 (2 / Tryd.prog.cellsOf 51) 0 51 1 = true := by kernel_rfl
theorem bl_byte : (Tryd.prog.info? 5).map (fun i => (i.zero, i.size, i.bytes)) = some (some (.int .u8 0), 1, 1) := by kernel_rfl
theorem bl_cells : Tryd.prog.cellsOf 5 = 1 := by kernel_rfl
abbrev BAt (B b : Nat) (p : Value) (bs : List Value) (w : World) : Prop := Lib.BuilderAt 51 5 B b p bs w
abbrev IsB (B b : Nat) (bs : List Value) (w : World) : Prop := Lib.IsBuilder 51 5 B b bs w

/-- What is no row of bytes and not the builder stays. -/
def Kept (b : Nat) (w w' : World) : Prop := ∀ j o, w.heap[j]? = some o → j ≠ b → (∀ cur fz, o ≠ .cells cur 5 fz) → w'.heap[j]? = some o
theorem Kept.refl (b : Nat) (w : World) : Kept b w w := fun _ _ h _ _ => h
theorem Kept.trans {b : Nat} {w w1 w2 : World} (h : Kept b w w1) (k : Kept b w1 w2) : Kept b w w2 := fun j o h1 h2 h3 => k j o (h j o h1 h2 h3) h2 h3
theorem Kept.below {b : Nat} {w w' : World} (h : Below w.heap.size w w') : Kept b w w' := fun j o h1 _ _ => by
  rw [h.block j (by rcases Nat.lt_or_ge j w.heap.size with h' | h'; exact h'; rw [Array.getElem?_eq_none h'] at h1; cases h1)]; exact h1
theorem Kept.alloc (b : Nat) (w : World) (o : Obj) : Kept b w (w.alloc o) := Kept.below ((Below.refl _ w).alloc (Nat.le_refl _) o)
theorem Kept.setCell {b : Nat} {w w' : World} (h : Kept b w w') (i : Nat) (v : Value) : Kept b w (w'.setCell ⟨b, i, none⟩ v) := fun j o h1 h2 h3 => by
  rw [Below.heap_setCell _ _ _ _ (by simpa using h2)]; exact h j o h1 h2 h3
theorem Kept.grown {B b n : Nat} {v : Value} {xs : List Value} {w w' : World} (h : w.grownBy w' v.ownBlock) (ho : w.ownsRow B 5 1 v n xs) : Kept b w w' := fun j o h1 _ h3 => by
  have hj : j < w.heap.size := by rcases Nat.lt_or_ge j w.heap.size with h' | h'; exact h'; rw [Array.getElem?_eq_none h'] at h1; cases h1
  rw [h.block j hj]
  · exact h1
  · intro e
    rcases ho.2 with ⟨rfl, _⟩ | ⟨g, cap, cur, rfl, _, hg, _⟩
    · cases e
    · obtain rfl := Option.some.inj e
      rw [h1] at hg
      exact h3 _ _ (Option.some.inj hg)
theorem bat_below {B b : Nat} {p : Value} {bs : List Value} {w w' : World} (h : BAt B b p bs w) (k : Below w.heap.size w w') : BAt B b p bs w' := by
  obtain ⟨hBb, v, hbk, hown, hne⟩ := h
  have lt : ∀ {j : Nat} {o : Obj}, w.heap[j]? = some o → j < w.heap.size := fun {j o} h1 => by rcases Nat.lt_or_ge j w.heap.size with h' | h'; exact h'; rw [Array.getElem?_eq_none h'] at h1; cases h1
  refine ⟨hBb, v, by rw [k.block _ (lt hbk)]; exact hbk, ⟨hown.1, ?_⟩, hne⟩
  rcases hown.2 with h0 | ⟨g, cap, cur, hv, hg, hh, r⟩
  · exact .inl h0
  · exact .inr ⟨g, cap, cur, hv, hg, by rw [k.block _ (lt hh)]; exact hh, r⟩
theorem isb_below {B b : Nat} {bs : List Value} {w w' : World} (h : IsB B b bs w) (k : Below w.heap.size w w') : IsB B b bs w' := h.elim (fun h => .inl (bat_below h k)) (fun h => .inr (bat_below h k))

set_option maxHeartbeats 1000000 in
set_option maxRecDepth 100000 in
theorem bcheck_any (B b : Nat) (bs : List Value) (w : World) (h : IsB B b bs w) : Calls Tryd.prog 44 #[.pointer (some ⟨b, 0, none⟩)] w fun e w' => e = .returned (.tuple #[]) ∧ BAt B b (.pointer (some ⟨b, 0, none⟩)) bs w' ∧ Below B w w' ∧ Kept b w w' := by
  obtain ⟨j, hj, hjs⟩ := Option.map_eq_some_iff.1 bl_size
  rcases h with h | h
  · have h0 := h.cell0
    have hsh := h.shape
    have hfz := h.frozen0
    have HH := Lib.hid h
    clear h
    go_enter Tryd.func44, Tryd.ntmps44
    go_wp2
    rw [Lib.run_to_unsafe w ⟨b, 0, none⟩ Tryd.underlying48 Tryd.underlying96 hj (by rw [hjs]; decide) hsh (Nat.zero_lt_succ 1)]
    simp only [Result.andThen]
    rw [Oper.upon_value]
    go_wp2
    rw [run_callFunc_extern Tryd.func55 (by kernel_rfl) (by kernel_rfl) (by kernel_rfl) (e := Extern.AbiNoEscape.same) (by kernel_rfl), Lib.run_noEscape]
    simp only [Result.andThen]
    rw [Oper.upon_value]
    go_wp2
    rw [Lib.run_from_unsafe w ⟨b, 0, none⟩ Tryd.underlying96 Tryd.underlying48 hj hsh bl_lies]
    simp only [Result.andThen]
    rw [Oper.upon_value]
    go_wp2
    go_end0
    exact ⟨rfl, HH.out.used _, (Below.refl B w).setCell (p := ⟨b, 0, none⟩) HH.out.1 _, (Kept.refl b w).setCell 0 _⟩
  · have h0 := h.cell0
    have HH := Lib.hid h
    clear h
    go_enter Tryd.func44, Tryd.ntmps44
    go_wp2
    rw [Lib.run_neq_ptr_same w _ Tryd.underlying48 hj]
    go_wp2
    go_end0
    exact ⟨rfl, HH.out, Below.refl B _, Kept.refl b _⟩

theorem bl_ne : (51 : TypeId) ≠ 5 := by decide
theorem bat_lt {B b : Nat} {p : Value} {bs : List Value} {w : World} (h : BAt B b p bs w) : b < w.heap.size := h.lt

set_option maxHeartbeats 2000000 in
set_option maxRecDepth 100000 in
theorem bstr_any (B b : Nat) (bs : List Value) (s : ByteArray) (w : World) (h : IsB B b bs w) (hlen : bs.length + s.size ≤ 140737488355328) (hB : B ≤ w.heap.size) :
    Calls Tryd.prog 25 #[.pointer (some ⟨b, 0, none⟩), .string s] w fun e w' => e = .returned (.tuple #[.int .i64 s.size, .nilIface]) ∧ BAt B b (.pointer (some ⟨b, 0, none⟩)) (bs ++ Lib.strCells s) w' ∧ Below B w w' ∧ Kept b w w' := by
  obtain ⟨i0, hi, hz0, hz1, hz2⟩ := info_parts bl_byte
  have HI := Lib.hid (And.intro hi (And.intro hz0 (And.intro hz1 hz2)))
  have HH := Lib.hid h
  clear h hi hz0 hz1 hz2
  go_enter Tryd.func25, Tryd.ntmps25
  go_wp2_with fail
  refine (bcheck_any B b bs _ HH.out).mono ?_
  rintro e w1 ⟨rfl, h1, hb1, hk1⟩
  have hlt := bat_lt h1
  obtain ⟨hBb, v, hbk, hown, hne⟩ := h1
  have c0 : w1.cell? ⟨b, 0, none⟩ = some (.pointer (some ⟨b, 0, none⟩)) := by rw [Lib.cell_of_heap hbk]; rfl
  have c1 : w1.cell? ⟨b, 1, none⟩ = some v := by rw [Lib.cell_of_heap hbk]; rfl
  have HO := Lib.hid hown
  have HK := Lib.hid hbk
  have HN := Lib.hid hne
  clear hown hbk hne
  go_wp2_with (at_builtin; refine Lib.wpList_append_own_string _ rfl _ _ 49 9 rfl B 5 i0 Tryd.underlying49 Tryd.underlying9 HI.out.1 HI.out.2.1 HI.out.2.2.1 HI.out.2.2.2 _ _ _ rfl HO.out s rfl ?c3 ?c4 ?c5 ?_)
  case c3 => unfold maxLen; omega
  case c4 => omega
  case c5 => have := hb1.size; omega
  intro v' w2 hown' hgrow _
  have hb2 : w2.heap[b]? = some (.cells #[.pointer (some ⟨b, 0, none⟩), v] 51 (0, 0)) := (hgrow.block b hlt (fun e => HN.out e.symm)).trans HK.out
  have d0 : w2.cell? ⟨b, 0, none⟩ = some (.pointer (some ⟨b, 0, none⟩)) := by rw [Lib.cell_of_heap hb2]; rfl
  have d1 : w2.cell? ⟨b, 1, none⟩ = some v := by rw [Lib.cell_of_heap hb2]; rfl
  have f1 : w2.frozen? ⟨b, 1, none⟩ = false := Lib.frozen_of_heap hb2 1
  obtain ⟨ao, n', cap, rfl⟩ : ∃ ao n' cap, v' = .slice ao n' cap := by
    rcases hown'.2 with ⟨hv, _⟩ | ⟨g, cap, cur, hv, _⟩
    · exact ⟨_, _, _, hv⟩
    · exact ⟨_, _, _, hv⟩
  have hkk : Kept b w w2 := hk1.trans (Kept.grown hgrow HO.out)
  have hkb : Below B w w2 := hb1.grown hgrow (by have := hb1.size; omega) (fun k hk => (HO.out.lt k hk).1)
  have HO2 := Lib.hid hown'
  have HB2 := Lib.hid hb2
  clear hown' hgrow hb2 c0 c1
  go_wp2
  go_ret2
  exact ⟨rfl, Lib.BuilderAt.put (T := 51) (e := 5) hBb HB2.out (bs' := bs ++ Lib.strCells s) (by simpa [Lib.strCells_length] using HO2.out) bl_ne, hkb.setCell (p := ⟨b, 1, none⟩) hBb _, hkk.setCell 1 _⟩

set_option maxHeartbeats 2000000 in
set_option maxRecDepth 100000 in
theorem bbyte_any (B b : Nat) (bs : List Value) (c : Int) (w : World) (h : IsB B b bs w) (hlen : bs.length + 1 ≤ 140737488355328) (hB : B ≤ w.heap.size) :
    Calls Tryd.prog 26 #[.pointer (some ⟨b, 0, none⟩), .int .u8 c] w fun e w' => e = .returned .nilIface ∧ BAt B b (.pointer (some ⟨b, 0, none⟩)) (bs ++ [.int .u8 c]) w' ∧ Below B w w' ∧ Kept b w w' := by
  obtain ⟨i0, hi, hz0, hz1, hz2⟩ := info_parts bl_byte
  have HI := Lib.hid (And.intro hi (And.intro hz0 (And.intro hz1 hz2)))
  have HH := Lib.hid h
  clear h hi hz0 hz1 hz2
  go_enter Tryd.func26, Tryd.ntmps26
  go_wp2_with fail
  refine (bcheck_any B b bs _ HH.out).mono ?_
  rintro e w1 ⟨rfl, h1, hb1, hk1⟩
  have hlt := bat_lt h1
  obtain ⟨hBb, v, hbk, hown, hne⟩ := h1
  have c0 : w1.cell? ⟨b, 0, none⟩ = some (.pointer (some ⟨b, 0, none⟩)) := by rw [Lib.cell_of_heap hbk]; rfl
  have c1 : w1.cell? ⟨b, 1, none⟩ = some v := by rw [Lib.cell_of_heap hbk]; rfl
  have HO := Lib.hid hown
  have HK := Lib.hid hbk
  have HN := Lib.hid hne
  clear hown hbk hne
  go_wp2_with (at_builtin; refine wpList_append_own _ rfl _ _ 49 rfl B 5 i0 (.int .u8 0) 1 1 Tryd.underlying49 HI.out.1 HI.out.2.1 HI.out.2.2.1 HI.out.2.2.2 rfl (by decide) _ _ _ rfl (HO.out.alloc _) ⟨w1.heap.size, 0, none⟩ 1 1 [.int .u8 c] rfl rfl ?c1 ?c2 ?c3 ?c4 ?c5 ?_)
  case c1 =>
    intro j u hj
    match j, hj with
    | 0, hj => simp at hj; subst hj; simp [Addr.add]
  case c2 => intro u hu; simp at hu; subst hu; rfl
  case c3 => unfold maxLen; omega
  case c4 => omega
  case c5 => have := hb1.size; simp; omega
  intro v' w2 hown' hgrow _
  have hb2 : w2.heap[b]? = some (.cells #[.pointer (some ⟨b, 0, none⟩), v] 51 (0, 0)) := by
    rw [hgrow.block b (by simp; omega) (fun e => HN.out e.symm), Lib.alloc_old w1 _ b hlt]
    exact HK.out
  have d0 : w2.cell? ⟨b, 0, none⟩ = some (.pointer (some ⟨b, 0, none⟩)) := by rw [Lib.cell_of_heap hb2]; rfl
  have d1 : w2.cell? ⟨b, 1, none⟩ = some v := by rw [Lib.cell_of_heap hb2]; rfl
  have f1 : w2.frozen? ⟨b, 1, none⟩ = false := Lib.frozen_of_heap hb2 1
  obtain ⟨g, cap, rfl⟩ : ∃ g cap, v' = .slice (some ⟨g, 0, none⟩) (bs.length + 1) cap := by
    rcases hown'.2 with ⟨_, h0⟩ | ⟨g, cap, cur, hv, _⟩
    · omega
    · exact ⟨g, cap, hv⟩
  have hkk : Kept b w w2 := (hk1.trans (Kept.alloc b w1 _)).trans (Kept.grown hgrow (HO.out.alloc _))
  have hkb : Below B w w2 := (hb1.alloc (by have := hb1.size; omega) _).grown hgrow (by have := hb1.size; simp; omega) (fun k hk => (HO.out.lt k hk).1)
  have HO2 := Lib.hid hown'
  have HB2 := Lib.hid hb2
  clear hown' hgrow hb2 c0 c1
  go_wp2
  go_ret
  exact ⟨rfl, Lib.BuilderAt.put (T := 51) (e := 5) hBb HB2.out (bs' := bs ++ [.int .u8 c]) (by simpa using HO2.out) bl_ne, hkb.setCell (p := ⟨b, 1, none⟩) hBb _, hkk.setCell 1 _⟩

set_option maxHeartbeats 2000000 in
set_option maxRecDepth 100000 in
/-- What a builder that holds a byte says. -/
theorem btext_any (B b : Nat) (p : Value) (l : List UInt8) (w : World) (h : BAt B b p (Lib.byteCells l) w) (h0 : l ≠ []) :
    Calls Tryd.prog 23 #[.pointer (some ⟨b, 0, none⟩)] w fun e w' => e = .returned (.string ⟨l.toArray⟩) ∧ Below B w w' := by
  obtain ⟨hBb, v, hbk, hown, hne⟩ := h
  have hl0 : l.length ≠ 0 := by simpa using h0
  rw [Lib.byteCells_length] at hown
  obtain ⟨g, cap, cur, rfl, hbg, hg, hnc, hcm, hcs, htake⟩ : ∃ g cap cur, v = .slice (some ⟨g, 0, none⟩) l.length cap ∧ B ≤ g ∧ w.heap[g]? = some (.cells cur 5 (0, 0)) ∧ l.length ≤ cap ∧ cap ≤ maxLen ∧ cur.size = cap * 1 ∧ cur.toList.take (l.length * 1) = Lib.byteCells l := by
    rcases hown.2 with ⟨_, hz⟩ | ⟨g, cap, cur, hv, r⟩
    · exact absurd hz hl0
    · exact ⟨g, cap, cur, hv, r⟩
  have hbd : w.drew.heap[b]? = some (.cells #[p, .slice (some ⟨g, 0, none⟩) l.length cap] 51 (0, 0)) := hbk
  have c1 : w.drew.cell? ⟨b, 1, none⟩ = some (.slice (some ⟨g, 0, none⟩) l.length cap) := by rw [Lib.cell_of_heap hbd]; rfl
  have hSD : (Builtin.unsafeSliceData_ #[49] 78 #[.slice (some ⟨g, 0, none⟩) l.length cap]).run Tryd.prog w.drew = .ok (.pointer (some ⟨g, 0, none⟩)) w.drew := Lib.run_unsafeSliceData_row _ _ _ _ _ _ (by omega)
  have hUS : (Builtin.unsafeString_ #[78, 3] 9 #[.pointer (some ⟨g, 0, none⟩), .int .i64 l.length]).run Tryd.prog w.drew = .ok (.string ⟨l.toArray⟩) (w.drew.freeze ⟨g, 0, none⟩ l.length) := by
    refine Lib.run_unsafeString_row w.drew 78 3 9 5 Tryd.underlying78 bl_cells g cur.size (by have hg' : w.drew.heap[g]? = some (.cells cur 5 (0, 0)) := hg; simp [World.shape?, hg']) l h0 (by omega) (by unfold maxLen at hcm; omega) ?_
    intro j x hx
    exact hown.cells (g := g) rfl j (.int .u8 x.toNat) (by simp [Lib.byteCells, hx])
  have HBG := Lib.hid hbg
  clear hown hne hbk hbd hg hnc hcm hcs htake hbg
  have mixed : Tryd.prog.follows .mixedOrders = true := by kernel_rfl
  go_enter Tryd.func23, Tryd.ntmps23
  go_wp2
  go_region_o
  all_goals (go_wp2; go_ret; exact ⟨rfl, Lib.below_freeze (Below.drew (Below.refl B w)) (p := ⟨g, 0, none⟩) HBG.out _⟩)
end Go.Proofs.YtdhfbphliejcdaaDoor

namespace Go.Proofs.YtdhfbphliejcdaaDoor.Dv
open Go.RowKit

theorem LiesP.out {w : World} {P : Nat → Prop} {l : List Tm} {s : Value} (h : LiesP w P l s) : ∃ (a : Option Addr) (cap : Nat), s = .slice a l.length cap ∧ l.length ≤ cap ∧ cap ≤ maxLen := by
  cases h with
  | mk l a cap S hc hm hf hn hk => exact ⟨a, cap, rfl, hc, hm⟩

theorem under_term : ∃ d, Tryd.prog.underlying 24 = some d ∧ (match d with | .struct _ | .array _ _ => true | _ => false) = true := by
  have h : (Tryd.prog.underlying 24).map (fun d => match d with | .struct _ | .array _ _ => true | _ => false) = some true := by kernel_rfl
  cases e : Tryd.prog.underlying 24 with
  | none => rw [e] at h; cases h
  | some d => rw [e] at h; exact ⟨d, rfl, Option.some.inj h⟩

theorem size_term : (Tryd.prog.info? 24).map (·.size) = some 3 := by kernel_rfl

end Go.Proofs.YtdhfbphliejcdaaDoor.Dv

namespace Go.Proofs.YtdhfbphliejcdaaDoor.Dv
open Go.RowKit

theorem hltD {w : World} {b : Nat} {o : Obj} (h : w.heap[b]? = some o) : b < w.heap.size := (Array.getElem?_eq_some_iff.1 h).1
theorem typeD {w : World} {b : Nat} {cs cs' : Array Value} {T T' : TypeId} {fz fz' : Nat × Nat} (h : w.heap[b]? = some (Obj.cells cs T fz)) (k : w.heap[b]? = some (Obj.cells cs' T' fz')) : T = T' := by
  rw [h] at k; injection k with k; injection k
/-- The constants of a parsing: where its blocks lie, the allowances, the end of the text. -/
structure PC where
  B : Nat
  P : Nat
  S : Nat
  G : Nat
  deep : Nat
  nodes : Nat
  E : Nat
  br : Bool
def PAt (w : World) (c : PC) : Prop := w.heap[c.P]? = some (.cells #[.pointer (some ⟨c.S, 0, none⟩), .float .f64 c.deep, .pointer (some ⟨c.G, 0, none⟩)] 66 (0, 0))
/-- The parser has the tokens ts left; u nodes are used up. -/
structure PSt (c : PC) (u : Nat) (ts : List Tok) (w : World) : Prop where
  bS : c.B ≤ c.S
  bP : c.B ≤ c.P
  bG : c.B ≤ c.G
  lo : c.B ≤ w.heap.size
  str : ∃ tv, SAt w c.S tv c.E c.br ∧ TLies w ts tv
  par : PAt w c
  bud : w.heap[c.G]? = some (budObj c.nodes u)
  tok : ∀ t ∈ ts, t.s.length ≤ 10000000
  few : u + ts.length ≤ 1000000000
/-- What stays: all that is older than the parsing, and every block of its own but the stream and the budget. -/
structure Fp (c : PC) (w w' : World) : Prop where
  below : Below c.B w w'
  kept : ∀ (b : Nat) (cs : Array Value) (T : TypeId) (fz : Nat × Nat), w.heap[b]? = some (Obj.cells cs T fz) → T ≠ 84 → T ≠ 86 → w'.heap[b]? = some (Obj.cells cs T fz)
theorem Fp.size {c : PC} {w w' : World} (h : Fp c w w') : w.heap.size ≤ w'.heap.size := h.below.size
theorem Fp.refl (c : PC) (w : World) : Fp c w w := ⟨Below.refl _ _, fun _ _ _ _ h _ _ => h⟩
theorem Fp.trans {c : PC} {w w1 w2 : World} (h : Fp c w w1) (k : Fp c w1 w2) : Fp c w w2 := ⟨h.below.trans k.below, fun b cs T fz e h1 h2 => k.kept b cs T fz (h.kept b cs T fz e h1 h2) h1 h2⟩
theorem Fp.grown {c : PC} {w w' : World} {row : Option Nat} (hg : w.grownBy w' row) (hB : ∀ b, row = some b → c.B ≤ b) (hT : ∀ b, row = some b → ∀ cs T fz, w.heap[b]? = some (Obj.cells cs T fz) → T = 84 ∨ T = 86) (hlo : c.B ≤ w.heap.size) : Fp c w w' := by
  refine ⟨⟨hg.os, hg.tape, hg.output, hg.size, fun k hk => hg.block k (by omega) (fun e => by have := hB k e.symm; omega)⟩, fun b cs T fz e h1 h2 => ?_⟩
  by_cases hb : some b = row
  · rcases hT b hb.symm cs T fz e with h | h
    · exact absurd h h1
    · exact absurd h h2
  · rw [hg.block b (hltD e) hb]; exact e
theorem Fp.later {c : PC} {w w' : World} (hb : Below w.heap.size w w') (hlo : c.B ≤ w.heap.size) : Fp c w w' := ⟨hb.mono hlo, fun b cs T fz e _ _ => by rw [hb.block b (hltD e)]; exact e⟩
theorem Fp.drew {c : PC} {w w' : World} (h : Fp c w w') : Fp c w w'.drew := ⟨h.below.drew, h.kept⟩
theorem Fp.drewN {c : PC} {w w' : World} (h : Fp c w w') : ∀ k, Fp c w (w'.drewN k)
  | 0 => h
  | k + 1 => (Fp.drewN h k).drew
theorem Fp.other {c : PC} {w w1 w2 : World} (h : Fp c w w1) {b : Nat} (hg : w1.grownBy w2 (some b)) (hb : w.heap.size ≤ b) (hlo : c.B ≤ w.heap.size) : Fp c w w2 := by
  refine ⟨h.below.trans ⟨hg.os, hg.tape, hg.output, hg.size, fun k hk => hg.block k (by have := h.size; omega) (fun e => by have := Option.some.inj e; omega)⟩, fun q cs T fz e h1 h2 => ?_⟩
  have e1 := h.kept q cs T fz e h1 h2
  rw [hg.block q (hltD e1) (fun e2 => by have := hltD e; have := Option.some.inj e2; omega)]; exact e1
theorem PSt.later {c : PC} {u : Nat} {ts : List Tok} {w w' : World} (h : PSt c u ts w) (hb : Below w.heap.size w w') : PSt c u ts w' := by
  obtain ⟨tv, h1, h2⟩ := h.str
  refine ⟨h.bS, h.bP, h.bG, Nat.le_trans h.lo hb.size, ⟨tv, ?_, ?_⟩, ?_, ?_, h.tok, h.few⟩
  · unfold SAt at h1 ⊢; rw [hb.block _ (hltD h1)]; exact h1
  · exact h2.keep fun g cs fz e => by rw [hb.block _ (hltD e)]; exact e
  · have r := h.par; unfold PAt at r ⊢; rw [hb.block _ (hltD r)]; exact r
  · rw [hb.block _ (hltD h.bud)]; exact h.bud
theorem PSt.drew {c : PC} {u : Nat} {ts : List Tok} {w : World} (h : PSt c u ts w) : PSt c u ts w.drew := h.later (Below.refl _ _).drew
theorem PSt.alloc {c : PC} {u : Nat} {ts : List Tok} {w : World} (h : PSt c u ts w) (o : Obj) : PSt c u ts (w.alloc o) := h.later ((Below.refl _ _).alloc (Nat.le_refl _) o)
/-- A step that writes a block of derivations. -/
theorem PSt.other {c : PC} {u : Nat} {ts : List Tok} {w w' : World} (h : PSt c u ts w) {row : Option Nat} (hg : w.grownBy w' row) (hb : ∀ b, row = some b → c.B ≤ b ∧ ∃ cs fz, w.heap[b]? = some (Obj.cells cs 24 fz)) : PSt c u ts w' := by
  obtain ⟨tv, h1, h2⟩ := h.str
  have old : ∀ {q : Nat} {cs : Array Value} {T : TypeId} {fz : Nat × Nat}, T ≠ 24 → w.heap[q]? = some (Obj.cells cs T fz) → w'.heap[q]? = some (Obj.cells cs T fz) := fun {q cs T fz} hne e => by
    rw [hg.block q (hltD e) (fun e2 => by obtain ⟨-, cs', fz', e3⟩ := hb q e2.symm; exact hne (typeD e e3))]; exact e
  refine ⟨h.bS, h.bP, h.bG, Nat.le_trans h.lo hg.size, ⟨tv, ?_, ?_⟩, ?_, ?_, h.tok, h.few⟩
  · exact old (by decide) h1
  · exact h2.keep fun g cs fz e => old (by decide) e
  · exact old (by decide) h.par
  · exact old (by decide) h.bud
/-- A step of the stream. -/
theorem PSt.stream {c : PC} {u : Nat} {ts r : List Tok} {w w' : World} (h : PSt c u ts w) (hg : w.grownBy w' (some c.S)) (hs : ∃ tv, SAt w' c.S tv c.E c.br ∧ TLies w' r tv) (hr : ∀ t ∈ r, t ∈ ts) (hl : r.length ≤ ts.length) : PSt c u r w' ∧ Fp c w w' := by
  obtain ⟨tv, h1, h2⟩ := h.str
  have hfr : Fp c w w' := Fp.grown hg (fun b e => by obtain rfl := Option.some.inj e; exact h.bS) (fun b e cs T fz e2 => by obtain rfl := Option.some.inj e; exact Or.inl (typeD e2 h1)) h.lo
  have old : ∀ {q : Nat} {cs : Array Value} {T : TypeId} {fz : Nat × Nat}, T ≠ 84 → w.heap[q]? = some (Obj.cells cs T fz) → w'.heap[q]? = some (Obj.cells cs T fz) := fun {q cs T fz} hne e => by
    rw [hg.block q (hltD e) (fun e2 => by obtain rfl := Option.some.inj e2; exact hne (typeD e h1))]; exact e
  exact ⟨⟨h.bS, h.bP, h.bG, Nat.le_trans h.lo hg.size, hs, old (by decide) h.par, old (by decide) h.bud, fun t ht => h.tok t (hr t ht), by have := h.few; omega⟩, hfr⟩
def PTake (c : PC) (u : Nat) (w : World) (x : Except Nat (Tok × List Tok)) (e : Ending) (w' : World) : Prop :=
  match x with
  | .error a => e = faultP a ∧ Fp c w w'
  | .ok (t, r) => e = .returned (.agg #[.int .i64 t.k, .string ⟨t.s.toArray⟩, .int .i64 t.at_]) ∧ PSt c u r w' ∧ Fp c w w'
theorem PSt.ptake {c : PC} {u : Nat} {ts : List Tok} {w : World} (h : PSt c u ts w) (k : Nat) : Calls Tryd.prog 46 #[.pointer (some ⟨c.S, 0, none⟩), .int .i64 k] w (PTake c u w (takeT c.E k ts)) := by
  obtain ⟨tv, h1, h2⟩ := h.str
  refine (take_any c.S tv c.E c.br ts k w h1 h2).mono ?_
  intro e w' hg
  cases hx : takeT c.E k ts with
  | error a =>
    rw [hx] at hg
    obtain ⟨he, hgr⟩ := hg
    exact ⟨he, Fp.grown hgr (fun b e => by obtain rfl := Option.some.inj e; exact h.bS) (fun b e cs T fz e2 => by obtain rfl := Option.some.inj e; exact Or.inl (typeD e2 h1)) h.lo⟩
  | ok p =>
    obtain ⟨t, r⟩ := p
    rw [hx] at hg
    obtain ⟨he, hgr, v', h3, h4⟩ := hg
    have hl := takeT_eq hx
    have hs := h.stream hgr ⟨v', h3, h4⟩ (fun y hy => by rw [hl.1]; exact List.mem_cons_of_mem _ hy) (by rw [hl.1]; simp)
    exact ⟨he, hs.1, hs.2⟩
theorem PSt.pnext {c : PC} {u : Nat} {ts : List Tok} {w : World} (h : PSt c u ts w) (k : Nat) : Calls Tryd.prog 48 #[.pointer (some ⟨c.S, 0, none⟩), .int .i64 k] w fun e w' => e = .returned (.bool ((ts.head?.map fun t => t.k == k).getD false)) ∧ w = w' := by
  obtain ⟨tv, h1, h2⟩ := h.str
  exact next_tok c.S tv c.E c.br ts k w h1 h2
theorem PSt.tokOk {c : PC} {u : Nat} {ts r : List Tok} {t : Tok} {k E : Nat} {w : World} (h : PSt c u ts w) (hx : takeT E k ts = .ok (t, r)) : t.s.length ≤ 10000000 := h.tok t (by rw [(takeT_eq hx).1]; exact List.mem_cons_self)
theorem PSt.cells {c : PC} {u : Nat} {ts : List Tok} {w : World} (h : PSt c u ts w) : w.cell? ⟨c.P, 0, none⟩ = some (.pointer (some ⟨c.S, 0, none⟩)) ∧ w.cell? ⟨c.P, 1, none⟩ = some (.float .f64 c.deep) ∧ w.cell? ⟨c.P, 2, none⟩ = some (.pointer (some ⟨c.G, 0, none⟩)) ∧ c.P < w.heap.size := by
  have r1 := h.par
  unfold PAt at r1
  exact ⟨by rw [Lib.cell_of_heap r1]; rfl, by rw [Lib.cell_of_heap r1]; rfl, by rw [Lib.cell_of_heap r1]; rfl, hltD r1⟩
theorem drewN_grown (w : World) : ∀ k, w.grownBy (w.drewN k) none
  | 0 => ⟨rfl, rfl, rfl, Nat.le_refl _, fun _ _ _ => rfl⟩
  | k + 1 => by
    have h := drewN_grown w k
    exact ⟨h.os, h.tape, h.output, h.size, h.block⟩
/-- One node more. -/
theorem PSt.pnode {c : PC} {u : Nat} {ts : List Tok} {w : World} (h : PSt c u ts w) (hf : u + 1 + ts.length ≤ 1000000000) : Calls Tryd.prog 59 #[.pointer (some ⟨c.G, 0, none⟩), .int .i64 1] w fun e w' =>
    e = .returned (.bool (withinB (u + 1 : Nat) c.nodes)) ∧ Fp c w w' ∧ (withinB (u + 1 : Nat) c.nodes = true → PSt c (u + 1) ts w') := by
  have hfew := h.few
  cases hw : withinB (u + 1 : Nat) c.nodes with
  | false =>
    refine (take_out c.G c.nodes u 1 w h.bud (by omega) (by omega) (by omega) (by simpa using hw)).mono ?_
    rintro e w' ⟨rfl, k, rfl⟩
    exact ⟨rfl, (Fp.refl c w).drewN k, fun h => by cases h⟩
  | true =>
    refine (take_yes c.G c.nodes u 1 w h.bud (by omega) (by omega) (by omega) (by simpa using hw)).mono ?_
    rintro e w' ⟨rfl, k, rfl⟩
    have hg0 : w.grownBy ((w.drewN k).setCell ⟨c.G, 1, none⟩ (.int .i64 ((u : Int) + 1))) (some c.G) := by
      have h1 := drewN_grown w k
      exact ⟨h1.os, h1.tape, h1.output, by simp, fun q hq hne => (Below.heap_setCell _ _ _ _ (by show q ≠ c.G; exact fun e => hne (by rw [e]))).trans (h1.block q hq (by simp))⟩
    have hfr : Fp c w ((w.drewN k).setCell ⟨c.G, 1, none⟩ (.int .i64 ((u : Int) + 1))) := Fp.grown hg0 (fun b e => by obtain rfl := Option.some.inj e; exact h.bG) (fun b e cs T fz e2 => by obtain rfl := Option.some.inj e; exact Or.inr (typeD e2 h.bud)) h.lo
    refine ⟨rfl, hfr, fun _ => ?_⟩
    obtain ⟨tv, h1, h2⟩ := h.str
    have old : ∀ {q : Nat} {cs : Array Value} {T : TypeId} {fz : Nat × Nat}, T ≠ 86 → w.heap[q]? = some (Obj.cells cs T fz) → ((w.drewN k).setCell ⟨c.G, 1, none⟩ (.int .i64 ((u : Int) + 1))).heap[q]? = some (Obj.cells cs T fz) := fun {q cs T fz} hne e => by
      rw [hg0.block q (hltD e) (fun e2 => by obtain rfl := Option.some.inj e2; exact hne (typeD e h.bud))]; exact e
    refine ⟨h.bS, h.bP, h.bG, Nat.le_trans h.lo hg0.size, ⟨tv, old (by decide) h1, h2.keep fun g cs fz e => old (by decide) e⟩, old (by decide) h.par, ?_, h.tok, by omega⟩
    have hb : (w.drewN k).heap[c.G]? = some (budObj c.nodes u) := by rw [(drewN_grown w k).block _ (hltD h.bud) (by simp)]; exact h.bud
    have := heap_setCell_same _ _ 1 _ _ (.int .i64 ((u : Int) + 1)) hb
    exact this
/-- What a parsing has made stays while it goes on. -/
theorem own_fp {c : PC} {w w' : World} {B : Nat} (h : Fp c w w') {b : Nat} (ho : Own B w b) : w'.heap[b]? = w.heap[b]? := by
  obtain ⟨_, cs, hb⟩ := ho
  rw [hb]
  exact h.kept b cs _ _ hb (by decide) (by decide)
theorem liesP_fp {c : PC} {w w' : World} {B : Nat} {l : List Tm} {s : Value} (h : LiesP w (Own B w) l s) (hf : Fp c w w') : LiesP w' (Own B w') l s := h.keep (fun _ hb _ => own_fp hf hb) (fun _ hb _ => hb.same (own_fp hf hb))
theorem made_fp {c : PC} {w w' : World} {B : Nat} {v : Value} {ps : List (Tm × Value)} (h : Made B w v ps) (hf : Fp c w w') : Made B w' v ps := by
  refine ⟨?_, h.fine, fun p hp => (h.kids p hp).keep (fun b hb _ => own_fp hf hb.1) (fun b hb _ => ⟨hb.1.same (own_fp hf hb.1), hb.2⟩)⟩
  obtain ⟨h1, h2⟩ := h.own
  refine ⟨h1, ?_⟩
  rcases h2 with h2 | ⟨g, cap, cur, hv, hg, hh, r⟩
  · exact Or.inl h2
  · exact Or.inr ⟨g, cap, cur, hv, hg, hf.kept _ _ _ _ hh (by decide) (by decide), r⟩
/-- What a parsing leaves by. -/
def faultV : PF → Value
  | (0, a) => .iface 70 (.agg #[.int .i64 a])
  | (1, a) => .iface 68 (.agg #[.int .i64 a, .string ⟨#[100, 101, 101, 112]⟩])
  | (_ + 2, a) => .iface 68 (.agg #[.int .i64 a, .string ⟨#[110, 111, 100, 101, 115]⟩])
def leaveP (p : PF) : Ending := .panicked [{ v := faultV p, recovered := false }]
theorem fault_leave (a : Nat) : faultP a = leaveP (0, a) := rfl
theorem Fp.row {c : PC} {w w1 w2 : World} (h : Fp c w w1) {row : Option Nat} (hg : w1.grownBy w2 row) (hb : ∀ b, row = some b → w.heap.size ≤ b) (hlo : c.B ≤ w.heap.size) : Fp c w w2 := by
  refine ⟨h.below.trans ⟨hg.os, hg.tape, hg.output, hg.size, fun k hk => hg.block k (by have := h.size; omega) (fun e => by have := hb k e.symm; omega)⟩, fun q cs T fz e h1 h2 => ?_⟩
  have e1 := h.kept q cs T fz e h1 h2
  rw [hg.block q (hltD e1) (fun e2 => by have := hltD e; have := hb q e2.symm; omega)]; exact e1
/-- The block of a list that was made. -/
theorem made_row {B : Nat} {w : World} {v : Value} {ps : List (Tm × Value)} (h : Made B w v ps) : ∀ b, v.ownBlock = some b → B ≤ b ∧ ∃ cs fz, w.heap[b]? = some (Obj.cells cs 24 fz) := by
  intro b hb
  rcases h.own.2 with ⟨rfl, -⟩ | ⟨g, cap, cur, rfl, hg, hh, -⟩
  · simp [Value.ownBlock] at hb
  · simp [Value.ownBlock] at hb
    subst hb
    exact ⟨hg, cur, _, hh⟩
/-- A derivation that was parsed is appended. -/
theorem made_push_fp {c : PC} {B : Nat} {wr wn w3 : World} {v : Value} {ps : List (Tm × Value)} {t : Tm} {s : Value} {g cap : Nat} (h : Made B wr v ps) (hB : B ≤ wr.heap.size) (hf : Fp c wr wn) (ht : t.fine) (hk : LiesP wn (Own wr.heap.size wn) t.kids s) (o : Obj)
    (hown : w3.ownsRow B 24 3 (.slice (some ⟨g, 0, none⟩) (ps.length + 1) cap) (ps.length + 1) (cells5 ps ++ cells5 [(t, s)])) (hgrow : (wn.alloc o).grownBy w3 v.ownBlock) (hat : v.ownBlock = some g ∨ g = wn.heap.size + 1) :
    Made B w3 (.slice (some ⟨g, 0, none⟩) (ps.length + 1) cap) (ps ++ [(t, s)]) :=
  made_step (made_later (made_fp h hf) ((Below.refl _ _).alloc (Nat.le_refl _) _)) ht
    (hk.keep (fun b _ hlt => Below.heap_alloc _ _ _ hlt) (fun b hb hlt => ⟨(hb.same (Below.heap_alloc _ _ _ hlt)).from hB, made_block h hb.1⟩)) hown hgrow (by simpa using hat)
/-- The parsing of premises, some of them done. -/
def KInv (dp : DP) (d n u0 : Nat) (ts0 : List Tok) (acc : List Tm) (m u : Nat) (ts : List Tok) : Prop := kidsD dp d n u0 ts0 = (match kidsD dp d m u ts with
  | .error e => .error e
  | .ok (l, u2, r) => .ok (acc ++ l, u2, r))
theorem KInv.start (dp : DP) (d n u : Nat) (ts : List Tok) : KInv dp d n u ts [] n u ts := by
  unfold KInv
  cases kidsD dp d n u ts with
  | error e => rfl
  | ok x => rfl
theorem KInv.err {dp : DP} {d n u0 m u : Nat} {ts0 ts : List Tok} {acc : List Tm} {e : PF} (h : KInv dp d n u0 ts0 acc (m + 1) u ts) (hx : dp d u ts = .error e) : kidsD dp d n u0 ts0 = .error e := by
  unfold KInv at h
  rw [h, kidsD, hx]
theorem KInv.step {dp : DP} {d n u0 m u u1 : Nat} {ts0 ts r : List Tok} {acc : List Tm} {t : Tm} (h : KInv dp d n u0 ts0 acc (m + 1) u ts) (hx : dp d u ts = .ok (t, u1, r)) : KInv dp d n u0 ts0 (acc ++ [t]) m u1 r := by
  unfold KInv at h ⊢
  rw [h, kidsD, hx]
  dsimp only
  cases kidsD dp d m u1 r with
  | error e => rfl
  | ok x => obtain ⟨l, u2, r2⟩ := x; simp
theorem KInv.done {dp : DP} {d n u0 u : Nat} {ts0 ts : List Tok} {acc : List Tm} (h : KInv dp d n u0 ts0 acc 0 u ts) : kidsD dp d n u0 ts0 = .ok (acc, u, ts) := by
  unfold KInv at h
  rw [h, kidsD]
  simp
/-- What the parsing of a derivation gives. -/
def DerG (c : PC) (w : World) (x : Except PF (Tm × Nat × List Tok)) (e : Ending) (w' : World) : Prop :=
  match x with
  | .error a => e = leaveP a ∧ Fp c w w'
  | .ok (t, u, r) => ∃ s, e = .returned (tv t s) ∧ LiesP w' (Own w.heap.size w') t.kids s ∧ t.fine ∧ PSt c u r w' ∧ Fp c w w'
def DerC (c : PC) (f : Nat) (dp : DP) : Prop := ∀ (d u : Nat) (ts : List Tok) (w : World), ts.length < f → d + ts.length ≤ 1000000000 → PSt c u ts w → Calls Tryd.prog 49 #[.pointer (some ⟨c.P, 0, none⟩), .int .i64 d] w (DerG c w (dp d u ts))
theorem DerC.use {c : PC} {f : Nat} {dp : DP} (h : DerC c f dp) (d u : Nat) (ts : List Tok) (w : World) (h1 : ts.length < f) (h2 : d + ts.length ≤ 1000000000) (h3 : PSt c u ts w) : Calls Tryd.prog 49 #[.pointer (some ⟨c.P, 0, none⟩), .int .i64 d] w (DerG c w (dp d u ts)) := h d u ts w h1 h2 h3
end Go.Proofs.YtdhfbphliejcdaaDoor.Dv
