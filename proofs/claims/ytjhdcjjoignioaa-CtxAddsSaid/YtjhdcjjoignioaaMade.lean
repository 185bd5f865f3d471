/-
  Terms that a call makes: the blocks in which they lie are its own; a list of them that is appended to.
-/
import Derived.Test.YtjhdcjjoignioaaHeld
import Derived.Test.YtjhdcjjoignioaaBox
import Derived.Test.YtjhdcjjoignioaaRows
import Derived.Deep.AppendLies
import Derived.Laws.Rows
import Derived.KernelRfl
namespace Go.Proofs.Ytjhdcjjoignioaa
open Go.RowKit

/-- Terms behind a slice, in blocks of which P speaks. -/
inductive LiesP (w : World) (P : Nat → Prop) : List Tm → Value → Prop
  | mk (l : List Tm) (a : Option Addr) (cap : Nat) (S : Nat → Value) (hc : l.length ≤ cap) (hm : cap ≤ maxLen) (hf : ∀ x ∈ l, x.fine)
      (hn : ∀ i (h : i < l.length), ∃ b, a = some ⟨b, 0, none⟩ ∧ P b ∧ Node w b (i * 5) l[i] (S i)) (hk : ∀ i (h : i < l.length), LiesP w P (l[i]).kids (S i)) : LiesP w P l (.slice a l.length cap)

theorem LiesP.lies {w : World} {P : Nat → Prop} {l : List Tm} {s : Value} (h : LiesP w P l s) : Lies w l s := by
  induction h with
  | mk l a cap S hc hm hf hn hk ih => exact .mk l a cap S hc hm hf (fun i hi => by obtain ⟨b, ha, _, hx⟩ := hn i hi; exact ⟨b, 0, ha, by rw [Nat.zero_add]; exact hx⟩) ih

theorem Node.same {w w' : World} {b o : Nat} {t : Tm} {s : Value} (h : Node w b o t s) (hb : w'.heap[b]? = w.heap[b]?) : Node w' b o t s :=
  ⟨(World.cell?_of_block (a := ⟨b, o, none⟩) hb).trans h.c0, (World.cell?_of_block (a := ⟨b, o + 1, none⟩) hb).trans h.c1, (World.cell?_of_block (a := ⟨b, o + 2, none⟩) hb).trans h.c2,
    (World.cell?_of_block (a := ⟨b, o + 3, none⟩) hb).trans h.c3, (World.cell?_of_block (a := ⟨b, o + 4, none⟩) hb).trans h.c4⟩

/-- They lie in a later world where their blocks are as they were; P may be turned on the way. -/
theorem LiesP.keep {w w' : World} {P Q : Nat → Prop} {l : List Tm} {s : Value} (h : LiesP w P l s) (hb : ∀ b, P b → b < w.heap.size → w'.heap[b]? = w.heap[b]?) (hq : ∀ b, P b → b < w.heap.size → Q b) : LiesP w' Q l s := by
  induction h with
  | mk l a cap S hc hm hf hn hk ih =>
    exact .mk l a cap S hc hm hf (fun i hi => by obtain ⟨b, ha, hp, hx⟩ := hn i hi; exact ⟨b, ha, hq b hp hx.lt, hx.same (hb b hp hx.lt)⟩) ih

/-- A block of the call's own: new since B, and nothing of it is frozen. -/
def Own (B : Nat) (w : World) (b : Nat) : Prop := B ≤ b ∧ ∃ cs, w.heap[b]? = some (.cells cs 26 (0, 0))
theorem Own.lt {B : Nat} {w : World} {b : Nat} (h : Own B w b) : b < w.heap.size := by obtain ⟨-, cs, h⟩ := h; exact (Array.getElem?_eq_some_iff.1 h).1
theorem Own.same {B : Nat} {w w' : World} {b : Nat} (h : Own B w b) (hb : w'.heap[b]? = w.heap[b]?) : Own B w' b := ⟨h.1, by rw [hb]; exact h.2⟩
theorem Own.later {B : Nat} {w w' : World} {b : Nat} (h : Own B w b) (hb : Below w.heap.size w w') : Own B w' b := h.same (hb.block b h.lt)
theorem Own.from {B B' : Nat} {w : World} {b : Nat} (h : Own B w b) (hB : B' ≤ B) : Own B' w b := ⟨Nat.le_trans hB h.1, h.2⟩

/-- What a call has made lies there later, too. -/
theorem LiesP.later {w w' : World} {B : Nat} {l : List Tm} {s : Value} (h : LiesP w (Own B w) l s) (hb : Below w.heap.size w w') : LiesP w' (Own B w') l s := h.keep (fun b _ hlt => hb.block b hlt) (fun _ hp _ => hp.later hb)
theorem LiesP.from {w : World} {B B' : Nat} {l : List Tm} {s : Value} (h : LiesP w (Own B w) l s) (hB : B' ≤ B) : LiesP w (Own B' w) l s := h.keep (fun _ _ _ => rfl) (fun _ hp _ => hp.from hB)

def cells5 : List (Tm × Value) → List Value
  | [] => []
  | (t, s) :: r => .int .i64 t.k :: .int .i64 t.i :: .int .i64 t.j :: .int .i64 t.n :: s :: cells5 r

theorem cells5_length : ∀ ps : List (Tm × Value), (cells5 ps).length = ps.length * 5
  | [] => rfl
  | (t, s) :: r => by simp [cells5, cells5_length r]; omega
theorem cells5_append : ∀ ps qs : List (Tm × Value), cells5 (ps ++ qs) = cells5 ps ++ cells5 qs
  | [], qs => rfl
  | (t, s) :: r, qs => by simp [cells5, cells5_append r qs]
theorem cells5_get : ∀ (ps : List (Tm × Value)) (i : Nat) (h : i < ps.length) (q : Nat), q < 5 → (cells5 ps)[i * 5 + q]? = [Value.int .i64 (ps[i]).1.k, .int .i64 (ps[i]).1.i, .int .i64 (ps[i]).1.j, .int .i64 (ps[i]).1.n, (ps[i]).2][q]?
  | (t, s) :: r, 0, _, q, hq => by
    rw [Nat.zero_mul, Nat.zero_add]
    match q, hq with
    | 0, _ => rfl
    | 1, _ => rfl
    | 2, _ => rfl
    | 3, _ => rfl
    | 4, _ => rfl
  | (t, s) :: r, i + 1, h, q, hq => by
    have := cells5_get r i (by simpa using h) q hq
    rw [show (i + 1) * 5 + q = (i * 5 + q) + 5 by omega]
    simpa [cells5] using this

/-- A list of terms that the call has made so far: v is the slice, ps the terms with the slices of their kids; B: where its own memory begins. -/
structure Made (B : Nat) (w : World) (v : Value) (ps : List (Tm × Value)) : Prop where
  own : w.ownsRow B 26 5 v ps.length (cells5 ps)
  fine : ∀ p ∈ ps, p.1.fine
  kids : ∀ p ∈ ps, LiesP w (fun b => Own B w b ∧ v.ownBlock ≠ some b) p.1.kids p.2

theorem made_nil (B : Nat) (w : World) : Made B w (.slice none 0 0) [] := ⟨⟨rfl, Or.inl ⟨rfl, rfl⟩⟩, (fun _ h => by cases h), (fun _ h => by cases h)⟩

theorem made_later {B : Nat} {w w' : World} {v : Value} {ps : List (Tm × Value)} (h : Made B w v ps) (hb : Below w.heap.size w w') : Made B w' v ps := by
  refine ⟨?_, h.fine, fun p hp => (h.kids p hp).keep (fun b _ hlt => hb.block b hlt) (fun _ hq _ => ⟨hq.1.later hb, hq.2⟩)⟩
  obtain ⟨h1, h2⟩ := h.own
  refine ⟨h1, ?_⟩
  rcases h2 with h2 | ⟨g, cap, cur, hv, hg, hh, r⟩
  · exact Or.inl h2
  · refine Or.inr ⟨g, cap, cur, hv, hg, ?_, r⟩
    rw [hb.block g ?_]; exact hh
    exact (Array.getElem?_eq_some_iff.1 hh).1

/-- The block of the list, if it has one, is none of a new term's. -/
theorem made_block {B : Nat} {w : World} {v : Value} {ps : List (Tm × Value)} (h : Made B w v ps) {b : Nat} (hb : w.heap.size ≤ b) : v.ownBlock ≠ some b := by
  rcases h.own.2 with ⟨rfl, -⟩ | ⟨g, cap, cur, rfl, -, hh, -⟩
  · simp [Value.ownBlock]
  · have := (Array.getElem?_eq_some_iff.1 hh).1
    simp [Value.ownBlock]; omega

theorem made_step {B : Nat} {w w1 : World} {v : Value} {ps : List (Tm × Value)} {p : Tm × Value} {g cap : Nat} (h : Made B w v ps) (hf : p.1.fine) (hk : LiesP w (fun b => Own B w b ∧ v.ownBlock ≠ some b) p.1.kids p.2)
    (hown : w1.ownsRow B 26 5 (.slice (some ⟨g, 0, none⟩) (ps.length + 1) cap) (ps.length + 1) (cells5 ps ++ cells5 [p])) (hgrow : w.grownBy w1 v.ownBlock) (hg : v.ownBlock = some g ∨ g = w.heap.size) :
    Made B w1 (.slice (some ⟨g, 0, none⟩) (ps.length + 1) cap) (ps ++ [p]) := by
  have keep : ∀ q : Tm × Value, LiesP w (fun b => Own B w b ∧ v.ownBlock ≠ some b) q.1.kids q.2 → LiesP w1 (fun b => Own B w1 b ∧ (Value.slice (some ⟨g, 0, none⟩) (ps.length + 1) cap).ownBlock ≠ some b) q.1.kids q.2 := fun q hq =>
    hq.keep (fun b hb hlt => hgrow.block b hlt (fun e => hb.2 e.symm)) (fun b hb hlt => ⟨hb.1.same (hgrow.block b hlt (fun e => hb.2 e.symm)), by
      show some g ≠ some b
      rcases hg with e | e
      · rw [← e]; exact hb.2
      · intro e'; have := Option.some.inj e'; omega⟩)
  refine ⟨by rw [cells5_append]; simpa using hown, fun q hq => ?_, fun q hq => ?_⟩
  · rcases List.mem_append.1 hq with hq | hq
    · exact h.fine q hq
    · rw [List.mem_singleton.1 hq]; exact hf
  · rcases List.mem_append.1 hq with hq | hq
    · exact keep q (h.kids q hq)
    · rw [List.mem_singleton.1 hq]; exact keep p hk

/-- The list as terms that lie in the call's own memory. -/
theorem made_lies {B : Nat} {w : World} {v : Value} {ps : List (Tm × Value)} (h : Made B w v ps) : LiesP w (Own B w) (ps.map (·.1)) v := by
  have fin : ∀ x ∈ ps.map (·.1), x.fine := fun x hx => by obtain ⟨p, hp, rfl⟩ := List.mem_map.1 hx; exact h.fine p hp
  have kid : ∀ i (hi : i < ps.length), LiesP w (Own B w) (ps[i]).1.kids (ps[i]).2 := fun i hi => (h.kids _ (List.getElem_mem hi)).keep (fun _ _ _ => rfl) (fun _ hb _ => hb.1)
  obtain ⟨-, ⟨rfl, hn⟩ | ⟨g, cap, cur, rfl, hg, hh, hnc, hcm, hsz, htk⟩⟩ := h.own
  · obtain rfl : ps = [] := List.eq_nil_of_length_eq_zero hn
    exact .mk [] none 0 (fun _ => .nilIface) (Nat.le_refl _) (by decide) (fun _ h => by cases h) (fun _ h => by cases h) (fun _ h => by cases h)
  · have := LiesP.mk (w := w) (P := Own B w) (ps.map (·.1)) (some ⟨g, 0, none⟩) cap (fun i => (ps[i]?.map (·.2)).getD (.slice none 0 0)) (by simpa using hnc) hcm fin
      (fun i hi => by
        have hi' : i < ps.length := by simpa using hi
        refine ⟨g, rfl, ⟨hg, cur, hh⟩, ?_⟩
        simp only [List.getElem_map, List.getElem?_eq_getElem hi', Option.map_some, Option.getD_some]
        have cellq : ∀ q, q < 5 → w.cell? ⟨g, i * 5 + q, none⟩ = [Value.int .i64 (ps[i]).1.k, .int .i64 (ps[i]).1.i, .int .i64 (ps[i]).1.j, .int .i64 (ps[i]).1.n, (ps[i]).2][q]? := fun q hq => by
          rw [h.own.cellAt (i * 5 + q) (by omega)]; exact cells5_get ps i hi' q hq
        exact ⟨cellq 0 (by omega), cellq 1 (by omega), cellq 2 (by omega), cellq 3 (by omega), cellq 4 (by omega)⟩)
      (fun i hi => by
        have hi' : i < ps.length := by simpa using hi
        simp only [List.getElem_map, List.getElem?_eq_getElem hi', Option.map_some, Option.getD_some]
        exact kid i hi')
    simpa using this

theorem alloc_new (w : World) (o : Obj) : (w.alloc o).heap[w.heap.size]? = some o := by
  unfold World.alloc; simp

/-- The cells of a term that was just laid into a block of its own. -/
theorem news_new (w : World) (t : Tm) (s : Value) (T : TypeId) : ∀ j u, (cells5 [(t, s)])[j]? = some u → (w.alloc (.cells #[.int .i64 t.k, .int .i64 t.i, .int .i64 t.j, .int .i64 t.n, s] T)).cell? ((⟨w.heap.size, 0, none⟩ : Addr).add j) = some u :=
  World.news_of_block (alloc_new w _)

/-- A term is stored into a block of five cells. -/
theorem five_set {w : World} {g : Nat} {T : TypeId} {z0 z1 z2 z3 z4 v0 v1 v2 v3 v4 : Value} (h : w.heap[g]? = some (.cells #[z0, z1, z2, z3, z4] T (0, 0))) :
    (((((w.setCell ⟨g, 0, none⟩ v0).setCell ⟨g, 1, none⟩ v1).setCell ⟨g, 2, none⟩ v2).setCell ⟨g, 3, none⟩ v3).setCell ⟨g, 4, none⟩ v4).heap[g]? = some (.cells #[v0, v1, v2, v3, v4] T (0, 0)) :=
  heap_setCell_same _ _ _ _ _ _ (heap_setCell_same _ _ _ _ _ _ (heap_setCell_same _ _ _ _ _ _ (heap_setCell_same _ _ _ _ _ _ (heap_setCell_same _ _ _ _ _ _ h))))

/-- The value of an owned list lies above the base. -/
theorem made_above {B : Nat} {w : World} {v : Value} {ps : List (Tm × Value)} (h : Made B w v ps) : ∀ k, v.ownBlock = some k → B ≤ k := by
  intro k hk
  rcases h.own.2 with ⟨rfl, -⟩ | ⟨g, cap, cur, rfl, hg, -⟩
  · simp [Value.ownBlock] at hk
  · simp [Value.ownBlock] at hk; omega

/-- A term that a call has just made is appended: the element lies in a block of its own first. -/
theorem made_push {B : Nat} {wr w2 w3 : World} {v : Value} {ps : List (Tm × Value)} {t : Tm} {s2 : Value} {g cap : Nat} (h : Made B wr v ps) (hf : t.fine) (hB : B ≤ wr.heap.size) (hb2 : Below wr.heap.size wr w2) (hk : LiesP w2 (Own wr.heap.size w2) t.kids s2) (o : Obj)
    (hown : w3.ownsRow B 26 5 (.slice (some ⟨g, 0, none⟩) (ps.length + 1) cap) (ps.length + 1) (cells5 ps ++ cells5 [(t, s2)])) (hgrow : (w2.alloc o).grownBy w3 v.ownBlock) (hat : v.ownBlock = some g ∨ g = w2.heap.size + 1) :
    Made B w3 (.slice (some ⟨g, 0, none⟩) (ps.length + 1) cap) (ps ++ [(t, s2)]) :=
  made_step (made_later (made_later h hb2) ((Below.refl _ _).alloc (Nat.le_refl _) _)) hf
    (hk.keep (fun b _ hlt => Below.heap_alloc _ _ _ hlt) (fun b hb hlt => ⟨(hb.same (Below.heap_alloc _ _ _ hlt)).from hB, made_block h hb.1⟩)) hown hgrow (by simpa using hat)

theorem below_push {B : Nat} {w wr w2 w3 : World} {v : Value} {ps : List (Tm × Value)} (h : Made B wr v ps) (hb : Below B w wr) (hB : B ≤ wr.heap.size) (hb2 : Below wr.heap.size wr w2) (o : Obj) (hgrow : (w2.alloc o).grownBy w3 v.ownBlock) : Below B w w3 :=
  ((below_call hb hb2 hB).alloc (Nat.le_trans hB hb2.size) o).grown hgrow (by have := hb2.size; simp; omega) (made_above h)

theorem info_term : (Try.prog.info? 26).map (fun i => (i.zero, i.size, i.bytes)) = some (some (.agg #[.int .i64 0, .int .i64 0, .int .i64 0, .int .i64 0, .slice none 0 0]), 5, 56) := by kernel_rfl
end Go.Proofs.Ytjhdcjjoignioaa
