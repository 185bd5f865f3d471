/-
  Texts in one: Ent, EntM, TakeD, EntC, EntS.
-/
import Derived.Test.YtjhdcjjoignioaaHeld
import Derived.Test.YtjhdcjjoignioaaTop
import Derived.Test.YtjhdcjjoignioaaFill
import Derived.OrdersHeld
import Derived.KernelRfl
import Derived.Test.YtjhdcjjoignioaaSameTerm
import Derived.Test.YtjhdcjjoignioaaSameKeep
import Derived.Test.YtjhdcjjoignioaaWeigh
import Derived.Test.YtjhdcjjoignioaaLawKit
import Derived.Deep.DeepCutAuto
/-! Entries of a context: a type and its level; how a row of them lies in memory. -/
namespace Go.Proofs.Ytjhdcjjoignioaa
open Go.RowKit

/-- An entry: a type, its level. -/
structure En where
  a : Tm
  i : Int

def En.fine (e : En) : Prop := e.a.fine ∧ I64 e.i

/-- The six cells of an entry at a place. -/
structure ENode (w : World) (b o : Nat) (e : En) (s : Value) : Prop where
  c0 : w.cell? ⟨b, o, none⟩ = some (.int .i64 e.a.k)
  c1 : w.cell? ⟨b, o + 1, none⟩ = some (.int .i64 e.a.i)
  c2 : w.cell? ⟨b, o + 2, none⟩ = some (.int .i64 e.a.j)
  c3 : w.cell? ⟨b, o + 3, none⟩ = some (.int .i64 e.a.n)
  c4 : w.cell? ⟨b, o + 4, none⟩ = some s
  c5 : w.cell? ⟨b, o + 5, none⟩ = some (.int .i64 e.i)

theorem ENode.lt {w : World} {b o : Nat} {e : En} {s : Value} (h : ENode w b o e s) : b < w.heap.size := World.block_lt_of_cell? _ _ h.c0
theorem ENode.below {w w' : World} {b o B : Nat} {e : En} {s : Value} (h : ENode w b o e s) (hb : Below B w w') (hB : b < B) : ENode w' b o e s :=
  ⟨(hb.cell (by exact hB)).trans h.c0, (hb.cell (by exact hB)).trans h.c1, (hb.cell (by exact hB)).trans h.c2, (hb.cell (by exact hB)).trans h.c3, (hb.cell (by exact hB)).trans h.c4, (hb.cell (by exact hB)).trans h.c5⟩
theorem ENode.same {w w' : World} {b o : Nat} {e : En} {s : Value} (h : ENode w b o e s) (hb : w'.heap[b]? = w.heap[b]?) : ENode w' b o e s :=
  ⟨(World.cell?_of_block (a := ⟨b, o, none⟩) hb).trans h.c0, (World.cell?_of_block (a := ⟨b, o + 1, none⟩) hb).trans h.c1, (World.cell?_of_block (a := ⟨b, o + 2, none⟩) hb).trans h.c2,
    (World.cell?_of_block (a := ⟨b, o + 3, none⟩) hb).trans h.c3, (World.cell?_of_block (a := ⟨b, o + 4, none⟩) hb).trans h.c4, (World.cell?_of_block (a := ⟨b, o + 5, none⟩) hb).trans h.c5⟩

/-- Entries that lie behind a slice. -/
structure LiesE (w : World) (l : List En) (s : Value) : Prop where
  out : ∃ (a : Option Addr) (cap : Nat) (S : Nat → Value), s = .slice a l.length cap ∧ l.length ≤ cap ∧ cap ≤ maxLen ∧ (∀ x ∈ l, x.fine) ∧
    (∀ i (h : i < l.length), ∃ b o, a = some ⟨b, o, none⟩ ∧ ENode w b (o + i * 6) l[i] (S i)) ∧ (∀ i (h : i < l.length), Lies w (l[i]).a.kids (S i))

theorem LiesE.keep {w w' : World} {l : List En} {s : Value} (h : LiesE w l s) (hb : Below w.heap.size w w') : LiesE w' l s := by
  obtain ⟨a, cap, S, hs, hc, hm, hf, hn, hk⟩ := h.out
  exact ⟨a, cap, S, hs, hc, hm, hf, fun i hi => by obtain ⟨b, o, ha, hx⟩ := hn i hi; exact ⟨b, o, ha, hx.below hb hx.lt⟩, fun i hi => (hk i hi).keep hb⟩
theorem liesE_nil (w : World) : LiesE w [] (.slice none 0 0) := ⟨none, 0, fun _ => .nilIface, rfl, Nat.le_refl _, by decide, (fun _ h => by cases h), (fun _ h => by cases h), (fun _ h => by cases h)⟩

/-- Is each entry right behind k others? -/
def rightE : Nat → List En → Bool
  | _, [] => true
  | k, e :: r => (decide (0 ≤ e.i) && decide (e.i ≤ 1000) && e.a.markedB && decide (e.a.freeB ≤ (k : Int))) && rightE (k + 1) r
def rightC (c : List En) : Bool := rightE 0 c
def goodE (k : Nat) (e : En) : Bool := decide (0 ≤ e.i) && decide (e.i ≤ 1000) && e.a.markedB && decide (e.a.freeB ≤ (k : Int))
theorem rightE_append (k : Nat) : ∀ (a b : List En), rightE k (a ++ b) = (rightE k a && rightE (k + a.length) b)
  | [], b => by simp [rightE]
  | e :: r, b => by
    have := rightE_append (k + 1) r b
    simp only [List.cons_append, rightE, this, List.length_cons, Bool.and_assoc, show k + 1 + r.length = k + (r.length + 1) by omega]
theorem rightC_take {l : List En} {k : Nat} (h : k < l.length) : rightC (l.take (k + 1)) = (rightC (l.take k) && goodE k l[k]) := by
  have hl : (l.take k).length = k := by simp; omega
  unfold rightC
  rw [List.take_succ_eq_append_getElem h, rightE_append, hl, Nat.zero_add]
  simp only [rightE, goodE, Bool.and_true]
theorem rightC_of {l : List En} {k : Nat} (h : k < l.length) (hg : goodE k l[k] = false) : rightC l = false := by
  have h1 : rightC (l.take (k + 1) ++ l.drop (k + 1)) = rightC l := by rw [List.take_append_drop]
  have h2 : rightC (l.take (k + 1)) = false := by rw [rightC_take h, hg, Bool.and_false]
  rw [← h1]
  unfold rightC at h2 ⊢
  rw [rightE_append, h2, Bool.false_and]
theorem rightC_at {l : List En} (hr : rightC l = true) {k : Nat} (h : k < l.length) : goodE k l[k] = true := by
  cases hg : goodE k l[k] with
  | true => rfl
  | false => rw [rightC_of h hg] at hr; cases hr
theorem goodE_iff {k : Nat} {e : En} : goodE k e = true ↔ 0 ≤ e.i ∧ e.i ≤ 1000 ∧ e.a.markedB = true ∧ e.a.freeB ≤ (k : Int) := by
  unfold goodE; simp only [Bool.and_eq_true, decide_eq_true_eq, and_assoc]
theorem rightC_iff {l : List En} : rightC l = true ↔ ∀ k (h : k < l.length), goodE k l[k] = true := by
  refine ⟨fun hr k h => rightC_at hr h, fun h => ?_⟩
  have key : ∀ k, k ≤ l.length → rightC (l.take k) = true := by
    intro k
    induction k with
    | zero => intro _; simp [rightC, rightE]
    | succ k ih => intro hk; rw [rightC_take hk, ih (by omega), h k hk]; rfl
  have := key l.length (Nat.le_refl _)
  rwa [List.take_length] at this
end Go.Proofs.Ytjhdcjjoignioaa

/-! Entries that a call makes: a row that is appended to, a row that was made whole and is filled. -/
namespace Go.Proofs.Ytjhdcjjoignioaa
open Go.RowKit

/-- A block of entries of the call's own. -/
def OwnE (B : Nat) (w : World) (b : Nat) : Prop := B ≤ b ∧ ∃ cs, w.heap[b]? = some (.cells cs 38 (0, 0))
theorem OwnE.same {B : Nat} {w w' : World} {b : Nat} (h : OwnE B w b) (hb : w'.heap[b]? = w.heap[b]?) : OwnE B w' b := ⟨h.1, by rw [hb]; exact h.2⟩

/-- Entries behind a slice, all in memory from block B on that is open. -/
structure LiesEP (w : World) (B : Nat) (l : List En) (s : Value) : Prop where
  out : ∃ (a : Option Addr) (cap : Nat) (S : Nat → Value), s = .slice a l.length cap ∧ l.length ≤ cap ∧ cap ≤ maxLen ∧ (∀ x ∈ l, x.fine) ∧
    (∀ i (h : i < l.length), ∃ b, a = some ⟨b, 0, none⟩ ∧ OwnE B w b ∧ ENode w b (i * 6) l[i] (S i)) ∧ (∀ i (h : i < l.length), LiesP w (Own B w) (l[i]).a.kids (S i))
theorem LiesEP.lies {w : World} {B : Nat} {l : List En} {s : Value} (h : LiesEP w B l s) : LiesE w l s := by
  obtain ⟨a, cap, S, hs, hc, hm, hf, hn, hk⟩ := h.out
  exact ⟨a, cap, S, hs, hc, hm, hf, fun i hi => by obtain ⟨b, ha, _, hx⟩ := hn i hi; exact ⟨b, 0, ha, by rw [Nat.zero_add]; exact hx⟩, fun i hi => (hk i hi).lies⟩
theorem LiesEP.keep {w w' : World} {B : Nat} {l : List En} {s : Value} (h : LiesEP w B l s) (hb : ∀ b, B ≤ b → b < w.heap.size → w'.heap[b]? = w.heap[b]?) : LiesEP w' B l s := by
  obtain ⟨a, cap, S, hs, hc, hm, hf, hn, hk⟩ := h.out
  exact ⟨a, cap, S, hs, hc, hm, hf, fun i hi => by obtain ⟨b, ha, hp, hx⟩ := hn i hi; exact ⟨b, ha, hp.same (hb b hp.1 hx.lt), hx.same (hb b hp.1 hx.lt)⟩,
    fun i hi => (hk i hi).keep (fun b hp hlt => hb b hp.1 hlt) (fun b hp hlt => hp.same (hb b hp.1 hlt))⟩
theorem LiesEP.later {w w' : World} {B : Nat} {l : List En} {s : Value} (h : LiesEP w B l s) (hb : Below w.heap.size w w') : LiesEP w' B l s := h.keep (fun b _ hlt => hb.block b hlt)
theorem LiesEP.from {w : World} {B B' : Nat} {l : List En} {s : Value} (h : LiesEP w B l s) (hB : B' ≤ B) : LiesEP w B' l s := by
  obtain ⟨a, cap, S, hs, hc, hm, hf, hn, hk⟩ := h.out
  exact ⟨a, cap, S, hs, hc, hm, hf, fun i hi => by obtain ⟨b, ha, hp, hx⟩ := hn i hi; exact ⟨b, ha, ⟨Nat.le_trans hB hp.1, hp.2⟩, hx⟩, fun i hi => (hk i hi).from hB⟩
theorem liesEP_nil (w : World) (B : Nat) : LiesEP w B [] (.slice none 0 0) := ⟨none, 0, fun _ => .nilIface, rfl, Nat.le_refl _, by decide, (fun _ h => by cases h), (fun _ h => by cases h), (fun _ h => by cases h)⟩

/-- What a call hands back that makes entries: in new memory. -/
def MakesE (l : List En) (w : World) (e : Ending) (w' : World) : Prop := ∃ s' : Value, e = .returned s' ∧ LiesEP w' w.heap.size l s' ∧ Below w.heap.size w w'

def cells6 : List (En × Value) → List Value
  | [] => []
  | (t, s) :: r => .int .i64 t.a.k :: .int .i64 t.a.i :: .int .i64 t.a.j :: .int .i64 t.a.n :: s :: .int .i64 t.i :: cells6 r
theorem cells6_length : ∀ ps : List (En × Value), (cells6 ps).length = ps.length * 6
  | [] => rfl
  | (t, s) :: r => by simp [cells6, cells6_length r]; omega
theorem cells6_append : ∀ ps qs : List (En × Value), cells6 (ps ++ qs) = cells6 ps ++ cells6 qs
  | [], qs => rfl
  | (t, s) :: r, qs => by simp [cells6, cells6_append r qs]
theorem cells6_get : ∀ (ps : List (En × Value)) (i : Nat) (h : i < ps.length) (q : Nat), q < 6 → (cells6 ps)[i * 6 + q]? = [Value.int .i64 (ps[i]).1.a.k, .int .i64 (ps[i]).1.a.i, .int .i64 (ps[i]).1.a.j, .int .i64 (ps[i]).1.a.n, (ps[i]).2, .int .i64 (ps[i]).1.i][q]?
  | (t, s) :: r, 0, _, q, hq => by
    rw [Nat.zero_mul, Nat.zero_add]
    match q, hq with
    | 0, _ => rfl
    | 1, _ => rfl
    | 2, _ => rfl
    | 3, _ => rfl
    | 4, _ => rfl
    | 5, _ => rfl
  | (t, s) :: r, i + 1, h, q, hq => by
    have := cells6_get r i (by simpa using h) q hq
    rw [show (i + 1) * 6 + q = (i * 6 + q) + 6 by omega]
    simpa [cells6] using this

/-- A row of entries that the call has made so far. -/
structure MadeE (B : Nat) (w : World) (v : Value) (ps : List (En × Value)) : Prop where
  own : w.ownsRow B 38 6 v ps.length (cells6 ps)
  fine : ∀ p ∈ ps, p.1.fine
  kids : ∀ p ∈ ps, LiesP w (fun b => Own B w b ∧ v.ownBlock ≠ some b) p.1.a.kids p.2
theorem madeE_nil (B : Nat) (w : World) : MadeE B w (.slice none 0 0) [] := ⟨⟨rfl, Or.inl ⟨rfl, rfl⟩⟩, (fun _ h => by cases h), (fun _ h => by cases h)⟩
theorem madeE_later {B : Nat} {w w' : World} {v : Value} {ps : List (En × Value)} (h : MadeE B w v ps) (hb : Below w.heap.size w w') : MadeE B w' v ps := by
  refine ⟨?_, h.fine, fun p hp => (h.kids p hp).keep (fun b _ hlt => hb.block b hlt) (fun _ hq _ => ⟨hq.1.later hb, hq.2⟩)⟩
  obtain ⟨h1, h2⟩ := h.own
  refine ⟨h1, ?_⟩
  rcases h2 with h2 | ⟨g, cap, cur, hv, hg, hh, r⟩
  · exact Or.inl h2
  · refine Or.inr ⟨g, cap, cur, hv, hg, ?_, r⟩
    rw [hb.block g ?_]; exact hh
    exact (Array.getElem?_eq_some_iff.1 hh).1
theorem madeE_block {B : Nat} {w : World} {v : Value} {ps : List (En × Value)} (h : MadeE B w v ps) {b : Nat} (hb : w.heap.size ≤ b) : v.ownBlock ≠ some b := by
  rcases h.own.2 with ⟨rfl, -⟩ | ⟨g, cap, cur, rfl, -, hh, -⟩
  · simp [Value.ownBlock]
  · have := (Array.getElem?_eq_some_iff.1 hh).1
    simp [Value.ownBlock]; omega
theorem madeE_step {B : Nat} {w w1 : World} {v : Value} {ps : List (En × Value)} {p : En × Value} {g cap : Nat} (h : MadeE B w v ps) (hf : p.1.fine) (hk : LiesP w (fun b => Own B w b ∧ v.ownBlock ≠ some b) p.1.a.kids p.2)
    (hown : w1.ownsRow B 38 6 (.slice (some ⟨g, 0, none⟩) (ps.length + 1) cap) (ps.length + 1) (cells6 ps ++ cells6 [p])) (hgrow : w.grownBy w1 v.ownBlock) (hg : v.ownBlock = some g ∨ g = w.heap.size) :
    MadeE B w1 (.slice (some ⟨g, 0, none⟩) (ps.length + 1) cap) (ps ++ [p]) := by
  have keep : ∀ q : En × Value, LiesP w (fun b => Own B w b ∧ v.ownBlock ≠ some b) q.1.a.kids q.2 → LiesP w1 (fun b => Own B w1 b ∧ (Value.slice (some ⟨g, 0, none⟩) (ps.length + 1) cap).ownBlock ≠ some b) q.1.a.kids q.2 := fun q hq =>
    hq.keep (fun b hb hlt => hgrow.block b hlt (fun e => hb.2 e.symm)) (fun b hb hlt => ⟨hb.1.same (hgrow.block b hlt (fun e => hb.2 e.symm)), by
      show some g ≠ some b
      rcases hg with e | e
      · rw [← e]; exact hb.2
      · intro e'; have := Option.some.inj e'; omega⟩)
  refine ⟨by rw [cells6_append]; simpa using hown, fun q hq => ?_, fun q hq => ?_⟩
  · rcases List.mem_append.1 hq with hq | hq
    · exact h.fine q hq
    · rw [List.mem_singleton.1 hq]; exact hf
  · rcases List.mem_append.1 hq with hq | hq
    · exact keep q (h.kids q hq)
    · rw [List.mem_singleton.1 hq]; exact keep p hk
theorem madeE_lies {B : Nat} {w : World} {v : Value} {ps : List (En × Value)} (h : MadeE B w v ps) : LiesEP w B (ps.map (·.1)) v := by
  have fin : ∀ x ∈ ps.map (·.1), x.fine := fun x hx => by obtain ⟨p, hp, rfl⟩ := List.mem_map.1 hx; exact h.fine p hp
  have kid : ∀ i (hi : i < ps.length), LiesP w (Own B w) (ps[i]).1.a.kids (ps[i]).2 := fun i hi => (h.kids _ (List.getElem_mem hi)).keep (fun _ _ _ => rfl) (fun _ hb _ => hb.1)
  obtain ⟨-, ⟨rfl, hn⟩ | ⟨g, cap, cur, rfl, hg, hh, hnc, hcm, hsz, htk⟩⟩ := h.own
  · obtain rfl : ps = [] := List.eq_nil_of_length_eq_zero hn
    exact ⟨none, 0, fun _ => .nilIface, rfl, Nat.le_refl _, by decide, (fun _ h => by cases h), (fun _ h => by cases h), (fun _ h => by cases h)⟩
  · refine ⟨some ⟨g, 0, none⟩, cap, fun i => (ps[i]?.map (·.2)).getD (.slice none 0 0), by simp, by simpa using hnc, hcm, fin, fun i hi => ?_, fun i hi => ?_⟩
    · have hi' : i < ps.length := by simpa using hi
      refine ⟨g, rfl, ⟨hg, cur, hh⟩, ?_⟩
      · simp only [List.getElem_map, List.getElem?_eq_getElem hi', Option.map_some, Option.getD_some]
        have cellq : ∀ q, q < 6 → w.cell? ⟨g, i * 6 + q, none⟩ = [Value.int .i64 (ps[i]).1.a.k, .int .i64 (ps[i]).1.a.i, .int .i64 (ps[i]).1.a.j, .int .i64 (ps[i]).1.a.n, (ps[i]).2, .int .i64 (ps[i]).1.i][q]? := fun q hq => by
          rw [h.own.cellAt (i * 6 + q) (by omega)]; exact cells6_get ps i hi' q hq
        exact ⟨cellq 0 (by omega), cellq 1 (by omega), cellq 2 (by omega), cellq 3 (by omega), cellq 4 (by omega), cellq 5 (by omega)⟩
    · have hi' : i < ps.length := by simpa using hi
      simp only [List.getElem_map, List.getElem?_eq_getElem hi', Option.map_some, Option.getD_some]
      exact kid i hi'

/-- The six cells of an element, written one behind the other. -/
def put6 (w : World) (g o : Nat) (t : En) (s : Value) : World := (put5 w g o t.a s).setCell ⟨g, o + 5, none⟩ (.int .i64 t.i)
theorem put6_other (w : World) (g o : Nat) (t : En) (s : Value) {b : Nat} (h : b ≠ g) : (put6 w g o t s).heap[b]? = w.heap[b]? := by
  unfold put6; rw [Below.heap_setCell _ _ _ _ (by exact h), put5_other _ _ _ _ _ h]
theorem put6_size (w : World) (g o : Nat) (t : En) (s : Value) : (put6 w g o t s).heap.size = w.heap.size := by
  have := put5_size w g o t.a s
  simp [put6, World.setCell] at this ⊢
  exact this
theorem put6_below {B : Nat} {w w1 : World} (h : Below B w w1) {g : Nat} (hg : B ≤ g) (o : Nat) (t : En) (s : Value) : Below B w (put6 w1 g o t s) := by
  unfold put6 put5
  exact (((((h.setCell hg _).setCell hg _).setCell hg _).setCell hg _).setCell hg _).setCell hg _
theorem ENode.node {w : World} {b o : Nat} {e : En} {s : Value} (h : ENode w b o e s) : Node w b o e.a s := ⟨h.c0, h.c1, h.c2, h.c3, h.c4⟩
theorem ENode.of {w : World} {b o : Nat} {e : En} {s : Value} (h : Node w b o e.a s) (h5 : w.cell? ⟨b, o + 5, none⟩ = some (.int .i64 e.i)) : ENode w b o e s := ⟨h.c0, h.c1, h.c2, h.c3, h.c4, h5⟩
theorem put6_node {w : World} {g o : Nat} {t0 : En} {s0 : Value} (t : En) (s : Value) (h : ENode w g o t0 s0) : ENode (put6 w g o t s) g o t s := by
  have ne : ∀ p q : Nat, p ≠ q → (⟨g, p, none⟩ : Addr) ≠ ⟨g, q, none⟩ := fun p q hpq e => hpq (congrArg Addr.off e)
  have hn := put5_node t.a s h.node
  unfold put6
  refine ⟨?_, ?_, ?_, ?_, ?_, ?_⟩
  · rw [World.cell?_setCell_other _ _ _ _ (ne _ _ (by omega))]; exact hn.c0
  · rw [World.cell?_setCell_other _ _ _ _ (ne _ _ (by omega))]; exact hn.c1
  · rw [World.cell?_setCell_other _ _ _ _ (ne _ _ (by omega))]; exact hn.c2
  · rw [World.cell?_setCell_other _ _ _ _ (ne _ _ (by omega))]; exact hn.c3
  · rw [World.cell?_setCell_other _ _ _ _ (ne _ _ (by omega))]; exact hn.c4
  · refine World.cell?_setCell_same _ _ _ (u := .int .i64 t0.i) ?_
    rw [put5_out _ _ _ _ _ (by omega)]; exact h.c5
theorem put6_keep {w : World} {g o o' b : Nat} {t x : En} {s sx : Value} (h : ENode w b o' x sx) (hne : b ≠ g ∨ o' + 6 ≤ o ∨ o + 6 ≤ o') : ENode (put6 w g o t s) b o' x sx := by
  by_cases hb : b = g
  · subst hb
    have hne' : o' + 6 ≤ o ∨ o + 6 ≤ o' := hne.resolve_left (fun h => h rfl)
    have ne : ∀ p q : Nat, p ≠ q → (⟨b, p, none⟩ : Addr) ≠ ⟨b, q, none⟩ := fun p q hpq e => hpq (congrArg Addr.off e)
    have hn := put5_keep (g := b) (o := o) (t := t.a) (s := s) h.node (Or.inr (by omega))
    unfold put6
    refine ⟨?_, ?_, ?_, ?_, ?_, ?_⟩
    · rw [World.cell?_setCell_other _ _ _ _ (ne _ _ (by omega))]; exact hn.c0
    · rw [World.cell?_setCell_other _ _ _ _ (ne _ _ (by omega))]; exact hn.c1
    · rw [World.cell?_setCell_other _ _ _ _ (ne _ _ (by omega))]; exact hn.c2
    · rw [World.cell?_setCell_other _ _ _ _ (ne _ _ (by omega))]; exact hn.c3
    · rw [World.cell?_setCell_other _ _ _ _ (ne _ _ (by omega))]; exact hn.c4
    · rw [World.cell?_setCell_other _ _ _ _ (ne _ _ (by omega)), put5_out _ _ _ _ _ (by omega)]; exact h.c5
  · exact h.same (put6_other _ _ _ _ _ hb)

/-- A row that was made whole and is filled from the left: block g; xs: the entries as they stand there now. -/
structure FullE (B : Nat) (w : World) (g : Nat) (xs : List (En × Value)) : Prop where
  above : B ≤ g
  open' : ∃ cs, w.heap[g]? = some (.cells cs 38 (0, 0))
  node : ∀ i (h : i < xs.length), ENode w g (i * 6) (xs[i]).1 (xs[i]).2
  fine : ∀ p ∈ xs, p.1.fine
  kids : ∀ p ∈ xs, LiesP w (fun b => Own B w b ∧ b ≠ g) p.1.a.kids p.2
theorem FullE.lt {B g : Nat} {w : World} {xs : List (En × Value)} (h : FullE B w g xs) : g < w.heap.size := by obtain ⟨cs, h⟩ := h.open'; exact (Array.getElem?_eq_some_iff.1 h).1
theorem FullE.later {B g : Nat} {w w' : World} {xs : List (En × Value)} (h : FullE B w g xs) (hb : Below w.heap.size w w') : FullE B w' g xs :=
  ⟨h.above, by rw [hb.block g h.lt]; exact h.open', fun i hi => (h.node i hi).below hb h.lt, h.fine, fun p hp => (h.kids p hp).keep (fun b _ hlt => hb.block b hlt) (fun _ hq _ => ⟨hq.1.later hb, hq.2⟩)⟩
theorem FullE.fill {B g k : Nat} {w : World} {xs : List (En × Value)} {t : En} {s : Value} (h : FullE B w g xs) (hk : k < xs.length) (hf : t.fine) (hl : LiesP w (fun b => Own B w b ∧ b ≠ g) t.a.kids s) :
    FullE B (put6 w g (k * 6) t s) g (xs.set k (t, s)) := by
  have keepL : ∀ l s', LiesP w (fun b => Own B w b ∧ b ≠ g) l s' → LiesP (put6 w g (k * 6) t s) (fun b => Own B (put6 w g (k * 6) t s) b ∧ b ≠ g) l s' := fun l s' h' =>
    h'.keep (fun b hb _ => put6_other _ _ _ _ _ hb.2) (fun b hb _ => ⟨hb.1.same (put6_other _ _ _ _ _ hb.2), hb.2⟩)
  refine ⟨h.above, ?_, fun i hi => ?_, fun p hp => ?_, fun p hp => ?_⟩
  · obtain ⟨cs, hcs⟩ := h.open'
    exact ⟨_, heap_setCell_same _ _ _ _ _ _ (put5_block _ _ _ hcs)⟩
  · have hi' : i < xs.length := by simpa using hi
    by_cases e : k = i
    · subst e
      simp only [List.getElem_set_self]
      exact put6_node t s (h.node k hk)
    · rw [List.getElem_set_ne e]
      exact put6_keep (h.node i hi') (Or.inr (by omega))
  · rcases List.mem_or_eq_of_mem_set hp with hp | rfl
    · exact h.fine p hp
    · exact hf
  · rcases List.mem_or_eq_of_mem_set hp with hp | rfl
    · exact keepL _ _ (h.kids p hp)
    · exact keepL _ _ hl
theorem FullE.fresh {B g : Nat} {wr w2 : World} {xs : List (En × Value)} {l : List Tm} {s2 : Value} (h : FullE B wr g xs) (hB : B ≤ wr.heap.size) (hk : LiesP w2 (Own wr.heap.size w2) l s2) : LiesP w2 (fun b => Own B w2 b ∧ b ≠ g) l s2 := by
  have hg := h.lt
  exact hk.keep (fun _ _ _ => rfl) (fun b hb _ => ⟨hb.from hB, by have := hb.1; omega⟩)
theorem FullE.lies {B g cap : Nat} {w : World} {xs : List (En × Value)} (h : FullE B w g xs) (hc : xs.length ≤ cap) (hm : cap ≤ maxLen) : LiesEP w B (xs.map (·.1)) (.slice (some ⟨g, 0, none⟩) xs.length cap) := by
  refine ⟨some ⟨g, 0, none⟩, cap, fun i => (xs[i]?.map (·.2)).getD (.slice none 0 0), by simp, by simpa using hc, hm, (fun x hx => by obtain ⟨p, hp, rfl⟩ := List.mem_map.1 hx; exact h.fine p hp), fun i hi => ?_, fun i hi => ?_⟩
  · have hi' : i < xs.length := by simpa using hi
    refine ⟨g, rfl, ⟨h.above, h.open'⟩, ?_⟩
    simp only [List.getElem_map, List.getElem?_eq_getElem hi', Option.map_some, Option.getD_some]
    exact h.node i hi'
  · have hi' : i < xs.length := by simpa using hi
    simp only [List.getElem_map, List.getElem?_eq_getElem hi', Option.map_some, Option.getD_some]
    exact (h.kids _ (List.getElem_mem hi')).keep (fun _ _ _ => rfl) (fun _ hb _ => hb.1)

/-- An entry is appended that was laid into a block of its own. -/
theorem newsE (w : World) (t : En) (s : Value) (T : TypeId) : ∀ j u, (cells6 [(t, s)])[j]? = some u → (w.alloc (.cells #[.int .i64 t.a.k, .int .i64 t.a.i, .int .i64 t.a.j, .int .i64 t.a.n, s, .int .i64 t.i] T)).cell? ((⟨w.heap.size, 0, none⟩ : Addr).add j) = some u :=
  World.news_of_block (alloc_new w _)
theorem madeE_above {B : Nat} {w : World} {v : Value} {ps : List (En × Value)} (h : MadeE B w v ps) : ∀ k, v.ownBlock = some k → B ≤ k := fun k hk => (h.own.lt k hk).1
theorem madeE_push {B : Nat} {wr w2 w3 : World} {v : Value} {ps : List (En × Value)} {t : En} {s2 : Value} {g cap : Nat} (h : MadeE B wr v ps) (hf : t.fine) (hB : B ≤ wr.heap.size) (hb2 : Below wr.heap.size wr w2) (hk : LiesP w2 (Own wr.heap.size w2) t.a.kids s2) (o : Obj)
    (hown : w3.ownsRow B 38 6 (.slice (some ⟨g, 0, none⟩) (ps.length + 1) cap) (ps.length + 1) (cells6 ps ++ cells6 [(t, s2)])) (hgrow : (w2.alloc o).grownBy w3 v.ownBlock) (hat : v.ownBlock = some g ∨ g = w2.heap.size + 1) :
    MadeE B w3 (.slice (some ⟨g, 0, none⟩) (ps.length + 1) cap) (ps ++ [(t, s2)]) :=
  madeE_step (madeE_later (madeE_later h hb2) ((Below.refl _ _).alloc (Nat.le_refl _) _)) hf
    (hk.keep (fun b _ hlt => Below.heap_alloc _ _ _ hlt) (fun b hb hlt => ⟨(hb.same (Below.heap_alloc _ _ _ hlt)).from hB, madeE_block h hb.1⟩)) hown hgrow (by simpa using hat)
theorem belowE_push {B : Nat} {w wr w2 w3 : World} {v : Value} {ps : List (En × Value)} (h : MadeE B wr v ps) (hb : Below B w wr) (hB : B ≤ wr.heap.size) (hb2 : Below wr.heap.size wr w2) (o : Obj) (hgrow : (w2.alloc o).grownBy w3 v.ownBlock) : Below B w w3 :=
  ((below_call hb hb2 hB).alloc (Nat.le_trans hB hb2.size) o).grown hgrow (by have := hb2.size; simp; omega) (madeE_above h)
theorem info_entry : (Try.prog.info? 38).map (fun i => (i.zero, i.size, i.bytes)) = some (some (.agg #[.int .i64 0, .int .i64 0, .int .i64 0, .int .i64 0, .slice none 0 0, .int .i64 0]), 6, 64) := by kernel_rfl
end Go.Proofs.Ytjhdcjjoignioaa

/-! An operation of a drawn region, taken ahead by its number, its slot and its name. -/
namespace Go.Proofs.Ytjhdcjjoignioaa
open Go

theorem take_at {P : Program} {ops : Array Oper} {Q : Exit → Act → World → Prop} {md : Region.Mode} {S : World → Prop} (i d : Nat) (oi : Oper) {v : Value} {fuel : Nat} {listed : Array Bool} {a : Act} {w : World} (hy : YieldsIf P ops S oi v a)
    (h : wpAnyH P md ops Q S fuel (listed.setIfInBounds i true) (a.put (some d) v) w)
    (hi : ops[i]? = some oi := by rfl) (hd : oi.dst = some d := by rfl)
    (hs : Region.noSelect ops = true := by kernel_rfl) (hf : Region.free md ops listed i = true := by kernel_rfl) (hr : (Region.ready md ops listed).contains i = true := by kernel_rfl)
    (hQ : ∀ c a w, Q (.panic c) (a.put (some d) v) w → Q (.panic c) a w := by exact fun _ _ _ h => h) (hS : S w := by assumption) : wpAnyH P md ops Q S (fuel + 1) listed a w := by
  rw [← hd] at hQ h
  exact wpAnyH_take hi hs hf hr hQ hy hS h
end Go.Proofs.Ytjhdcjjoignioaa

/-! transhipkeep.Ctx, GreatCtx; ctx.Same. -/
namespace Go.Proofs.Ytjhdcjjoignioaa
open Go.RowKit

def sameE (a b : En) : Bool := (a.i == b.i) && sameB a.a b.a
def ctxB : List En → List En → Bool
  | [], [] => true
  | a :: l, b :: m => sameE a b && ctxB l m
  | [], _ :: _ => false
  | _ :: _, [] => false
theorem sameE_iff (a b : En) : sameE a b = true ↔ a = b := by
  unfold sameE
  rw [Bool.and_eq_true, beq_iff_eq, sameB_iff]
  cases a; cases b; simp; exact and_comm
theorem ctxB_iff : ∀ (l m : List En), ctxB l m = true ↔ l = m
  | [], [] => by simp [ctxB]
  | a :: l, b :: m => by rw [ctxB, Bool.and_eq_true, sameE_iff, ctxB_iff l m]; simp
  | [], _ :: _ => by simp [ctxB]
  | _ :: _, [] => by simp [ctxB]
theorem ctxB_self (l : List En) : ctxB l l = true := (ctxB_iff l l).2 rfl
theorem ctxB_take : ∀ (l m : List En) (k : Nat) (h : k < l.length) (h' : k < m.length), ctxB (l.take (k + 1)) (m.take (k + 1)) = (ctxB (l.take k) (m.take k) && sameE l[k] m[k])
  | x :: r, y :: s, 0, _, _ => by simp [ctxB]
  | x :: r, y :: s, k + 1, h, h' => by
    simp only [List.take_succ_cons, ctxB, List.getElem_cons_succ]
    rw [ctxB_take r s k (by simpa using h) (by simpa using h'), Bool.and_assoc]
theorem ctxB_of {l m : List En} {k : Nat} (h : k < l.length) (h' : k < m.length) (hs : sameE l[k] m[k] = false) : ctxB l m = false := by
  cases hc : ctxB l m with
  | false => rfl
  | true =>
    have := (ctxB_iff l m).1 hc
    subst this
    rw [(sameE_iff _ _).2 rfl] at hs; cases hs
theorem ctxB_ne {l m : List En} (h : l.length ≠ m.length) : ctxB l m = false := by
  cases hc : ctxB l m with
  | false => rfl
  | true => exact absurd (congrArg List.length ((ctxB_iff l m).1 hc)) h

theorem en_keep1 {v w' : World} {b o : Nat} {e : En} {s : Value} (h : Kept v w') (hx : ENode v b o e s) : Kept v w' ∧ w'.cell? ⟨b, o, none⟩ = some (.int .i64 e.a.k) ∧ w'.cell? ⟨b, o + 1, none⟩ = some (.int .i64 e.a.i) ∧ w'.cell? ⟨b, o + 2, none⟩ = some (.int .i64 e.a.j) ∧ w'.cell? ⟨b, o + 3, none⟩ = some (.int .i64 e.a.n) ∧ w'.cell? ⟨b, o + 4, none⟩ = some (s) ∧ w'.cell? ⟨b, o + 5, none⟩ = some (.int .i64 e.i) := by
  obtain ⟨x0, x1, x2, x3, x4, x5⟩ := hx.below h hx.lt
  exact ⟨h, x0, x1, x2, x3, x4, x5⟩
theorem en_keep2 {v w' : World} {b o b2 o2 : Nat} {e e2 : En} {s s2 : Value} (h : Kept v w') (hx : ENode v b o e s) (hy : ENode v b2 o2 e2 s2) : Kept v w' ∧ w'.cell? ⟨b, o, none⟩ = some (.int .i64 e.a.k) ∧ w'.cell? ⟨b, o + 1, none⟩ = some (.int .i64 e.a.i) ∧ w'.cell? ⟨b, o + 2, none⟩ = some (.int .i64 e.a.j) ∧ w'.cell? ⟨b, o + 3, none⟩ = some (.int .i64 e.a.n) ∧ w'.cell? ⟨b, o + 4, none⟩ = some (s) ∧ w'.cell? ⟨b, o + 5, none⟩ = some (.int .i64 e.i) ∧ w'.cell? ⟨b2, o2, none⟩ = some (.int .i64 e2.a.k) ∧ w'.cell? ⟨b2, o2 + 1, none⟩ = some (.int .i64 e2.a.i) ∧ w'.cell? ⟨b2, o2 + 2, none⟩ = some (.int .i64 e2.a.j) ∧ w'.cell? ⟨b2, o2 + 3, none⟩ = some (.int .i64 e2.a.n) ∧ w'.cell? ⟨b2, o2 + 4, none⟩ = some (s2) ∧ w'.cell? ⟨b2, o2 + 5, none⟩ = some (.int .i64 e2.i) := by
  obtain ⟨x0, x1, x2, x3, x4, x5⟩ := hx.below h hx.lt
  obtain ⟨y0, y1, y2, y3, y4, y5⟩ := hy.below h hy.lt
  exact ⟨h, x0, x1, x2, x3, x4, x5, y0, y1, y2, y3, y4, y5⟩
def kc0 : Oper := { dst := some 17, op := Go.Op.move (Go.Operand.tmp 0), type := 22, pos := "keep.go:56", after := #[], guard := none }
def kc1 : Oper := { dst := some 18, op := Go.Op.move (Go.Operand.tmp 5), type := 3, pos := "keep.go:56", after := #[], guard := none }
def kc2 : Oper := { dst := some 19, op := Go.Op.indexAddr 22 (Go.Operand.tmp 17) (Go.Operand.tmp 18), type := 0, pos := "keep.go:56", after := #[{ on := 0, ground := Go.Ground.data }, { on := 1, ground := Go.Ground.data }], guard := none }
def kc3 : Oper := { dst := some 20, op := Go.Op.fieldAddr 38 (Go.Operand.tmp 19) 1, type := 0, pos := "keep.go:56", after := #[{ on := 2, ground := Go.Ground.data }], guard := none }
def kc4 : Oper := { dst := some 21, op := Go.Op.load 3 (Go.Operand.tmp 20), type := 3, pos := "keep.go:56", after := #[{ on := 3, ground := Go.Ground.data }], guard := none }
def kc5 : Oper := { dst := some 22, op := Go.Op.move (Go.Operand.tmp 1), type := 22, pos := "keep.go:56", after := #[], guard := none }
def kc6 : Oper := { dst := some 23, op := Go.Op.move (Go.Operand.tmp 5), type := 3, pos := "keep.go:56", after := #[], guard := none }
def kc7 : Oper := { dst := some 24, op := Go.Op.indexAddr 22 (Go.Operand.tmp 22) (Go.Operand.tmp 23), type := 0, pos := "keep.go:56", after := #[{ on := 5, ground := Go.Ground.data }, { on := 6, ground := Go.Ground.data }], guard := none }
def kc8 : Oper := { dst := some 25, op := Go.Op.fieldAddr 38 (Go.Operand.tmp 24) 1, type := 0, pos := "keep.go:56", after := #[{ on := 7, ground := Go.Ground.data }], guard := none }
def kc9 : Oper := { dst := some 26, op := Go.Op.load 3 (Go.Operand.tmp 25), type := 3, pos := "keep.go:56", after := #[{ on := 8, ground := Go.Ground.data }], guard := none }
def kc10 : Oper := { dst := some 27, op := Go.Op.binOp Go.BinOp.neq 3 (Go.Operand.tmp 21) (Go.Operand.tmp 26) 3, type := 4, pos := "keep.go:56", after := #[{ on := 4, ground := Go.Ground.data }, { on := 9, ground := Go.Ground.data }], guard := none }
def kc11 : Oper := { dst := some 28, op := Go.Op.move (Go.Operand.tmp 27), type := 4, pos := "keep.go:56", after := #[{ on := 10, ground := Go.Ground.data }], guard := none }
def kc12 : Oper := { dst := some 29, op := Go.Op.move (Go.Operand.tmp 0), type := 22, pos := "keep.go:56", after := #[{ on := 11, ground := Go.Ground.guard }], guard := some (11, false) }
def kc13 : Oper := { dst := some 30, op := Go.Op.move (Go.Operand.tmp 5), type := 3, pos := "keep.go:56", after := #[{ on := 11, ground := Go.Ground.guard }], guard := some (11, false) }
def kc14 : Oper := { dst := some 31, op := Go.Op.indexAddr 22 (Go.Operand.tmp 29) (Go.Operand.tmp 30), type := 0, pos := "keep.go:56", after := #[{ on := 12, ground := Go.Ground.data }, { on := 13, ground := Go.Ground.data }, { on := 11, ground := Go.Ground.guard }], guard := some (11, false) }
def kc15 : Oper := { dst := some 32, op := Go.Op.fieldAddr 38 (Go.Operand.tmp 31) 0, type := 0, pos := "keep.go:56", after := #[{ on := 14, ground := Go.Ground.data }, { on := 11, ground := Go.Ground.guard }], guard := some (11, false) }
def kc16 : Oper := { dst := some 33, op := Go.Op.load 26 (Go.Operand.tmp 32), type := 26, pos := "keep.go:56", after := #[{ on := 15, ground := Go.Ground.data }, { on := 11, ground := Go.Ground.guard }], guard := some (11, false) }
def kc17 : Oper := { dst := some 34, op := Go.Op.move (Go.Operand.tmp 1), type := 22, pos := "keep.go:56", after := #[{ on := 11, ground := Go.Ground.guard }], guard := some (11, false) }
def kc18 : Oper := { dst := some 35, op := Go.Op.move (Go.Operand.tmp 5), type := 3, pos := "keep.go:56", after := #[{ on := 11, ground := Go.Ground.guard }], guard := some (11, false) }
def kc19 : Oper := { dst := some 36, op := Go.Op.indexAddr 22 (Go.Operand.tmp 34) (Go.Operand.tmp 35), type := 0, pos := "keep.go:56", after := #[{ on := 17, ground := Go.Ground.data }, { on := 18, ground := Go.Ground.data }, { on := 11, ground := Go.Ground.guard }], guard := some (11, false) }
def kc20 : Oper := { dst := some 37, op := Go.Op.fieldAddr 38 (Go.Operand.tmp 36) 0, type := 0, pos := "keep.go:56", after := #[{ on := 19, ground := Go.Ground.data }, { on := 11, ground := Go.Ground.guard }], guard := some (11, false) }
def kc21 : Oper := { dst := some 38, op := Go.Op.load 26 (Go.Operand.tmp 37), type := 26, pos := "keep.go:56", after := #[{ on := 20, ground := Go.Ground.data }, { on := 11, ground := Go.Ground.guard }], guard := some (11, false) }
def kc22 : Oper := { dst := some 39, op := Go.Op.call { callee := Go.Callee.value (Go.Operand.func 13), args := #[Go.Operand.tmp 33, Go.Operand.tmp 38], argTypes := #[26, 26] }, type := 4, pos := "keep.go:56", after := #[{ on := 16, ground := Go.Ground.data }, { on := 21, ground := Go.Ground.data }, { on := 11, ground := Go.Ground.chain }, { on := 11, ground := Go.Ground.guard }], guard := some (11, false) }
def kc23 : Oper := { dst := some 40, op := Go.Op.unOp Go.UnOp.not 4 (Go.Operand.tmp 39), type := 4, pos := "keep.go:56", after := #[{ on := 22, ground := Go.Ground.data }, { on := 11, ground := Go.Ground.guard }], guard := some (11, false) }
def kc24 : Oper := { dst := some 41, op := Go.Op.pick (Go.Operand.tmp 28) (Go.Operand.const (Go.Value.bool true)) (Go.Operand.tmp 40), type := 4, pos := "keep.go:56", after := #[{ on := 11, ground := Go.Ground.data }, { on := 23, ground := Go.Ground.data }], guard := none }
set_option maxRecDepth 20000 in
set_option maxHeartbeats 4000000 in
theorem keepctx_any (l m : List En) (w : World) (s r : Value) (hl : LiesE w l s) (hm : LiesE w m r) : Calls Try.prog 18 #[s, r] w fun e w' => e = .returned (.bool (ctxB l m)) ∧ Below w.heap.size w w' := by
  obtain ⟨a, cap, S, rfl, hc, hmx, -, hn, hk⟩ := hl.out
  obtain ⟨a2, cap2, S2, rfl, hc2, hmx2, -, hn2, hk2⟩ := hm.out
  unfold maxLen at hmx hmx2
  have HN := Lib.hid hn
  have HK := Lib.hid hk
  have HN2 := Lib.hid hn2
  have HK2 := Lib.hid hk2
  clear hn hk hn2 hk2 hl hm
  by_cases hlen : l.length = m.length
  rotate_left
  · have h1 : ((l.length : Int) == (m.length : Int)) = false := by simp; omega
    have h2 : ((l.length : Int) != (m.length : Int)) = true := by simp; omega
    have HS := Lib.hid (ctxB_ne hlen)
    clear hlen
    go_enter Try.func18, Try.ntmps18
    go_wp2
    go_ret
    exact ⟨ret_bool HS.out.symm, Below.refl _ _⟩
  have h1 : ((l.length : Int) == (m.length : Int)) = true := by simp; omega
  have h2 : ((l.length : Int) != (m.length : Int)) = false := by simp; omega
  have HL := Lib.hid hlen
  clear hlen
  go_enter Try.func18, Try.ntmps18
  go_wp2
  go_loopw [5] (fun iv wr => ∃ k : Nat, k ≤ l.length ∧ iv = .int .i64 k ∧ Hid (ctxB (l.take k) (m.take k) = true) ∧ Below w.heap.size w wr) (fun iv _ => l.length - (intOf iv).toNat)
  case atStart => exact ⟨0, Nat.zero_le _, rfl, by simp [Hid, ctxB], Below.refl _ _⟩
  case round =>
    obtain ⟨k, hk, rfl, hgood, hb⟩ := hrel
    by_cases hlt : k < l.length
    · have hlt2 : k < m.length := by have := HL.out; omega
      obtain ⟨b, o, rfl, hx⟩ := HN.out k hlt
      obtain ⟨b2, o2, rfl, hx2⟩ := HN2.out k hlt2
      have hx := hx.below hb hx.lt
      have hx2 := hx2.below hb hx2.lt
      have hq := (HK.out k hlt).keep hb
      have hq2 := (HK2.out k hlt2).keep hb
      obtain ⟨a', cap', S', hS, -⟩ := hq.out
      obtain ⟨a2', cap2', S2', hS2, -⟩ := hq2.out
      rw [hS] at hx hq
      rw [hS2] at hx2 hq2
      have HQ := Lib.hid hq
      have HQ2 := Lib.hid hq2
      have HX := Lib.hid hx
      have HY := Lib.hid hx2
      have HT := Lib.hid (ctxB_take l m k hlt hlt2)
      have HO := Lib.hid (fun h => ctxB_of (l := l) (m := m) hlt hlt2 h)
      have hk0 := kept_start wr
      obtain ⟨x0, x1, x2, x3, x4, x5⟩ := hx
      obtain ⟨y0, y1, y2, y3, y4, y5⟩ := hx2
      clear hS hS2 hq hq2
      by_cases hi : l[k].i = m[k].i
      · have i1 : (l[k].i == m[k].i) = true := by simpa using hi
        have i2 : (l[k].i != m[k].i) = false := by simpa using hi
        cases hs : sameB l[k].a m[k].a with
        | false =>
          have HSB := Lib.hid hs
          have HF := Lib.hid (HO.out (by unfold sameE; rw [hs, Bool.and_false]))
          clear hs hi
          go_wp2_with fail
          refine wp_region_held_drew (S := fun w' => Kept wr w' ∧ w'.cell? ⟨b, o + k * 6, none⟩ = some (.int .i64 l[k].a.k) ∧ w'.cell? ⟨b, o + k * 6 + 1, none⟩ = some (.int .i64 l[k].a.i) ∧ w'.cell? ⟨b, o + k * 6 + 2, none⟩ = some (.int .i64 l[k].a.j) ∧ w'.cell? ⟨b, o + k * 6 + 3, none⟩ = some (.int .i64 l[k].a.n) ∧ w'.cell? ⟨b, o + k * 6 + 4, none⟩ = some ((.slice a' l[k].a.kids.length cap')) ∧ w'.cell? ⟨b, o + k * 6 + 5, none⟩ = some (.int .i64 l[k].i) ∧ w'.cell? ⟨b2, o2 + k * 6, none⟩ = some (.int .i64 m[k].a.k) ∧ w'.cell? ⟨b2, o2 + k * 6 + 1, none⟩ = some (.int .i64 m[k].a.i) ∧ w'.cell? ⟨b2, o2 + k * 6 + 2, none⟩ = some (.int .i64 m[k].a.j) ∧ w'.cell? ⟨b2, o2 + k * 6 + 3, none⟩ = some (.int .i64 m[k].a.n) ∧ w'.cell? ⟨b2, o2 + k * 6 + 4, none⟩ = some ((.slice a2' m[k].a.kids.length cap2')) ∧ w'.cell? ⟨b2, o2 + k * 6 + 5, none⟩ = some (.int .i64 m[k].i)) (by kernel_rfl) ?_ (fun hHeld => ?_)
          · (try dsimp only)
            (((with_reducible refine en_keep2 ?_ HX.out HY.out); repeat (first | with_reducible assumption | with_reducible exact hk0 | with_reducible refine kept_drew ?_)))
          refine take_at 0 17 kc0 (v := ?_) (Or.inl ⟨by rfl, ?_⟩) ?_
          rotate_left 1
          · ((intro w hSw; (try dsimp only at hSw); unfold kc0; go_simp) <;> with_reducible rfl)
          (try simp only [Act.put, List.setIfInBounds_toArray, List.set_cons_zero, List.set_cons_succ])
          refine take_at 1 18 kc1 (v := ?_) (Or.inl ⟨by rfl, ?_⟩) ?_
          rotate_left 1
          · ((intro w hSw; (try dsimp only at hSw); unfold kc1; go_simp) <;> with_reducible rfl)
          (try simp only [Act.put, List.setIfInBounds_toArray, List.set_cons_zero, List.set_cons_succ])
          refine take_at 2 19 kc2 (v := ?_) (Or.inl ⟨by rfl, ?_⟩) ?_
          rotate_left 1
          · ((intro w hSw; (try dsimp only at hSw); unfold kc2; go_simp) <;> with_reducible rfl)
          (try simp only [Act.put, List.setIfInBounds_toArray, List.set_cons_zero, List.set_cons_succ])
          refine take_at 3 20 kc3 (v := ?_) (Or.inl ⟨by rfl, ?_⟩) ?_
          rotate_left 1
          · ((intro w hSw; (try dsimp only at hSw); unfold kc3; go_simp) <;> with_reducible rfl)
          (try simp only [Act.put, List.setIfInBounds_toArray, List.set_cons_zero, List.set_cons_succ])
          refine take_at 4 21 kc4 (v := ?_) (Or.inl ⟨by rfl, ?_⟩) ?_
          rotate_left 1
          · ((intro w hSw; (try dsimp only at hSw); unfold kc4; go_simp) <;> with_reducible rfl)
          (try simp only [Act.put, List.setIfInBounds_toArray, List.set_cons_zero, List.set_cons_succ])
          refine take_at 5 22 kc5 (v := ?_) (Or.inl ⟨by rfl, ?_⟩) ?_
          rotate_left 1
          · ((intro w hSw; (try dsimp only at hSw); unfold kc5; go_simp) <;> with_reducible rfl)
          (try simp only [Act.put, List.setIfInBounds_toArray, List.set_cons_zero, List.set_cons_succ])
          refine take_at 6 23 kc6 (v := ?_) (Or.inl ⟨by rfl, ?_⟩) ?_
          rotate_left 1
          · ((intro w hSw; (try dsimp only at hSw); unfold kc6; go_simp) <;> with_reducible rfl)
          (try simp only [Act.put, List.setIfInBounds_toArray, List.set_cons_zero, List.set_cons_succ])
          refine take_at 7 24 kc7 (v := ?_) (Or.inl ⟨by rfl, ?_⟩) ?_
          rotate_left 1
          · ((intro w hSw; (try dsimp only at hSw); unfold kc7; go_simp) <;> with_reducible rfl)
          (try simp only [Act.put, List.setIfInBounds_toArray, List.set_cons_zero, List.set_cons_succ])
          refine take_at 8 25 kc8 (v := ?_) (Or.inl ⟨by rfl, ?_⟩) ?_
          rotate_left 1
          · ((intro w hSw; (try dsimp only at hSw); unfold kc8; go_simp) <;> with_reducible rfl)
          (try simp only [Act.put, List.setIfInBounds_toArray, List.set_cons_zero, List.set_cons_succ])
          refine take_at 9 26 kc9 (v := ?_) (Or.inl ⟨by rfl, ?_⟩) ?_
          rotate_left 1
          · ((intro w hSw; (try dsimp only at hSw); unfold kc9; go_simp) <;> with_reducible rfl)
          (try simp only [Act.put, List.setIfInBounds_toArray, List.set_cons_zero, List.set_cons_succ])
          refine take_at 10 27 kc10 (v := ?_) (Or.inl ⟨by rfl, ?_⟩) ?_
          rotate_left 1
          · ((intro w hSw; (try dsimp only at hSw); unfold kc10; go_simp) <;> with_reducible rfl)
          (try simp only [Act.put, List.setIfInBounds_toArray, List.set_cons_zero, List.set_cons_succ])
          refine take_at 11 28 kc11 (v := ?_) (Or.inl ⟨by rfl, ?_⟩) ?_
          rotate_left 1
          · ((intro w hSw; (try dsimp only at hSw); unfold kc11; go_simp) <;> with_reducible rfl)
          (try simp only [Act.put, List.setIfInBounds_toArray, List.set_cons_zero, List.set_cons_succ])
          refine take_at 12 29 kc12 (v := ?_) (Or.inl ⟨by rfl, ?_⟩) ?_
          rotate_left 1
          · ((intro w hSw; (try dsimp only at hSw); unfold kc12; go_simp) <;> with_reducible rfl)
          (try simp only [Act.put, List.setIfInBounds_toArray, List.set_cons_zero, List.set_cons_succ])
          refine take_at 13 30 kc13 (v := ?_) (Or.inl ⟨by rfl, ?_⟩) ?_
          rotate_left 1
          · ((intro w hSw; (try dsimp only at hSw); unfold kc13; go_simp) <;> with_reducible rfl)
          (try simp only [Act.put, List.setIfInBounds_toArray, List.set_cons_zero, List.set_cons_succ])
          refine take_at 14 31 kc14 (v := ?_) (Or.inl ⟨by rfl, ?_⟩) ?_
          rotate_left 1
          · ((intro w hSw; (try dsimp only at hSw); unfold kc14; go_simp) <;> with_reducible rfl)
          (try simp only [Act.put, List.setIfInBounds_toArray, List.set_cons_zero, List.set_cons_succ])
          refine take_at 15 32 kc15 (v := ?_) (Or.inl ⟨by rfl, ?_⟩) ?_
          rotate_left 1
          · ((intro w hSw; (try dsimp only at hSw); unfold kc15; go_simp) <;> with_reducible rfl)
          (try simp only [Act.put, List.setIfInBounds_toArray, List.set_cons_zero, List.set_cons_succ])
          refine take_at 16 33 kc16 (v := ?_) (Or.inl ⟨by rfl, ?_⟩) ?_
          rotate_left 1
          · ((intro w hSw; (try dsimp only at hSw); unfold kc16; go_simp) <;> with_reducible rfl)
          (try simp only [Act.put, List.setIfInBounds_toArray, List.set_cons_zero, List.set_cons_succ])
          refine take_at 17 34 kc17 (v := ?_) (Or.inl ⟨by rfl, ?_⟩) ?_
          rotate_left 1
          · ((intro w hSw; (try dsimp only at hSw); unfold kc17; go_simp) <;> with_reducible rfl)
          (try simp only [Act.put, List.setIfInBounds_toArray, List.set_cons_zero, List.set_cons_succ])
          refine take_at 18 35 kc18 (v := ?_) (Or.inl ⟨by rfl, ?_⟩) ?_
          rotate_left 1
          · ((intro w hSw; (try dsimp only at hSw); unfold kc18; go_simp) <;> with_reducible rfl)
          (try simp only [Act.put, List.setIfInBounds_toArray, List.set_cons_zero, List.set_cons_succ])
          refine take_at 19 36 kc19 (v := ?_) (Or.inl ⟨by rfl, ?_⟩) ?_
          rotate_left 1
          · ((intro w hSw; (try dsimp only at hSw); unfold kc19; go_simp) <;> with_reducible rfl)
          (try simp only [Act.put, List.setIfInBounds_toArray, List.set_cons_zero, List.set_cons_succ])
          refine take_at 20 37 kc20 (v := ?_) (Or.inl ⟨by rfl, ?_⟩) ?_
          rotate_left 1
          · ((intro w hSw; (try dsimp only at hSw); unfold kc20; go_simp) <;> with_reducible rfl)
          (try simp only [Act.put, List.setIfInBounds_toArray, List.set_cons_zero, List.set_cons_succ])
          refine take_at 21 38 kc21 (v := ?_) (Or.inl ⟨by rfl, ?_⟩) ?_
          rotate_left 1
          · ((intro w hSw; (try dsimp only at hSw); unfold kc21; go_simp) <;> with_reducible rfl)
          (try simp only [Act.put, List.setIfInBounds_toArray, List.set_cons_zero, List.set_cons_succ])
          refine wpAnyH_ready (rs := [22]) (by kernel_rfl) (by simp) ?_
          refine AllReadyH.cons (o := kc22) rfl (fun K hK => ?_) ?_
          · unfold kc22
            (try dsimp only [En.fine])
            go_simp
            (go_at_call 13; have hS := hHeld.1; refine (keepsame_any l[k].a m[k].a _ _ _ (kept_lies hS HQ.out) (kept_lies hS HQ2.out)).mono ?_; rw [HSB.out]; rintro e wn ⟨rfl, hbn⟩; have hh := kept_call hS hbn; clear hbn hS hHeld)
            refine hK.out _ _ ?_ (fun hHeld => ?_)
            · (try dsimp only)
              (((with_reducible refine en_keep2 ?_ HX.out HY.out); repeat (first | with_reducible assumption | with_reducible exact hk0 | with_reducible refine kept_drew ?_)))
            clear hK K
            (try simp only [Act.put, List.setIfInBounds_toArray, List.set_cons_zero, List.set_cons_succ])
            refine take_at 23 40 kc23 (v := ?_) (Or.inl ⟨by rfl, ?_⟩) ?_
            rotate_left 1
            · ((intro w hSw; (try dsimp only at hSw); unfold kc23; go_simp) <;> with_reducible rfl)
            (try simp only [Act.put, List.setIfInBounds_toArray, List.set_cons_zero, List.set_cons_succ])
            refine take_at 24 41 kc24 (v := ?_) (Or.inl ⟨by rfl, ?_⟩) ?_
            rotate_left 1
            · ((intro w hSw; (try dsimp only at hSw); unfold kc24; go_simp) <;> with_reducible rfl)
            (try simp only [Act.put, List.setIfInBounds_toArray, List.set_cons_zero, List.set_cons_succ])
            refine wpAnyH_done (by kernel_rfl) ?_ _
            have hkE := hHeld.1
            clear hHeld
            go_wp2_with fail
            go_ret
            exact ⟨ret_bool HF.out.symm, hb.trans (Below.mono hkE hb.size)⟩
          exact AllReadyH.nil
        | true =>
          have HSB := Lib.hid hs
          have HS := Lib.hid (show sameE l[k] m[k] = true by unfold sameE; rw [hs, i1]; rfl)
          clear hs hi
          go_wp2_with fail
          refine wp_region_held_drew (S := fun w' => Kept wr w' ∧ w'.cell? ⟨b, o + k * 6, none⟩ = some (.int .i64 l[k].a.k) ∧ w'.cell? ⟨b, o + k * 6 + 1, none⟩ = some (.int .i64 l[k].a.i) ∧ w'.cell? ⟨b, o + k * 6 + 2, none⟩ = some (.int .i64 l[k].a.j) ∧ w'.cell? ⟨b, o + k * 6 + 3, none⟩ = some (.int .i64 l[k].a.n) ∧ w'.cell? ⟨b, o + k * 6 + 4, none⟩ = some ((.slice a' l[k].a.kids.length cap')) ∧ w'.cell? ⟨b, o + k * 6 + 5, none⟩ = some (.int .i64 l[k].i) ∧ w'.cell? ⟨b2, o2 + k * 6, none⟩ = some (.int .i64 m[k].a.k) ∧ w'.cell? ⟨b2, o2 + k * 6 + 1, none⟩ = some (.int .i64 m[k].a.i) ∧ w'.cell? ⟨b2, o2 + k * 6 + 2, none⟩ = some (.int .i64 m[k].a.j) ∧ w'.cell? ⟨b2, o2 + k * 6 + 3, none⟩ = some (.int .i64 m[k].a.n) ∧ w'.cell? ⟨b2, o2 + k * 6 + 4, none⟩ = some ((.slice a2' m[k].a.kids.length cap2')) ∧ w'.cell? ⟨b2, o2 + k * 6 + 5, none⟩ = some (.int .i64 m[k].i)) (by kernel_rfl) ?_ (fun hHeld => ?_)
          · (try dsimp only)
            (((with_reducible refine en_keep2 ?_ HX.out HY.out); repeat (first | with_reducible assumption | with_reducible exact hk0 | with_reducible refine kept_drew ?_)))
          refine take_at 0 17 kc0 (v := ?_) (Or.inl ⟨by rfl, ?_⟩) ?_
          rotate_left 1
          · ((intro w hSw; (try dsimp only at hSw); unfold kc0; go_simp) <;> with_reducible rfl)
          (try simp only [Act.put, List.setIfInBounds_toArray, List.set_cons_zero, List.set_cons_succ])
          refine take_at 1 18 kc1 (v := ?_) (Or.inl ⟨by rfl, ?_⟩) ?_
          rotate_left 1
          · ((intro w hSw; (try dsimp only at hSw); unfold kc1; go_simp) <;> with_reducible rfl)
          (try simp only [Act.put, List.setIfInBounds_toArray, List.set_cons_zero, List.set_cons_succ])
          refine take_at 2 19 kc2 (v := ?_) (Or.inl ⟨by rfl, ?_⟩) ?_
          rotate_left 1
          · ((intro w hSw; (try dsimp only at hSw); unfold kc2; go_simp) <;> with_reducible rfl)
          (try simp only [Act.put, List.setIfInBounds_toArray, List.set_cons_zero, List.set_cons_succ])
          refine take_at 3 20 kc3 (v := ?_) (Or.inl ⟨by rfl, ?_⟩) ?_
          rotate_left 1
          · ((intro w hSw; (try dsimp only at hSw); unfold kc3; go_simp) <;> with_reducible rfl)
          (try simp only [Act.put, List.setIfInBounds_toArray, List.set_cons_zero, List.set_cons_succ])
          refine take_at 4 21 kc4 (v := ?_) (Or.inl ⟨by rfl, ?_⟩) ?_
          rotate_left 1
          · ((intro w hSw; (try dsimp only at hSw); unfold kc4; go_simp) <;> with_reducible rfl)
          (try simp only [Act.put, List.setIfInBounds_toArray, List.set_cons_zero, List.set_cons_succ])
          refine take_at 5 22 kc5 (v := ?_) (Or.inl ⟨by rfl, ?_⟩) ?_
          rotate_left 1
          · ((intro w hSw; (try dsimp only at hSw); unfold kc5; go_simp) <;> with_reducible rfl)
          (try simp only [Act.put, List.setIfInBounds_toArray, List.set_cons_zero, List.set_cons_succ])
          refine take_at 6 23 kc6 (v := ?_) (Or.inl ⟨by rfl, ?_⟩) ?_
          rotate_left 1
          · ((intro w hSw; (try dsimp only at hSw); unfold kc6; go_simp) <;> with_reducible rfl)
          (try simp only [Act.put, List.setIfInBounds_toArray, List.set_cons_zero, List.set_cons_succ])
          refine take_at 7 24 kc7 (v := ?_) (Or.inl ⟨by rfl, ?_⟩) ?_
          rotate_left 1
          · ((intro w hSw; (try dsimp only at hSw); unfold kc7; go_simp) <;> with_reducible rfl)
          (try simp only [Act.put, List.setIfInBounds_toArray, List.set_cons_zero, List.set_cons_succ])
          refine take_at 8 25 kc8 (v := ?_) (Or.inl ⟨by rfl, ?_⟩) ?_
          rotate_left 1
          · ((intro w hSw; (try dsimp only at hSw); unfold kc8; go_simp) <;> with_reducible rfl)
          (try simp only [Act.put, List.setIfInBounds_toArray, List.set_cons_zero, List.set_cons_succ])
          refine take_at 9 26 kc9 (v := ?_) (Or.inl ⟨by rfl, ?_⟩) ?_
          rotate_left 1
          · ((intro w hSw; (try dsimp only at hSw); unfold kc9; go_simp) <;> with_reducible rfl)
          (try simp only [Act.put, List.setIfInBounds_toArray, List.set_cons_zero, List.set_cons_succ])
          refine take_at 10 27 kc10 (v := ?_) (Or.inl ⟨by rfl, ?_⟩) ?_
          rotate_left 1
          · ((intro w hSw; (try dsimp only at hSw); unfold kc10; go_simp) <;> with_reducible rfl)
          (try simp only [Act.put, List.setIfInBounds_toArray, List.set_cons_zero, List.set_cons_succ])
          refine take_at 11 28 kc11 (v := ?_) (Or.inl ⟨by rfl, ?_⟩) ?_
          rotate_left 1
          · ((intro w hSw; (try dsimp only at hSw); unfold kc11; go_simp) <;> with_reducible rfl)
          (try simp only [Act.put, List.setIfInBounds_toArray, List.set_cons_zero, List.set_cons_succ])
          refine take_at 12 29 kc12 (v := ?_) (Or.inl ⟨by rfl, ?_⟩) ?_
          rotate_left 1
          · ((intro w hSw; (try dsimp only at hSw); unfold kc12; go_simp) <;> with_reducible rfl)
          (try simp only [Act.put, List.setIfInBounds_toArray, List.set_cons_zero, List.set_cons_succ])
          refine take_at 13 30 kc13 (v := ?_) (Or.inl ⟨by rfl, ?_⟩) ?_
          rotate_left 1
          · ((intro w hSw; (try dsimp only at hSw); unfold kc13; go_simp) <;> with_reducible rfl)
          (try simp only [Act.put, List.setIfInBounds_toArray, List.set_cons_zero, List.set_cons_succ])
          refine take_at 14 31 kc14 (v := ?_) (Or.inl ⟨by rfl, ?_⟩) ?_
          rotate_left 1
          · ((intro w hSw; (try dsimp only at hSw); unfold kc14; go_simp) <;> with_reducible rfl)
          (try simp only [Act.put, List.setIfInBounds_toArray, List.set_cons_zero, List.set_cons_succ])
          refine take_at 15 32 kc15 (v := ?_) (Or.inl ⟨by rfl, ?_⟩) ?_
          rotate_left 1
          · ((intro w hSw; (try dsimp only at hSw); unfold kc15; go_simp) <;> with_reducible rfl)
          (try simp only [Act.put, List.setIfInBounds_toArray, List.set_cons_zero, List.set_cons_succ])
          refine take_at 16 33 kc16 (v := ?_) (Or.inl ⟨by rfl, ?_⟩) ?_
          rotate_left 1
          · ((intro w hSw; (try dsimp only at hSw); unfold kc16; go_simp) <;> with_reducible rfl)
          (try simp only [Act.put, List.setIfInBounds_toArray, List.set_cons_zero, List.set_cons_succ])
          refine take_at 17 34 kc17 (v := ?_) (Or.inl ⟨by rfl, ?_⟩) ?_
          rotate_left 1
          · ((intro w hSw; (try dsimp only at hSw); unfold kc17; go_simp) <;> with_reducible rfl)
          (try simp only [Act.put, List.setIfInBounds_toArray, List.set_cons_zero, List.set_cons_succ])
          refine take_at 18 35 kc18 (v := ?_) (Or.inl ⟨by rfl, ?_⟩) ?_
          rotate_left 1
          · ((intro w hSw; (try dsimp only at hSw); unfold kc18; go_simp) <;> with_reducible rfl)
          (try simp only [Act.put, List.setIfInBounds_toArray, List.set_cons_zero, List.set_cons_succ])
          refine take_at 19 36 kc19 (v := ?_) (Or.inl ⟨by rfl, ?_⟩) ?_
          rotate_left 1
          · ((intro w hSw; (try dsimp only at hSw); unfold kc19; go_simp) <;> with_reducible rfl)
          (try simp only [Act.put, List.setIfInBounds_toArray, List.set_cons_zero, List.set_cons_succ])
          refine take_at 20 37 kc20 (v := ?_) (Or.inl ⟨by rfl, ?_⟩) ?_
          rotate_left 1
          · ((intro w hSw; (try dsimp only at hSw); unfold kc20; go_simp) <;> with_reducible rfl)
          (try simp only [Act.put, List.setIfInBounds_toArray, List.set_cons_zero, List.set_cons_succ])
          refine take_at 21 38 kc21 (v := ?_) (Or.inl ⟨by rfl, ?_⟩) ?_
          rotate_left 1
          · ((intro w hSw; (try dsimp only at hSw); unfold kc21; go_simp) <;> with_reducible rfl)
          (try simp only [Act.put, List.setIfInBounds_toArray, List.set_cons_zero, List.set_cons_succ])
          refine wpAnyH_ready (rs := [22]) (by kernel_rfl) (by simp) ?_
          refine AllReadyH.cons (o := kc22) rfl (fun K hK => ?_) ?_
          · unfold kc22
            (try dsimp only [En.fine])
            go_simp
            (go_at_call 13; have hS := hHeld.1; refine (keepsame_any l[k].a m[k].a _ _ _ (kept_lies hS HQ.out) (kept_lies hS HQ2.out)).mono ?_; rw [HSB.out]; rintro e wn ⟨rfl, hbn⟩; have hh := kept_call hS hbn; clear hbn hS hHeld)
            refine hK.out _ _ ?_ (fun hHeld => ?_)
            · (try dsimp only)
              (((with_reducible refine en_keep2 ?_ HX.out HY.out); repeat (first | with_reducible assumption | with_reducible exact hk0 | with_reducible refine kept_drew ?_)))
            clear hK K
            (try simp only [Act.put, List.setIfInBounds_toArray, List.set_cons_zero, List.set_cons_succ])
            refine take_at 23 40 kc23 (v := ?_) (Or.inl ⟨by rfl, ?_⟩) ?_
            rotate_left 1
            · ((intro w hSw; (try dsimp only at hSw); unfold kc23; go_simp) <;> with_reducible rfl)
            (try simp only [Act.put, List.setIfInBounds_toArray, List.set_cons_zero, List.set_cons_succ])
            refine take_at 24 41 kc24 (v := ?_) (Or.inl ⟨by rfl, ?_⟩) ?_
            rotate_left 1
            · ((intro w hSw; (try dsimp only at hSw); unfold kc24; go_simp) <;> with_reducible rfl)
            (try simp only [Act.put, List.setIfInBounds_toArray, List.set_cons_zero, List.set_cons_succ])
            refine wpAnyH_done (by kernel_rfl) ?_ _
            have hkE := hHeld.1
            clear hHeld
            go_wp2_with fail
            go_roundw
            case rel => exact ⟨k + 1, by omega, by go_num, by show _ = true; rw [HT.out, hgood.out, HS.out]; rfl, hb.trans (Below.mono hkE hb.size)⟩
            case measure => simp [intOf]; omega
          exact AllReadyH.nil
      · have i1 : (l[k].i == m[k].i) = false := by simpa using hi
        have i2 : (l[k].i != m[k].i) = true := by simpa using hi
        have HF := Lib.hid (HO.out (by unfold sameE; rw [i1, Bool.false_and]))
        clear hi
        go_wp2_with fail
        refine wp_region_held_drew (S := fun w' => Kept wr w' ∧ w'.cell? ⟨b, o + k * 6, none⟩ = some (.int .i64 l[k].a.k) ∧ w'.cell? ⟨b, o + k * 6 + 1, none⟩ = some (.int .i64 l[k].a.i) ∧ w'.cell? ⟨b, o + k * 6 + 2, none⟩ = some (.int .i64 l[k].a.j) ∧ w'.cell? ⟨b, o + k * 6 + 3, none⟩ = some (.int .i64 l[k].a.n) ∧ w'.cell? ⟨b, o + k * 6 + 4, none⟩ = some ((.slice a' l[k].a.kids.length cap')) ∧ w'.cell? ⟨b, o + k * 6 + 5, none⟩ = some (.int .i64 l[k].i) ∧ w'.cell? ⟨b2, o2 + k * 6, none⟩ = some (.int .i64 m[k].a.k) ∧ w'.cell? ⟨b2, o2 + k * 6 + 1, none⟩ = some (.int .i64 m[k].a.i) ∧ w'.cell? ⟨b2, o2 + k * 6 + 2, none⟩ = some (.int .i64 m[k].a.j) ∧ w'.cell? ⟨b2, o2 + k * 6 + 3, none⟩ = some (.int .i64 m[k].a.n) ∧ w'.cell? ⟨b2, o2 + k * 6 + 4, none⟩ = some ((.slice a2' m[k].a.kids.length cap2')) ∧ w'.cell? ⟨b2, o2 + k * 6 + 5, none⟩ = some (.int .i64 m[k].i)) (by kernel_rfl) ?_ (fun hHeld => ?_)
        · (try dsimp only)
          (((with_reducible refine en_keep2 ?_ HX.out HY.out); repeat (first | with_reducible assumption | with_reducible exact hk0 | with_reducible refine kept_drew ?_)))
        refine take_at 0 17 kc0 (v := ?_) (Or.inl ⟨by rfl, ?_⟩) ?_
        rotate_left 1
        · ((intro w hSw; (try dsimp only at hSw); unfold kc0; go_simp) <;> with_reducible rfl)
        (try simp only [Act.put, List.setIfInBounds_toArray, List.set_cons_zero, List.set_cons_succ])
        refine take_at 1 18 kc1 (v := ?_) (Or.inl ⟨by rfl, ?_⟩) ?_
        rotate_left 1
        · ((intro w hSw; (try dsimp only at hSw); unfold kc1; go_simp) <;> with_reducible rfl)
        (try simp only [Act.put, List.setIfInBounds_toArray, List.set_cons_zero, List.set_cons_succ])
        refine take_at 2 19 kc2 (v := ?_) (Or.inl ⟨by rfl, ?_⟩) ?_
        rotate_left 1
        · ((intro w hSw; (try dsimp only at hSw); unfold kc2; go_simp) <;> with_reducible rfl)
        (try simp only [Act.put, List.setIfInBounds_toArray, List.set_cons_zero, List.set_cons_succ])
        refine take_at 3 20 kc3 (v := ?_) (Or.inl ⟨by rfl, ?_⟩) ?_
        rotate_left 1
        · ((intro w hSw; (try dsimp only at hSw); unfold kc3; go_simp) <;> with_reducible rfl)
        (try simp only [Act.put, List.setIfInBounds_toArray, List.set_cons_zero, List.set_cons_succ])
        refine take_at 4 21 kc4 (v := ?_) (Or.inl ⟨by rfl, ?_⟩) ?_
        rotate_left 1
        · ((intro w hSw; (try dsimp only at hSw); unfold kc4; go_simp) <;> with_reducible rfl)
        (try simp only [Act.put, List.setIfInBounds_toArray, List.set_cons_zero, List.set_cons_succ])
        refine take_at 5 22 kc5 (v := ?_) (Or.inl ⟨by rfl, ?_⟩) ?_
        rotate_left 1
        · ((intro w hSw; (try dsimp only at hSw); unfold kc5; go_simp) <;> with_reducible rfl)
        (try simp only [Act.put, List.setIfInBounds_toArray, List.set_cons_zero, List.set_cons_succ])
        refine take_at 6 23 kc6 (v := ?_) (Or.inl ⟨by rfl, ?_⟩) ?_
        rotate_left 1
        · ((intro w hSw; (try dsimp only at hSw); unfold kc6; go_simp) <;> with_reducible rfl)
        (try simp only [Act.put, List.setIfInBounds_toArray, List.set_cons_zero, List.set_cons_succ])
        refine take_at 7 24 kc7 (v := ?_) (Or.inl ⟨by rfl, ?_⟩) ?_
        rotate_left 1
        · ((intro w hSw; (try dsimp only at hSw); unfold kc7; go_simp) <;> with_reducible rfl)
        (try simp only [Act.put, List.setIfInBounds_toArray, List.set_cons_zero, List.set_cons_succ])
        refine take_at 8 25 kc8 (v := ?_) (Or.inl ⟨by rfl, ?_⟩) ?_
        rotate_left 1
        · ((intro w hSw; (try dsimp only at hSw); unfold kc8; go_simp) <;> with_reducible rfl)
        (try simp only [Act.put, List.setIfInBounds_toArray, List.set_cons_zero, List.set_cons_succ])
        refine take_at 9 26 kc9 (v := ?_) (Or.inl ⟨by rfl, ?_⟩) ?_
        rotate_left 1
        · ((intro w hSw; (try dsimp only at hSw); unfold kc9; go_simp) <;> with_reducible rfl)
        (try simp only [Act.put, List.setIfInBounds_toArray, List.set_cons_zero, List.set_cons_succ])
        refine take_at 10 27 kc10 (v := ?_) (Or.inl ⟨by rfl, ?_⟩) ?_
        rotate_left 1
        · ((intro w hSw; (try dsimp only at hSw); unfold kc10; go_simp) <;> with_reducible rfl)
        (try simp only [Act.put, List.setIfInBounds_toArray, List.set_cons_zero, List.set_cons_succ])
        refine take_at 11 28 kc11 (v := ?_) (Or.inl ⟨by rfl, ?_⟩) ?_
        rotate_left 1
        · ((intro w hSw; (try dsimp only at hSw); unfold kc11; go_simp) <;> with_reducible rfl)
        (try simp only [Act.put, List.setIfInBounds_toArray, List.set_cons_zero, List.set_cons_succ])
        refine take_at 12 29 kc12 (v := undef) (Or.inr ⟨by rfl, rfl⟩) ?_
        (try simp only [Act.put, List.setIfInBounds_toArray, List.set_cons_zero, List.set_cons_succ])
        refine take_at 13 30 kc13 (v := undef) (Or.inr ⟨by rfl, rfl⟩) ?_
        (try simp only [Act.put, List.setIfInBounds_toArray, List.set_cons_zero, List.set_cons_succ])
        refine take_at 14 31 kc14 (v := undef) (Or.inr ⟨by rfl, rfl⟩) ?_
        (try simp only [Act.put, List.setIfInBounds_toArray, List.set_cons_zero, List.set_cons_succ])
        refine take_at 15 32 kc15 (v := undef) (Or.inr ⟨by rfl, rfl⟩) ?_
        (try simp only [Act.put, List.setIfInBounds_toArray, List.set_cons_zero, List.set_cons_succ])
        refine take_at 16 33 kc16 (v := undef) (Or.inr ⟨by rfl, rfl⟩) ?_
        (try simp only [Act.put, List.setIfInBounds_toArray, List.set_cons_zero, List.set_cons_succ])
        refine take_at 17 34 kc17 (v := undef) (Or.inr ⟨by rfl, rfl⟩) ?_
        (try simp only [Act.put, List.setIfInBounds_toArray, List.set_cons_zero, List.set_cons_succ])
        refine take_at 18 35 kc18 (v := undef) (Or.inr ⟨by rfl, rfl⟩) ?_
        (try simp only [Act.put, List.setIfInBounds_toArray, List.set_cons_zero, List.set_cons_succ])
        refine take_at 19 36 kc19 (v := undef) (Or.inr ⟨by rfl, rfl⟩) ?_
        (try simp only [Act.put, List.setIfInBounds_toArray, List.set_cons_zero, List.set_cons_succ])
        refine take_at 20 37 kc20 (v := undef) (Or.inr ⟨by rfl, rfl⟩) ?_
        (try simp only [Act.put, List.setIfInBounds_toArray, List.set_cons_zero, List.set_cons_succ])
        refine take_at 21 38 kc21 (v := undef) (Or.inr ⟨by rfl, rfl⟩) ?_
        (try simp only [Act.put, List.setIfInBounds_toArray, List.set_cons_zero, List.set_cons_succ])
        refine take_at 22 39 kc22 (v := undef) (Or.inr ⟨by rfl, rfl⟩) ?_
        (try simp only [Act.put, List.setIfInBounds_toArray, List.set_cons_zero, List.set_cons_succ])
        refine take_at 23 40 kc23 (v := undef) (Or.inr ⟨by rfl, rfl⟩) ?_
        (try simp only [Act.put, List.setIfInBounds_toArray, List.set_cons_zero, List.set_cons_succ])
        refine take_at 24 41 kc24 (v := ?_) (Or.inl ⟨by rfl, ?_⟩) ?_
        rotate_left 1
        · ((intro w hSw; (try dsimp only at hSw); unfold kc24; go_simp) <;> with_reducible rfl)
        (try simp only [Act.put, List.setIfInBounds_toArray, List.set_cons_zero, List.set_cons_succ])
        refine wpAnyH_done (by kernel_rfl) ?_ _
        have hkE := hHeld.1
        clear hHeld
        go_wp2_with fail
        go_ret
        exact ⟨ret_bool HF.out.symm, hb.trans (Below.mono hkE hb.size)⟩
    · have : k = l.length := by omega
      subst this
      go_wp2
      go_ret
      exact ⟨ret_bool (by have hg := hgood.out; rw [List.take_length, HL.out, List.take_length] at hg; exact hg.symm), hb⟩
end Go.Proofs.Ytjhdcjjoignioaa

/-! ctx.Same. -/
namespace Go.Proofs.Ytjhdcjjoignioaa
open Go.RowKit

/-- An entry in a block of its own. -/
def BNode (w : World) (b : Nat) (e : En) (s : Value) : Prop := w.cell? ⟨b, 0, none⟩ = some (.int .i64 e.a.k) ∧ w.cell? ⟨b, 1, none⟩ = some (.int .i64 e.a.i) ∧ w.cell? ⟨b, 2, none⟩ = some (.int .i64 e.a.j) ∧ w.cell? ⟨b, 3, none⟩ = some (.int .i64 e.a.n) ∧ w.cell? ⟨b, 4, none⟩ = some (s) ∧ w.cell? ⟨b, 5, none⟩ = some (.int .i64 e.i)
theorem bnode_new (w : World) (e : En) (s : Value) : BNode (w.alloc (.cells #[.int .i64 e.a.k, .int .i64 e.a.i, .int .i64 e.a.j, .int .i64 e.a.n, s, .int .i64 e.i] 38)) w.heap.size e s := by
  have key : ∀ o, (w.alloc (.cells #[.int .i64 e.a.k, .int .i64 e.a.i, .int .i64 e.a.j, .int .i64 e.a.n, s, .int .i64 e.i] 38)).cell? ⟨w.heap.size, o, none⟩ = (#[.int .i64 e.a.k, .int .i64 e.a.i, .int .i64 e.a.j, .int .i64 e.a.n, s, .int .i64 e.i] : Array Value)[o]? := fun o => by rw [World.cell?_alloc_at _ _ _ _ rfl]
  exact ⟨by rw [key]; rfl, by rw [key]; rfl, by rw [key]; rfl, by rw [key]; rfl, by rw [key]; rfl, by rw [key]; rfl⟩
theorem BNode.keep {v w' : World} {b : Nat} {e : En} {s : Value} (h : BNode v b e s) (hk : Kept v w') : BNode w' b e s := ⟨cell_lat hk h.1, cell_lat hk h.2.1, cell_lat hk h.2.2.1, cell_lat hk h.2.2.2.1, cell_lat hk h.2.2.2.2.1, cell_lat hk h.2.2.2.2.2⟩
theorem bn_keep1 {v w' : World} {b : Nat} {e : En} {s : Value} (h : Kept v w') (hx : BNode v b e s) : Kept v w' ∧ w'.cell? ⟨b, 0, none⟩ = some (.int .i64 e.a.k) ∧ w'.cell? ⟨b, 1, none⟩ = some (.int .i64 e.a.i) ∧ w'.cell? ⟨b, 2, none⟩ = some (.int .i64 e.a.j) ∧ w'.cell? ⟨b, 3, none⟩ = some (.int .i64 e.a.n) ∧ w'.cell? ⟨b, 4, none⟩ = some (s) ∧ w'.cell? ⟨b, 5, none⟩ = some (.int .i64 e.i) := ⟨h, hx.keep h⟩
theorem bn_keep2 {v w' : World} {b b2 o2 : Nat} {e e2 : En} {s s2 : Value} (h : Kept v w') (hx : BNode v b e s) (hy : ENode v b2 o2 e2 s2) : Kept v w' ∧ w'.cell? ⟨b, 0, none⟩ = some (.int .i64 e.a.k) ∧ w'.cell? ⟨b, 1, none⟩ = some (.int .i64 e.a.i) ∧ w'.cell? ⟨b, 2, none⟩ = some (.int .i64 e.a.j) ∧ w'.cell? ⟨b, 3, none⟩ = some (.int .i64 e.a.n) ∧ w'.cell? ⟨b, 4, none⟩ = some (s) ∧ w'.cell? ⟨b, 5, none⟩ = some (.int .i64 e.i) ∧ w'.cell? ⟨b2, o2, none⟩ = some (.int .i64 e2.a.k) ∧ w'.cell? ⟨b2, o2 + 1, none⟩ = some (.int .i64 e2.a.i) ∧ w'.cell? ⟨b2, o2 + 2, none⟩ = some (.int .i64 e2.a.j) ∧ w'.cell? ⟨b2, o2 + 3, none⟩ = some (.int .i64 e2.a.n) ∧ w'.cell? ⟨b2, o2 + 4, none⟩ = some (s2) ∧ w'.cell? ⟨b2, o2 + 5, none⟩ = some (.int .i64 e2.i) := by
  obtain ⟨x0, x1, x2, x3, x4, x5⟩ := hx.keep h
  obtain ⟨y0, y1, y2, y3, y4, y5⟩ := hy.below h hy.lt
  exact ⟨h, x0, x1, x2, x3, x4, x5, y0, y1, y2, y3, y4, y5⟩
def kd0 : Oper := { dst := some 19, op := Go.Op.fieldAddr 38 (Go.Operand.tmp 6) 1, type := 0, pos := "ctx.go:67", after := #[], guard := none }
def kd1 : Oper := { dst := some 20, op := Go.Op.load 3 (Go.Operand.tmp 19), type := 3, pos := "ctx.go:67", after := #[{ on := 0, ground := Go.Ground.data }], guard := none }
def kd2 : Oper := { dst := some 21, op := Go.Op.move (Go.Operand.tmp 1), type := 22, pos := "ctx.go:67", after := #[], guard := none }
def kd3 : Oper := { dst := some 22, op := Go.Op.move (Go.Operand.tmp 5), type := 3, pos := "ctx.go:67", after := #[], guard := none }
def kd4 : Oper := { dst := some 23, op := Go.Op.indexAddr 22 (Go.Operand.tmp 21) (Go.Operand.tmp 22), type := 0, pos := "ctx.go:67", after := #[{ on := 2, ground := Go.Ground.data }, { on := 3, ground := Go.Ground.data }], guard := none }
def kd5 : Oper := { dst := some 24, op := Go.Op.fieldAddr 38 (Go.Operand.tmp 23) 1, type := 0, pos := "ctx.go:67", after := #[{ on := 4, ground := Go.Ground.data }], guard := none }
def kd6 : Oper := { dst := some 25, op := Go.Op.load 3 (Go.Operand.tmp 24), type := 3, pos := "ctx.go:67", after := #[{ on := 5, ground := Go.Ground.data }], guard := none }
def kd7 : Oper := { dst := some 26, op := Go.Op.binOp Go.BinOp.neq 3 (Go.Operand.tmp 20) (Go.Operand.tmp 25) 3, type := 4, pos := "ctx.go:67", after := #[{ on := 1, ground := Go.Ground.data }, { on := 6, ground := Go.Ground.data }], guard := none }
def kd8 : Oper := { dst := some 27, op := Go.Op.move (Go.Operand.tmp 26), type := 4, pos := "ctx.go:67", after := #[{ on := 7, ground := Go.Ground.data }], guard := none }
def kd9 : Oper := { dst := some 28, op := Go.Op.fieldAddr 38 (Go.Operand.tmp 6) 0, type := 0, pos := "ctx.go:67", after := #[{ on := 8, ground := Go.Ground.guard }], guard := some (8, false) }
def kd10 : Oper := { dst := some 29, op := Go.Op.load 26 (Go.Operand.tmp 28), type := 26, pos := "ctx.go:67", after := #[{ on := 9, ground := Go.Ground.data }, { on := 8, ground := Go.Ground.guard }], guard := some (8, false) }
def kd11 : Oper := { dst := some 30, op := Go.Op.move (Go.Operand.tmp 1), type := 22, pos := "ctx.go:67", after := #[{ on := 8, ground := Go.Ground.guard }], guard := some (8, false) }
def kd12 : Oper := { dst := some 31, op := Go.Op.move (Go.Operand.tmp 5), type := 3, pos := "ctx.go:67", after := #[{ on := 8, ground := Go.Ground.guard }], guard := some (8, false) }
def kd13 : Oper := { dst := some 32, op := Go.Op.indexAddr 22 (Go.Operand.tmp 30) (Go.Operand.tmp 31), type := 0, pos := "ctx.go:67", after := #[{ on := 11, ground := Go.Ground.data }, { on := 12, ground := Go.Ground.data }, { on := 8, ground := Go.Ground.guard }], guard := some (8, false) }
def kd14 : Oper := { dst := some 33, op := Go.Op.fieldAddr 38 (Go.Operand.tmp 32) 0, type := 0, pos := "ctx.go:67", after := #[{ on := 13, ground := Go.Ground.data }, { on := 8, ground := Go.Ground.guard }], guard := some (8, false) }
def kd15 : Oper := { dst := some 34, op := Go.Op.load 26 (Go.Operand.tmp 33), type := 26, pos := "ctx.go:67", after := #[{ on := 14, ground := Go.Ground.data }, { on := 8, ground := Go.Ground.guard }], guard := some (8, false) }
def kd16 : Oper := { dst := some 35, op := Go.Op.call { callee := Go.Callee.value (Go.Operand.func 56), args := #[Go.Operand.tmp 29, Go.Operand.tmp 34], argTypes := #[26, 26] }, type := 4, pos := "ctx.go:67", after := #[{ on := 10, ground := Go.Ground.data }, { on := 15, ground := Go.Ground.data }, { on := 8, ground := Go.Ground.chain }, { on := 8, ground := Go.Ground.guard }], guard := some (8, false) }
def kd17 : Oper := { dst := some 36, op := Go.Op.unOp Go.UnOp.not 4 (Go.Operand.tmp 35), type := 4, pos := "ctx.go:67", after := #[{ on := 16, ground := Go.Ground.data }, { on := 8, ground := Go.Ground.guard }], guard := some (8, false) }
def kd18 : Oper := { dst := some 37, op := Go.Op.pick (Go.Operand.tmp 27) (Go.Operand.const (Go.Value.bool true)) (Go.Operand.tmp 36), type := 4, pos := "ctx.go:67", after := #[{ on := 8, ground := Go.Ground.data }, { on := 17, ground := Go.Ground.data }], guard := none }
set_option maxRecDepth 20000 in
set_option maxHeartbeats 4000000 in
theorem ctxsame_any (l m : List En) (w : World) (s r : Value) (hl : LiesE w l s) (hm : LiesE w m r) : Calls Try.prog 28 #[s, r] w fun e w' => e = .returned (.bool (ctxB l m)) ∧ Below w.heap.size w w' := by
  obtain ⟨a, cap, S, rfl, hc, hmx, -, hn, hk⟩ := hl.out
  obtain ⟨a2, cap2, S2, rfl, hc2, hmx2, -, hn2, hk2⟩ := hm.out
  unfold maxLen at hmx hmx2
  have HN := Lib.hid hn
  have HK := Lib.hid hk
  have HN2 := Lib.hid hn2
  have HK2 := Lib.hid hk2
  clear hn hk hn2 hk2 hl hm
  by_cases hlen : l.length = m.length
  rotate_left
  · have h1 : ((l.length : Int) == (m.length : Int)) = false := by simp; omega
    have h2 : ((l.length : Int) != (m.length : Int)) = true := by simp; omega
    have HS := Lib.hid (ctxB_ne hlen)
    clear hlen
    go_enter Try.func28, Try.ntmps28
    go_wp2
    go_ret
    exact ⟨ret_bool HS.out.symm, Below.refl _ _⟩
  have h1 : ((l.length : Int) == (m.length : Int)) = true := by simp; omega
  have h2 : ((l.length : Int) != (m.length : Int)) = false := by simp; omega
  have HL := Lib.hid hlen
  clear hlen
  go_enter Try.func28, Try.ntmps28
  go_wp2
  go_loopw [14] (fun iv wr => ∃ k : Nat, k ≤ l.length ∧ iv = .int .i64 k ∧ Hid (ctxB (l.take k) (m.take k) = true) ∧ Below w.heap.size w wr) (fun iv _ => l.length - (intOf iv).toNat)
  case atStart => exact ⟨0, Nat.zero_le _, rfl, by simp [Hid, ctxB], Below.refl _ _⟩
  case round =>
    obtain ⟨k, hk, rfl, hgood, hb⟩ := hrel
    by_cases hlt : k < l.length
    · have hlt2 : k < m.length := by have := HL.out; omega
      obtain ⟨b, o, rfl, hx⟩ := HN.out k hlt
      obtain ⟨b2, o2, rfl, hx2⟩ := HN2.out k hlt2
      have hx := hx.below hb hx.lt
      have hx2 := hx2.below hb hx2.lt
      have hq := (HK.out k hlt).keep hb
      have hq2 := (HK2.out k hlt2).keep hb
      obtain ⟨a', cap', S', hS, -⟩ := hq.out
      obtain ⟨a2', cap2', S2', hS2, -⟩ := hq2.out
      rw [hS] at hx hq
      rw [hS2] at hx2 hq2
      have HQ := Lib.hid hq
      have HQ2 := Lib.hid hq2
      have HY := Lib.hid hx2
      have HT := Lib.hid (ctxB_take l m k hlt hlt2)
      have HO := Lib.hid (fun h => ctxB_of (l := l) (m := m) hlt hlt2 h)
      obtain ⟨x0, x1, x2, x3, x4, x5⟩ := hx
      clear hS hS2 hq hq2 hx2
      have hX := bnode_new wr l[k] (.slice a' l[k].a.kids.length cap')
      have hbV : Below wr.heap.size wr (wr.alloc (.cells #[.int .i64 l[k].a.k, .int .i64 l[k].a.i, .int .i64 l[k].a.j, .int .i64 l[k].a.n, (.slice a' l[k].a.kids.length cap'), .int .i64 l[k].i] 38)) := (Below.refl _ _).alloc (Nat.le_refl _) _
      have hy2 := HY.out.below hbV HY.out.lt
      have hqV := HQ.out.keep hbV
      have hqV2 := HQ2.out.keep hbV
      have hbw := below_call hb hbV hb.size
      have hlw := hb.size
      clear HQ HQ2 HY hb hbV
      go_upto_region 6 with fail
      clear x0 x1 x2 x3 x4 x5
      obtain ⟨g, hg⟩ : ∃ g, wr.heap.size = g := ⟨_, rfl⟩
      rw [hg] at hX ⊢
      generalize wr.alloc (.cells #[.int .i64 l[k].a.k, .int .i64 l[k].a.i, .int .i64 l[k].a.j, .int .i64 l[k].a.n, (.slice a' l[k].a.kids.length cap'), .int .i64 l[k].i] 38) = V at hX hy2 hqV hqV2 hbw ⊢
      have HX := Lib.hid hX
      have HY := Lib.hid hy2
      have HQ := Lib.hid hqV
      have HQ2 := Lib.hid hqV2
      have HBV := Lib.hid hbw
      have hk0 := kept_start V
      clear hqV hqV2 hbw hg
      obtain ⟨x0, x1, x2, x3, x4, x5⟩ := hX
      obtain ⟨y0, y1, y2, y3, y4, y5⟩ := hy2
      by_cases hi : l[k].i = m[k].i
      · have i1 : (l[k].i == m[k].i) = true := by simpa using hi
        have i2 : (l[k].i != m[k].i) = false := by simpa using hi
        cases hs : sameB l[k].a m[k].a with
        | false =>
          have HSB := Lib.hid hs
          have HF := Lib.hid (HO.out (by unfold sameE; rw [hs, Bool.and_false]))
          clear hs hi
          refine wp_region_held_drew (S := fun w' => Kept V w' ∧ w'.cell? ⟨g, 0, none⟩ = some (.int .i64 l[k].a.k) ∧ w'.cell? ⟨g, 1, none⟩ = some (.int .i64 l[k].a.i) ∧ w'.cell? ⟨g, 2, none⟩ = some (.int .i64 l[k].a.j) ∧ w'.cell? ⟨g, 3, none⟩ = some (.int .i64 l[k].a.n) ∧ w'.cell? ⟨g, 4, none⟩ = some ((.slice a' l[k].a.kids.length cap')) ∧ w'.cell? ⟨g, 5, none⟩ = some (.int .i64 l[k].i) ∧ w'.cell? ⟨b2, o2 + k * 6, none⟩ = some (.int .i64 m[k].a.k) ∧ w'.cell? ⟨b2, o2 + k * 6 + 1, none⟩ = some (.int .i64 m[k].a.i) ∧ w'.cell? ⟨b2, o2 + k * 6 + 2, none⟩ = some (.int .i64 m[k].a.j) ∧ w'.cell? ⟨b2, o2 + k * 6 + 3, none⟩ = some (.int .i64 m[k].a.n) ∧ w'.cell? ⟨b2, o2 + k * 6 + 4, none⟩ = some ((.slice a2' m[k].a.kids.length cap2')) ∧ w'.cell? ⟨b2, o2 + k * 6 + 5, none⟩ = some (.int .i64 m[k].i)) (by kernel_rfl) ?_ (fun hHeld => ?_)
          · (try dsimp only)
            (((with_reducible refine bn_keep2 ?_ HX.out HY.out); repeat (first | with_reducible assumption | with_reducible exact hk0 | with_reducible refine kept_drew ?_)))
          refine take_at 0 19 kd0 (v := ?_) (Or.inl ⟨by rfl, ?_⟩) ?_
          rotate_left 1
          · ((intro w hSw; (try dsimp only at hSw); unfold kd0; go_simp) <;> with_reducible rfl)
          (try simp only [Act.put, List.setIfInBounds_toArray, List.set_cons_zero, List.set_cons_succ])
          refine take_at 1 20 kd1 (v := ?_) (Or.inl ⟨by rfl, ?_⟩) ?_
          rotate_left 1
          · ((intro w hSw; (try dsimp only at hSw); unfold kd1; go_simp) <;> with_reducible rfl)
          (try simp only [Act.put, List.setIfInBounds_toArray, List.set_cons_zero, List.set_cons_succ])
          refine take_at 2 21 kd2 (v := ?_) (Or.inl ⟨by rfl, ?_⟩) ?_
          rotate_left 1
          · ((intro w hSw; (try dsimp only at hSw); unfold kd2; go_simp) <;> with_reducible rfl)
          (try simp only [Act.put, List.setIfInBounds_toArray, List.set_cons_zero, List.set_cons_succ])
          refine take_at 3 22 kd3 (v := ?_) (Or.inl ⟨by rfl, ?_⟩) ?_
          rotate_left 1
          · ((intro w hSw; (try dsimp only at hSw); unfold kd3; go_simp) <;> with_reducible rfl)
          (try simp only [Act.put, List.setIfInBounds_toArray, List.set_cons_zero, List.set_cons_succ])
          refine take_at 4 23 kd4 (v := ?_) (Or.inl ⟨by rfl, ?_⟩) ?_
          rotate_left 1
          · ((intro w hSw; (try dsimp only at hSw); unfold kd4; go_simp) <;> with_reducible rfl)
          (try simp only [Act.put, List.setIfInBounds_toArray, List.set_cons_zero, List.set_cons_succ])
          refine take_at 5 24 kd5 (v := ?_) (Or.inl ⟨by rfl, ?_⟩) ?_
          rotate_left 1
          · ((intro w hSw; (try dsimp only at hSw); unfold kd5; go_simp) <;> with_reducible rfl)
          (try simp only [Act.put, List.setIfInBounds_toArray, List.set_cons_zero, List.set_cons_succ])
          refine take_at 6 25 kd6 (v := ?_) (Or.inl ⟨by rfl, ?_⟩) ?_
          rotate_left 1
          · ((intro w hSw; (try dsimp only at hSw); unfold kd6; go_simp) <;> with_reducible rfl)
          (try simp only [Act.put, List.setIfInBounds_toArray, List.set_cons_zero, List.set_cons_succ])
          refine take_at 7 26 kd7 (v := ?_) (Or.inl ⟨by rfl, ?_⟩) ?_
          rotate_left 1
          · ((intro w hSw; (try dsimp only at hSw); unfold kd7; go_simp) <;> with_reducible rfl)
          (try simp only [Act.put, List.setIfInBounds_toArray, List.set_cons_zero, List.set_cons_succ])
          refine take_at 8 27 kd8 (v := ?_) (Or.inl ⟨by rfl, ?_⟩) ?_
          rotate_left 1
          · ((intro w hSw; (try dsimp only at hSw); unfold kd8; go_simp) <;> with_reducible rfl)
          (try simp only [Act.put, List.setIfInBounds_toArray, List.set_cons_zero, List.set_cons_succ])
          refine take_at 9 28 kd9 (v := ?_) (Or.inl ⟨by rfl, ?_⟩) ?_
          rotate_left 1
          · ((intro w hSw; (try dsimp only at hSw); unfold kd9; go_simp) <;> with_reducible rfl)
          (try simp only [Act.put, List.setIfInBounds_toArray, List.set_cons_zero, List.set_cons_succ])
          refine take_at 10 29 kd10 (v := ?_) (Or.inl ⟨by rfl, ?_⟩) ?_
          rotate_left 1
          · ((intro w hSw; (try dsimp only at hSw); unfold kd10; go_simp) <;> with_reducible rfl)
          (try simp only [Act.put, List.setIfInBounds_toArray, List.set_cons_zero, List.set_cons_succ])
          refine take_at 11 30 kd11 (v := ?_) (Or.inl ⟨by rfl, ?_⟩) ?_
          rotate_left 1
          · ((intro w hSw; (try dsimp only at hSw); unfold kd11; go_simp) <;> with_reducible rfl)
          (try simp only [Act.put, List.setIfInBounds_toArray, List.set_cons_zero, List.set_cons_succ])
          refine take_at 12 31 kd12 (v := ?_) (Or.inl ⟨by rfl, ?_⟩) ?_
          rotate_left 1
          · ((intro w hSw; (try dsimp only at hSw); unfold kd12; go_simp) <;> with_reducible rfl)
          (try simp only [Act.put, List.setIfInBounds_toArray, List.set_cons_zero, List.set_cons_succ])
          refine take_at 13 32 kd13 (v := ?_) (Or.inl ⟨by rfl, ?_⟩) ?_
          rotate_left 1
          · ((intro w hSw; (try dsimp only at hSw); unfold kd13; go_simp) <;> with_reducible rfl)
          (try simp only [Act.put, List.setIfInBounds_toArray, List.set_cons_zero, List.set_cons_succ])
          refine take_at 14 33 kd14 (v := ?_) (Or.inl ⟨by rfl, ?_⟩) ?_
          rotate_left 1
          · ((intro w hSw; (try dsimp only at hSw); unfold kd14; go_simp) <;> with_reducible rfl)
          (try simp only [Act.put, List.setIfInBounds_toArray, List.set_cons_zero, List.set_cons_succ])
          refine take_at 15 34 kd15 (v := ?_) (Or.inl ⟨by rfl, ?_⟩) ?_
          rotate_left 1
          · ((intro w hSw; (try dsimp only at hSw); unfold kd15; go_simp) <;> with_reducible rfl)
          (try simp only [Act.put, List.setIfInBounds_toArray, List.set_cons_zero, List.set_cons_succ])
          refine wpAnyH_ready (rs := [16]) (by kernel_rfl) (by simp) ?_
          refine AllReadyH.cons (o := kd16) rfl (fun K hK => ?_) ?_
          · unfold kd16
            go_simp
            (go_at_call 56; have hS := hHeld.1; refine (same_any l[k].a m[k].a _ _ _ (kept_lies hS HQ.out) (kept_lies hS HQ2.out)).mono ?_; rw [HSB.out]; rintro e wn ⟨rfl, hbn⟩; have hh := kept_call hS hbn; clear hbn hS hHeld)
            refine hK.out _ _ ?_ (fun hHeld => ?_)
            · (try dsimp only)
              (((with_reducible refine bn_keep2 ?_ HX.out HY.out); repeat (first | with_reducible assumption | with_reducible exact hk0 | with_reducible refine kept_drew ?_)))
            clear hK K
            (try simp only [Act.put, List.setIfInBounds_toArray, List.set_cons_zero, List.set_cons_succ])
            refine take_at 17 36 kd17 (v := ?_) (Or.inl ⟨by rfl, ?_⟩) ?_
            rotate_left 1
            · ((intro w hSw; (try dsimp only at hSw); unfold kd17; go_simp) <;> with_reducible rfl)
            (try simp only [Act.put, List.setIfInBounds_toArray, List.set_cons_zero, List.set_cons_succ])
            refine take_at 18 37 kd18 (v := ?_) (Or.inl ⟨by rfl, ?_⟩) ?_
            rotate_left 1
            · ((intro w hSw; (try dsimp only at hSw); unfold kd18; go_simp) <;> with_reducible rfl)
            (try simp only [Act.put, List.setIfInBounds_toArray, List.set_cons_zero, List.set_cons_succ])
            refine wpAnyH_done (by kernel_rfl) ?_ _
            have hkE := hHeld.1
            clear hHeld
            go_wp2_with fail
            go_ret
            exact ⟨ret_bool HF.out.symm, HBV.out.trans (Below.mono hkE HBV.out.size)⟩
          exact AllReadyH.nil
        | true =>
          have HSB := Lib.hid hs
          have HS := Lib.hid (show sameE l[k] m[k] = true by unfold sameE; rw [hs, i1]; rfl)
          clear hs hi
          refine wp_region_held_drew (S := fun w' => Kept V w' ∧ w'.cell? ⟨g, 0, none⟩ = some (.int .i64 l[k].a.k) ∧ w'.cell? ⟨g, 1, none⟩ = some (.int .i64 l[k].a.i) ∧ w'.cell? ⟨g, 2, none⟩ = some (.int .i64 l[k].a.j) ∧ w'.cell? ⟨g, 3, none⟩ = some (.int .i64 l[k].a.n) ∧ w'.cell? ⟨g, 4, none⟩ = some ((.slice a' l[k].a.kids.length cap')) ∧ w'.cell? ⟨g, 5, none⟩ = some (.int .i64 l[k].i) ∧ w'.cell? ⟨b2, o2 + k * 6, none⟩ = some (.int .i64 m[k].a.k) ∧ w'.cell? ⟨b2, o2 + k * 6 + 1, none⟩ = some (.int .i64 m[k].a.i) ∧ w'.cell? ⟨b2, o2 + k * 6 + 2, none⟩ = some (.int .i64 m[k].a.j) ∧ w'.cell? ⟨b2, o2 + k * 6 + 3, none⟩ = some (.int .i64 m[k].a.n) ∧ w'.cell? ⟨b2, o2 + k * 6 + 4, none⟩ = some ((.slice a2' m[k].a.kids.length cap2')) ∧ w'.cell? ⟨b2, o2 + k * 6 + 5, none⟩ = some (.int .i64 m[k].i)) (by kernel_rfl) ?_ (fun hHeld => ?_)
          · (try dsimp only)
            (((with_reducible refine bn_keep2 ?_ HX.out HY.out); repeat (first | with_reducible assumption | with_reducible exact hk0 | with_reducible refine kept_drew ?_)))
          refine take_at 0 19 kd0 (v := ?_) (Or.inl ⟨by rfl, ?_⟩) ?_
          rotate_left 1
          · ((intro w hSw; (try dsimp only at hSw); unfold kd0; go_simp) <;> with_reducible rfl)
          (try simp only [Act.put, List.setIfInBounds_toArray, List.set_cons_zero, List.set_cons_succ])
          refine take_at 1 20 kd1 (v := ?_) (Or.inl ⟨by rfl, ?_⟩) ?_
          rotate_left 1
          · ((intro w hSw; (try dsimp only at hSw); unfold kd1; go_simp) <;> with_reducible rfl)
          (try simp only [Act.put, List.setIfInBounds_toArray, List.set_cons_zero, List.set_cons_succ])
          refine take_at 2 21 kd2 (v := ?_) (Or.inl ⟨by rfl, ?_⟩) ?_
          rotate_left 1
          · ((intro w hSw; (try dsimp only at hSw); unfold kd2; go_simp) <;> with_reducible rfl)
          (try simp only [Act.put, List.setIfInBounds_toArray, List.set_cons_zero, List.set_cons_succ])
          refine take_at 3 22 kd3 (v := ?_) (Or.inl ⟨by rfl, ?_⟩) ?_
          rotate_left 1
          · ((intro w hSw; (try dsimp only at hSw); unfold kd3; go_simp) <;> with_reducible rfl)
          (try simp only [Act.put, List.setIfInBounds_toArray, List.set_cons_zero, List.set_cons_succ])
          refine take_at 4 23 kd4 (v := ?_) (Or.inl ⟨by rfl, ?_⟩) ?_
          rotate_left 1
          · ((intro w hSw; (try dsimp only at hSw); unfold kd4; go_simp) <;> with_reducible rfl)
          (try simp only [Act.put, List.setIfInBounds_toArray, List.set_cons_zero, List.set_cons_succ])
          refine take_at 5 24 kd5 (v := ?_) (Or.inl ⟨by rfl, ?_⟩) ?_
          rotate_left 1
          · ((intro w hSw; (try dsimp only at hSw); unfold kd5; go_simp) <;> with_reducible rfl)
          (try simp only [Act.put, List.setIfInBounds_toArray, List.set_cons_zero, List.set_cons_succ])
          refine take_at 6 25 kd6 (v := ?_) (Or.inl ⟨by rfl, ?_⟩) ?_
          rotate_left 1
          · ((intro w hSw; (try dsimp only at hSw); unfold kd6; go_simp) <;> with_reducible rfl)
          (try simp only [Act.put, List.setIfInBounds_toArray, List.set_cons_zero, List.set_cons_succ])
          refine take_at 7 26 kd7 (v := ?_) (Or.inl ⟨by rfl, ?_⟩) ?_
          rotate_left 1
          · ((intro w hSw; (try dsimp only at hSw); unfold kd7; go_simp) <;> with_reducible rfl)
          (try simp only [Act.put, List.setIfInBounds_toArray, List.set_cons_zero, List.set_cons_succ])
          refine take_at 8 27 kd8 (v := ?_) (Or.inl ⟨by rfl, ?_⟩) ?_
          rotate_left 1
          · ((intro w hSw; (try dsimp only at hSw); unfold kd8; go_simp) <;> with_reducible rfl)
          (try simp only [Act.put, List.setIfInBounds_toArray, List.set_cons_zero, List.set_cons_succ])
          refine take_at 9 28 kd9 (v := ?_) (Or.inl ⟨by rfl, ?_⟩) ?_
          rotate_left 1
          · ((intro w hSw; (try dsimp only at hSw); unfold kd9; go_simp) <;> with_reducible rfl)
          (try simp only [Act.put, List.setIfInBounds_toArray, List.set_cons_zero, List.set_cons_succ])
          refine take_at 10 29 kd10 (v := ?_) (Or.inl ⟨by rfl, ?_⟩) ?_
          rotate_left 1
          · ((intro w hSw; (try dsimp only at hSw); unfold kd10; go_simp) <;> with_reducible rfl)
          (try simp only [Act.put, List.setIfInBounds_toArray, List.set_cons_zero, List.set_cons_succ])
          refine take_at 11 30 kd11 (v := ?_) (Or.inl ⟨by rfl, ?_⟩) ?_
          rotate_left 1
          · ((intro w hSw; (try dsimp only at hSw); unfold kd11; go_simp) <;> with_reducible rfl)
          (try simp only [Act.put, List.setIfInBounds_toArray, List.set_cons_zero, List.set_cons_succ])
          refine take_at 12 31 kd12 (v := ?_) (Or.inl ⟨by rfl, ?_⟩) ?_
          rotate_left 1
          · ((intro w hSw; (try dsimp only at hSw); unfold kd12; go_simp) <;> with_reducible rfl)
          (try simp only [Act.put, List.setIfInBounds_toArray, List.set_cons_zero, List.set_cons_succ])
          refine take_at 13 32 kd13 (v := ?_) (Or.inl ⟨by rfl, ?_⟩) ?_
          rotate_left 1
          · ((intro w hSw; (try dsimp only at hSw); unfold kd13; go_simp) <;> with_reducible rfl)
          (try simp only [Act.put, List.setIfInBounds_toArray, List.set_cons_zero, List.set_cons_succ])
          refine take_at 14 33 kd14 (v := ?_) (Or.inl ⟨by rfl, ?_⟩) ?_
          rotate_left 1
          · ((intro w hSw; (try dsimp only at hSw); unfold kd14; go_simp) <;> with_reducible rfl)
          (try simp only [Act.put, List.setIfInBounds_toArray, List.set_cons_zero, List.set_cons_succ])
          refine take_at 15 34 kd15 (v := ?_) (Or.inl ⟨by rfl, ?_⟩) ?_
          rotate_left 1
          · ((intro w hSw; (try dsimp only at hSw); unfold kd15; go_simp) <;> with_reducible rfl)
          (try simp only [Act.put, List.setIfInBounds_toArray, List.set_cons_zero, List.set_cons_succ])
          refine wpAnyH_ready (rs := [16]) (by kernel_rfl) (by simp) ?_
          refine AllReadyH.cons (o := kd16) rfl (fun K hK => ?_) ?_
          · unfold kd16
            go_simp
            (go_at_call 56; have hS := hHeld.1; refine (same_any l[k].a m[k].a _ _ _ (kept_lies hS HQ.out) (kept_lies hS HQ2.out)).mono ?_; rw [HSB.out]; rintro e wn ⟨rfl, hbn⟩; have hh := kept_call hS hbn; clear hbn hS hHeld)
            refine hK.out _ _ ?_ (fun hHeld => ?_)
            · (try dsimp only)
              (((with_reducible refine bn_keep2 ?_ HX.out HY.out); repeat (first | with_reducible assumption | with_reducible exact hk0 | with_reducible refine kept_drew ?_)))
            clear hK K
            (try simp only [Act.put, List.setIfInBounds_toArray, List.set_cons_zero, List.set_cons_succ])
            refine take_at 17 36 kd17 (v := ?_) (Or.inl ⟨by rfl, ?_⟩) ?_
            rotate_left 1
            · ((intro w hSw; (try dsimp only at hSw); unfold kd17; go_simp) <;> with_reducible rfl)
            (try simp only [Act.put, List.setIfInBounds_toArray, List.set_cons_zero, List.set_cons_succ])
            refine take_at 18 37 kd18 (v := ?_) (Or.inl ⟨by rfl, ?_⟩) ?_
            rotate_left 1
            · ((intro w hSw; (try dsimp only at hSw); unfold kd18; go_simp) <;> with_reducible rfl)
            (try simp only [Act.put, List.setIfInBounds_toArray, List.set_cons_zero, List.set_cons_succ])
            refine wpAnyH_done (by kernel_rfl) ?_ _
            have hkE := hHeld.1
            clear hHeld
            go_wp2_with fail
            go_roundw
            case rel => exact ⟨k + 1, by omega, by go_num, by show _ = true; rw [HT.out, hgood.out, HS.out]; rfl, HBV.out.trans (Below.mono hkE HBV.out.size)⟩
            case measure => simp [intOf]; omega
          exact AllReadyH.nil
      · have i1 : (l[k].i == m[k].i) = false := by simpa using hi
        have i2 : (l[k].i != m[k].i) = true := by simpa using hi
        have HF := Lib.hid (HO.out (by unfold sameE; rw [i1, Bool.false_and]))
        clear hi
        refine wp_region_held_drew (S := fun w' => Kept V w' ∧ w'.cell? ⟨g, 0, none⟩ = some (.int .i64 l[k].a.k) ∧ w'.cell? ⟨g, 1, none⟩ = some (.int .i64 l[k].a.i) ∧ w'.cell? ⟨g, 2, none⟩ = some (.int .i64 l[k].a.j) ∧ w'.cell? ⟨g, 3, none⟩ = some (.int .i64 l[k].a.n) ∧ w'.cell? ⟨g, 4, none⟩ = some ((.slice a' l[k].a.kids.length cap')) ∧ w'.cell? ⟨g, 5, none⟩ = some (.int .i64 l[k].i) ∧ w'.cell? ⟨b2, o2 + k * 6, none⟩ = some (.int .i64 m[k].a.k) ∧ w'.cell? ⟨b2, o2 + k * 6 + 1, none⟩ = some (.int .i64 m[k].a.i) ∧ w'.cell? ⟨b2, o2 + k * 6 + 2, none⟩ = some (.int .i64 m[k].a.j) ∧ w'.cell? ⟨b2, o2 + k * 6 + 3, none⟩ = some (.int .i64 m[k].a.n) ∧ w'.cell? ⟨b2, o2 + k * 6 + 4, none⟩ = some ((.slice a2' m[k].a.kids.length cap2')) ∧ w'.cell? ⟨b2, o2 + k * 6 + 5, none⟩ = some (.int .i64 m[k].i)) (by kernel_rfl) ?_ (fun hHeld => ?_)
        · (try dsimp only)
          (((with_reducible refine bn_keep2 ?_ HX.out HY.out); repeat (first | with_reducible assumption | with_reducible exact hk0 | with_reducible refine kept_drew ?_)))
        refine take_at 0 19 kd0 (v := ?_) (Or.inl ⟨by rfl, ?_⟩) ?_
        rotate_left 1
        · ((intro w hSw; (try dsimp only at hSw); unfold kd0; go_simp) <;> with_reducible rfl)
        (try simp only [Act.put, List.setIfInBounds_toArray, List.set_cons_zero, List.set_cons_succ])
        refine take_at 1 20 kd1 (v := ?_) (Or.inl ⟨by rfl, ?_⟩) ?_
        rotate_left 1
        · ((intro w hSw; (try dsimp only at hSw); unfold kd1; go_simp) <;> with_reducible rfl)
        (try simp only [Act.put, List.setIfInBounds_toArray, List.set_cons_zero, List.set_cons_succ])
        refine take_at 2 21 kd2 (v := ?_) (Or.inl ⟨by rfl, ?_⟩) ?_
        rotate_left 1
        · ((intro w hSw; (try dsimp only at hSw); unfold kd2; go_simp) <;> with_reducible rfl)
        (try simp only [Act.put, List.setIfInBounds_toArray, List.set_cons_zero, List.set_cons_succ])
        refine take_at 3 22 kd3 (v := ?_) (Or.inl ⟨by rfl, ?_⟩) ?_
        rotate_left 1
        · ((intro w hSw; (try dsimp only at hSw); unfold kd3; go_simp) <;> with_reducible rfl)
        (try simp only [Act.put, List.setIfInBounds_toArray, List.set_cons_zero, List.set_cons_succ])
        refine take_at 4 23 kd4 (v := ?_) (Or.inl ⟨by rfl, ?_⟩) ?_
        rotate_left 1
        · ((intro w hSw; (try dsimp only at hSw); unfold kd4; go_simp) <;> with_reducible rfl)
        (try simp only [Act.put, List.setIfInBounds_toArray, List.set_cons_zero, List.set_cons_succ])
        refine take_at 5 24 kd5 (v := ?_) (Or.inl ⟨by rfl, ?_⟩) ?_
        rotate_left 1
        · ((intro w hSw; (try dsimp only at hSw); unfold kd5; go_simp) <;> with_reducible rfl)
        (try simp only [Act.put, List.setIfInBounds_toArray, List.set_cons_zero, List.set_cons_succ])
        refine take_at 6 25 kd6 (v := ?_) (Or.inl ⟨by rfl, ?_⟩) ?_
        rotate_left 1
        · ((intro w hSw; (try dsimp only at hSw); unfold kd6; go_simp) <;> with_reducible rfl)
        (try simp only [Act.put, List.setIfInBounds_toArray, List.set_cons_zero, List.set_cons_succ])
        refine take_at 7 26 kd7 (v := ?_) (Or.inl ⟨by rfl, ?_⟩) ?_
        rotate_left 1
        · ((intro w hSw; (try dsimp only at hSw); unfold kd7; go_simp) <;> with_reducible rfl)
        (try simp only [Act.put, List.setIfInBounds_toArray, List.set_cons_zero, List.set_cons_succ])
        refine take_at 8 27 kd8 (v := ?_) (Or.inl ⟨by rfl, ?_⟩) ?_
        rotate_left 1
        · ((intro w hSw; (try dsimp only at hSw); unfold kd8; go_simp) <;> with_reducible rfl)
        (try simp only [Act.put, List.setIfInBounds_toArray, List.set_cons_zero, List.set_cons_succ])
        refine take_at 9 28 kd9 (v := undef) (Or.inr ⟨by rfl, rfl⟩) ?_
        (try simp only [Act.put, List.setIfInBounds_toArray, List.set_cons_zero, List.set_cons_succ])
        refine take_at 10 29 kd10 (v := undef) (Or.inr ⟨by rfl, rfl⟩) ?_
        (try simp only [Act.put, List.setIfInBounds_toArray, List.set_cons_zero, List.set_cons_succ])
        refine take_at 11 30 kd11 (v := undef) (Or.inr ⟨by rfl, rfl⟩) ?_
        (try simp only [Act.put, List.setIfInBounds_toArray, List.set_cons_zero, List.set_cons_succ])
        refine take_at 12 31 kd12 (v := undef) (Or.inr ⟨by rfl, rfl⟩) ?_
        (try simp only [Act.put, List.setIfInBounds_toArray, List.set_cons_zero, List.set_cons_succ])
        refine take_at 13 32 kd13 (v := undef) (Or.inr ⟨by rfl, rfl⟩) ?_
        (try simp only [Act.put, List.setIfInBounds_toArray, List.set_cons_zero, List.set_cons_succ])
        refine take_at 14 33 kd14 (v := undef) (Or.inr ⟨by rfl, rfl⟩) ?_
        (try simp only [Act.put, List.setIfInBounds_toArray, List.set_cons_zero, List.set_cons_succ])
        refine take_at 15 34 kd15 (v := undef) (Or.inr ⟨by rfl, rfl⟩) ?_
        (try simp only [Act.put, List.setIfInBounds_toArray, List.set_cons_zero, List.set_cons_succ])
        refine take_at 16 35 kd16 (v := undef) (Or.inr ⟨by rfl, rfl⟩) ?_
        (try simp only [Act.put, List.setIfInBounds_toArray, List.set_cons_zero, List.set_cons_succ])
        refine take_at 17 36 kd17 (v := undef) (Or.inr ⟨by rfl, rfl⟩) ?_
        (try simp only [Act.put, List.setIfInBounds_toArray, List.set_cons_zero, List.set_cons_succ])
        refine take_at 18 37 kd18 (v := ?_) (Or.inl ⟨by rfl, ?_⟩) ?_
        rotate_left 1
        · ((intro w hSw; (try dsimp only at hSw); unfold kd18; go_simp) <;> with_reducible rfl)
        (try simp only [Act.put, List.setIfInBounds_toArray, List.set_cons_zero, List.set_cons_succ])
        refine wpAnyH_done (by kernel_rfl) ?_ _
        have hkE := hHeld.1
        clear hHeld
        go_wp2_with fail
        go_ret
        exact ⟨ret_bool HF.out.symm, HBV.out.trans (Below.mono hkE HBV.out.size)⟩
    · have : k = l.length := by omega
      subst this
      go_wp2
      go_ret
      exact ⟨ret_bool (by have hg := hgood.out; rw [List.take_length, HL.out, List.take_length] at hg; exact hg.symm), hb⟩
end Go.Proofs.Ytjhdcjjoignioaa
