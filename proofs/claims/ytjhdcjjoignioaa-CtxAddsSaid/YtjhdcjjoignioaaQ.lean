/-
  Terms that a call hands back and that may share what was handed in: the blocks in which they lie are old ones or new ones; a list of such terms that is appended to.
-/
import Derived.Test.YtjhdcjjoignioaaEnds
namespace Go.Proofs.Ytjhdcjjoignioaa
open Go.RowKit

/-- Terms behind a slice, at whatever place of blocks of which P speaks. -/
inductive LiesQ (w : World) (P : Nat → Prop) : List Tm → Value → Prop
  | mk (l : List Tm) (a : Option Addr) (cap : Nat) (S : Nat → Value) (hc : l.length ≤ cap) (hm : cap ≤ maxLen) (hf : ∀ x ∈ l, x.fine)
      (hn : ∀ i (h : i < l.length), ∃ b o, a = some ⟨b, o, none⟩ ∧ P b ∧ Node w b (o + i * 5) l[i] (S i)) (hk : ∀ i (h : i < l.length), LiesQ w P (l[i]).kids (S i)) : LiesQ w P l (.slice a l.length cap)

theorem LiesQ.lies {w : World} {P : Nat → Prop} {l : List Tm} {s : Value} (h : LiesQ w P l s) : Lies w l s := by
  induction h with
  | mk l a cap S hc hm hf hn hk ih => exact .mk l a cap S hc hm hf (fun i hi => by obtain ⟨b, o, ha, _, hx⟩ := hn i hi; exact ⟨b, o, ha, hx⟩) ih
theorem Lies.q {w : World} {l : List Tm} {s : Value} (h : Lies w l s) : LiesQ w (fun b => b < w.heap.size) l s := by
  induction h with
  | mk l a cap S hc hm hf hn hk ih => exact .mk l a cap S hc hm hf (fun i hi => by obtain ⟨b, o, ha, hx⟩ := hn i hi; exact ⟨b, o, ha, hx.lt, hx⟩) ih
theorem LiesQ.keep {w w' : World} {P Q : Nat → Prop} {l : List Tm} {s : Value} (h : LiesQ w P l s) (hb : ∀ b, P b → b < w.heap.size → w'.heap[b]? = w.heap[b]?) (hq : ∀ b, P b → b < w.heap.size → Q b) : LiesQ w' Q l s := by
  induction h with
  | mk l a cap S hc hm hf hn hk ih =>
    exact .mk l a cap S hc hm hf (fun i hi => by obtain ⟨b, o, ha, hp, hx⟩ := hn i hi; exact ⟨b, o, ha, hq b hp hx.lt, hx.same (hb b hp hx.lt)⟩) ih
theorem LiesQ.later {w w' : World} {P : Nat → Prop} {l : List Tm} {s : Value} (h : LiesQ w P l s) (hb : Below w.heap.size w w') : LiesQ w' P l s := h.keep (fun b _ hlt => hb.block b hlt) (fun _ hp _ => hp)
theorem LiesQ.wide {w : World} {P Q : Nat → Prop} {l : List Tm} {s : Value} (h : LiesQ w P l s) (hq : ∀ b, P b → Q b) : LiesQ w Q l s := h.keep (fun _ _ _ => rfl) (fun b hp _ => hq b hp)
theorem LiesQ.out {w : World} {P : Nat → Prop} {l : List Tm} {s : Value} (h : LiesQ w P l s) : ∃ (a : Option Addr) (cap : Nat) (S : Nat → Value), s = .slice a l.length cap ∧ l.length ≤ cap ∧ cap ≤ maxLen ∧ (∀ x ∈ l, x.fine) ∧
    (∀ i (h : i < l.length), ∃ b o, a = some ⟨b, o, none⟩ ∧ P b ∧ Node w b (o + i * 5) l[i] (S i)) ∧ (∀ i (h : i < l.length), LiesQ w P (l[i]).kids (S i)) := by
  cases h with
  | mk l a cap S hc hm hf hn hk => exact ⟨a, cap, S, rfl, hc, hm, hf, hn, hk⟩
theorem liesQ_nil (w : World) (P : Nat → Prop) : LiesQ w P [] (.slice none 0 0) := .mk [] none 0 (fun _ => .nilIface) (Nat.le_refl _) (by decide) (fun _ h => by cases h) (fun _ h => by cases h) (fun _ h => by cases h)

/-- What lies in a call's own memory. -/
theorem LiesP.q {w : World} {P : Nat → Prop} {l : List Tm} {s : Value} (h : LiesP w P l s) : LiesQ w P l s := by
  induction h with
  | mk l a cap S hc hm hf hn hk ih => exact .mk l a cap S hc hm hf (fun i hi => by obtain ⟨b, ha, hp, hx⟩ := hn i hi; exact ⟨b, 0, ha, hp, by rw [Nat.zero_add]; exact hx⟩) ih

/-- Blocks that were there before E, or that are new since N. -/
def Far (E N b : Nat) : Prop := b < E ∨ N ≤ b
/-- What a call hands back that gives a term which may share what was handed in. -/
def Shares (E : Nat) (u : Tm) (w : World) (e : Ending) (w' : World) : Prop := ∃ s' : Value, e = .returned (tv u s') ∧ LiesQ w' (Far E w.heap.size) u.kids s' ∧ Below w.heap.size w w'

structure MadeQ (E N B : Nat) (w : World) (v : Value) (ps : List (Tm × Value)) : Prop where
  own : w.ownsRow B 26 5 v ps.length (cells5 ps)
  fine : ∀ p ∈ ps, p.1.fine
  kids : ∀ p ∈ ps, LiesQ w (fun b => Far E N b ∧ v.ownBlock ≠ some b) p.1.kids p.2
theorem madeQ_nil (E N B : Nat) (w : World) : MadeQ E N B w (.slice none 0 0) [] := ⟨⟨rfl, Or.inl ⟨rfl, rfl⟩⟩, (fun _ h => by cases h), (fun _ h => by cases h)⟩
theorem madeQ_later {E N B : Nat} {w w' : World} {v : Value} {ps : List (Tm × Value)} (h : MadeQ E N B w v ps) (hb : Below w.heap.size w w') : MadeQ E N B w' v ps := by
  refine ⟨?_, h.fine, fun p hp => (h.kids p hp).later hb⟩
  obtain ⟨h1, h2⟩ := h.own
  refine ⟨h1, ?_⟩
  rcases h2 with h2 | ⟨g, cap, cur, hv, hg, hh, r⟩
  · exact Or.inl h2
  · refine Or.inr ⟨g, cap, cur, hv, hg, ?_, r⟩
    rw [hb.block g ?_]; exact hh
    exact (Array.getElem?_eq_some_iff.1 hh).1
/-- The block of the list lies between. -/
theorem madeQ_block {E N B : Nat} {w : World} {v : Value} {ps : List (Tm × Value)} (h : MadeQ E N B w v ps) {g : Nat} (hg : v.ownBlock = some g) : B ≤ g ∧ g < w.heap.size := by
  rcases h.own.2 with ⟨rfl, -⟩ | ⟨g', cap, cur, rfl, hg', hh, -⟩
  · simp [Value.ownBlock] at hg
  · have := (Array.getElem?_eq_some_iff.1 hh).1
    simp [Value.ownBlock] at hg
    omega
/-- What a kid's call has handed back is appended. -/
theorem madeQ_push {E N B : Nat} {wr w2 w3 : World} {v : Value} {ps : List (Tm × Value)} {u : Tm} {s2 : Value} {g cap : Nat} (h : MadeQ E N B wr v ps) (hEN : E ≤ N) (hNB : N ≤ B) (hB : B ≤ wr.heap.size) (hf : u.fine) (hb2 : Below wr.heap.size wr w2)
    (hk : LiesQ w2 (Far E wr.heap.size) u.kids s2) (o : Obj) (hown : w3.ownsRow B 26 5 (.slice (some ⟨g, 0, none⟩) (ps.length + 1) cap) (ps.length + 1) (cells5 ps ++ cells5 [(u, s2)]))
    (hgrow : (w2.alloc o).grownBy w3 v.ownBlock) (hat : v.ownBlock = some g ∨ g = (w2.alloc o).heap.size) : MadeQ E N B w3 (.slice (some ⟨g, 0, none⟩) (ps.length + 1) cap) (ps ++ [(u, s2)]) := by
  have hs2 : (w2.alloc o).heap.size = w2.heap.size + 1 := by simp
  have hsz := hb2.size
  have h2 : MadeQ E N B (w2.alloc o) v ps := madeQ_later (madeQ_later h hb2) ((Below.refl _ _).alloc (Nat.le_refl _) _)
  have keep : ∀ q : Tm × Value, LiesQ (w2.alloc o) (fun b => Far E N b ∧ v.ownBlock ≠ some b) q.1.kids q.2 → LiesQ w3 (fun b => Far E N b ∧ (Value.slice (some ⟨g, 0, none⟩) (ps.length + 1) cap).ownBlock ≠ some b) q.1.kids q.2 := fun q hq =>
    hq.keep (fun b hb hlt => hgrow.block b hlt (fun e => hb.2 e.symm)) (fun b hb hlt => ⟨hb.1, by
      show some g ≠ some b
      rcases hat with e | e
      · rw [← e]; exact hb.2
      · intro e'; have := Option.some.inj e'; omega⟩)
  have hnew : LiesQ (w2.alloc o) (fun b => Far E N b ∧ v.ownBlock ≠ some b) u.kids s2 :=
    (hk.later ((Below.refl _ _).alloc (Nat.le_refl _) o)).wide (fun b hb => ⟨by rcases hb with hb | hb; exact Or.inl hb; exact Or.inr (by omega), fun e => by
      have := madeQ_block h e
      rcases hb with hb | hb <;> omega⟩)
  refine ⟨by rw [cells5_append]; simpa using hown, fun q hq => ?_, fun q hq => ?_⟩
  · rcases List.mem_append.1 hq with hq | hq
    · exact h.fine q hq
    · rw [List.mem_singleton.1 hq]; exact hf
  · rcases List.mem_append.1 hq with hq | hq
    · exact keep q (h2.kids q hq)
    · rw [List.mem_singleton.1 hq]; exact keep (u, s2) hnew
theorem madeQ_above {E N B : Nat} {w : World} {v : Value} {ps : List (Tm × Value)} (h : MadeQ E N B w v ps) : ∀ g, v.ownBlock = some g → B ≤ g := fun _ hg => (madeQ_block h hg).1
/-- The list as terms. -/
theorem madeQ_lies {E N B : Nat} {w : World} {v : Value} {ps : List (Tm × Value)} (h : MadeQ E N B w v ps) (hNB : N ≤ B) : LiesQ w (Far E N) (ps.map (·.1)) v := by
  have fin : ∀ x ∈ ps.map (·.1), x.fine := fun x hx => by obtain ⟨p, hp, rfl⟩ := List.mem_map.1 hx; exact h.fine p hp
  have kid : ∀ i (hi : i < ps.length), LiesQ w (Far E N) (ps[i]).1.kids (ps[i]).2 := fun i hi => (h.kids _ (List.getElem_mem hi)).wide (fun _ hb => hb.1)
  obtain ⟨-, ⟨rfl, hn⟩ | ⟨g, cap, cur, rfl, hg, hh, hnc, hcm, hsz, htk⟩⟩ := h.own
  · obtain rfl : ps = [] := List.eq_nil_of_length_eq_zero hn
    exact liesQ_nil _ _
  · have := LiesQ.mk (w := w) (P := Far E N) (ps.map (·.1)) (some ⟨g, 0, none⟩) cap (fun i => (ps[i]?.map (·.2)).getD (.slice none 0 0)) (by simpa using hnc) hcm fin
      (fun i hi => by
        have hi' : i < ps.length := by simpa using hi
        refine ⟨g, 0, rfl, Or.inr (by omega), ?_⟩
        simp only [List.getElem_map, List.getElem?_eq_getElem hi', Option.map_some, Option.getD_some, Nat.zero_add]
        have cellq : ∀ q, q < 5 → w.cell? ⟨g, i * 5 + q, none⟩ = [Value.int .i64 (ps[i]).1.k, .int .i64 (ps[i]).1.i, .int .i64 (ps[i]).1.j, .int .i64 (ps[i]).1.n, (ps[i]).2][q]? := fun q hq => by
          rw [h.own.cellAt (i * 5 + q) (by omega)]; exact cells5_get ps i hi' q hq
        exact ⟨cellq 0 (by omega), cellq 1 (by omega), cellq 2 (by omega), cellq 3 (by omega), cellq 4 (by omega)⟩)
      (fun i hi => by
        have hi' : i < ps.length := by simpa using hi
        simp only [List.getElem_map, List.getElem?_eq_getElem hi', Option.map_some, Option.getD_some]
        exact kid i hi')
    simpa using this
end Go.Proofs.Ytjhdcjjoignioaa
