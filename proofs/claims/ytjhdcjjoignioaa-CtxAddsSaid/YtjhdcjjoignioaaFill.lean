/-
  Five cells of a block are written at once: what lies elsewhere stays; the term lies there. A list of terms that was made whole and is filled; a tree that is spoilt from below.
-/
import Derived.Test.YtjhdcjjoignioaaMade
import Derived.Test.YtjhdcjjoignioaaSize
import Derived.Laws.IdiomCopy
import Derived.Deep.Slices
namespace Go.Proofs.Ytjhdcjjoignioaa
open Go.RowKit

/-- The five cells of an element, written one behind the other. -/
def put5 (w : World) (g o : Nat) (t : Tm) (s : Value) : World := ((((w.setCell ⟨g, o, none⟩ (.int .i64 t.k)).setCell ⟨g, o + 1, none⟩ (.int .i64 t.i)).setCell ⟨g, o + 2, none⟩ (.int .i64 t.j)).setCell ⟨g, o + 3, none⟩ (.int .i64 t.n)).setCell ⟨g, o + 4, none⟩ s

theorem put5_other (w : World) (g o : Nat) (t : Tm) (s : Value) {b : Nat} (h : b ≠ g) : (put5 w g o t s).heap[b]? = w.heap[b]? := by
  unfold put5; repeat rw [Below.heap_setCell _ _ _ _ (by exact h)]
theorem put5_rest (w : World) (g o : Nat) (t : Tm) (s : Value) : (put5 w g o t s).os = w.os ∧ (put5 w g o t s).tape = w.tape ∧ (put5 w g o t s).output = w.output := by simp [put5, World.setCell]
theorem put5_size (w : World) (g o : Nat) (t : Tm) (s : Value) : (put5 w g o t s).heap.size = w.heap.size := by simp [put5, World.setCell]
theorem put5_block {w : World} {g : Nat} {cs : Array Value} {T : TypeId} (o : Nat) (t : Tm) (s : Value) (h : w.heap[g]? = some (.cells cs T (0, 0))) :
    (put5 w g o t s).heap[g]? = some (.cells (((((cs.setIfInBounds o (.int .i64 t.k)).setIfInBounds (o + 1) (.int .i64 t.i)).setIfInBounds (o + 2) (.int .i64 t.j)).setIfInBounds (o + 3) (.int .i64 t.n)).setIfInBounds (o + 4) s) T (0, 0)) :=
  heap_setCell_same _ _ _ _ _ _ (heap_setCell_same _ _ _ _ _ _ (heap_setCell_same _ _ _ _ _ _ (heap_setCell_same _ _ _ _ _ _ (heap_setCell_same _ _ _ _ _ _ h))))
theorem put5_out (w : World) (g o : Nat) (t : Tm) (s : Value) {q : Nat} (h : q < o ∨ o + 5 ≤ q) : (put5 w g o t s).cell? ⟨g, q, none⟩ = w.cell? ⟨g, q, none⟩ := by
  unfold put5
  repeat rw [World.cell?_setCell_other _ _ _ _ (by intro e; have := congrArg Addr.off e; simp only at this; omega)]
theorem put5_node {w : World} {g o : Nat} {t0 : Tm} {s0 : Value} (t : Tm) (s : Value) (h : Node w g o t0 s0) : Node (put5 w g o t s) g o t s := by
  have ne : ∀ p q : Nat, p ≠ q → (⟨g, p, none⟩ : Addr) ≠ ⟨g, q, none⟩ := fun p q hpq e => hpq (congrArg Addr.off e)
  unfold put5
  refine ⟨?_, ?_, ?_, ?_, ?_⟩
  · rw [World.cell?_setCell_other _ _ _ _ (ne _ _ (by omega)), World.cell?_setCell_other _ _ _ _ (ne _ _ (by omega)), World.cell?_setCell_other _ _ _ _ (ne _ _ (by omega)), World.cell?_setCell_other _ _ _ _ (ne _ _ (by omega))]
    exact World.cell?_setCell_same _ _ _ h.c0
  · rw [World.cell?_setCell_other _ _ _ _ (ne _ _ (by omega)), World.cell?_setCell_other _ _ _ _ (ne _ _ (by omega)), World.cell?_setCell_other _ _ _ _ (ne _ _ (by omega))]
    refine World.cell?_setCell_same _ _ _ (u := .int .i64 t0.i) ?_
    rw [World.cell?_setCell_other _ _ _ _ (ne _ _ (by omega))]; exact h.c1
  · rw [World.cell?_setCell_other _ _ _ _ (ne _ _ (by omega)), World.cell?_setCell_other _ _ _ _ (ne _ _ (by omega))]
    refine World.cell?_setCell_same _ _ _ (u := .int .i64 t0.j) ?_
    rw [World.cell?_setCell_other _ _ _ _ (ne _ _ (by omega)), World.cell?_setCell_other _ _ _ _ (ne _ _ (by omega))]; exact h.c2
  · rw [World.cell?_setCell_other _ _ _ _ (ne _ _ (by omega))]
    refine World.cell?_setCell_same _ _ _ (u := .int .i64 t0.n) ?_
    rw [World.cell?_setCell_other _ _ _ _ (ne _ _ (by omega)), World.cell?_setCell_other _ _ _ _ (ne _ _ (by omega)), World.cell?_setCell_other _ _ _ _ (ne _ _ (by omega))]; exact h.c3
  · refine World.cell?_setCell_same _ _ _ (u := s0) ?_
    rw [World.cell?_setCell_other _ _ _ _ (ne _ _ (by omega)), World.cell?_setCell_other _ _ _ _ (ne _ _ (by omega)), World.cell?_setCell_other _ _ _ _ (ne _ _ (by omega)), World.cell?_setCell_other _ _ _ _ (ne _ _ (by omega))]; exact h.c4
/-- Another element's cells stay. -/
theorem put5_keep {w : World} {g o o' b : Nat} {t x : Tm} {s sx : Value} (h : Node w b o' x sx) (hne : b ≠ g ∨ o' + 5 ≤ o ∨ o + 5 ≤ o') : Node (put5 w g o t s) b o' x sx := by
  by_cases hb : b = g
  · subst hb
    have hne' : o' + 5 ≤ o ∨ o + 5 ≤ o' := hne.resolve_left (fun h => h rfl)
    exact ⟨(put5_out _ _ _ _ _ (by omega)).trans h.c0, (put5_out _ _ _ _ _ (by omega)).trans h.c1, (put5_out _ _ _ _ _ (by omega)).trans h.c2, (put5_out _ _ _ _ _ (by omega)).trans h.c3, (put5_out _ _ _ _ _ (by omega)).trans h.c4⟩
  · exact h.same (put5_other _ _ _ _ _ hb)

/-- A list that was made whole and is filled from the left: block g; xs: the terms as they stand there now. -/
structure Full (B : Nat) (w : World) (g : Nat) (xs : List (Tm × Value)) : Prop where
  above : B ≤ g
  open' : ∃ cs, w.heap[g]? = some (.cells cs 26 (0, 0))
  node : ∀ i (h : i < xs.length), Node w g (i * 5) (xs[i]).1 (xs[i]).2
  fine : ∀ p ∈ xs, p.1.fine
  kids : ∀ p ∈ xs, LiesP w (fun b => Own B w b ∧ b ≠ g) p.1.kids p.2

theorem Full.later {B g : Nat} {w w' : World} {xs : List (Tm × Value)} (h : Full B w g xs) (hb : Below w.heap.size w w') : Full B w' g xs := by
  have hg : g < w.heap.size := by obtain ⟨cs, h⟩ := h.open'; exact (Array.getElem?_eq_some_iff.1 h).1
  exact ⟨h.above, by rw [hb.block g hg]; exact h.open', fun i hi => (h.node i hi).below hb hg, h.fine, fun p hp => (h.kids p hp).keep (fun b _ hlt => hb.block b hlt) (fun _ hq _ => ⟨hq.1.later hb, hq.2⟩)⟩

/-- A new term is laid into it. -/
theorem Full.fill {B g k : Nat} {w : World} {xs : List (Tm × Value)} {t : Tm} {s : Value} (h : Full B w g xs) (hk : k < xs.length) (hf : t.fine) (hl : LiesP w (fun b => Own B w b ∧ b ≠ g) t.kids s) :
    Full B (put5 w g (k * 5) t s) g (xs.set k (t, s)) := by
  have keepL : ∀ l s', LiesP w (fun b => Own B w b ∧ b ≠ g) l s' → LiesP (put5 w g (k * 5) t s) (fun b => Own B (put5 w g (k * 5) t s) b ∧ b ≠ g) l s' := fun l s' h' =>
    h'.keep (fun b hb _ => put5_other _ _ _ _ _ hb.2) (fun b hb _ => ⟨hb.1.same (put5_other _ _ _ _ _ hb.2), hb.2⟩)
  refine ⟨h.above, ?_, fun i hi => ?_, fun p hp => ?_, fun p hp => ?_⟩
  · obtain ⟨cs, hcs⟩ := h.open'; exact ⟨_, put5_block _ _ _ hcs⟩
  · have hi' : i < xs.length := by simpa using hi
    by_cases e : k = i
    · subst e
      simp only [List.getElem_set_self]
      exact put5_node t s (h.node k hk)
    · rw [List.getElem_set_ne e]
      exact put5_keep (h.node i hi') (Or.inr (by omega))
  · rcases List.mem_or_eq_of_mem_set hp with hp | rfl
    · exact h.fine p hp
    · exact hf
  · rcases List.mem_or_eq_of_mem_set hp with hp | rfl
    · exact keepL _ _ (h.kids p hp)
    · exact keepL _ _ hl

/-- A term that a call has just made may be laid into it. -/
theorem Full.fresh {B g : Nat} {wr w2 : World} {xs : List (Tm × Value)} {l : List Tm} {s2 : Value} (h : Full B wr g xs) (hB : B ≤ wr.heap.size) (hk : LiesP w2 (Own wr.heap.size w2) l s2) : LiesP w2 (fun b => Own B w2 b ∧ b ≠ g) l s2 := by
  have hg : g < wr.heap.size := by obtain ⟨cs, h⟩ := h.open'; exact (Array.getElem?_eq_some_iff.1 h).1
  exact hk.keep (fun _ _ _ => rfl) (fun b hb _ => ⟨hb.from hB, by have := hb.1; omega⟩)

/-- The whole list as terms of the call's own memory. -/
theorem Full.lies {B g cap : Nat} {w : World} {xs : List (Tm × Value)} (h : Full B w g xs) (hc : xs.length ≤ cap) (hm : cap ≤ maxLen) : LiesP w (Own B w) (xs.map (·.1)) (.slice (some ⟨g, 0, none⟩) xs.length cap) := by
  have := LiesP.mk (w := w) (P := Own B w) (xs.map (·.1)) (some ⟨g, 0, none⟩) cap (fun i => (xs[i]?.map (·.2)).getD (.slice none 0 0)) (by simpa using hc) hm
    (fun x hx => by obtain ⟨p, hp, rfl⟩ := List.mem_map.1 hx; exact h.fine p hp)
    (fun i hi => by
      have hi' : i < xs.length := by simpa using hi
      refine ⟨g, rfl, ⟨h.above, h.open'⟩, ?_⟩
      simp only [List.getElem_map, List.getElem?_eq_getElem hi', Option.map_some, Option.getD_some]
      exact h.node i hi')
    (fun i hi => by
      have hi' : i < xs.length := by simpa using hi
      simp only [List.getElem_map, List.getElem?_eq_getElem hi', Option.map_some, Option.getD_some]
      exact (h.kids _ (List.getElem_mem hi')).keep (fun _ _ _ => rfl) (fun _ hb _ => hb.1))
  simpa using this

theorem liesP_nil (w : World) (P : Nat → Prop) : LiesP w P [] (.slice none 0 0) := .mk [] none 0 (fun _ => .nilIface) (Nat.le_refl _) (by decide) (fun _ h => by cases h) (fun _ h => by cases h) (fun _ h => by cases h)

/-! What is spoilt. -/

/-- All blocks of which P speaks are open. -/
def Free (P : Nat → Prop) (w : World) : Prop := ∀ b, P b → ∃ cs, w.heap[b]? = some (.cells cs 26 (0, 0))

/-- Whatever lay there lies there still, no greater than it was; what P doesn't speak of is as it was. -/
def Shr (P : Nat → Prop) (w w' : World) : Prop := Free P w' ∧ w.heap.size ≤ w'.heap.size ∧ (w'.os = w.os ∧ w'.tape = w.tape ∧ w'.output = w.output) ∧ (∀ b, b < w.heap.size → ¬ P b → w'.heap[b]? = w.heap[b]?) ∧ ∀ l s, LiesP w P l s → ∃ l', l'.length = l.length ∧ sizes l' ≤ sizes l ∧ LiesP w' P l' s

theorem sizes_map_le {n : Nat} (f : Nat → Tm) : ∀ (l : List Tm), l.length = n → (∀ i (h : i < l.length), (f i).size ≤ (l[i]).size) → sizes ((List.range n).map f) ≤ sizes l := by
  intro l hl h
  subst hl
  induction l generalizing f with
  | nil => simp [sizes]
  | cons a r ih =>
    have h0 := h 0 (by simp)
    simp only [List.getElem_cons_zero] at h0
    have := ih (fun i => f (i + 1)) (fun i hi => by have := h (i + 1) (by simpa using hi); simpa using this)
    rw [List.length_cons, List.range_succ_eq_map, List.map_cons, List.map_map]
    simp only [sizes]
    have e : ((fun i => f (i + 1))) = f ∘ Nat.succ := rfl
    rw [e] at this
    omega

instance : Inhabited (Tm × Value) := ⟨(.mk 0 0 0 0 [], .nilIface)⟩

/-- An element is overwritten by a term without kids. -/
theorem LiesP.store {w : World} {P : Nat → Prop} {g j : Nat} {z : Tm} (hz : z.kids = []) (hzf : z.fine) {l : List Tm} {s : Value} (h : LiesP w P l s) :
    ∃ l', l'.length = l.length ∧ sizes l' ≤ sizes l ∧ LiesP (put5 w g (j * 5) z (.slice none 0 0)) P l' s := by
  induction h with
  | mk l a cap S hc hm hf hn hk ih =>
    have key : ∀ i, i < l.length → ∃ p : Tm × Value, p.1.fine ∧ (∀ h : i < l.length, p.1.size ≤ (l[i]).size) ∧ LiesP (put5 w g (j * 5) z (.slice none 0 0)) P p.1.kids p.2 ∧ ∃ b, a = some ⟨b, 0, none⟩ ∧ P b ∧ Node (put5 w g (j * 5) z (.slice none 0 0)) b (i * 5) p.1 p.2 := by
      intro i hi
      obtain ⟨b, ha, hp, hx⟩ := hn i hi
      by_cases e : b = g ∧ i = j
      · obtain ⟨rfl, rfl⟩ := e
        refine ⟨(z, .slice none 0 0), hzf, fun _ => ?_, by rw [hz]; exact liesP_nil _ _, b, ha, hp, put5_node _ _ hx⟩
        rw [Tm.size_eq, Tm.size_eq, hz]; simp [sizes]
      · obtain ⟨l', h1, h2, h3⟩ := ih i hi
        have hfi := hf _ (List.getElem_mem hi)
        refine ⟨(.mk (l[i]).k (l[i]).i (l[i]).j (l[i]).n l', S i), hfi, fun _ => ?_, h3, b, ha, hp, ?_⟩
        · rw [Tm.size_eq, Tm.size_eq]; show sizes l' + 1 ≤ _; omega
        · have : Node w b (i * 5) (.mk (l[i]).k (l[i]).i (l[i]).j (l[i]).n l') (S i) := ⟨hx.c0, hx.c1, hx.c2, hx.c3, hx.c4⟩
          exact put5_keep this (by by_cases hb : b = g
                                   · right; have : i ≠ j := fun e' => e ⟨hb, e'⟩; omega
                                   · exact Or.inl hb)
    obtain ⟨f, hf'⟩ := Go.Deep.choose_lt (α := Tm × Value) (p := fun i p => p.1.fine ∧ (∀ h : i < l.length, p.1.size ≤ (l[i]).size) ∧ LiesP (put5 w g (j * 5) z (.slice none 0 0)) P p.1.kids p.2 ∧ ∃ b, a = some ⟨b, 0, none⟩ ∧ P b ∧ Node (put5 w g (j * 5) z (.slice none 0 0)) b (i * 5) p.1 p.2) key
    have hl5 : ((List.range l.length).map fun i => (f i).1).length = l.length := by simp
    refine ⟨(List.range l.length).map fun i => (f i).1, hl5, sizes_map_le (fun i => (f i).1) l rfl (fun i hi => (hf' i hi).2.1 hi), ?_⟩
    have := LiesP.mk (w := put5 w g (j * 5) z (.slice none 0 0)) (P := P) ((List.range l.length).map fun i => (f i).1) a cap (fun i => (f i).2) (by simpa using hc) hm
      (fun x hx => by obtain ⟨i, hi, rfl⟩ := List.mem_map.1 hx; exact (hf' i (List.mem_range.1 hi)).1)
      (fun i hi => by obtain ⟨b, ha, hp, hn⟩ := (hf' i (by simpa using hi)).2.2.2; exact ⟨b, ha, hp, by simpa using hn⟩)
      (fun i hi => by simpa using (hf' i (by simpa using hi)).2.2.1)
    rwa [hl5] at this

theorem Shr.trans {P : Nat → Prop} {w w1 w2 : World} (h : Shr P w w1) (h' : Shr P w1 w2) : Shr P w w2 := by
  obtain ⟨a1, a2, a3, a4, a5⟩ := h
  obtain ⟨b1, b2, b3, b4, b5⟩ := h'
  refine ⟨b1, Nat.le_trans a2 b2, ⟨b3.1.trans a3.1, b3.2.1.trans a3.2.1, b3.2.2.trans a3.2.2⟩, fun b hb hp => (b4 b (by omega) hp).trans (a4 b hb hp), fun l s hl => ?_⟩
  obtain ⟨l1, e1, f1, g1⟩ := a5 l s hl
  obtain ⟨l2, e2, f2, g2⟩ := b5 l1 s g1
  exact ⟨l2, e2.trans e1, Nat.le_trans f2 f1, g2⟩

theorem Shr.put {P : Nat → Prop} {w : World} {g j : Nat} {z : Tm} (hz : z.kids = []) (hzf : z.fine) (hf : Free P w) (hg : P g) : Shr P w (put5 w g (j * 5) z (.slice none 0 0)) := by
  refine ⟨fun b hb => ?_, by rw [put5_size]; exact Nat.le_refl _, put5_rest _ _ _ _ _, fun b _ hp => put5_other _ _ _ _ _ (fun e => hp (e ▸ hg)), fun l s hl => hl.store hz hzf⟩
  by_cases e : b = g
  · subst e; obtain ⟨cs, hcs⟩ := hf b hb; exact ⟨_, put5_block _ _ _ hcs⟩
  · rw [put5_other _ _ _ _ _ e]; exact hf b hb

theorem Shr.alloc {P : Nat → Prop} {w : World} (o : Obj) (hP : ∀ b, P b → b < w.heap.size) (hf : Free P w) : Shr P w (w.alloc o) :=
  ⟨fun b hb => by rw [Below.heap_alloc _ _ _ (hP b hb)]; exact hf b hb, by simp, ⟨rfl, rfl, rfl⟩, fun b hb _ => Below.heap_alloc _ _ _ hb,
    fun l s hl => ⟨l, rfl, Nat.le_refl _, hl.keep (fun b _ hlt => Below.heap_alloc _ _ _ hlt) (fun _ hp _ => hp)⟩⟩

theorem Shr.below {P : Nat → Prop} {w w' : World} {B : Nat} (h : Shr P w w') (hP : ∀ b, P b → B ≤ b) (hB : B ≤ w.heap.size) : Below B w w' :=
  ⟨h.2.2.1.1, h.2.2.1.2.1, h.2.2.1.2.2, h.2.1, fun k hk => h.2.2.2.1 k (by omega) (fun hp => by have := hP k hp; omega)⟩
end Go.Proofs.Ytjhdcjjoignioaa
