/-
  Facts and contracts that the proof of RuleRight uses.
-/
import Derived.OrdersHeld
import Derived.Below
import Derived.Laws.Rows
import Derived.Laws.CopyRow
import Derived.KernelRfl
import Derived.WalkKit
import Derived.Lib.Hide
import Derived.Lib.MinMax
import Derived.Deep.RegionHeld3
import Derived.Test.YtmicgbdcbjajiaaRows
import Derived.Deep.RegionWith
import Derived.Deep.AppendLies
import Derived.Laws.IdiomCopy
import Derived.Deep.Slices
import Derived.Deep.QuietTactic
import Derived.BigQuiet
import Derived.Lib.QuietBelow
import Derived.StillTailTactics
import Derived.IntWalk
import Derived.OwnWalk
import Derived.Deep.DeepCutAuto
import Derived.Deep.RegionLaw
import Derived.Deep.LoopGhost
import Derived.Deep.MidRow
import Derived.Laws.Tables
import Derived.Laws.CopyOwn
import Derived.Deep.RegionHeld
import Derived.Deep.Upon
import Derived.ArgAppend
import Derived.Laws.EntriesVeiled
import Derived.ProofKit
import Derived.OpenShut
import Derived.Carry
import Derived.ChangeSlices
import Derived.JoinedOf
import Derived.Test.YtmicgbdcbjajiaaRuleRightQ1
namespace Go.Proofs.Ytmicgbdcbjajiaa
open Go.RowKit
def put5 (w : World) (g o : Nat) (t : Tm) (s : Value) : World := ((((w.setCell ⟨g, o, none⟩ (.int .i64 t.k)).setCell ⟨g, o + 1, none⟩ (.int .i64 t.i)).setCell ⟨g, o + 2, none⟩ (.int .i64 t.j)).setCell ⟨g, o + 3, none⟩ (.int .i64 t.n)).setCell ⟨g, o + 4, none⟩ s
theorem put5_other (w : World) (g o : Nat) (t : Tm) (s : Value) {b : Nat} (h : b ≠ g) : (put5 w g o t s).heap[b]? = w.heap[b]? := by
  unfold put5; repeat rw [Below.heap_setCell _ _ _ _ (by exact h)]
theorem put5_rest (w : World) (g o : Nat) (t : Tm) (s : Value) : (put5 w g o t s).os = w.os ∧ (put5 w g o t s).tape = w.tape ∧ (put5 w g o t s).output = w.output := by simp [put5, World.setCell]
theorem put5_size (w : World) (g o : Nat) (t : Tm) (s : Value) : (put5 w g o t s).heap.size = w.heap.size := by simp [put5, World.setCell]
theorem put5_block {w : World} {g : Nat} {cs : Array Value} {T : TypeId} (o : Nat) (t : Tm) (s : Value) (h : w.heap[g]? = some (.cells cs T (0, 0))) :
    (put5 w g o t s).heap[g]? = some (.cells (((((cs.setIfInBounds o (.int .i64 t.k)).setIfInBounds (o + 1) (.int .i64 t.i)).setIfInBounds (o + 2) (.int .i64 t.j)).setIfInBounds (o + 3) (.int .i64 t.n)).setIfInBounds (o + 4) s) T (0, 0)) :=
  heap_setCell_same _ _ _ _ _ _ (heap_setCell_same _ _ _ _ _ _ (heap_setCell_same _ _ _ _ _ _ (heap_setCell_same _ _ _ _ _ _ (heap_setCell_same _ _ _ _ _ _ h))))
theorem put5_out (w : World) (g o : Nat) (t : Tm) (s : Value) {q : Nat} (h : q < o ∨ o + 5 ≤ q) : (put5 w g o t s).cell? ⟨g, q, none⟩ = w.cell? ⟨g, q, none⟩ := by
  unfold put5
  repeat rw [World.cell?_setCell_other _ _ _ _ (by intro e; have := congrArg Addr.off e; simp only at this; omega)]
theorem put5_node {w : World} {g o : Nat} {t0 : Tm} {s0 : Value} (t : Tm) (s : Value) (h : Node w g o t0 s0) : Node (put5 w g o t s) g o t s := by
  have ne : ∀ p q : Nat, p ≠ q → (⟨g, p, none⟩ : Addr) ≠ ⟨g, q, none⟩ := fun p q hpq e => hpq (congrArg Addr.off e)
  unfold put5
  refine ⟨?_, ?_, ?_, ?_, ?_⟩
  · rw [World.cell?_setCell_other _ _ _ _ (ne _ _ (by omega)), World.cell?_setCell_other _ _ _ _ (ne _ _ (by omega)), World.cell?_setCell_other _ _ _ _ (ne _ _ (by omega)), World.cell?_setCell_other _ _ _ _ (ne _ _ (by omega))]
    exact World.cell?_setCell_same _ _ _ h.c0
  · rw [World.cell?_setCell_other _ _ _ _ (ne _ _ (by omega)), World.cell?_setCell_other _ _ _ _ (ne _ _ (by omega)), World.cell?_setCell_other _ _ _ _ (ne _ _ (by omega))]
    refine World.cell?_setCell_same _ _ _ (u := .int .i64 t0.i) ?_
    rw [World.cell?_setCell_other _ _ _ _ (ne _ _ (by omega))]; exact h.c1
  · rw [World.cell?_setCell_other _ _ _ _ (ne _ _ (by omega)), World.cell?_setCell_other _ _ _ _ (ne _ _ (by omega))]
    refine World.cell?_setCell_same _ _ _ (u := .int .i64 t0.j) ?_
    rw [World.cell?_setCell_other _ _ _ _ (ne _ _ (by omega)), World.cell?_setCell_other _ _ _ _ (ne _ _ (by omega))]; exact h.c2
  · rw [World.cell?_setCell_other _ _ _ _ (ne _ _ (by omega))]
    refine World.cell?_setCell_same _ _ _ (u := .int .i64 t0.n) ?_
    rw [World.cell?_setCell_other _ _ _ _ (ne _ _ (by omega)), World.cell?_setCell_other _ _ _ _ (ne _ _ (by omega)), World.cell?_setCell_other _ _ _ _ (ne _ _ (by omega))]; exact h.c3
  · refine World.cell?_setCell_same _ _ _ (u := s0) ?_
    rw [World.cell?_setCell_other _ _ _ _ (ne _ _ (by omega)), World.cell?_setCell_other _ _ _ _ (ne _ _ (by omega)), World.cell?_setCell_other _ _ _ _ (ne _ _ (by omega)), World.cell?_setCell_other _ _ _ _ (ne _ _ (by omega))]; exact h.c4
theorem put5_keep {w : World} {g o o' b : Nat} {t x : Tm} {s sx : Value} (h : Node w b o' x sx) (hne : b ≠ g ∨ o' + 5 ≤ o ∨ o + 5 ≤ o') : Node (put5 w g o t s) b o' x sx := by
  by_cases hb : b = g
  · subst hb
    have hne' : o' + 5 ≤ o ∨ o + 5 ≤ o' := hne.resolve_left (fun h => h rfl)
    exact ⟨(put5_out _ _ _ _ _ (by omega)).trans h.c0, (put5_out _ _ _ _ _ (by omega)).trans h.c1, (put5_out _ _ _ _ _ (by omega)).trans h.c2, (put5_out _ _ _ _ _ (by omega)).trans h.c3, (put5_out _ _ _ _ _ (by omega)).trans h.c4⟩
  · exact h.same (put5_other _ _ _ _ _ hb)
structure Full (B : Nat) (w : World) (g : Nat) (xs : List (Tm × Value)) : Prop where
  above : B ≤ g
  open' : ∃ cs, w.heap[g]? = some (.cells cs 27 (0, 0))
  node : ∀ i (h : i < xs.length), Node w g (i * 5) (xs[i]).1 (xs[i]).2
  fine : ∀ p ∈ xs, p.1.fine
  kids : ∀ p ∈ xs, LiesP w (fun b => Own B w b ∧ b ≠ g) p.1.kids p.2
theorem Full.later {B g : Nat} {w w' : World} {xs : List (Tm × Value)} (h : Full B w g xs) (hb : Below w.heap.size w w') : Full B w' g xs := by
  have hg : g < w.heap.size := by obtain ⟨cs, h⟩ := h.open'; exact (Array.getElem?_eq_some_iff.1 h).1
  exact ⟨h.above, by rw [hb.block g hg]; exact h.open', fun i hi => (h.node i hi).below hb hg, h.fine, fun p hp => (h.kids p hp).keep (fun b _ hlt => hb.block b hlt) (fun _ hq _ => ⟨hq.1.later hb, hq.2⟩)⟩
theorem Full.fill {B g k : Nat} {w : World} {xs : List (Tm × Value)} {t : Tm} {s : Value} (h : Full B w g xs) (hk : k < xs.length) (hf : t.fine) (hl : LiesP w (fun b => Own B w b ∧ b ≠ g) t.kids s) :
    Full B (put5 w g (k * 5) t s) g (xs.set k (t, s)) := by
  have keepL : ∀ l s', LiesP w (fun b => Own B w b ∧ b ≠ g) l s' → LiesP (put5 w g (k * 5) t s) (fun b => Own B (put5 w g (k * 5) t s) b ∧ b ≠ g) l s' := fun l s' h' =>
    h'.keep (fun b hb _ => put5_other _ _ _ _ _ hb.2) (fun b hb _ => ⟨hb.1.same (put5_other _ _ _ _ _ hb.2), hb.2⟩)
  refine ⟨h.above, ?_, fun i hi => ?_, fun p hp => ?_, fun p hp => ?_⟩
  · obtain ⟨cs, hcs⟩ := h.open'; exact ⟨_, put5_block _ _ _ hcs⟩
  · have hi' : i < xs.length := by simpa using hi
    by_cases e : k = i
    · subst e
      simp only [List.getElem_set_self]
      exact put5_node t s (h.node k hk)
    · rw [List.getElem_set_ne e]
      exact put5_keep (h.node i hi') (Or.inr (by omega))
  · rcases List.mem_or_eq_of_mem_set hp with hp | rfl
    · exact h.fine p hp
    · exact hf
  · rcases List.mem_or_eq_of_mem_set hp with hp | rfl
    · exact keepL _ _ (h.kids p hp)
    · exact keepL _ _ hl
theorem Full.fresh {B g : Nat} {wr w2 : World} {xs : List (Tm × Value)} {l : List Tm} {s2 : Value} (h : Full B wr g xs) (hB : B ≤ wr.heap.size) (hk : LiesP w2 (Own wr.heap.size w2) l s2) : LiesP w2 (fun b => Own B w2 b ∧ b ≠ g) l s2 := by
  have hg : g < wr.heap.size := by obtain ⟨cs, h⟩ := h.open'; exact (Array.getElem?_eq_some_iff.1 h).1
  exact hk.keep (fun _ _ _ => rfl) (fun b hb _ => ⟨hb.from hB, by have := hb.1; omega⟩)
theorem Full.lies {B g cap : Nat} {w : World} {xs : List (Tm × Value)} (h : Full B w g xs) (hc : xs.length ≤ cap) (hm : cap ≤ maxLen) : LiesP w (Own B w) (xs.map (·.1)) (.slice (some ⟨g, 0, none⟩) xs.length cap) := by
  have := LiesP.mk (w := w) (P := Own B w) (xs.map (·.1)) (some ⟨g, 0, none⟩) cap (fun i => (xs[i]?.map (·.2)).getD (.slice none 0 0)) (by simpa using hc) hm
    (fun x hx => by obtain ⟨p, hp, rfl⟩ := List.mem_map.1 hx; exact h.fine p hp)
    (fun i hi => by
      have hi' : i < xs.length := by simpa using hi
      refine ⟨g, rfl, ⟨h.above, h.open'⟩, ?_⟩
      simp only [List.getElem_map, List.getElem?_eq_getElem hi', Option.map_some, Option.getD_some]
      exact h.node i hi')
    (fun i hi => by
      have hi' : i < xs.length := by simpa using hi
      simp only [List.getElem_map, List.getElem?_eq_getElem hi', Option.map_some, Option.getD_some]
      exact (h.kids _ (List.getElem_mem hi')).keep (fun _ _ _ => rfl) (fun _ hb _ => hb.1))
  simpa using this
theorem liesP_nil (w : World) (P : Nat → Prop) : LiesP w P [] (.slice none 0 0) := .mk [] none 0 (fun _ => .nilIface) (Nat.le_refl _) (by decide) (fun _ h => by cases h) (fun _ h => by cases h) (fun _ h => by cases h)
def Free (P : Nat → Prop) (w : World) : Prop := ∀ b, P b → ∃ cs, w.heap[b]? = some (.cells cs 27 (0, 0))
def Shr (P : Nat → Prop) (w w' : World) : Prop := Free P w' ∧ w.heap.size ≤ w'.heap.size ∧ (w'.os = w.os ∧ w'.tape = w.tape ∧ w'.output = w.output) ∧ (∀ b, b < w.heap.size → ¬ P b → w'.heap[b]? = w.heap[b]?) ∧ ∀ l s, LiesP w P l s → ∃ l', l'.length = l.length ∧ sizes l' ≤ sizes l ∧ LiesP w' P l' s
theorem sizes_map_le {n : Nat} (f : Nat → Tm) : ∀ (l : List Tm), l.length = n → (∀ i (h : i < l.length), (f i).size ≤ (l[i]).size) → sizes ((List.range n).map f) ≤ sizes l := by
  intro l hl h
  subst hl
  induction l generalizing f with
  | nil => simp [sizes]
  | cons a r ih =>
    have h0 := h 0 (by simp)
    simp only [List.getElem_cons_zero] at h0
    have := ih (fun i => f (i + 1)) (fun i hi => by have := h (i + 1) (by simpa using hi); simpa using this)
    rw [List.length_cons, List.range_succ_eq_map, List.map_cons, List.map_map]
    simp only [sizes]
    have e : ((fun i => f (i + 1))) = f ∘ Nat.succ := rfl
    rw [e] at this
    omega
instance : Inhabited (Tm × Value) := ⟨(.mk 0 0 0 0 [], .nilIface)⟩
theorem LiesP.store {w : World} {P : Nat → Prop} {g j : Nat} {z : Tm} (hz : z.kids = []) (hzf : z.fine) {l : List Tm} {s : Value} (h : LiesP w P l s) :
    ∃ l', l'.length = l.length ∧ sizes l' ≤ sizes l ∧ LiesP (put5 w g (j * 5) z (.slice none 0 0)) P l' s := by
  induction h with
  | mk l a cap S hc hm hf hn hk ih =>
    have key : ∀ i, i < l.length → ∃ p : Tm × Value, p.1.fine ∧ (∀ h : i < l.length, p.1.size ≤ (l[i]).size) ∧ LiesP (put5 w g (j * 5) z (.slice none 0 0)) P p.1.kids p.2 ∧ ∃ b, a = some ⟨b, 0, none⟩ ∧ P b ∧ Node (put5 w g (j * 5) z (.slice none 0 0)) b (i * 5) p.1 p.2 := by
      intro i hi
      obtain ⟨b, ha, hp, hx⟩ := hn i hi
      by_cases e : b = g ∧ i = j
      · obtain ⟨rfl, rfl⟩ := e
        refine ⟨(z, .slice none 0 0), hzf, fun _ => ?_, by rw [hz]; exact liesP_nil _ _, b, ha, hp, put5_node _ _ hx⟩
        rw [Tm.size_eq, Tm.size_eq, hz]; simp [sizes]
      · obtain ⟨l', h1, h2, h3⟩ := ih i hi
        have hfi := hf _ (List.getElem_mem hi)
        refine ⟨(.mk (l[i]).k (l[i]).i (l[i]).j (l[i]).n l', S i), hfi, fun _ => ?_, h3, b, ha, hp, ?_⟩
        · rw [Tm.size_eq, Tm.size_eq]; show sizes l' + 1 ≤ _; omega
        · have : Node w b (i * 5) (.mk (l[i]).k (l[i]).i (l[i]).j (l[i]).n l') (S i) := ⟨hx.c0, hx.c1, hx.c2, hx.c3, hx.c4⟩
          exact put5_keep this (by by_cases hb : b = g
                                   · right; have : i ≠ j := fun e' => e ⟨hb, e'⟩; omega
                                   · exact Or.inl hb)
    obtain ⟨f, hf'⟩ := Go.Deep.choose_lt (α := Tm × Value) (p := fun i p => p.1.fine ∧ (∀ h : i < l.length, p.1.size ≤ (l[i]).size) ∧ LiesP (put5 w g (j * 5) z (.slice none 0 0)) P p.1.kids p.2 ∧ ∃ b, a = some ⟨b, 0, none⟩ ∧ P b ∧ Node (put5 w g (j * 5) z (.slice none 0 0)) b (i * 5) p.1 p.2) key
    have hl5 : ((List.range l.length).map fun i => (f i).1).length = l.length := by simp
    refine ⟨(List.range l.length).map fun i => (f i).1, hl5, sizes_map_le (fun i => (f i).1) l rfl (fun i hi => (hf' i hi).2.1 hi), ?_⟩
    have := LiesP.mk (w := put5 w g (j * 5) z (.slice none 0 0)) (P := P) ((List.range l.length).map fun i => (f i).1) a cap (fun i => (f i).2) (by simpa using hc) hm
      (fun x hx => by obtain ⟨i, hi, rfl⟩ := List.mem_map.1 hx; exact (hf' i (List.mem_range.1 hi)).1)
      (fun i hi => by obtain ⟨b, ha, hp, hn⟩ := (hf' i (by simpa using hi)).2.2.2; exact ⟨b, ha, hp, by simpa using hn⟩)
      (fun i hi => by simpa using (hf' i (by simpa using hi)).2.2.1)
    rwa [hl5] at this
theorem Shr.trans {P : Nat → Prop} {w w1 w2 : World} (h : Shr P w w1) (h' : Shr P w1 w2) : Shr P w w2 := by
  obtain ⟨a1, a2, a3, a4, a5⟩ := h
  obtain ⟨b1, b2, b3, b4, b5⟩ := h'
  refine ⟨b1, Nat.le_trans a2 b2, ⟨b3.1.trans a3.1, b3.2.1.trans a3.2.1, b3.2.2.trans a3.2.2⟩, fun b hb hp => (b4 b (by omega) hp).trans (a4 b hb hp), fun l s hl => ?_⟩
  obtain ⟨l1, e1, f1, g1⟩ := a5 l s hl
  obtain ⟨l2, e2, f2, g2⟩ := b5 l1 s g1
  exact ⟨l2, e2.trans e1, Nat.le_trans f2 f1, g2⟩
theorem Shr.put {P : Nat → Prop} {w : World} {g j : Nat} {z : Tm} (hz : z.kids = []) (hzf : z.fine) (hf : Free P w) (hg : P g) : Shr P w (put5 w g (j * 5) z (.slice none 0 0)) := by
  refine ⟨fun b hb => ?_, by rw [put5_size]; exact Nat.le_refl _, put5_rest _ _ _ _ _, fun b _ hp => put5_other _ _ _ _ _ (fun e => hp (e ▸ hg)), fun l s hl => hl.store hz hzf⟩
  by_cases e : b = g
  · subst e; obtain ⟨cs, hcs⟩ := hf b hb; exact ⟨_, put5_block _ _ _ hcs⟩
  · rw [put5_other _ _ _ _ _ e]; exact hf b hb
theorem Shr.alloc {P : Nat → Prop} {w : World} (o : Obj) (hP : ∀ b, P b → b < w.heap.size) (hf : Free P w) : Shr P w (w.alloc o) :=
  ⟨fun b hb => by rw [Below.heap_alloc _ _ _ (hP b hb)]; exact hf b hb, by simp, ⟨rfl, rfl, rfl⟩, fun b hb _ => Below.heap_alloc _ _ _ hb,
    fun l s hl => ⟨l, rfl, Nat.le_refl _, hl.keep (fun b _ hlt => Below.heap_alloc _ _ _ hlt) (fun _ hp _ => hp)⟩⟩
theorem Shr.below {P : Nat → Prop} {w w' : World} {B : Nat} (h : Shr P w w') (hP : ∀ b, P b → B ≤ b) (hB : B ≤ w.heap.size) : Below B w w' :=
  ⟨h.2.2.1.1, h.2.2.1.2.1, h.2.2.1.2.2, h.2.1, fun k hk => h.2.2.2.1 k (by omega) (fun hp => by have := hP k hp; omega)⟩
end Go.Proofs.Ytmicgbdcbjajiaa
namespace Go.Proofs.Ytmicgbdcbjajiaa
open Go.RowKit
def OwnE (B : Nat) (w : World) (b : Nat) : Prop := B ≤ b ∧ ∃ cs, w.heap[b]? = some (.cells cs 47 (0, 0))
theorem OwnE.same {B : Nat} {w w' : World} {b : Nat} (h : OwnE B w b) (hb : w'.heap[b]? = w.heap[b]?) : OwnE B w' b := ⟨h.1, by rw [hb]; exact h.2⟩
structure LiesEP (w : World) (B : Nat) (l : List En) (s : Value) : Prop where
  out : ∃ (a : Option Addr) (cap : Nat) (S : Nat → Value), s = .slice a l.length cap ∧ l.length ≤ cap ∧ cap ≤ maxLen ∧ (∀ x ∈ l, x.fine) ∧
    (∀ i (h : i < l.length), ∃ b, a = some ⟨b, 0, none⟩ ∧ OwnE B w b ∧ ENode w b (i * 6) l[i] (S i)) ∧ (∀ i (h : i < l.length), LiesP w (Own B w) (l[i]).a.kids (S i))
theorem LiesEP.lies {w : World} {B : Nat} {l : List En} {s : Value} (h : LiesEP w B l s) : LiesE w l s := by
  obtain ⟨a, cap, S, hs, hc, hm, hf, hn, hk⟩ := h.out
  exact ⟨a, cap, S, hs, hc, hm, hf, fun i hi => by obtain ⟨b, ha, _, hx⟩ := hn i hi; exact ⟨b, 0, ha, by rw [Nat.zero_add]; exact hx⟩, fun i hi => (hk i hi).lies⟩
theorem LiesEP.keep {w w' : World} {B : Nat} {l : List En} {s : Value} (h : LiesEP w B l s) (hb : ∀ b, B ≤ b → b < w.heap.size → w'.heap[b]? = w.heap[b]?) : LiesEP w' B l s := by
  obtain ⟨a, cap, S, hs, hc, hm, hf, hn, hk⟩ := h.out
  exact ⟨a, cap, S, hs, hc, hm, hf, fun i hi => by obtain ⟨b, ha, hp, hx⟩ := hn i hi; exact ⟨b, ha, hp.same (hb b hp.1 hx.lt), hx.same (hb b hp.1 hx.lt)⟩,
    fun i hi => (hk i hi).keep (fun b hp hlt => hb b hp.1 hlt) (fun b hp hlt => hp.same (hb b hp.1 hlt))⟩
theorem LiesEP.later {w w' : World} {B : Nat} {l : List En} {s : Value} (h : LiesEP w B l s) (hb : Below w.heap.size w w') : LiesEP w' B l s := h.keep (fun b _ hlt => hb.block b hlt)
theorem LiesEP.from {w : World} {B B' : Nat} {l : List En} {s : Value} (h : LiesEP w B l s) (hB : B' ≤ B) : LiesEP w B' l s := by
  obtain ⟨a, cap, S, hs, hc, hm, hf, hn, hk⟩ := h.out
  exact ⟨a, cap, S, hs, hc, hm, hf, fun i hi => by obtain ⟨b, ha, hp, hx⟩ := hn i hi; exact ⟨b, ha, ⟨Nat.le_trans hB hp.1, hp.2⟩, hx⟩, fun i hi => (hk i hi).from hB⟩
def MakesE (l : List En) (w : World) (e : Ending) (w' : World) : Prop := ∃ s' : Value, e = .returned s' ∧ LiesEP w' w.heap.size l s' ∧ Below w.heap.size w w'
def cells6 : List (En × Value) → List Value
  | [] => []
  | (t, s) :: r => .int .i64 t.a.k :: .int .i64 t.a.i :: .int .i64 t.a.j :: .int .i64 t.a.n :: s :: .int .i64 t.i :: cells6 r
theorem cells6_length : ∀ ps : List (En × Value), (cells6 ps).length = ps.length * 6
  | [] => rfl
  | (t, s) :: r => by simp [cells6, cells6_length r]; omega
theorem cells6_append : ∀ ps qs : List (En × Value), cells6 (ps ++ qs) = cells6 ps ++ cells6 qs
  | [], qs => rfl
  | (t, s) :: r, qs => by simp [cells6, cells6_append r qs]
theorem cells6_get : ∀ (ps : List (En × Value)) (i : Nat) (h : i < ps.length) (q : Nat), q < 6 → (cells6 ps)[i * 6 + q]? = [Value.int .i64 (ps[i]).1.a.k, .int .i64 (ps[i]).1.a.i, .int .i64 (ps[i]).1.a.j, .int .i64 (ps[i]).1.a.n, (ps[i]).2, .int .i64 (ps[i]).1.i][q]?
  | (t, s) :: r, 0, _, q, hq => by
    rw [Nat.zero_mul, Nat.zero_add]
    match q, hq with
    | 0, _ => rfl
    | 1, _ => rfl
    | 2, _ => rfl
    | 3, _ => rfl
    | 4, _ => rfl
    | 5, _ => rfl
  | (t, s) :: r, i + 1, h, q, hq => by
    have := cells6_get r i (by simpa using h) q hq
    rw [show (i + 1) * 6 + q = (i * 6 + q) + 6 by omega]
    simpa [cells6] using this
structure MadeE (B : Nat) (w : World) (v : Value) (ps : List (En × Value)) : Prop where
  own : w.ownsRow B 47 6 v ps.length (cells6 ps)
  fine : ∀ p ∈ ps, p.1.fine
  kids : ∀ p ∈ ps, LiesP w (fun b => Own B w b ∧ v.ownBlock ≠ some b) p.1.a.kids p.2
theorem madeE_later {B : Nat} {w w' : World} {v : Value} {ps : List (En × Value)} (h : MadeE B w v ps) (hb : Below w.heap.size w w') : MadeE B w' v ps := by
  refine ⟨?_, h.fine, fun p hp => (h.kids p hp).keep (fun b _ hlt => hb.block b hlt) (fun _ hq _ => ⟨hq.1.later hb, hq.2⟩)⟩
  obtain ⟨h1, h2⟩ := h.own
  refine ⟨h1, ?_⟩
  rcases h2 with h2 | ⟨g, cap, cur, hv, hg, hh, r⟩
  · exact Or.inl h2
  · refine Or.inr ⟨g, cap, cur, hv, hg, ?_, r⟩
    rw [hb.block g ?_]; exact hh
    exact (Array.getElem?_eq_some_iff.1 hh).1
theorem madeE_block {B : Nat} {w : World} {v : Value} {ps : List (En × Value)} (h : MadeE B w v ps) {b : Nat} (hb : w.heap.size ≤ b) : v.ownBlock ≠ some b := by
  rcases h.own.2 with ⟨rfl, -⟩ | ⟨g, cap, cur, rfl, -, hh, -⟩
  · simp [Value.ownBlock]
  · have := (Array.getElem?_eq_some_iff.1 hh).1
    simp [Value.ownBlock]; omega
theorem madeE_step {B : Nat} {w w1 : World} {v : Value} {ps : List (En × Value)} {p : En × Value} {g cap : Nat} (h : MadeE B w v ps) (hf : p.1.fine) (hk : LiesP w (fun b => Own B w b ∧ v.ownBlock ≠ some b) p.1.a.kids p.2)
    (hown : w1.ownsRow B 47 6 (.slice (some ⟨g, 0, none⟩) (ps.length + 1) cap) (ps.length + 1) (cells6 ps ++ cells6 [p])) (hgrow : w.grownBy w1 v.ownBlock) (hg : v.ownBlock = some g ∨ g = w.heap.size) :
    MadeE B w1 (.slice (some ⟨g, 0, none⟩) (ps.length + 1) cap) (ps ++ [p]) := by
  have keep : ∀ q : En × Value, LiesP w (fun b => Own B w b ∧ v.ownBlock ≠ some b) q.1.a.kids q.2 → LiesP w1 (fun b => Own B w1 b ∧ (Value.slice (some ⟨g, 0, none⟩) (ps.length + 1) cap).ownBlock ≠ some b) q.1.a.kids q.2 := fun q hq =>
    hq.keep (fun b hb hlt => hgrow.block b hlt (fun e => hb.2 e.symm)) (fun b hb hlt => ⟨hb.1.same (hgrow.block b hlt (fun e => hb.2 e.symm)), by
      show some g ≠ some b
      rcases hg with e | e
      · rw [← e]; exact hb.2
      · intro e'; have := Option.some.inj e'; omega⟩)
  refine ⟨by rw [cells6_append]; simpa using hown, fun q hq => ?_, fun q hq => ?_⟩
  · rcases List.mem_append.1 hq with hq | hq
    · exact h.fine q hq
    · rw [List.mem_singleton.1 hq]; exact hf
  · rcases List.mem_append.1 hq with hq | hq
    · exact keep q (h.kids q hq)
    · rw [List.mem_singleton.1 hq]; exact keep p hk
theorem madeE_lies {B : Nat} {w : World} {v : Value} {ps : List (En × Value)} (h : MadeE B w v ps) : LiesEP w B (ps.map (·.1)) v := by
  have fin : ∀ x ∈ ps.map (·.1), x.fine := fun x hx => by obtain ⟨p, hp, rfl⟩ := List.mem_map.1 hx; exact h.fine p hp
  have kid : ∀ i (hi : i < ps.length), LiesP w (Own B w) (ps[i]).1.a.kids (ps[i]).2 := fun i hi => (h.kids _ (List.getElem_mem hi)).keep (fun _ _ _ => rfl) (fun _ hb _ => hb.1)
  obtain ⟨-, ⟨rfl, hn⟩ | ⟨g, cap, cur, rfl, hg, hh, hnc, hcm, hsz, htk⟩⟩ := h.own
  · obtain rfl : ps = [] := List.eq_nil_of_length_eq_zero hn
    exact ⟨none, 0, fun _ => .nilIface, rfl, Nat.le_refl _, by decide, (fun _ h => by cases h), (fun _ h => by cases h), (fun _ h => by cases h)⟩
  · refine ⟨some ⟨g, 0, none⟩, cap, fun i => (ps[i]?.map (·.2)).getD (.slice none 0 0), by simp, by simpa using hnc, hcm, fin, fun i hi => ?_, fun i hi => ?_⟩
    · have hi' : i < ps.length := by simpa using hi
      refine ⟨g, rfl, ⟨hg, cur, hh⟩, ?_⟩
      · simp only [List.getElem_map, List.getElem?_eq_getElem hi', Option.map_some, Option.getD_some]
        have cellq : ∀ q, q < 6 → w.cell? ⟨g, i * 6 + q, none⟩ = [Value.int .i64 (ps[i]).1.a.k, .int .i64 (ps[i]).1.a.i, .int .i64 (ps[i]).1.a.j, .int .i64 (ps[i]).1.a.n, (ps[i]).2, .int .i64 (ps[i]).1.i][q]? := fun q hq => by
          rw [h.own.cellAt (i * 6 + q) (by omega)]; exact cells6_get ps i hi' q hq
        exact ⟨cellq 0 (by omega), cellq 1 (by omega), cellq 2 (by omega), cellq 3 (by omega), cellq 4 (by omega), cellq 5 (by omega)⟩
    · have hi' : i < ps.length := by simpa using hi
      simp only [List.getElem_map, List.getElem?_eq_getElem hi', Option.map_some, Option.getD_some]
      exact kid i hi'
def put6 (w : World) (g o : Nat) (t : En) (s : Value) : World := (put5 w g o t.a s).setCell ⟨g, o + 5, none⟩ (.int .i64 t.i)
theorem put6_other (w : World) (g o : Nat) (t : En) (s : Value) {b : Nat} (h : b ≠ g) : (put6 w g o t s).heap[b]? = w.heap[b]? := by
  unfold put6; rw [Below.heap_setCell _ _ _ _ (by exact h), put5_other _ _ _ _ _ h]
theorem put6_below {B : Nat} {w w1 : World} (h : Below B w w1) {g : Nat} (hg : B ≤ g) (o : Nat) (t : En) (s : Value) : Below B w (put6 w1 g o t s) := by
  unfold put6 put5
  exact (((((h.setCell hg _).setCell hg _).setCell hg _).setCell hg _).setCell hg _).setCell hg _
theorem ENode.node {w : World} {b o : Nat} {e : En} {s : Value} (h : ENode w b o e s) : Node w b o e.a s := ⟨h.c0, h.c1, h.c2, h.c3, h.c4⟩
theorem ENode.of {w : World} {b o : Nat} {e : En} {s : Value} (h : Node w b o e.a s) (h5 : w.cell? ⟨b, o + 5, none⟩ = some (.int .i64 e.i)) : ENode w b o e s := ⟨h.c0, h.c1, h.c2, h.c3, h.c4, h5⟩
theorem put6_node {w : World} {g o : Nat} {t0 : En} {s0 : Value} (t : En) (s : Value) (h : ENode w g o t0 s0) : ENode (put6 w g o t s) g o t s := by
  have ne : ∀ p q : Nat, p ≠ q → (⟨g, p, none⟩ : Addr) ≠ ⟨g, q, none⟩ := fun p q hpq e => hpq (congrArg Addr.off e)
  have hn := put5_node t.a s h.node
  unfold put6
  refine ⟨?_, ?_, ?_, ?_, ?_, ?_⟩
  · rw [World.cell?_setCell_other _ _ _ _ (ne _ _ (by omega))]; exact hn.c0
  · rw [World.cell?_setCell_other _ _ _ _ (ne _ _ (by omega))]; exact hn.c1
  · rw [World.cell?_setCell_other _ _ _ _ (ne _ _ (by omega))]; exact hn.c2
  · rw [World.cell?_setCell_other _ _ _ _ (ne _ _ (by omega))]; exact hn.c3
  · rw [World.cell?_setCell_other _ _ _ _ (ne _ _ (by omega))]; exact hn.c4
  · refine World.cell?_setCell_same _ _ _ (u := .int .i64 t0.i) ?_
    rw [put5_out _ _ _ _ _ (by omega)]; exact h.c5
theorem put6_keep {w : World} {g o o' b : Nat} {t x : En} {s sx : Value} (h : ENode w b o' x sx) (hne : b ≠ g ∨ o' + 6 ≤ o ∨ o + 6 ≤ o') : ENode (put6 w g o t s) b o' x sx := by
  by_cases hb : b = g
  · subst hb
    have hne' : o' + 6 ≤ o ∨ o + 6 ≤ o' := hne.resolve_left (fun h => h rfl)
    have ne : ∀ p q : Nat, p ≠ q → (⟨b, p, none⟩ : Addr) ≠ ⟨b, q, none⟩ := fun p q hpq e => hpq (congrArg Addr.off e)
    have hn := put5_keep (g := b) (o := o) (t := t.a) (s := s) h.node (Or.inr (by omega))
    unfold put6
    refine ⟨?_, ?_, ?_, ?_, ?_, ?_⟩
    · rw [World.cell?_setCell_other _ _ _ _ (ne _ _ (by omega))]; exact hn.c0
    · rw [World.cell?_setCell_other _ _ _ _ (ne _ _ (by omega))]; exact hn.c1
    · rw [World.cell?_setCell_other _ _ _ _ (ne _ _ (by omega))]; exact hn.c2
    · rw [World.cell?_setCell_other _ _ _ _ (ne _ _ (by omega))]; exact hn.c3
    · rw [World.cell?_setCell_other _ _ _ _ (ne _ _ (by omega))]; exact hn.c4
    · rw [World.cell?_setCell_other _ _ _ _ (ne _ _ (by omega)), put5_out _ _ _ _ _ (by omega)]; exact h.c5
  · exact h.same (put6_other _ _ _ _ _ hb)
structure FullE (B : Nat) (w : World) (g : Nat) (xs : List (En × Value)) : Prop where
  above : B ≤ g
  open' : ∃ cs, w.heap[g]? = some (.cells cs 47 (0, 0))
  node : ∀ i (h : i < xs.length), ENode w g (i * 6) (xs[i]).1 (xs[i]).2
  fine : ∀ p ∈ xs, p.1.fine
  kids : ∀ p ∈ xs, LiesP w (fun b => Own B w b ∧ b ≠ g) p.1.a.kids p.2
theorem FullE.lt {B g : Nat} {w : World} {xs : List (En × Value)} (h : FullE B w g xs) : g < w.heap.size := by obtain ⟨cs, h⟩ := h.open'; exact (Array.getElem?_eq_some_iff.1 h).1
theorem FullE.later {B g : Nat} {w w' : World} {xs : List (En × Value)} (h : FullE B w g xs) (hb : Below w.heap.size w w') : FullE B w' g xs :=
  ⟨h.above, by rw [hb.block g h.lt]; exact h.open', fun i hi => (h.node i hi).below hb h.lt, h.fine, fun p hp => (h.kids p hp).keep (fun b _ hlt => hb.block b hlt) (fun _ hq _ => ⟨hq.1.later hb, hq.2⟩)⟩
theorem FullE.fill {B g k : Nat} {w : World} {xs : List (En × Value)} {t : En} {s : Value} (h : FullE B w g xs) (hk : k < xs.length) (hf : t.fine) (hl : LiesP w (fun b => Own B w b ∧ b ≠ g) t.a.kids s) :
    FullE B (put6 w g (k * 6) t s) g (xs.set k (t, s)) := by
  have keepL : ∀ l s', LiesP w (fun b => Own B w b ∧ b ≠ g) l s' → LiesP (put6 w g (k * 6) t s) (fun b => Own B (put6 w g (k * 6) t s) b ∧ b ≠ g) l s' := fun l s' h' =>
    h'.keep (fun b hb _ => put6_other _ _ _ _ _ hb.2) (fun b hb _ => ⟨hb.1.same (put6_other _ _ _ _ _ hb.2), hb.2⟩)
  refine ⟨h.above, ?_, fun i hi => ?_, fun p hp => ?_, fun p hp => ?_⟩
  · obtain ⟨cs, hcs⟩ := h.open'
    exact ⟨_, heap_setCell_same _ _ _ _ _ _ (put5_block _ _ _ hcs)⟩
  · have hi' : i < xs.length := by simpa using hi
    by_cases e : k = i
    · subst e
      simp only [List.getElem_set_self]
      exact put6_node t s (h.node k hk)
    · rw [List.getElem_set_ne e]
      exact put6_keep (h.node i hi') (Or.inr (by omega))
  · rcases List.mem_or_eq_of_mem_set hp with hp | rfl
    · exact h.fine p hp
    · exact hf
  · rcases List.mem_or_eq_of_mem_set hp with hp | rfl
    · exact keepL _ _ (h.kids p hp)
    · exact keepL _ _ hl
theorem FullE.fresh {B g : Nat} {wr w2 : World} {xs : List (En × Value)} {l : List Tm} {s2 : Value} (h : FullE B wr g xs) (hB : B ≤ wr.heap.size) (hk : LiesP w2 (Own wr.heap.size w2) l s2) : LiesP w2 (fun b => Own B w2 b ∧ b ≠ g) l s2 := by
  have hg := h.lt
  exact hk.keep (fun _ _ _ => rfl) (fun b hb _ => ⟨hb.from hB, by have := hb.1; omega⟩)
theorem FullE.lies {B g cap : Nat} {w : World} {xs : List (En × Value)} (h : FullE B w g xs) (hc : xs.length ≤ cap) (hm : cap ≤ maxLen) : LiesEP w B (xs.map (·.1)) (.slice (some ⟨g, 0, none⟩) xs.length cap) := by
  refine ⟨some ⟨g, 0, none⟩, cap, fun i => (xs[i]?.map (·.2)).getD (.slice none 0 0), by simp, by simpa using hc, hm, (fun x hx => by obtain ⟨p, hp, rfl⟩ := List.mem_map.1 hx; exact h.fine p hp), fun i hi => ?_, fun i hi => ?_⟩
  · have hi' : i < xs.length := by simpa using hi
    refine ⟨g, rfl, ⟨h.above, h.open'⟩, ?_⟩
    simp only [List.getElem_map, List.getElem?_eq_getElem hi', Option.map_some, Option.getD_some]
    exact h.node i hi'
  · have hi' : i < xs.length := by simpa using hi
    simp only [List.getElem_map, List.getElem?_eq_getElem hi', Option.map_some, Option.getD_some]
    exact (h.kids _ (List.getElem_mem hi')).keep (fun _ _ _ => rfl) (fun _ hb _ => hb.1)
theorem newsE (w : World) (t : En) (s : Value) (T : TypeId) : ∀ j u, (cells6 [(t, s)])[j]? = some u → (w.alloc (.cells #[.int .i64 t.a.k, .int .i64 t.a.i, .int .i64 t.a.j, .int .i64 t.a.n, s, .int .i64 t.i] T)).cell? ((⟨w.heap.size, 0, none⟩ : Addr).add j) = some u :=
  World.news_of_block (alloc_new w _)
theorem madeE_above {B : Nat} {w : World} {v : Value} {ps : List (En × Value)} (h : MadeE B w v ps) : ∀ k, v.ownBlock = some k → B ≤ k := fun k hk => (h.own.lt k hk).1
theorem madeE_push {B : Nat} {wr w2 w3 : World} {v : Value} {ps : List (En × Value)} {t : En} {s2 : Value} {g cap : Nat} (h : MadeE B wr v ps) (hf : t.fine) (hB : B ≤ wr.heap.size) (hb2 : Below wr.heap.size wr w2) (hk : LiesP w2 (Own wr.heap.size w2) t.a.kids s2) (o : Obj)
    (hown : w3.ownsRow B 47 6 (.slice (some ⟨g, 0, none⟩) (ps.length + 1) cap) (ps.length + 1) (cells6 ps ++ cells6 [(t, s2)])) (hgrow : (w2.alloc o).grownBy w3 v.ownBlock) (hat : v.ownBlock = some g ∨ g = w2.heap.size + 1) :
    MadeE B w3 (.slice (some ⟨g, 0, none⟩) (ps.length + 1) cap) (ps ++ [(t, s2)]) :=
  madeE_step (madeE_later (madeE_later h hb2) ((Below.refl _ _).alloc (Nat.le_refl _) _)) hf
    (hk.keep (fun b _ hlt => Below.heap_alloc _ _ _ hlt) (fun b hb hlt => ⟨(hb.same (Below.heap_alloc _ _ _ hlt)).from hB, madeE_block h hb.1⟩)) hown hgrow (by simpa using hat)
theorem info_entry : (Try.prog.info? 47).map (fun i => (i.zero, i.size, i.bytes)) = some (some (.agg #[.int .i64 0, .int .i64 0, .int .i64 0, .int .i64 0, .slice none 0 0, .int .i64 0]), 6, 64) := by kernel_rfl
end Go.Proofs.Ytmicgbdcbjajiaa
namespace Go.Proofs.Ytmicgbdcbjajiaa
open Go.RowKit
mutual
def sameB : Tm → Tm → Bool
  | .mk k i j n l, .mk k' i' j' n' l' => (k == k') && ((i == i') && ((j == j') && ((n == n') && samesB l l')))
def samesB : List Tm → List Tm → Bool
  | [], [] => true
  | x :: r, y :: s => sameB x y && samesB r s
  | [], _ :: _ => false
  | _ :: _, [] => false
end
theorem sameB_eq (a b : Tm) : sameB a b = ((a.k == b.k) && ((a.i == b.i) && ((a.j == b.j) && ((a.n == b.n) && samesB a.kids b.kids)))) := by
  cases a; cases b; simp only [sameB]; rfl
theorem samesB_length : ∀ {l m : List Tm}, samesB l m = true → l.length = m.length
  | [], [], _ => rfl
  | x :: r, y :: s, h => by simp only [samesB, Bool.and_eq_true] at h; simp [samesB_length h.2]
  | [], _ :: _, h => by simp [samesB] at h
  | _ :: _, [], h => by simp [samesB] at h
theorem sameB_true (a : Tm) : ∀ b, sameB a b = true → a = b := by
  induction a using Tm.ind with
  | h a ih =>
    intro b h
    rw [sameB_eq] at h
    simp only [Bool.and_eq_true, beq_iff_eq] at h
    have key : ∀ (l m : List Tm), (∀ x ∈ l, ∀ b, sameB x b = true → x = b) → samesB l m = true → l = m := by
      intro l
      induction l with
      | nil => intro m _ h; cases m with
        | nil => rfl
        | cons y s => simp [samesB] at h
      | cons x r ihl => intro m hx h; cases m with
        | nil => simp [samesB] at h
        | cons y s =>
          simp only [samesB, Bool.and_eq_true] at h
          rw [hx x List.mem_cons_self y h.1, ihl s (fun z hz => hx z (List.mem_cons_of_mem _ hz)) h.2]
    have hk := key a.kids b.kids ih h.2.2.2.2
    rw [← a.eta, ← b.eta, h.1, h.2.1, h.2.2.1, h.2.2.2.1, hk]
theorem sameB_self (a : Tm) : sameB a a = true := by
  induction a using Tm.ind with
  | h a ih =>
    rw [sameB_eq]
    have key : ∀ (l : List Tm), (∀ x ∈ l, sameB x x = true) → samesB l l = true := by
      intro l
      induction l with
      | nil => intro _; simp [samesB]
      | cons x r ihl => intro hx; simp only [samesB, hx x List.mem_cons_self, Bool.true_and]; exact ihl (fun z hz => hx z (List.mem_cons_of_mem _ hz))
    simp [key a.kids ih]
theorem sameB_iff (a b : Tm) : sameB a b = true ↔ a = b := ⟨sameB_true a b, fun h => h ▸ sameB_self a⟩
theorem sames_take : ∀ (l m : List Tm) (k : Nat) (h : k < l.length) (h' : k < m.length), samesB (l.take (k + 1)) (m.take (k + 1)) = (samesB (l.take k) (m.take k) && sameB l[k] m[k])
  | x :: r, y :: s, 0, _, _ => by simp [samesB]
  | x :: r, y :: s, k + 1, h, h' => by
    simp only [List.take_succ_cons, samesB, List.getElem_cons_succ]
    rw [sames_take r s k (by simpa using h) (by simpa using h'), Bool.and_assoc]
theorem sames_of : ∀ (l m : List Tm) (k : Nat) (h : k < l.length) (h' : k < m.length), sameB l[k] m[k] = false → samesB l m = false
  | x :: r, y :: s, 0, _, _, hs => by simp only [List.getElem_cons_zero] at hs; simp [samesB, hs]
  | x :: r, y :: s, k + 1, h, h', hs => by
    simp only [List.getElem_cons_succ] at hs
    simp [samesB, sames_of r s k (by simpa using h) (by simpa using h') hs]
theorem sames_ne {l m : List Tm} (h : l.length ≠ m.length) : samesB l m = false := by
  cases hs : samesB l m with
  | false => rfl
  | true => exact absurd (samesB_length hs) h
def Held2 (w : World) (a : Tm) (s : Value) (b : Tm) (r : Value) (w' : World) : Prop := Below (w.heap.size + 2) ((w.alloc (boxOf a s)).alloc (boxOf b r)) w'
theorem held2_start (w : World) (a : Tm) (s : Value) (b : Tm) (r : Value) : Held2 w a s b r ((w.alloc (.cells #[.int .i64 a.k, .int .i64 a.i, .int .i64 a.j, .int .i64 a.n, s] 27)).alloc (.cells #[.int .i64 b.k, .int .i64 b.i, .int .i64 b.j, .int .i64 b.n, r] 27)) := Below.refl _ _
theorem held2_second {w w' : World} {a b : Tm} {s r : Value} (h : Held2 w a s b r w') : Held (w.alloc (boxOf a s)) b r w' := by
  unfold Held2 at h; unfold Held
  rw [show (w.alloc (boxOf a s)).heap.size + 1 = w.heap.size + 2 by simp]; exact h
theorem held2_first {w w' : World} {a b : Tm} {s r : Value} (h : Held2 w a s b r w') : Held w a s w' := by
  unfold Held2 at h; unfold Held
  exact ((Below.refl _ _).alloc (by simp) _).trans (h.mono (by omega))
theorem held2_cells {w w' : World} {a b : Tm} {s r : Value} (h : Held2 w a s b r w') : w'.cell? ⟨w.heap.size, 0, none⟩ = some (.int .i64 a.k) ∧ w'.cell? ⟨w.heap.size, 1, none⟩ = some (.int .i64 a.i) ∧ w'.cell? ⟨w.heap.size, 2, none⟩ = some (.int .i64 a.j) ∧
    w'.cell? ⟨w.heap.size, 3, none⟩ = some (.int .i64 a.n) ∧ w'.cell? ⟨w.heap.size, 4, none⟩ = some s ∧ w'.cell? ⟨w.heap.size + 1, 0, none⟩ = some (.int .i64 b.k) ∧ w'.cell? ⟨w.heap.size + 1, 1, none⟩ = some (.int .i64 b.i) ∧
    w'.cell? ⟨w.heap.size + 1, 2, none⟩ = some (.int .i64 b.j) ∧ w'.cell? ⟨w.heap.size + 1, 3, none⟩ = some (.int .i64 b.n) ∧ w'.cell? ⟨w.heap.size + 1, 4, none⟩ = some r := by
  obtain ⟨h0, h1, h2, h3, h4⟩ := held_cells (held2_first h)
  have h' := held_cells (held2_second h)
  rw [show (w.alloc (boxOf a s)).heap.size = w.heap.size + 1 by simp] at h'
  exact ⟨h0, h1, h2, h3, h4, h'⟩
theorem held2_call {w w1 w2 : World} {a b : Tm} {s r : Value} (h : Held2 w a s b r w1) (hb : Below w1.heap.size w1 w2) : Held2 w a s b r w2 :=
  below_call h hb (by have := h.size; simpa using this)
theorem held2_drew {w w1 : World} {a b : Tm} {s r : Value} (h : Held2 w a s b r w1) : Held2 w a s b r w1.drew := Below.drew h
theorem held2_alloc {w w1 : World} {a b : Tm} {s r : Value} (h : Held2 w a s b r w1) (o : Obj) : Held2 w a s b r (w1.alloc o) := Below.alloc h (by have := h.size; simpa using this) o
theorem held2_below {w w1 : World} {a b : Tm} {s r : Value} (h : Held2 w a s b r w1) : Below w.heap.size w w1 := held_below (held2_first h)
theorem held2_lies {w w1 : World} {a b : Tm} {s r s' : Value} {l : List Tm} (h : Held2 w a s b r w1) (hl : Lies w l s') : Lies w1 l s' := hl.keep (held2_below h)
end Go.Proofs.Ytmicgbdcbjajiaa
namespace Go.Proofs.Ytmicgbdcbjajiaa
open Go.RowKit
set_option maxHeartbeats 2000000 in
theorem same_any (t : Tm) : ∀ (u : Tm) (w : World) (s r : Value), Lies w t.kids s → Lies w u.kids r → Calls Try.prog 28 #[tv t s, tv u r] w fun e w' => e = .returned (.bool (sameB t u)) ∧ Below w.heap.size w w' := by
  induction t using Tm.ind with
  | h t ih =>
    intro u w s r hl hm
    obtain ⟨a, cap, S, rfl, hc, hmx, -, hn, hk⟩ := hl.out
    obtain ⟨a2, cap2, S2, rfl, hc2, hmx2, -, hn2, hk2⟩ := hm.out
    unfold maxLen at hmx hmx2
    have IH := Lib.hid ih
    have HN := Lib.hid hn
    have HK := Lib.hid hk
    have HN2 := Lib.hid hn2
    have HK2 := Lib.hid hk2
    have HE := Lib.hid (sameB_eq t u)
    have H0 := held2_start w t (.slice a t.kids.length cap) u (.slice a2 u.kids.length cap2)
    clear hl hm ih hn hk hn2 hk2
    unfold tv
    cases ek : (t.k == u.k)
    · have nek : (t.k != u.k) = true := by simp only [bne, ek, Bool.not_false]
      go_enter Try.func28, Try.ntmps28
      go_wp2
      go_ret
      exact ⟨ret_bool (by rw [HE.out]; simp only [ek, Bool.false_and]), held2_below H0⟩
    have nek : (t.k != u.k) = false := by simp only [bne, ek, Bool.not_true]
    cases ei : (t.i == u.i)
    · have nei : (t.i != u.i) = true := by simp only [bne, ei, Bool.not_false]
      go_enter Try.func28, Try.ntmps28
      go_wp2
      go_ret
      exact ⟨ret_bool (by rw [HE.out]; simp only [ek, ei, Bool.false_and, Bool.true_and]), held2_below H0⟩
    have nei : (t.i != u.i) = false := by simp only [bne, ei, Bool.not_true]
    cases ej : (t.j == u.j)
    · have nej : (t.j != u.j) = true := by simp only [bne, ej, Bool.not_false]
      go_enter Try.func28, Try.ntmps28
      go_wp2
      go_ret
      exact ⟨ret_bool (by rw [HE.out]; simp only [ek, ei, ej, Bool.false_and, Bool.true_and]), held2_below H0⟩
    have nej : (t.j != u.j) = false := by simp only [bne, ej, Bool.not_true]
    cases en : (t.n == u.n)
    · have nen : (t.n != u.n) = true := by simp only [bne, en, Bool.not_false]
      go_enter Try.func28, Try.ntmps28
      go_wp2
      go_ret
      exact ⟨ret_bool (by rw [HE.out]; simp only [ek, ei, ej, en, Bool.false_and, Bool.true_and]), held2_below H0⟩
    have nen : (t.n != u.n) = false := by simp only [bne, en, Bool.not_true]
    have HE2 : Hid (sameB t u = samesB t.kids u.kids) := by show _ = _; rw [HE.out]; simp only [ek, ei, ej, en, Bool.true_and]
    by_cases hlen : t.kids.length = u.kids.length
    rotate_left
    · have h1 : ((t.kids.length : Int) == (u.kids.length : Int)) = false := by simp; omega
      have h2 : ((t.kids.length : Int) != (u.kids.length : Int)) = true := by simp; omega
      have HS := Lib.hid (sames_ne hlen)
      clear hlen
      go_enter Try.func28, Try.ntmps28
      go_wp2
      go_ret
      exact ⟨ret_bool (by rw [HE2.out]; exact HS.out.symm), held2_below H0⟩
    have h1 : ((t.kids.length : Int) == (u.kids.length : Int)) = true := by simp; omega
    have h2 : ((t.kids.length : Int) != (u.kids.length : Int)) = false := by simp; omega
    have HL := Lib.hid hlen
    clear hlen
    go_enter Try.func28, Try.ntmps28
    go_wp2
    go_loopw [45] (fun iv wr => ∃ k : Nat, k ≤ t.kids.length ∧ iv = .int .i64 k ∧ Hid (samesB (t.kids.take k) (u.kids.take k) = true) ∧ Held2 w t (.slice a t.kids.length cap) u (.slice a2 u.kids.length cap2) wr) (fun iv _ => t.kids.length - (intOf iv).toNat)
    case atStart => exact ⟨0, Nat.zero_le _, rfl, by simp [Hid, samesB], H0⟩
    case round =>
      obtain ⟨k, hk, rfl, hgood, hh⟩ := hrel
      obtain ⟨p0, p1, p2, p3, p4, q0, q1, q2, q3, q4⟩ := held2_cells hh
      have hb := held2_below hh
      by_cases hlt : k < t.kids.length
      · have hlt2 : k < u.kids.length := by have := HL.out; omega
        obtain ⟨b, o, rfl, hx⟩ := HN.out k hlt
        obtain ⟨b2, o2, rfl, hx2⟩ := HN2.out k hlt2
        obtain ⟨c0, c1, c2, c3, c4⟩ := hx.below hb hx.lt
        have hyy := hx2.below hb hx2.lt
        have hq := (HK.out k hlt).keep hb
        have hq2 := (HK2.out k hlt2).keep hb
        obtain ⟨a', cap', S', hS, -⟩ := hq.out
        obtain ⟨a2', cap2', S2', hS2, -⟩ := hq2.out
        rw [hS] at c4 hq
        rw [hS2] at hyy hq2
        have HQ := Lib.hid hq
        have HQ2 := Lib.hid hq2
        have HM := Lib.hid (List.getElem_mem hlt)
        have HT := Lib.hid (sames_take t.kids u.kids k hlt hlt2)
        have HO := Lib.hid (sames_of t.kids u.kids k hlt hlt2)
        clear hS hS2 hq hq2
        have hh2 := held2_alloc hh (.cells #[.int .i64 t.kids[k].k, .int .i64 t.kids[k].i, .int .i64 t.kids[k].j, .int .i64 t.kids[k].n, .slice a' t.kids[k].kids.length cap'] 27)
        obtain ⟨f0, f1, f2, f3, f4, g0, g1, g2, g3, g4⟩ := held2_cells hh2
        obtain ⟨e0, e1, e2, e3, e4⟩ := hyy.below ((Below.refl wr.heap.size wr).alloc (Nat.le_refl _) (.cells #[.int .i64 t.kids[k].k, .int .i64 t.kids[k].i, .int .i64 t.kids[k].j, .int .i64 t.kids[k].n, .slice a' t.kids[k].kids.length cap'] 27)) hyy.lt
        have HNEW := Lib.hid ((Below.refl wr.heap.size wr).alloc (Nat.le_refl _) (.cells #[.int .i64 t.kids[k].k, .int .i64 t.kids[k].i, .int .i64 t.kids[k].j, .int .i64 t.kids[k].n, .slice a' t.kids[k].kids.length cap'] 27))
        go_wp2
        go_region_with (go_at_call 28; refine (IH.out _ HM.out _ _ _ _ (HQ.out.keep HNEW.out.drew) (HQ2.out.keep HNEW.out.drew)).mono ?_; rintro e wn ⟨rfl, hb'⟩; have HB3 := held2_call (held2_drew hh2) hb'; clear hb'; obtain ⟨x0, x1, x2, x3, x4, z0, z1, z2, z3, z4⟩ := held2_cells HB3)
        all_goals
          clear hh hh2 HNEW e0 e1 e2 e3 e4 f0 f1 f2 f3 f4 g0 g1 g2 g3 g4 c0 c1 c2 c3 c4 p0 p1 p2 p3 p4 q0 q1 q2 q3 q4 hb
          cases hs : sameB t.kids[k] u.kids[k]
          · go_wp2
            go_ret
            exact ⟨ret_bool (by rw [HE2.out]; exact (HO.out hs).symm), held2_below HB3⟩
          · go_wp2
            go_roundw
            case rel => exact ⟨k + 1, by omega, by go_num, by show _ = true; rw [HT.out, hgood.out, hs]; rfl, HB3⟩
            case measure => simp [intOf]; omega
      · have : k = t.kids.length := by omega
        subst this
        go_wp2
        go_ret
        exact ⟨ret_bool (by have hg := hgood.out; rw [List.take_length, HL.out, List.take_length] at hg; rw [HE2.out]; exact hg.symm), hb⟩
end Go.Proofs.Ytmicgbdcbjajiaa
namespace Go.Proofs.Ytmicgbdcbjajiaa
mutual
def Tm.each (f : Int → Int → Option Int) : Tm → Int → Option Tm
  | .mk k i j n l, b => if k = 2 then (f i b).map (fun v => .mk 2 v 0 0 []) else (eaches f k 0 b l).map (fun l' => .mk k i j n l')
def eaches (f : Int → Int → Option Int) : Int → Nat → Int → List Tm → Option (List Tm)
  | _, _, _, [] => some []
  | k, p, b, t :: r => (t.each f (b + bindsN k p)).bind fun x => (eaches f k (p + 1) b r).map fun y => x :: y
end
theorem Tm.each_eq (f : Int → Int → Option Int) (t : Tm) (b : Int) : t.each f b = if t.k = 2 then (f t.i b).map (fun v => .mk 2 v 0 0 []) else (eaches f t.k 0 b t.kids).map (fun l => .mk t.k t.i t.j t.n l) := by
  cases t; simp only [Tm.each]; rfl
theorem eaches_length (f : Int → Int → Option Int) (k b : Int) : ∀ (l : List Tm) (p : Nat) (m : List Tm), eaches f k p b l = some m → m.length = l.length
  | [], p, m, h => by simp only [eaches, Option.some.injEq] at h; subst h; rfl
  | t :: r, p, m, h => by
    simp only [eaches, Option.bind_eq_some_iff, Option.map_eq_some_iff] at h
    obtain ⟨x, _, y, hy, rfl⟩ := h
    simp [eaches_length f k b r (p + 1) y hy]
theorem right_var_eq {t : Tm} (h : t.rightB = true) (hk : t.k = 2) : t = .mk 2 t.i 0 0 [] := by
  have h2 := t.right_node h
  have h0 : t.kids = [] := (sorts_two h2 (by omega)).2
  simp only [Tm.nodeB, numbersN, hk, Bool.and_eq_true, if_true, decide_eq_true_eq] at h2
  have h3 := h2.2
  have hj : t.j = 0 := by simp at h3; omega
  have hn : t.n = 0 := by simp at h3; omega
  rw [← t.eta, hk, hj, hn, h0]; rfl
theorem each_stays (f : Int → Int → Option Int) (t : Tm) : ∀ b, t.rightB = true → 0 ≤ b → (∀ v c, 0 ≤ v → v ≤ 2147483647 → b ≤ c → v < t.freeN + c - b → f v c = some v) → t.each f b = some t := by
  induction t using Tm.ind with
  | h t ih =>
    intro b hr hb hf
    rw [Tm.each_eq]
    have hm := t.right_kids hr
    by_cases hk : t.k = 2
    · have hv := t.right_var hr hk
      have hfr : t.freeN = t.i + 1 := by rw [t.freeN_eq, if_pos hk]
      rw [if_pos hk, hf t.i b hv.1 hv.2 (Int.le_refl _) (by omega)]
      exact congrArg some (right_var_eq hr hk).symm
    · rw [if_neg hk]
      have hfr : t.freeN = frees t.k 0 t.kids := by rw [t.freeN_eq, if_neg hk]
      have key : ∀ (l : List Tm) (p : Nat), (∀ x ∈ l, ∀ b, x.rightB = true → 0 ≤ b → (∀ v c, 0 ≤ v → v ≤ 2147483647 → b ≤ c → v < x.freeN + c - b → f v c = some v) → x.each f b = some x) → (∀ x ∈ l, x.rightB = true) → frees t.k p l ≤ t.freeN → eaches f t.k p b l = some l := by
        intro l
        induction l with
        | nil => intro p _ _ _; simp [eaches]
        | cons x r ihr =>
          intro p h1 h2 h3
          simp only [frees] at h3
          have hbd := binds_range t.k (p : Int)
          have e1 := h1 x (List.mem_cons_self ..) (b + bindsN t.k p) (h2 x (List.mem_cons_self ..)) (by omega) (fun v c hv hv2 hc hlt => hf v c hv hv2 (by omega) (by omega))
          have e2 := ihr (p + 1) (fun y hy => h1 y (List.mem_cons_of_mem _ hy)) (fun y hy => h2 y (List.mem_cons_of_mem _ hy)) (by omega)
          simp only [eaches, e1, e2, Option.bind_some, Option.map_some]
      rw [key t.kids 0 ih hm (by omega)]
      exact congrArg some t.eta
theorem var_sorts {t : Tm} (h : t.nodeB = true) (hk : t.k = 2) : t.markedB = true ∧ t.plainB = true := by
  have h3 := (sorts_two h (by omega)).1
  unfold Tm.sortsN at h3
  cases hm : t.markedB <;> cases hp : t.plainB <;> simp [hm, hp] at h3 ⊢
theorem each_keeps (f : Int → Int → Option Int) (hf : ∀ v b w, 0 ≤ v → v ≤ 2147483647 → f v b = some w → 0 ≤ w ∧ w ≤ 2147483647) (t : Tm) :
    ∀ b u, t.rightB = true → t.each f b = some u → u.markedB = t.markedB ∧ u.plainB = t.plainB ∧ u.size = t.size := by
  induction t using Tm.ind with
  | h t ih =>
    intro b u hr he
    have hm := t.right_kids hr
    rw [Tm.each_eq] at he
    by_cases hk : t.k = 2
    · rw [if_pos hk] at he
      simp only [Option.map_eq_some_iff] at he
      obtain ⟨v, hv, rfl⟩ := he
      have hr2 := t.right_var hr hk
      have hv2 := hf _ _ _ hr2.1 hr2.2 hv
      have hnode : (Tm.mk 2 v 0 0 []).nodeB = true := by simp [Tm.nodeB, Tm.k, Tm.i, Tm.j, Tm.n, Tm.kids, numbersN, kidsN, hv2.1, hv2.2]
      have a1 := var_sorts hnode rfl
      have a2 := var_sorts (t.right_node hr) hk
      refine ⟨by rw [a1.1, a2.1], by rw [a1.2, a2.2], ?_⟩
      rw [right_var_eq hr hk]; simp [Tm.size, sizes]
    · rw [if_neg hk] at he
      simp only [Option.map_eq_some_iff] at he
      obtain ⟨m, hm2, rfl⟩ := he
      have key : ∀ (l : List Tm) (p q : Nat) (m : List Tm), (∀ x ∈ l, ∀ b u, x.rightB = true → x.each f b = some u → u.markedB = x.markedB ∧ u.plainB = x.plainB ∧ u.size = x.size) → (∀ x ∈ l, x.rightB = true) → eaches f t.k p b l = some m →
          plains m = plains l ∧ (∀ tr, markeds tr q m = markeds tr q l) ∧ sizes m = sizes l := by
        intro l
        induction l with
        | nil => intro p q m _ _ h; simp only [eaches, Option.some.injEq] at h; subst h; exact ⟨rfl, fun _ => rfl, rfl⟩
        | cons x r ihr =>
          intro p q m h1 h2 h
          simp only [eaches, Option.bind_eq_some_iff, Option.map_eq_some_iff] at h
          obtain ⟨x', hx, r', hr', rfl⟩ := h
          obtain ⟨e1, e2, e3⟩ := h1 x (List.mem_cons_self ..) _ _ (h2 x (List.mem_cons_self ..)) hx
          obtain ⟨g1, g2, g3⟩ := ihr (p + 1) (q + 1) r' (fun y hy => h1 y (List.mem_cons_of_mem _ hy)) (fun y hy => h2 y (List.mem_cons_of_mem _ hy)) hr'
          exact ⟨by simp only [plains, e2, g1], fun tr => by simp only [markeds, e1, e2, g2], by simp only [sizes, e3, g3]⟩
      obtain ⟨g1, g2, g3⟩ := key t.kids 0 0 m ih hm hm2
      have hlen := eaches_length _ _ _ _ _ _ hm2
      have hnode : (Tm.mk t.k t.i t.j t.n m).nodeB = t.nodeB := by
        show (((m.length : Int) == kidsN t.k t.n) && numbersN t.k t.i t.j t.n) = _
        rw [hlen]; rfl
      refine ⟨?_, ?_, ?_⟩
      · rw [Tm.markedB_eq, Tm.markedB_eq, hnode]; show (_ && (_ && markeds (t.k == 12) 0 m)) = _; rw [g2]; rfl
      · rw [Tm.plainB_eq, Tm.plainB_eq, hnode]; show (_ && (_ && plains m)) = _; rw [g1]; rfl
      · rw [Tm.size_eq, Tm.size_eq]; show sizes m + 1 = _; rw [g3]
def liftF (k from' : Int) (v b : Int) : Option Int := if v - b < from' then some v else if k > 2147483647 - v then none else some (v + k)
theorem frees_nil (k : Int) (p : Nat) : frees k p [] = 0 := by simp only [frees]
theorem frees_cons (k : Int) (p : Nat) (t : Tm) (r : List Tm) : frees k p (t :: r) = max (t.freeN - bindsN k p) (frees k (p + 1) r) := by simp only [frees]
theorem lift_free (k : Int) (hk0 : 0 ≤ k) (t : Tm) : ∀ b u, 0 ≤ b → t.rightB = true → t.each (liftF k 0) b = some u → u.freeN = if b < t.freeN then t.freeN + k else t.freeN := by
  induction t using Tm.ind with
  | h t ih =>
    intro b u hb hr he
    have hm := t.right_kids hr
    rw [Tm.each_eq] at he
    by_cases hk : t.k = 2
    · rw [if_pos hk] at he
      simp only [Option.map_eq_some_iff] at he
      obtain ⟨v, hv, rfl⟩ := he
      have hfr : t.freeN = t.i + 1 := by rw [t.freeN_eq, if_pos hk]
      have hu : (Tm.mk 2 v 0 0 []).freeN = v + 1 := by rw [Tm.freeN_eq]; rfl
      rw [hu, hfr]
      unfold liftF at hv
      split at hv
      · have := Option.some.inj hv; rw [if_neg (by omega)]; omega
      · split at hv
        · cases hv
        · have := Option.some.inj hv; rw [if_pos (by omega)]; omega
    · rw [if_neg hk] at he
      simp only [Option.map_eq_some_iff] at he
      obtain ⟨m, hm2, rfl⟩ := he
      have key : ∀ (l : List Tm) (p : Nat) (m : List Tm), (∀ x ∈ l, ∀ b u, 0 ≤ b → x.rightB = true → x.each (liftF k 0) b = some u → u.freeN = if b < x.freeN then x.freeN + k else x.freeN) → (∀ x ∈ l, x.rightB = true) → eaches (liftF k 0) t.k p b l = some m →
          frees t.k p m = if b < frees t.k p l then frees t.k p l + k else frees t.k p l := by
        intro l
        induction l with
        | nil => intro p m _ _ h; simp only [eaches, Option.some.injEq] at h; subst h; rw [frees_nil, if_neg (by omega)]
        | cons x r ihr =>
          intro p m h1 h2 h
          simp only [eaches, Option.bind_eq_some_iff, Option.map_eq_some_iff] at h
          obtain ⟨x', hx, r', hr', rfl⟩ := h
          have hbd := binds_range t.k (p : Int)
          have e1 := h1 x (List.mem_cons_self ..) _ _ (by omega) (h2 x (List.mem_cons_self ..)) hx
          have e2 := ihr (p + 1) r' (fun y hy => h1 y (List.mem_cons_of_mem _ hy)) (fun y hy => h2 y (List.mem_cons_of_mem _ hy)) hr'
          rw [frees_cons, frees_cons, e1, e2]
          split <;> split <;> first | (rw [if_pos (by omega)]; done) | (rw [if_pos (by omega)]; omega) | (rw [if_neg (by omega)]; done) | (rw [if_neg (by omega)]; omega)
      have hfr : t.freeN = frees t.k 0 t.kids := by rw [t.freeN_eq, if_neg hk]
      have hu : (Tm.mk t.k t.i t.j t.n m).freeN = frees t.k 0 m := by rw [Tm.freeN_eq]; exact if_neg hk
      rw [hu, hfr]
      exact key t.kids 0 m ih hm hm2
theorem liftF_range (k c : Int) (hk : 0 ≤ k) : ∀ v b w, 0 ≤ v → v ≤ 2147483647 → liftF k c v b = some w → 0 ≤ w ∧ w ≤ 2147483647 := by
  intro v b w h0 h1 h
  unfold liftF at h
  split at h
  · have := Option.some.inj h; omega
  · split at h
    · cases h
    · have := Option.some.inj h; omega
end Go.Proofs.Ytmicgbdcbjajiaa
namespace Go.Proofs.Ytmicgbdcbjajiaa
def Tm.zero : Tm := .mk 0 0 0 0 []
def optK (g : Nat → Tm → Option Tm) : Nat → List Tm → Option (List Tm)
  | _, [] => some []
  | p, t :: r => (g p t).bind fun x => (optK g (p + 1) r).map fun y => x :: y
theorem optK_take (g : Nat → Tm → Option Tm) (l : List Tm) (p k : Nat) (h : k < l.length) : optK g p (l.take (k + 1)) = (optK g p (l.take k)).bind fun m => (g (p + k) l[k]).map fun x => m ++ [x] := by
  induction l generalizing p k with
  | nil => simp at h
  | cons a r ih =>
    cases k with
    | zero => simp only [List.take_succ_cons, List.take_zero, optK, List.getElem_cons_zero, Nat.add_zero, Option.map_some, Option.bind_some, List.nil_append]; cases g p a <;> rfl
    | succ k =>
      simp only [List.take_succ_cons, optK, List.getElem_cons_succ]
      rw [ih (p + 1) k (by simpa using h), show p + 1 + k = p + (k + 1) by omega]
      cases g p a with
      | none => rfl
      | some x => simp only [Option.bind_some]; cases optK g (p + 1) (r.take k) with
        | none => rfl
        | some m => simp only [Option.bind_some, Option.map_some]; cases g (p + (k + 1)) (r[k]'(by simpa using h)) <;> rfl
theorem optK_none (g : Nat → Tm → Option Tm) (l : List Tm) (p k : Nat) (h : k < l.length) (hg : g (p + k) l[k] = none) : optK g p l = none := by
  induction l generalizing p k with
  | nil => simp at h
  | cons a r ih =>
    cases k with
    | zero => simp only [List.getElem_cons_zero, Nat.add_zero] at hg; simp only [optK, hg, Option.bind_none]
    | succ k =>
      simp only [List.getElem_cons_succ] at hg
      simp only [optK]
      rw [ih (p + 1) k (by simpa using h) (by rw [show p + 1 + k = p + (k + 1) by omega]; exact hg)]
      cases g p a <;> rfl
theorem optK_next {g : Nat → Tm → Option Tm} {l m : List Tm} {k : Nat} (h : k < l.length) (hm : optK g 0 (l.take k) = some m) {x : Tm} (hx : g k l[k] = some x) : optK g 0 (l.take (k + 1)) = some (m ++ [x]) := by
  rw [optK_take g l 0 k h, hm, Option.bind_some, Nat.zero_add, hx, Option.map_some]
theorem optK_stop {g : Nat → Tm → Option Tm} {l : List Tm} {k : Nat} (h : k < l.length) (hx : g k l[k] = none) : optK g 0 l = none := optK_none g l 0 k h (by rw [Nat.zero_add]; exact hx)
theorem optK_length {g : Nat → Tm → Option Tm} : ∀ {l m : List Tm} {p : Nat}, optK g p l = some m → m.length = l.length
  | [], m, p, h => by simp only [optK, Option.some.injEq] at h; subst h; rfl
  | t :: r, m, p, h => by
    simp only [optK, Option.bind_eq_some_iff, Option.map_eq_some_iff] at h
    obtain ⟨x, _, y, hy, rfl⟩ := h
    simp [optK_length hy]
theorem optK_get {g : Nat → Tm → Option Tm} : ∀ {l m : List Tm} {p : Nat}, optK g p l = some m → ∀ k (h : k < l.length) (h' : k < m.length), g (p + k) l[k] = some m[k]
  | [], m, p, h, k, hk, _ => by simp at hk
  | t :: r, m, p, h, k, hk, hk' => by
    simp only [optK, Option.bind_eq_some_iff, Option.map_eq_some_iff] at h
    obtain ⟨x, hx, y, hy, rfl⟩ := h
    cases k with
    | zero => simpa using hx
    | succ k =>
      have := optK_get hy k (by simpa using hk) (by simpa using hk')
      simp only [List.getElem_cons_succ]
      rw [show p + (k + 1) = p + 1 + k by omega]; exact this
theorem eaches_optK (f : Int → Int → Option Int) (k b : Int) : ∀ (l : List Tm) (p : Nat), eaches f k p b l = optK (fun q t => t.each f (b + bindsN k q)) p l
  | [], p => rfl
  | t :: r, p => by simp only [eaches, optK]; rw [eaches_optK f k b r (p + 1)]
theorem Tm.each_var (f : Int → Int → Option Int) (t : Tm) (b : Int) (h : t.k = 2) : t.each f b = (f t.i b).map (fun v => .mk 2 v 0 0 []) := by rw [t.each_eq, if_pos h]
theorem Tm.each_node (f : Int → Int → Option Int) (t : Tm) (b : Int) (h : t.k ≠ 2) : t.each f b = (optK (fun q x => x.each f (b + bindsN t.k q)) 0 t.kids).map (fun l => .mk t.k t.i t.j t.n l) := by rw [t.each_eq, if_neg h, eaches_optK]
def Tm.liftB (t : Tm) (k c : Int) : Tm := if k < 0 ∨ c < 0 ∨ t.rightB = false then .zero else (t.each (liftF k c) 0).getD .zero
end Go.Proofs.Ytmicgbdcbjajiaa
namespace Go.Proofs.Ytmicgbdcbjajiaa
theorem mk_k (k i j n : Int) (l : List Tm) : (Tm.mk k i j n l).k = k := rfl
theorem mk_i (k i j n : Int) (l : List Tm) : (Tm.mk k i j n l).i = i := rfl
theorem mk_j (k i j n : Int) (l : List Tm) : (Tm.mk k i j n l).j = j := rfl
theorem mk_n (k i j n : Int) (l : List Tm) : (Tm.mk k i j n l).n = n := rfl
theorem mk_kids (k i j n : Int) (l : List Tm) : (Tm.mk k i j n l).kids = l := rfl
def bareKind (k : Int) : Int := if k = 3 then 13 else if k = 4 then 14 else if k = 5 then 15 else if k = 6 then 16 else if k = 7 then 17 else if k = 8 then 18 else if k = 9 then 19 else if k = 10 then 20 else if k = 11 then 21 else if k = 12 then 23 else k
def barePick (k : Int) : List Nat := if k = 3 then [0, 1] else if k = 4 then [0, 2] else if k = 5 then [2, 3] else if k = 6 then [0, 1] else if k = 7 then [0, 1, 2, 3] else if k = 8 then [2] else if k = 9 then [2] else if k = 10 then [0, 1, 2] else if k = 11 then [0, 1] else [0, 1, 2, 3]
def pickT (p : List Nat) (l : List Tm) : List Tm := p.filterMap fun i => l[i]?
def bareNode (k i j n : Int) (l : List Tm) : Tm := if 3 ≤ k ∧ k ≤ 12 then .mk (bareKind k) (if k = 12 then i else 0) 0 (if k = 12 then 5 else 0) (pickT (barePick k) l) else .mk k i j n l
mutual
def Tm.bare : Tm → Tm
  | .mk k i j n l => bareNode k i j n (bares l)
def bares : List Tm → List Tm
  | [] => []
  | t :: r => t.bare :: bares r
end
theorem bares_map : ∀ l : List Tm, bares l = l.map Tm.bare
  | [] => rfl
  | t :: r => by simp only [bares, List.map_cons, bares_map r]
theorem Tm.bare_eq (t : Tm) : t.bare = bareNode t.k t.i t.j t.n (t.kids.map Tm.bare) := by cases t; simp only [Tm.bare, bares_map]; rfl
theorem kids_two {l : List Tm} (h : l.length = 2) : ∃ a b, l = [a, b] := by
  match l, h with | [a, b], _ => exact ⟨a, b, rfl⟩
theorem kids_three {l : List Tm} (h : l.length = 3) : ∃ a b c, l = [a, b, c] := by
  match l, h with | [a, b, c], _ => exact ⟨a, b, c, rfl⟩
theorem kids_four {l : List Tm} (h : l.length = 4) : ∃ a b c d, l = [a, b, c, d] := by
  match l, h with | [a, b, c, d], _ => exact ⟨a, b, c, d, rfl⟩
theorem node_length {t : Tm} (h : t.nodeB = true) : (t.kids.length : Int) = kidsN t.k t.n := by
  simp only [Tm.nodeB, Bool.and_eq_true, beq_iff_eq] at h; exact h.1
theorem marked_shape {t : Tm} (h : t.nodeB = true) (h3 : 3 ≤ t.k) (h12 : t.k ≤ 12) :
    ((t.k = 3 ∨ t.k = 6 ∨ t.k = 11) ∧ ∃ a b, t.kids = [a, b]) ∨ ((t.k = 4 ∨ t.k = 8 ∨ t.k = 9 ∨ t.k = 10) ∧ ∃ a b c, t.kids = [a, b, c]) ∨ ((t.k = 5 ∨ t.k = 7 ∨ t.k = 12) ∧ ∃ a b c d, t.kids = [a, b, c, d]) := by
  have hl := node_length h
  have hk : t.k = 3 ∨ t.k = 4 ∨ t.k = 5 ∨ t.k = 6 ∨ t.k = 7 ∨ t.k = 8 ∨ t.k = 9 ∨ t.k = 10 ∨ t.k = 11 ∨ t.k = 12 := by omega
  rcases hk with e | e | e | e | e | e | e | e | e | e <;> rw [e] at hl <;> simp only [kidsN] at hl <;> simp at hl
  · exact Or.inl ⟨by omega, kids_two (by omega)⟩
  · exact Or.inr (Or.inl ⟨by omega, kids_three (by omega)⟩)
  · exact Or.inr (Or.inr ⟨by omega, kids_four (by omega)⟩)
  · exact Or.inl ⟨by omega, kids_two (by omega)⟩
  · exact Or.inr (Or.inr ⟨by omega, kids_four (by omega)⟩)
  · exact Or.inr (Or.inl ⟨by omega, kids_three (by omega)⟩)
  · exact Or.inr (Or.inl ⟨by omega, kids_three (by omega)⟩)
  · exact Or.inr (Or.inl ⟨by omega, kids_three (by omega)⟩)
  · exact Or.inl ⟨by omega, kids_two (by omega)⟩
  · exact Or.inr (Or.inr ⟨by omega, kids_four (by omega)⟩)
theorem plain_kids {t : Tm} (h : t.plainB = true) : ∀ x ∈ t.kids, x.plainB = true := by
  rw [Tm.plainB_eq] at h; simp only [Bool.and_eq_true] at h; exact plains_mem h.2.2
theorem plain_kind {t : Tm} (h : t.plainB = true) : t.k = 1 ∨ t.k = 2 ∨ 13 ≤ t.k := by
  rw [Tm.plainB_eq] at h; simp at h; omega
theorem plain_right {t : Tm} (h : t.plainB = true) : t.rightB = true := by simp [Tm.rightB, h]
theorem marked_right {t : Tm} (h : t.markedB = true) : t.rightB = true := by simp [Tm.rightB, h]
theorem plain_bare (t : Tm) : t.plainB = true → t.bare = t := by
  induction t using Tm.ind with
  | h t ih =>
    intro h
    have hk := plain_kind h
    rw [Tm.bare_eq, bareNode, if_neg (by omega)]
    have : t.kids.map Tm.bare = t.kids := by
      have hp := plain_kids h
      conv => rhs; rw [← List.map_id t.kids]
      exact List.map_congr_left (fun x hx => ih x hx (hp x hx))
    rw [this]; exact t.eta
theorem right_cases {t : Tm} (h : t.rightB = true) : t.plainB = true ∨ (t.markedB = true ∧ 3 ≤ t.k ∧ t.k ≤ 12) := by
  cases hp : t.plainB
  · right
    simp [Tm.rightB, hp] at h
    refine ⟨h, ?_⟩
    have hn : t.nodeB = true := Tm.right_node (by simp [Tm.rightB, h])
    have h1 := Tm.node_kind hn
    by_cases h2 : t.k ≤ 2
    · have := (sorts_two hn h2).1
      simp [Tm.sortsN, h, hp] at this
    · rw [Tm.markedB_eq] at h; simp at h; omega
  · exact Or.inl rfl
theorem bare_plain (t : Tm) : t.rightB = true → t.bare.plainB = true := by
  induction t using Tm.ind with
  | h t ih =>
    intro h
    rcases right_cases h with hp | ⟨hm, h3, h12⟩
    · rw [plain_bare t hp]; exact hp
    · have hn := t.right_node h
      have hr := t.right_kids h
      have hnum := hn
      simp only [Tm.nodeB, Bool.and_eq_true] at hnum
      replace hnum := hnum.2
      rw [Tm.bare_eq, bareNode, if_pos ⟨h3, h12⟩, Tm.plainB_eq]
      rcases marked_shape hn h3 h12 with ⟨hk, a, b, hkids⟩ | ⟨hk, a, b, c, hkids⟩ | ⟨hk, a, b, c, d, hkids⟩
      · have ea := ih a (by simp [hkids]) (hr a (by simp [hkids]))
        have eb := ih b (by simp [hkids]) (hr b (by simp [hkids]))
        rcases hk with e | e | e <;> simp [e, hkids, bareKind, barePick, pickT, Tm.nodeB, mk_k, mk_i, mk_j, mk_n, mk_kids, kidsN, numbersN, plains, ea, eb]
      · have ea := ih a (by simp [hkids]) (hr a (by simp [hkids]))
        have eb := ih b (by simp [hkids]) (hr b (by simp [hkids]))
        have ec := ih c (by simp [hkids]) (hr c (by simp [hkids]))
        rcases hk with e | e | e | e <;> simp [e, hkids, bareKind, barePick, pickT, Tm.nodeB, mk_k, mk_i, mk_j, mk_n, mk_kids, kidsN, numbersN, plains, ea, eb, ec]
      · have ea := ih a (by simp [hkids]) (hr a (by simp [hkids]))
        have eb := ih b (by simp [hkids]) (hr b (by simp [hkids]))
        have ec := ih c (by simp [hkids]) (hr c (by simp [hkids]))
        have ed := ih d (by simp [hkids]) (hr d (by simp [hkids]))
        rcases hk with e | e | e
        · simp [e, hkids, bareKind, barePick, pickT, Tm.nodeB, mk_k, mk_i, mk_j, mk_n, mk_kids, kidsN, numbersN, plains, ec, ed]
        · simp [e, hkids, bareKind, barePick, pickT, Tm.nodeB, mk_k, mk_i, mk_j, mk_n, mk_kids, kidsN, numbersN, plains, ea, eb, ec, ed]
        · simp [e, numbersN, levelB] at hnum
          simp [e, hkids, bareKind, barePick, pickT, Tm.nodeB, mk_k, mk_i, mk_j, mk_n, mk_kids, kidsN, givenN, numbersN, plains, ea, eb, ec, ed, hnum, levelB]
theorem bare_free (t : Tm) : t.rightB = true → t.bare.freeN ≤ t.freeN := by
  induction t using Tm.ind with
  | h t ih =>
    intro h
    rcases right_cases h with hp | ⟨hm, h3, h12⟩
    · rw [plain_bare t hp]; exact Int.le_refl _
    · have hn := t.right_node h
      have hr := t.right_kids h
      rw [Tm.bare_eq, bareNode, if_pos ⟨h3, h12⟩, Tm.freeN_eq, Tm.freeN_eq]
      rcases marked_shape hn h3 h12 with ⟨hk, a, b, hkids⟩ | ⟨hk, a, b, c, hkids⟩ | ⟨hk, a, b, c, d, hkids⟩
      · have ea := ih a (by simp [hkids]) (hr a (by simp [hkids]))
        have eb := ih b (by simp [hkids]) (hr b (by simp [hkids]))
        rcases hk with e | e | e <;> simp [e, hkids, bareKind, barePick, pickT, mk_k, mk_kids, frees, bindsN] <;> omega
      · have ea := ih a (by simp [hkids]) (hr a (by simp [hkids]))
        have eb := ih b (by simp [hkids]) (hr b (by simp [hkids]))
        have ec := ih c (by simp [hkids]) (hr c (by simp [hkids]))
        rcases hk with e | e | e | e <;> simp [e, hkids, bareKind, barePick, pickT, mk_k, mk_kids, frees, bindsN] <;> omega
      · have ea := ih a (by simp [hkids]) (hr a (by simp [hkids]))
        have eb := ih b (by simp [hkids]) (hr b (by simp [hkids]))
        have ec := ih c (by simp [hkids]) (hr c (by simp [hkids]))
        have ed := ih d (by simp [hkids]) (hr d (by simp [hkids]))
        rcases hk with e | e | e <;> simp [e, hkids, bareKind, barePick, pickT, mk_k, mk_kids, frees, bindsN] <;> omega
mutual
def Tm.putG (g : Int → Int → Bool → Option Tm) : Tm → Int → Bool → Option Tm
  | .mk k i j n l, b, pl => if k = 2 then g i b pl else (putGs g k 0 b pl l).map (fun l' => .mk k i j n l')
def putGs (g : Int → Int → Bool → Option Tm) : Int → Nat → Int → Bool → List Tm → Option (List Tm)
  | _, _, _, _, [] => some []
  | k, p, b, pl, t :: r => (t.putG g (b + bindsN k p) (pl || (k == 12 && p == 2))).bind fun x => (putGs g k (p + 1) b pl r).map fun y => x :: y
end
theorem putGs_optK (g : Int → Int → Bool → Option Tm) (k b : Int) (pl : Bool) : ∀ (l : List Tm) (p : Nat), putGs g k p b pl l = optK (fun q x => x.putG g (b + bindsN k q) (pl || (k == 12 && q == 2))) p l
  | [], p => rfl
  | t :: r, p => by simp only [putGs, optK]; rw [putGs_optK g k b pl r (p + 1)]
theorem Tm.putG_eq (g : Int → Int → Bool → Option Tm) (t : Tm) (b : Int) (pl : Bool) : t.putG g b pl = if t.k = 2 then g t.i b pl else (optK (fun q x => x.putG g (b + bindsN t.k q) (pl || (t.k == 12 && q == 2))) 0 t.kids).map (fun l => .mk t.k t.i t.j t.n l) := by
  cases t; simp only [Tm.putG, putGs_optK]; rfl
theorem Tm.putG_var (g : Int → Int → Bool → Option Tm) (t : Tm) (b : Int) (pl : Bool) (h : t.k = 2) : t.putG g b pl = g t.i b pl := by rw [t.putG_eq, if_pos h]
theorem Tm.putG_node (g : Int → Int → Bool → Option Tm) (t : Tm) (b : Int) (pl : Bool) (h : t.k ≠ 2) : t.putG g b pl = (optK (fun q x => x.putG g (b + bindsN t.k q) (pl || (t.k == 12 && q == 2))) 0 t.kids).map (fun l => .mk t.k t.i t.j t.n l) := by rw [t.putG_eq, if_neg h]
theorem deeps_get : ∀ (l : List Tm) (q : Nat) (h : q < l.length), (l[q]).deep ≤ deeps l
  | [], q, h => by simp at h
  | a :: r, q, h => by
    cases q with
    | zero => simp only [List.getElem_cons_zero, deeps]; omega
    | succ q => have := deeps_get r q (by simpa using h); simp only [List.getElem_cons_succ, deeps]; omega
theorem frees_get (k : Int) : ∀ (l : List Tm) (p q : Nat) (h : q < l.length), (l[q]).freeN - bindsN k ((p + q : Nat) : Int) ≤ frees k p l
  | [], p, q, h => by simp at h
  | a :: r, p, q, h => by
    cases q with
    | zero => simp only [List.getElem_cons_zero, frees, Nat.add_zero]; omega
    | succ q => have := frees_get k r (p + 1) q (by simpa using h); simp only [List.getElem_cons_succ, frees]; rw [show p + 1 + q = p + (q + 1) by omega] at this; omega
end Go.Proofs.Ytmicgbdcbjajiaa
namespace Go.Proofs.Ytmicgbdcbjajiaa
open Go.RowKit
theorem results_cell_tmp {P : Program} {fn : Func} {p q : Tmp} {ty : TypeId} (h : fn.results = #[.cell p ty, .tmp q]) (tmps : Array Value) (w : World) (g : Nat) (t : TypeId) (cs : Array Value) (fr : Nat × Nat) (d : TypeDesc)
    (hp : tmps.getD p undef = .pointer (some ⟨g, 0, none⟩)) (hg : w.heap[g]? = some (.cells cs t fr))
    (hu : P.underlying ty = some d) (hd : (match d with | .struct _ | .array _ _ => true | _ => false) = true) (hi : (P.info? ty).map (·.size) = some cs.size) :
    (results fn tmps).run P w = .ok (.tuple #[.agg cs, tmps.getD q undef]) w := by
  have hp' : tmps[p]?.getD undef = .pointer (some ⟨g, 0, none⟩) := by simpa using hp
  simp [results, h, hp', asAddr, run_loadVar_row w g t ty cs fr d hg hu hd hi]
def Gives (r : Option Tm) (w : World) (e : Ending) (w' : World) : Prop := Below w.heap.size w w' ∧
  ((∃ u s', r = some u ∧ e = .returned (.tuple #[tv u s', .bool true]) ∧ LiesP w' (Own w.heap.size w') u.kids s') ∨ (∃ z : Tm, r = none ∧ z.kids = [] ∧ e = .returned (.tuple #[tv z (.slice none 0 0), .bool false])))
theorem liftc_some (v b c k r : Int) (bf bk : Nat) (w : World) (h : liftF k c v b = some r) (hv : 0 ≤ v) (hv2 : v ≤ 2147483647) (hb : 0 ≤ b) (hb2 : b ≤ 4000000) (hk : I64 k) (hk0 : 0 ≤ k)
    (hc : w.cell? ⟨bf, 0, none⟩ = some (.int .i64 c)) (hck : w.cell? ⟨bk, 0, none⟩ = some (.int .i64 k)) :
    Calls Try.prog 71 #[.int .i64 v, .int .i64 b, .pointer (some ⟨bf, 0, none⟩), .pointer (some ⟨bk, 0, none⟩)] w fun e w' => e = .returned (.tuple #[.int .i64 r, .bool true]) ∧ w = w' := by
  unfold liftF at h
  unfold I64 at hk
  obtain ⟨hk1, hk2⟩ := hk
  by_cases h1 : v - b < c
  · rw [if_pos h1] at h
    obtain rfl := Option.some.inj h
    have e1 : decide (v - b < c) = true := by simpa using h1
    clear h h1
    go_enter Try.func71, Try.ntmps71
    go_wp2
    go_ret2
    exact ⟨rfl, rfl⟩
  · rw [if_neg h1] at h
    by_cases h2 : k > 2147483647 - v
    · rw [if_pos h2] at h; cases h
    · rw [if_neg h2] at h
      obtain rfl := Option.some.inj h
      have e1 : decide (v - b < c) = false := by simpa using h1
      have e2 : decide (2147483647 - v < k) = false := by simpa using h2
      have h2' : k ≤ 2147483647 - v := by omega
      clear h h1 h2
      go_enter Try.func71, Try.ntmps71
      go_wp2
      go_ret2
      exact ⟨rfl, rfl⟩
theorem liftc_none (v b c k : Int) (bf bk : Nat) (w : World) (h : liftF k c v b = none) (hv : 0 ≤ v) (hv2 : v ≤ 2147483647) (hb : 0 ≤ b) (hb2 : b ≤ 4000000) (hk : I64 k) (_ : 0 ≤ k)
    (hc : w.cell? ⟨bf, 0, none⟩ = some (.int .i64 c)) (hck : w.cell? ⟨bk, 0, none⟩ = some (.int .i64 k)) :
    Calls Try.prog 71 #[.int .i64 v, .int .i64 b, .pointer (some ⟨bf, 0, none⟩), .pointer (some ⟨bk, 0, none⟩)] w fun e w' => e = .returned (.tuple #[.int .i64 0, .bool false]) ∧ w = w' := by
  unfold liftF at h
  unfold I64 at hk
  obtain ⟨hk1, hk2⟩ := hk
  by_cases h1 : v - b < c
  · rw [if_pos h1] at h; cases h
  · rw [if_neg h1] at h
    by_cases h2 : k > 2147483647 - v
    · have e1 : decide (v - b < c) = false := by simpa using h1
      have e2 : decide (2147483647 - v < k) = true := by simpa using h2
      clear h h1 h2
      go_enter Try.func71, Try.ntmps71
      go_wp2
      go_ret2
      exact ⟨rfl, rfl⟩
    · rw [if_neg h2] at h; cases h
theorem level_I64 {i : Int} (h : levelB i = true) : I64 i := by simp [levelB] at h; unfold I64; omega
theorem right_fine {t : Tm} (h : t.rightB = true) : t.fine := by
  have hn := t.right_node h
  have hk := Tm.node_kind hn
  have hl := node_length hn
  simp only [Tm.nodeB, Bool.and_eq_true] at hn
  replace hn := hn.2
  have i0 : I64 0 := by unfold I64; omega
  have gn : 0 ≤ givenN t.n → I64 t.n := fun h => by unfold givenN at h; unfold I64; (repeat' split at h) <;> omega
  refine ⟨by unfold I64; omega, ?_⟩
  unfold numbersN at hn
  split at hn
  · simp at hn; exact ⟨by unfold I64; omega, by rw [hn.2.2.1]; exact i0, by rw [hn.2.2.2]; exact i0⟩
  split at hn
  · simp at hn; exact ⟨level_I64 hn.1, by rw [hn.2.1]; exact i0, by rw [hn.2.2]; exact i0⟩
  split at hn
  · simp at hn; exact ⟨level_I64 hn.1, level_I64 hn.2.1, by rw [hn.2.2]; exact i0⟩
  split at hn
  · rename_i h23
    simp at hn
    rw [h23] at hl
    exact ⟨level_I64 hn.1, level_I64 hn.2, gn (by have : kidsN 23 t.n = givenN t.n := rfl; omega)⟩
  · simp at hn; exact ⟨by rw [hn.1]; exact i0, by rw [hn.2.1]; exact i0, by rw [hn.2.2]; exact i0⟩
theorem kidsN_le (k n : Int) : kidsN k n ≤ 12 := by
  have : givenN n ≤ 12 := by unfold givenN; (repeat' split) <;> omega
  unfold kidsN; (repeat' split) <;> omega
theorem right_len {t : Tm} (h : t.rightB = true) : t.kids.length ≤ 12 := by
  have := node_length (t.right_node h); have := kidsN_le t.k t.n; omega
end Go.Proofs.Ytmicgbdcbjajiaa
namespace Go.Proofs.Ytmicgbdcbjajiaa
open Go.RowKit
def Makes (u : Tm) (w : World) (e : Ending) (w' : World) : Prop := ∃ s' : Value, e = .returned (tv u s') ∧ LiesP w' (Own w.heap.size w') u.kids s' ∧ Below w.heap.size w w'
def MakesAll (l : List Tm) (w : World) (e : Ending) (w' : World) : Prop := ∃ s' : Value, e = .returned s' ∧ LiesP w' (Own w.heap.size w') l s' ∧ Below w.heap.size w w'
theorem LiesP.out {w : World} {P : Nat → Prop} {l : List Tm} {s : Value} (h : LiesP w P l s) : ∃ (a : Option Addr) (cap : Nat), s = .slice a l.length cap ∧ l.length ≤ cap ∧ cap ≤ maxLen := by
  cases h with
  | mk l a cap S hc hm hf hn hk => exact ⟨a, cap, rfl, hc, hm⟩
def Boxes (w : World) (t : Tm) (s : Value) (w' : World) : Prop := Below (w.heap.size + 2) ((w.alloc (boxOf t s)).alloc (.cells #[.int .i64 0, .int .i64 0, .int .i64 0, .int .i64 0, .slice none 0 0] 27)) w'
theorem boxes_start (w : World) (t : Tm) (s : Value) : Boxes w t s ((w.alloc (.cells #[.int .i64 t.k, .int .i64 t.i, .int .i64 t.j, .int .i64 t.n, s] 27)).alloc (.cells #[.int .i64 0, .int .i64 0, .int .i64 0, .int .i64 0, .slice none 0 0] 27)) := Below.refl _ _
theorem boxes_held {w w' : World} {t : Tm} {s : Value} (h : Boxes w t s w') : Held w t s w' :=
  ((Below.refl (w.heap.size + 1) (w.alloc (boxOf t s))).alloc (by simp) _).trans (Below.mono h (by omega))
theorem boxes_cells {w w' : World} {t : Tm} {s : Value} (h : Boxes w t s w') : w'.cell? ⟨w.heap.size, 0, none⟩ = some (.int .i64 t.k) ∧ w'.cell? ⟨w.heap.size, 1, none⟩ = some (.int .i64 t.i) ∧ w'.cell? ⟨w.heap.size, 2, none⟩ = some (.int .i64 t.j) ∧ w'.cell? ⟨w.heap.size, 3, none⟩ = some (.int .i64 t.n) ∧ w'.cell? ⟨w.heap.size, 4, none⟩ = some s ∧
    w'.cell? ⟨w.heap.size + 1, 0, none⟩ = some (.int .i64 0) ∧ w'.cell? ⟨w.heap.size + 1, 1, none⟩ = some (.int .i64 0) ∧ w'.cell? ⟨w.heap.size + 1, 2, none⟩ = some (.int .i64 0) ∧ w'.cell? ⟨w.heap.size + 1, 3, none⟩ = some (.int .i64 0) ∧ w'.cell? ⟨w.heap.size + 1, 4, none⟩ = some (.slice none 0 0) ∧ w'.frozen? ⟨w.heap.size + 1, 0, none⟩ = false ∧ w'.frozen? ⟨w.heap.size + 1, 1, none⟩ = false ∧ w'.frozen? ⟨w.heap.size + 1, 2, none⟩ = false ∧ w'.frozen? ⟨w.heap.size + 1, 3, none⟩ = false ∧ w'.frozen? ⟨w.heap.size + 1, 4, none⟩ = false := by
  obtain ⟨h0, h1, h2, h3, h4⟩ := held_cells (boxes_held h)
  have hs : (w.alloc (boxOf t s)).heap.size = w.heap.size + 1 := by simp
  have := box_cells (w := w.alloc (boxOf t s)) (by rw [hs]; exact h)
  rw [hs] at this
  obtain ⟨y0, y1, y2, y3, y4⟩ := this
  have fr : ∀ q, w'.frozen? ⟨w.heap.size + 1, q, none⟩ = false := fun q => by
    rw [Below.frozen h (p := ⟨w.heap.size + 1, q, none⟩) (by simp)]
    unfold World.frozen?
    rw [show (⟨w.heap.size + 1, q, none⟩ : Addr).block = (w.alloc (boxOf t s)).heap.size by simp, alloc_new]
    rfl
  exact ⟨h0, h1, h2, h3, h4, y0, y1, y2, y3, y4, fr _, fr _, fr _, fr _, fr _⟩
theorem boxes_call {w w1 w2 : World} {t : Tm} {s : Value} (h : Boxes w t s w1) (hb : Below w1.heap.size w1 w2) : Boxes w t s w2 := below_call h hb (by have := Below.size h; simpa using this)
theorem held_set {w w1 : World} {t : Tm} {s : Value} (h : Held w t s w1) {p : Addr} (hp : w.heap.size + 1 ≤ p.block) (u : Value) : Held w t s (w1.setCell p u) := Below.setCell h hp u
theorem boxes_block {w w1 : World} {t : Tm} {s : Value} (h : Boxes w t s w1) : w1.heap[w.heap.size + 1]? = some (.cells #[.int .i64 0, .int .i64 0, .int .i64 0, .int .i64 0, .slice none 0 0] 27 (0, 0)) := by
  rw [Below.block h _ (by omega)]
  exact heap_alloc2_new _ _ _
theorem boxes_lies {w w1 : World} {t : Tm} {s s' : Value} {l : List Tm} (h : Boxes w t s w1) (hl : Lies w l s') : Lies w1 l s' := held_lies (boxes_held h) hl
theorem len_sizes : ∀ l : List Tm, l.length ≤ sizes l
  | [] => by simp
  | t :: r => by have := len_sizes r; have := t.size_eq; simp only [sizes, List.length_cons]; omega
theorem size_mem : ∀ (l : List Tm) (x : Tm), x ∈ l → x.size ≤ sizes l
  | t :: r, x, h => by
    simp only [sizes]
    rcases List.mem_cons.1 h with rfl | h
    · omega
    · have := size_mem r x h; omega
theorem under_term : ∃ d, Try.prog.underlying 27 = some d ∧ (match d with | .struct _ | .array _ _ => true | _ => false) = true := by
  have h : (Try.prog.underlying 27).map (fun d => match d with | .struct _ | .array _ _ => true | _ => false) = some true := by kernel_rfl
  cases e : Try.prog.underlying 27 with
  | none => rw [e] at h; cases h
  | some d => rw [e] at h; exact ⟨d, rfl, Option.some.inj h⟩
theorem size_term : (Try.prog.info? 27).map (·.size) = some 5 := by kernel_rfl
end Go.Proofs.Ytmicgbdcbjajiaa
namespace Go.Proofs.Ytmicgbdcbjajiaa
open Go.RowKit
theorem Shr.refl {P : Nat → Prop} {w : World} (h : Free P w) : Shr P w w := ⟨h, Nat.le_refl _, ⟨rfl, rfl, rfl⟩, fun _ _ _ => rfl, fun l _ hl => ⟨l, rfl, Nat.le_refl _, hl⟩⟩
theorem open_unfrozen {w : World} {b : Nat} {cs : Array Value} {T : TypeId} (h : w.heap[b]? = some (.cells cs T (0, 0))) (q : Nat) : w.frozen? ⟨b, q, none⟩ = false := by
  unfold World.frozen?
  rw [show (⟨b, q, none⟩ : Addr).block = b from rfl, h]; rfl
end Go.Proofs.Ytmicgbdcbjajiaa
namespace Go.Proofs.Ytmicgbdcbjajiaa
open Go.RowKit
theorem cell_lat {w wx : World} {a : Addr} {v : Value} (hb : Below w.heap.size w wx) (h : w.cell? a = some v) : wx.cell? a = some v := (hb.cell (World.block_lt_of_cell? _ _ h)).trans h
theorem boxes_under {w w' : World} {t : Tm} {s : Value} (h : Boxes w t s w') : Below w.heap.size w w' := held_below (boxes_held h)
abbrev zeroObj : Obj := .cells #[.int .i64 0, .int .i64 0, .int .i64 0, .int .i64 0, .slice none 0 0] 27
def Desk (w : World) (t u : Tm) (s v : Value) (w' : World) : Prop := Below (w.heap.size + 3) (((w.alloc (boxOf t s)).alloc zeroObj).alloc (boxOf u v)) w'
theorem heap_three (w : World) (a b c : Obj) : (((w.alloc a).alloc b).alloc c).heap[w.heap.size]? = some a ∧ (((w.alloc a).alloc b).alloc c).heap[w.heap.size + 1]? = some b ∧ (((w.alloc a).alloc b).alloc c).heap[w.heap.size + 2]? = some c ∧ ∀ k, k < w.heap.size → (((w.alloc a).alloc b).alloc c).heap[k]? = w.heap[k]? := by
  refine ⟨?_, ?_, ?_, fun k hk => ?_⟩
  · rw [Below.heap_alloc _ _ _ (by simp; omega), Below.heap_alloc _ _ _ (by simp), alloc_new]
  · rw [Below.heap_alloc _ _ _ (by simp)]
    have := alloc_new (w.alloc a) b
    simpa using this
  · have := alloc_new ((w.alloc a).alloc b) c
    simpa using this
  · rw [Below.heap_alloc _ _ _ (by simp; omega), Below.heap_alloc _ _ _ (by simp; omega), Below.heap_alloc _ _ _ hk]
theorem desk_blocks {w w' : World} {t u : Tm} {s v : Value} (h : Desk w t u s v w') : w'.heap[w.heap.size]? = some (boxOf t s) ∧ w'.heap[w.heap.size + 1]? = some zeroObj ∧ w'.heap[w.heap.size + 2]? = some (boxOf u v) := by
  obtain ⟨h0, h1, h2, -⟩ := heap_three w (boxOf t s) zeroObj (boxOf u v)
  exact ⟨by rw [Below.block h _ (by omega)]; exact h0, by rw [Below.block h _ (by omega)]; exact h1, by rw [Below.block h _ (by omega)]; exact h2⟩
theorem five_cells {w : World} {g : Nat} {v0 v1 v2 v3 v4 : Value} {T : TypeId} (h : w.heap[g]? = some (.cells #[v0, v1, v2, v3, v4] T (0, 0))) :
    w.cell? ⟨g, 0, none⟩ = some v0 ∧ w.cell? ⟨g, 1, none⟩ = some v1 ∧ w.cell? ⟨g, 2, none⟩ = some v2 ∧ w.cell? ⟨g, 3, none⟩ = some v3 ∧ w.cell? ⟨g, 4, none⟩ = some v4 := by
  refine ⟨?_, ?_, ?_, ?_, ?_⟩ <;> (rw [cell_of_row w g _ _ _ _ h]; rfl)
theorem five_free {w : World} {g : Nat} {cs : Array Value} {T : TypeId} (h : w.heap[g]? = some (.cells cs T (0, 0))) :
    w.frozen? ⟨g, 0, none⟩ = false ∧ w.frozen? ⟨g, 1, none⟩ = false ∧ w.frozen? ⟨g, 2, none⟩ = false ∧ w.frozen? ⟨g, 3, none⟩ = false ∧ w.frozen? ⟨g, 4, none⟩ = false :=
  ⟨open_unfrozen h _, open_unfrozen h _, open_unfrozen h _, open_unfrozen h _, open_unfrozen h _⟩
theorem desk_start (w : World) (t u : Tm) (s v : Value) : Desk w t u s v (((w.alloc (.cells #[.int .i64 t.k, .int .i64 t.i, .int .i64 t.j, .int .i64 t.n, s] 27)).alloc (.cells #[.int .i64 0, .int .i64 0, .int .i64 0, .int .i64 0, .slice none 0 0] 27)).alloc (.cells #[.int .i64 u.k, .int .i64 u.i, .int .i64 u.j, .int .i64 u.n, v] 27)) := Below.refl _ _
theorem desk_under {w w' : World} {t u : Tm} {s v : Value} (h : Desk w t u s v w') : Below w.heap.size w w' :=
  ((((Below.refl _ _).alloc (Nat.le_refl _) _).alloc (by simp) _).alloc (by simp; omega) _).trans (h.mono (by omega))
theorem desk_size {w w' : World} {t u : Tm} {s v : Value} (h : Desk w t u s v w') : w.heap.size + 3 ≤ w'.heap.size := by have := Below.size h; simpa using this
theorem desk_later {w w1 w2 : World} {t u : Tm} {s v : Value} (h : Desk w t u s v w1) (hb : Below w1.heap.size w1 w2) : Desk w t u s v w2 := below_call h hb (by have := desk_size h; omega)
theorem desk_trans {w w1 w2 : World} {t u : Tm} {s v : Value} (h : Desk w t u s v w1) (hb : Below (w.heap.size + 3) w1 w2) : Desk w t u s v w2 := Below.trans h hb
theorem desk_set {w w1 : World} {t u : Tm} {s v v' : Value} (h : Desk w t u s v w1) : Desk w t u s v' (w1.setCell ⟨w.heap.size + 2, 4, none⟩ v') := by
  obtain ⟨h0, h1, h2, h3⟩ := heap_three w (boxOf t s) zeroObj (boxOf u v')
  obtain ⟨g0, g1, g2⟩ := desk_blocks h
  refine ⟨(Below.os h).trans rfl, (Below.tape h).trans rfl, (Below.output h).trans rfl, by have := desk_size h; simp [World.setCell]; omega, fun k hk => ?_⟩
  by_cases e2 : k = w.heap.size + 2
  · subst e2
    rw [h2, heap_setCell_same _ _ _ _ _ _ g2]; rfl
  · rw [Below.heap_setCell _ _ _ _ (by exact e2)]
    by_cases e1 : k = w.heap.size + 1
    · subst e1; rw [h1, g1]
    · by_cases e0 : k = w.heap.size
      · subst e0; rw [h0, g0]
      · rw [h3 k (by omega), (desk_under h).block k (by omega)]
theorem desk_put {w w1 : World} {t u : Tm} {s v : Value} (h : Desk w t u s v w1) {g : Nat} (hg : w.heap.size + 3 ≤ g) (o : Nat) (x : Tm) (sx : Value) : Desk w t u s v (put5 w1 g o x sx) :=
  Below.trans h ⟨(put5_rest _ _ _ _ _).1, (put5_rest _ _ _ _ _).2.1, (put5_rest _ _ _ _ _).2.2, by rw [put5_size]; exact Nat.le_refl _, fun k hk => put5_other _ _ _ _ _ (by omega)⟩
theorem cells5_zeros : ∀ n : Nat, (cells5 (List.replicate n (Tm.zero, Value.slice none 0 0))) = (madeCells #[.int .i64 0, .int .i64 0, .int .i64 0, .int .i64 0, .slice none 0 0] (n * 5)).toList := by
  intro n
  apply List.ext_getElem?
  intro j
  by_cases hj : j < n * 5
  · have h5 : j % 5 < 5 := Nat.mod_lt _ (by omega)
    have hd : j / 5 < n := by omega
    have e : j = j / 5 * 5 + j % 5 := by omega
    have h1 := cells5_get (List.replicate n (Tm.zero, Value.slice none 0 0)) (j / 5) (by simpa using hd) (j % 5) h5
    rw [← e] at h1
    rw [h1]
    simp only [List.getElem_replicate]
    have hz : (madeCells #[Value.int .i64 0, .int .i64 0, .int .i64 0, .int .i64 0, .slice none 0 0] (n * 5)).toList[j]? = some (#[Value.int .i64 0, .int .i64 0, .int .i64 0, .int .i64 0, .slice none 0 0][j % 5]!) := by simp [madeCells, hj]
    rw [hz]
    generalize j % 5 = q at h5
    match q, h5 with
    | 0, _ => rfl
    | 1, _ => rfl
    | 2, _ => rfl
    | 3, _ => rfl
    | 4, _ => rfl
  · rw [List.getElem?_eq_none (by rw [cells5_length]; simp; omega), List.getElem?_eq_none (by simp [madeCells]; omega)]
theorem zero_fine : Tm.zero.fine := by simp [Tm.zero, Tm.fine, I64, Tm.k, Tm.i, Tm.j, Tm.n]
theorem full_made {B : Nat} {w : World} {g n : Nat} (h : w.ownsRow B 27 5 (.slice (some ⟨g, 0, none⟩) n n) n (madeCells #[.int .i64 0, .int .i64 0, .int .i64 0, .int .i64 0, .slice none 0 0] (n * 5)).toList) :
    Full B w g (List.replicate n (Tm.zero, .slice none 0 0)) := by
  rw [← cells5_zeros] at h
  have hb : B ≤ g ∧ ∃ cs, w.heap[g]? = some (.cells cs 27 (0, 0)) := by
    obtain ⟨-, ⟨h1, -⟩ | ⟨g', cap, cur, h1, h2, h3, -⟩⟩ := h
    · cases h1
    · obtain rfl : g = g' := by simp only [Value.slice.injEq, Option.some.injEq, Addr.mk.injEq] at h1; exact h1.1.1
      exact ⟨h2, cur, h3⟩
  refine ⟨hb.1, hb.2, fun i hi => ?_, fun p hp => ?_, fun p hp => ?_⟩
  · have cellq : ∀ q, q < 5 → w.cell? ⟨g, i * 5 + q, none⟩ = [Value.int .i64 ((List.replicate n (Tm.zero, Value.slice none 0 0))[i]).1.k, .int .i64 ((List.replicate n (Tm.zero, Value.slice none 0 0))[i]).1.i, .int .i64 ((List.replicate n (Tm.zero, Value.slice none 0 0))[i]).1.j, .int .i64 ((List.replicate n (Tm.zero, Value.slice none 0 0))[i]).1.n, ((List.replicate n (Tm.zero, Value.slice none 0 0))[i]).2][q]? := fun q hq => by
      rw [h.cellAt (i * 5 + q) (by simp at hi; omega)]; exact cells5_get _ i hi q hq
    exact ⟨cellq 0 (by omega), cellq 1 (by omega), cellq 2 (by omega), cellq 3 (by omega), cellq 4 (by omega)⟩
  · rw [(List.mem_replicate.1 hp).2]; exact zero_fine
  · rw [(List.mem_replicate.1 hp).2]; exact liesP_nil _ _
theorem Full.below {B g b o : Nat} {w : World} {xs : List (Tm × Value)} (h : Full B w g xs) (hb : b < B) (v : Value) : Full B (w.setCell ⟨b, o, none⟩ v) g xs := by
  have hg := h.above
  have hk : ∀ b', B ≤ b' → (w.setCell ⟨b, o, none⟩ v).heap[b']? = w.heap[b']? := fun b' hb' => Below.heap_setCell _ _ _ _ (by show b' ≠ b; omega)
  exact ⟨hg, by rw [hk g hg]; exact h.open', fun i hi => (h.node i hi).same (hk g hg), h.fine, fun p hp => (h.kids p hp).keep (fun b' hb' _ => hk b' hb'.1.1) (fun b' hb' _ => ⟨hb'.1.same (hk b' hb'.1.1), hb'.2⟩)⟩
theorem held_and {w w' : World} {t : Tm} {s v : Value} {p : Addr} (h : Held w t s w') (hp : w.cell? p = some v) : Held w t s w' ∧ w'.cell? p = some v ∧ w'.cell? ⟨w.heap.size, 0, none⟩ = some (.int .i64 t.k) ∧ w'.cell? ⟨w.heap.size, 1, none⟩ = some (.int .i64 t.i) ∧ w'.cell? ⟨w.heap.size, 2, none⟩ = some (.int .i64 t.j) ∧ w'.cell? ⟨w.heap.size, 3, none⟩ = some (.int .i64 t.n) ∧ w'.cell? ⟨w.heap.size, 4, none⟩ = some s :=
  ⟨h, cell_lat (held_below h) hp, held_cells h⟩
theorem held_alloc {w w1 : World} {t : Tm} {s : Value} (h : Held w t s w1) (o : Obj) : Held w t s (w1.alloc o) := Below.alloc h (by have := Below.size h; simpa using this) o
theorem zero_blocks_new {wr wn : World} {A : Obj} (h : Below ((wr.alloc A).alloc zeroObj).drew.heap.size ((wr.alloc A).alloc zeroObj).drew wn) : wn.heap[wr.heap.size + 1]? = some zeroObj := by
  have hN : ((wr.alloc A).alloc zeroObj).heap[wr.heap.size + 1]? = some zeroObj := heap_alloc2_new wr A zeroObj
  have hb := h.block (wr.heap.size + 1) (by have := (Array.getElem?_eq_some_iff.1 hN).1; exact this)
  exact hb.trans hN
theorem below_from {B : Nat} {w w' : World} (h : Below w.heap.size w w') (hB : B ≤ w.heap.size) : Below B w w' := h.mono hB
theorem held_five {w w1 : World} {t : Tm} {s : Value} (h : Held w t s w1) (v0 v1 v2 v3 v4 : Value) : Held w t s (((((w1.setCell ⟨w.heap.size + 1, 0, none⟩ v0).setCell ⟨w.heap.size + 1, 1, none⟩ v1).setCell ⟨w.heap.size + 1, 2, none⟩ v2).setCell ⟨w.heap.size + 1, 3, none⟩ v3).setCell ⟨w.heap.size + 1, 4, none⟩ v4) :=
  held_set (held_set (held_set (held_set (held_set h (Nat.le_refl _) _) (Nat.le_refl _) _) (Nat.le_refl _) _) (Nat.le_refl _) _) (Nat.le_refl _) _
theorem liesP_five {N : Nat} {w : World} {l : List Tm} {s : Value} (h : LiesP w (Own (N + 2) w) l s) (v0 v1 v2 v3 v4 : Value) :
    LiesP (((((w.setCell ⟨N + 1, 0, none⟩ v0).setCell ⟨N + 1, 1, none⟩ v1).setCell ⟨N + 1, 2, none⟩ v2).setCell ⟨N + 1, 3, none⟩ v3).setCell ⟨N + 1, 4, none⟩ v4) (Own N (((((w.setCell ⟨N + 1, 0, none⟩ v0).setCell ⟨N + 1, 1, none⟩ v1).setCell ⟨N + 1, 2, none⟩ v2).setCell ⟨N + 1, 3, none⟩ v3).setCell ⟨N + 1, 4, none⟩ v4)) l s := by
  have hb : ∀ b, N + 2 ≤ b → (((((w.setCell ⟨N + 1, 0, none⟩ v0).setCell ⟨N + 1, 1, none⟩ v1).setCell ⟨N + 1, 2, none⟩ v2).setCell ⟨N + 1, 3, none⟩ v3).setCell ⟨N + 1, 4, none⟩ v4).heap[b]? = w.heap[b]? := fun b hb => by
    have hne : b ≠ N + 1 := by omega
    repeat rw [Below.heap_setCell _ _ _ _ (by exact hne)]
  exact h.keep (fun b hp _ => hb b hp.1) (fun b hp _ => (hp.from (by omega)).same (hb b hp.1))
theorem take_set_next {α : Type} (l : List α) (q : Nat) (x : α) (h : q < l.length) : (l.set q x).take (q + 1) = l.take q ++ [x] := by
  rw [List.take_succ_eq_append_getElem (by simpa using h), List.getElem_set_self, List.take_set_of_le (Nat.le_refl _)]
theorem five_lies {N n : Nat} {w : World} {l : List Tm} {m : Nat} (h : LiesP w (Own (N + 3) w) l (.slice (some ⟨N + 3, 0, none⟩) m n)) (hm : m = n) (v0 v1 v2 v3 v4 : Value) :
    LiesP (((((w.setCell ⟨N + 1, 0, none⟩ v0).setCell ⟨N + 1, 1, none⟩ v1).setCell ⟨N + 1, 2, none⟩ v2).setCell ⟨N + 1, 3, none⟩ v3).setCell ⟨N + 1, 4, none⟩ v4) (Own N (((((w.setCell ⟨N + 1, 0, none⟩ v0).setCell ⟨N + 1, 1, none⟩ v1).setCell ⟨N + 1, 2, none⟩ v2).setCell ⟨N + 1, 3, none⟩ v3).setCell ⟨N + 1, 4, none⟩ v4)) l (.slice (some ⟨N + 3, 0, none⟩) n n) := by
  subst hm
  exact liesP_five (h.from (by omega)) v0 v1 v2 v3 v4
theorem right_each (f : Int → Int → Option Int) (hf : ∀ v b w, 0 ≤ v → v ≤ 2147483647 → f v b = some w → 0 ≤ w ∧ w ≤ 2147483647) (t : Tm) (b : Int) (u : Tm) (hr : t.rightB = true) (h : t.each f b = some u) : u.rightB = true := by
  obtain ⟨h1, h2, -⟩ := each_keeps f hf t b u hr h
  unfold Tm.rightB at hr ⊢; rw [h1, h2]; exact hr
def GivesNone (w : World) (e : Ending) (w' : World) : Prop := (∃ z : Tm, e = .returned (.tuple #[tv z (.slice none 0 0), .bool false])) ∧ Below w.heap.size w w'
def GivesSome (u : Tm) (w : World) (e : Ending) (w' : World) : Prop := (∃ s', e = .returned (.tuple #[tv u s', .bool true]) ∧ LiesP w' (Own w.heap.size w') u.kids s') ∧ Below w.heap.size w w'
theorem Gives.none {w w' : World} {e : Ending} (h : Gives none w e w') : GivesNone w e w' := by
  obtain ⟨hb, ⟨u, s', h1, -⟩ | ⟨z, -, -, h2⟩⟩ := h
  · cases h1
  · exact ⟨⟨z, h2⟩, hb⟩
theorem Gives.some {u : Tm} {w w' : World} {e : Ending} (h : Gives (some u) w e w') : GivesSome u w e w' := by
  obtain ⟨hb, ⟨u', s', h1, h2, h3⟩ | ⟨z, h1, -⟩⟩ := h
  · cases h1; exact ⟨⟨s', h2, h3⟩, hb⟩
  · cases h1
end Go.Proofs.Ytmicgbdcbjajiaa
namespace Go.Proofs.Ytmicgbdcbjajiaa
open Go.RowKit
abbrev five (w : World) (g : Nat) (v0 v1 v2 v3 v4 : Value) : World := ((((w.setCell ⟨g, 0, none⟩ v0).setCell ⟨g, 1, none⟩ v1).setCell ⟨g, 2, none⟩ v2).setCell ⟨g, 3, none⟩ v3).setCell ⟨g, 4, none⟩ v4
theorem five_size (w : World) (g : Nat) (v0 v1 v2 v3 v4 : Value) : (five w g v0 v1 v2 v3 v4).heap.size = w.heap.size := by simp [five, World.setCell]
theorem five_other (w : World) (g : Nat) (v0 v1 v2 v3 v4 : Value) {b : Nat} (h : b ≠ g) : (five w g v0 v1 v2 v3 v4).heap[b]? = w.heap[b]? := by
  unfold five; repeat rw [Below.heap_setCell _ _ _ _ (by exact h)]
theorem five_alloc {w : World} {g : Nat} {T : TypeId} {z0 z1 z2 z3 z4 : Value} (h : w.heap[g]? = some (.cells #[z0, z1, z2, z3, z4] T (0, 0))) (v0 v1 v2 v3 v4 : Value) (X : Obj) : ((five w g v0 v1 v2 v3 v4).alloc X).heap[g]? = some (.cells #[v0, v1, v2, v3, v4] T (0, 0)) := by
  rw [Below.heap_alloc _ _ _ (by rw [five_size]; exact (Array.getElem?_eq_some_iff.1 h).1)]
  exact five_set h
theorem below_five {B : Nat} {w w1 : World} (h : Below B w w1) {g : Nat} (hg : B ≤ g) (v0 v1 v2 v3 v4 : Value) : Below B w (five w1 g v0 v1 v2 v3 v4) :=
  ((((h.setCell hg _).setCell hg _).setCell hg _).setCell hg _).setCell hg _
theorem below_five_alloc {B : Nat} {w w1 : World} (h : Below B w w1) (hB : B ≤ w1.heap.size) {g : Nat} (hg : B ≤ g) (v0 v1 v2 v3 v4 : Value) (X : Obj) : Below B w ((five w1 g v0 v1 v2 v3 v4).alloc X) :=
  (below_five h hg v0 v1 v2 v3 v4).alloc (by rw [five_size]; exact hB) X
theorem liesP_fives {B N g : Nat} {w : World} {l : List Tm} {s : Value} (h : LiesP w (Own B w) l s) (hg : g < B) (hN : N ≤ B) (v0 v1 v2 v3 v4 : Value) : LiesP (five w g v0 v1 v2 v3 v4) (Own N (five w g v0 v1 v2 v3 v4)) l s :=
  h.keep (fun b hp _ => five_other w g v0 v1 v2 v3 v4 (by have := hp.1; omega)) (fun b hp _ => (hp.from hN).same (five_other w g v0 v1 v2 v3 v4 (by have := hp.1; omega)))
theorem liesP_fives_alloc {B N g : Nat} {w : World} {l : List Tm} {s : Value} (h : LiesP w (Own B w) l s) (hg : g < B) (hN : N ≤ B) (v0 v1 v2 v3 v4 : Value) (X : Obj) : LiesP ((five w g v0 v1 v2 v3 v4).alloc X) (Own N ((five w g v0 v1 v2 v3 v4).alloc X)) l s :=
  (liesP_fives h hg hN v0 v1 v2 v3 v4).later ((Below.refl _ _).alloc (Nat.le_refl _) _)
theorem liesP_set {B N g o : Nat} {w : World} {l : List Tm} {s : Value} (h : LiesP w (Own B w) l s) (hg : g < B) (hN : N ≤ B) (v : Value) : LiesP (w.setCell ⟨g, o, none⟩ v) (Own N (w.setCell ⟨g, o, none⟩ v)) l s :=
  h.keep (fun b hp _ => Below.heap_setCell _ _ _ _ (by show b ≠ g; have := hp.1; omega)) (fun b hp _ => (hp.from hN).same (Below.heap_setCell _ _ _ _ (by show b ≠ g; have := hp.1; omega)))
theorem below_three (w : World) (a b c : Obj) : Below w.heap.size w (((w.alloc a).alloc b).alloc c) := (((Below.refl _ _).alloc (Nat.le_refl _) _).alloc (by simp) _).alloc (by simp <;> omega) _
theorem push_once {w wr w2 w3 : World} {t t' : Tm} {s v vl : Value} {ps : List (Tm × Value)} {u : Tm} {s2 : Value} {g cap : Nat} (hd : Desk w t t' s vl wr) (h : Made (w.heap.size + 3) wr v ps) (hf : u.fine) (hb2 : Below wr.heap.size wr w2) (hk : LiesP w2 (Own wr.heap.size w2) u.kids s2) (o : Obj)
    (hown : w3.ownsRow (w.heap.size + 3) 27 5 (.slice (some ⟨g, 0, none⟩) (ps.length + 1) cap) (ps.length + 1) (cells5 ps ++ cells5 [(u, s2)])) (hgrow : (w2.alloc o).grownBy w3 v.ownBlock) (hat : v.ownBlock = some g ∨ g = (w2.alloc o).heap.size) :
    Made (w.heap.size + 3) w3 (.slice (some ⟨g, 0, none⟩) (ps.length + 1) cap) (ps ++ [(u, s2)]) ∧ Desk w t t' s vl w3 :=
  ⟨made_push h hf (desk_size hd) hb2 hk o hown hgrow (by simpa using hat), desk_trans hd (below_push h (Below.refl _ _) (desk_size hd) hb2 o hgrow)⟩
theorem one5 (t : Tm) (s : Value) (hs : s.oneCell' = true := by rfl) : ∀ v ∈ cells5 [(t, s)], v.oneCell' = true := by
  intro v hv; simp [cells5] at hv; rcases hv with rfl | rfl | rfl | rfl | rfl
  · rfl
  · rfl
  · rfl
  · rfl
  · exact hs
def GivesZ (r : Option Tm) (w : World) (e : Ending) (w' : World) : Prop := Below w.heap.size w w' ∧
  ((∃ u s', r = some u ∧ e = .returned (.tuple #[tv u s', .bool true]) ∧ LiesP w' (Own w.heap.size w') u.kids s') ∨ (r = none ∧ e = .returned (.tuple #[tv Tm.zero (.slice none 0 0), .bool false])))
theorem GivesZ.none {w w' : World} {e : Ending} (h : GivesZ none w e w') : e = .returned (.tuple #[tv Tm.zero (.slice none 0 0), .bool false]) ∧ Below w.heap.size w w' := by
  obtain ⟨hb, ⟨u, s', h1, -⟩ | ⟨-, h2⟩⟩ := h
  · cases h1
  · exact ⟨h2, hb⟩
theorem GivesZ.some {u : Tm} {w w' : World} {e : Ending} (h : GivesZ (some u) w e w') : GivesSome u w e w' := by
  obtain ⟨hb, ⟨u', s', h1, h2, h3⟩ | ⟨h1, -⟩⟩ := h
  · cases h1; exact ⟨⟨s', h2, h3⟩, hb⟩
  · cases h1
theorem above3 (N : Nat) : N ≤ N + 3 := by omega
end Go.Proofs.Ytmicgbdcbjajiaa
namespace Go.Proofs.Ytmicgbdcbjajiaa
open Go.RowKit
def Kept (w w' : World) : Prop := Below w.heap.size w w'
theorem kept_start (w : World) : Kept w w := Below.refl _ _
theorem kept_drew {w w1 : World} (h : Kept w w1) : Kept w w1.drew := Below.drew h
theorem kept_call {w w1 w2 : World} (h : Kept w w1) (hb : Below w1.heap.size w1 w2) : Kept w w2 := below_call h hb (Below.size h)
theorem kept_alloc {w w1 : World} (h : Kept w w1) (o : Obj) : Kept w (w1.alloc o) := Below.alloc h (Below.size h) o
theorem kept_lies {w w1 : World} (h : Kept w w1) {l : List Tm} {s : Value} (hl : Lies w l s) : Lies w1 l s := hl.keep h
theorem kept_below {w w1 : World} (h : Kept w w1) : Below w.heap.size w w1 := h
theorem keep_block {B n : Nat} {w w' : World} {o : Obj} (hb : Below B w w') (hn : n < B) (h : w.heap[n]? = some o) : w'.heap[n]? = some o := by rw [hb.block n hn]; exact h
theorem block_lt {w : World} {n : Nat} {o : Obj} (h : w.heap[n]? = some o) : n < w.heap.size := (Array.getElem?_eq_some_iff.1 h).1
theorem kept_boxes1 {w w' : World} {b0 : Nat} {v00 v01 v02 v03 v04 : Value} (h : Kept w w') (H : w.cell? ⟨b0, 0, none⟩ = some v00 ∧ w.cell? ⟨b0, 1, none⟩ = some v01 ∧ w.cell? ⟨b0, 2, none⟩ = some v02 ∧ w.cell? ⟨b0, 3, none⟩ = some v03 ∧ w.cell? ⟨b0, 4, none⟩ = some v04) : Kept w w' ∧ w'.cell? ⟨b0, 0, none⟩ = some v00 ∧ w'.cell? ⟨b0, 1, none⟩ = some v01 ∧ w'.cell? ⟨b0, 2, none⟩ = some v02 ∧ w'.cell? ⟨b0, 3, none⟩ = some v03 ∧ w'.cell? ⟨b0, 4, none⟩ = some v04 := by
  obtain ⟨c00, c01, c02, c03, c04⟩ := H
  exact ⟨h, cell_lat h c00, cell_lat h c01, cell_lat h c02, cell_lat h c03, cell_lat h c04⟩
end Go.Proofs.Ytmicgbdcbjajiaa
namespace Go.Proofs.Ytmicgbdcbjajiaa
open Go
theorem take_at {P : Program} {ops : Array Oper} {Q : Exit → Act → World → Prop} {md : Region.Mode} {S : World → Prop} (i d : Nat) (oi : Oper) {v : Value} {fuel : Nat} {listed : Array Bool} {a : Act} {w : World} (hy : YieldsIf P ops S oi v a)
    (h : wpAnyH P md ops Q S fuel (listed.setIfInBounds i true) (a.put (some d) v) w)
    (hi : ops[i]? = some oi := by rfl) (hd : oi.dst = some d := by rfl)
    (hs : Region.noSelect ops = true := by kernel_rfl) (hf : Region.free md ops listed i = true := by kernel_rfl) (hr : (Region.ready md ops listed).contains i = true := by kernel_rfl)
    (hQ : ∀ c a w, Q (.panic c) (a.put (some d) v) w → Q (.panic c) a w := by exact fun _ _ _ h => h) (hS : S w := by assumption) : wpAnyH P md ops Q S (fuel + 1) listed a w := by
  rw [← hd] at hQ h
  exact wpAnyH_take hi hs hf hr hQ hy hS h
end Go.Proofs.Ytmicgbdcbjajiaa
namespace Go.Proofs.Ytmicgbdcbjajiaa
open Go.RowKit
structure Jd where
  eq : Bool
  u : Tm
  v : Tm
  a : Tm
  i : Int
def Jd.fine (j : Jd) : Prop := j.u.fine ∧ j.v.fine ∧ j.a.fine ∧ I64 j.i
abbrev jv (j : Jd) (su sv sa : Value) : Value := .agg #[.bool j.eq, .int .i64 j.u.k, .int .i64 j.u.i, .int .i64 j.u.j, .int .i64 j.u.n, su, .int .i64 j.v.k, .int .i64 j.v.i, .int .i64 j.v.j, .int .i64 j.v.n, sv, .int .i64 j.a.k, .int .i64 j.a.i, .int .i64 j.a.j, .int .i64 j.a.n, sa, .int .i64 j.i]
def JLies (w : World) (j : Jd) (su sv sa : Value) : Prop := Lies w j.u.kids su ∧ Lies w j.v.kids sv ∧ Lies w j.a.kids sa
theorem JLies.keep {w w' : World} {j : Jd} {su sv sa : Value} (h : JLies w j su sv sa) (hb : Below w.heap.size w w') : JLies w' j su sv sa := ⟨h.1.keep hb, h.2.1.keep hb, h.2.2.keep hb⟩
def JBox (w : World) (b : Nat) (j : Jd) (su sv sa : Value) : Prop := w.cell? ⟨b, 0, none⟩ = some (.bool j.eq) ∧ w.cell? ⟨b, 1, none⟩ = some (.int .i64 j.u.k) ∧ w.cell? ⟨b, 2, none⟩ = some (.int .i64 j.u.i) ∧ w.cell? ⟨b, 3, none⟩ = some (.int .i64 j.u.j) ∧ w.cell? ⟨b, 4, none⟩ = some (.int .i64 j.u.n) ∧ w.cell? ⟨b, 5, none⟩ = some (su) ∧ w.cell? ⟨b, 6, none⟩ = some (.int .i64 j.v.k) ∧ w.cell? ⟨b, 7, none⟩ = some (.int .i64 j.v.i) ∧ w.cell? ⟨b, 8, none⟩ = some (.int .i64 j.v.j) ∧ w.cell? ⟨b, 9, none⟩ = some (.int .i64 j.v.n) ∧ w.cell? ⟨b, 10, none⟩ = some (sv) ∧ w.cell? ⟨b, 11, none⟩ = some (.int .i64 j.a.k) ∧ w.cell? ⟨b, 12, none⟩ = some (.int .i64 j.a.i) ∧ w.cell? ⟨b, 13, none⟩ = some (.int .i64 j.a.j) ∧ w.cell? ⟨b, 14, none⟩ = some (.int .i64 j.a.n) ∧ w.cell? ⟨b, 15, none⟩ = some (sa) ∧ w.cell? ⟨b, 16, none⟩ = some (.int .i64 j.i)
def JNode (w : World) (b o : Nat) (j : Jd) (su sv sa : Value) : Prop := w.cell? ⟨b, o, none⟩ = some (.bool j.eq) ∧ w.cell? ⟨b, o + 1, none⟩ = some (.int .i64 j.u.k) ∧ w.cell? ⟨b, o + 2, none⟩ = some (.int .i64 j.u.i) ∧ w.cell? ⟨b, o + 3, none⟩ = some (.int .i64 j.u.j) ∧ w.cell? ⟨b, o + 4, none⟩ = some (.int .i64 j.u.n) ∧ w.cell? ⟨b, o + 5, none⟩ = some (su) ∧ w.cell? ⟨b, o + 6, none⟩ = some (.int .i64 j.v.k) ∧ w.cell? ⟨b, o + 7, none⟩ = some (.int .i64 j.v.i) ∧ w.cell? ⟨b, o + 8, none⟩ = some (.int .i64 j.v.j) ∧ w.cell? ⟨b, o + 9, none⟩ = some (.int .i64 j.v.n) ∧ w.cell? ⟨b, o + 10, none⟩ = some (sv) ∧ w.cell? ⟨b, o + 11, none⟩ = some (.int .i64 j.a.k) ∧ w.cell? ⟨b, o + 12, none⟩ = some (.int .i64 j.a.i) ∧ w.cell? ⟨b, o + 13, none⟩ = some (.int .i64 j.a.j) ∧ w.cell? ⟨b, o + 14, none⟩ = some (.int .i64 j.a.n) ∧ w.cell? ⟨b, o + 15, none⟩ = some (sa) ∧ w.cell? ⟨b, o + 16, none⟩ = some (.int .i64 j.i)
theorem JBox.keep {w w' : World} {b : Nat} {j : Jd} {su sv sa : Value} (h : JBox w b j su sv sa) (hb : Below w.heap.size w w') : JBox w' b j su sv sa := by
  obtain ⟨x0, x1, x2, x3, x4, x5, x6, x7, x8, x9, x10, x11, x12, x13, x14, x15, x16⟩ := h
  exact ⟨cell_lat hb x0, cell_lat hb x1, cell_lat hb x2, cell_lat hb x3, cell_lat hb x4, cell_lat hb x5, cell_lat hb x6, cell_lat hb x7, cell_lat hb x8, cell_lat hb x9, cell_lat hb x10, cell_lat hb x11, cell_lat hb x12, cell_lat hb x13, cell_lat hb x14, cell_lat hb x15, cell_lat hb x16⟩
theorem JNode.keep {w w' : World} {b o : Nat} {j : Jd} {su sv sa : Value} (h : JNode w b o j su sv sa) (hb : Below w.heap.size w w') : JNode w' b o j su sv sa := by
  obtain ⟨x0, x1, x2, x3, x4, x5, x6, x7, x8, x9, x10, x11, x12, x13, x14, x15, x16⟩ := h
  exact ⟨cell_lat hb x0, cell_lat hb x1, cell_lat hb x2, cell_lat hb x3, cell_lat hb x4, cell_lat hb x5, cell_lat hb x6, cell_lat hb x7, cell_lat hb x8, cell_lat hb x9, cell_lat hb x10, cell_lat hb x11, cell_lat hb x12, cell_lat hb x13, cell_lat hb x14, cell_lat hb x15, cell_lat hb x16⟩
theorem JNode.lt {w : World} {b o : Nat} {j : Jd} {su sv sa : Value} (h : JNode w b o j su sv sa) : b < w.heap.size := World.block_lt_of_cell? _ _ h.1
theorem JNode.same {w w' : World} {b o : Nat} {j : Jd} {su sv sa : Value} (h : JNode w b o j su sv sa) (hb : w'.heap[b]? = w.heap[b]?) : JNode w' b o j su sv sa := by
  have hc : ∀ q, w'.cell? ⟨b, q, none⟩ = w.cell? ⟨b, q, none⟩ := fun q => World.cell?_of_block (a := ⟨b, q, none⟩) hb
  obtain ⟨x0, x1, x2, x3, x4, x5, x6, x7, x8, x9, x10, x11, x12, x13, x14, x15, x16⟩ := h
  exact ⟨(hc _).trans x0, (hc _).trans x1, (hc _).trans x2, (hc _).trans x3, (hc _).trans x4, (hc _).trans x5, (hc _).trans x6, (hc _).trans x7, (hc _).trans x8, (hc _).trans x9, (hc _).trans x10, (hc _).trans x11, (hc _).trans x12, (hc _).trans x13, (hc _).trans x14, (hc _).trans x15, (hc _).trans x16⟩
end Go.Proofs.Ytmicgbdcbjajiaa
namespace Go.Proofs.Ytmicgbdcbjajiaa
open Go.RowKit
instance instJd : Inhabited (Jd × (Value × Value × Value)) := ⟨(⟨false, .mk 0 0 0 0 [], .mk 0 0 0 0 [], .mk 0 0 0 0 [], 0⟩, (.nilIface, .nilIface, .nilIface))⟩
structure LiesJ (w : World) (l : List Jd) (s : Value) : Prop where
  out : ∃ (a : Option Addr) (cap : Nat) (S : Nat → Value × Value × Value), s = .slice a l.length cap ∧ l.length ≤ cap ∧ cap ≤ maxLen ∧ (∀ x ∈ l, x.fine) ∧
    (∀ i (h : i < l.length), ∃ b o, a = some ⟨b, o, none⟩ ∧ JNode w b (o + i * 17) l[i] (S i).1 (S i).2.1 (S i).2.2) ∧ (∀ i (h : i < l.length), JLies w l[i] (S i).1 (S i).2.1 (S i).2.2)
theorem LiesJ.keep {w w' : World} {l : List Jd} {s : Value} (h : LiesJ w l s) (hb : Below w.heap.size w w') : LiesJ w' l s := by
  obtain ⟨a, cap, S, hs, hc, hm, hf, hn, hk⟩ := h.out
  exact ⟨a, cap, S, hs, hc, hm, hf, fun i hi => by obtain ⟨b, o, ha, hx⟩ := hn i hi; exact ⟨b, o, ha, hx.keep hb⟩, fun i hi => (hk i hi).keep hb⟩
def cells17 : List (Jd × (Value × Value × Value)) → List Value
  | [] => []
  | (j, (su, sv, sa)) :: r => .bool j.eq :: .int .i64 j.u.k :: .int .i64 j.u.i :: .int .i64 j.u.j :: .int .i64 j.u.n :: su :: .int .i64 j.v.k :: .int .i64 j.v.i :: .int .i64 j.v.j :: .int .i64 j.v.n :: sv :: .int .i64 j.a.k :: .int .i64 j.a.i :: .int .i64 j.a.j :: .int .i64 j.a.n :: sa :: .int .i64 j.i :: cells17 r
structure MadeJ (B : Nat) (w : World) (v : Value) (ps : List (Jd × (Value × Value × Value))) : Prop where
  own : w.ownsRow B 29 17 v ps.length (cells17 ps)
  fine : ∀ p ∈ ps, p.1.fine
  kids : ∀ p ∈ ps, LiesP w (fun b => Own B w b ∧ v.ownBlock ≠ some b) p.1.u.kids p.2.1 ∧ LiesP w (fun b => Own B w b ∧ v.ownBlock ≠ some b) p.1.v.kids p.2.2.1 ∧ LiesP w (fun b => Own B w b ∧ v.ownBlock ≠ some b) p.1.a.kids p.2.2.2
end Go.Proofs.Ytmicgbdcbjajiaa
namespace Go.Proofs.Ytmicgbdcbjajiaa
open Go.RowKit
inductive LiesQ (w : World) (P : Nat → Prop) : List Tm → Value → Prop
  | mk (l : List Tm) (a : Option Addr) (cap : Nat) (S : Nat → Value) (hc : l.length ≤ cap) (hm : cap ≤ maxLen) (hf : ∀ x ∈ l, x.fine)
      (hn : ∀ i (h : i < l.length), ∃ b o, a = some ⟨b, o, none⟩ ∧ P b ∧ Node w b (o + i * 5) l[i] (S i)) (hk : ∀ i (h : i < l.length), LiesQ w P (l[i]).kids (S i)) : LiesQ w P l (.slice a l.length cap)
theorem LiesQ.lies {w : World} {P : Nat → Prop} {l : List Tm} {s : Value} (h : LiesQ w P l s) : Lies w l s := by
  induction h with
  | mk l a cap S hc hm hf hn hk ih => exact .mk l a cap S hc hm hf (fun i hi => by obtain ⟨b, o, ha, _, hx⟩ := hn i hi; exact ⟨b, o, ha, hx⟩) ih
theorem Lies.q {w : World} {l : List Tm} {s : Value} (h : Lies w l s) : LiesQ w (fun b => b < w.heap.size) l s := by
  induction h with
  | mk l a cap S hc hm hf hn hk ih => exact .mk l a cap S hc hm hf (fun i hi => by obtain ⟨b, o, ha, hx⟩ := hn i hi; exact ⟨b, o, ha, hx.lt, hx⟩) ih
theorem LiesQ.keep {w w' : World} {P Q : Nat → Prop} {l : List Tm} {s : Value} (h : LiesQ w P l s) (hb : ∀ b, P b → b < w.heap.size → w'.heap[b]? = w.heap[b]?) (hq : ∀ b, P b → b < w.heap.size → Q b) : LiesQ w' Q l s := by
  induction h with
  | mk l a cap S hc hm hf hn hk ih =>
    exact .mk l a cap S hc hm hf (fun i hi => by obtain ⟨b, o, ha, hp, hx⟩ := hn i hi; exact ⟨b, o, ha, hq b hp hx.lt, hx.same (hb b hp hx.lt)⟩) ih
theorem LiesQ.later {w w' : World} {P : Nat → Prop} {l : List Tm} {s : Value} (h : LiesQ w P l s) (hb : Below w.heap.size w w') : LiesQ w' P l s := h.keep (fun b _ hlt => hb.block b hlt) (fun _ hp _ => hp)
theorem LiesQ.wide {w : World} {P Q : Nat → Prop} {l : List Tm} {s : Value} (h : LiesQ w P l s) (hq : ∀ b, P b → Q b) : LiesQ w Q l s := h.keep (fun _ _ _ => rfl) (fun b hp _ => hq b hp)
theorem LiesQ.out {w : World} {P : Nat → Prop} {l : List Tm} {s : Value} (h : LiesQ w P l s) : ∃ (a : Option Addr) (cap : Nat) (S : Nat → Value), s = .slice a l.length cap ∧ l.length ≤ cap ∧ cap ≤ maxLen ∧ (∀ x ∈ l, x.fine) ∧
    (∀ i (h : i < l.length), ∃ b o, a = some ⟨b, o, none⟩ ∧ P b ∧ Node w b (o + i * 5) l[i] (S i)) ∧ (∀ i (h : i < l.length), LiesQ w P (l[i]).kids (S i)) := by
  cases h with
  | mk l a cap S hc hm hf hn hk => exact ⟨a, cap, S, rfl, hc, hm, hf, hn, hk⟩
theorem liesQ_nil (w : World) (P : Nat → Prop) : LiesQ w P [] (.slice none 0 0) := .mk [] none 0 (fun _ => .nilIface) (Nat.le_refl _) (by decide) (fun _ h => by cases h) (fun _ h => by cases h) (fun _ h => by cases h)
theorem LiesP.q {w : World} {P : Nat → Prop} {l : List Tm} {s : Value} (h : LiesP w P l s) : LiesQ w P l s := by
  induction h with
  | mk l a cap S hc hm hf hn hk ih => exact .mk l a cap S hc hm hf (fun i hi => by obtain ⟨b, ha, hp, hx⟩ := hn i hi; exact ⟨b, 0, ha, hp, by rw [Nat.zero_add]; exact hx⟩) ih
def Far (E N b : Nat) : Prop := b < E ∨ N ≤ b
structure MadeQ (E N B : Nat) (w : World) (v : Value) (ps : List (Tm × Value)) : Prop where
  own : w.ownsRow B 27 5 v ps.length (cells5 ps)
  fine : ∀ p ∈ ps, p.1.fine
  kids : ∀ p ∈ ps, LiesQ w (fun b => Far E N b ∧ v.ownBlock ≠ some b) p.1.kids p.2
end Go.Proofs.Ytmicgbdcbjajiaa
namespace Go.Proofs.Ytmicgbdcbjajiaa.Se
open Go Go.RowKit
inductive D15 where
  | tms (l : List Tm)
  | jds (l : List Jd)
  | ents (l : List En)
abbrev F15 := FL D15
def intOf : F15 → Option Int
  | .int n | .oint n => some n
  | _ => none
def boolOf : F15 → Option Bool
  | .bool n | .obool n => some n
  | _ => none
def tmsOf : F15 → Option (List Tm)
  | .nil => some []
  | .dat (.tms l) => some l
  | _ => none
def entsOf : F15 → Option (List En)
  | .nil => some []
  | .dat (.ents l) => some l
  | _ => none
def tmOf : List F15 → Option Tm
  | [k, i, j, n, l] => match intOf k, intOf i, intOf j, intOf n, tmsOf l with
    | some k, some i, some j, some n, some l => some (.mk k i j n l)
    | _, _, _, _, _ => none
  | _ => none
def jdOf : List F15 → Option Jd
  | [e, a1, a2, a3, a4, a5, b1, b2, b3, b4, b5, c1, c2, c3, c4, c5, i] => match boolOf e, tmOf [a1, a2, a3, a4, a5], tmOf [b1, b2, b3, b4, b5], tmOf [c1, c2, c3, c4, c5], intOf i with
    | some e, some u, some v, some a, some i => some ⟨e, u, v, a, i⟩
    | _, _, _, _, _ => none
  | _ => none
def tmF (t : Tm) : List F15 := [.oint t.k, .oint t.i, .oint t.j, .oint t.n, .dat (.tms t.kids)]
def jdF (j : Jd) : List F15 := .bool j.eq :: (tmF j.u ++ (tmF j.v ++ (tmF j.a ++ [.oint j.i])))
def packT : List F15 → Option (List Tm)
  | [] => some []
  | k :: i :: j :: n :: l :: r => match tmOf [k, i, j, n, l], packT r with
    | some t, some s => some (t :: s)
    | _, _ => none
  | _ => none
def re (t : Tm) : Tm := .mk t.k t.i t.j t.n t.kids
theorem re_eq (t : Tm) : re t = t := t.eta
structure LiesJQ (w : World) (P : Nat → Prop) (l : List Jd) (v : Value) : Prop where
  out : ∃ (a : Option Addr) (cap : Nat) (S : Nat → Value × Value × Value), v = .slice a l.length cap ∧ l.length ≤ cap ∧ cap ≤ maxLen ∧ (∀ x ∈ l, x.fine) ∧
    ∀ i (h : i < l.length), (∃ b o, a = some ⟨b, o, none⟩ ∧ P b ∧ JNode w b (o + i * 17) l[i] (S i).1 (S i).2.1 (S i).2.2) ∧ LiesQ w P (l[i]).u.kids (S i).1 ∧ LiesQ w P (l[i]).v.kids (S i).2.1 ∧ LiesQ w P (l[i]).a.kids (S i).2.2
structure LiesEQ (w : World) (P : Nat → Prop) (l : List En) (v : Value) : Prop where
  out : ∃ (a : Option Addr) (cap : Nat) (S : Nat → Value), v = .slice a l.length cap ∧ l.length ≤ cap ∧ cap ≤ maxLen ∧ (∀ x ∈ l, x.fine) ∧
    ∀ i (h : i < l.length), (∃ b o, a = some ⟨b, o, none⟩ ∧ P b ∧ ENode w b (o + i * 6) l[i] (S i)) ∧ LiesQ w P (l[i]).a.kids (S i)
def den15 (w : World) (P : Nat → Prop) : D15 → Value → Prop
  | .tms l, v => LiesQ w P l v
  | .jds l, v => LiesJQ w P l v
  | .ents l, v => LiesEQ w P l v
def rowOf : D15 → List F15
  | .tms l => l.flatMap tmF
  | .jds l => l.flatMap jdF
  | .ents _ => []
instance : Dat D15 where
  den := den15
  len
    | .tms l => l.length
    | .jds l => l.length
    | .ents l => l.length
  lit
    | .jds _ => true
    | _ => false
  peek d o n := let c := ((rowOf d).drop o).take n; bif Nat.beq c.length n && Nat.blt 0 n then some c else none
  pack T n ls := bif Nat.beq T 27 && Nat.beq ls.length (5 * n) then (packT ls).map .tms else none
theorem F2.drop {α β : Type} {R : α → β → Prop} : ∀ (n : Nat) {l : List α} {m : List β}, F2 R l m → F2 R (l.drop n) (m.drop n)
  | 0, _, _, h => h
  | _ + 1, [], [], _ => trivial
  | n + 1, _ :: _, _ :: _, h => F2.drop n h.2
theorem F2.take {α β : Type} {R : α → β → Prop} : ∀ (n : Nat) {l : List α} {m : List β}, F2 R l m → F2 R (l.take n) (m.take n)
  | 0, l, m, _ => by cases l <;> cases m <;> trivial
  | _ + 1, [], [], _ => trivial
  | n + 1, _ :: _, _ :: _, h => ⟨h.1, F2.take n h.2⟩
theorem flat_get {W : Nat} (hW : 0 < W) : ∀ (L : List (List Value)) (k : Nat) {x : Value}, (∀ r ∈ L, r.length = W) → L.flatten[k]? = some x → ∃ i q r, k = i * W + q ∧ q < W ∧ L[i]? = some r ∧ r[q]? = some x
  | [], k, x, _, h => by simp at h
  | r :: L, k, x, hL, h => by
    have hr := hL r (List.mem_cons_self ..)
    rw [List.flatten_cons] at h
    rcases Nat.lt_or_ge k W with hk | hk
    · rw [List.getElem?_append_left (by omega)] at h
      exact ⟨0, k, r, by omega, hk, rfl, h⟩
    · rw [List.getElem?_append_right (by omega), hr] at h
      obtain ⟨i, q, r', e1, e2, e3, e4⟩ := flat_get hW L (k - W) (fun r hr => hL r (List.mem_cons_of_mem _ hr)) h
      exact ⟨i + 1, q, r', by rw [Nat.add_mul]; omega, e2, by simpa using e3, e4⟩
theorem flat_F2 {α β γ : Type} {R : α → β → Prop} {f : γ → List α} {g : Nat → List β} : ∀ (l : List γ) (s : Nat), (∀ i (h : i < l.length), F2 R (f l[i]) (g (s + i))) → F2 R (l.flatMap f) ((List.range' s l.length).map g).flatten
  | [], _, _ => trivial
  | x :: l, s, h => by
    rw [List.flatMap_cons, List.length_cons, List.range'_succ, List.map_cons, List.flatten_cons]
    refine F2.append (by exact h 0 (by simp)) (flat_F2 l (s + 1) fun i hi => ?_)
    have := h (i + 1) (by simpa using hi)
    rw [show s + 1 + i = s + (i + 1) by omega]
    simpa using this
theorem row_peek {γ : Type} {w : World} {P : Nat → Prop} {l : List γ} {f : γ → List F15} {W b o0 o n : Nat} (hW : 0 < W) {g : Nat → List Value} (hg : ∀ i, i < l.length → (g i).length = W) (h1 : ∀ i (h : i < l.length), F2 (FLDen w P) (f l[i]) (g i))
    (h2 : ∀ i, i < l.length → ∀ q x, (g i)[q]? = some x → w.cell? ⟨b, o0 + i * W + q, none⟩ = some x) :
    ∃ vs, F2 (FLDen w P) (((l.flatMap f).drop o).take n) vs ∧ ∀ i x, vs[i]? = some x → w.cell? ⟨b, o0 + (o + i), none⟩ = some x := by
  have hF : F2 (FLDen w P) (l.flatMap f) ((List.range' 0 l.length).map g).flatten := flat_F2 l 0 (fun i hi => by rw [Nat.zero_add]; exact h1 i hi)
  refine ⟨_, F2.take n (F2.drop o hF), fun i x hx => ?_⟩
  have hlt : i < n := by
    have := (List.getElem?_eq_some_iff.1 hx).1
    rw [List.length_take] at this
    omega
  rw [List.getElem?_take_of_lt hlt, List.getElem?_drop] at hx
  obtain ⟨j, q, r, e1, e2, e3, e4⟩ := flat_get hW _ (o + i) (fun r hr => by
    obtain ⟨j, hj, rfl⟩ := List.mem_map.1 hr
    exact hg j (by simp at hj; omega)) hx
  rw [List.getElem?_map] at e3
  have hj : j < l.length := by
    refine Classical.byContradiction fun hn => ?_
    have : (List.range' 0 l.length)[j]? = none := by simp; omega
    rw [this] at e3
    cases e3
  have : (List.range' 0 l.length)[j]? = some j := by simp [hj]
  rw [this] at e3
  obtain rfl := Option.some.inj e3
  have := h2 j hj q x e4
  rw [← this]
  congr 2
  omega
theorem tmF_den {w : World} {P : Nat → Prop} {t : Tm} {s : Value} (hf : t.fine) (hk : LiesQ w P t.kids s) : F2 (FLDen w P) (tmF t) [.int .i64 t.k, .int .i64 t.i, .int .i64 t.j, .int .i64 t.n, s] :=
  ⟨⟨rfl, hf.1⟩, ⟨rfl, hf.2.1⟩, ⟨rfl, hf.2.2.1⟩, ⟨rfl, hf.2.2.2⟩, hk, trivial⟩
theorem jdF_den {w : World} {P : Nat → Prop} {j : Jd} {su sv sa : Value} (hf : j.fine) (hu : LiesQ w P j.u.kids su) (hv : LiesQ w P j.v.kids sv) (ha : LiesQ w P j.a.kids sa) : F2 (FLDen w P) (jdF j) [.bool j.eq, .int .i64 j.u.k, .int .i64 j.u.i, .int .i64 j.u.j, .int .i64 j.u.n, su, .int .i64 j.v.k, .int .i64 j.v.i, .int .i64 j.v.j, .int .i64 j.v.n, sv, .int .i64 j.a.k, .int .i64 j.a.i, .int .i64 j.a.j, .int .i64 j.a.n, sa, .int .i64 j.i] :=
  ⟨rfl, ⟨rfl, hf.1.1⟩, ⟨rfl, hf.1.2.1⟩, ⟨rfl, hf.1.2.2.1⟩, ⟨rfl, hf.1.2.2.2⟩, hu, ⟨rfl, hf.2.1.1⟩, ⟨rfl, hf.2.1.2.1⟩, ⟨rfl, hf.2.1.2.2.1⟩, ⟨rfl, hf.2.1.2.2.2⟩, hv, ⟨rfl, hf.2.2.1.1⟩, ⟨rfl, hf.2.2.1.2.1⟩, ⟨rfl, hf.2.2.1.2.2.1⟩, ⟨rfl, hf.2.2.1.2.2.2⟩, ha, ⟨rfl, hf.2.2.2⟩, trivial⟩
theorem tmOf_den {w : World} {P : Nat → Prop} {l : List F15} {vs : List Value} {t : Tm} (h : tmOf l = some t) (hv : F2 (FLDen w P) l vs) : ∃ s, vs = [.int .i64 t.k, .int .i64 t.i, .int .i64 t.j, .int .i64 t.n, s] ∧ t.fine ∧ LiesQ w P t.kids s := by
  have hi : ∀ {x : F15} {v : Value} {n : Int}, intOf x = some n → FLDen w P x v → v = .int .i64 n ∧ I64 n := by
    intro x v n h hd
    cases x <;> simp only [intOf] at h <;> first | (cases h; done) | (obtain rfl := Option.some.inj h; exact hd)
  have hk : ∀ {x : F15} {v : Value} {l : List Tm}, tmsOf x = some l → FLDen w P x v → LiesQ w P l v := by
    intro x v l h hd
    cases x with
    | nil =>
      obtain rfl := Option.some.inj h
      obtain rfl : v = .slice none 0 0 := hd
      exact liesQ_nil w P
    | dat d =>
      cases d <;> simp only [tmsOf] at h <;> first | (cases h; done) | (obtain rfl := Option.some.inj h; exact hd)
    | _ => cases h
  unfold tmOf at h
  split at h
  · rename_i k i j n l
    match vs, hv with
    | [v1, v2, v3, v4, v5], hv =>
      obtain ⟨d1, d2, d3, d4, d5, -⟩ := hv
      split at h
      · rename_i k' i' j' n' l' e1 e2 e3 e4 e5
        obtain rfl := Option.some.inj h
        obtain ⟨rfl, f1⟩ := hi e1 d1
        obtain ⟨rfl, f2⟩ := hi e2 d2
        obtain ⟨rfl, f3⟩ := hi e3 d3
        obtain ⟨rfl, f4⟩ := hi e4 d4
        exact ⟨v5, rfl, ⟨f1, f2, f3, f4⟩, hk e5 d5⟩
      · cases h
  · cases h
theorem packT_den {w : World} {P : Nat → Prop} : ∀ {ls : List F15} {vs : List Value} {l : List Tm}, packT ls = some l → F2 (FLDen w P) ls vs → ls.length = 5 * l.length ∧ ∀ i (h : i < l.length), (l[i]).fine ∧ ∃ s, vs[i * 5]? = some (.int .i64 (l[i]).k) ∧ vs[i * 5 + 1]? = some (.int .i64 (l[i]).i) ∧ vs[i * 5 + 2]? = some (.int .i64 (l[i]).j) ∧ vs[i * 5 + 3]? = some (.int .i64 (l[i]).n) ∧ vs[i * 5 + 4]? = some s ∧ LiesQ w P (l[i]).kids s
  | [], vs, l, h, _ => by cases h; exact ⟨rfl, fun i h => absurd h (Nat.not_lt_zero _)⟩
  | k :: i :: j :: n :: x :: r, vs, l, h, hv => by
    simp only [packT] at h
    split at h
    · rename_i t s e1 e2
      cases h
      match vs, hv with
      | v1 :: v2 :: v3 :: v4 :: v5 :: vr, hv =>
        obtain ⟨d1, d2, d3, d4, d5, dr⟩ := hv
        obtain ⟨h1, h2⟩ := packT_den e2 dr
        obtain ⟨s5, he, hf, hk⟩ := tmOf_den (vs := [v1, v2, v3, v4, v5]) e1 ⟨d1, d2, d3, d4, d5, trivial⟩
        obtain ⟨rfl, rfl, rfl, rfl, rfl, -⟩ : v1 = _ ∧ v2 = _ ∧ v3 = _ ∧ v4 = _ ∧ v5 = _ ∧ True := by simpa using he
        refine ⟨by simp only [List.length_cons]; omega, fun q hq => ?_⟩
        cases q with
        | zero => exact ⟨hf, v5, rfl, rfl, rfl, rfl, rfl, hk⟩
        | succ q =>
          have := h2 q (by simpa using hq)
          simp only [Nat.add_mul, Nat.one_mul, List.getElem_cons_succ]
          exact this
    · cases h
  | [_], _, _, h, _ => by cases h
  | [_, _], _, _, h, _ => by cases h
  | [_, _, _], _, _, h, _ => by cases h
  | [_, _, _, _], _, _, h, _ => by cases h
end Go.Proofs.Ytmicgbdcbjajiaa.Se
namespace Go.Proofs.Ytmicgbdcbjajiaa.Se
open Go Go.RowKit
theorem liesJQ_keep {w w' : World} {P Q : Nat → Prop} {l : List Jd} {v : Value} (h : LiesJQ w P l v) (hb : ∀ b, P b → b < w.heap.size → w'.heap[b]? = w.heap[b]?) (hq : ∀ b, P b → b < w.heap.size → Q b) : LiesJQ w' Q l v := by
  obtain ⟨a, cap, S, rfl, hc, hm, hf, hn⟩ := h.out
  refine ⟨a, cap, S, rfl, hc, hm, hf, fun i hi => ?_⟩
  obtain ⟨⟨b, o, h1, h2, h3⟩, h4, h5, h6⟩ := hn i hi
  exact ⟨⟨b, o, h1, hq b h2 h3.lt, h3.same (hb b h2 h3.lt)⟩, h4.keep hb hq, h5.keep hb hq, h6.keep hb hq⟩
theorem liesEQ_keep {w w' : World} {P Q : Nat → Prop} {l : List En} {v : Value} (h : LiesEQ w P l v) (hb : ∀ b, P b → b < w.heap.size → w'.heap[b]? = w.heap[b]?) (hq : ∀ b, P b → b < w.heap.size → Q b) : LiesEQ w' Q l v := by
  obtain ⟨a, cap, S, rfl, hc, hm, hf, hn⟩ := h.out
  refine ⟨a, cap, S, rfl, hc, hm, hf, fun i hi => ?_⟩
  obtain ⟨⟨b, o, h1, h2, h3⟩, h4⟩ := hn i hi
  exact ⟨⟨b, o, h1, hq b h2 h3.lt, h3.same (hb b h2 h3.lt)⟩, h4.keep hb hq⟩
theorem liesJQ_lies {w : World} {P : Nat → Prop} {l : List Jd} {v : Value} (h : LiesJQ w P l v) : LiesJ w l v := by
  obtain ⟨a, cap, S, rfl, hc, hm, hf, hn⟩ := h.out
  exact ⟨a, cap, S, rfl, hc, hm, hf, fun i hi => by obtain ⟨⟨b, o, h1, -, h3⟩, -⟩ := hn i hi; exact ⟨b, o, h1, h3⟩, fun i hi => by obtain ⟨-, h4, h5, h6⟩ := hn i hi; exact ⟨h4.lies, h5.lies, h6.lies⟩⟩
theorem liesEQ_lies {w : World} {P : Nat → Prop} {l : List En} {v : Value} (h : LiesEQ w P l v) : LiesE w l v := by
  obtain ⟨a, cap, S, rfl, hc, hm, hf, hn⟩ := h.out
  exact ⟨a, cap, S, rfl, hc, hm, hf, fun i hi => by obtain ⟨⟨b, o, h1, -, h3⟩, -⟩ := hn i hi; exact ⟨b, o, h1, h3⟩, fun i hi => (hn i hi).2.lies⟩
theorem liesJ_q {w : World} {l : List Jd} {v : Value} (h : LiesJ w l v) : LiesJQ w (fun b => b < w.heap.size) l v := by
  obtain ⟨a, cap, S, rfl, hc, hm, hf, hn, hk⟩ := h.out
  exact ⟨a, cap, S, rfl, hc, hm, hf, fun i hi => ⟨by obtain ⟨b, o, h1, h3⟩ := hn i hi; exact ⟨b, o, h1, h3.lt, h3⟩, (hk i hi).1.q, (hk i hi).2.1.q, (hk i hi).2.2.q⟩⟩
theorem liesE_q {w : World} {l : List En} {v : Value} (h : LiesE w l v) : LiesEQ w (fun b => b < w.heap.size) l v := by
  obtain ⟨a, cap, S, rfl, hc, hm, hf, hn, hk⟩ := h.out
  exact ⟨a, cap, S, rfl, hc, hm, hf, fun i hi => ⟨by obtain ⟨b, o, h1, h3⟩ := hn i hi; exact ⟨b, o, h1, h3.lt, h3⟩, (hk i hi).q⟩⟩
theorem len_ne {α β : Type} {f : α → List β} {l : List α} {o n : Nat} (hn : 0 < n) (h : ((l.flatMap f).drop o |>.take n).length = n) : 0 < l.length := by
  cases l with
  | nil => simp at h; omega
  | cons a r => simp
instance : DatOk D15 where
  keep := by
    intro w w' P Q d v h hb hq
    cases d with
    | tms l => exact LiesQ.keep h hb hq
    | jds l => exact liesJQ_keep h hb hq
    | ents l => exact liesEQ_keep h hb hq
  slice := by
    intro w P d v h
    cases d with
    | tms l =>
      obtain ⟨a, cap, S, e, hc, hm, hf, hn, hk⟩ := LiesQ.out h
      exact ⟨a, cap, e, hc, hm, fun h0 => by obtain ⟨b, o, h1, -⟩ := hn 0 h0; exact ⟨b, o, h1⟩⟩
    | jds l =>
      obtain ⟨a, cap, S, e, hc, hm, hf, hn⟩ := LiesJQ.out h
      exact ⟨a, cap, e, hc, hm, fun h0 => by obtain ⟨⟨b, o, h1, -⟩, -⟩ := hn 0 h0; exact ⟨b, o, h1⟩⟩
    | ents l =>
      obtain ⟨a, cap, S, e, hc, hm, hf, hn⟩ := LiesEQ.out h
      exact ⟨a, cap, e, hc, hm, fun h0 => by obtain ⟨⟨b, o, h1, -⟩, -⟩ := hn 0 h0; exact ⟨b, o, h1⟩⟩
  peek := by
    intro w P d v o n ls h hp
    change (bif Nat.beq (((rowOf d).drop o).take n).length n && Nat.blt 0 n then some (((rowOf d).drop o).take n) else none) = some ls at hp
    cases hb : (Nat.beq (((rowOf d).drop o).take n).length n && Nat.blt 0 n) with
    | false => rw [hb] at hp; cases hp
    | true =>
      rw [hb] at hp
      obtain rfl := Option.some.inj hp
      obtain ⟨hb1, hb2⟩ := Bool.and_eq_true_iff.1 hb
      have hb1 := Nat.eq_of_beq_eq_true hb1
      have hb2 : 0 < n := Nat.le_of_ble_eq_true hb2
      cases d with
      | tms l =>
        obtain ⟨a, cap, S, rfl, hc, hm, hf, hn, hk⟩ := LiesQ.out h
        obtain ⟨b, o0, rfl, -⟩ := hn 0 (len_ne hb2 hb1)
        obtain ⟨vs, h1, h2⟩ := row_peek (w := w) (P := P) (l := l) (f := tmF) (W := 5) (b := b) (o0 := o0) (o := o) (n := n) (by omega) (g := fun i => match l[i]? with | some t => [.int .i64 t.k, .int .i64 t.i, .int .i64 t.j, .int .i64 t.n, S i] | none => []) (fun i hi => by simp [hi]) (fun i hi => by
          simp only [List.getElem?_eq_getElem hi]
          exact tmF_den (hf _ (List.getElem_mem hi)) (hk i hi)) (fun i hi q x hx => by
          simp only [List.getElem?_eq_getElem hi] at hx
          obtain ⟨b', o', e1, -, hN⟩ := hn i hi
          cases e1
          match q, hx with
          | 0, hx => cases hx; exact hN.c0
          | 1, hx => cases hx; exact hN.c1
          | 2, hx => cases hx; exact hN.c2
          | 3, hx => cases hx; exact hN.c3
          | 4, hx => cases hx; exact hN.c4)
        exact ⟨b, o0, _, cap, vs, rfl, h1, hb1, h2⟩
      | jds l =>
        obtain ⟨a, cap, S, rfl, hc, hm, hf, hn⟩ := LiesJQ.out h
        obtain ⟨⟨b, o0, rfl, -⟩, -⟩ := hn 0 (len_ne hb2 hb1)
        obtain ⟨vs, h1, h2⟩ := row_peek (w := w) (P := P) (l := l) (f := jdF) (W := 17) (b := b) (o0 := o0) (o := o) (n := n) (by omega) (g := fun i => match l[i]? with | some j => [.bool j.eq, .int .i64 j.u.k, .int .i64 j.u.i, .int .i64 j.u.j, .int .i64 j.u.n, (S i).1, .int .i64 j.v.k, .int .i64 j.v.i, .int .i64 j.v.j, .int .i64 j.v.n, (S i).2.1, .int .i64 j.a.k, .int .i64 j.a.i, .int .i64 j.a.j, .int .i64 j.a.n, (S i).2.2, .int .i64 j.i] | none => []) (fun i hi => by simp [hi]) (fun i hi => by
          simp only [List.getElem?_eq_getElem hi]
          obtain ⟨-, k1, k2, k3⟩ := hn i hi
          exact jdF_den (hf _ (List.getElem_mem hi)) k1 k2 k3) (fun i hi q x hx => by
          simp only [List.getElem?_eq_getElem hi] at hx
          obtain ⟨⟨b', o', e1, -, hN⟩, -⟩ := hn i hi
          cases e1
          obtain ⟨c0, c1, c2, c3, c4, c5, c6, c7, c8, c9, c10, c11, c12, c13, c14, c15, c16⟩ := hN
          match q, hx with
          | 0, hx => cases hx; exact c0
          | 1, hx => cases hx; exact c1
          | 2, hx => cases hx; exact c2
          | 3, hx => cases hx; exact c3
          | 4, hx => cases hx; exact c4
          | 5, hx => cases hx; exact c5
          | 6, hx => cases hx; exact c6
          | 7, hx => cases hx; exact c7
          | 8, hx => cases hx; exact c8
          | 9, hx => cases hx; exact c9
          | 10, hx => cases hx; exact c10
          | 11, hx => cases hx; exact c11
          | 12, hx => cases hx; exact c12
          | 13, hx => cases hx; exact c13
          | 14, hx => cases hx; exact c14
          | 15, hx => cases hx; exact c15
          | 16, hx => cases hx; exact c16)
        exact ⟨b, o0, _, cap, vs, rfl, h1, hb1, h2⟩
      | ents l =>
        simp [rowOf] at hb1
        omega
  pack := by
    intro w P T n ls vs d b o cap hp hF hc hP hn hm
    change (bif Nat.beq T 27 && Nat.beq ls.length (5 * n) then (packT ls).map D15.tms else none) = some d at hp
    cases hb : (Nat.beq T 27 && Nat.beq ls.length (5 * n)) with
    | false => rw [hb] at hp; cases hp
    | true =>
      rw [hb] at hp
      obtain ⟨-, hb2⟩ := Bool.and_eq_true_iff.1 hb
      have hb2 := Nat.eq_of_beq_eq_true hb2
      simp only [cond_true] at hp
      cases hq : packT ls with
      | none => rw [hq] at hp; cases hp
      | some l =>
        rw [hq] at hp
        obtain rfl := Option.some.inj hp
        obtain ⟨h1, h2⟩ := packT_den hq hF
        have hl : l.length = n := by omega
        subst hl
        refine LiesQ.mk l (some ⟨b, o, none⟩) cap (fun i => (vs[i * 5 + 4]?).getD undef) hn hm (fun x hx => ?_) (fun i hi => ?_) (fun i hi => ?_)
        · obtain ⟨i, hi, rfl⟩ := List.getElem_of_mem hx
          exact (h2 i hi).1
        · obtain ⟨-, s, e0, e1, e2, e3, e4, -⟩ := h2 i hi
          refine ⟨b, o, rfl, hP, ?_, ?_, ?_, ?_, ?_⟩
          · exact hc _ _ e0
          · exact hc _ _ e1
          · exact hc _ _ e2
          · exact hc _ _ e3
          · rw [e4]; exact hc _ _ e4
        · obtain ⟨-, s, e0, e1, e2, e3, e4, hk⟩ := h2 i hi
          simp only [e4, Option.getD_some]
          exact hk
end Go.Proofs.Ytmicgbdcbjajiaa.Se
namespace Go.Proofs.Ytmicgbdcbjajiaa
open Go.RowKit
structure LiesI (w : World) (l : List Int) (s : Value) : Prop where
  out : ∃ (a : Option Addr) (cap : Nat), s = .slice a l.length cap ∧ l.length ≤ cap ∧ cap ≤ maxLen ∧ ∀ i (h : i < l.length), ∃ b o, a = some ⟨b, o, none⟩ ∧ w.cell? ⟨b, o + i, none⟩ = some (.int .i64 l[i])
theorem LiesI.keep {w w' : World} {l : List Int} {s : Value} (h : LiesI w l s) (hb : Below w.heap.size w w') : LiesI w' l s := by
  obtain ⟨a, cap, hs, hc, hm, hn⟩ := h.out
  refine ⟨a, cap, hs, hc, hm, fun i hi => ?_⟩
  obtain ⟨b, o, ha, hx⟩ := hn i hi
  exact ⟨b, o, ha, (hb.cell (World.block_lt_of_cell? _ _ hx)).trans hx⟩
end Go.Proofs.Ytmicgbdcbjajiaa
namespace Go.Proofs.Ytmicgbdcbjajiaa
theorem liftB_good {t : Tm} {k c : Int} (hk : 0 ≤ k) (hc : 0 ≤ c) (hr : t.rightB = true) : t.liftB k c = (t.each (liftF k c) 0).getD .zero := by
  unfold Tm.liftB; rw [if_neg (by rw [hr]; simp; omega)]
theorem size_pos (t : Tm) : 1 ≤ t.size := by rw [t.size_eq]; omega
theorem liftB_size (t : Tm) (k c : Int) : (t.liftB k c).size ≤ t.size := by
  unfold Tm.liftB
  split
  · have := size_pos t; simpa [Tm.zero, Tm.size, sizes] using this
  · rename_i h
    have hk : 0 ≤ k := by omega
    have hr : t.rightB = true := by cases hr : t.rightB with
      | true => rfl
      | false => exact absurd (Or.inr (Or.inr hr)) h
    cases hx : t.each (liftF k c) 0 with
    | none => have := size_pos t; simpa [Tm.zero, Tm.size, sizes] using this
    | some u => exact Nat.le_of_eq (each_keeps _ (liftF_range k c hk) t 0 u hr hx).2.2
theorem free_of {t : Tm} (hr : t.rightB = true) : t.freeB = t.freeN := by unfold Tm.freeB; rw [if_pos hr]
theorem lift_comes {t : Tm} {k c : Int} (hk : 0 ≤ k) (hk2 : k ≤ 1048576) (hr : t.rightB = true) (hf : t.freeN ≤ 1048576 * 3) (hd : t.deep ≤ 100000) : ∃ u, t.each (liftF k c) 0 = some u := by
  have key : ∀ (t : Tm) (b : Int), 0 ≤ b → t.rightB = true → t.freeN ≤ 1048576 * 3 + b → b + 2 * (t.deep : Int) ≤ 1000000 → ∃ u, t.each (liftF k c) b = some u := by
    intro t
    induction t using Tm.ind with
    | h t ih =>
      intro b hb hr hf hd
      by_cases h2 : t.k = 2
      · rw [Tm.each_var _ _ _ h2]
        rw [t.freeN_eq, if_pos h2] at hf
        unfold liftF
        split
        · exact ⟨_, rfl⟩
        · rw [if_neg (by omega)]; exact ⟨_, rfl⟩
      · rw [Tm.each_node _ _ _ h2]
        rw [t.freeN_eq, if_neg h2] at hf
        have hde := t.deep_eq
        have all : ∀ (l : List Tm) (p : Nat), (∀ q (h : q < l.length), ∃ u, (l[q]).each (liftF k c) (b + bindsN t.k ((p + q : Nat) : Int)) = some u) → ∃ m, optK (fun q x => x.each (liftF k c) (b + bindsN t.k q)) p l = some m := by
          intro l
          induction l with
          | nil => intro p _; exact ⟨[], rfl⟩
          | cons x r ihr =>
            intro p h
            obtain ⟨u, hu⟩ := h 0 (by simp)
            obtain ⟨m, hm⟩ := ihr (p + 1) (fun q hq => by have := h (q + 1) (by simpa using hq); simpa [Nat.add_assoc, Nat.add_comm 1 q] using this)
            simp only [List.getElem_cons_zero, Nat.add_zero] at hu
            exact ⟨u :: m, by simp only [optK, hu, hm, Option.bind_some, Option.map_some]⟩
        obtain ⟨m, hm⟩ := all t.kids 0 (fun q hq => by
          have hbd := binds_range t.k q
          have hfq := frees_get t.k t.kids 0 q hq
          have hdq := deeps_get t.kids q hq
          rw [Nat.zero_add] at hfq ⊢
          exact ih _ (List.getElem_mem hq) _ (by omega) (t.right_kids hr _ (List.getElem_mem hq)) (by omega) (by omega))
        exact ⟨_, by rw [hm]; rfl⟩
  exact key t 0 (Int.le_refl _) hr (by omega) (by omega)
theorem liftB_keeps {t : Tm} {k : Int} (hk : 0 ≤ k) (hk2 : k ≤ 1048576) (hr : t.rightB = true) (hf : t.freeN ≤ 1048576) (hd : t.deep ≤ 100000) :
    (t.liftB k 0).rightB = true ∧ (t.liftB k 0).markedB = t.markedB ∧ (t.liftB k 0).size = t.size ∧ (t.liftB k 0).freeB = if 0 < t.freeB then t.freeB + k else t.freeB := by
  obtain ⟨u, hu⟩ := lift_comes (c := 0) hk hk2 hr (by omega) hd
  have hru := right_each _ (liftF_range k 0 hk) t 0 u hr hu
  obtain ⟨h1, -, h3⟩ := each_keeps _ (liftF_range k 0 hk) t 0 u hr hu
  have h4 := lift_free k hk t 0 u (Int.le_refl _) hr hu
  rw [liftB_good hk (Int.le_refl _) hr, hu, Option.getD_some, free_of hr, free_of hru]
  exact ⟨hru, h1, h3, h4⟩
end Go.Proofs.Ytmicgbdcbjajiaa
namespace Go.Proofs.Ytmicgbdcbjajiaa
open Go.RowKit
structure Desk2 (w : World) (M : Nat) (t u : Tm) (s v : Value) (w' : World) : Prop where
  under : Below w.heap.size w w'
  above : w.heap.size + 3 ≤ M
  box : w'.heap[w.heap.size]? = some (boxOf t s)
  res : w'.heap[w.heap.size + 1]? = some zeroObj
  made : w'.heap[M]? = some (boxOf u v)
theorem Desk2.size {w w' : World} {M : Nat} {t u : Tm} {s v : Value} (h : Desk2 w M t u s v w') : M < w'.heap.size := (Array.getElem?_eq_some_iff.1 h.made).1
theorem Desk2.later {w w1 w2 : World} {M : Nat} {t u : Tm} {s v : Value} (h : Desk2 w M t u s v w1) (hb : Below w1.heap.size w1 w2) : Desk2 w M t u s v w2 := by
  have hs := h.size
  have ha := h.above
  exact ⟨h.under.trans (hb.mono (by omega)), ha, by rw [hb.block _ (by omega)]; exact h.box, by rw [hb.block _ (by omega)]; exact h.res, by rw [hb.block _ (by omega)]; exact h.made⟩
theorem Desk2.set {w w1 : World} {M : Nat} {t u : Tm} {s v : Value} (h : Desk2 w M t u s v w1) (o : Nat) (x : Value) : Desk2 w M t u s v (w1.setCell ⟨w.heap.size + 2, o, none⟩ x) := by
  have ha := h.above
  exact ⟨h.under.setCell (by simp) _, ha, by rw [Below.heap_setCell _ _ _ _ (by show w.heap.size ≠ w.heap.size + 2; omega)]; exact h.box, by rw [Below.heap_setCell _ _ _ _ (by show w.heap.size + 1 ≠ w.heap.size + 2; omega)]; exact h.res, by rw [Below.heap_setCell _ _ _ _ (by show M ≠ w.heap.size + 2; omega)]; exact h.made⟩
theorem Desk2.drew {w w1 : World} {M : Nat} {t u : Tm} {s v : Value} (h : Desk2 w M t u s v w1) : Desk2 w M t u s v w1.drew := ⟨h.under.drew, h.above, h.box, h.res, h.made⟩
theorem desk2_and {w w' : World} {M : Nat} {t u x : Tm} {s v sx : Value} {b o : Nat} (h : Desk2 w M t u s v w') (hx : Node w b o x sx) : Desk2 w M t u s v w' ∧ w'.cell? ⟨w.heap.size, 4, none⟩ = some s ∧ w'.cell? ⟨M, 4, none⟩ = some v ∧
    w'.cell? ⟨b, o, none⟩ = some (.int .i64 x.k) ∧ w'.cell? ⟨b, o + 1, none⟩ = some (.int .i64 x.i) ∧ w'.cell? ⟨b, o + 2, none⟩ = some (.int .i64 x.j) ∧ w'.cell? ⟨b, o + 3, none⟩ = some (.int .i64 x.n) ∧ w'.cell? ⟨b, o + 4, none⟩ = some sx := by
  obtain ⟨-, -, -, -, d4⟩ := five_cells h.box
  obtain ⟨-, -, -, -, e4⟩ := five_cells h.made
  obtain ⟨c0, c1, c2, c3, c4⟩ := hx.below h.under hx.lt
  exact ⟨h, d4, e4, c0, c1, c2, c3, c4⟩
theorem desk2_start {w w1 : World} {t : Tm} {K : Int} {s v : Value} (hb : Below (w.heap.size + 2) ((w.alloc (boxOf t s)).alloc zeroObj) w1) (hs : w.heap.size + 3 ≤ w1.heap.size) : Desk2 w w1.heap.size t (.mk K 0 0 0 []) s v (w1.alloc (.cells #[.int .i64 K, .int .i64 0, .int .i64 0, .int .i64 0, v] 27)) := by
  have h0 : ((w.alloc (boxOf t s)).alloc zeroObj).heap[w.heap.size]? = some (boxOf t s) := by rw [Below.heap_alloc _ _ _ (by simp), alloc_new]
  have h1 : ((w.alloc (boxOf t s)).alloc zeroObj).heap[w.heap.size + 1]? = some zeroObj := heap_alloc2_new _ _ _
  refine ⟨?_, hs, ?_, ?_, alloc_new _ _⟩
  · exact ((((Below.refl _ _).alloc (Nat.le_refl _) _).alloc (by simp) _).trans (hb.mono (by omega))).alloc (by omega) _
  · rw [Below.heap_alloc _ _ _ (by omega), hb.block _ (by omega)]; exact h0
  · rw [Below.heap_alloc _ _ _ (by omega), hb.block _ (by omega)]; exact h1
def picked (t : Tm) (pk : List Nat) : List Tm := pk.map fun p => ((t.kids[p]?).getD .zero).bare
set_option maxRecDepth 20000 in
set_option maxHeartbeats 2000000 in
theorem plain_of (t : Tm) (ih : ∀ x ∈ t.kids, ∀ (w : World) (s : Value), Lies w x.kids s → x.rightB = true → Calls Try.prog 73 #[tv x s] w (Makes x.bare w)) (hr : ∀ x ∈ t.kids, x.rightB = true)
    (K : Int) (pk : List Nat) (hpk : ∀ p ∈ pk, p < t.kids.length) (hp4 : pk.length ≤ 4) (w : World) (s st : Value) (hl : Lies w t.kids s) (hti : LiesI w (pk.map fun (p : Nat) => (p : Int)) st) :
    Calls Try.prog 80 #[.int .i64 K, tv t s, st] w (Makes (.mk K 0 0 0 (picked t pk)) w) := by
  obtain ⟨a, cap, S, rfl, hc, hm, -, hn, hkk⟩ := hl.out
  obtain ⟨ta, tcap, rfl, htc, htm, htn⟩ := hti.out
  rw [List.length_map] at htc
  replace htn : ∀ i (h : i < pk.length), ∃ b o, ta = some ⟨b, o, none⟩ ∧ w.cell? ⟨b, o + i, none⟩ = some (.int .i64 (pk[i] : Int)) := fun i h => by
    have := htn i (by rw [List.length_map]; exact h)
    simpa using this
  simp only [List.length_map]
  obtain ⟨du, hu1, hu2⟩ := under_term
  unfold maxLen at hm htm
  have IH := Lib.hid ih
  have HR := Lib.hid hr
  have HPK := Lib.hid hpk
  have HN := Lib.hid hn
  have HK := Lib.hid hkk
  have HTN := Lib.hid htn
  clear ih hr hpk hn hkk htn hl hti
  unfold tv
  obtain ⟨i0, hi, hz0, hz1, hz2⟩ := info_parts info_term
  have HI := Lib.hid (And.intro hi (And.intro hz0 (And.intro hz1 hz2)))
  clear hi hz0 hz1 hz2
  go_enter Try.func80, Try.ntmps80
  go_wp2_with (at_make; refine wpList_make_full _ rfl _ _ 25 rfl (w.heap.size + 2) 27 i0 _ 5 (by kernel_rfl) HI.out.1 HI.out.2.1 HI.out.2.2.1 _ _ _ _ pk.length rfl rfl rfl rfl ?bytes ?max ?base ?next)
  case bytes => rw [HI.out.2.2.2]; omega
  case max => unfold maxLen; omega
  case base => simp
  case next =>
  intro w1 hown hgrow
  have hful := full_made hown
  have hbel : Below (w.heap.size + 2) _ w1 := (Below.refl _ _).grown hgrow (by simp) (by simp)
  have hs1 : w.heap.size + 3 ≤ w1.heap.size := by
    obtain ⟨cs, hcs⟩ := hful.open'
    have := (Array.getElem?_eq_some_iff.1 hcs).1
    omega
  have hd0 := desk2_start (K := K) (v := .slice (some ⟨w.heap.size + 2, 0, none⟩) pk.length pk.length) hbel hs1
  have hf0 := hful.later ((Below.refl _ _).alloc (Nat.le_refl _) (.cells #[.int .i64 K, .int .i64 0, .int .i64 0, .int .i64 0, .slice (some ⟨w.heap.size + 2, 0, none⟩) pk.length pk.length] 27))
  clear hbel hgrow hown hful
  obtain ⟨M, hM⟩ : ∃ M, w1.heap.size = M := ⟨_, rfl⟩
  rw [hM] at hd0 hs1
  have HM := Lib.hid hM
  go_wp2_with fail
  clear hM
  go_loopw [17] (fun i wr => ∃ (q : Nat) (xs : List (Tm × Value)), q ≤ pk.length ∧ i = .int .i64 q ∧ Hid (xs.length = pk.length) ∧ Hid ((xs.map (·.1)).take q = (picked t pk).take q) ∧ Full (w.heap.size + 2) wr (w.heap.size + 2) xs ∧ Desk2 w M t (.mk K 0 0 0 []) (.slice a t.kids.length cap) (.slice (some ⟨w.heap.size + 2, 0, none⟩) pk.length pk.length) wr) (fun i _ => pk.length - (intOf i).toNat)
  case atStart => exact ⟨0, _, Nat.zero_le _, rfl, List.length_replicate, rfl, hf0, hd0⟩
  case round =>
    clear hf0 hd0
    obtain ⟨q, xs, hq0, rfl, hxl, hxs, hfu, hdk⟩ := hrel
    have HXL := Lib.hid hxl.out
    have HXS := Lib.hid hxs.out
    clear hxl hxs
    obtain ⟨d0, d1, d2, d3, d4⟩ := five_cells hdk.box
    obtain ⟨y0, y1, y2, y3, y4⟩ := five_cells hdk.made
    obtain ⟨z0, z1, z2, z3, z4⟩ := five_cells hdk.res
    obtain ⟨f0, f1, f2, f3, f4⟩ := five_free hdk.res
    have hsz := hdk.size
    by_cases hlt : q < pk.length
    · obtain ⟨p, hp⟩ : ∃ p, pk[q] = p := ⟨_, rfl⟩
      have hplt : p < t.kids.length := HPK.out p (by rw [← hp]; exact List.getElem_mem hlt)
      obtain ⟨b9, o9, rfl, hx9⟩ := HTN.out q hlt
      rw [hp] at hx9
      have hc9 := cell_lat hdk.under hx9
      obtain ⟨b', o, rfl, hx⟩ := HN.out p hplt
      have hq := HK.out p hplt
      obtain ⟨a', cap', S', hS, -⟩ := hq.out
      rw [hS] at hx hq
      have hkid : (t.kids[p]?).getD .zero = t.kids[p] := by rw [List.getElem?_eq_getElem hplt]; rfl
      have HMem := Lib.hid (List.getElem_mem hplt)
      have hrk := HR.out _ HMem.out
      have hfx := right_fine (plain_right (bare_plain _ hrk))
      have CALL := Lib.hid (IH.out _ HMem.out wr.drew _ (hq.keep (hdk.under.trans (Below.refl _ _).drew)) hrk)
      have hpick : (picked t pk).take (q + 1) = (picked t pk).take q ++ [(t.kids[p]).bare] := by
        rw [List.take_succ_eq_append_getElem (by unfold picked; rw [List.length_map]; exact hlt)]
        congr 2
        simp only [picked, List.getElem_map, hp, hkid]
      obtain ⟨x, hxb⟩ : ∃ x, (t.kids[p]).bare = x := ⟨_, rfl⟩
      rw [hxb] at CALL hfx hpick
      have hxq : q < xs.length := by rw [HXL.out]; exact hlt
      have HFX := Lib.hid hfx
      have HPICK := Lib.hid hpick
      have HFU := Lib.hid hfu
      have hnode := hx
      obtain ⟨c0, c1, c2, c3, c4⟩ := hx.below hdk.under hx.lt
      clear hS hq hx hfx hpick hxb hkid hrk hp hx9 hfu
      go_wp2_with fail
      go_region_held3 (fun w' => Desk2 w M t (.mk K 0 0 0 []) (.slice (some ⟨b', o, none⟩) t.kids.length cap) (.slice (some ⟨w.heap.size + 2, 0, none⟩) pk.length pk.length) w' ∧ w'.cell? ⟨w.heap.size, 4, none⟩ = some (.slice (some ⟨b', o, none⟩) t.kids.length cap) ∧ w'.cell? ⟨M, 4, none⟩ = some (.slice (some ⟨w.heap.size + 2, 0, none⟩) pk.length pk.length) ∧ w'.cell? ⟨b', o + p * 5, none⟩ = some (.int .i64 t.kids[p].k) ∧ w'.cell? ⟨b', o + p * 5 + 1, none⟩ = some (.int .i64 t.kids[p].i) ∧ w'.cell? ⟨b', o + p * 5 + 2, none⟩ = some (.int .i64 t.kids[p].j) ∧ w'.cell? ⟨b', o + p * 5 + 3, none⟩ = some (.int .i64 t.kids[p].n) ∧ w'.cell? ⟨b', o + p * 5 + 4, none⟩ = some (.slice a' t.kids[p].kids.length cap'))
        (((with_reducible refine desk2_and ?_ hnode); repeat (first | with_reducible assumption | with_reducible exact hdk | with_reducible refine Desk2.drew ?_ | with_reducible refine Desk2.set ?_ _ _)))
        (first | (go_at_call 73; ((with_reducible refine Calls.mono CALL.out ?_); rintro e wn ⟨s2, rfl, hl2, hbn⟩; obtain ⟨a2, cap2, rfl, -, -⟩ := hl2.out; have hd2 := Desk2.later (Desk2.drew hdk) hbn; have hfw := (HFU.out.later (Below.refl _ _).drew).later hbn; obtain ⟨x0, x1, x2, x3, x4⟩ := hfw.node q hxq; obtain ⟨cs, hcs⟩ := hfw.open'; have g0 := open_unfrozen hcs (q * 5); have g1 := open_unfrozen hcs (q * 5 + 1); have g2 := open_unfrozen hcs (q * 5 + 2); have g3 := open_unfrozen hcs (q * 5 + 3); have g4 := open_unfrozen hcs (q * 5 + 4); have HLF := Lib.hid (HFU.out.fresh (w2 := wn) (by have := hdk.above; omega) hl2); have HFW := Lib.hid hfw; have HD2 := Lib.hid hd2; clear hcs hfw hl2 hbn)))
      go_wp2_with fail
      go_roundw
      case rel => exact ⟨q + 1, xs.set q (x, .slice a2 x.kids.length cap2), hlt, by go_num, by simp [Hid, HXL.out], by rw [Hid, List.map_set, take_set_next _ _ _ (by simpa using hxq), HXS.out, HPICK.out], HFW.out.fill hxq HFX.out HLF.out, ((((HD2.out.set _ _).set _ _).set _ _).set _ _).set _ _⟩
      case measure => simp [intOf]; omega
    · have : q = pk.length := by omega
      subst this
      have hres : xs.map (·.1) = picked t pk := by
        have h1 := HXS.out
        rw [List.take_of_length_le (by rw [List.length_map, HXL.out]; exact Nat.le_refl _), List.take_of_length_le (by unfold picked; rw [List.length_map]; exact Nat.le_refl _)] at h1
        exact h1
      have hll := hfu.lies (cap := pk.length) (by rw [HXL.out]; exact Nat.le_refl _) (by unfold maxLen; omega)
      rw [hres, HXL.out] at hll
      have HLL := Lib.hid hll
      have HPL : Hid ((picked t pk).length = pk.length) := by simp [Hid, picked]
      have q1 := hdk.res
      clear hres hll hfu
      go_wp2
      (try simp only [Exit.inBlock, Exit.then])
      refine bodyPost_ret (results_cell_row rfl _ _ (w.heap.size + 1) _ _ _ du rfl (five_set q1) hu1 (by cases du <;> first | rfl | exact hu2) size_term) rfl ?_
      refine ⟨.slice (some ⟨w.heap.size + 2, 0, none⟩) pk.length pk.length, rfl, ?_, below_five hdk.under (by omega) _ _ _ _ _⟩
      exact liesP_fives HLL.out (by omega) (by omega) _ _ _ _ _
end Go.Proofs.Ytmicgbdcbjajiaa
namespace Go.Proofs.Ytmicgbdcbjajiaa
open Go.RowKit
theorem picked_pickT (t : Tm) : ∀ pk : List Nat, (∀ p ∈ pk, p < t.kids.length) → pickT pk (t.kids.map Tm.bare) = picked t pk
  | [], _ => rfl
  | p :: r, h => by
    have hp := h p (List.mem_cons_self ..)
    have ih := picked_pickT t r (fun q hq => h q (List.mem_cons_of_mem _ hq))
    unfold pickT at ih ⊢
    rw [List.filterMap_cons, List.getElem?_map, List.getElem?_eq_getElem hp]
    simp only [Option.map_some]
    rw [ih]
    simp [picked, List.getElem?_eq_getElem hp]
theorem bare_pick (t : Tm) (c : Int) (pk : List Nat) (hk : t.k = c) (hc : (decide (3 ≤ c) && decide (c ≤ 12)) = true) (hp : barePick c = pk) (h : ∀ p ∈ pk, p < t.kids.length) : t.bare = .mk (bareKind c) (if c = 12 then t.i else 0) 0 (if c = 12 then 5 else 0) (picked t pk) := by
  simp at hc
  rw [Tm.bare_eq, bareNode, hk, if_pos hc, hp, picked_pickT t pk h]
theorem liesI_new {W : World} {g : Nat} {T : TypeId} {l : List Int} {fr : Nat × Nat} (h : W.heap[g]? = some (.cells (l.map (Value.int .i64)).toArray T fr)) (hm : l.length ≤ maxLen) : LiesI W l (.slice (some ⟨g, 0, none⟩) l.length l.length) :=
  ⟨_, _, rfl, Nat.le_refl _, hm, fun i hi => ⟨g, 0, rfl, by rw [Nat.zero_add, cell_of_row _ _ _ _ _ _ h]; simp [hi]⟩⟩
theorem made_below {B b o : Nat} {w : World} {v : Value} {ps : List (Tm × Value)} (h : Made B w v ps) (hb : b < B) (x : Value) : Made B (w.setCell ⟨b, o, none⟩ x) v ps := by
  have hk : ∀ b', B ≤ b' → (w.setCell ⟨b, o, none⟩ x).heap[b']? = w.heap[b']? := fun b' hb' => Below.heap_setCell _ _ _ _ (by show b' ≠ b; omega)
  obtain ⟨h1, h2⟩ := h.own
  refine ⟨⟨h1, ?_⟩, h.fine, fun p hp => (h.kids p hp).keep (fun b' hb' _ => hk b' hb'.1.1) (fun b' hb' _ => ⟨hb'.1.same (hk b' hb'.1.1), hb'.2⟩)⟩
  rcases h2 with h2 | ⟨g, cap, cur, hv, hg, hh, r⟩
  · exact Or.inl h2
  · exact Or.inr ⟨g, cap, cur, hv, hg, by rw [hk g hg]; exact hh, r⟩
set_option maxRecDepth 20000 in
set_option maxHeartbeats 1500000 in
theorem sbare_any (t : Tm) : ∀ (w : World) (s : Value), Lies w t.kids s → t.rightB = true → Calls Try.prog 73 #[tv t s] w (Makes t.bare w) := by
  induction t using Tm.ind with
  | h t ih =>
    intro w s hl hr
    obtain ⟨a, cap, S, rfl, hc, hm, hf, hn, hkk⟩ := hl.out
    have hlen := right_len hr
    obtain ⟨du, hu1, hu2⟩ := under_term
    have HR0 := Lib.hid hr
    have HRK := Lib.hid (t.right_kids hr)
    have IH := Lib.hid ih
    have HL := Lib.hid hl
    have HN := Lib.hid hn
    have HK := Lib.hid hkk
    have hkind := Tm.node_kind (t.right_node hr)
    unfold maxLen at hm
    clear ih hl hn hkk hr hf
    unfold tv
    by_cases hmk : 3 ≤ t.k ∧ t.k ≤ 12
    · have hcs : t.k = 3 ∨ t.k = 4 ∨ t.k = 5 ∨ t.k = 6 ∨ t.k = 7 ∨ t.k = 8 ∨ t.k = 9 ∨ t.k = 10 ∨ t.k = 11 ∨ t.k = 12 := by omega
      clear hmk hkind
      rcases hcs with hkc | hkc | hkc | hkc | hkc | hkc | hkc | hkc | hkc | hkc
      · have hpk : ∀ p ∈ ([0, 1] : List Nat), p < t.kids.length := by
          have hlen := node_length (t.right_node HR0.out)
          rw [hkc] at hlen
          have h9 : t.kids.length = 2 := by simp [kidsN] at hlen; omega
          intro p hp
          simp at hp
          omega
        have hres := bare_pick t 3 [0, 1] hkc rfl rfl hpk
        have hb3 := below_three w (.cells #[.int .i64 t.k, .int .i64 t.i, .int .i64 t.j, .int .i64 t.n, .slice a t.kids.length cap] 27) (.cells #[.int .i64 0, .int .i64 0, .int .i64 0, .int .i64 0, .slice none 0 0] 27) (.cells #[.int .i64 0, .int .i64 1] 3)
        obtain ⟨q0, q1, q2, -⟩ := heap_three w (.cells #[.int .i64 t.k, .int .i64 t.i, .int .i64 t.j, .int .i64 t.n, .slice a t.kids.length cap] 27) (.cells #[.int .i64 0, .int .i64 0, .int .i64 0, .int .i64 0, .slice none 0 0] 27) (.cells #[.int .i64 0, .int .i64 1] 3)
        have hti := liesI_new (l := [(0 : Int), (1 : Int)]) q2 (by decide)
        have CALL := Lib.hid (plain_of t IH.out HRK.out 13 [0, 1] hpk (by decide) _ _ _ (HL.out.keep hb3) hti)
        have HRES := Lib.hid hres
        clear hti hpk hres q2 q0
        have e3 : (t.k == 3) = true := by rw [hkc]; decide
        clear hkc
        go_enter Try.func73, Try.ntmps73
        go_wp2_with fail
        refine CALL.out.mono ?_
        rintro e wn ⟨s2, rfl, hl2, hbn⟩
        obtain ⟨a2, cap2, rfl, -, -⟩ := hl2.out
        have hbw := hb3.trans (hbn.mono hb3.size)
        have q1n := hbn.block (w.heap.size + 1) (by simp)
        rw [q1] at q1n
        obtain ⟨z0, z1, z2, z3, z4⟩ := five_cells q1n
        obtain ⟨f0, f1, f2, f3, f4⟩ := five_free q1n
        have HL2 := Lib.hid hl2
        clear hbn hl2 q1
        go_wp2
        (try simp only [Exit.inBlock, Exit.then])
        refine bodyPost_ret (results_cell_row rfl _ _ (w.heap.size + 1) _ _ _ du rfl (five_set q1n) hu1 (by cases du <;> first | rfl | exact hu2) size_term) rfl ?_
        rw [HRES.out]
        exact ⟨_, rfl, liesP_fives HL2.out (by simp <;> omega) (by simp <;> omega) _ _ _ _ _, below_five hbw (by omega) _ _ _ _ _⟩
      · have hpk : ∀ p ∈ ([0, 2] : List Nat), p < t.kids.length := by
          have hlen := node_length (t.right_node HR0.out)
          rw [hkc] at hlen
          have h9 : t.kids.length = 3 := by simp [kidsN] at hlen; omega
          intro p hp
          simp at hp
          omega
        have hres := bare_pick t 4 [0, 2] hkc rfl rfl hpk
        have hb3 := below_three w (.cells #[.int .i64 t.k, .int .i64 t.i, .int .i64 t.j, .int .i64 t.n, .slice a t.kids.length cap] 27) (.cells #[.int .i64 0, .int .i64 0, .int .i64 0, .int .i64 0, .slice none 0 0] 27) (.cells #[.int .i64 0, .int .i64 2] 3)
        obtain ⟨q0, q1, q2, -⟩ := heap_three w (.cells #[.int .i64 t.k, .int .i64 t.i, .int .i64 t.j, .int .i64 t.n, .slice a t.kids.length cap] 27) (.cells #[.int .i64 0, .int .i64 0, .int .i64 0, .int .i64 0, .slice none 0 0] 27) (.cells #[.int .i64 0, .int .i64 2] 3)
        have hti := liesI_new (l := [(0 : Int), (2 : Int)]) q2 (by decide)
        have CALL := Lib.hid (plain_of t IH.out HRK.out 14 [0, 2] hpk (by decide) _ _ _ (HL.out.keep hb3) hti)
        have HRES := Lib.hid hres
        clear hti hpk hres q2 q0
        have e3 : (t.k == 3) = false := by rw [hkc]; decide
        have e4 : (t.k == 4) = true := by rw [hkc]; decide
        clear hkc
        go_enter Try.func73, Try.ntmps73
        go_wp2_with fail
        refine CALL.out.mono ?_
        rintro e wn ⟨s2, rfl, hl2, hbn⟩
        obtain ⟨a2, cap2, rfl, -, -⟩ := hl2.out
        have hbw := hb3.trans (hbn.mono hb3.size)
        have q1n := hbn.block (w.heap.size + 1) (by simp)
        rw [q1] at q1n
        obtain ⟨z0, z1, z2, z3, z4⟩ := five_cells q1n
        obtain ⟨f0, f1, f2, f3, f4⟩ := five_free q1n
        have HL2 := Lib.hid hl2
        clear hbn hl2 q1
        go_wp2
        (try simp only [Exit.inBlock, Exit.then])
        refine bodyPost_ret (results_cell_row rfl _ _ (w.heap.size + 1) _ _ _ du rfl (five_set q1n) hu1 (by cases du <;> first | rfl | exact hu2) size_term) rfl ?_
        rw [HRES.out]
        exact ⟨_, rfl, liesP_fives HL2.out (by simp <;> omega) (by simp <;> omega) _ _ _ _ _, below_five hbw (by omega) _ _ _ _ _⟩
      · have hpk : ∀ p ∈ ([2, 3] : List Nat), p < t.kids.length := by
          have hlen := node_length (t.right_node HR0.out)
          rw [hkc] at hlen
          have h9 : t.kids.length = 4 := by simp [kidsN] at hlen; omega
          intro p hp
          simp at hp
          omega
        have hres := bare_pick t 5 [2, 3] hkc rfl rfl hpk
        have hb3 := below_three w (.cells #[.int .i64 t.k, .int .i64 t.i, .int .i64 t.j, .int .i64 t.n, .slice a t.kids.length cap] 27) (.cells #[.int .i64 0, .int .i64 0, .int .i64 0, .int .i64 0, .slice none 0 0] 27) (.cells #[.int .i64 2, .int .i64 3] 3)
        obtain ⟨q0, q1, q2, -⟩ := heap_three w (.cells #[.int .i64 t.k, .int .i64 t.i, .int .i64 t.j, .int .i64 t.n, .slice a t.kids.length cap] 27) (.cells #[.int .i64 0, .int .i64 0, .int .i64 0, .int .i64 0, .slice none 0 0] 27) (.cells #[.int .i64 2, .int .i64 3] 3)
        have hti := liesI_new (l := [(2 : Int), (3 : Int)]) q2 (by decide)
        have CALL := Lib.hid (plain_of t IH.out HRK.out 15 [2, 3] hpk (by decide) _ _ _ (HL.out.keep hb3) hti)
        have HRES := Lib.hid hres
        clear hti hpk hres q2 q0
        have e3 : (t.k == 3) = false := by rw [hkc]; decide
        have e4 : (t.k == 4) = false := by rw [hkc]; decide
        have e5 : (t.k == 5) = true := by rw [hkc]; decide
        clear hkc
        go_enter Try.func73, Try.ntmps73
        go_wp2_with fail
        refine CALL.out.mono ?_
        rintro e wn ⟨s2, rfl, hl2, hbn⟩
        obtain ⟨a2, cap2, rfl, -, -⟩ := hl2.out
        have hbw := hb3.trans (hbn.mono hb3.size)
        have q1n := hbn.block (w.heap.size + 1) (by simp)
        rw [q1] at q1n
        obtain ⟨z0, z1, z2, z3, z4⟩ := five_cells q1n
        obtain ⟨f0, f1, f2, f3, f4⟩ := five_free q1n
        have HL2 := Lib.hid hl2
        clear hbn hl2 q1
        go_wp2
        (try simp only [Exit.inBlock, Exit.then])
        refine bodyPost_ret (results_cell_row rfl _ _ (w.heap.size + 1) _ _ _ du rfl (five_set q1n) hu1 (by cases du <;> first | rfl | exact hu2) size_term) rfl ?_
        rw [HRES.out]
        exact ⟨_, rfl, liesP_fives HL2.out (by simp <;> omega) (by simp <;> omega) _ _ _ _ _, below_five hbw (by omega) _ _ _ _ _⟩
      · have hpk : ∀ p ∈ ([0, 1] : List Nat), p < t.kids.length := by
          have hlen := node_length (t.right_node HR0.out)
          rw [hkc] at hlen
          have h9 : t.kids.length = 2 := by simp [kidsN] at hlen; omega
          intro p hp
          simp at hp
          omega
        have hres := bare_pick t 6 [0, 1] hkc rfl rfl hpk
        have hb3 := below_three w (.cells #[.int .i64 t.k, .int .i64 t.i, .int .i64 t.j, .int .i64 t.n, .slice a t.kids.length cap] 27) (.cells #[.int .i64 0, .int .i64 0, .int .i64 0, .int .i64 0, .slice none 0 0] 27) (.cells #[.int .i64 0, .int .i64 1] 3)
        obtain ⟨q0, q1, q2, -⟩ := heap_three w (.cells #[.int .i64 t.k, .int .i64 t.i, .int .i64 t.j, .int .i64 t.n, .slice a t.kids.length cap] 27) (.cells #[.int .i64 0, .int .i64 0, .int .i64 0, .int .i64 0, .slice none 0 0] 27) (.cells #[.int .i64 0, .int .i64 1] 3)
        have hti := liesI_new (l := [(0 : Int), (1 : Int)]) q2 (by decide)
        have CALL := Lib.hid (plain_of t IH.out HRK.out 16 [0, 1] hpk (by decide) _ _ _ (HL.out.keep hb3) hti)
        have HRES := Lib.hid hres
        clear hti hpk hres q2 q0
        have e3 : (t.k == 3) = false := by rw [hkc]; decide
        have e4 : (t.k == 4) = false := by rw [hkc]; decide
        have e5 : (t.k == 5) = false := by rw [hkc]; decide
        have e6 : (t.k == 6) = true := by rw [hkc]; decide
        clear hkc
        go_enter Try.func73, Try.ntmps73
        go_wp2_with fail
        refine CALL.out.mono ?_
        rintro e wn ⟨s2, rfl, hl2, hbn⟩
        obtain ⟨a2, cap2, rfl, -, -⟩ := hl2.out
        have hbw := hb3.trans (hbn.mono hb3.size)
        have q1n := hbn.block (w.heap.size + 1) (by simp)
        rw [q1] at q1n
        obtain ⟨z0, z1, z2, z3, z4⟩ := five_cells q1n
        obtain ⟨f0, f1, f2, f3, f4⟩ := five_free q1n
        have HL2 := Lib.hid hl2
        clear hbn hl2 q1
        go_wp2
        (try simp only [Exit.inBlock, Exit.then])
        refine bodyPost_ret (results_cell_row rfl _ _ (w.heap.size + 1) _ _ _ du rfl (five_set q1n) hu1 (by cases du <;> first | rfl | exact hu2) size_term) rfl ?_
        rw [HRES.out]
        exact ⟨_, rfl, liesP_fives HL2.out (by simp <;> omega) (by simp <;> omega) _ _ _ _ _, below_five hbw (by omega) _ _ _ _ _⟩
      · have hpk : ∀ p ∈ ([0, 1, 2, 3] : List Nat), p < t.kids.length := by
          have hlen := node_length (t.right_node HR0.out)
          rw [hkc] at hlen
          have h9 : t.kids.length = 4 := by simp [kidsN] at hlen; omega
          intro p hp
          simp at hp
          omega
        have hres := bare_pick t 7 [0, 1, 2, 3] hkc rfl rfl hpk
        have hb3 := below_three w (.cells #[.int .i64 t.k, .int .i64 t.i, .int .i64 t.j, .int .i64 t.n, .slice a t.kids.length cap] 27) (.cells #[.int .i64 0, .int .i64 0, .int .i64 0, .int .i64 0, .slice none 0 0] 27) (.cells #[.int .i64 0, .int .i64 1, .int .i64 2, .int .i64 3] 3)
        obtain ⟨q0, q1, q2, -⟩ := heap_three w (.cells #[.int .i64 t.k, .int .i64 t.i, .int .i64 t.j, .int .i64 t.n, .slice a t.kids.length cap] 27) (.cells #[.int .i64 0, .int .i64 0, .int .i64 0, .int .i64 0, .slice none 0 0] 27) (.cells #[.int .i64 0, .int .i64 1, .int .i64 2, .int .i64 3] 3)
        have hti := liesI_new (l := [(0 : Int), (1 : Int), (2 : Int), (3 : Int)]) q2 (by decide)
        have CALL := Lib.hid (plain_of t IH.out HRK.out 17 [0, 1, 2, 3] hpk (by decide) _ _ _ (HL.out.keep hb3) hti)
        have HRES := Lib.hid hres
        clear hti hpk hres q2 q0
        have e3 : (t.k == 3) = false := by rw [hkc]; decide
        have e4 : (t.k == 4) = false := by rw [hkc]; decide
        have e5 : (t.k == 5) = false := by rw [hkc]; decide
        have e6 : (t.k == 6) = false := by rw [hkc]; decide
        have e7 : (t.k == 7) = true := by rw [hkc]; decide
        clear hkc
        go_enter Try.func73, Try.ntmps73
        go_wp2_with fail
        refine CALL.out.mono ?_
        rintro e wn ⟨s2, rfl, hl2, hbn⟩
        obtain ⟨a2, cap2, rfl, -, -⟩ := hl2.out
        have hbw := hb3.trans (hbn.mono hb3.size)
        have q1n := hbn.block (w.heap.size + 1) (by simp)
        rw [q1] at q1n
        obtain ⟨z0, z1, z2, z3, z4⟩ := five_cells q1n
        obtain ⟨f0, f1, f2, f3, f4⟩ := five_free q1n
        have HL2 := Lib.hid hl2
        clear hbn hl2 q1
        go_wp2
        (try simp only [Exit.inBlock, Exit.then])
        refine bodyPost_ret (results_cell_row rfl _ _ (w.heap.size + 1) _ _ _ du rfl (five_set q1n) hu1 (by cases du <;> first | rfl | exact hu2) size_term) rfl ?_
        rw [HRES.out]
        exact ⟨_, rfl, liesP_fives HL2.out (by simp <;> omega) (by simp <;> omega) _ _ _ _ _, below_five hbw (by omega) _ _ _ _ _⟩
      · have hpk : ∀ p ∈ ([2] : List Nat), p < t.kids.length := by
          have hlen := node_length (t.right_node HR0.out)
          rw [hkc] at hlen
          have h9 : t.kids.length = 3 := by simp [kidsN] at hlen; omega
          intro p hp
          simp at hp
          omega
        have hres := bare_pick t 8 [2] hkc rfl rfl hpk
        have hb3 := below_three w (.cells #[.int .i64 t.k, .int .i64 t.i, .int .i64 t.j, .int .i64 t.n, .slice a t.kids.length cap] 27) (.cells #[.int .i64 0, .int .i64 0, .int .i64 0, .int .i64 0, .slice none 0 0] 27) (.cells #[.int .i64 2] 3)
        obtain ⟨q0, q1, q2, -⟩ := heap_three w (.cells #[.int .i64 t.k, .int .i64 t.i, .int .i64 t.j, .int .i64 t.n, .slice a t.kids.length cap] 27) (.cells #[.int .i64 0, .int .i64 0, .int .i64 0, .int .i64 0, .slice none 0 0] 27) (.cells #[.int .i64 2] 3)
        have hti := liesI_new (l := [(2 : Int)]) q2 (by decide)
        have CALL := Lib.hid (plain_of t IH.out HRK.out 18 [2] hpk (by decide) _ _ _ (HL.out.keep hb3) hti)
        have HRES := Lib.hid hres
        clear hti hpk hres q2 q0
        have e3 : (t.k == 3) = false := by rw [hkc]; decide
        have e4 : (t.k == 4) = false := by rw [hkc]; decide
        have e5 : (t.k == 5) = false := by rw [hkc]; decide
        have e6 : (t.k == 6) = false := by rw [hkc]; decide
        have e7 : (t.k == 7) = false := by rw [hkc]; decide
        have e8 : (t.k == 8) = true := by rw [hkc]; decide
        clear hkc
        go_enter Try.func73, Try.ntmps73
        go_wp2_with fail
        refine CALL.out.mono ?_
        rintro e wn ⟨s2, rfl, hl2, hbn⟩
        obtain ⟨a2, cap2, rfl, -, -⟩ := hl2.out
        have hbw := hb3.trans (hbn.mono hb3.size)
        have q1n := hbn.block (w.heap.size + 1) (by simp)
        rw [q1] at q1n
        obtain ⟨z0, z1, z2, z3, z4⟩ := five_cells q1n
        obtain ⟨f0, f1, f2, f3, f4⟩ := five_free q1n
        have HL2 := Lib.hid hl2
        clear hbn hl2 q1
        go_wp2
        (try simp only [Exit.inBlock, Exit.then])
        refine bodyPost_ret (results_cell_row rfl _ _ (w.heap.size + 1) _ _ _ du rfl (five_set q1n) hu1 (by cases du <;> first | rfl | exact hu2) size_term) rfl ?_
        rw [HRES.out]
        exact ⟨_, rfl, liesP_fives HL2.out (by simp <;> omega) (by simp <;> omega) _ _ _ _ _, below_five hbw (by omega) _ _ _ _ _⟩
      · have hpk : ∀ p ∈ ([2] : List Nat), p < t.kids.length := by
          have hlen := node_length (t.right_node HR0.out)
          rw [hkc] at hlen
          have h9 : t.kids.length = 3 := by simp [kidsN] at hlen; omega
          intro p hp
          simp at hp
          omega
        have hres := bare_pick t 9 [2] hkc rfl rfl hpk
        have hb3 := below_three w (.cells #[.int .i64 t.k, .int .i64 t.i, .int .i64 t.j, .int .i64 t.n, .slice a t.kids.length cap] 27) (.cells #[.int .i64 0, .int .i64 0, .int .i64 0, .int .i64 0, .slice none 0 0] 27) (.cells #[.int .i64 2] 3)
        obtain ⟨q0, q1, q2, -⟩ := heap_three w (.cells #[.int .i64 t.k, .int .i64 t.i, .int .i64 t.j, .int .i64 t.n, .slice a t.kids.length cap] 27) (.cells #[.int .i64 0, .int .i64 0, .int .i64 0, .int .i64 0, .slice none 0 0] 27) (.cells #[.int .i64 2] 3)
        have hti := liesI_new (l := [(2 : Int)]) q2 (by decide)
        have CALL := Lib.hid (plain_of t IH.out HRK.out 19 [2] hpk (by decide) _ _ _ (HL.out.keep hb3) hti)
        have HRES := Lib.hid hres
        clear hti hpk hres q2 q0
        have e3 : (t.k == 3) = false := by rw [hkc]; decide
        have e4 : (t.k == 4) = false := by rw [hkc]; decide
        have e5 : (t.k == 5) = false := by rw [hkc]; decide
        have e6 : (t.k == 6) = false := by rw [hkc]; decide
        have e7 : (t.k == 7) = false := by rw [hkc]; decide
        have e8 : (t.k == 8) = false := by rw [hkc]; decide
        have e9 : (t.k == 9) = true := by rw [hkc]; decide
        clear hkc
        go_enter Try.func73, Try.ntmps73
        go_wp2_with fail
        refine CALL.out.mono ?_
        rintro e wn ⟨s2, rfl, hl2, hbn⟩
        obtain ⟨a2, cap2, rfl, -, -⟩ := hl2.out
        have hbw := hb3.trans (hbn.mono hb3.size)
        have q1n := hbn.block (w.heap.size + 1) (by simp)
        rw [q1] at q1n
        obtain ⟨z0, z1, z2, z3, z4⟩ := five_cells q1n
        obtain ⟨f0, f1, f2, f3, f4⟩ := five_free q1n
        have HL2 := Lib.hid hl2
        clear hbn hl2 q1
        go_wp2
        (try simp only [Exit.inBlock, Exit.then])
        refine bodyPost_ret (results_cell_row rfl _ _ (w.heap.size + 1) _ _ _ du rfl (five_set q1n) hu1 (by cases du <;> first | rfl | exact hu2) size_term) rfl ?_
        rw [HRES.out]
        exact ⟨_, rfl, liesP_fives HL2.out (by simp <;> omega) (by simp <;> omega) _ _ _ _ _, below_five hbw (by omega) _ _ _ _ _⟩
      · have hpk : ∀ p ∈ ([0, 1, 2] : List Nat), p < t.kids.length := by
          have hlen := node_length (t.right_node HR0.out)
          rw [hkc] at hlen
          have h9 : t.kids.length = 3 := by simp [kidsN] at hlen; omega
          intro p hp
          simp at hp
          omega
        have hres := bare_pick t 10 [0, 1, 2] hkc rfl rfl hpk
        have hb3 := below_three w (.cells #[.int .i64 t.k, .int .i64 t.i, .int .i64 t.j, .int .i64 t.n, .slice a t.kids.length cap] 27) (.cells #[.int .i64 0, .int .i64 0, .int .i64 0, .int .i64 0, .slice none 0 0] 27) (.cells #[.int .i64 0, .int .i64 1, .int .i64 2] 3)
        obtain ⟨q0, q1, q2, -⟩ := heap_three w (.cells #[.int .i64 t.k, .int .i64 t.i, .int .i64 t.j, .int .i64 t.n, .slice a t.kids.length cap] 27) (.cells #[.int .i64 0, .int .i64 0, .int .i64 0, .int .i64 0, .slice none 0 0] 27) (.cells #[.int .i64 0, .int .i64 1, .int .i64 2] 3)
        have hti := liesI_new (l := [(0 : Int), (1 : Int), (2 : Int)]) q2 (by decide)
        have CALL := Lib.hid (plain_of t IH.out HRK.out 20 [0, 1, 2] hpk (by decide) _ _ _ (HL.out.keep hb3) hti)
        have HRES := Lib.hid hres
        clear hti hpk hres q2 q0
        have e3 : (t.k == 3) = false := by rw [hkc]; decide
        have e4 : (t.k == 4) = false := by rw [hkc]; decide
        have e5 : (t.k == 5) = false := by rw [hkc]; decide
        have e6 : (t.k == 6) = false := by rw [hkc]; decide
        have e7 : (t.k == 7) = false := by rw [hkc]; decide
        have e8 : (t.k == 8) = false := by rw [hkc]; decide
        have e9 : (t.k == 9) = false := by rw [hkc]; decide
        have e10 : (t.k == 10) = true := by rw [hkc]; decide
        clear hkc
        go_enter Try.func73, Try.ntmps73
        go_wp2_with fail
        refine CALL.out.mono ?_
        rintro e wn ⟨s2, rfl, hl2, hbn⟩
        obtain ⟨a2, cap2, rfl, -, -⟩ := hl2.out
        have hbw := hb3.trans (hbn.mono hb3.size)
        have q1n := hbn.block (w.heap.size + 1) (by simp)
        rw [q1] at q1n
        obtain ⟨z0, z1, z2, z3, z4⟩ := five_cells q1n
        obtain ⟨f0, f1, f2, f3, f4⟩ := five_free q1n
        have HL2 := Lib.hid hl2
        clear hbn hl2 q1
        go_wp2
        (try simp only [Exit.inBlock, Exit.then])
        refine bodyPost_ret (results_cell_row rfl _ _ (w.heap.size + 1) _ _ _ du rfl (five_set q1n) hu1 (by cases du <;> first | rfl | exact hu2) size_term) rfl ?_
        rw [HRES.out]
        exact ⟨_, rfl, liesP_fives HL2.out (by simp <;> omega) (by simp <;> omega) _ _ _ _ _, below_five hbw (by omega) _ _ _ _ _⟩
      · have hpk : ∀ p ∈ ([0, 1] : List Nat), p < t.kids.length := by
          have hlen := node_length (t.right_node HR0.out)
          rw [hkc] at hlen
          have h9 : t.kids.length = 2 := by simp [kidsN] at hlen; omega
          intro p hp
          simp at hp
          omega
        have hres := bare_pick t 11 [0, 1] hkc rfl rfl hpk
        have hb3 := below_three w (.cells #[.int .i64 t.k, .int .i64 t.i, .int .i64 t.j, .int .i64 t.n, .slice a t.kids.length cap] 27) (.cells #[.int .i64 0, .int .i64 0, .int .i64 0, .int .i64 0, .slice none 0 0] 27) (.cells #[.int .i64 0, .int .i64 1] 3)
        obtain ⟨q0, q1, q2, -⟩ := heap_three w (.cells #[.int .i64 t.k, .int .i64 t.i, .int .i64 t.j, .int .i64 t.n, .slice a t.kids.length cap] 27) (.cells #[.int .i64 0, .int .i64 0, .int .i64 0, .int .i64 0, .slice none 0 0] 27) (.cells #[.int .i64 0, .int .i64 1] 3)
        have hti := liesI_new (l := [(0 : Int), (1 : Int)]) q2 (by decide)
        have CALL := Lib.hid (plain_of t IH.out HRK.out 21 [0, 1] hpk (by decide) _ _ _ (HL.out.keep hb3) hti)
        have HRES := Lib.hid hres
        clear hti hpk hres q2 q0
        have e3 : (t.k == 3) = false := by rw [hkc]; decide
        have e4 : (t.k == 4) = false := by rw [hkc]; decide
        have e5 : (t.k == 5) = false := by rw [hkc]; decide
        have e6 : (t.k == 6) = false := by rw [hkc]; decide
        have e7 : (t.k == 7) = false := by rw [hkc]; decide
        have e8 : (t.k == 8) = false := by rw [hkc]; decide
        have e9 : (t.k == 9) = false := by rw [hkc]; decide
        have e10 : (t.k == 10) = false := by rw [hkc]; decide
        have e11 : (t.k == 11) = true := by rw [hkc]; decide
        clear hkc
        go_enter Try.func73, Try.ntmps73
        go_wp2_with fail
        refine CALL.out.mono ?_
        rintro e wn ⟨s2, rfl, hl2, hbn⟩
        obtain ⟨a2, cap2, rfl, -, -⟩ := hl2.out
        have hbw := hb3.trans (hbn.mono hb3.size)
        have q1n := hbn.block (w.heap.size + 1) (by simp)
        rw [q1] at q1n
        obtain ⟨z0, z1, z2, z3, z4⟩ := five_cells q1n
        obtain ⟨f0, f1, f2, f3, f4⟩ := five_free q1n
        have HL2 := Lib.hid hl2
        clear hbn hl2 q1
        go_wp2
        (try simp only [Exit.inBlock, Exit.then])
        refine bodyPost_ret (results_cell_row rfl _ _ (w.heap.size + 1) _ _ _ du rfl (five_set q1n) hu1 (by cases du <;> first | rfl | exact hu2) size_term) rfl ?_
        rw [HRES.out]
        exact ⟨_, rfl, liesP_fives HL2.out (by simp <;> omega) (by simp <;> omega) _ _ _ _ _, below_five hbw (by omega) _ _ _ _ _⟩
      · have hpk : ∀ p ∈ ([0, 1, 2, 3] : List Nat), p < t.kids.length := by
          have hlen := node_length (t.right_node HR0.out)
          rw [hkc] at hlen
          have h9 : t.kids.length = 4 := by simp [kidsN] at hlen; omega
          intro p hp
          simp at hp
          omega
        have hres := bare_pick t 12 [0, 1, 2, 3] hkc rfl rfl hpk
        have hb3 := below_three w (.cells #[.int .i64 t.k, .int .i64 t.i, .int .i64 t.j, .int .i64 t.n, .slice a t.kids.length cap] 27) (.cells #[.int .i64 0, .int .i64 0, .int .i64 0, .int .i64 0, .slice none 0 0] 27) (.cells #[.int .i64 0, .int .i64 1, .int .i64 2, .int .i64 3] 3)
        obtain ⟨q0, q1, q2, -⟩ := heap_three w (.cells #[.int .i64 t.k, .int .i64 t.i, .int .i64 t.j, .int .i64 t.n, .slice a t.kids.length cap] 27) (.cells #[.int .i64 0, .int .i64 0, .int .i64 0, .int .i64 0, .slice none 0 0] 27) (.cells #[.int .i64 0, .int .i64 1, .int .i64 2, .int .i64 3] 3)
        have hti := liesI_new (l := [(0 : Int), (1 : Int), (2 : Int), (3 : Int)]) q2 (by decide)
        have CALL := Lib.hid (plain_of t IH.out HRK.out 23 [0, 1, 2, 3] hpk (by decide) _ _ _ (HL.out.keep hb3) hti)
        have HRES := Lib.hid hres
        clear hti hpk hres q2
        have e3 : (t.k == 3) = false := by rw [hkc]; decide
        have e4 : (t.k == 4) = false := by rw [hkc]; decide
        have e5 : (t.k == 5) = false := by rw [hkc]; decide
        have e6 : (t.k == 6) = false := by rw [hkc]; decide
        have e7 : (t.k == 7) = false := by rw [hkc]; decide
        have e8 : (t.k == 8) = false := by rw [hkc]; decide
        have e9 : (t.k == 9) = false := by rw [hkc]; decide
        have e10 : (t.k == 10) = false := by rw [hkc]; decide
        have e11 : (t.k == 11) = false := by rw [hkc]; decide
        have e12 : (t.k == 12) = true := by rw [hkc]; decide
        clear hkc
        go_enter Try.func73, Try.ntmps73
        go_wp2_with fail
        refine CALL.out.mono ?_
        rintro e wn ⟨s2, rfl, hl2, hbn⟩
        obtain ⟨a2, cap2, rfl, -, -⟩ := hl2.out
        have hbw := hb3.trans (hbn.mono hb3.size)
        have q1n := hbn.block (w.heap.size + 1) (by simp)
        rw [q1] at q1n
        obtain ⟨z0, z1, z2, z3, z4⟩ := five_cells q1n
        obtain ⟨f0, f1, f2, f3, f4⟩ := five_free q1n
        have HL2 := Lib.hid hl2
        have q0n := hbn.block w.heap.size (by simp; omega)
        rw [q0] at q0n
        obtain ⟨d0, d1, d2, d3, d4⟩ := five_cells q0n
        have hsn : w.heap.size + 1 < wn.heap.size := by have := (Array.getElem?_eq_some_iff.1 q1n).1; exact this
        have hsn0 : w.heap.size < wn.heap.size := by omega
        clear hbn hl2 q1
        go_wp2_with fail
        go_region
        all_goals
          go_wp2
          refine bodyPost_ret (results_cell_row rfl _ _ (w.heap.size + 1) _ _ _ du rfl (five_alloc q1n _ _ _ _ _ _) hu1 (by cases du <;> first | rfl | exact hu2) size_term) rfl ?_
          rw [HRES.out]
          exact ⟨_, rfl, (liesP_fives_alloc HL2.out (by simp <;> omega) (by simp <;> omega) _ _ _ _ _ _).later (Below.refl _ _).drew, (below_five_alloc hbw (by omega) (by omega) _ _ _ _ _ _).drew⟩
    · have hres : t.bare = .mk t.k t.i t.j t.n (t.kids.map Tm.bare) := by rw [Tm.bare_eq, bareNode, if_neg hmk]
      have HRES := Lib.hid hres
      have e3 : (t.k == 3) = false := by simp; omega
      have e4 : (t.k == 4) = false := by simp; omega
      have e5 : (t.k == 5) = false := by simp; omega
      have e6 : (t.k == 6) = false := by simp; omega
      have e7 : (t.k == 7) = false := by simp; omega
      have e8 : (t.k == 8) = false := by simp; omega
      have e9 : (t.k == 9) = false := by simp; omega
      have e10 : (t.k == 10) = false := by simp; omega
      have e11 : (t.k == 11) = false := by simp; omega
      have e12 : (t.k == 12) = false := by simp; omega
      have hd0 := desk_start w t t (.slice a t.kids.length cap) (.slice none 0 0)
      obtain ⟨i0, hi, hz0, hz1, hz2⟩ := info_parts info_term
      have HI := Lib.hid (And.intro hi (And.intro hz0 (And.intro hz1 hz2)))
      clear hi hz0 hz1 hz2 hres hmk hkind
      go_enter Try.func73, Try.ntmps73
      go_wp2_with fail
      go_loopw [76] (fun i wr => ∃ (q : Nat) (ps : List (Tm × Value)) (vv : Value), q ≤ t.kids.length ∧ i = .int .i64 q ∧ Hid (ps.map (·.1) = (t.kids.map Tm.bare).take q) ∧ Made (w.heap.size + 3) wr vv ps ∧ Desk w t t (.slice a t.kids.length cap) vv wr) (fun i _ => t.kids.length - (intOf i).toNat)
      case atStart => exact ⟨0, [], _, Nat.zero_le _, rfl, by simp [Hid], made_nil _ _, hd0⟩
      case round =>
        clear hd0
        obtain ⟨q, ps, vv, hq0, rfl, hps, hmade, hdk⟩ := hrel
        have HPS := Lib.hid hps.out
        clear hps
        obtain ⟨q0, q1, q2⟩ := desk_blocks hdk
        obtain ⟨d0, d1, d2, d3, d4⟩ := five_cells q0
        obtain ⟨y0, y1, y2, y3, y4⟩ := five_cells q2
        obtain ⟨z0, z1, z2, z3, z4⟩ := five_cells q1
        obtain ⟨f0, f1, f2, f3, f4⟩ := five_free q1
        have hsz := desk_size hdk
        have hsw : w.heap.size + 1 + 1 < wr.heap.size := by omega
        clear q0 q2
        by_cases hlt : q < t.kids.length
        · obtain ⟨b', o, rfl, hx⟩ := HN.out q hlt
          have hq := HK.out q hlt
          obtain ⟨a', cap', S', hS, -⟩ := hq.out
          rw [hS] at hx hq
          obtain ⟨c0, c1, c2, c3, c4⟩ := hx.below (desk_under hdk) hx.lt
          have HM := Lib.hid (List.getElem_mem hlt)
          have hrk := HRK.out _ HM.out
          have hfx := right_fine (plain_right (bare_plain _ hrk))
          obtain ⟨x, hxb⟩ : ∃ x, (t.kids[q]).bare = x := ⟨_, rfl⟩
          have hb9 : Below wr.heap.size wr (wr.alloc (.cells #[.int .i64 t.kids[q].k, .int .i64 t.kids[q].i, .int .i64 t.kids[q].j, .int .i64 t.kids[q].n, .slice a' t.kids[q].kids.length cap'] 27)).drew := ((Below.refl _ _).alloc (Nat.le_refl _) _).drew
          have CALL := IH.out _ HM.out _ _ (hq.keep ((desk_under hdk).trans (hb9.mono (by omega)))) hrk
          rw [hxb] at CALL hfx
          have hpl : ps.length = q := by have := congrArg List.length HPS.out; simp at this; omega
          have hnext : (t.kids.map Tm.bare).take (q + 1) = (t.kids.map Tm.bare).take q ++ [x] := by
            rw [List.take_succ_eq_append_getElem (by simpa using hlt), List.getElem_map, hxb]
          have HPL := Lib.hid hpl
          have HMD := Lib.hid hmade
          have HFX := Lib.hid hfx
          have HNX := Lib.hid hnext
          have HB9 := Lib.hid hb9
          have HCALL := Lib.hid CALL
          have hda := desk_later hdk ((Below.refl _ _).alloc (Nat.le_refl _) (.cells #[.int .i64 t.kids[q].k, .int .i64 t.kids[q].i, .int .i64 t.kids[q].j, .int .i64 t.kids[q].n, .slice a' t.kids[q].kids.length cap'] 27))
          obtain ⟨-, -, r2⟩ := desk_blocks hda
          obtain ⟨-, -, -, -, r4⟩ := five_cells r2
          clear hS hq hx hfx hxb hrk hpl hnext hmade CALL hb9 hda r2
          go_wp2_with fail
          go_region_law (first | (refine step_append_lies _ rfl _ _ 25 rfl (w.heap.size + 3) 27 i0 _ 5 56 (by kernel_rfl) HI.out.1 HI.out.2.1 HI.out.2.2.1 HI.out.2.2.2 rfl (by decide) _ ps.length (cells5 ps) rfl (made_later (made_later HMD.out HB2.out) ((Below.refl _ _).alloc (Nat.le_refl _) _)).own ⟨wn.heap.size, 0, none⟩ 1 1 (cells5 [(x, .slice a2 x.kids.length cap2)]) rfl rfl (news_new _ _ _ _) (one5 _ _) (by decide) (by have := HPL.out; unfold maxLen; omega) (by have := HPL.out; omega) (by have := desk_size hd2; simp; omega) _ rfl ?_; intro g cap3 w3 hown hgrow hat _; have hpb := push_once hdk HMD.out HFX.out HB2.out HL2.out _ hown hgrow hat; have HPB := Lib.hid hpb.1; have hd3 := hpb.2; have HD3 := Lib.hid hd3; obtain ⟨-, -, r3⟩ := desk_blocks hd3; obtain ⟨-, -, -, -, r4⟩ := five_cells r3; obtain ⟨-, -, -, -, s4⟩ := five_free r3; clear r3 hpb hown hgrow hat hd3) | (go_simp; go_at_call 73; ((with_reducible refine Calls.mono HCALL.out ?_); rintro e wn ⟨s2, rfl, hl2, hbn⟩; obtain ⟨a2, cap2, rfl, -, -⟩ := hl2.out; have hbn2 := HB9.out.trans (hbn.mono HB9.out.size); have hd2 := desk_later hdk hbn2; obtain ⟨-, -, r2⟩ := desk_blocks hd2; obtain ⟨-, -, -, -, r4⟩ := five_cells r2; have HL2 := Lib.hid (hl2.from (B' := wr.heap.size) (by simp <;> omega)); have HB2 := Lib.hid hbn2; have hsn : w.heap.size + 1 + 1 < wn.heap.size := (by have := desk_size hd2; omega); clear r2 hl2 hbn hbn2)))
          all_goals
            go_wp2_with fail
            go_roundw
            case rel => exact ⟨q + 1, ps ++ [(x, .slice a2 x.kids.length cap2)], _, hlt, by go_num, by rw [Hid, List.map_append, HPS.out, HNX.out]; rfl, made_below HPB.out (by omega) _, desk_set HD3.out⟩
            case measure => simp [intOf]; omega
        · have : q = t.kids.length := by omega
          subst this
          have hres : ps.map (·.1) = t.kids.map Tm.bare := by
            have := HPS.out
            rwa [List.take_of_length_le (by simp)] at this
          have hll := made_lies hmade
          rw [hres] at hll
          obtain ⟨a2, cap2, rfl, -, -⟩ := hll.out
          simp only [List.length_map] at hll hdk y4
          have HLL := Lib.hid hll
          clear hres hll
          go_wp2
          (try simp only [Exit.inBlock, Exit.then])
          refine bodyPost_ret (results_cell_row rfl _ _ (w.heap.size + 1) _ _ _ du rfl (five_set q1) hu1 (by cases du <;> first | rfl | exact hu2) size_term) rfl ?_
          rw [HRES.out]
          exact ⟨_, rfl, liesP_fives HLL.out (by omega) (by omega) _ _ _ _ _, below_five (desk_under hdk) (by omega) _ _ _ _ _⟩
end Go.Proofs.Ytmicgbdcbjajiaa
namespace Go.Proofs.Ytmicgbdcbjajiaa
open Go.RowKit
theorem boxes_two {w w' : World} {t : Tm} {s : Value} (h : Boxes w t s w') : w'.heap[w.heap.size]? = some (boxOf t s) ∧ w'.heap[w.heap.size + 1]? = some zeroObj := by
  refine ⟨?_, boxes_block h⟩
  rw [Below.block h _ (by omega), Below.heap_alloc _ _ _ (by simp), alloc_new]
end Go.Proofs.Ytmicgbdcbjajiaa
namespace Go.Proofs.Ytmicgbdcbjajiaa
open Go.RowKit
def Row (w : World) (b : Nat) : Nat → List (Tm × Value) → Prop
  | _, [] => True
  | o, (t, s) :: r => Node w b o t s ∧ t.fine ∧ Lies w t.kids s ∧ Row w b (o + 5) r
theorem Row.at {w : World} {b : Nat} {ps : List (Tm × Value)} : ∀ {o : Nat}, Row w b o ps → ∀ i (h : i < ps.length), Node w b (o + i * 5) (ps[i]).1 (ps[i]).2 ∧ (ps[i]).1.fine ∧ Lies w (ps[i]).1.kids (ps[i]).2 := by
  induction ps with
  | nil => intro o _ i h; simp at h
  | cons p r ih =>
    intro o hr i h
    cases i with
    | zero => exact ⟨by simpa using hr.1, hr.2.1, hr.2.2.1⟩
    | succ i =>
      have := ih hr.2.2.2 i (by simpa using h)
      rw [show o + 5 + i * 5 = o + (i + 1) * 5 by omega] at this
      simpa using this
theorem Row.lies {w : World} {b o cap : Nat} {ps : List (Tm × Value)} (h : Row w b o ps) (hc : ps.length ≤ cap) (hm : cap ≤ maxLen) : Lies w (ps.map (·.1)) (.slice (some ⟨b, o, none⟩) ps.length cap) := by
  have := Lies.mk (w := w) (ps.map (·.1)) (some ⟨b, o, none⟩) cap (fun i => (ps[i]?.map (·.2)).getD (.slice none 0 0)) (by simpa using hc) hm
    (fun x hx => by
      obtain ⟨p, hp, rfl⟩ := List.mem_map.1 hx
      obtain ⟨i, hi, rfl⟩ := List.getElem_of_mem hp
      exact (h.at i hi).2.1)
    (fun i hi => by
      have hi' : i < ps.length := by simpa using hi
      refine ⟨b, o, rfl, ?_⟩
      simp only [List.getElem_map, List.getElem?_eq_getElem hi', Option.map_some, Option.getD_some]
      exact (h.at i hi').1)
    (fun i hi => by
      have hi' : i < ps.length := by simpa using hi
      simp only [List.getElem_map, List.getElem?_eq_getElem hi', Option.map_some, Option.getD_some]
      exact (h.at i hi').2.2)
  simpa using this
end Go.Proofs.Ytmicgbdcbjajiaa
namespace Go.Proofs.Ytmicgbdcbjajiaa
theorem marked_kind {t : Tm} (h : t.markedB = true) : 1 ≤ t.k ∧ t.k ≤ 12 := by rw [Tm.markedB_eq] at h; simp at h; omega
end Go.Proofs.Ytmicgbdcbjajiaa
namespace Go.Proofs.Ytmicgbdcbjajiaa
open Go.RowKit
structure Pair (w : World) (x : Tm) (s : Value) (w' : World) : Prop where
  under : Below w.heap.size w w'
  box : w'.heap[w.heap.size]? = some (boxOf x s)
  res : w'.heap[w.heap.size + 1]? = some zeroObj
theorem Pair.put {w w1 : World} {x : Tm} {s : Value} (h : Pair w x s w1) (y : Tm) (sy : Value) : Pair w y sy (five w1 w.heap.size (.int .i64 y.k) (.int .i64 y.i) (.int .i64 y.j) (.int .i64 y.n) sy) :=
  ⟨below_five h.under (Nat.le_refl _) _ _ _ _ _, five_set h.box, by rw [five_other _ _ _ _ _ _ _ (by omega)]; exact h.res⟩
end Go.Proofs.Ytmicgbdcbjajiaa
namespace Go.Proofs.Ytmicgbdcbjajiaa
open Go.RowKit
structure Two (w : World) (x : Tm) (s : Value) (y : Tm) (r : Value) (w' : World) : Prop where
  under : Below w.heap.size w w'
  one : w'.heap[w.heap.size]? = some (boxOf x s)
  two : w'.heap[w.heap.size + 1]? = some (boxOf y r)
theorem Two.call {w w1 w2 : World} {x y : Tm} {s r : Value} (h : Two w x s y r w1) (hb : Below w1.heap.size w1 w2) : Two w x s y r w2 :=
  ⟨h.under.trans (hb.mono h.under.size), by rw [hb.block _ (block_lt h.one)]; exact h.one, by rw [hb.block _ (block_lt h.two)]; exact h.two⟩
theorem Two.drew {w w1 : World} {x y : Tm} {s r : Value} (h : Two w x s y r w1) : Two w x s y r w1.drew := ⟨h.under.drew, h.one, h.two⟩
theorem Two.put {w w1 : World} {x y : Tm} {s r : Value} (h : Two w x s y r w1) (p : Tm) (sp : Value) (q : Tm) (sq : Value) : Two w p sp q sq (five (five w1 w.heap.size (.int .i64 p.k) (.int .i64 p.i) (.int .i64 p.j) (.int .i64 p.n) sp) (w.heap.size + 1) (.int .i64 q.k) (.int .i64 q.i) (.int .i64 q.j) (.int .i64 q.n) sq) :=
  ⟨below_five (below_five h.under (Nat.le_refl _) _ _ _ _ _) (by omega) _ _ _ _ _, by rw [five_other _ _ _ _ _ _ _ (by omega)]; exact five_set h.one, five_set (by rw [five_other _ _ _ _ _ _ _ (by omega)]; exact h.two)⟩
end Go.Proofs.Ytmicgbdcbjajiaa
namespace Go.Proofs.Ytmicgbdcbjajiaa
open Go.RowKit
set_option maxHeartbeats 1000000 in
theorem refnode_any (t : Tm) (w : World) (s : Value) (hl : Lies w t.kids s) : Calls Try.prog 47 #[tv t s] w fun e w' => e = .returned (.bool t.nodeB) ∧ Below w.heap.size w w' := by
  obtain ⟨a, cap, S, hs, hc, hm, -⟩ := hl.out
  subst hs
  unfold maxLen at hm
  have HB := (Below.refl (w.heap.size + 1) (w.alloc (.cells #[.int .i64 t.k, .int .i64 t.i, .int .i64 t.j, .int .i64 t.n, .slice a t.kids.length cap] 27)))
  have HBX := Lib.hid (fun (wr : World) => box_cells (w := w) (wr := wr) (v0 := .int .i64 t.k) (v1 := .int .i64 t.i) (v2 := .int .i64 t.j) (v3 := .int .i64 t.n) (v4 := .slice a t.kids.length cap) (T := 27))
  clear hl
  unfold tv
  go_enter Try.func47, Try.ntmps47
  cases h3 : ((t.kids.length : Int) == kidsN t.k t.n)
  · go_wp2
    go_region_with (go_at_call 66; refine (refkids_any _ _ _).mono ?_; rintro e w1 ⟨rfl, hb1⟩; have HB2 := below_call HB.drew hb1 (by simp); obtain ⟨d0, d1, d2, d3, d4⟩ := HBX.out _ HB2; clear hb1)
    all_goals
      go_wp2
      go_ret
      exact ⟨ret_bool (by simp only [Tm.nodeB, h3, Bool.false_and]), below_of_box HB2⟩
  · go_wp2
    go_region_held3 (fun w' => w'.cell? ⟨w.heap.size, 0, none⟩ = some (.int .i64 t.k) ∧ w'.cell? ⟨w.heap.size, 1, none⟩ = some (.int .i64 t.i) ∧ w'.cell? ⟨w.heap.size, 2, none⟩ = some (.int .i64 t.j) ∧ w'.cell? ⟨w.heap.size, 3, none⟩ = some (.int .i64 t.n) ∧ w'.cell? ⟨w.heap.size, 4, none⟩ = some (.slice a t.kids.length cap)) (go_keep)
      (first | (go_at_call 66; refine (refkids_any _ _ _).mono ?_; rintro e w1 ⟨rfl, hb1⟩; have HB2 := below_call HB.drew hb1 (by simp); obtain ⟨d0, d1, d2, d3, d4⟩ := HBX.out _ HB2; clear hb1) | (go_at_call 67; refine (refnumbers_any t _ _).mono ?_; rintro e w2 ⟨rfl, hb2⟩; have HB3 := below_call HB2 hb2 (by have := HB2.size; simpa using this); obtain ⟨y0, y1, y2, y3, y4⟩ := HBX.out _ HB3; clear hb2))
    go_wp2
    go_ret
    exact ⟨ret_bool (by simp only [Tm.nodeB, h3, Bool.true_and]), below_of_box HB3⟩
set_option maxHeartbeats 1000000 in
theorem refplain_any (t : Tm) : ∀ (w : World) (s : Value), Lies w t.kids s → Calls Try.prog 48 #[tv t s] w fun e w' => e = .returned (.bool t.plainB) ∧ Below w.heap.size w w' := by
  induction t using Tm.ind with
  | h t ih =>
    intro w s hl
    obtain ⟨a, cap, S, rfl, hc, hm, hf, hn, hk⟩ := hl.out
    unfold tv
    unfold maxLen at hm
    have HL := Lib.hid ((hl.keep (w' := w.alloc (.cells #[.int .i64 t.k, .int .i64 t.i, .int .i64 t.j, .int .i64 t.n, .slice a t.kids.length cap] 27)) ((Below.refl _ _).alloc (Nat.le_refl _) _)))
    have HP := Lib.hid (t.plainB_eq)
    have IH := Lib.hid ih
    have HN := Lib.hid hn
    have HK := Lib.hid hk
    have HBX := Lib.hid (fun (wr : World) => box_cells (w := w) (wr := wr) (v0 := .int .i64 t.k) (v1 := .int .i64 t.i) (v2 := .int .i64 t.j) (v3 := .int .i64 t.n) (v4 := .slice a t.kids.length cap) (T := 27))
    clear ih hn hk hf hl
    by_cases hkind : t.k = 1 ∨ t.k = 2 ∨ (13 ≤ t.k ∧ t.k ≤ 23)
    rotate_left
    · have h1 : (t.k == 1) = false := by simp; omega
      have h2 : (t.k == 2) = false := by simp; omega
      have h5 : t.plainB = false := by rw [HP.out, h1, h2]; simp; omega
      have H5 := Lib.hid h5
      clear h5
      have h1' : (t.k != 1) = true := by simp; omega
      have h2' : (t.k != 2) = true := by simp; omega
      have h3 : t.k < 13 ∨ 23 < t.k := by omega
      rcases h3 with h3 | h3
      all_goals
        go_enter Try.func48, Try.ntmps48
        go_wp2
        go_ret
        exact ⟨ret_bool H5.out.symm, (Below.refl _ _).alloc (Nat.le_refl _) _⟩
    have hkb : (t.k == 1 || (t.k == 2 || (decide (13 ≤ t.k) && decide (t.k ≤ 23)))) = true := by simp; omega
    have HP2 : Hid (t.plainB = (t.nodeB && plains t.kids)) := by have := HP.out; rw [hkb, Bool.true_and] at this; exact this
    clear hkb
    have hk3 : t.k = 1 ∨ t.k = 2 ∨ (¬ t.k = 1 ∧ ¬ t.k = 2 ∧ 13 ≤ t.k ∧ t.k ≤ 23) := by omega
    have hb3 : ((t.k != 1) = false) ∨ ((t.k != 1) = true ∧ (t.k != 2) = false) ∨ ((t.k != 1) = true ∧ (t.k != 2) = true ∧ 13 ≤ t.k ∧ t.k ≤ 23) := by
      rcases hk3 with h | h | h
      · left; simp [h]
      · right; left; simp [h]
      · right; right; simp; omega
    clear hk3 hkind
    cases hn : t.nodeB with
    | false =>
      have h5 : t.plainB = false := by rw [HP2.out, hn]; rfl
      have H5 := Lib.hid h5
      have HNN := Lib.hid hn
      clear h5 hn
      rcases hb3 with h1 | ⟨h1, h2⟩ | ⟨h1, h2, h3, h4⟩
      all_goals
        go_enter Try.func48, Try.ntmps48
        go_wp2_with fail
        refine (refnode_any t _ _ HL.out).mono ?_
        rintro e w1 ⟨rfl, hb'⟩
        have HB2 := below_call (Below.refl (w.heap.size + 1) (w.alloc (.cells #[.int .i64 t.k, .int .i64 t.i, .int .i64 t.j, .int .i64 t.n, .slice a t.kids.length cap] 27))) hb' (by simp)
        obtain ⟨d0, d1, d2, d3, d4⟩ := HBX.out _ HB2
        clear hb'
        rw [HNN.out]
        go_wp2
        go_ret
        exact ⟨ret_bool H5.out.symm, below_of_box HB2⟩
    | true =>
      have HNN := Lib.hid hn
      clear hn
      rcases hb3 with h1 | ⟨h1, h2⟩ | ⟨h1, h2, h3, h4⟩
      all_goals
        go_enter Try.func48, Try.ntmps48
        go_wp2_with fail
        refine (refnode_any t _ _ HL.out).mono ?_
        rintro e w1 ⟨rfl, hb'⟩
        have HB2 := below_call (Below.refl (w.heap.size + 1) (w.alloc (.cells #[.int .i64 t.k, .int .i64 t.i, .int .i64 t.j, .int .i64 t.n, .slice a t.kids.length cap] 27))) hb' (by simp)
        obtain ⟨d0, d1, d2, d3, d4⟩ := HBX.out _ HB2
        clear hb'
        rw [HNN.out]
        go_wp2_with fail
        go_loopw [3] (fun iv wr => ∃ k : Nat, k ≤ t.kids.length ∧ iv = .int .i64 k ∧ Hid (plains (t.kids.take k) = true) ∧ Below (w.heap.size + 1) (w.alloc (.cells #[.int .i64 t.k, .int .i64 t.i, .int .i64 t.j, .int .i64 t.n, .slice a t.kids.length cap] 27)) wr) (fun iv _ => t.kids.length - (intOf iv).toNat)
        case atStart => exact ⟨0, Nat.zero_le _, rfl, by simp [Hid, plains], HB2⟩
        case round =>
          obtain ⟨k, hk, rfl, hgood, hb⟩ := hrel
          obtain ⟨d0, d1, d2, d3, d4⟩ := HBX.out _ hb
          have hb0 := below_of_box hb
          by_cases hlt : k < t.kids.length
          · obtain ⟨b, o, rfl, hx⟩ := HN.out k hlt
            have hy := hx.below hb0 hx.lt
            obtain ⟨c0, c1, c2, c3, c4⟩ := hy
            have hq := HK.out k hlt
            obtain ⟨a', cap', S', hS, -⟩ := hq.out
            rw [hS] at c4 hq
            have HQ := Lib.hid (hq.keep hb0)
            clear hS hq
            have HM := Lib.hid (List.getElem_mem hlt)
            have HT := Lib.hid (plains_take t.kids k hlt)
            go_wp2_with fail
            refine (IH.out _ HM.out _ _ HQ.out).mono ?_
            rintro e w2 ⟨rfl, hb'⟩
            have HB3 := below_call hb hb' (by have := hb.size; simpa using this)
            obtain ⟨x0, x1, x2, x3, x4⟩ := HBX.out _ HB3
            clear hb' hb d0 d1 d2 d3 d4 hb0 c0 c1 c2 c3 c4
            cases hp : (t.kids[k]).plainB
            · go_wp2
              go_ret
              exact ⟨ret_bool (by rw [HP2.out, plains_of t.kids k hlt hp, Bool.and_false]), below_of_box HB3⟩
            · go_wp2
              go_roundw
              case rel => exact ⟨k + 1, by omega, by go_num, by show _ = true; rw [HT.out, hgood.out, hp]; rfl, HB3⟩
              case measure => simp [intOf]; omega
          · have : k = t.kids.length := by omega
            subst this
            go_wp2
            go_ret
            exact ⟨ret_bool (by have hg := hgood.out; rw [List.take_length] at hg; rw [HP2.out, HNN.out, hg]; rfl), hb0⟩
end Go.Proofs.Ytmicgbdcbjajiaa
namespace Go.Proofs.Ytmicgbdcbjajiaa
open Go.RowKit
set_option maxHeartbeats 1000000 in
theorem refmarked_any (t : Tm) : ∀ (w : World) (s : Value), Lies w t.kids s → Calls Try.prog 20 #[tv t s] w fun e w' => e = .returned (.bool t.markedB) ∧ Below w.heap.size w w' := by
  induction t using Tm.ind with
  | h t ih =>
    intro w s hl
    obtain ⟨a, cap, S, rfl, hc, hm, hf, hn, hk⟩ := hl.out
    unfold tv
    unfold maxLen at hm
    have HL := Lib.hid ((hl.keep (w' := w.alloc (.cells #[.int .i64 t.k, .int .i64 t.i, .int .i64 t.j, .int .i64 t.n, .slice a t.kids.length cap] 27)) ((Below.refl _ _).alloc (Nat.le_refl _) _)))
    have HP := Lib.hid (t.markedB_eq)
    have IH := Lib.hid ih
    have HN := Lib.hid hn
    have HK := Lib.hid hk
    have HBX := Lib.hid (fun (wr : World) => box_cells (w := w) (wr := wr) (v0 := .int .i64 t.k) (v1 := .int .i64 t.i) (v2 := .int .i64 t.j) (v3 := .int .i64 t.n) (v4 := .slice a t.kids.length cap) (T := 27))
    clear ih hn hk hf hl
    by_cases h1 : t.k < 1
    · have H5 : Hid (t.markedB = false) := by show _ = _; rw [HP.out]; simp; omega
      go_enter Try.func20, Try.ntmps20
      go_wp2
      go_ret
      exact ⟨ret_bool H5.out.symm, (Below.refl _ _).alloc (Nat.le_refl _) _⟩
    by_cases h2 : 12 < t.k
    · have H5 : Hid (t.markedB = false) := by show _ = _; rw [HP.out]; simp; omega
      go_enter Try.func20, Try.ntmps20
      go_wp2
      go_ret
      exact ⟨ret_bool H5.out.symm, (Below.refl _ _).alloc (Nat.le_refl _) _⟩
    have hkb : (decide (1 ≤ t.k) && decide (t.k ≤ 12)) = true := by simp; omega
    have HP2 : Hid (t.markedB = (t.nodeB && markeds (t.k == 12) 0 t.kids)) := by have := HP.out; rw [hkb, Bool.true_and] at this; exact this
    clear hkb
    cases hn : t.nodeB with
    | false =>
      have H5 : Hid (t.markedB = false) := by show _ = _; rw [HP2.out, hn]; rfl
      have HNN := Lib.hid hn
      clear hn
      go_enter Try.func20, Try.ntmps20
      go_wp2_with fail
      refine (refnode_any t _ _ HL.out).mono ?_
      rintro e w1 ⟨rfl, hb'⟩
      have HB2 := below_call (Below.refl (w.heap.size + 1) (w.alloc (.cells #[.int .i64 t.k, .int .i64 t.i, .int .i64 t.j, .int .i64 t.n, .slice a t.kids.length cap] 27))) hb' (by simp)
      obtain ⟨d0, d1, d2, d3, d4⟩ := HBX.out _ HB2
      clear hb'
      rw [HNN.out]
      go_wp2
      go_ret
      exact ⟨ret_bool H5.out.symm, below_of_box HB2⟩
    | true =>
      have HNN := Lib.hid hn
      clear hn
      go_enter Try.func20, Try.ntmps20
      go_wp2_with fail
      refine (refnode_any t _ _ HL.out).mono ?_
      rintro e w1 ⟨rfl, hb'⟩
      have HB2 := below_call (Below.refl (w.heap.size + 1) (w.alloc (.cells #[.int .i64 t.k, .int .i64 t.i, .int .i64 t.j, .int .i64 t.n, .slice a t.kids.length cap] 27))) hb' (by simp)
      obtain ⟨d0, d1, d2, d3, d4⟩ := HBX.out _ HB2
      clear hb'
      rw [HNN.out]
      go_wp2_with fail
      go_loopw [3] (fun iv wr => ∃ k : Nat, k ≤ t.kids.length ∧ iv = .int .i64 k ∧ Hid (markeds (t.k == 12) 0 (t.kids.take k) = true) ∧ Below (w.heap.size + 1) (w.alloc (.cells #[.int .i64 t.k, .int .i64 t.i, .int .i64 t.j, .int .i64 t.n, .slice a t.kids.length cap] 27)) wr) (fun iv _ => t.kids.length - (intOf iv).toNat)
      case atStart => exact ⟨0, Nat.zero_le _, rfl, by simp [Hid, markeds], HB2⟩
      case round =>
        obtain ⟨k, hk, rfl, hgood, hb⟩ := hrel
        obtain ⟨d0, d1, d2, d3, d4⟩ := HBX.out _ hb
        have hb0 := below_of_box hb
        by_cases hlt : k < t.kids.length
        · obtain ⟨b, o, rfl, hx⟩ := HN.out k hlt
          have hy := hx.below hb0 hx.lt
          obtain ⟨c0, c1, c2, c3, c4⟩ := hy
          have hq := HK.out k hlt
          obtain ⟨a', cap', S', hS, -⟩ := hq.out
          rw [hS] at c4 hq
          have HQ := Lib.hid (hq.keep hb0)
          clear hS hq
          have HM := Lib.hid (List.getElem_mem hlt)
          have HT := Lib.hid (markeds_take (t.k == 12) t.kids 0 k hlt)
          cases e12 : (t.k == 12) <;> cases e2 : ((k : Int) == 2)
          rotate_right
          · have e2' : (k == 2) = ((k : Int) == 2) := by rw [e2]; simp at e2 ⊢; omega
            have hkB : (t.kids[k]).kidB (t.k == 12) k = (t.kids[k]).plainB := by simp [Tm.kidB, e12, e2', e2]
            have HKB := Lib.hid hkB
            clear e2' hkB
            go_wp2_with fail
            refine (refplain_any _ _ _ HQ.out).mono ?_
            rintro e w2 ⟨rfl, hb'⟩
            have HB3 := below_call hb hb' (by have := hb.size; simpa using this)
            obtain ⟨x0, x1, x2, x3, x4⟩ := HBX.out _ HB3
            clear hb' hb d0 d1 d2 d3 d4 hb0 c0 c1 c2 c3 c4
            cases hp : (t.kids[k]).plainB
            · go_wp2
              go_ret
              exact ⟨ret_bool (by rw [HP2.out, markeds_of _ t.kids 0 k hlt (by rw [Nat.zero_add, HKB.out]; exact hp), Bool.and_false]), below_of_box HB3⟩
            · go_wp2
              go_roundw
              case rel => exact ⟨k + 1, by omega, by go_num, by have h1 := HT.out; rw [hgood.out, Nat.zero_add, HKB.out, hp] at h1; show _ = true; first | exact h1 | (rw [e12] at h1; exact h1), HB3⟩
              case measure => simp [intOf]; omega
          all_goals
            have e2' : (k == 2) = ((k : Int) == 2) := by rw [e2]; simp at e2 ⊢; omega
            have hkB : (t.kids[k]).kidB (t.k == 12) k = (t.kids[k]).markedB := by simp [Tm.kidB, e12, e2', e2]
            have HKB := Lib.hid hkB
            clear e2' hkB
            go_wp2_with fail
            refine (IH.out _ HM.out _ _ HQ.out).mono ?_
            rintro e w2 ⟨rfl, hb'⟩
            have HB3 := below_call hb hb' (by have := hb.size; simpa using this)
            obtain ⟨x0, x1, x2, x3, x4⟩ := HBX.out _ HB3
            clear hb' hb d0 d1 d2 d3 d4 hb0 c0 c1 c2 c3 c4
            cases hp : (t.kids[k]).markedB
            · go_wp2
              go_ret
              exact ⟨ret_bool (by rw [HP2.out, markeds_of _ t.kids 0 k hlt (by rw [Nat.zero_add, HKB.out]; exact hp), Bool.and_false]), below_of_box HB3⟩
            · go_wp2
              go_roundw
              case rel => exact ⟨k + 1, by omega, by go_num, by have h1 := HT.out; rw [hgood.out, Nat.zero_add, HKB.out, hp] at h1; show _ = true; first | exact h1 | (rw [e12] at h1; exact h1), HB3⟩
              case measure => simp [intOf]; omega
        · have : k = t.kids.length := by omega
          subst this
          go_wp2
          go_ret
          exact ⟨ret_bool (by have hg := hgood.out; rw [List.take_length] at hg; rw [HP2.out, HNN.out, hg]; rfl), hb0⟩
end Go.Proofs.Ytmicgbdcbjajiaa
namespace Go.Proofs.Ytmicgbdcbjajiaa
open Go.RowKit
theorem counts_le_sizes (l : List Tm) : counts l ≤ sizes l := by
  induction l with
  | nil => simp [counts]
  | cons a r ih => simp only [counts, sizes]; have := count_le_size a; omega
set_option maxHeartbeats 800000 in
theorem refcount_any (t : Tm) : ∀ (w : World) (s : Value), Lies w t.kids s → t.size ≤ 1000000000000 → Calls Try.prog 21 #[tv t s] w fun e w' => e = .returned (.int .i64 (t.count : Nat)) ∧ Below w.heap.size w w' := by
  induction t using Tm.ind with
  | h t ih =>
    intro w s hl hs
    obtain ⟨a, cap, S, rfl, hc, hm, hf, hn, hk⟩ := hl.out
    unfold tv
    unfold maxLen at hm
    have HSZ := Lib.hid (t.size_eq)
    have HCQ := Lib.hid (t.count_eq)
    have HCS := Lib.hid ((fun (x : Tm) (_ : x ∈ t.kids) => count_le_size x))
    have IH := Lib.hid ih
    have HN := Lib.hid hn
    have HK := Lib.hid hk
    have HBX := Lib.hid (fun (wr : World) => box_cells (w := w) (wr := wr) (v0 := .int .i64 t.k) (v1 := .int .i64 t.i) (v2 := .int .i64 t.j) (v3 := .int .i64 t.n) (v4 := .slice a t.kids.length cap) (T := 27))
    clear ih hn hk hf hl
    have hcases : (t.k == 12) = true ∨ (t.k == 12) = false := by cases (t.k == 12) <;> simp
    rcases hcases with e12 | e12
    rotate_left
    · have H12 : Hid ((if t.k = 12 then 1 else 0) = 0) := by show _ = _; simp at e12; simp [e12]
      go_enter Try.func21, Try.ntmps21
      go_wp2
      go_loopw [3, 4] (fun n i wr => ∃ k : Nat, k ≤ t.kids.length ∧ i = .int .i64 k ∧ n = .int .i64 ((0 + counts (t.kids.take k) : Nat) : Int) ∧ Below (w.heap.size + 1) (w.alloc (.cells #[.int .i64 t.k, .int .i64 t.i, .int .i64 t.j, .int .i64 t.n, .slice a t.kids.length cap] 27)) wr) (fun n i _ => t.kids.length - (intOf i).toNat)
      case atStart => exact ⟨0, Nat.zero_le _, rfl, by simp [counts], Below.refl _ _⟩
      case round =>
        obtain ⟨k, hk, rfl, rfl, hb⟩ := hrel
        obtain ⟨d0, d1, d2, d3, d4⟩ := HBX.out _ hb
        have hb0 := below_of_box hb
        by_cases hlt : k < t.kids.length
        · obtain ⟨b, o, rfl, hx⟩ := HN.out k hlt
          have hy := hx.below hb0 hx.lt
          obtain ⟨c0, c1, c2, c3, c4⟩ := hy
          have hq := HK.out k hlt
          obtain ⟨a', cap', S', hS, -⟩ := hq.out
          rw [hS] at c4 hq
          have HQ := Lib.hid (hq.keep hb0)
          clear hS hq
          have HM := Lib.hid (List.getElem_mem hlt)
          have HT := Lib.hid (counts_take t.kids k hlt)
          have h1 := sizes_le t.kids (k + 1)
          have h2 : 1 + sizes (t.kids.take k) + (t.kids[k]).size ≤ 1000000000000 := by rw [sizes_take t.kids k hlt] at h1; rw [HSZ.out] at hs; omega
          have h3 : counts (t.kids.take k) ≤ sizes (t.kids.take k) := counts_le_sizes _
          have h4 := count_le_size (t.kids[k])
          clear h1
          go_wp2_with fail
          refine (IH.out _ HM.out _ _ HQ.out (by omega)).mono ?_
          rintro e w2 ⟨rfl, hb'⟩
          have HB3 := below_call hb hb' (by have := hb.size; simpa using this)
          obtain ⟨x0, x1, x2, x3, x4⟩ := HBX.out _ HB3
          clear hb' hb d0 d1 d2 d3 d4 hb0 c0 c1 c2 c3 c4
          go_wp2
          go_roundw
          case rel => exact ⟨k + 1, by omega, by go_num, by rw [HT.out]; go_num, HB3⟩
          case measure => simp [intOf]; omega
        · have : k = t.kids.length := by omega
          subst this
          go_wp2
          go_ret
          refine ⟨?_, hb0⟩
          rw [List.take_length, HCQ.out, H12.out]
          rfl
    · have H12 : Hid ((if t.k = 12 then 1 else 0) = 1) := by show _ = _; simp at e12; simp [e12]
      go_enter Try.func21, Try.ntmps21
      go_wp2
      go_loopw [3, 4] (fun n i wr => ∃ k : Nat, k ≤ t.kids.length ∧ i = .int .i64 k ∧ n = .int .i64 ((1 + counts (t.kids.take k) : Nat) : Int) ∧ Below (w.heap.size + 1) (w.alloc (.cells #[.int .i64 t.k, .int .i64 t.i, .int .i64 t.j, .int .i64 t.n, .slice a t.kids.length cap] 27)) wr) (fun n i _ => t.kids.length - (intOf i).toNat)
      case atStart => exact ⟨0, Nat.zero_le _, rfl, by simp [counts], Below.refl _ _⟩
      case round =>
        obtain ⟨k, hk, rfl, rfl, hb⟩ := hrel
        obtain ⟨d0, d1, d2, d3, d4⟩ := HBX.out _ hb
        have hb0 := below_of_box hb
        by_cases hlt : k < t.kids.length
        · obtain ⟨b, o, rfl, hx⟩ := HN.out k hlt
          have hy := hx.below hb0 hx.lt
          obtain ⟨c0, c1, c2, c3, c4⟩ := hy
          have hq := HK.out k hlt
          obtain ⟨a', cap', S', hS, -⟩ := hq.out
          rw [hS] at c4 hq
          have HQ := Lib.hid (hq.keep hb0)
          clear hS hq
          have HM := Lib.hid (List.getElem_mem hlt)
          have HT := Lib.hid (counts_take t.kids k hlt)
          have h1 := sizes_le t.kids (k + 1)
          have h2 : 1 + sizes (t.kids.take k) + (t.kids[k]).size ≤ 1000000000000 := by rw [sizes_take t.kids k hlt] at h1; rw [HSZ.out] at hs; omega
          have h3 : counts (t.kids.take k) ≤ sizes (t.kids.take k) := counts_le_sizes _
          have h4 := count_le_size (t.kids[k])
          clear h1
          go_wp2_with fail
          refine (IH.out _ HM.out _ _ HQ.out (by omega)).mono ?_
          rintro e w2 ⟨rfl, hb'⟩
          have HB3 := below_call hb hb' (by have := hb.size; simpa using this)
          obtain ⟨x0, x1, x2, x3, x4⟩ := HBX.out _ HB3
          clear hb' hb d0 d1 d2 d3 d4 hb0 c0 c1 c2 c3 c4
          go_wp2
          go_roundw
          case rel => exact ⟨k + 1, by omega, by go_num, by rw [HT.out]; go_num, HB3⟩
          case measure => simp [intOf]; omega
        · have : k = t.kids.length := by omega
          subst this
          go_wp2
          go_ret
          refine ⟨?_, hb0⟩
          rw [List.take_length, HCQ.out, H12.out]
          rfl
set_option maxHeartbeats 800000 in
theorem refright_any (t : Tm) (w : World) (s : Value) (hl : Lies w t.kids s) : Calls Try.prog 22 #[tv t s] w fun e w' => e = .returned (.bool t.rightB) ∧ Below w.heap.size w w' := by
  obtain ⟨a, cap, S, hs, -⟩ := hl.out
  subst hs
  have HB := (Below.refl (w.heap.size + 1) (w.alloc (.cells #[.int .i64 t.k, .int .i64 t.i, .int .i64 t.j, .int .i64 t.n, .slice a t.kids.length cap] 27)))
  have HL := Lib.hid (hl.keep (below_of_box HB))
  have HBX := Lib.hid (fun (wr : World) => box_cells (w := w) (wr := wr) (v0 := .int .i64 t.k) (v1 := .int .i64 t.i) (v2 := .int .i64 t.j) (v3 := .int .i64 t.n) (v4 := .slice a t.kids.length cap) (T := 27))
  have hl0 := Lib.hid hl
  clear hl
  unfold tv
  go_enter Try.func22, Try.ntmps22
  go_wp2_with fail
  refine (refmarked_any t _ _ HL.out).mono ?_
  rintro e w' ⟨rfl, hb'⟩
  have HB2 := below_call HB hb' (by simp)
  obtain ⟨d0, d1, d2, d3, d4⟩ := HBX.out _ HB2
  clear hb'
  have HL2 := Lib.hid (hl0.out.keep (below_of_box HB2))
  cases hm : t.markedB
  · go_wp2_with fail
    refine (refplain_any t _ _ HL2.out).mono ?_
    rintro e w2 ⟨rfl, hb'⟩
    have HB3 := below_call HB2 hb' (by have := HB2.size; simpa using this)
    clear hb'
    go_wp2
    go_ret
    exact ⟨ret_bool (by simp [Tm.rightB, hm]), below_of_box HB3⟩
  · go_wp2
    go_ret
    exact ⟨ret_bool (by simp [Tm.rightB, hm]), below_of_box HB2⟩
set_option maxHeartbeats 800000 in
theorem refpure_any (t : Tm) (w : World) (s : Value) (hl : Lies w t.kids s) (hs : t.size ≤ 1000000000000) : Calls Try.prog 9 #[tv t s] w fun e w' => e = .returned (.bool t.pureB) ∧ Below w.heap.size w w' := by
  obtain ⟨a, cap, S, hs, -⟩ := hl.out
  subst hs
  have HB := (Below.refl (w.heap.size + 1) (w.alloc (.cells #[.int .i64 t.k, .int .i64 t.i, .int .i64 t.j, .int .i64 t.n, .slice a t.kids.length cap] 27)))
  have HL := Lib.hid (hl.keep (below_of_box HB))
  have HBX := Lib.hid (fun (wr : World) => box_cells (w := w) (wr := wr) (v0 := .int .i64 t.k) (v1 := .int .i64 t.i) (v2 := .int .i64 t.j) (v3 := .int .i64 t.n) (v4 := .slice a t.kids.length cap) (T := 27))
  have hl0 := Lib.hid hl
  clear hl
  unfold tv
  go_enter Try.func9, Try.ntmps9
  go_wp2_with fail
  refine (refmarked_any t _ _ HL.out).mono ?_
  rintro e w' ⟨rfl, hb'⟩
  have HB2 := below_call HB hb' (by simp)
  obtain ⟨d0, d1, d2, d3, d4⟩ := HBX.out _ HB2
  clear hb'
  have HL2 := Lib.hid (hl0.out.keep (below_of_box HB2))
  cases hm : t.markedB
  · go_wp2
    go_ret
    exact ⟨ret_bool (by simp [Tm.pureB, hm]), below_of_box HB2⟩
  · go_wp2_with fail
    refine (refcount_any t _ _ HL2.out hs).mono ?_
    rintro e w2 ⟨rfl, hb'⟩
    have HB3 := below_call HB2 hb' (by have := HB2.size; simpa using this)
    clear hb'
    go_wp2
    go_ret
    exact ⟨ret_bool (by simp [Tm.pureB, hm]; (try rw [Bool.eq_iff_iff]); (try simp)), below_of_box HB3⟩
set_option maxHeartbeats 800000 in
theorem refFree_any (t : Tm) (w : World) (s : Value) (hl : Lies w t.kids s) : Calls Try.prog 10 #[tv t s] w fun e w' => e = .returned (.int .i64 t.freeB) ∧ Below w.heap.size w w' := by
  obtain ⟨a, cap, S, hs, -⟩ := hl.out
  subst hs
  have HB := (Below.refl (w.heap.size + 1) (w.alloc (.cells #[.int .i64 t.k, .int .i64 t.i, .int .i64 t.j, .int .i64 t.n, .slice a t.kids.length cap] 27)))
  have HL := Lib.hid (hl.keep (below_of_box HB))
  have HBX := Lib.hid (fun (wr : World) => box_cells (w := w) (wr := wr) (v0 := .int .i64 t.k) (v1 := .int .i64 t.i) (v2 := .int .i64 t.j) (v3 := .int .i64 t.n) (v4 := .slice a t.kids.length cap) (T := 27))
  have hl0 := Lib.hid hl
  clear hl
  unfold tv
  go_enter Try.func10, Try.ntmps10
  go_wp2_with fail
  refine (refright_any t _ _ HL.out).mono ?_
  rintro e w' ⟨rfl, hb'⟩
  have HB2 := below_call HB hb' (by simp)
  obtain ⟨d0, d1, d2, d3, d4⟩ := HBX.out _ HB2
  clear hb'
  have HL2 := Lib.hid (hl0.out.keep (below_of_box HB2))
  cases hr : t.rightB
  · go_wp2
    go_ret
    exact ⟨ret_int (by simp [Tm.freeB, hr]), below_of_box HB2⟩
  · go_wp2_with fail
    refine (reffree_any t _ _ HL2.out hr).mono ?_
    rintro e w2 ⟨rfl, hb'⟩
    have HB3 := below_call HB2 hb' (by have := HB2.size; simpa using this)
    clear hb'
    go_wp2
    go_ret
    exact ⟨ret_int (by simp [Tm.freeB, hr]), below_of_box HB3⟩
end Go.Proofs.Ytmicgbdcbjajiaa
namespace Go.Proofs.Ytmicgbdcbjajiaa
open Go.RowKit
def Tm.stripB (t : Tm) : Tm := if t.rightB = true then t.bare else .zero
set_option maxHeartbeats 2000000 in
theorem strip_any (t : Tm) (w : World) (s : Value) (hl : Lies w t.kids s) : Calls Try.prog 57 #[tv t s] w (Makes t.stripB w) := by
  obtain ⟨a, cap, S, rfl, hc, hm, -, -, -⟩ := hl.out
  have HL := Lib.hid hl
  obtain ⟨du, hu1, hu2⟩ := under_term
  have H0 := boxes_start w t (.slice a t.kids.length cap)
  clear hl
  unfold tv
  cases hr : t.rightB with
  | false =>
    have hres := Lib.hid (show t.stripB = Tm.zero by unfold Tm.stripB; rw [if_neg (by rw [hr]; decide)])
    go_enter Try.func57, Try.ntmps57
    go_wp2_with fail
    refine (right_any t _ _ (boxes_lies H0 HL.out)).mono ?_
    rw [hr]
    rintro e w2 ⟨rfl, hb2⟩
    have H2 := boxes_call H0 hb2
    obtain ⟨-, q1⟩ := boxes_two H2
    obtain ⟨d0, d1, d2, d3, d4⟩ := held_cells (boxes_held H2)
    obtain ⟨z0, z1, z2, z3, z4⟩ := five_cells q1
    obtain ⟨f0, f1, f2, f3, f4⟩ := five_free q1
    clear hb2 H0
    go_wp2
    refine bodyPost_ret (results_cell_row rfl _ _ (w.heap.size + 1) _ _ _ du rfl (five_set q1) hu1 (by cases du <;> first | rfl | exact hu2) size_term) rfl ?_
    rw [hres.out]
    exact ⟨.slice none 0 0, rfl, liesP_nil _ _, below_five (boxes_under H2) (by omega) _ _ _ _ _⟩
  | true =>
    have hres := Lib.hid (show t.stripB = t.bare by unfold Tm.stripB; rw [if_pos hr])
    go_enter Try.func57, Try.ntmps57
    go_wp2_with fail
    refine (right_any t _ _ (boxes_lies H0 HL.out)).mono ?_
    rw [hr]
    rintro e w2 ⟨rfl, hb2⟩
    have H2 := boxes_call H0 hb2
    obtain ⟨-, q1⟩ := boxes_two H2
    obtain ⟨d0, d1, d2, d3, d4⟩ := held_cells (boxes_held H2)
    obtain ⟨z0, z1, z2, z3, z4⟩ := five_cells q1
    obtain ⟨f0, f1, f2, f3, f4⟩ := five_free q1
    clear hb2 H0
    go_wp2_with fail
    refine (sbare_any t w2 _ (boxes_lies H2 HL.out) hr).mono ?_
    rintro e w3 ⟨s3, rfl, hl3, hb3⟩
    obtain ⟨a3, cap3, rfl, -, -⟩ := hl3.out
    have hs2 : w.heap.size + 2 ≤ w2.heap.size := by have := Below.size H2; simpa using this
    have H3 := boxes_call H2 hb3
    clear q1 z0 z1 z2 z3 z4 f0 f1 f2 f3 f4
    obtain ⟨-, q1⟩ := boxes_two H3
    obtain ⟨z0, z1, z2, z3, z4⟩ := five_cells q1
    obtain ⟨f0, f1, f2, f3, f4⟩ := five_free q1
    have HL3 := Lib.hid hl3
    clear hb3 hl3 d0 d1 d2 d3 d4
    go_wp2
    refine bodyPost_ret (results_cell_row rfl _ _ (w.heap.size + 1) _ _ _ du rfl (five_set q1) hu1 (by cases du <;> first | rfl | exact hu2) size_term) rfl ?_
    rw [hres.out]
    exact ⟨_, rfl, liesP_fives HL3.out (by omega) (by omega) _ _ _ _ _, below_five (boxes_under H3) (by omega) _ _ _ _ _⟩
end Go.Proofs.Ytmicgbdcbjajiaa
namespace Go.Proofs.Ytmicgbdcbjajiaa
theorem stripB_good {t : Tm} (hr : t.rightB = true) : t.stripB = t.bare := by unfold Tm.stripB; rw [if_pos hr]
theorem deeps_bound {n : Nat} : ∀ {l : List Tm}, (∀ x ∈ l, x.deep ≤ n) → deeps l ≤ n
  | [], _ => by simp [deeps]
  | a :: r, h => by
    have h1 := h a (List.mem_cons_self ..)
    have h2 := deeps_bound (l := r) (fun x hx => h x (List.mem_cons_of_mem _ hx))
    simp only [deeps]; omega
theorem deep_mem {l : List Tm} {x : Tm} (h : x ∈ l) : x.deep ≤ deeps l := by
  obtain ⟨q, hq, rfl⟩ := List.getElem_of_mem h
  exact deeps_get l q hq
theorem bare_deep (t : Tm) : t.bare.deep ≤ t.deep := by
  induction t using Tm.ind with
  | h t ih =>
    have hall : ∀ x ∈ t.kids.map Tm.bare, x.deep ≤ deeps t.kids := fun x hx => by
      obtain ⟨y, hy, rfl⟩ := List.mem_map.1 hx
      exact Nat.le_trans (ih y hy) (deep_mem hy)
    rw [Tm.bare_eq, Tm.deep_eq, t.deep_eq]
    unfold bareNode
    split
    · refine Nat.succ_le_succ (deeps_bound (fun x hx => ?_))
      have hx2 : x ∈ pickT (barePick t.k) (t.kids.map Tm.bare) := hx
      obtain ⟨i, -, hi⟩ := List.mem_filterMap.1 hx2
      exact hall x (List.mem_of_getElem? hi)
    · exact Nat.succ_le_succ (deeps_bound hall)
end Go.Proofs.Ytmicgbdcbjajiaa
namespace Go.Proofs.Ytmicgbdcbjajiaa
open Go.RowKit
end Go.Proofs.Ytmicgbdcbjajiaa
namespace Go.Proofs.Ytmicgbdcbjajiaa
open Go.RowKit
end Go.Proofs.Ytmicgbdcbjajiaa
namespace Go.Proofs.Ytmicgbdcbjajiaa
open Go.RowKit
end Go.Proofs.Ytmicgbdcbjajiaa
namespace Go.Proofs.Ytmicgbdcbjajiaa
theorem counts_zero {l : List Tm} : (∀ x ∈ l, x.count = 0) → counts l = 0 := by
  induction l with
  | nil => intro _; simp [counts]
  | cons a r ih =>
    intro h
    have h1 := h a (List.mem_cons_self ..)
    have h2 := ih (fun x hx => h x (List.mem_cons_of_mem _ hx))
    simp only [counts]; omega
theorem counts_mem {l : List Tm} : counts l = 0 → ∀ x ∈ l, x.count = 0 := by
  induction l with
  | nil => intro _ x hx; cases hx
  | cons a r ih =>
    intro h x hx
    simp only [counts] at h
    rcases List.mem_cons.1 hx with rfl | hx
    · omega
    · exact ih (by omega) x hx
end Go.Proofs.Ytmicgbdcbjajiaa
namespace Go.Proofs.Ytmicgbdcbjajiaa
open Go.RowKit
end Go.Proofs.Ytmicgbdcbjajiaa
namespace Go.Proofs.Ytmicgbdcbjajiaa
abbrev varT (v : Int) : Tm := .mk 2 v 0 0 []
def gPut (u : Tm) (v b : Int) (pl : Bool) : Option Tm := if v < b then some (varT v) else if v = b then (if pl = true then u.bare else u).each (liftF b 0) 0 else some (varT (v - 1))
def mayB (t u : Tm) : Bool := u.rightB && (t.k == 1 || (t.k == 2 || (t.plainB || u.markedB)))
def fitsB (t u : Tm) : Bool := if t.k ≤ 2 ∨ 12 < t.k then u.rightB else u.markedB
def Tm.putB (t u : Tm) : Tm := if t.rightB = true ∧ mayB t u = true then (t.putG (gPut u) 0 (decide (12 < t.k))).getD .zero else .zero
theorem right_of_kind {t : Tm} (h : t.rightB = true) (hk : 12 < t.k) : t.plainB = true := by
  rcases right_cases h with hp | ⟨-, -, h12⟩
  · exact hp
  · omega
theorem fits_may {t : Tm} (u : Tm) (h : t.rightB = true) : fitsB t u = mayB t u := by
  have hk := Tm.node_kind (t.right_node h)
  unfold fitsB mayB
  by_cases h1 : t.k ≤ 2
  · rw [if_pos (Or.inl h1)]
    have : t.k = 1 ∨ t.k = 2 := by omega
    rcases this with e | e <;> simp [e]
  · by_cases h2 : 12 < t.k
    · rw [if_pos (Or.inr h2), right_of_kind h h2]; simp
    · rw [if_neg (by omega)]
      have hp : t.plainB = false := by
        cases hp : t.plainB with
        | false => rfl
        | true => have := plain_kind hp; omega
      have e1 : (t.k == 1) = false := by simp; omega
      have e2 : (t.k == 2) = false := by simp; omega
      rw [hp, e1, e2]
      cases hm : u.markedB with
      | false => simp
      | true => rw [marked_right hm]; rfl
theorem optK_isSome {g : Nat → Tm → Option Tm} : ∀ (l : List Tm) (p : Nat), (∀ k (h : k < l.length), (g (p + k) l[k]).isSome = true) → (optK g p l).isSome = true
  | [], p, _ => rfl
  | t :: r, p, h => by
    have h0 := h 0 (by simp)
    simp only [List.getElem_cons_zero, Nat.add_zero] at h0
    have h1 := optK_isSome (g := g) r (p + 1) (fun k hk => by have := h (k + 1) (by simpa using hk); simpa [Nat.add_assoc, Nat.add_comm 1 k] using this)
    obtain ⟨x, hx⟩ := Option.isSome_iff_exists.1 h0
    obtain ⟨y, hy⟩ := Option.isSome_iff_exists.1 h1
    simp [optK, hx, hy]
theorem putG_some (g : Int → Int → Bool → Option Tm) (t : Tm) : ∀ b pl, t.rightB = true → 0 ≤ b → (∀ (v c : Int) (p : Bool), 0 ≤ v → v ≤ 2147483647 → b ≤ c → c ≤ b + 2 * (t.deep : Int) → v < t.freeN + c - b → (g v c p).isSome = true) → (t.putG g b pl).isSome = true := by
  induction t using Tm.ind with
  | h t ih =>
    intro b pl hr hb hg
    have hde := t.deep_eq
    by_cases hk : t.k = 2
    · rw [Tm.putG_var _ _ _ _ hk]
      have hv := t.right_var hr hk
      have hf : t.freeN = t.i + 1 := by rw [t.freeN_eq, if_pos hk]
      exact hg _ _ _ hv.1 hv.2 (Int.le_refl _) (by omega) (by omega)
    · rw [Tm.putG_node _ _ _ _ hk, Option.isSome_map]
      have hf : t.freeN = frees t.k 0 t.kids := by rw [t.freeN_eq, if_neg hk]
      refine optK_isSome _ _ (fun q hq => ?_)
      have hbd := binds_range t.k q
      have hfq := frees_get t.k t.kids 0 q hq
      have hdq := deeps_get t.kids q hq
      rw [Nat.zero_add] at hfq ⊢
      exact ih _ (List.getElem_mem hq) _ _ (t.right_kids hr _ (List.getElem_mem hq)) (by omega) (fun v c pl h1 h2 h3 h4 h5 => hg v c pl h1 h2 (by omega) (by omega) (by omega))
theorem var_right {v : Int} (h0 : 0 ≤ v) (h1 : v ≤ 2147483647) : (varT v).markedB = true ∧ (varT v).plainB = true ∧ (varT v).rightB = true := by
  have hnode : (varT v).nodeB = true := by simp [Tm.nodeB, mk_k, mk_i, mk_j, mk_n, mk_kids, numbersN, kidsN, h0, h1]
  have a1 := var_sorts hnode rfl
  exact ⟨a1.1, a1.2, marked_right a1.1⟩
theorem bareIf_right {u : Tm} (hu : u.rightB = true) (pl : Bool) : (if pl = true then u.bare else u).rightB = true := by
  cases pl with
  | true => exact plain_right (bare_plain u hu)
  | false => exact hu
theorem bareIf_free {u : Tm} (hu : u.rightB = true) (pl : Bool) : (if pl = true then u.bare else u).freeN ≤ u.freeN := by
  cases pl with
  | true => exact bare_free u hu
  | false => exact Int.le_refl _
theorem bareIf_deep (u : Tm) (pl : Bool) : (if pl = true then u.bare else u).deep ≤ u.deep := by
  cases pl with
  | true => exact bare_deep u
  | false => exact Nat.le_refl _
theorem lift_zero {t : Tm} (hr : t.rightB = true) : t.each (liftF 0 0) 0 = some t := by
  refine each_stays _ t 0 hr (Int.le_refl _) (fun v b h1 h2 _ _ => ?_)
  unfold liftF
  split
  · rfl
  · rw [if_neg (by omega)]; simp
theorem gPut_some {u : Tm} (hu : u.rightB = true) (hf : u.freeN ≤ 1048576) (hd : u.deep ≤ 100000) (v c : Int) (p : Bool) (h0 : 0 ≤ c) (h1 : c ≤ 1048576) : (gPut u v c p).isSome = true := by
  unfold gPut
  split
  · rfl
  · split
    · obtain ⟨x, hx⟩ := lift_comes (t := if p = true then u.bare else u) (k := c) (c := 0) h0 h1 (bareIf_right hu p) (by have := bareIf_free hu p; omega) (Nat.le_trans (bareIf_deep u p) hd)
      rw [hx]; rfl
    · rfl
theorem put_comes {t u : Tm} (hr : t.rightB = true) (hu : u.rightB = true) (hf : u.freeN ≤ 1048576) (hdt : t.deep ≤ 100000) (hd : u.deep ≤ 100000) (pl : Bool) : ∃ x, t.putG (gPut u) 0 pl = some x :=
  Option.isSome_iff_exists.1 (putG_some _ t 0 pl hr (Int.le_refl _) (fun v c p _ _ h3 h4 _ => gPut_some hu hf hd v c p h3 (by omega)))
theorem plains_all {l : List Tm} : (∀ x ∈ l, x.plainB = true) → plains l = true := by
  induction l with
  | nil => intro _; simp [plains]
  | cons a r ih =>
    intro h
    simp only [plains, Bool.and_eq_true]
    exact ⟨h a (List.mem_cons_self ..), ih (fun x hx => h x (List.mem_cons_of_mem _ hx))⟩
theorem markeds_get {tr : Bool} : ∀ {l : List Tm} {p : Nat}, markeds tr p l = true → ∀ q (h : q < l.length), (if (tr && p + q == 2) = true then (l[q]).plainB else (l[q]).markedB) = true
  | [], p, _, q, h => by simp at h
  | a :: r, p, hm, q, h => by
    simp only [markeds] at hm
    replace hm := Bool.and_eq_true_iff.1 hm
    cases q with
    | zero => simp only [List.getElem_cons_zero, Nat.add_zero]; exact hm.1
    | succ q =>
      have := markeds_get hm.2 q (by simpa using h)
      rw [show p + 1 + q = p + (q + 1) by omega] at this
      simp only [List.getElem_cons_succ]; exact this
theorem markeds_put {tr : Bool} : ∀ {l : List Tm} {p : Nat}, (∀ q (h : q < l.length), (if (tr && p + q == 2) = true then (l[q]).plainB else (l[q]).markedB) = true) → markeds tr p l = true
  | [], p, _ => by simp [markeds]
  | a :: r, p, h => by
    simp only [markeds]
    have h0 := h 0 (by simp)
    simp only [List.getElem_cons_zero, Nat.add_zero] at h0
    refine Bool.and_eq_true_iff.2 ⟨h0, markeds_put (fun q hq => ?_)⟩
    have := h (q + 1) (by simpa using hq)
    simp only [List.getElem_cons_succ] at this
    rw [show p + 1 + q = p + (q + 1) by omega]
    exact this
theorem node_same {t : Tm} {m : List Tm} (h : m.length = t.kids.length) : (Tm.mk t.k t.i t.j t.n m).nodeB = t.nodeB := by
  show (((m.length : Int) == kidsN t.k t.n) && numbersN t.k t.i t.j t.n) = _
  rw [h]; rfl
theorem putG_plainT (g : Int → Int → Bool → Option Tm) (hg : ∀ v c x, 0 ≤ v → v ≤ 2147483647 → 0 ≤ c → g v c true = some x → x.plainB = true) (t : Tm) : ∀ b x, 0 ≤ b → t.plainB = true → t.putG g b true = some x → x.plainB = true := by
  induction t using Tm.ind with
  | h t ih =>
    intro b x hb hp hx
    have hr := plain_right hp
    by_cases hk : t.k = 2
    · rw [Tm.putG_var _ _ _ _ hk] at hx
      have hv := t.right_var hr hk
      exact hg _ _ _ hv.1 hv.2 hb hx
    · rw [Tm.putG_node _ _ _ _ hk] at hx
      simp only [Option.map_eq_some_iff] at hx
      obtain ⟨m, hm, rfl⟩ := hx
      have hlen := optK_length hm
      have hall : ∀ y ∈ m, y.plainB = true := fun y hy => by
        obtain ⟨q, hq, rfl⟩ := List.getElem_of_mem hy
        have hq' : q < t.kids.length := by omega
        have := optK_get hm q hq' hq
        have hbd := binds_range t.k q
        rw [Nat.zero_add, Bool.true_or] at this
        exact ih _ (List.getElem_mem hq') _ _ (by omega) (plain_kids hp _ (List.getElem_mem hq')) this
      rw [Tm.plainB_eq] at hp ⊢
      rw [node_same hlen, mk_kids, plains_all hall, mk_k]
      simp only [Bool.and_eq_true] at hp ⊢
      exact ⟨hp.1, hp.2.1, trivial⟩
theorem putG_markedT (g : Int → Int → Bool → Option Tm) (hg : ∀ v c x, 0 ≤ v → v ≤ 2147483647 → 0 ≤ c → g v c true = some x → x.plainB = true) (hgm : ∀ v c x, 0 ≤ v → v ≤ 2147483647 → 0 ≤ c → g v c false = some x → x.markedB = true) (t : Tm) :
    ∀ b x, 0 ≤ b → t.markedB = true → t.putG g b false = some x → x.markedB = true := by
  induction t using Tm.ind with
  | h t ih =>
    intro b x hb hp hx
    have hr := marked_right hp
    by_cases hk : t.k = 2
    · rw [Tm.putG_var _ _ _ _ hk] at hx
      have hv := t.right_var hr hk
      exact hgm _ _ _ hv.1 hv.2 hb hx
    · rw [Tm.putG_node _ _ _ _ hk] at hx
      simp only [Option.map_eq_some_iff] at hx
      obtain ⟨m, hm, rfl⟩ := hx
      have hlen := optK_length hm
      rw [Tm.markedB_eq] at hp ⊢
      simp only [Bool.and_eq_true] at hp
      have hmk := markeds_get hp.2.2
      have hnew : markeds (t.k == 12) 0 m = true := markeds_put (fun q hq => by
        have hq' : q < t.kids.length := by omega
        have h1 := optK_get hm q hq' hq
        have h2 := hmk q hq'
        have hbd := binds_range t.k q
        rw [Nat.zero_add] at h1 h2 ⊢
        cases hf : (t.k == 12 && q == 2) with
        | true =>
          rw [hf] at h1 h2
          rw [if_pos rfl] at h2 ⊢
          exact putG_plainT g hg _ _ _ (by omega) h2 h1
        | false =>
          rw [hf] at h1 h2
          rw [if_neg (by decide)] at h2 ⊢
          exact ih _ (List.getElem_mem hq') _ _ (by omega) h2 h1)
      rw [node_same hlen, mk_kids, mk_k, hnew]
      simp only [Bool.and_eq_true]
      exact ⟨hp.1, hp.2.1, trivial⟩
theorem gPut_plain {u : Tm} (hu : u.rightB = true) : ∀ v c x, 0 ≤ v → v ≤ 2147483647 → 0 ≤ c → gPut u v c true = some x → x.plainB = true := by
  intro v c x h0 h1 hc hx
  unfold gPut at hx
  split at hx
  · cases hx; exact (var_right h0 h1).2.1
  · split at hx
    · rw [if_pos rfl] at hx
      have hp := bare_plain u hu
      rw [(each_keeps _ (liftF_range c 0 hc) _ 0 x (plain_right hp) hx).2.1]; exact hp
    · cases hx; exact (var_right (by omega) (by omega)).2.1
theorem gPut_marked {u : Tm} (hu : u.markedB = true) : ∀ v c x, 0 ≤ v → v ≤ 2147483647 → 0 ≤ c → gPut u v c false = some x → x.markedB = true := by
  intro v c x h0 h1 hc hx
  unfold gPut at hx
  split at hx
  · cases hx; exact (var_right h0 h1).1
  · split at hx
    · rw [if_neg (by decide)] at hx
      rw [(each_keeps _ (liftF_range c 0 hc) _ 0 x (marked_right hu) hx).1]; exact hu
    · cases hx; exact (var_right (by omega) (by omega)).1
theorem frees_bound (k : Int) (B : Int) (hB : 0 ≤ B) : ∀ (l : List Tm) (p : Nat), (∀ q (h : q < l.length), (l[q]).freeN - bindsN k ((p + q : Nat) : Int) ≤ B) → frees k p l ≤ B
  | [], p, _ => by simp [frees]; omega
  | a :: r, p, h => by
    have h0 := h 0 (by simp)
    simp only [List.getElem_cons_zero, Nat.add_zero] at h0
    have h1 := frees_bound k B hB r (p + 1) (fun q hq => by have := h (q + 1) (by simpa using hq); rw [show p + 1 + q = p + (q + 1) by omega]; simpa using this)
    simp only [frees]; omega
theorem putG_free {u : Tm} (hu : u.rightB = true) (t : Tm) : ∀ b pl x, t.rightB = true → 0 ≤ b → t.putG (gPut u) b pl = some x → x.freeN ≤ max (t.freeN - 1) (u.freeN + b) := by
  have hu0 := (u.free_range hu).1
  induction t using Tm.ind with
  | h t ih =>
    intro b pl x hr hb hx
    by_cases hk : t.k = 2
    · rw [Tm.putG_var _ _ _ _ hk] at hx
      have hf : t.freeN = t.i + 1 := by rw [t.freeN_eq, if_pos hk]
      have hv : ∀ v, (varT v).freeN = v + 1 := fun v => by rw [Tm.freeN_eq]; rfl
      unfold gPut at hx
      split at hx
      · cases hx; rw [hv]; omega
      · split at hx
        · have h1 := bareIf_free hu pl
          have h3 := bareIf_right hu pl
          generalize (if pl = true then u.bare else u) = W at hx h1 h3
          have h2 := (W.free_range h3).1
          rw [lift_free b hb _ 0 x (Int.le_refl _) h3 hx]
          split <;> omega
        · cases hx; rw [hv]; omega
    · rw [Tm.putG_node _ _ _ _ hk] at hx
      simp only [Option.map_eq_some_iff] at hx
      obtain ⟨m, hm, rfl⟩ := hx
      have hlen := optK_length hm
      have hf : t.freeN = frees t.k 0 t.kids := by rw [t.freeN_eq, if_neg hk]
      rw [Tm.freeN_eq, if_neg (by exact hk)]
      refine frees_bound _ _ (by omega) _ _ (fun q hq => ?_)
      have hq' : q < t.kids.length := by have : q < m.length := hq; omega
      have h1 := optK_get hm q hq' hq
      have hbd := binds_range t.k q
      have hfq := frees_get t.k t.kids 0 q hq'
      rw [Nat.zero_add] at h1 hfq ⊢
      have := ih _ (List.getElem_mem hq') _ _ _ (t.right_kids hr _ (List.getElem_mem hq')) (by omega) h1
      simp only [mk_k, mk_kids]
      omega
end Go.Proofs.Ytmicgbdcbjajiaa
namespace Go.Proofs.Ytmicgbdcbjajiaa
theorem may_right {t u : Tm} (h : mayB t u = true) : u.rightB = true := by unfold mayB at h; simp only [Bool.and_eq_true] at h; exact h.1
theorem putB_good {t u x : Tm} (hr : t.rightB = true) (hm : mayB t u = true) (hx : t.putG (gPut u) 0 (decide (12 < t.k)) = some x) : t.putB u = x := by
  unfold Tm.putB; rw [if_pos ⟨hr, hm⟩, hx]; rfl
theorem may_marked {t u : Tm} (h : u.markedB = true) : mayB t u = true := by unfold mayB; rw [marked_right h, h]; simp
theorem may_need {t u : Tm} (h : mayB t u = true) (h3 : 3 ≤ t.k) (h12 : t.k ≤ 12) : u.markedB = true := by
  unfold mayB at h
  have hp : t.plainB = false := by
    cases hp : t.plainB with
    | false => rfl
    | true => have := plain_kind hp; omega
  have e1 : (t.k == 1) = false := by simp; omega
  have e2 : (t.k == 2) = false := by simp; omega
  rw [hp, e1, e2] at h
  simpa using (Bool.and_eq_true _ _ ▸ h).2
theorem put_sorts {u w y : Tm} (hu : u.rightB = true) (hm : mayB u w = true) (hy : u.putG (gPut w) 0 (decide (12 < u.k)) = some y) : y.rightB = true ∧ (u.markedB = true → w.markedB = true → y.markedB = true) ∧ (12 < u.k → y.plainB = true) := by
  have hw := may_right hm
  have hk := Tm.node_kind (u.right_node hu)
  by_cases h12 : 12 < u.k
  · have hp := right_of_kind hu h12
    have e : decide (12 < u.k) = true := by simpa using h12
    rw [e] at hy
    have hyp := putG_plainT _ (gPut_plain hw) u 0 y (Int.le_refl _) hp hy
    refine ⟨plain_right hyp, fun h => ?_, fun _ => hyp⟩
    have := marked_kind h; omega
  · have e : decide (12 < u.k) = false := by simpa using h12
    rw [e] at hy
    have hmk : u.markedB = true := by
      by_cases h2 : u.k ≤ 2
      · have hs := sorts_two (u.right_node hu) h2
        have h3 := hs.1
        unfold Tm.sortsN at h3
        cases hm : u.markedB <;> cases hp : u.plainB <;> simp [hm, hp] at h3 ⊢
      · rcases right_cases hu with hp | ⟨hm, -⟩
        · have := plain_kind hp; omega
        · exact hm
    cases hwm : w.markedB with
    | true =>
      have := putG_markedT _ (gPut_plain hw) (gPut_marked hwm) u 0 y (Int.le_refl _) hmk hy
      exact ⟨marked_right this, fun _ _ => this, fun h => absurd h h12⟩
    | false =>
      have h2 : u.k ≤ 2 := by
        cases Int.decLt 2 u.k with
        | isTrue h => have := may_need hm (by omega) (by omega); rw [hwm] at this; cases this
        | isFalse h => omega
      refine ⟨?_, (fun _ h => by cases h), fun h => absurd h h12⟩
      by_cases hk2 : u.k = 2
      · have hv := u.right_var hu hk2
        rw [Tm.putG_var _ _ _ _ hk2] at hy
        unfold gPut at hy
        rw [if_neg (by omega)] at hy
        split at hy
        · rw [if_neg (by decide), lift_zero hw] at hy; cases hy; exact hw
        · cases hy; exact (var_right (by omega) (by omega)).2.2
      · rw [Tm.putG_node _ _ _ _ hk2, (sorts_two (u.right_node hu) h2).2] at hy
        cases hy
        have e : Tm.mk u.k u.i u.j u.n [] = u := by rw [← (sorts_two (u.right_node hu) h2).2]; exact u.eta
        show (Tm.mk u.k u.i u.j u.n []).rightB = true
        rw [e]; exact hu
theorem putB_keeps {t u : Tm} (hr : t.rightB = true) (hm : mayB t u = true) (hfu : u.freeN ≤ 1048576) (hdt : t.deep ≤ 100000) (hdu : u.deep ≤ 100000) :
    (t.putB u).rightB = true ∧ (t.markedB = true → u.markedB = true → (t.putB u).markedB = true) ∧ (t.putB u).freeB ≤ max (t.freeB - 1) u.freeB := by
  have hu := may_right hm
  obtain ⟨x, hx⟩ := put_comes hr hu hfu hdt hdu (decide (12 < t.k))
  obtain ⟨hxr, hxm, -⟩ := put_sorts hr hm hx
  rw [putB_good hr hm hx]
  refine ⟨hxr, hxm, ?_⟩
  rw [free_of hxr, free_of hr, free_of hu]
  have := putG_free hu t 0 _ x hr (Int.le_refl _) hx
  omega
end Go.Proofs.Ytmicgbdcbjajiaa
namespace Go.Proofs.Ytmicgbdcbjajiaa
structure He where
  i : Int
  a : Tm
  b : Tm
  x : Tm
  y : Tm
  h : Tm
def He.zero : He := ⟨0, .zero, .zero, .zero, .zero, .zero⟩
def He.fine (h : He) : Prop := I64 h.i ∧ h.a.fine ∧ h.b.fine ∧ h.x.fine ∧ h.y.fine ∧ h.h.fine
structure Fm where
  i : Int
  j : Int
  a : Tm
  c : Tm
  b : Tm
  d : Tm
  e : Tm
  f : Tm
def Fm.fine (g : Fm) : Prop := I64 g.i ∧ I64 g.j ∧ g.a.fine ∧ g.c.fine ∧ g.b.fine ∧ g.d.fine ∧ g.e.fine ∧ g.f.fine
end Go.Proofs.Ytmicgbdcbjajiaa
namespace Go.Proofs.Ytmicgbdcbjajiaa
open Go.RowKit
def Sees (V : World) (g : Nat) (w' : World) : Prop := ∀ k, k < V.heap.size → k ≠ g → w'.heap[k]? = V.heap[k]?
theorem sees_kept {V W : World} (g : Nat) (h : Kept V W) : Sees V g W := fun k hk _ => Below.block h k hk
theorem sees_of {V W w' : World} {g : Nat} (h : Kept V W) (hs : Sees W g w') : Sees V g w' := fun k hk hne => (hs k (Nat.lt_of_lt_of_le hk (Below.size h)) hne).trans (Below.block h k hk)
theorem extract_list {C vs : Array Value} {o : Nat} (h : (C.toList.drop o).take vs.size = vs.toList) : C.extract o (o + vs.size) = vs := by
  apply Array.toList_inj.1
  rw [← h, Array.toList_extract]
  simp
theorem part_cell {V : World} {r g : Nat} {C : Array Value} {T : TypeId} {fr : Nat × Nat} (h : V.heap[g]? = some (.cells C T fr)) (hne : g ≠ r) (o : Nat) (v : Value) (hv : C[o]? = some v) : ∀ w', Sees V r w' → w'.cell? ⟨g, o, none⟩ = some v := fun w' hk => by
  have hb : w'.heap[g]? = some (.cells C T fr) := (hk g (block_lt h) hne).trans h
  rw [cell_of_row w' g o C T fr hb]; exact hv
theorem kept_refl (w : World) : Kept w w := Below.refl _ _
theorem kept_trans {w w1 w2 : World} (h : Kept w w1) (h' : Kept w1 w2) : Kept w w2 := kept_call h h'
theorem kept_new (w : World) (o : Obj) : Kept w (w.alloc o) := (Below.refl _ _).alloc (Nat.le_refl _) _
abbrev hv (h : He) (sa sb sx sy sh : Value) : Value := .agg #[.int .i64 h.i, .int .i64 h.a.k, .int .i64 h.a.i, .int .i64 h.a.j, .int .i64 h.a.n, sa, .int .i64 h.b.k, .int .i64 h.b.i, .int .i64 h.b.j, .int .i64 h.b.n, sb, .int .i64 h.x.k, .int .i64 h.x.i, .int .i64 h.x.j, .int .i64 h.x.n, sx, .int .i64 h.y.k, .int .i64 h.y.i, .int .i64 h.y.j, .int .i64 h.y.n, sy, .int .i64 h.h.k, .int .i64 h.h.i, .int .i64 h.h.j, .int .i64 h.h.n, sh]
def HLies (w : World) (h : He) (sa sb sx sy sh : Value) : Prop := Lies w h.a.kids sa ∧ Lies w h.b.kids sb ∧ Lies w h.x.kids sx ∧ Lies w h.y.kids sy ∧ Lies w h.h.kids sh
theorem HLies.keep {w w' : World} {h : He} {sa sb sx sy sh : Value} (H : HLies w h sa sb sx sy sh) (hb : Kept w w') : HLies w' h sa sb sx sy sh := ⟨H.1.keep hb, H.2.1.keep hb, H.2.2.1.keep hb, H.2.2.2.1.keep hb, H.2.2.2.2.keep hb⟩
abbrev fv (g : Fm) (sa sc sb sd se sf : Value) : Value := .agg #[.int .i64 g.i, .int .i64 g.j, .int .i64 g.a.k, .int .i64 g.a.i, .int .i64 g.a.j, .int .i64 g.a.n, sa, .int .i64 g.c.k, .int .i64 g.c.i, .int .i64 g.c.j, .int .i64 g.c.n, sc, .int .i64 g.b.k, .int .i64 g.b.i, .int .i64 g.b.j, .int .i64 g.b.n, sb, .int .i64 g.d.k, .int .i64 g.d.i, .int .i64 g.d.j, .int .i64 g.d.n, sd, .int .i64 g.e.k, .int .i64 g.e.i, .int .i64 g.e.j, .int .i64 g.e.n, se, .int .i64 g.f.k, .int .i64 g.f.i, .int .i64 g.f.j, .int .i64 g.f.n, sf]
def FLies (w : World) (g : Fm) (sa sc sb sd se sf : Value) : Prop := Lies w g.a.kids sa ∧ Lies w g.c.kids sc ∧ Lies w g.b.kids sb ∧ Lies w g.d.kids sd ∧ Lies w g.e.kids se ∧ Lies w g.f.kids sf
theorem FLies.keep {w w' : World} {g : Fm} {sa sc sb sd se sf : Value} (H : FLies w g sa sc sb sd se sf) (hb : Kept w w') : FLies w' g sa sc sb sd se sf := ⟨H.1.keep hb, H.2.1.keep hb, H.2.2.1.keep hb, H.2.2.2.1.keep hb, H.2.2.2.2.1.keep hb, H.2.2.2.2.2.keep hb⟩
def GivesO (u : Tm) (w : World) (e : Ending) (w' : World) : Prop := ∃ s' : Value, e = .returned (tv u s') ∧ Lies w' u.kids s' ∧ Kept w w'
end Go.Proofs.Ytmicgbdcbjajiaa