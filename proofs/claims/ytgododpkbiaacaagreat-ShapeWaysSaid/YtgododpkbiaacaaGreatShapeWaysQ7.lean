/-
  Facts and contracts that the proof of ShapeWays uses.
-/
import Derived.Test.YtgododpkbiaacaaGreatRows
import Derived.WalkKit
import Derived.Lib.Hide
import Derived.KernelRfl
import Derived.Deep.RegionWith
import Derived.Deep.RegionHeld3
import Derived.Deep.AppendLies
import Derived.Laws.Rows
import Derived.Laws.IdiomCopy
import Derived.Deep.Slices
import Derived.Lib.QuietBelow
import Derived.StillTailTactics
import Derived.BigQuiet
import Derived.IntWalk
import Derived.OwnWalk
import Derived.Deep.RegionLaw
import Derived.Deep.QuietTactic
import Derived.Deep.LoopGhost
import Derived.Deep.DeepCutAuto
import Derived.OrdersHeld
import Derived.Deep.MidRow
import Derived.Laws.Tables
import Derived.Laws.CopyOwn
import Derived.Laws.CopyRow
import Derived.Deep.RegionHeld
import Derived.Lib.MinMax
import Derived.ProofKit
import Derived.OpenShut
import Derived.Carry
import Derived.ChangeSlices
import Derived.JoinedOf
import Derived.Test.YtgododpkbiaacaaGreatShapeWaysQ6
namespace Go.Proofs.YtgododpkbiaacaaGreat
open Go.RowKit

/-- Blocks that were there before E, or that are new since N. -/
def FarV (E : Nat → Prop) (N b : Nat) : Prop := E b ∨ N ≤ b
/-- What a call hands back that gives a term which may share what was handed in. -/
def SharesV (E : Nat → Prop) (u : Tm) (w : World) (e : Ending) (w' : World) : Prop := ∃ s' : Value, e = .returned (tv u s') ∧ LiesQ w' (FarV E w.heap.size) u.kids s' ∧ Below w.heap.size w w'

structure MadeQV (E : Nat → Prop) (N B : Nat) (w : World) (v : Value) (ps : List (Tm × Value)) : Prop where
  own : w.ownsRow B 25 5 v ps.length (cells5 ps)
  fine : ∀ p ∈ ps, p.1.fine
  kids : ∀ p ∈ ps, LiesQ w (fun b => FarV E N b ∧ v.ownBlock ≠ some b) p.1.kids p.2
theorem madeQ_nilV (E : Nat → Prop) (N B : Nat) (w : World) : MadeQV E N B w (.slice none 0 0) [] := ⟨⟨rfl, Or.inl ⟨rfl, rfl⟩⟩, (fun _ h => by cases h), (fun _ h => by cases h)⟩
theorem madeQ_laterV {E : Nat → Prop} {N B : Nat} {w w' : World} {v : Value} {ps : List (Tm × Value)} (h : MadeQV E N B w v ps) (hb : Below w.heap.size w w') : MadeQV E N B w' v ps := by
  refine ⟨?_, h.fine, fun p hp => (h.kids p hp).later hb⟩
  obtain ⟨h1, h2⟩ := h.own
  refine ⟨h1, ?_⟩
  rcases h2 with h2 | ⟨g, cap, cur, hv, hg, hh, r⟩
  · exact Or.inl h2
  · refine Or.inr ⟨g, cap, cur, hv, hg, ?_, r⟩
    rw [hb.block g ?_]; exact hh
    exact (Array.getElem?_eq_some_iff.1 hh).1
/-- The block of the list lies between. -/
theorem madeQ_blockV {E : Nat → Prop} {N B : Nat} {w : World} {v : Value} {ps : List (Tm × Value)} (h : MadeQV E N B w v ps) {g : Nat} (hg : v.ownBlock = some g) : B ≤ g ∧ g < w.heap.size := by
  rcases h.own.2 with ⟨rfl, -⟩ | ⟨g', cap, cur, rfl, hg', hh, -⟩
  · simp [Value.ownBlock] at hg
  · have := (Array.getElem?_eq_some_iff.1 hh).1
    simp [Value.ownBlock] at hg
    omega
/-- What a kid's call has handed back is appended. -/
theorem madeQ_pushV {E : Nat → Prop} {N B : Nat} {wr w2 w3 : World} {v : Value} {ps : List (Tm × Value)} {u : Tm} {s2 : Value} {g cap : Nat} (h : MadeQV E N B wr v ps) (hEN : ∀ b, E b → b < N) (hNB : N ≤ B) (hB : B ≤ wr.heap.size) (hf : u.fine) (hb2 : Below wr.heap.size wr w2)
    (hk : LiesQ w2 (FarV E wr.heap.size) u.kids s2) (o : Obj) (hown : w3.ownsRow B 25 5 (.slice (some ⟨g, 0, none⟩) (ps.length + 1) cap) (ps.length + 1) (cells5 ps ++ cells5 [(u, s2)]))
    (hgrow : (w2.alloc o).grownBy w3 v.ownBlock) (hat : v.ownBlock = some g ∨ g = (w2.alloc o).heap.size) : MadeQV E N B w3 (.slice (some ⟨g, 0, none⟩) (ps.length + 1) cap) (ps ++ [(u, s2)]) := by
  have hs2 : (w2.alloc o).heap.size = w2.heap.size + 1 := by simp
  have hsz := hb2.size
  have h2 : MadeQV E N B (w2.alloc o) v ps := madeQ_laterV (madeQ_laterV h hb2) ((Below.refl _ _).alloc (Nat.le_refl _) _)
  have keep : ∀ q : Tm × Value, LiesQ (w2.alloc o) (fun b => FarV E N b ∧ v.ownBlock ≠ some b) q.1.kids q.2 → LiesQ w3 (fun b => FarV E N b ∧ (Value.slice (some ⟨g, 0, none⟩) (ps.length + 1) cap).ownBlock ≠ some b) q.1.kids q.2 := fun q hq =>
    hq.keep (fun b hb hlt => hgrow.block b hlt (fun e => hb.2 e.symm)) (fun b hb hlt => ⟨hb.1, by
      show some g ≠ some b
      rcases hat with e | e
      · rw [← e]; exact hb.2
      · intro e'; have := Option.some.inj e'; omega⟩)
  have hnew : LiesQ (w2.alloc o) (fun b => FarV E N b ∧ v.ownBlock ≠ some b) u.kids s2 :=
    (hk.later ((Below.refl _ _).alloc (Nat.le_refl _) o)).wide (fun b hb => ⟨by rcases hb with hb | hb; exact Or.inl hb; exact Or.inr (by omega), fun e => by
      have := madeQ_blockV h e
      rcases hb with hb | hb
      · have := hEN _ hb; omega
      · omega⟩)
  refine ⟨by rw [cells5_append]; simpa using hown, fun q hq => ?_, fun q hq => ?_⟩
  · rcases List.mem_append.1 hq with hq | hq
    · exact h.fine q hq
    · rw [List.mem_singleton.1 hq]; exact hf
  · rcases List.mem_append.1 hq with hq | hq
    · exact keep q (h2.kids q hq)
    · rw [List.mem_singleton.1 hq]; exact keep (u, s2) hnew
theorem madeQ_aboveV {E : Nat → Prop} {N B : Nat} {w : World} {v : Value} {ps : List (Tm × Value)} (h : MadeQV E N B w v ps) : ∀ g, v.ownBlock = some g → B ≤ g := fun _ hg => (madeQ_blockV h hg).1
/-- The list as terms. -/
theorem madeQ_liesV {E : Nat → Prop} {N B : Nat} {w : World} {v : Value} {ps : List (Tm × Value)} (h : MadeQV E N B w v ps) (hNB : N ≤ B) : LiesQ w (FarV E N) (ps.map (·.1)) v := by
  have fin : ∀ x ∈ ps.map (·.1), x.fine := fun x hx => by obtain ⟨p, hp, rfl⟩ := List.mem_map.1 hx; exact h.fine p hp
  have kid : ∀ i (hi : i < ps.length), LiesQ w (FarV E N) (ps[i]).1.kids (ps[i]).2 := fun i hi => (h.kids _ (List.getElem_mem hi)).wide (fun _ hb => hb.1)
  obtain ⟨-, ⟨rfl, hn⟩ | ⟨g, cap, cur, rfl, hg, hh, hnc, hcm, hsz, htk⟩⟩ := h.own
  · obtain rfl : ps = [] := List.eq_nil_of_length_eq_zero hn
    exact liesQ_nil _ _
  · have := LiesQ.mk (w := w) (P := FarV E N) (ps.map (·.1)) (some ⟨g, 0, none⟩) cap (fun i => (ps[i]?.map (·.2)).getD (.slice none 0 0)) (by simpa using hnc) hcm fin
      (fun i hi => by
        have hi' : i < ps.length := by simpa using hi
        refine ⟨g, 0, rfl, Or.inr (by omega), ?_⟩
        simp only [List.getElem_map, List.getElem?_eq_getElem hi', Option.map_some, Option.getD_some, Nat.zero_add]
        have cellq : ∀ q, q < 5 → w.cell? ⟨g, i * 5 + q, none⟩ = [Value.int .i64 (ps[i]).1.k, .int .i64 (ps[i]).1.i, .int .i64 (ps[i]).1.j, .int .i64 (ps[i]).1.n, (ps[i]).2][q]? := fun q hq => by
          rw [h.own.cellAt (i * 5 + q) (by omega)]; exact cells5_get ps i hi' q hq
        exact ⟨cellq 0 (by omega), cellq 1 (by omega), cellq 2 (by omega), cellq 3 (by omega), cellq 4 (by omega)⟩)
      (fun i hi => by
        have hi' : i < ps.length := by simpa using hi
        simp only [List.getElem_map, List.getElem?_eq_getElem hi', Option.map_some, Option.getD_some]
        exact kid i hi')
    simpa using this
theorem stripB_ofPlainV {t : Tm} (h : t.plainB = true) : t.stripB = t := by unfold Tm.stripB; rw [if_pos (plain_right h), plain_bare t h]
theorem stripB_ofMarkedV {t : Tm} (h : t.markedB = true) : t.stripB = t.bare := by unfold Tm.stripB; rw [if_pos (marked_right h)]
theorem stripB_ofNoneV {t : Tm} (h : t.plainB = false) (h' : t.markedB = false) : t.stripB = .zero := by unfold Tm.stripB; rw [if_neg (by unfold Tm.rightB; rw [h, h']; decide)]
theorem strip_andV {v w' : World} {n g q b o : Nat} {s x sx : Value} {y : Tm} (h : Kept v w') (h4 : v.cell? ⟨n, 4, none⟩ = some s) (hp : v.cell? ⟨g, q, none⟩ = some x) (hx : Node v b o y sx) : Kept v w' ∧ w'.cell? ⟨n, 4, none⟩ = some s ∧ w'.cell? ⟨g, q, none⟩ = some x ∧
    w'.cell? ⟨b, o, none⟩ = some (.int .i64 y.k) ∧ w'.cell? ⟨b, o + 1, none⟩ = some (.int .i64 y.i) ∧ w'.cell? ⟨b, o + 2, none⟩ = some (.int .i64 y.j) ∧ w'.cell? ⟨b, o + 3, none⟩ = some (.int .i64 y.n) ∧ w'.cell? ⟨b, o + 4, none⟩ = some sx :=
  ⟨h, cell_lat h h4, cell_lat h hp, cell_lat h hx.c0, cell_lat h hx.c1, cell_lat h hx.c2, cell_lat h hx.c3, cell_lat h hx.c4⟩
theorem liesQ_fivesV {E : Nat → Prop} {N M g : Nat} {w : World} {l : List Tm} {s : Value} (h : LiesQ w (FarV E M) l s) (hE : ∀ b, E b → b < g) (hg : g < M) (hN : N ≤ M) (v0 v1 v2 v3 v4 : Value) : LiesQ (five w g v0 v1 v2 v3 v4) (FarV E N) l s :=
  h.keep (fun b hp _ => five_other w g v0 v1 v2 v3 v4 (hp.elim (fun hp => Nat.ne_of_lt (hE b hp)) (fun hp => by omega))) (fun b hp _ => by rcases hp with hp | hp; exact Or.inl hp; exact Or.inr (by omega))
theorem far_wideV {w : World} {E : Nat → Prop} {M N : Nat} {l : List Tm} {s : Value} (h : LiesQ w (FarV E N) l s) (hn : M ≤ N) : LiesQ w (FarV E M) l s := h.wide (fun b hb => by rcases hb with hb | hb; exact Or.inl hb; exact Or.inr (Nat.le_trans hn hb))
theorem five_newV (w : World) (g : Nat) (v0 v1 v2 v3 v4 : Value) (X : Obj) : ((five w g v0 v1 v2 v3 v4).alloc X).heap[w.heap.size]? = some X := by
  have := alloc_new (five w g v0 v1 v2 v3 v4) X
  rw [five_size] at this
  exact this
theorem far_fivesV {E : Nat → Prop} {N M g : Nat} {w : World} {l : List Tm} {s : Value} (h : LiesQ w (FarV E M) l s) (hE : ∀ b, E b → b < g) (hg : g < M) (hN : N ≤ M) (v0 v1 v2 v3 v4 : Value) (X : Obj) : LiesQ ((five w g v0 v1 v2 v3 v4).alloc X) (FarV E N) l s :=
  (liesQ_fivesV h hE hg hN v0 v1 v2 v3 v4).later ((Below.refl _ _).alloc (Nat.le_refl _) _)
theorem cells5_nodeV {w : World} {b : Nat} {ps : List (Tm × Value)} {T : TypeId} {fr : Nat × Nat} (h : w.heap[b]? = some (.cells (cells5 ps).toArray T fr)) (i : Nat) (hi : i < ps.length) : Node w b (i * 5) (ps[i]).1 (ps[i]).2 := by
  have cellq : ∀ q, q < 5 → w.cell? ⟨b, i * 5 + q, none⟩ = [Value.int .i64 (ps[i]).1.k, .int .i64 (ps[i]).1.i, .int .i64 (ps[i]).1.j, .int .i64 (ps[i]).1.n, (ps[i]).2][q]? := fun q hq => by
    rw [cell_of_row _ _ _ _ _ _ h, List.getElem?_toArray]; exact cells5_get ps i hi q hq
  exact ⟨cellq 0 (by omega), cellq 1 (by omega), cellq 2 (by omega), cellq 3 (by omega), cellq 4 (by omega)⟩
/-- A written list of terms. -/
theorem liesQ_rowV {w : World} {P : Nat → Prop} {b cap : Nat} {ps : List (Tm × Value)} {T : TypeId} {fr : Nat × Nat} (h : w.heap[b]? = some (.cells (cells5 ps).toArray T fr)) (hP : P b) (hf : ∀ p ∈ ps, p.1.fine) (hk : ∀ p ∈ ps, LiesQ w P p.1.kids p.2) (hc : ps.length ≤ cap) (hm : cap ≤ maxLen) :
    LiesQ w P (ps.map (·.1)) (.slice (some ⟨b, 0, none⟩) ps.length cap) := by
  have := LiesQ.mk (w := w) (P := P) (ps.map (·.1)) (some ⟨b, 0, none⟩) cap (fun i => (ps[i]?.map (·.2)).getD (.slice none 0 0)) (by simpa using hc) hm
    (fun x hx => by obtain ⟨p, hp, rfl⟩ := List.mem_map.1 hx; exact hf p hp)
    (fun i hi => by
      have hi' : i < ps.length := by simpa using hi
      refine ⟨b, 0, rfl, hP, ?_⟩
      simp only [List.getElem_map, List.getElem?_eq_getElem hi', Option.map_some, Option.getD_some, Nat.zero_add]
      exact cells5_nodeV h i hi')
    (fun i hi => by
      have hi' : i < ps.length := by simpa using hi
      simp only [List.getElem_map, List.getElem?_eq_getElem hi', Option.map_some, Option.getD_some]
      exact hk _ (List.getElem_mem hi'))
  simpa using this

/-- The boxed term stays; what lies behind it may turn. -/
def BxV (w : World) (t : Tm) (s : Value) (w' : World) : Prop := Below w.heap.size w w' ∧ w'.heap[w.heap.size]? = some (boxOf t s)
theorem bx_belowV {w w1 : World} {t : Tm} {s : Value} (h : BxV w t s w1) : Below w.heap.size w w1 := h.1
theorem bx_drewV {w w1 : World} {t : Tm} {s : Value} (h : BxV w t s w1) : BxV w t s w1.drew := ⟨h.1.drew, h.2⟩
theorem bx_callV {w w1 w2 : World} {t : Tm} {s : Value} (h : BxV w t s w1) (hb : Below w1.heap.size w1 w2) : BxV w t s w2 := ⟨below_call h.1 hb h.1.size, by rw [hb.block _ (block_lt h.2)]; exact h.2⟩
theorem bx_allocV {w w1 : World} {t : Tm} {s : Value} (h : BxV w t s w1) (o : Obj) : BxV w t s (w1.alloc o) := bx_callV h ((Below.refl _ _).alloc (Nat.le_refl _) o)
theorem bx_setV {w w1 : World} {t : Tm} {s : Value} {g o : Nat} (h : BxV w t s w1) (hg : w.heap.size < g) (x : Value) : BxV w t s (w1.setCell ⟨g, o, none⟩ x) := ⟨Below.setCell h.1 (Nat.le_of_lt hg) _, by rw [Below.heap_setCell _ _ _ _ (by show w.heap.size ≠ g; omega)]; exact h.2⟩
theorem bx_andV {w w' : World} {t : Tm} {s : Value} {b o : Nat} {y0 y1 y2 y3 : Tm} {r0 r1 r2 r3 : Value} (h : BxV w t s w') (h0 : Node w b o y0 r0) (h1 : Node w b (o + 5) y1 r1) (h2 : Node w b (o + 10) y2 r2) (h3 : Node w b (o + 15) y3 r3) : BxV w t s w' ∧ w'.cell? ⟨w.heap.size, 1, none⟩ = some (.int .i64 t.i) ∧ w'.cell? ⟨w.heap.size, 4, none⟩ = some s ∧
    w'.cell? ⟨b, o, none⟩ = some (.int .i64 y0.k) ∧ w'.cell? ⟨b, o + 1, none⟩ = some (.int .i64 y0.i) ∧ w'.cell? ⟨b, o + 2, none⟩ = some (.int .i64 y0.j) ∧ w'.cell? ⟨b, o + 3, none⟩ = some (.int .i64 y0.n) ∧ w'.cell? ⟨b, o + 4, none⟩ = some (r0) ∧ w'.cell? ⟨b, o + 5, none⟩ = some (.int .i64 y1.k) ∧ w'.cell? ⟨b, o + 5 + 1, none⟩ = some (.int .i64 y1.i) ∧ w'.cell? ⟨b, o + 5 + 2, none⟩ = some (.int .i64 y1.j) ∧ w'.cell? ⟨b, o + 5 + 3, none⟩ = some (.int .i64 y1.n) ∧ w'.cell? ⟨b, o + 5 + 4, none⟩ = some (r1) ∧ w'.cell? ⟨b, o + 10, none⟩ = some (.int .i64 y2.k) ∧ w'.cell? ⟨b, o + 10 + 1, none⟩ = some (.int .i64 y2.i) ∧ w'.cell? ⟨b, o + 10 + 2, none⟩ = some (.int .i64 y2.j) ∧ w'.cell? ⟨b, o + 10 + 3, none⟩ = some (.int .i64 y2.n) ∧ w'.cell? ⟨b, o + 10 + 4, none⟩ = some (r2) ∧ w'.cell? ⟨b, o + 15, none⟩ = some (.int .i64 y3.k) ∧ w'.cell? ⟨b, o + 15 + 1, none⟩ = some (.int .i64 y3.i) ∧ w'.cell? ⟨b, o + 15 + 2, none⟩ = some (.int .i64 y3.j) ∧ w'.cell? ⟨b, o + 15 + 3, none⟩ = some (.int .i64 y3.n) ∧ w'.cell? ⟨b, o + 15 + 4, none⟩ = some (r3) := by
  obtain ⟨-, c1, -, -, c4⟩ := five_cells h.2
  have l : ∀ {a : Addr} {v : Value}, w.cell? a = some v → w'.cell? a = some v := fun hc => cell_lat h.1 hc
  exact ⟨h, c1, c4, l h0.c0, l h0.c1, l h0.c2, l h0.c3, l h0.c4, l h1.c0, l h1.c1, l h1.c2, l h1.c3, l h1.c4, l h2.c0, l h2.c1, l h2.c2, l h2.c3, l h2.c4, l h3.c0, l h3.c1, l h3.c2, l h3.c3, l h3.c4⟩

set_option maxRecDepth 20000 in
set_option maxHeartbeats 4000000 in
theorem refstrip_anyV (t : Tm) : ∀ (E : Nat → Prop) (w : World) (s : Value), (∀ b, E b → b < w.heap.size) → LiesQ w E t.kids s → t.markedB = true → Calls Tryz.prog 56 #[tv t s] w (SharesV E t.bare w) := by
  induction t using Tm.ind with
  | h t ih =>
    intro E w s hEw hl hmk
    obtain ⟨a, cap, S, rfl, hc, hm, hf, hn, hkk⟩ := hl.out
    have hr := marked_right hmk
    have hlen := right_len hr
    obtain ⟨du, hu1, hu2⟩ := under_term
    have HR0 := Lib.hid hr
    have HM0 := Lib.hid hmk
    have IH := Lib.hid ih
    have HN := Lib.hid hn
    have HK := Lib.hid hkk
    have hkind := marked_kind hmk
    have HFI := Lib.hid hf
    unfold maxLen at hm
    clear ih hl hn hkk hr hf
    unfold tv
    have hcs : t.k = 1 ∨ t.k = 2 ∨ t.k = 3 ∨ t.k = 4 ∨ t.k = 5 ∨ t.k = 6 ∨ t.k = 7 ∨ t.k = 8 ∨ t.k = 9 ∨ t.k = 10 ∨ t.k = 11 ∨ t.k = 12 := by omega
    clear hkind hmk
    rcases hcs with hkc | hkc | hkc | hkc | hkc | hkc | hkc | hkc | hkc | hkc | hkc | hkc
    · have hnil : t.kids = [] := (sorts_two (t.right_node HR0.out) (by omega)).2
      have hl0 : t.kids.length = 0 := by rw [hnil]; rfl
      have hres : t.bare = t := by rw [Tm.bare_eq, bareNode, if_neg (by omega), hnil]; simp; rw [← hnil]; exact t.eta
      have HRES := Lib.hid hres
      have HNIL := Lib.hid hnil
      have hb3 := below_three w (.cells #[.int .i64 t.k, .int .i64 t.i, .int .i64 t.j, .int .i64 t.n, .slice a t.kids.length cap] 25) (.cells #[.int .i64 0, .int .i64 0, .int .i64 0, .int .i64 0, .slice none 0 0] 25) (.cells #[] 3)
      obtain ⟨q0, q1, -, -⟩ := heap_three w (.cells #[.int .i64 t.k, .int .i64 t.i, .int .i64 t.j, .int .i64 t.n, .slice a t.kids.length cap] 25) (.cells #[.int .i64 0, .int .i64 0, .int .i64 0, .int .i64 0, .slice none 0 0] 25) (.cells #[] 3)
      have e3 : (t.k == 3) = false := by rw [hkc]; decide
      have e4 : (t.k == 4) = false := by rw [hkc]; decide
      have e5 : (t.k == 5) = false := by rw [hkc]; decide
      have e6 : (t.k == 6) = false := by rw [hkc]; decide
      have e7 : (t.k == 7) = false := by rw [hkc]; decide
      have e8 : (t.k == 8) = false := by rw [hkc]; decide
      have e9 : (t.k == 9) = false := by rw [hkc]; decide
      have e10 : (t.k == 10) = false := by rw [hkc]; decide
      have e11 : (t.k == 11) = false := by rw [hkc]; decide
      have e12 : (t.k == 12) = false := by rw [hkc]; decide
      have hs3 : w.heap.size + 1 < (((w.alloc (.cells #[.int .i64 t.k, .int .i64 t.i, .int .i64 t.j, .int .i64 t.n, .slice a t.kids.length cap] 25)).alloc (.cells #[.int .i64 0, .int .i64 0, .int .i64 0, .int .i64 0, .slice none 0 0] 25)).alloc (.cells #[] 3)).heap.size := by simp
      clear hkc hnil hres hl0
      go_enter Tryz.func56, Tryz.ntmps56
      go_upto_region 3 with fail
      generalize (((w.alloc (.cells #[.int .i64 t.k, .int .i64 t.i, .int .i64 t.j, .int .i64 t.n, .slice a t.kids.length cap] 25)).alloc (.cells #[.int .i64 0, .int .i64 0, .int .i64 0, .int .i64 0, .slice none 0 0] 25)).alloc (.cells #[] 3)) = v1 at hb3 q0 q1 hs3 ⊢
      obtain ⟨d0, d1, d2, d3, d4⟩ := five_cells q0
      obtain ⟨z0, z1, z2, z3, z4⟩ := five_cells q1
      obtain ⟨f0, f1, f2, f3, f4⟩ := five_free q1
      go_wp2
      (try simp only [Exit.inBlock, Exit.then])
      refine bodyPost_ret (results_cell_row rfl _ _ (w.heap.size + 1) _ _ _ du rfl (five_set q1) hu1 (by cases du <;> first | rfl | exact hu2) size_term) rfl ?_
      rw [HRES.out]
      refine ⟨_, rfl, ?_, below_five hb3 (by omega) _ _ _ _ _⟩
      rw [HNIL.out]
      exact .mk [] a cap (fun _ => .nilIface) (Nat.zero_le _) (by unfold maxLen; omega) (fun _ h => by cases h) (fun _ h => by cases h) (fun _ h => by cases h)
    · have hnil : t.kids = [] := (sorts_two (t.right_node HR0.out) (by omega)).2
      have hl0 : t.kids.length = 0 := by rw [hnil]; rfl
      have hres : t.bare = t := by rw [Tm.bare_eq, bareNode, if_neg (by omega), hnil]; simp; rw [← hnil]; exact t.eta
      have HRES := Lib.hid hres
      have HNIL := Lib.hid hnil
      have hb3 := below_three w (.cells #[.int .i64 t.k, .int .i64 t.i, .int .i64 t.j, .int .i64 t.n, .slice a t.kids.length cap] 25) (.cells #[.int .i64 0, .int .i64 0, .int .i64 0, .int .i64 0, .slice none 0 0] 25) (.cells #[] 3)
      obtain ⟨q0, q1, -, -⟩ := heap_three w (.cells #[.int .i64 t.k, .int .i64 t.i, .int .i64 t.j, .int .i64 t.n, .slice a t.kids.length cap] 25) (.cells #[.int .i64 0, .int .i64 0, .int .i64 0, .int .i64 0, .slice none 0 0] 25) (.cells #[] 3)
      have e3 : (t.k == 3) = false := by rw [hkc]; decide
      have e4 : (t.k == 4) = false := by rw [hkc]; decide
      have e5 : (t.k == 5) = false := by rw [hkc]; decide
      have e6 : (t.k == 6) = false := by rw [hkc]; decide
      have e7 : (t.k == 7) = false := by rw [hkc]; decide
      have e8 : (t.k == 8) = false := by rw [hkc]; decide
      have e9 : (t.k == 9) = false := by rw [hkc]; decide
      have e10 : (t.k == 10) = false := by rw [hkc]; decide
      have e11 : (t.k == 11) = false := by rw [hkc]; decide
      have e12 : (t.k == 12) = false := by rw [hkc]; decide
      have hs3 : w.heap.size + 1 < (((w.alloc (.cells #[.int .i64 t.k, .int .i64 t.i, .int .i64 t.j, .int .i64 t.n, .slice a t.kids.length cap] 25)).alloc (.cells #[.int .i64 0, .int .i64 0, .int .i64 0, .int .i64 0, .slice none 0 0] 25)).alloc (.cells #[] 3)).heap.size := by simp
      clear hkc hnil hres hl0
      go_enter Tryz.func56, Tryz.ntmps56
      go_upto_region 3 with fail
      generalize (((w.alloc (.cells #[.int .i64 t.k, .int .i64 t.i, .int .i64 t.j, .int .i64 t.n, .slice a t.kids.length cap] 25)).alloc (.cells #[.int .i64 0, .int .i64 0, .int .i64 0, .int .i64 0, .slice none 0 0] 25)).alloc (.cells #[] 3)) = v1 at hb3 q0 q1 hs3 ⊢
      obtain ⟨d0, d1, d2, d3, d4⟩ := five_cells q0
      obtain ⟨z0, z1, z2, z3, z4⟩ := five_cells q1
      obtain ⟨f0, f1, f2, f3, f4⟩ := five_free q1
      go_wp2
      (try simp only [Exit.inBlock, Exit.then])
      refine bodyPost_ret (results_cell_row rfl _ _ (w.heap.size + 1) _ _ _ du rfl (five_set q1) hu1 (by cases du <;> first | rfl | exact hu2) size_term) rfl ?_
      rw [HRES.out]
      refine ⟨_, rfl, ?_, below_five hb3 (by omega) _ _ _ _ _⟩
      rw [HNIL.out]
      exact .mk [] a cap (fun _ => .nilIface) (Nat.zero_le _) (by unfold maxLen; omega) (fun _ h => by cases h) (fun _ h => by cases h) (fun _ h => by cases h)
    · have hpk : ∀ p ∈ ([0, 1] : List Nat), p < t.kids.length := by
        have hlen := node_length (t.right_node HR0.out)
        rw [hkc] at hlen
        have h9 : t.kids.length = 2 := by simp [kidsN] at hlen; omega
        intro p hp
        simp at hp
        omega
      have hres := bare_pick t 3 [0, 1] hkc rfl rfl hpk
      have hb4 := below_four w (.cells #[.int .i64 t.k, .int .i64 t.i, .int .i64 t.j, .int .i64 t.n, .slice a t.kids.length cap] 25) (.cells #[.int .i64 0, .int .i64 0, .int .i64 0, .int .i64 0, .slice none 0 0] 25) (.cells #[] 3) (.cells #[.int .i64 0, .int .i64 1] 3)
      obtain ⟨q0, q1, -, q3⟩ := heap_four w (.cells #[.int .i64 t.k, .int .i64 t.i, .int .i64 t.j, .int .i64 t.n, .slice a t.kids.length cap] 25) (.cells #[.int .i64 0, .int .i64 0, .int .i64 0, .int .i64 0, .slice none 0 0] 25) (.cells #[] 3) (.cells #[.int .i64 0, .int .i64 1] 3)
      have hti := liesI_new (l := [(0 : Int), (1 : Int)]) q3 (by decide)
      have hkm : ∀ p (h : p ∈ ([0, 1] : List Nat)), (t.kids[p]'(hpk p h)).markedB = true := fun p h => marked_others HM0.out (by rw [hkc]; decide) _ (List.getElem_mem _)
      have e3 : (t.k == 3) = true := by rw [hkc]; decide
      clear hkc
      go_enter Tryz.func56, Tryz.ntmps56
      go_upto_region 24 with fail
      have hs4 : w.heap.size + 3 < (((((w.alloc (.cells #[.int .i64 t.k, .int .i64 t.i, .int .i64 t.j, .int .i64 t.n, .slice a t.kids.length cap] 25)).alloc (.cells #[.int .i64 0, .int .i64 0, .int .i64 0, .int .i64 0, .slice none 0 0] 25)).alloc (.cells #[] 3)).alloc (.cells #[.int .i64 0, .int .i64 1] 3))).heap.size := by simp
      generalize ((((w.alloc (.cells #[.int .i64 t.k, .int .i64 t.i, .int .i64 t.j, .int .i64 t.n, .slice a t.kids.length cap] 25)).alloc (.cells #[.int .i64 0, .int .i64 0, .int .i64 0, .int .i64 0, .slice none 0 0] 25)).alloc (.cells #[] 3)).alloc (.cells #[.int .i64 0, .int .i64 1] 3)) = v1 at hb4 q0 q1 q3 hti hs4 ⊢
      have HTI := Lib.hid hti
      have HPKL := Lib.hid hpk
      have HKM := Lib.hid hkm
      have HRES := Lib.hid hres
      have HB4 := Lib.hid hb4
      have Q0 := Lib.hid q0
      have Q1 := Lib.hid q1
      have hEv : ∀ b, E b → b < v1.heap.size := (fun b hb => Nat.lt_of_lt_of_le (hEw b hb) (by omega))
      have hk0 := kept_start v1
      obtain ⟨M, hM⟩ : ∃ M, v1.heap.size = M := ⟨_, rfl⟩
      obtain ⟨ti, tcap, hsl, htc, htm, htn⟩ := hti.out
      simp only [Value.slice.injEq] at hsl
      obtain ⟨rfl, -, rfl⟩ := hsl
      have HTN := Lib.hid htn
      clear hti hkm hres hb4 q0 q1 q3 htn htc htm
      obtain ⟨i0, hi, hz0, hz1, hz2⟩ := info_parts info_term
      have HI := Lib.hid (And.intro hi (And.intro hz0 (And.intro hz1 hz2)))
      clear hi hz0 hz1 hz2
      go_wp2_with fail
      go_loopw [5, 6] (fun v i wr => ∃ (q : Nat) (ps : List (Tm × Value)) (vv : Value), vv = v ∧ q ≤ 2 ∧ i = .int .i64 q ∧ Hid (ps.map (·.1) = (picked t ([0, 1] : List Nat)).take q) ∧ MadeQV E v1.heap.size v1.heap.size wr v ps ∧ Kept v1 wr) (fun _ i _ => 2 - (intOf i).toNat)
      case atStart => exact ⟨0, [], _, rfl, Nat.zero_le _, rfl, by simp [Hid], madeQ_nilV _ _ _ _, hk0⟩
      case round =>
        clear hk0
        obtain ⟨q, ps, vv, rfl, hq0, rfl, hps, hmade, hkp⟩ := hrel
        have HPS := Lib.hid hps.out
        clear hps
        have t0 := keep_block hkp (block_lt Q0.out) Q0.out
        have t1 := keep_block hkp (block_lt Q1.out) Q1.out
        obtain ⟨d0, d1, d2, d3, d4⟩ := five_cells t0
        obtain ⟨z0, z1, z2, z3, z4⟩ := five_cells t1
        obtain ⟨f0, f1, f2, f3, f4⟩ := five_free t1
        have hsz : v1.heap.size ≤ wr.heap.size := Below.size hkp
        clear t0
        by_cases hlt : q < 2
        · obtain ⟨p, hp⟩ : ∃ p, ([0, 1] : List Nat)[q]'(by exact hlt) = p := ⟨_, rfl⟩
          have hpm : p ∈ ([0, 1] : List Nat) := by rw [← hp]; exact List.getElem_mem _
          have hplt := HPKL.out p hpm
          obtain ⟨b9, o9, h9, hx9⟩ := HTN.out q (by simpa using hlt)
          have hv9 : ([(0 : Int), (1 : Int)])[q]'(by simpa using hlt) = (p : Int) := by
            subst hp
            have : q = 0 ∨ q = 1 ∨ q = 2 ∨ q = 3 := by first | omega | (simp at hlt; omega)
            rcases this with rfl | rfl | rfl | rfl <;> first | rfl | (simp at hlt) | omega
          rw [hv9] at hx9
          simp only [Option.some.injEq, Addr.mk.injEq] at h9
          obtain ⟨rfl, rfl, -⟩ := h9
          replace hx9 : v1.cell? ⟨w.heap.size + 1 + 1 + 1, q, none⟩ = some (.int .i64 p) := by rw [Nat.zero_add] at hx9; exact hx9
          obtain ⟨b', o, rfl, hQb, hx⟩ := HN.out p hplt
          have hq := HK.out p hplt
          obtain ⟨a', cap', S', hS, -⟩ := hq.out
          rw [hS] at hx hq
          have hkid : (t.kids[p]?).getD .zero = t.kids[p] := by rw [List.getElem?_eq_getElem hplt]; rfl
          have HMem := Lib.hid (List.getElem_mem hplt)
          have hrk := HKM.out p hpm
          have hfx := right_fine (plain_right (bare_plain _ (marked_right hrk)))
          have hEr : ∀ b, E b → b < wr.heap.size := (fun b hb => Nat.lt_of_lt_of_le (hEw b hb) (by have := HB4.out.size; omega))
          have CALL := Lib.hid (IH.out _ HMem.out E wr.drew _ hEr ((hq.later HB4.out).later (Below.trans hkp (Below.refl _ _).drew)) hrk)
          have hpick : (picked t ([0, 1] : List Nat)).take (q + 1) = (picked t ([0, 1] : List Nat)).take q ++ [(t.kids[p]).bare] := by
            rw [List.take_succ_eq_append_getElem (by unfold picked; rw [List.length_map]; exact hlt)]
            congr 2
            simp only [picked, List.getElem_map, hp, hkid]
          obtain ⟨x, hxb⟩ : ∃ x, (t.kids[p]).bare = x := ⟨_, rfl⟩
          rw [hxb] at CALL hfx hpick
          have hpl : ps.length = q := by have := congrArg List.length HPS.out; simp [picked] at this; first | omega | (simp at hlt; omega)
          have HPL := Lib.hid hpl
          have HMD := Lib.hid hmade
          have HFX := Lib.hid hfx
          have HPICK := Lib.hid hpick
          have hnode := hx.below HB4.out hx.lt
          have hb4' := HB4.out.size
          have hnc := five_cells Q0.out
          have hd4 := hnc.2.2.2.2
          obtain ⟨c0, c1, c2, c3, c4⟩ := hnode.below hkp hnode.lt
          have hc9 := cell_lat hkp hx9
          clear hS hq hx hfx hpick hxb hkid hrk hp hmade hpl hv9 hnc
          go_wp2_with fail
          go_region_held3 (fun w' => Kept v1 w' ∧ w'.cell? ⟨w.heap.size, 4, none⟩ = some (.slice (some ⟨b', o, none⟩) t.kids.length cap) ∧ w'.cell? ⟨w.heap.size + 1 + 1 + 1, q, none⟩ = some (.int .i64 p) ∧ w'.cell? ⟨b', o + p * 5, none⟩ = some (.int .i64 t.kids[p].k) ∧ w'.cell? ⟨b', o + p * 5 + 1, none⟩ = some (.int .i64 t.kids[p].i) ∧ w'.cell? ⟨b', o + p * 5 + 2, none⟩ = some (.int .i64 t.kids[p].j) ∧ w'.cell? ⟨b', o + p * 5 + 3, none⟩ = some (.int .i64 t.kids[p].n) ∧ w'.cell? ⟨b', o + p * 5 + 4, none⟩ = some (.slice a' t.kids[p].kids.length cap'))
            (((with_reducible refine strip_andV ?_ hd4 hx9 hnode); repeat (first | with_reducible assumption | with_reducible exact hkp | with_reducible refine kept_drew ?_ | with_reducible refine kept_alloc ?_ _)))
            (first | (go_at_call 56; ((with_reducible refine Calls.mono CALL.out ?_); rintro e wn ⟨s2, rfl, hl2, hbn⟩; obtain ⟨a2, cap2, S2, rfl, -⟩ := hl2.out; have HL2 := Lib.hid hl2; have HB2 := Lib.hid hbn; have hk2 := kept_call (kept_drew hkp) hbn; clear hl2 hbn)) | (refine step_append_lies _ rfl _ _ 23 rfl (v1.heap.size) 25 i0 _ 5 56 (by kernel_rfl) HI.out.1 HI.out.2.1 HI.out.2.2.1 HI.out.2.2.2 rfl (by decide) _ ps.length (cells5 ps) rfl (madeQ_laterV (madeQ_laterV (madeQ_laterV HMD.out (Below.refl _ _).drew) HB2.out) ((Below.refl _ _).alloc (Nat.le_refl _) _)).own ⟨wn.heap.size, 0, none⟩ 1 1 (cells5 [(x, .slice a2 x.kids.length cap2)]) rfl rfl (news_new _ _ _ _) (one5 _ _) (by decide) (by have := HPL.out; unfold maxLen; omega) (by have := HPL.out; omega) (by have := Below.size hk2; simp; omega) _ rfl ?_; intro g cap3 w3 hown hgrow hat _; have hmq := madeQ_pushV (madeQ_laterV HMD.out (Below.refl _ _).drew) hEv (Nat.le_refl _) hsz HFX.out HB2.out HL2.out _ hown hgrow hat; have HMQ := Lib.hid hmq; have hk3 : Kept v1 w3 := Below.grown (Below.alloc hk2 (Below.size hk2) _) hgrow (by have := Below.size hk2; simp; omega) (madeQ_aboveV HMD.out); clear hmq hown hgrow hat))
          go_wp2_with fail
          go_roundw
          case rel => exact ⟨q + 1, ps ++ [(x, .slice a2 x.kids.length cap2)], _, rfl, hlt, by go_num, by rw [Hid, List.map_append, HPS.out, HPICK.out]; rfl, HMQ.out, hk3⟩
          case measure => simp [intOf]; omega
        · have : q = 2 := by omega
          subst this
          have hres2 : ps.map (·.1) = picked t ([0, 1] : List Nat) := by
            have := HPS.out
            rwa [List.take_of_length_le (by simp [picked])] at this
          have hll := madeQ_liesV hmade (Nat.le_refl _)
          rw [hres2] at hll
          obtain ⟨a2, cap2, S2, rfl, -⟩ := hll.out
          have HLL := Lib.hid hll
          have hbw := HB4.out.trans (Below.mono hkp HB4.out.size)
          have q1' := t1
          clear hres2 hll hmade
          go_wp2
          (try simp only [Exit.inBlock, Exit.then])
          refine bodyPost_ret (results_cell_row rfl _ _ (w.heap.size + 1) _ _ _ du rfl (five_set q1') hu1 (by cases du <;> first | rfl | exact hu2) size_term) rfl ?_
          rw [HRES.out]
          exact ⟨_, rfl, liesQ_fivesV HLL.out (fun b hb => Nat.lt_of_lt_of_le (hEw b hb) (by omega)) (by omega) (by omega) _ _ _ _ _, below_five hbw (by omega) _ _ _ _ _⟩
    · have hpk : ∀ p ∈ ([0, 2] : List Nat), p < t.kids.length := by
        have hlen := node_length (t.right_node HR0.out)
        rw [hkc] at hlen
        have h9 : t.kids.length = 3 := by simp [kidsN] at hlen; omega
        intro p hp
        simp at hp
        omega
      have hres := bare_pick t 4 [0, 2] hkc rfl rfl hpk
      have hb4 := below_four w (.cells #[.int .i64 t.k, .int .i64 t.i, .int .i64 t.j, .int .i64 t.n, .slice a t.kids.length cap] 25) (.cells #[.int .i64 0, .int .i64 0, .int .i64 0, .int .i64 0, .slice none 0 0] 25) (.cells #[] 3) (.cells #[.int .i64 0, .int .i64 2] 3)
      obtain ⟨q0, q1, -, q3⟩ := heap_four w (.cells #[.int .i64 t.k, .int .i64 t.i, .int .i64 t.j, .int .i64 t.n, .slice a t.kids.length cap] 25) (.cells #[.int .i64 0, .int .i64 0, .int .i64 0, .int .i64 0, .slice none 0 0] 25) (.cells #[] 3) (.cells #[.int .i64 0, .int .i64 2] 3)
      have hti := liesI_new (l := [(0 : Int), (2 : Int)]) q3 (by decide)
      have hkm : ∀ p (h : p ∈ ([0, 2] : List Nat)), (t.kids[p]'(hpk p h)).markedB = true := fun p h => marked_others HM0.out (by rw [hkc]; decide) _ (List.getElem_mem _)
      have e3 : (t.k == 3) = false := by rw [hkc]; decide
      have e4 : (t.k == 4) = true := by rw [hkc]; decide
      clear hkc
      go_enter Tryz.func56, Tryz.ntmps56
      go_upto_region 24 with fail
      have hs4 : w.heap.size + 3 < (((((w.alloc (.cells #[.int .i64 t.k, .int .i64 t.i, .int .i64 t.j, .int .i64 t.n, .slice a t.kids.length cap] 25)).alloc (.cells #[.int .i64 0, .int .i64 0, .int .i64 0, .int .i64 0, .slice none 0 0] 25)).alloc (.cells #[] 3)).alloc (.cells #[.int .i64 0, .int .i64 2] 3))).heap.size := by simp
      generalize ((((w.alloc (.cells #[.int .i64 t.k, .int .i64 t.i, .int .i64 t.j, .int .i64 t.n, .slice a t.kids.length cap] 25)).alloc (.cells #[.int .i64 0, .int .i64 0, .int .i64 0, .int .i64 0, .slice none 0 0] 25)).alloc (.cells #[] 3)).alloc (.cells #[.int .i64 0, .int .i64 2] 3)) = v1 at hb4 q0 q1 q3 hti hs4 ⊢
      have HTI := Lib.hid hti
      have HPKL := Lib.hid hpk
      have HKM := Lib.hid hkm
      have HRES := Lib.hid hres
      have HB4 := Lib.hid hb4
      have Q0 := Lib.hid q0
      have Q1 := Lib.hid q1
      have hEv : ∀ b, E b → b < v1.heap.size := (fun b hb => Nat.lt_of_lt_of_le (hEw b hb) (by omega))
      have hk0 := kept_start v1
      obtain ⟨M, hM⟩ : ∃ M, v1.heap.size = M := ⟨_, rfl⟩
      obtain ⟨ti, tcap, hsl, htc, htm, htn⟩ := hti.out
      simp only [Value.slice.injEq] at hsl
      obtain ⟨rfl, -, rfl⟩ := hsl
      have HTN := Lib.hid htn
      clear hti hkm hres hb4 q0 q1 q3 htn htc htm
      obtain ⟨i0, hi, hz0, hz1, hz2⟩ := info_parts info_term
      have HI := Lib.hid (And.intro hi (And.intro hz0 (And.intro hz1 hz2)))
      clear hi hz0 hz1 hz2
      go_wp2_with fail
      go_loopw [5, 6] (fun v i wr => ∃ (q : Nat) (ps : List (Tm × Value)) (vv : Value), vv = v ∧ q ≤ 2 ∧ i = .int .i64 q ∧ Hid (ps.map (·.1) = (picked t ([0, 2] : List Nat)).take q) ∧ MadeQV E v1.heap.size v1.heap.size wr v ps ∧ Kept v1 wr) (fun _ i _ => 2 - (intOf i).toNat)
      case atStart => exact ⟨0, [], _, rfl, Nat.zero_le _, rfl, by simp [Hid], madeQ_nilV _ _ _ _, hk0⟩
      case round =>
        clear hk0
        obtain ⟨q, ps, vv, rfl, hq0, rfl, hps, hmade, hkp⟩ := hrel
        have HPS := Lib.hid hps.out
        clear hps
        have t0 := keep_block hkp (block_lt Q0.out) Q0.out
        have t1 := keep_block hkp (block_lt Q1.out) Q1.out
        obtain ⟨d0, d1, d2, d3, d4⟩ := five_cells t0
        obtain ⟨z0, z1, z2, z3, z4⟩ := five_cells t1
        obtain ⟨f0, f1, f2, f3, f4⟩ := five_free t1
        have hsz : v1.heap.size ≤ wr.heap.size := Below.size hkp
        clear t0
        by_cases hlt : q < 2
        · obtain ⟨p, hp⟩ : ∃ p, ([0, 2] : List Nat)[q]'(by exact hlt) = p := ⟨_, rfl⟩
          have hpm : p ∈ ([0, 2] : List Nat) := by rw [← hp]; exact List.getElem_mem _
          have hplt := HPKL.out p hpm
          obtain ⟨b9, o9, h9, hx9⟩ := HTN.out q (by simpa using hlt)
          have hv9 : ([(0 : Int), (2 : Int)])[q]'(by simpa using hlt) = (p : Int) := by
            subst hp
            have : q = 0 ∨ q = 1 ∨ q = 2 ∨ q = 3 := by first | omega | (simp at hlt; omega)
            rcases this with rfl | rfl | rfl | rfl <;> first | rfl | (simp at hlt) | omega
          rw [hv9] at hx9
          simp only [Option.some.injEq, Addr.mk.injEq] at h9
          obtain ⟨rfl, rfl, -⟩ := h9
          replace hx9 : v1.cell? ⟨w.heap.size + 1 + 1 + 1, q, none⟩ = some (.int .i64 p) := by rw [Nat.zero_add] at hx9; exact hx9
          obtain ⟨b', o, rfl, hQb, hx⟩ := HN.out p hplt
          have hq := HK.out p hplt
          obtain ⟨a', cap', S', hS, -⟩ := hq.out
          rw [hS] at hx hq
          have hkid : (t.kids[p]?).getD .zero = t.kids[p] := by rw [List.getElem?_eq_getElem hplt]; rfl
          have HMem := Lib.hid (List.getElem_mem hplt)
          have hrk := HKM.out p hpm
          have hfx := right_fine (plain_right (bare_plain _ (marked_right hrk)))
          have hEr : ∀ b, E b → b < wr.heap.size := (fun b hb => Nat.lt_of_lt_of_le (hEw b hb) (by have := HB4.out.size; omega))
          have CALL := Lib.hid (IH.out _ HMem.out E wr.drew _ hEr ((hq.later HB4.out).later (Below.trans hkp (Below.refl _ _).drew)) hrk)
          have hpick : (picked t ([0, 2] : List Nat)).take (q + 1) = (picked t ([0, 2] : List Nat)).take q ++ [(t.kids[p]).bare] := by
            rw [List.take_succ_eq_append_getElem (by unfold picked; rw [List.length_map]; exact hlt)]
            congr 2
            simp only [picked, List.getElem_map, hp, hkid]
          obtain ⟨x, hxb⟩ : ∃ x, (t.kids[p]).bare = x := ⟨_, rfl⟩
          rw [hxb] at CALL hfx hpick
          have hpl : ps.length = q := by have := congrArg List.length HPS.out; simp [picked] at this; first | omega | (simp at hlt; omega)
          have HPL := Lib.hid hpl
          have HMD := Lib.hid hmade
          have HFX := Lib.hid hfx
          have HPICK := Lib.hid hpick
          have hnode := hx.below HB4.out hx.lt
          have hb4' := HB4.out.size
          have hnc := five_cells Q0.out
          have hd4 := hnc.2.2.2.2
          obtain ⟨c0, c1, c2, c3, c4⟩ := hnode.below hkp hnode.lt
          have hc9 := cell_lat hkp hx9
          clear hS hq hx hfx hpick hxb hkid hrk hp hmade hpl hv9 hnc
          go_wp2_with fail
          go_region_held3 (fun w' => Kept v1 w' ∧ w'.cell? ⟨w.heap.size, 4, none⟩ = some (.slice (some ⟨b', o, none⟩) t.kids.length cap) ∧ w'.cell? ⟨w.heap.size + 1 + 1 + 1, q, none⟩ = some (.int .i64 p) ∧ w'.cell? ⟨b', o + p * 5, none⟩ = some (.int .i64 t.kids[p].k) ∧ w'.cell? ⟨b', o + p * 5 + 1, none⟩ = some (.int .i64 t.kids[p].i) ∧ w'.cell? ⟨b', o + p * 5 + 2, none⟩ = some (.int .i64 t.kids[p].j) ∧ w'.cell? ⟨b', o + p * 5 + 3, none⟩ = some (.int .i64 t.kids[p].n) ∧ w'.cell? ⟨b', o + p * 5 + 4, none⟩ = some (.slice a' t.kids[p].kids.length cap'))
            (((with_reducible refine strip_andV ?_ hd4 hx9 hnode); repeat (first | with_reducible assumption | with_reducible exact hkp | with_reducible refine kept_drew ?_ | with_reducible refine kept_alloc ?_ _)))
            (first | (go_at_call 56; ((with_reducible refine Calls.mono CALL.out ?_); rintro e wn ⟨s2, rfl, hl2, hbn⟩; obtain ⟨a2, cap2, S2, rfl, -⟩ := hl2.out; have HL2 := Lib.hid hl2; have HB2 := Lib.hid hbn; have hk2 := kept_call (kept_drew hkp) hbn; clear hl2 hbn)) | (refine step_append_lies _ rfl _ _ 23 rfl (v1.heap.size) 25 i0 _ 5 56 (by kernel_rfl) HI.out.1 HI.out.2.1 HI.out.2.2.1 HI.out.2.2.2 rfl (by decide) _ ps.length (cells5 ps) rfl (madeQ_laterV (madeQ_laterV (madeQ_laterV HMD.out (Below.refl _ _).drew) HB2.out) ((Below.refl _ _).alloc (Nat.le_refl _) _)).own ⟨wn.heap.size, 0, none⟩ 1 1 (cells5 [(x, .slice a2 x.kids.length cap2)]) rfl rfl (news_new _ _ _ _) (one5 _ _) (by decide) (by have := HPL.out; unfold maxLen; omega) (by have := HPL.out; omega) (by have := Below.size hk2; simp; omega) _ rfl ?_; intro g cap3 w3 hown hgrow hat _; have hmq := madeQ_pushV (madeQ_laterV HMD.out (Below.refl _ _).drew) hEv (Nat.le_refl _) hsz HFX.out HB2.out HL2.out _ hown hgrow hat; have HMQ := Lib.hid hmq; have hk3 : Kept v1 w3 := Below.grown (Below.alloc hk2 (Below.size hk2) _) hgrow (by have := Below.size hk2; simp; omega) (madeQ_aboveV HMD.out); clear hmq hown hgrow hat))
          go_wp2_with fail
          go_roundw
          case rel => exact ⟨q + 1, ps ++ [(x, .slice a2 x.kids.length cap2)], _, rfl, hlt, by go_num, by rw [Hid, List.map_append, HPS.out, HPICK.out]; rfl, HMQ.out, hk3⟩
          case measure => simp [intOf]; omega
        · have : q = 2 := by omega
          subst this
          have hres2 : ps.map (·.1) = picked t ([0, 2] : List Nat) := by
            have := HPS.out
            rwa [List.take_of_length_le (by simp [picked])] at this
          have hll := madeQ_liesV hmade (Nat.le_refl _)
          rw [hres2] at hll
          obtain ⟨a2, cap2, S2, rfl, -⟩ := hll.out
          have HLL := Lib.hid hll
          have hbw := HB4.out.trans (Below.mono hkp HB4.out.size)
          have q1' := t1
          clear hres2 hll hmade
          go_wp2
          (try simp only [Exit.inBlock, Exit.then])
          refine bodyPost_ret (results_cell_row rfl _ _ (w.heap.size + 1) _ _ _ du rfl (five_set q1') hu1 (by cases du <;> first | rfl | exact hu2) size_term) rfl ?_
          rw [HRES.out]
          exact ⟨_, rfl, liesQ_fivesV HLL.out (fun b hb => Nat.lt_of_lt_of_le (hEw b hb) (by omega)) (by omega) (by omega) _ _ _ _ _, below_five hbw (by omega) _ _ _ _ _⟩
    · have hpk : ∀ p ∈ ([2, 3] : List Nat), p < t.kids.length := by
        have hlen := node_length (t.right_node HR0.out)
        rw [hkc] at hlen
        have h9 : t.kids.length = 4 := by simp [kidsN] at hlen; omega
        intro p hp
        simp at hp
        omega
      have hres := bare_pick t 5 [2, 3] hkc rfl rfl hpk
      have hb4 := below_four w (.cells #[.int .i64 t.k, .int .i64 t.i, .int .i64 t.j, .int .i64 t.n, .slice a t.kids.length cap] 25) (.cells #[.int .i64 0, .int .i64 0, .int .i64 0, .int .i64 0, .slice none 0 0] 25) (.cells #[] 3) (.cells #[.int .i64 2, .int .i64 3] 3)
      obtain ⟨q0, q1, -, q3⟩ := heap_four w (.cells #[.int .i64 t.k, .int .i64 t.i, .int .i64 t.j, .int .i64 t.n, .slice a t.kids.length cap] 25) (.cells #[.int .i64 0, .int .i64 0, .int .i64 0, .int .i64 0, .slice none 0 0] 25) (.cells #[] 3) (.cells #[.int .i64 2, .int .i64 3] 3)
      have hti := liesI_new (l := [(2 : Int), (3 : Int)]) q3 (by decide)
      have hkm : ∀ p (h : p ∈ ([2, 3] : List Nat)), (t.kids[p]'(hpk p h)).markedB = true := fun p h => marked_others HM0.out (by rw [hkc]; decide) _ (List.getElem_mem _)
      have e3 : (t.k == 3) = false := by rw [hkc]; decide
      have e4 : (t.k == 4) = false := by rw [hkc]; decide
      have e5 : (t.k == 5) = true := by rw [hkc]; decide
      clear hkc
      go_enter Tryz.func56, Tryz.ntmps56
      go_upto_region 24 with fail
      have hs4 : w.heap.size + 3 < (((((w.alloc (.cells #[.int .i64 t.k, .int .i64 t.i, .int .i64 t.j, .int .i64 t.n, .slice a t.kids.length cap] 25)).alloc (.cells #[.int .i64 0, .int .i64 0, .int .i64 0, .int .i64 0, .slice none 0 0] 25)).alloc (.cells #[] 3)).alloc (.cells #[.int .i64 2, .int .i64 3] 3))).heap.size := by simp
      generalize ((((w.alloc (.cells #[.int .i64 t.k, .int .i64 t.i, .int .i64 t.j, .int .i64 t.n, .slice a t.kids.length cap] 25)).alloc (.cells #[.int .i64 0, .int .i64 0, .int .i64 0, .int .i64 0, .slice none 0 0] 25)).alloc (.cells #[] 3)).alloc (.cells #[.int .i64 2, .int .i64 3] 3)) = v1 at hb4 q0 q1 q3 hti hs4 ⊢
      have HTI := Lib.hid hti
      have HPKL := Lib.hid hpk
      have HKM := Lib.hid hkm
      have HRES := Lib.hid hres
      have HB4 := Lib.hid hb4
      have Q0 := Lib.hid q0
      have Q1 := Lib.hid q1
      have hEv : ∀ b, E b → b < v1.heap.size := (fun b hb => Nat.lt_of_lt_of_le (hEw b hb) (by omega))
      have hk0 := kept_start v1
      obtain ⟨M, hM⟩ : ∃ M, v1.heap.size = M := ⟨_, rfl⟩
      obtain ⟨ti, tcap, hsl, htc, htm, htn⟩ := hti.out
      simp only [Value.slice.injEq] at hsl
      obtain ⟨rfl, -, rfl⟩ := hsl
      have HTN := Lib.hid htn
      clear hti hkm hres hb4 q0 q1 q3 htn htc htm
      obtain ⟨i0, hi, hz0, hz1, hz2⟩ := info_parts info_term
      have HI := Lib.hid (And.intro hi (And.intro hz0 (And.intro hz1 hz2)))
      clear hi hz0 hz1 hz2
      go_wp2_with fail
      go_loopw [5, 6] (fun v i wr => ∃ (q : Nat) (ps : List (Tm × Value)) (vv : Value), vv = v ∧ q ≤ 2 ∧ i = .int .i64 q ∧ Hid (ps.map (·.1) = (picked t ([2, 3] : List Nat)).take q) ∧ MadeQV E v1.heap.size v1.heap.size wr v ps ∧ Kept v1 wr) (fun _ i _ => 2 - (intOf i).toNat)
      case atStart => exact ⟨0, [], _, rfl, Nat.zero_le _, rfl, by simp [Hid], madeQ_nilV _ _ _ _, hk0⟩
      case round =>
        clear hk0
        obtain ⟨q, ps, vv, rfl, hq0, rfl, hps, hmade, hkp⟩ := hrel
        have HPS := Lib.hid hps.out
        clear hps
        have t0 := keep_block hkp (block_lt Q0.out) Q0.out
        have t1 := keep_block hkp (block_lt Q1.out) Q1.out
        obtain ⟨d0, d1, d2, d3, d4⟩ := five_cells t0
        obtain ⟨z0, z1, z2, z3, z4⟩ := five_cells t1
        obtain ⟨f0, f1, f2, f3, f4⟩ := five_free t1
        have hsz : v1.heap.size ≤ wr.heap.size := Below.size hkp
        clear t0
        by_cases hlt : q < 2
        · obtain ⟨p, hp⟩ : ∃ p, ([2, 3] : List Nat)[q]'(by exact hlt) = p := ⟨_, rfl⟩
          have hpm : p ∈ ([2, 3] : List Nat) := by rw [← hp]; exact List.getElem_mem _
          have hplt := HPKL.out p hpm
          obtain ⟨b9, o9, h9, hx9⟩ := HTN.out q (by simpa using hlt)
          have hv9 : ([(2 : Int), (3 : Int)])[q]'(by simpa using hlt) = (p : Int) := by
            subst hp
            have : q = 0 ∨ q = 1 ∨ q = 2 ∨ q = 3 := by first | omega | (simp at hlt; omega)
            rcases this with rfl | rfl | rfl | rfl <;> first | rfl | (simp at hlt) | omega
          rw [hv9] at hx9
          simp only [Option.some.injEq, Addr.mk.injEq] at h9
          obtain ⟨rfl, rfl, -⟩ := h9
          replace hx9 : v1.cell? ⟨w.heap.size + 1 + 1 + 1, q, none⟩ = some (.int .i64 p) := by rw [Nat.zero_add] at hx9; exact hx9
          obtain ⟨b', o, rfl, hQb, hx⟩ := HN.out p hplt
          have hq := HK.out p hplt
          obtain ⟨a', cap', S', hS, -⟩ := hq.out
          rw [hS] at hx hq
          have hkid : (t.kids[p]?).getD .zero = t.kids[p] := by rw [List.getElem?_eq_getElem hplt]; rfl
          have HMem := Lib.hid (List.getElem_mem hplt)
          have hrk := HKM.out p hpm
          have hfx := right_fine (plain_right (bare_plain _ (marked_right hrk)))
          have hEr : ∀ b, E b → b < wr.heap.size := (fun b hb => Nat.lt_of_lt_of_le (hEw b hb) (by have := HB4.out.size; omega))
          have CALL := Lib.hid (IH.out _ HMem.out E wr.drew _ hEr ((hq.later HB4.out).later (Below.trans hkp (Below.refl _ _).drew)) hrk)
          have hpick : (picked t ([2, 3] : List Nat)).take (q + 1) = (picked t ([2, 3] : List Nat)).take q ++ [(t.kids[p]).bare] := by
            rw [List.take_succ_eq_append_getElem (by unfold picked; rw [List.length_map]; exact hlt)]
            congr 2
            simp only [picked, List.getElem_map, hp, hkid]
          obtain ⟨x, hxb⟩ : ∃ x, (t.kids[p]).bare = x := ⟨_, rfl⟩
          rw [hxb] at CALL hfx hpick
          have hpl : ps.length = q := by have := congrArg List.length HPS.out; simp [picked] at this; first | omega | (simp at hlt; omega)
          have HPL := Lib.hid hpl
          have HMD := Lib.hid hmade
          have HFX := Lib.hid hfx
          have HPICK := Lib.hid hpick
          have hnode := hx.below HB4.out hx.lt
          have hb4' := HB4.out.size
          have hnc := five_cells Q0.out
          have hd4 := hnc.2.2.2.2
          obtain ⟨c0, c1, c2, c3, c4⟩ := hnode.below hkp hnode.lt
          have hc9 := cell_lat hkp hx9
          clear hS hq hx hfx hpick hxb hkid hrk hp hmade hpl hv9 hnc
          go_wp2_with fail
          go_region_held3 (fun w' => Kept v1 w' ∧ w'.cell? ⟨w.heap.size, 4, none⟩ = some (.slice (some ⟨b', o, none⟩) t.kids.length cap) ∧ w'.cell? ⟨w.heap.size + 1 + 1 + 1, q, none⟩ = some (.int .i64 p) ∧ w'.cell? ⟨b', o + p * 5, none⟩ = some (.int .i64 t.kids[p].k) ∧ w'.cell? ⟨b', o + p * 5 + 1, none⟩ = some (.int .i64 t.kids[p].i) ∧ w'.cell? ⟨b', o + p * 5 + 2, none⟩ = some (.int .i64 t.kids[p].j) ∧ w'.cell? ⟨b', o + p * 5 + 3, none⟩ = some (.int .i64 t.kids[p].n) ∧ w'.cell? ⟨b', o + p * 5 + 4, none⟩ = some (.slice a' t.kids[p].kids.length cap'))
            (((with_reducible refine strip_andV ?_ hd4 hx9 hnode); repeat (first | with_reducible assumption | with_reducible exact hkp | with_reducible refine kept_drew ?_ | with_reducible refine kept_alloc ?_ _)))
            (first | (go_at_call 56; ((with_reducible refine Calls.mono CALL.out ?_); rintro e wn ⟨s2, rfl, hl2, hbn⟩; obtain ⟨a2, cap2, S2, rfl, -⟩ := hl2.out; have HL2 := Lib.hid hl2; have HB2 := Lib.hid hbn; have hk2 := kept_call (kept_drew hkp) hbn; clear hl2 hbn)) | (refine step_append_lies _ rfl _ _ 23 rfl (v1.heap.size) 25 i0 _ 5 56 (by kernel_rfl) HI.out.1 HI.out.2.1 HI.out.2.2.1 HI.out.2.2.2 rfl (by decide) _ ps.length (cells5 ps) rfl (madeQ_laterV (madeQ_laterV (madeQ_laterV HMD.out (Below.refl _ _).drew) HB2.out) ((Below.refl _ _).alloc (Nat.le_refl _) _)).own ⟨wn.heap.size, 0, none⟩ 1 1 (cells5 [(x, .slice a2 x.kids.length cap2)]) rfl rfl (news_new _ _ _ _) (one5 _ _) (by decide) (by have := HPL.out; unfold maxLen; omega) (by have := HPL.out; omega) (by have := Below.size hk2; simp; omega) _ rfl ?_; intro g cap3 w3 hown hgrow hat _; have hmq := madeQ_pushV (madeQ_laterV HMD.out (Below.refl _ _).drew) hEv (Nat.le_refl _) hsz HFX.out HB2.out HL2.out _ hown hgrow hat; have HMQ := Lib.hid hmq; have hk3 : Kept v1 w3 := Below.grown (Below.alloc hk2 (Below.size hk2) _) hgrow (by have := Below.size hk2; simp; omega) (madeQ_aboveV HMD.out); clear hmq hown hgrow hat))
          go_wp2_with fail
          go_roundw
          case rel => exact ⟨q + 1, ps ++ [(x, .slice a2 x.kids.length cap2)], _, rfl, hlt, by go_num, by rw [Hid, List.map_append, HPS.out, HPICK.out]; rfl, HMQ.out, hk3⟩
          case measure => simp [intOf]; omega
        · have : q = 2 := by omega
          subst this
          have hres2 : ps.map (·.1) = picked t ([2, 3] : List Nat) := by
            have := HPS.out
            rwa [List.take_of_length_le (by simp [picked])] at this
          have hll := madeQ_liesV hmade (Nat.le_refl _)
          rw [hres2] at hll
          obtain ⟨a2, cap2, S2, rfl, -⟩ := hll.out
          have HLL := Lib.hid hll
          have hbw := HB4.out.trans (Below.mono hkp HB4.out.size)
          have q1' := t1
          clear hres2 hll hmade
          go_wp2
          (try simp only [Exit.inBlock, Exit.then])
          refine bodyPost_ret (results_cell_row rfl _ _ (w.heap.size + 1) _ _ _ du rfl (five_set q1') hu1 (by cases du <;> first | rfl | exact hu2) size_term) rfl ?_
          rw [HRES.out]
          exact ⟨_, rfl, liesQ_fivesV HLL.out (fun b hb => Nat.lt_of_lt_of_le (hEw b hb) (by omega)) (by omega) (by omega) _ _ _ _ _, below_five hbw (by omega) _ _ _ _ _⟩
    · have hpk : ∀ p ∈ ([0, 1] : List Nat), p < t.kids.length := by
        have hlen := node_length (t.right_node HR0.out)
        rw [hkc] at hlen
        have h9 : t.kids.length = 2 := by simp [kidsN] at hlen; omega
        intro p hp
        simp at hp
        omega
      have hres := bare_pick t 6 [0, 1] hkc rfl rfl hpk
      have hb4 := below_four w (.cells #[.int .i64 t.k, .int .i64 t.i, .int .i64 t.j, .int .i64 t.n, .slice a t.kids.length cap] 25) (.cells #[.int .i64 0, .int .i64 0, .int .i64 0, .int .i64 0, .slice none 0 0] 25) (.cells #[] 3) (.cells #[.int .i64 0, .int .i64 1] 3)
      obtain ⟨q0, q1, -, q3⟩ := heap_four w (.cells #[.int .i64 t.k, .int .i64 t.i, .int .i64 t.j, .int .i64 t.n, .slice a t.kids.length cap] 25) (.cells #[.int .i64 0, .int .i64 0, .int .i64 0, .int .i64 0, .slice none 0 0] 25) (.cells #[] 3) (.cells #[.int .i64 0, .int .i64 1] 3)
      have hti := liesI_new (l := [(0 : Int), (1 : Int)]) q3 (by decide)
      have hkm : ∀ p (h : p ∈ ([0, 1] : List Nat)), (t.kids[p]'(hpk p h)).markedB = true := fun p h => marked_others HM0.out (by rw [hkc]; decide) _ (List.getElem_mem _)
      have e3 : (t.k == 3) = false := by rw [hkc]; decide
      have e4 : (t.k == 4) = false := by rw [hkc]; decide
      have e5 : (t.k == 5) = false := by rw [hkc]; decide
      have e6 : (t.k == 6) = true := by rw [hkc]; decide
      clear hkc
      go_enter Tryz.func56, Tryz.ntmps56
      go_upto_region 24 with fail
      have hs4 : w.heap.size + 3 < (((((w.alloc (.cells #[.int .i64 t.k, .int .i64 t.i, .int .i64 t.j, .int .i64 t.n, .slice a t.kids.length cap] 25)).alloc (.cells #[.int .i64 0, .int .i64 0, .int .i64 0, .int .i64 0, .slice none 0 0] 25)).alloc (.cells #[] 3)).alloc (.cells #[.int .i64 0, .int .i64 1] 3))).heap.size := by simp
      generalize ((((w.alloc (.cells #[.int .i64 t.k, .int .i64 t.i, .int .i64 t.j, .int .i64 t.n, .slice a t.kids.length cap] 25)).alloc (.cells #[.int .i64 0, .int .i64 0, .int .i64 0, .int .i64 0, .slice none 0 0] 25)).alloc (.cells #[] 3)).alloc (.cells #[.int .i64 0, .int .i64 1] 3)) = v1 at hb4 q0 q1 q3 hti hs4 ⊢
      have HTI := Lib.hid hti
      have HPKL := Lib.hid hpk
      have HKM := Lib.hid hkm
      have HRES := Lib.hid hres
      have HB4 := Lib.hid hb4
      have Q0 := Lib.hid q0
      have Q1 := Lib.hid q1
      have hEv : ∀ b, E b → b < v1.heap.size := (fun b hb => Nat.lt_of_lt_of_le (hEw b hb) (by omega))
      have hk0 := kept_start v1
      obtain ⟨M, hM⟩ : ∃ M, v1.heap.size = M := ⟨_, rfl⟩
      obtain ⟨ti, tcap, hsl, htc, htm, htn⟩ := hti.out
      simp only [Value.slice.injEq] at hsl
      obtain ⟨rfl, -, rfl⟩ := hsl
      have HTN := Lib.hid htn
      clear hti hkm hres hb4 q0 q1 q3 htn htc htm
      obtain ⟨i0, hi, hz0, hz1, hz2⟩ := info_parts info_term
      have HI := Lib.hid (And.intro hi (And.intro hz0 (And.intro hz1 hz2)))
      clear hi hz0 hz1 hz2
      go_wp2_with fail
      go_loopw [5, 6] (fun v i wr => ∃ (q : Nat) (ps : List (Tm × Value)) (vv : Value), vv = v ∧ q ≤ 2 ∧ i = .int .i64 q ∧ Hid (ps.map (·.1) = (picked t ([0, 1] : List Nat)).take q) ∧ MadeQV E v1.heap.size v1.heap.size wr v ps ∧ Kept v1 wr) (fun _ i _ => 2 - (intOf i).toNat)
      case atStart => exact ⟨0, [], _, rfl, Nat.zero_le _, rfl, by simp [Hid], madeQ_nilV _ _ _ _, hk0⟩
      case round =>
        clear hk0
        obtain ⟨q, ps, vv, rfl, hq0, rfl, hps, hmade, hkp⟩ := hrel
        have HPS := Lib.hid hps.out
        clear hps
        have t0 := keep_block hkp (block_lt Q0.out) Q0.out
        have t1 := keep_block hkp (block_lt Q1.out) Q1.out
        obtain ⟨d0, d1, d2, d3, d4⟩ := five_cells t0
        obtain ⟨z0, z1, z2, z3, z4⟩ := five_cells t1
        obtain ⟨f0, f1, f2, f3, f4⟩ := five_free t1
        have hsz : v1.heap.size ≤ wr.heap.size := Below.size hkp
        clear t0
        by_cases hlt : q < 2
        · obtain ⟨p, hp⟩ : ∃ p, ([0, 1] : List Nat)[q]'(by exact hlt) = p := ⟨_, rfl⟩
          have hpm : p ∈ ([0, 1] : List Nat) := by rw [← hp]; exact List.getElem_mem _
          have hplt := HPKL.out p hpm
          obtain ⟨b9, o9, h9, hx9⟩ := HTN.out q (by simpa using hlt)
          have hv9 : ([(0 : Int), (1 : Int)])[q]'(by simpa using hlt) = (p : Int) := by
            subst hp
            have : q = 0 ∨ q = 1 ∨ q = 2 ∨ q = 3 := by first | omega | (simp at hlt; omega)
            rcases this with rfl | rfl | rfl | rfl <;> first | rfl | (simp at hlt) | omega
          rw [hv9] at hx9
          simp only [Option.some.injEq, Addr.mk.injEq] at h9
          obtain ⟨rfl, rfl, -⟩ := h9
          replace hx9 : v1.cell? ⟨w.heap.size + 1 + 1 + 1, q, none⟩ = some (.int .i64 p) := by rw [Nat.zero_add] at hx9; exact hx9
          obtain ⟨b', o, rfl, hQb, hx⟩ := HN.out p hplt
          have hq := HK.out p hplt
          obtain ⟨a', cap', S', hS, -⟩ := hq.out
          rw [hS] at hx hq
          have hkid : (t.kids[p]?).getD .zero = t.kids[p] := by rw [List.getElem?_eq_getElem hplt]; rfl
          have HMem := Lib.hid (List.getElem_mem hplt)
          have hrk := HKM.out p hpm
          have hfx := right_fine (plain_right (bare_plain _ (marked_right hrk)))
          have hEr : ∀ b, E b → b < wr.heap.size := (fun b hb => Nat.lt_of_lt_of_le (hEw b hb) (by have := HB4.out.size; omega))
          have CALL := Lib.hid (IH.out _ HMem.out E wr.drew _ hEr ((hq.later HB4.out).later (Below.trans hkp (Below.refl _ _).drew)) hrk)
          have hpick : (picked t ([0, 1] : List Nat)).take (q + 1) = (picked t ([0, 1] : List Nat)).take q ++ [(t.kids[p]).bare] := by
            rw [List.take_succ_eq_append_getElem (by unfold picked; rw [List.length_map]; exact hlt)]
            congr 2
            simp only [picked, List.getElem_map, hp, hkid]
          obtain ⟨x, hxb⟩ : ∃ x, (t.kids[p]).bare = x := ⟨_, rfl⟩
          rw [hxb] at CALL hfx hpick
          have hpl : ps.length = q := by have := congrArg List.length HPS.out; simp [picked] at this; first | omega | (simp at hlt; omega)
          have HPL := Lib.hid hpl
          have HMD := Lib.hid hmade
          have HFX := Lib.hid hfx
          have HPICK := Lib.hid hpick
          have hnode := hx.below HB4.out hx.lt
          have hb4' := HB4.out.size
          have hnc := five_cells Q0.out
          have hd4 := hnc.2.2.2.2
          obtain ⟨c0, c1, c2, c3, c4⟩ := hnode.below hkp hnode.lt
          have hc9 := cell_lat hkp hx9
          clear hS hq hx hfx hpick hxb hkid hrk hp hmade hpl hv9 hnc
          go_wp2_with fail
          go_region_held3 (fun w' => Kept v1 w' ∧ w'.cell? ⟨w.heap.size, 4, none⟩ = some (.slice (some ⟨b', o, none⟩) t.kids.length cap) ∧ w'.cell? ⟨w.heap.size + 1 + 1 + 1, q, none⟩ = some (.int .i64 p) ∧ w'.cell? ⟨b', o + p * 5, none⟩ = some (.int .i64 t.kids[p].k) ∧ w'.cell? ⟨b', o + p * 5 + 1, none⟩ = some (.int .i64 t.kids[p].i) ∧ w'.cell? ⟨b', o + p * 5 + 2, none⟩ = some (.int .i64 t.kids[p].j) ∧ w'.cell? ⟨b', o + p * 5 + 3, none⟩ = some (.int .i64 t.kids[p].n) ∧ w'.cell? ⟨b', o + p * 5 + 4, none⟩ = some (.slice a' t.kids[p].kids.length cap'))
            (((with_reducible refine strip_andV ?_ hd4 hx9 hnode); repeat (first | with_reducible assumption | with_reducible exact hkp | with_reducible refine kept_drew ?_ | with_reducible refine kept_alloc ?_ _)))
            (first | (go_at_call 56; ((with_reducible refine Calls.mono CALL.out ?_); rintro e wn ⟨s2, rfl, hl2, hbn⟩; obtain ⟨a2, cap2, S2, rfl, -⟩ := hl2.out; have HL2 := Lib.hid hl2; have HB2 := Lib.hid hbn; have hk2 := kept_call (kept_drew hkp) hbn; clear hl2 hbn)) | (refine step_append_lies _ rfl _ _ 23 rfl (v1.heap.size) 25 i0 _ 5 56 (by kernel_rfl) HI.out.1 HI.out.2.1 HI.out.2.2.1 HI.out.2.2.2 rfl (by decide) _ ps.length (cells5 ps) rfl (madeQ_laterV (madeQ_laterV (madeQ_laterV HMD.out (Below.refl _ _).drew) HB2.out) ((Below.refl _ _).alloc (Nat.le_refl _) _)).own ⟨wn.heap.size, 0, none⟩ 1 1 (cells5 [(x, .slice a2 x.kids.length cap2)]) rfl rfl (news_new _ _ _ _) (one5 _ _) (by decide) (by have := HPL.out; unfold maxLen; omega) (by have := HPL.out; omega) (by have := Below.size hk2; simp; omega) _ rfl ?_; intro g cap3 w3 hown hgrow hat _; have hmq := madeQ_pushV (madeQ_laterV HMD.out (Below.refl _ _).drew) hEv (Nat.le_refl _) hsz HFX.out HB2.out HL2.out _ hown hgrow hat; have HMQ := Lib.hid hmq; have hk3 : Kept v1 w3 := Below.grown (Below.alloc hk2 (Below.size hk2) _) hgrow (by have := Below.size hk2; simp; omega) (madeQ_aboveV HMD.out); clear hmq hown hgrow hat))
          go_wp2_with fail
          go_roundw
          case rel => exact ⟨q + 1, ps ++ [(x, .slice a2 x.kids.length cap2)], _, rfl, hlt, by go_num, by rw [Hid, List.map_append, HPS.out, HPICK.out]; rfl, HMQ.out, hk3⟩
          case measure => simp [intOf]; omega
        · have : q = 2 := by omega
          subst this
          have hres2 : ps.map (·.1) = picked t ([0, 1] : List Nat) := by
            have := HPS.out
            rwa [List.take_of_length_le (by simp [picked])] at this
          have hll := madeQ_liesV hmade (Nat.le_refl _)
          rw [hres2] at hll
          obtain ⟨a2, cap2, S2, rfl, -⟩ := hll.out
          have HLL := Lib.hid hll
          have hbw := HB4.out.trans (Below.mono hkp HB4.out.size)
          have q1' := t1
          clear hres2 hll hmade
          go_wp2
          (try simp only [Exit.inBlock, Exit.then])
          refine bodyPost_ret (results_cell_row rfl _ _ (w.heap.size + 1) _ _ _ du rfl (five_set q1') hu1 (by cases du <;> first | rfl | exact hu2) size_term) rfl ?_
          rw [HRES.out]
          exact ⟨_, rfl, liesQ_fivesV HLL.out (fun b hb => Nat.lt_of_lt_of_le (hEw b hb) (by omega)) (by omega) (by omega) _ _ _ _ _, below_five hbw (by omega) _ _ _ _ _⟩
    · have hpk : ∀ p ∈ ([0, 1, 2, 3] : List Nat), p < t.kids.length := by
        have hlen := node_length (t.right_node HR0.out)
        rw [hkc] at hlen
        have h9 : t.kids.length = 4 := by simp [kidsN] at hlen; omega
        intro p hp
        simp at hp
        omega
      have hres := bare_pick t 7 [0, 1, 2, 3] hkc rfl rfl hpk
      have hb4 := below_four w (.cells #[.int .i64 t.k, .int .i64 t.i, .int .i64 t.j, .int .i64 t.n, .slice a t.kids.length cap] 25) (.cells #[.int .i64 0, .int .i64 0, .int .i64 0, .int .i64 0, .slice none 0 0] 25) (.cells #[] 3) (.cells #[.int .i64 0, .int .i64 1, .int .i64 2, .int .i64 3] 3)
      obtain ⟨q0, q1, -, q3⟩ := heap_four w (.cells #[.int .i64 t.k, .int .i64 t.i, .int .i64 t.j, .int .i64 t.n, .slice a t.kids.length cap] 25) (.cells #[.int .i64 0, .int .i64 0, .int .i64 0, .int .i64 0, .slice none 0 0] 25) (.cells #[] 3) (.cells #[.int .i64 0, .int .i64 1, .int .i64 2, .int .i64 3] 3)
      have hti := liesI_new (l := [(0 : Int), (1 : Int), (2 : Int), (3 : Int)]) q3 (by decide)
      have hkm : ∀ p (h : p ∈ ([0, 1, 2, 3] : List Nat)), (t.kids[p]'(hpk p h)).markedB = true := fun p h => marked_others HM0.out (by rw [hkc]; decide) _ (List.getElem_mem _)
      have e3 : (t.k == 3) = false := by rw [hkc]; decide
      have e4 : (t.k == 4) = false := by rw [hkc]; decide
      have e5 : (t.k == 5) = false := by rw [hkc]; decide
      have e6 : (t.k == 6) = false := by rw [hkc]; decide
      have e7 : (t.k == 7) = true := by rw [hkc]; decide
      clear hkc
      go_enter Tryz.func56, Tryz.ntmps56
      go_upto_region 24 with fail
      have hs4 : w.heap.size + 3 < (((((w.alloc (.cells #[.int .i64 t.k, .int .i64 t.i, .int .i64 t.j, .int .i64 t.n, .slice a t.kids.length cap] 25)).alloc (.cells #[.int .i64 0, .int .i64 0, .int .i64 0, .int .i64 0, .slice none 0 0] 25)).alloc (.cells #[] 3)).alloc (.cells #[.int .i64 0, .int .i64 1, .int .i64 2, .int .i64 3] 3))).heap.size := by simp
      generalize ((((w.alloc (.cells #[.int .i64 t.k, .int .i64 t.i, .int .i64 t.j, .int .i64 t.n, .slice a t.kids.length cap] 25)).alloc (.cells #[.int .i64 0, .int .i64 0, .int .i64 0, .int .i64 0, .slice none 0 0] 25)).alloc (.cells #[] 3)).alloc (.cells #[.int .i64 0, .int .i64 1, .int .i64 2, .int .i64 3] 3)) = v1 at hb4 q0 q1 q3 hti hs4 ⊢
      have HTI := Lib.hid hti
      have HPKL := Lib.hid hpk
      have HKM := Lib.hid hkm
      have HRES := Lib.hid hres
      have HB4 := Lib.hid hb4
      have Q0 := Lib.hid q0
      have Q1 := Lib.hid q1
      have hEv : ∀ b, E b → b < v1.heap.size := (fun b hb => Nat.lt_of_lt_of_le (hEw b hb) (by omega))
      have hk0 := kept_start v1
      obtain ⟨M, hM⟩ : ∃ M, v1.heap.size = M := ⟨_, rfl⟩
      obtain ⟨ti, tcap, hsl, htc, htm, htn⟩ := hti.out
      simp only [Value.slice.injEq] at hsl
      obtain ⟨rfl, -, rfl⟩ := hsl
      have HTN := Lib.hid htn
      clear hti hkm hres hb4 q0 q1 q3 htn htc htm
      obtain ⟨i0, hi, hz0, hz1, hz2⟩ := info_parts info_term
      have HI := Lib.hid (And.intro hi (And.intro hz0 (And.intro hz1 hz2)))
      clear hi hz0 hz1 hz2
      go_wp2_with fail
      go_loopw [5, 6] (fun v i wr => ∃ (q : Nat) (ps : List (Tm × Value)) (vv : Value), vv = v ∧ q ≤ 4 ∧ i = .int .i64 q ∧ Hid (ps.map (·.1) = (picked t ([0, 1, 2, 3] : List Nat)).take q) ∧ MadeQV E v1.heap.size v1.heap.size wr v ps ∧ Kept v1 wr) (fun _ i _ => 4 - (intOf i).toNat)
      case atStart => exact ⟨0, [], _, rfl, Nat.zero_le _, rfl, by simp [Hid], madeQ_nilV _ _ _ _, hk0⟩
      case round =>
        clear hk0
        obtain ⟨q, ps, vv, rfl, hq0, rfl, hps, hmade, hkp⟩ := hrel
        have HPS := Lib.hid hps.out
        clear hps
        have t0 := keep_block hkp (block_lt Q0.out) Q0.out
        have t1 := keep_block hkp (block_lt Q1.out) Q1.out
        obtain ⟨d0, d1, d2, d3, d4⟩ := five_cells t0
        obtain ⟨z0, z1, z2, z3, z4⟩ := five_cells t1
        obtain ⟨f0, f1, f2, f3, f4⟩ := five_free t1
        have hsz : v1.heap.size ≤ wr.heap.size := Below.size hkp
        clear t0
        by_cases hlt : q < 4
        · obtain ⟨p, hp⟩ : ∃ p, ([0, 1, 2, 3] : List Nat)[q]'(by exact hlt) = p := ⟨_, rfl⟩
          have hpm : p ∈ ([0, 1, 2, 3] : List Nat) := by rw [← hp]; exact List.getElem_mem _
          have hplt := HPKL.out p hpm
          obtain ⟨b9, o9, h9, hx9⟩ := HTN.out q (by simpa using hlt)
          have hv9 : ([(0 : Int), (1 : Int), (2 : Int), (3 : Int)])[q]'(by simpa using hlt) = (p : Int) := by
            subst hp
            have : q = 0 ∨ q = 1 ∨ q = 2 ∨ q = 3 := by first | omega | (simp at hlt; omega)
            rcases this with rfl | rfl | rfl | rfl <;> first | rfl | (simp at hlt) | omega
          rw [hv9] at hx9
          simp only [Option.some.injEq, Addr.mk.injEq] at h9
          obtain ⟨rfl, rfl, -⟩ := h9
          replace hx9 : v1.cell? ⟨w.heap.size + 1 + 1 + 1, q, none⟩ = some (.int .i64 p) := by rw [Nat.zero_add] at hx9; exact hx9
          obtain ⟨b', o, rfl, hQb, hx⟩ := HN.out p hplt
          have hq := HK.out p hplt
          obtain ⟨a', cap', S', hS, -⟩ := hq.out
          rw [hS] at hx hq
          have hkid : (t.kids[p]?).getD .zero = t.kids[p] := by rw [List.getElem?_eq_getElem hplt]; rfl
          have HMem := Lib.hid (List.getElem_mem hplt)
          have hrk := HKM.out p hpm
          have hfx := right_fine (plain_right (bare_plain _ (marked_right hrk)))
          have hEr : ∀ b, E b → b < wr.heap.size := (fun b hb => Nat.lt_of_lt_of_le (hEw b hb) (by have := HB4.out.size; omega))
          have CALL := Lib.hid (IH.out _ HMem.out E wr.drew _ hEr ((hq.later HB4.out).later (Below.trans hkp (Below.refl _ _).drew)) hrk)
          have hpick : (picked t ([0, 1, 2, 3] : List Nat)).take (q + 1) = (picked t ([0, 1, 2, 3] : List Nat)).take q ++ [(t.kids[p]).bare] := by
            rw [List.take_succ_eq_append_getElem (by unfold picked; rw [List.length_map]; exact hlt)]
            congr 2
            simp only [picked, List.getElem_map, hp, hkid]
          obtain ⟨x, hxb⟩ : ∃ x, (t.kids[p]).bare = x := ⟨_, rfl⟩
          rw [hxb] at CALL hfx hpick
          have hpl : ps.length = q := by have := congrArg List.length HPS.out; simp [picked] at this; first | omega | (simp at hlt; omega)
          have HPL := Lib.hid hpl
          have HMD := Lib.hid hmade
          have HFX := Lib.hid hfx
          have HPICK := Lib.hid hpick
          have hnode := hx.below HB4.out hx.lt
          have hb4' := HB4.out.size
          have hnc := five_cells Q0.out
          have hd4 := hnc.2.2.2.2
          obtain ⟨c0, c1, c2, c3, c4⟩ := hnode.below hkp hnode.lt
          have hc9 := cell_lat hkp hx9
          clear hS hq hx hfx hpick hxb hkid hrk hp hmade hpl hv9 hnc
          go_wp2_with fail
          go_region_held3 (fun w' => Kept v1 w' ∧ w'.cell? ⟨w.heap.size, 4, none⟩ = some (.slice (some ⟨b', o, none⟩) t.kids.length cap) ∧ w'.cell? ⟨w.heap.size + 1 + 1 + 1, q, none⟩ = some (.int .i64 p) ∧ w'.cell? ⟨b', o + p * 5, none⟩ = some (.int .i64 t.kids[p].k) ∧ w'.cell? ⟨b', o + p * 5 + 1, none⟩ = some (.int .i64 t.kids[p].i) ∧ w'.cell? ⟨b', o + p * 5 + 2, none⟩ = some (.int .i64 t.kids[p].j) ∧ w'.cell? ⟨b', o + p * 5 + 3, none⟩ = some (.int .i64 t.kids[p].n) ∧ w'.cell? ⟨b', o + p * 5 + 4, none⟩ = some (.slice a' t.kids[p].kids.length cap'))
            (((with_reducible refine strip_andV ?_ hd4 hx9 hnode); repeat (first | with_reducible assumption | with_reducible exact hkp | with_reducible refine kept_drew ?_ | with_reducible refine kept_alloc ?_ _)))
            (first | (go_at_call 56; ((with_reducible refine Calls.mono CALL.out ?_); rintro e wn ⟨s2, rfl, hl2, hbn⟩; obtain ⟨a2, cap2, S2, rfl, -⟩ := hl2.out; have HL2 := Lib.hid hl2; have HB2 := Lib.hid hbn; have hk2 := kept_call (kept_drew hkp) hbn; clear hl2 hbn)) | (refine step_append_lies _ rfl _ _ 23 rfl (v1.heap.size) 25 i0 _ 5 56 (by kernel_rfl) HI.out.1 HI.out.2.1 HI.out.2.2.1 HI.out.2.2.2 rfl (by decide) _ ps.length (cells5 ps) rfl (madeQ_laterV (madeQ_laterV (madeQ_laterV HMD.out (Below.refl _ _).drew) HB2.out) ((Below.refl _ _).alloc (Nat.le_refl _) _)).own ⟨wn.heap.size, 0, none⟩ 1 1 (cells5 [(x, .slice a2 x.kids.length cap2)]) rfl rfl (news_new _ _ _ _) (one5 _ _) (by decide) (by have := HPL.out; unfold maxLen; omega) (by have := HPL.out; omega) (by have := Below.size hk2; simp; omega) _ rfl ?_; intro g cap3 w3 hown hgrow hat _; have hmq := madeQ_pushV (madeQ_laterV HMD.out (Below.refl _ _).drew) hEv (Nat.le_refl _) hsz HFX.out HB2.out HL2.out _ hown hgrow hat; have HMQ := Lib.hid hmq; have hk3 : Kept v1 w3 := Below.grown (Below.alloc hk2 (Below.size hk2) _) hgrow (by have := Below.size hk2; simp; omega) (madeQ_aboveV HMD.out); clear hmq hown hgrow hat))
          go_wp2_with fail
          go_roundw
          case rel => exact ⟨q + 1, ps ++ [(x, .slice a2 x.kids.length cap2)], _, rfl, hlt, by go_num, by rw [Hid, List.map_append, HPS.out, HPICK.out]; rfl, HMQ.out, hk3⟩
          case measure => simp [intOf]; omega
        · have : q = 4 := by omega
          subst this
          have hres2 : ps.map (·.1) = picked t ([0, 1, 2, 3] : List Nat) := by
            have := HPS.out
            rwa [List.take_of_length_le (by simp [picked])] at this
          have hll := madeQ_liesV hmade (Nat.le_refl _)
          rw [hres2] at hll
          obtain ⟨a2, cap2, S2, rfl, -⟩ := hll.out
          have HLL := Lib.hid hll
          have hbw := HB4.out.trans (Below.mono hkp HB4.out.size)
          have q1' := t1
          clear hres2 hll hmade
          go_wp2
          (try simp only [Exit.inBlock, Exit.then])
          refine bodyPost_ret (results_cell_row rfl _ _ (w.heap.size + 1) _ _ _ du rfl (five_set q1') hu1 (by cases du <;> first | rfl | exact hu2) size_term) rfl ?_
          rw [HRES.out]
          exact ⟨_, rfl, liesQ_fivesV HLL.out (fun b hb => Nat.lt_of_lt_of_le (hEw b hb) (by omega)) (by omega) (by omega) _ _ _ _ _, below_five hbw (by omega) _ _ _ _ _⟩
    · have hpk : ∀ p ∈ ([2] : List Nat), p < t.kids.length := by
        have hlen := node_length (t.right_node HR0.out)
        rw [hkc] at hlen
        have h9 : t.kids.length = 3 := by simp [kidsN] at hlen; omega
        intro p hp
        simp at hp
        omega
      have hres := bare_pick t 8 [2] hkc rfl rfl hpk
      have hb4 := below_four w (.cells #[.int .i64 t.k, .int .i64 t.i, .int .i64 t.j, .int .i64 t.n, .slice a t.kids.length cap] 25) (.cells #[.int .i64 0, .int .i64 0, .int .i64 0, .int .i64 0, .slice none 0 0] 25) (.cells #[] 3) (.cells #[.int .i64 2] 3)
      obtain ⟨q0, q1, -, q3⟩ := heap_four w (.cells #[.int .i64 t.k, .int .i64 t.i, .int .i64 t.j, .int .i64 t.n, .slice a t.kids.length cap] 25) (.cells #[.int .i64 0, .int .i64 0, .int .i64 0, .int .i64 0, .slice none 0 0] 25) (.cells #[] 3) (.cells #[.int .i64 2] 3)
      have hti := liesI_new (l := [(2 : Int)]) q3 (by decide)
      have hkm : ∀ p (h : p ∈ ([2] : List Nat)), (t.kids[p]'(hpk p h)).markedB = true := fun p h => marked_others HM0.out (by rw [hkc]; decide) _ (List.getElem_mem _)
      have e3 : (t.k == 3) = false := by rw [hkc]; decide
      have e4 : (t.k == 4) = false := by rw [hkc]; decide
      have e5 : (t.k == 5) = false := by rw [hkc]; decide
      have e6 : (t.k == 6) = false := by rw [hkc]; decide
      have e7 : (t.k == 7) = false := by rw [hkc]; decide
      have e8 : (t.k == 8) = true := by rw [hkc]; decide
      clear hkc
      go_enter Tryz.func56, Tryz.ntmps56
      go_upto_region 24 with fail
      have hs4 : w.heap.size + 3 < (((((w.alloc (.cells #[.int .i64 t.k, .int .i64 t.i, .int .i64 t.j, .int .i64 t.n, .slice a t.kids.length cap] 25)).alloc (.cells #[.int .i64 0, .int .i64 0, .int .i64 0, .int .i64 0, .slice none 0 0] 25)).alloc (.cells #[] 3)).alloc (.cells #[.int .i64 2] 3))).heap.size := by simp
      generalize ((((w.alloc (.cells #[.int .i64 t.k, .int .i64 t.i, .int .i64 t.j, .int .i64 t.n, .slice a t.kids.length cap] 25)).alloc (.cells #[.int .i64 0, .int .i64 0, .int .i64 0, .int .i64 0, .slice none 0 0] 25)).alloc (.cells #[] 3)).alloc (.cells #[.int .i64 2] 3)) = v1 at hb4 q0 q1 q3 hti hs4 ⊢
      have HTI := Lib.hid hti
      have HPKL := Lib.hid hpk
      have HKM := Lib.hid hkm
      have HRES := Lib.hid hres
      have HB4 := Lib.hid hb4
      have Q0 := Lib.hid q0
      have Q1 := Lib.hid q1
      have hEv : ∀ b, E b → b < v1.heap.size := (fun b hb => Nat.lt_of_lt_of_le (hEw b hb) (by omega))
      have hk0 := kept_start v1
      obtain ⟨M, hM⟩ : ∃ M, v1.heap.size = M := ⟨_, rfl⟩
      obtain ⟨ti, tcap, hsl, htc, htm, htn⟩ := hti.out
      simp only [Value.slice.injEq] at hsl
      obtain ⟨rfl, -, rfl⟩ := hsl
      have HTN := Lib.hid htn
      clear hti hkm hres hb4 q0 q1 q3 htn htc htm
      obtain ⟨i0, hi, hz0, hz1, hz2⟩ := info_parts info_term
      have HI := Lib.hid (And.intro hi (And.intro hz0 (And.intro hz1 hz2)))
      clear hi hz0 hz1 hz2
      go_wp2_with fail
      go_loopw [5, 6] (fun v i wr => ∃ (q : Nat) (ps : List (Tm × Value)) (vv : Value), vv = v ∧ q ≤ 1 ∧ i = .int .i64 q ∧ Hid (ps.map (·.1) = (picked t ([2] : List Nat)).take q) ∧ MadeQV E v1.heap.size v1.heap.size wr v ps ∧ Kept v1 wr) (fun _ i _ => 1 - (intOf i).toNat)
      case atStart => exact ⟨0, [], _, rfl, Nat.zero_le _, rfl, by simp [Hid], madeQ_nilV _ _ _ _, hk0⟩
      case round =>
        clear hk0
        obtain ⟨q, ps, vv, rfl, hq0, rfl, hps, hmade, hkp⟩ := hrel
        have HPS := Lib.hid hps.out
        clear hps
        have t0 := keep_block hkp (block_lt Q0.out) Q0.out
        have t1 := keep_block hkp (block_lt Q1.out) Q1.out
        obtain ⟨d0, d1, d2, d3, d4⟩ := five_cells t0
        obtain ⟨z0, z1, z2, z3, z4⟩ := five_cells t1
        obtain ⟨f0, f1, f2, f3, f4⟩ := five_free t1
        have hsz : v1.heap.size ≤ wr.heap.size := Below.size hkp
        clear t0
        by_cases hlt : q < 1
        · obtain ⟨p, hp⟩ : ∃ p, ([2] : List Nat)[q]'(by exact hlt) = p := ⟨_, rfl⟩
          have hpm : p ∈ ([2] : List Nat) := by rw [← hp]; exact List.getElem_mem _
          have hplt := HPKL.out p hpm
          obtain ⟨b9, o9, h9, hx9⟩ := HTN.out q (by simpa using hlt)
          have hv9 : ([(2 : Int)])[q]'(by simpa using hlt) = (p : Int) := by
            subst hp
            have : q = 0 ∨ q = 1 ∨ q = 2 ∨ q = 3 := by first | omega | (simp at hlt; omega)
            rcases this with rfl | rfl | rfl | rfl <;> first | rfl | (simp at hlt) | omega
          rw [hv9] at hx9
          simp only [Option.some.injEq, Addr.mk.injEq] at h9
          obtain ⟨rfl, rfl, -⟩ := h9
          replace hx9 : v1.cell? ⟨w.heap.size + 1 + 1 + 1, q, none⟩ = some (.int .i64 p) := by rw [Nat.zero_add] at hx9; exact hx9
          obtain ⟨b', o, rfl, hQb, hx⟩ := HN.out p hplt
          have hq := HK.out p hplt
          obtain ⟨a', cap', S', hS, -⟩ := hq.out
          rw [hS] at hx hq
          have hkid : (t.kids[p]?).getD .zero = t.kids[p] := by rw [List.getElem?_eq_getElem hplt]; rfl
          have HMem := Lib.hid (List.getElem_mem hplt)
          have hrk := HKM.out p hpm
          have hfx := right_fine (plain_right (bare_plain _ (marked_right hrk)))
          have hEr : ∀ b, E b → b < wr.heap.size := (fun b hb => Nat.lt_of_lt_of_le (hEw b hb) (by have := HB4.out.size; omega))
          have CALL := Lib.hid (IH.out _ HMem.out E wr.drew _ hEr ((hq.later HB4.out).later (Below.trans hkp (Below.refl _ _).drew)) hrk)
          have hpick : (picked t ([2] : List Nat)).take (q + 1) = (picked t ([2] : List Nat)).take q ++ [(t.kids[p]).bare] := by
            rw [List.take_succ_eq_append_getElem (by unfold picked; rw [List.length_map]; exact hlt)]
            congr 2
            simp only [picked, List.getElem_map, hp, hkid]
          obtain ⟨x, hxb⟩ : ∃ x, (t.kids[p]).bare = x := ⟨_, rfl⟩
          rw [hxb] at CALL hfx hpick
          have hpl : ps.length = q := by have := congrArg List.length HPS.out; simp [picked] at this; first | omega | (simp at hlt; omega)
          have HPL := Lib.hid hpl
          have HMD := Lib.hid hmade
          have HFX := Lib.hid hfx
          have HPICK := Lib.hid hpick
          have hnode := hx.below HB4.out hx.lt
          have hb4' := HB4.out.size
          have hnc := five_cells Q0.out
          have hd4 := hnc.2.2.2.2
          obtain ⟨c0, c1, c2, c3, c4⟩ := hnode.below hkp hnode.lt
          have hc9 := cell_lat hkp hx9
          clear hS hq hx hfx hpick hxb hkid hrk hp hmade hpl hv9 hnc
          go_wp2_with fail
          go_region_held3 (fun w' => Kept v1 w' ∧ w'.cell? ⟨w.heap.size, 4, none⟩ = some (.slice (some ⟨b', o, none⟩) t.kids.length cap) ∧ w'.cell? ⟨w.heap.size + 1 + 1 + 1, q, none⟩ = some (.int .i64 p) ∧ w'.cell? ⟨b', o + p * 5, none⟩ = some (.int .i64 t.kids[p].k) ∧ w'.cell? ⟨b', o + p * 5 + 1, none⟩ = some (.int .i64 t.kids[p].i) ∧ w'.cell? ⟨b', o + p * 5 + 2, none⟩ = some (.int .i64 t.kids[p].j) ∧ w'.cell? ⟨b', o + p * 5 + 3, none⟩ = some (.int .i64 t.kids[p].n) ∧ w'.cell? ⟨b', o + p * 5 + 4, none⟩ = some (.slice a' t.kids[p].kids.length cap'))
            (((with_reducible refine strip_andV ?_ hd4 hx9 hnode); repeat (first | with_reducible assumption | with_reducible exact hkp | with_reducible refine kept_drew ?_ | with_reducible refine kept_alloc ?_ _)))
            (first | (go_at_call 56; ((with_reducible refine Calls.mono CALL.out ?_); rintro e wn ⟨s2, rfl, hl2, hbn⟩; obtain ⟨a2, cap2, S2, rfl, -⟩ := hl2.out; have HL2 := Lib.hid hl2; have HB2 := Lib.hid hbn; have hk2 := kept_call (kept_drew hkp) hbn; clear hl2 hbn)) | (refine step_append_lies _ rfl _ _ 23 rfl (v1.heap.size) 25 i0 _ 5 56 (by kernel_rfl) HI.out.1 HI.out.2.1 HI.out.2.2.1 HI.out.2.2.2 rfl (by decide) _ ps.length (cells5 ps) rfl (madeQ_laterV (madeQ_laterV (madeQ_laterV HMD.out (Below.refl _ _).drew) HB2.out) ((Below.refl _ _).alloc (Nat.le_refl _) _)).own ⟨wn.heap.size, 0, none⟩ 1 1 (cells5 [(x, .slice a2 x.kids.length cap2)]) rfl rfl (news_new _ _ _ _) (one5 _ _) (by decide) (by have := HPL.out; unfold maxLen; omega) (by have := HPL.out; omega) (by have := Below.size hk2; simp; omega) _ rfl ?_; intro g cap3 w3 hown hgrow hat _; have hmq := madeQ_pushV (madeQ_laterV HMD.out (Below.refl _ _).drew) hEv (Nat.le_refl _) hsz HFX.out HB2.out HL2.out _ hown hgrow hat; have HMQ := Lib.hid hmq; have hk3 : Kept v1 w3 := Below.grown (Below.alloc hk2 (Below.size hk2) _) hgrow (by have := Below.size hk2; simp; omega) (madeQ_aboveV HMD.out); clear hmq hown hgrow hat))
          go_wp2_with fail
          go_roundw
          case rel => exact ⟨q + 1, ps ++ [(x, .slice a2 x.kids.length cap2)], _, rfl, hlt, by go_num, by rw [Hid, List.map_append, HPS.out, HPICK.out]; rfl, HMQ.out, hk3⟩
          case measure => simp [intOf]; omega
        · have : q = 1 := by omega
          subst this
          have hres2 : ps.map (·.1) = picked t ([2] : List Nat) := by
            have := HPS.out
            rwa [List.take_of_length_le (by simp [picked])] at this
          have hll := madeQ_liesV hmade (Nat.le_refl _)
          rw [hres2] at hll
          obtain ⟨a2, cap2, S2, rfl, -⟩ := hll.out
          have HLL := Lib.hid hll
          have hbw := HB4.out.trans (Below.mono hkp HB4.out.size)
          have q1' := t1
          clear hres2 hll hmade
          go_wp2
          (try simp only [Exit.inBlock, Exit.then])
          refine bodyPost_ret (results_cell_row rfl _ _ (w.heap.size + 1) _ _ _ du rfl (five_set q1') hu1 (by cases du <;> first | rfl | exact hu2) size_term) rfl ?_
          rw [HRES.out]
          exact ⟨_, rfl, liesQ_fivesV HLL.out (fun b hb => Nat.lt_of_lt_of_le (hEw b hb) (by omega)) (by omega) (by omega) _ _ _ _ _, below_five hbw (by omega) _ _ _ _ _⟩
    · have hpk : ∀ p ∈ ([2] : List Nat), p < t.kids.length := by
        have hlen := node_length (t.right_node HR0.out)
        rw [hkc] at hlen
        have h9 : t.kids.length = 3 := by simp [kidsN] at hlen; omega
        intro p hp
        simp at hp
        omega
      have hres := bare_pick t 9 [2] hkc rfl rfl hpk
      have hb4 := below_four w (.cells #[.int .i64 t.k, .int .i64 t.i, .int .i64 t.j, .int .i64 t.n, .slice a t.kids.length cap] 25) (.cells #[.int .i64 0, .int .i64 0, .int .i64 0, .int .i64 0, .slice none 0 0] 25) (.cells #[] 3) (.cells #[.int .i64 2] 3)
      obtain ⟨q0, q1, -, q3⟩ := heap_four w (.cells #[.int .i64 t.k, .int .i64 t.i, .int .i64 t.j, .int .i64 t.n, .slice a t.kids.length cap] 25) (.cells #[.int .i64 0, .int .i64 0, .int .i64 0, .int .i64 0, .slice none 0 0] 25) (.cells #[] 3) (.cells #[.int .i64 2] 3)
      have hti := liesI_new (l := [(2 : Int)]) q3 (by decide)
      have hkm : ∀ p (h : p ∈ ([2] : List Nat)), (t.kids[p]'(hpk p h)).markedB = true := fun p h => marked_others HM0.out (by rw [hkc]; decide) _ (List.getElem_mem _)
      have e3 : (t.k == 3) = false := by rw [hkc]; decide
      have e4 : (t.k == 4) = false := by rw [hkc]; decide
      have e5 : (t.k == 5) = false := by rw [hkc]; decide
      have e6 : (t.k == 6) = false := by rw [hkc]; decide
      have e7 : (t.k == 7) = false := by rw [hkc]; decide
      have e8 : (t.k == 8) = false := by rw [hkc]; decide
      have e9 : (t.k == 9) = true := by rw [hkc]; decide
      clear hkc
      go_enter Tryz.func56, Tryz.ntmps56
      go_upto_region 24 with fail
      have hs4 : w.heap.size + 3 < (((((w.alloc (.cells #[.int .i64 t.k, .int .i64 t.i, .int .i64 t.j, .int .i64 t.n, .slice a t.kids.length cap] 25)).alloc (.cells #[.int .i64 0, .int .i64 0, .int .i64 0, .int .i64 0, .slice none 0 0] 25)).alloc (.cells #[] 3)).alloc (.cells #[.int .i64 2] 3))).heap.size := by simp
      generalize ((((w.alloc (.cells #[.int .i64 t.k, .int .i64 t.i, .int .i64 t.j, .int .i64 t.n, .slice a t.kids.length cap] 25)).alloc (.cells #[.int .i64 0, .int .i64 0, .int .i64 0, .int .i64 0, .slice none 0 0] 25)).alloc (.cells #[] 3)).alloc (.cells #[.int .i64 2] 3)) = v1 at hb4 q0 q1 q3 hti hs4 ⊢
      have HTI := Lib.hid hti
      have HPKL := Lib.hid hpk
      have HKM := Lib.hid hkm
      have HRES := Lib.hid hres
      have HB4 := Lib.hid hb4
      have Q0 := Lib.hid q0
      have Q1 := Lib.hid q1
      have hEv : ∀ b, E b → b < v1.heap.size := (fun b hb => Nat.lt_of_lt_of_le (hEw b hb) (by omega))
      have hk0 := kept_start v1
      obtain ⟨M, hM⟩ : ∃ M, v1.heap.size = M := ⟨_, rfl⟩
      obtain ⟨ti, tcap, hsl, htc, htm, htn⟩ := hti.out
      simp only [Value.slice.injEq] at hsl
      obtain ⟨rfl, -, rfl⟩ := hsl
      have HTN := Lib.hid htn
      clear hti hkm hres hb4 q0 q1 q3 htn htc htm
      obtain ⟨i0, hi, hz0, hz1, hz2⟩ := info_parts info_term
      have HI := Lib.hid (And.intro hi (And.intro hz0 (And.intro hz1 hz2)))
      clear hi hz0 hz1 hz2
      go_wp2_with fail
      go_loopw [5, 6] (fun v i wr => ∃ (q : Nat) (ps : List (Tm × Value)) (vv : Value), vv = v ∧ q ≤ 1 ∧ i = .int .i64 q ∧ Hid (ps.map (·.1) = (picked t ([2] : List Nat)).take q) ∧ MadeQV E v1.heap.size v1.heap.size wr v ps ∧ Kept v1 wr) (fun _ i _ => 1 - (intOf i).toNat)
      case atStart => exact ⟨0, [], _, rfl, Nat.zero_le _, rfl, by simp [Hid], madeQ_nilV _ _ _ _, hk0⟩
      case round =>
        clear hk0
        obtain ⟨q, ps, vv, rfl, hq0, rfl, hps, hmade, hkp⟩ := hrel
        have HPS := Lib.hid hps.out
        clear hps
        have t0 := keep_block hkp (block_lt Q0.out) Q0.out
        have t1 := keep_block hkp (block_lt Q1.out) Q1.out
        obtain ⟨d0, d1, d2, d3, d4⟩ := five_cells t0
        obtain ⟨z0, z1, z2, z3, z4⟩ := five_cells t1
        obtain ⟨f0, f1, f2, f3, f4⟩ := five_free t1
        have hsz : v1.heap.size ≤ wr.heap.size := Below.size hkp
        clear t0
        by_cases hlt : q < 1
        · obtain ⟨p, hp⟩ : ∃ p, ([2] : List Nat)[q]'(by exact hlt) = p := ⟨_, rfl⟩
          have hpm : p ∈ ([2] : List Nat) := by rw [← hp]; exact List.getElem_mem _
          have hplt := HPKL.out p hpm
          obtain ⟨b9, o9, h9, hx9⟩ := HTN.out q (by simpa using hlt)
          have hv9 : ([(2 : Int)])[q]'(by simpa using hlt) = (p : Int) := by
            subst hp
            have : q = 0 ∨ q = 1 ∨ q = 2 ∨ q = 3 := by first | omega | (simp at hlt; omega)
            rcases this with rfl | rfl | rfl | rfl <;> first | rfl | (simp at hlt) | omega
          rw [hv9] at hx9
          simp only [Option.some.injEq, Addr.mk.injEq] at h9
          obtain ⟨rfl, rfl, -⟩ := h9
          replace hx9 : v1.cell? ⟨w.heap.size + 1 + 1 + 1, q, none⟩ = some (.int .i64 p) := by rw [Nat.zero_add] at hx9; exact hx9
          obtain ⟨b', o, rfl, hQb, hx⟩ := HN.out p hplt
          have hq := HK.out p hplt
          obtain ⟨a', cap', S', hS, -⟩ := hq.out
          rw [hS] at hx hq
          have hkid : (t.kids[p]?).getD .zero = t.kids[p] := by rw [List.getElem?_eq_getElem hplt]; rfl
          have HMem := Lib.hid (List.getElem_mem hplt)
          have hrk := HKM.out p hpm
          have hfx := right_fine (plain_right (bare_plain _ (marked_right hrk)))
          have hEr : ∀ b, E b → b < wr.heap.size := (fun b hb => Nat.lt_of_lt_of_le (hEw b hb) (by have := HB4.out.size; omega))
          have CALL := Lib.hid (IH.out _ HMem.out E wr.drew _ hEr ((hq.later HB4.out).later (Below.trans hkp (Below.refl _ _).drew)) hrk)
          have hpick : (picked t ([2] : List Nat)).take (q + 1) = (picked t ([2] : List Nat)).take q ++ [(t.kids[p]).bare] := by
            rw [List.take_succ_eq_append_getElem (by unfold picked; rw [List.length_map]; exact hlt)]
            congr 2
            simp only [picked, List.getElem_map, hp, hkid]
          obtain ⟨x, hxb⟩ : ∃ x, (t.kids[p]).bare = x := ⟨_, rfl⟩
          rw [hxb] at CALL hfx hpick
          have hpl : ps.length = q := by have := congrArg List.length HPS.out; simp [picked] at this; first | omega | (simp at hlt; omega)
          have HPL := Lib.hid hpl
          have HMD := Lib.hid hmade
          have HFX := Lib.hid hfx
          have HPICK := Lib.hid hpick
          have hnode := hx.below HB4.out hx.lt
          have hb4' := HB4.out.size
          have hnc := five_cells Q0.out
          have hd4 := hnc.2.2.2.2
          obtain ⟨c0, c1, c2, c3, c4⟩ := hnode.below hkp hnode.lt
          have hc9 := cell_lat hkp hx9
          clear hS hq hx hfx hpick hxb hkid hrk hp hmade hpl hv9 hnc
          go_wp2_with fail
          go_region_held3 (fun w' => Kept v1 w' ∧ w'.cell? ⟨w.heap.size, 4, none⟩ = some (.slice (some ⟨b', o, none⟩) t.kids.length cap) ∧ w'.cell? ⟨w.heap.size + 1 + 1 + 1, q, none⟩ = some (.int .i64 p) ∧ w'.cell? ⟨b', o + p * 5, none⟩ = some (.int .i64 t.kids[p].k) ∧ w'.cell? ⟨b', o + p * 5 + 1, none⟩ = some (.int .i64 t.kids[p].i) ∧ w'.cell? ⟨b', o + p * 5 + 2, none⟩ = some (.int .i64 t.kids[p].j) ∧ w'.cell? ⟨b', o + p * 5 + 3, none⟩ = some (.int .i64 t.kids[p].n) ∧ w'.cell? ⟨b', o + p * 5 + 4, none⟩ = some (.slice a' t.kids[p].kids.length cap'))
            (((with_reducible refine strip_andV ?_ hd4 hx9 hnode); repeat (first | with_reducible assumption | with_reducible exact hkp | with_reducible refine kept_drew ?_ | with_reducible refine kept_alloc ?_ _)))
            (first | (go_at_call 56; ((with_reducible refine Calls.mono CALL.out ?_); rintro e wn ⟨s2, rfl, hl2, hbn⟩; obtain ⟨a2, cap2, S2, rfl, -⟩ := hl2.out; have HL2 := Lib.hid hl2; have HB2 := Lib.hid hbn; have hk2 := kept_call (kept_drew hkp) hbn; clear hl2 hbn)) | (refine step_append_lies _ rfl _ _ 23 rfl (v1.heap.size) 25 i0 _ 5 56 (by kernel_rfl) HI.out.1 HI.out.2.1 HI.out.2.2.1 HI.out.2.2.2 rfl (by decide) _ ps.length (cells5 ps) rfl (madeQ_laterV (madeQ_laterV (madeQ_laterV HMD.out (Below.refl _ _).drew) HB2.out) ((Below.refl _ _).alloc (Nat.le_refl _) _)).own ⟨wn.heap.size, 0, none⟩ 1 1 (cells5 [(x, .slice a2 x.kids.length cap2)]) rfl rfl (news_new _ _ _ _) (one5 _ _) (by decide) (by have := HPL.out; unfold maxLen; omega) (by have := HPL.out; omega) (by have := Below.size hk2; simp; omega) _ rfl ?_; intro g cap3 w3 hown hgrow hat _; have hmq := madeQ_pushV (madeQ_laterV HMD.out (Below.refl _ _).drew) hEv (Nat.le_refl _) hsz HFX.out HB2.out HL2.out _ hown hgrow hat; have HMQ := Lib.hid hmq; have hk3 : Kept v1 w3 := Below.grown (Below.alloc hk2 (Below.size hk2) _) hgrow (by have := Below.size hk2; simp; omega) (madeQ_aboveV HMD.out); clear hmq hown hgrow hat))
          go_wp2_with fail
          go_roundw
          case rel => exact ⟨q + 1, ps ++ [(x, .slice a2 x.kids.length cap2)], _, rfl, hlt, by go_num, by rw [Hid, List.map_append, HPS.out, HPICK.out]; rfl, HMQ.out, hk3⟩
          case measure => simp [intOf]; omega
        · have : q = 1 := by omega
          subst this
          have hres2 : ps.map (·.1) = picked t ([2] : List Nat) := by
            have := HPS.out
            rwa [List.take_of_length_le (by simp [picked])] at this
          have hll := madeQ_liesV hmade (Nat.le_refl _)
          rw [hres2] at hll
          obtain ⟨a2, cap2, S2, rfl, -⟩ := hll.out
          have HLL := Lib.hid hll
          have hbw := HB4.out.trans (Below.mono hkp HB4.out.size)
          have q1' := t1
          clear hres2 hll hmade
          go_wp2
          (try simp only [Exit.inBlock, Exit.then])
          refine bodyPost_ret (results_cell_row rfl _ _ (w.heap.size + 1) _ _ _ du rfl (five_set q1') hu1 (by cases du <;> first | rfl | exact hu2) size_term) rfl ?_
          rw [HRES.out]
          exact ⟨_, rfl, liesQ_fivesV HLL.out (fun b hb => Nat.lt_of_lt_of_le (hEw b hb) (by omega)) (by omega) (by omega) _ _ _ _ _, below_five hbw (by omega) _ _ _ _ _⟩
    · have hpk : ∀ p ∈ ([0, 1, 2] : List Nat), p < t.kids.length := by
        have hlen := node_length (t.right_node HR0.out)
        rw [hkc] at hlen
        have h9 : t.kids.length = 3 := by simp [kidsN] at hlen; omega
        intro p hp
        simp at hp
        omega
      have hres := bare_pick t 10 [0, 1, 2] hkc rfl rfl hpk
      have hb4 := below_four w (.cells #[.int .i64 t.k, .int .i64 t.i, .int .i64 t.j, .int .i64 t.n, .slice a t.kids.length cap] 25) (.cells #[.int .i64 0, .int .i64 0, .int .i64 0, .int .i64 0, .slice none 0 0] 25) (.cells #[] 3) (.cells #[.int .i64 0, .int .i64 1, .int .i64 2] 3)
      obtain ⟨q0, q1, -, q3⟩ := heap_four w (.cells #[.int .i64 t.k, .int .i64 t.i, .int .i64 t.j, .int .i64 t.n, .slice a t.kids.length cap] 25) (.cells #[.int .i64 0, .int .i64 0, .int .i64 0, .int .i64 0, .slice none 0 0] 25) (.cells #[] 3) (.cells #[.int .i64 0, .int .i64 1, .int .i64 2] 3)
      have hti := liesI_new (l := [(0 : Int), (1 : Int), (2 : Int)]) q3 (by decide)
      have hkm : ∀ p (h : p ∈ ([0, 1, 2] : List Nat)), (t.kids[p]'(hpk p h)).markedB = true := fun p h => marked_others HM0.out (by rw [hkc]; decide) _ (List.getElem_mem _)
      have e3 : (t.k == 3) = false := by rw [hkc]; decide
      have e4 : (t.k == 4) = false := by rw [hkc]; decide
      have e5 : (t.k == 5) = false := by rw [hkc]; decide
      have e6 : (t.k == 6) = false := by rw [hkc]; decide
      have e7 : (t.k == 7) = false := by rw [hkc]; decide
      have e8 : (t.k == 8) = false := by rw [hkc]; decide
      have e9 : (t.k == 9) = false := by rw [hkc]; decide
      have e10 : (t.k == 10) = true := by rw [hkc]; decide
      clear hkc
      go_enter Tryz.func56, Tryz.ntmps56
      go_upto_region 24 with fail
      have hs4 : w.heap.size + 3 < (((((w.alloc (.cells #[.int .i64 t.k, .int .i64 t.i, .int .i64 t.j, .int .i64 t.n, .slice a t.kids.length cap] 25)).alloc (.cells #[.int .i64 0, .int .i64 0, .int .i64 0, .int .i64 0, .slice none 0 0] 25)).alloc (.cells #[] 3)).alloc (.cells #[.int .i64 0, .int .i64 1, .int .i64 2] 3))).heap.size := by simp
      generalize ((((w.alloc (.cells #[.int .i64 t.k, .int .i64 t.i, .int .i64 t.j, .int .i64 t.n, .slice a t.kids.length cap] 25)).alloc (.cells #[.int .i64 0, .int .i64 0, .int .i64 0, .int .i64 0, .slice none 0 0] 25)).alloc (.cells #[] 3)).alloc (.cells #[.int .i64 0, .int .i64 1, .int .i64 2] 3)) = v1 at hb4 q0 q1 q3 hti hs4 ⊢
      have HTI := Lib.hid hti
      have HPKL := Lib.hid hpk
      have HKM := Lib.hid hkm
      have HRES := Lib.hid hres
      have HB4 := Lib.hid hb4
      have Q0 := Lib.hid q0
      have Q1 := Lib.hid q1
      have hEv : ∀ b, E b → b < v1.heap.size := (fun b hb => Nat.lt_of_lt_of_le (hEw b hb) (by omega))
      have hk0 := kept_start v1
      obtain ⟨M, hM⟩ : ∃ M, v1.heap.size = M := ⟨_, rfl⟩
      obtain ⟨ti, tcap, hsl, htc, htm, htn⟩ := hti.out
      simp only [Value.slice.injEq] at hsl
      obtain ⟨rfl, -, rfl⟩ := hsl
      have HTN := Lib.hid htn
      clear hti hkm hres hb4 q0 q1 q3 htn htc htm
      obtain ⟨i0, hi, hz0, hz1, hz2⟩ := info_parts info_term
      have HI := Lib.hid (And.intro hi (And.intro hz0 (And.intro hz1 hz2)))
      clear hi hz0 hz1 hz2
      go_wp2_with fail
      go_loopw [5, 6] (fun v i wr => ∃ (q : Nat) (ps : List (Tm × Value)) (vv : Value), vv = v ∧ q ≤ 3 ∧ i = .int .i64 q ∧ Hid (ps.map (·.1) = (picked t ([0, 1, 2] : List Nat)).take q) ∧ MadeQV E v1.heap.size v1.heap.size wr v ps ∧ Kept v1 wr) (fun _ i _ => 3 - (intOf i).toNat)
      case atStart => exact ⟨0, [], _, rfl, Nat.zero_le _, rfl, by simp [Hid], madeQ_nilV _ _ _ _, hk0⟩
      case round =>
        clear hk0
        obtain ⟨q, ps, vv, rfl, hq0, rfl, hps, hmade, hkp⟩ := hrel
        have HPS := Lib.hid hps.out
        clear hps
        have t0 := keep_block hkp (block_lt Q0.out) Q0.out
        have t1 := keep_block hkp (block_lt Q1.out) Q1.out
        obtain ⟨d0, d1, d2, d3, d4⟩ := five_cells t0
        obtain ⟨z0, z1, z2, z3, z4⟩ := five_cells t1
        obtain ⟨f0, f1, f2, f3, f4⟩ := five_free t1
        have hsz : v1.heap.size ≤ wr.heap.size := Below.size hkp
        clear t0
        by_cases hlt : q < 3
        · obtain ⟨p, hp⟩ : ∃ p, ([0, 1, 2] : List Nat)[q]'(by exact hlt) = p := ⟨_, rfl⟩
          have hpm : p ∈ ([0, 1, 2] : List Nat) := by rw [← hp]; exact List.getElem_mem _
          have hplt := HPKL.out p hpm
          obtain ⟨b9, o9, h9, hx9⟩ := HTN.out q (by simpa using hlt)
          have hv9 : ([(0 : Int), (1 : Int), (2 : Int)])[q]'(by simpa using hlt) = (p : Int) := by
            subst hp
            have : q = 0 ∨ q = 1 ∨ q = 2 ∨ q = 3 := by first | omega | (simp at hlt; omega)
            rcases this with rfl | rfl | rfl | rfl <;> first | rfl | (simp at hlt) | omega
          rw [hv9] at hx9
          simp only [Option.some.injEq, Addr.mk.injEq] at h9
          obtain ⟨rfl, rfl, -⟩ := h9
          replace hx9 : v1.cell? ⟨w.heap.size + 1 + 1 + 1, q, none⟩ = some (.int .i64 p) := by rw [Nat.zero_add] at hx9; exact hx9
          obtain ⟨b', o, rfl, hQb, hx⟩ := HN.out p hplt
          have hq := HK.out p hplt
          obtain ⟨a', cap', S', hS, -⟩ := hq.out
          rw [hS] at hx hq
          have hkid : (t.kids[p]?).getD .zero = t.kids[p] := by rw [List.getElem?_eq_getElem hplt]; rfl
          have HMem := Lib.hid (List.getElem_mem hplt)
          have hrk := HKM.out p hpm
          have hfx := right_fine (plain_right (bare_plain _ (marked_right hrk)))
          have hEr : ∀ b, E b → b < wr.heap.size := (fun b hb => Nat.lt_of_lt_of_le (hEw b hb) (by have := HB4.out.size; omega))
          have CALL := Lib.hid (IH.out _ HMem.out E wr.drew _ hEr ((hq.later HB4.out).later (Below.trans hkp (Below.refl _ _).drew)) hrk)
          have hpick : (picked t ([0, 1, 2] : List Nat)).take (q + 1) = (picked t ([0, 1, 2] : List Nat)).take q ++ [(t.kids[p]).bare] := by
            rw [List.take_succ_eq_append_getElem (by unfold picked; rw [List.length_map]; exact hlt)]
            congr 2
            simp only [picked, List.getElem_map, hp, hkid]
          obtain ⟨x, hxb⟩ : ∃ x, (t.kids[p]).bare = x := ⟨_, rfl⟩
          rw [hxb] at CALL hfx hpick
          have hpl : ps.length = q := by have := congrArg List.length HPS.out; simp [picked] at this; first | omega | (simp at hlt; omega)
          have HPL := Lib.hid hpl
          have HMD := Lib.hid hmade
          have HFX := Lib.hid hfx
          have HPICK := Lib.hid hpick
          have hnode := hx.below HB4.out hx.lt
          have hb4' := HB4.out.size
          have hnc := five_cells Q0.out
          have hd4 := hnc.2.2.2.2
          obtain ⟨c0, c1, c2, c3, c4⟩ := hnode.below hkp hnode.lt
          have hc9 := cell_lat hkp hx9
          clear hS hq hx hfx hpick hxb hkid hrk hp hmade hpl hv9 hnc
          go_wp2_with fail
          go_region_held3 (fun w' => Kept v1 w' ∧ w'.cell? ⟨w.heap.size, 4, none⟩ = some (.slice (some ⟨b', o, none⟩) t.kids.length cap) ∧ w'.cell? ⟨w.heap.size + 1 + 1 + 1, q, none⟩ = some (.int .i64 p) ∧ w'.cell? ⟨b', o + p * 5, none⟩ = some (.int .i64 t.kids[p].k) ∧ w'.cell? ⟨b', o + p * 5 + 1, none⟩ = some (.int .i64 t.kids[p].i) ∧ w'.cell? ⟨b', o + p * 5 + 2, none⟩ = some (.int .i64 t.kids[p].j) ∧ w'.cell? ⟨b', o + p * 5 + 3, none⟩ = some (.int .i64 t.kids[p].n) ∧ w'.cell? ⟨b', o + p * 5 + 4, none⟩ = some (.slice a' t.kids[p].kids.length cap'))
            (((with_reducible refine strip_andV ?_ hd4 hx9 hnode); repeat (first | with_reducible assumption | with_reducible exact hkp | with_reducible refine kept_drew ?_ | with_reducible refine kept_alloc ?_ _)))
            (first | (go_at_call 56; ((with_reducible refine Calls.mono CALL.out ?_); rintro e wn ⟨s2, rfl, hl2, hbn⟩; obtain ⟨a2, cap2, S2, rfl, -⟩ := hl2.out; have HL2 := Lib.hid hl2; have HB2 := Lib.hid hbn; have hk2 := kept_call (kept_drew hkp) hbn; clear hl2 hbn)) | (refine step_append_lies _ rfl _ _ 23 rfl (v1.heap.size) 25 i0 _ 5 56 (by kernel_rfl) HI.out.1 HI.out.2.1 HI.out.2.2.1 HI.out.2.2.2 rfl (by decide) _ ps.length (cells5 ps) rfl (madeQ_laterV (madeQ_laterV (madeQ_laterV HMD.out (Below.refl _ _).drew) HB2.out) ((Below.refl _ _).alloc (Nat.le_refl _) _)).own ⟨wn.heap.size, 0, none⟩ 1 1 (cells5 [(x, .slice a2 x.kids.length cap2)]) rfl rfl (news_new _ _ _ _) (one5 _ _) (by decide) (by have := HPL.out; unfold maxLen; omega) (by have := HPL.out; omega) (by have := Below.size hk2; simp; omega) _ rfl ?_; intro g cap3 w3 hown hgrow hat _; have hmq := madeQ_pushV (madeQ_laterV HMD.out (Below.refl _ _).drew) hEv (Nat.le_refl _) hsz HFX.out HB2.out HL2.out _ hown hgrow hat; have HMQ := Lib.hid hmq; have hk3 : Kept v1 w3 := Below.grown (Below.alloc hk2 (Below.size hk2) _) hgrow (by have := Below.size hk2; simp; omega) (madeQ_aboveV HMD.out); clear hmq hown hgrow hat))
          go_wp2_with fail
          go_roundw
          case rel => exact ⟨q + 1, ps ++ [(x, .slice a2 x.kids.length cap2)], _, rfl, hlt, by go_num, by rw [Hid, List.map_append, HPS.out, HPICK.out]; rfl, HMQ.out, hk3⟩
          case measure => simp [intOf]; omega
        · have : q = 3 := by omega
          subst this
          have hres2 : ps.map (·.1) = picked t ([0, 1, 2] : List Nat) := by
            have := HPS.out
            rwa [List.take_of_length_le (by simp [picked])] at this
          have hll := madeQ_liesV hmade (Nat.le_refl _)
          rw [hres2] at hll
          obtain ⟨a2, cap2, S2, rfl, -⟩ := hll.out
          have HLL := Lib.hid hll
          have hbw := HB4.out.trans (Below.mono hkp HB4.out.size)
          have q1' := t1
          clear hres2 hll hmade
          go_wp2
          (try simp only [Exit.inBlock, Exit.then])
          refine bodyPost_ret (results_cell_row rfl _ _ (w.heap.size + 1) _ _ _ du rfl (five_set q1') hu1 (by cases du <;> first | rfl | exact hu2) size_term) rfl ?_
          rw [HRES.out]
          exact ⟨_, rfl, liesQ_fivesV HLL.out (fun b hb => Nat.lt_of_lt_of_le (hEw b hb) (by omega)) (by omega) (by omega) _ _ _ _ _, below_five hbw (by omega) _ _ _ _ _⟩
    · have hpk : ∀ p ∈ ([0, 1] : List Nat), p < t.kids.length := by
        have hlen := node_length (t.right_node HR0.out)
        rw [hkc] at hlen
        have h9 : t.kids.length = 2 := by simp [kidsN] at hlen; omega
        intro p hp
        simp at hp
        omega
      have hres := bare_pick t 11 [0, 1] hkc rfl rfl hpk
      have hb4 := below_four w (.cells #[.int .i64 t.k, .int .i64 t.i, .int .i64 t.j, .int .i64 t.n, .slice a t.kids.length cap] 25) (.cells #[.int .i64 0, .int .i64 0, .int .i64 0, .int .i64 0, .slice none 0 0] 25) (.cells #[] 3) (.cells #[.int .i64 0, .int .i64 1] 3)
      obtain ⟨q0, q1, -, q3⟩ := heap_four w (.cells #[.int .i64 t.k, .int .i64 t.i, .int .i64 t.j, .int .i64 t.n, .slice a t.kids.length cap] 25) (.cells #[.int .i64 0, .int .i64 0, .int .i64 0, .int .i64 0, .slice none 0 0] 25) (.cells #[] 3) (.cells #[.int .i64 0, .int .i64 1] 3)
      have hti := liesI_new (l := [(0 : Int), (1 : Int)]) q3 (by decide)
      have hkm : ∀ p (h : p ∈ ([0, 1] : List Nat)), (t.kids[p]'(hpk p h)).markedB = true := fun p h => marked_others HM0.out (by rw [hkc]; decide) _ (List.getElem_mem _)
      have e3 : (t.k == 3) = false := by rw [hkc]; decide
      have e4 : (t.k == 4) = false := by rw [hkc]; decide
      have e5 : (t.k == 5) = false := by rw [hkc]; decide
      have e6 : (t.k == 6) = false := by rw [hkc]; decide
      have e7 : (t.k == 7) = false := by rw [hkc]; decide
      have e8 : (t.k == 8) = false := by rw [hkc]; decide
      have e9 : (t.k == 9) = false := by rw [hkc]; decide
      have e10 : (t.k == 10) = false := by rw [hkc]; decide
      have e11 : (t.k == 11) = true := by rw [hkc]; decide
      clear hkc
      go_enter Tryz.func56, Tryz.ntmps56
      go_upto_region 24 with fail
      have hs4 : w.heap.size + 3 < (((((w.alloc (.cells #[.int .i64 t.k, .int .i64 t.i, .int .i64 t.j, .int .i64 t.n, .slice a t.kids.length cap] 25)).alloc (.cells #[.int .i64 0, .int .i64 0, .int .i64 0, .int .i64 0, .slice none 0 0] 25)).alloc (.cells #[] 3)).alloc (.cells #[.int .i64 0, .int .i64 1] 3))).heap.size := by simp
      generalize ((((w.alloc (.cells #[.int .i64 t.k, .int .i64 t.i, .int .i64 t.j, .int .i64 t.n, .slice a t.kids.length cap] 25)).alloc (.cells #[.int .i64 0, .int .i64 0, .int .i64 0, .int .i64 0, .slice none 0 0] 25)).alloc (.cells #[] 3)).alloc (.cells #[.int .i64 0, .int .i64 1] 3)) = v1 at hb4 q0 q1 q3 hti hs4 ⊢
      have HTI := Lib.hid hti
      have HPKL := Lib.hid hpk
      have HKM := Lib.hid hkm
      have HRES := Lib.hid hres
      have HB4 := Lib.hid hb4
      have Q0 := Lib.hid q0
      have Q1 := Lib.hid q1
      have hEv : ∀ b, E b → b < v1.heap.size := (fun b hb => Nat.lt_of_lt_of_le (hEw b hb) (by omega))
      have hk0 := kept_start v1
      obtain ⟨M, hM⟩ : ∃ M, v1.heap.size = M := ⟨_, rfl⟩
      obtain ⟨ti, tcap, hsl, htc, htm, htn⟩ := hti.out
      simp only [Value.slice.injEq] at hsl
      obtain ⟨rfl, -, rfl⟩ := hsl
      have HTN := Lib.hid htn
      clear hti hkm hres hb4 q0 q1 q3 htn htc htm
      obtain ⟨i0, hi, hz0, hz1, hz2⟩ := info_parts info_term
      have HI := Lib.hid (And.intro hi (And.intro hz0 (And.intro hz1 hz2)))
      clear hi hz0 hz1 hz2
      go_wp2_with fail
      go_loopw [5, 6] (fun v i wr => ∃ (q : Nat) (ps : List (Tm × Value)) (vv : Value), vv = v ∧ q ≤ 2 ∧ i = .int .i64 q ∧ Hid (ps.map (·.1) = (picked t ([0, 1] : List Nat)).take q) ∧ MadeQV E v1.heap.size v1.heap.size wr v ps ∧ Kept v1 wr) (fun _ i _ => 2 - (intOf i).toNat)
      case atStart => exact ⟨0, [], _, rfl, Nat.zero_le _, rfl, by simp [Hid], madeQ_nilV _ _ _ _, hk0⟩
      case round =>
        clear hk0
        obtain ⟨q, ps, vv, rfl, hq0, rfl, hps, hmade, hkp⟩ := hrel
        have HPS := Lib.hid hps.out
        clear hps
        have t0 := keep_block hkp (block_lt Q0.out) Q0.out
        have t1 := keep_block hkp (block_lt Q1.out) Q1.out
        obtain ⟨d0, d1, d2, d3, d4⟩ := five_cells t0
        obtain ⟨z0, z1, z2, z3, z4⟩ := five_cells t1
        obtain ⟨f0, f1, f2, f3, f4⟩ := five_free t1
        have hsz : v1.heap.size ≤ wr.heap.size := Below.size hkp
        clear t0
        by_cases hlt : q < 2
        · obtain ⟨p, hp⟩ : ∃ p, ([0, 1] : List Nat)[q]'(by exact hlt) = p := ⟨_, rfl⟩
          have hpm : p ∈ ([0, 1] : List Nat) := by rw [← hp]; exact List.getElem_mem _
          have hplt := HPKL.out p hpm
          obtain ⟨b9, o9, h9, hx9⟩ := HTN.out q (by simpa using hlt)
          have hv9 : ([(0 : Int), (1 : Int)])[q]'(by simpa using hlt) = (p : Int) := by
            subst hp
            have : q = 0 ∨ q = 1 ∨ q = 2 ∨ q = 3 := by first | omega | (simp at hlt; omega)
            rcases this with rfl | rfl | rfl | rfl <;> first | rfl | (simp at hlt) | omega
          rw [hv9] at hx9
          simp only [Option.some.injEq, Addr.mk.injEq] at h9
          obtain ⟨rfl, rfl, -⟩ := h9
          replace hx9 : v1.cell? ⟨w.heap.size + 1 + 1 + 1, q, none⟩ = some (.int .i64 p) := by rw [Nat.zero_add] at hx9; exact hx9
          obtain ⟨b', o, rfl, hQb, hx⟩ := HN.out p hplt
          have hq := HK.out p hplt
          obtain ⟨a', cap', S', hS, -⟩ := hq.out
          rw [hS] at hx hq
          have hkid : (t.kids[p]?).getD .zero = t.kids[p] := by rw [List.getElem?_eq_getElem hplt]; rfl
          have HMem := Lib.hid (List.getElem_mem hplt)
          have hrk := HKM.out p hpm
          have hfx := right_fine (plain_right (bare_plain _ (marked_right hrk)))
          have hEr : ∀ b, E b → b < wr.heap.size := (fun b hb => Nat.lt_of_lt_of_le (hEw b hb) (by have := HB4.out.size; omega))
          have CALL := Lib.hid (IH.out _ HMem.out E wr.drew _ hEr ((hq.later HB4.out).later (Below.trans hkp (Below.refl _ _).drew)) hrk)
          have hpick : (picked t ([0, 1] : List Nat)).take (q + 1) = (picked t ([0, 1] : List Nat)).take q ++ [(t.kids[p]).bare] := by
            rw [List.take_succ_eq_append_getElem (by unfold picked; rw [List.length_map]; exact hlt)]
            congr 2
            simp only [picked, List.getElem_map, hp, hkid]
          obtain ⟨x, hxb⟩ : ∃ x, (t.kids[p]).bare = x := ⟨_, rfl⟩
          rw [hxb] at CALL hfx hpick
          have hpl : ps.length = q := by have := congrArg List.length HPS.out; simp [picked] at this; first | omega | (simp at hlt; omega)
          have HPL := Lib.hid hpl
          have HMD := Lib.hid hmade
          have HFX := Lib.hid hfx
          have HPICK := Lib.hid hpick
          have hnode := hx.below HB4.out hx.lt
          have hb4' := HB4.out.size
          have hnc := five_cells Q0.out
          have hd4 := hnc.2.2.2.2
          obtain ⟨c0, c1, c2, c3, c4⟩ := hnode.below hkp hnode.lt
          have hc9 := cell_lat hkp hx9
          clear hS hq hx hfx hpick hxb hkid hrk hp hmade hpl hv9 hnc
          go_wp2_with fail
          go_region_held3 (fun w' => Kept v1 w' ∧ w'.cell? ⟨w.heap.size, 4, none⟩ = some (.slice (some ⟨b', o, none⟩) t.kids.length cap) ∧ w'.cell? ⟨w.heap.size + 1 + 1 + 1, q, none⟩ = some (.int .i64 p) ∧ w'.cell? ⟨b', o + p * 5, none⟩ = some (.int .i64 t.kids[p].k) ∧ w'.cell? ⟨b', o + p * 5 + 1, none⟩ = some (.int .i64 t.kids[p].i) ∧ w'.cell? ⟨b', o + p * 5 + 2, none⟩ = some (.int .i64 t.kids[p].j) ∧ w'.cell? ⟨b', o + p * 5 + 3, none⟩ = some (.int .i64 t.kids[p].n) ∧ w'.cell? ⟨b', o + p * 5 + 4, none⟩ = some (.slice a' t.kids[p].kids.length cap'))
            (((with_reducible refine strip_andV ?_ hd4 hx9 hnode); repeat (first | with_reducible assumption | with_reducible exact hkp | with_reducible refine kept_drew ?_ | with_reducible refine kept_alloc ?_ _)))
            (first | (go_at_call 56; ((with_reducible refine Calls.mono CALL.out ?_); rintro e wn ⟨s2, rfl, hl2, hbn⟩; obtain ⟨a2, cap2, S2, rfl, -⟩ := hl2.out; have HL2 := Lib.hid hl2; have HB2 := Lib.hid hbn; have hk2 := kept_call (kept_drew hkp) hbn; clear hl2 hbn)) | (refine step_append_lies _ rfl _ _ 23 rfl (v1.heap.size) 25 i0 _ 5 56 (by kernel_rfl) HI.out.1 HI.out.2.1 HI.out.2.2.1 HI.out.2.2.2 rfl (by decide) _ ps.length (cells5 ps) rfl (madeQ_laterV (madeQ_laterV (madeQ_laterV HMD.out (Below.refl _ _).drew) HB2.out) ((Below.refl _ _).alloc (Nat.le_refl _) _)).own ⟨wn.heap.size, 0, none⟩ 1 1 (cells5 [(x, .slice a2 x.kids.length cap2)]) rfl rfl (news_new _ _ _ _) (one5 _ _) (by decide) (by have := HPL.out; unfold maxLen; omega) (by have := HPL.out; omega) (by have := Below.size hk2; simp; omega) _ rfl ?_; intro g cap3 w3 hown hgrow hat _; have hmq := madeQ_pushV (madeQ_laterV HMD.out (Below.refl _ _).drew) hEv (Nat.le_refl _) hsz HFX.out HB2.out HL2.out _ hown hgrow hat; have HMQ := Lib.hid hmq; have hk3 : Kept v1 w3 := Below.grown (Below.alloc hk2 (Below.size hk2) _) hgrow (by have := Below.size hk2; simp; omega) (madeQ_aboveV HMD.out); clear hmq hown hgrow hat))
          go_wp2_with fail
          go_roundw
          case rel => exact ⟨q + 1, ps ++ [(x, .slice a2 x.kids.length cap2)], _, rfl, hlt, by go_num, by rw [Hid, List.map_append, HPS.out, HPICK.out]; rfl, HMQ.out, hk3⟩
          case measure => simp [intOf]; omega
        · have : q = 2 := by omega
          subst this
          have hres2 : ps.map (·.1) = picked t ([0, 1] : List Nat) := by
            have := HPS.out
            rwa [List.take_of_length_le (by simp [picked])] at this
          have hll := madeQ_liesV hmade (Nat.le_refl _)
          rw [hres2] at hll
          obtain ⟨a2, cap2, S2, rfl, -⟩ := hll.out
          have HLL := Lib.hid hll
          have hbw := HB4.out.trans (Below.mono hkp HB4.out.size)
          have q1' := t1
          clear hres2 hll hmade
          go_wp2
          (try simp only [Exit.inBlock, Exit.then])
          refine bodyPost_ret (results_cell_row rfl _ _ (w.heap.size + 1) _ _ _ du rfl (five_set q1') hu1 (by cases du <;> first | rfl | exact hu2) size_term) rfl ?_
          rw [HRES.out]
          exact ⟨_, rfl, liesQ_fivesV HLL.out (fun b hb => Nat.lt_of_lt_of_le (hEw b hb) (by omega)) (by omega) (by omega) _ _ _ _ _, below_five hbw (by omega) _ _ _ _ _⟩
    · have hn12 : t.k ≠ 2 := by rw [hkc]; decide
      obtain ⟨x0, x1, x2, x3, hkids, hm0, hm1, hp2, hm3⟩ := marked_tr HM0.out hkc
      have hres : t.bare = .mk 23 t.i 0 5 [x0.bare, x1.bare, x2, x3.bare] := by
        rw [Tm.bare_eq, hkids, hkc]
        simp [bareNode, bareKind, barePick, pickT, plain_bare x2 hp2]
      have h4 : t.kids.length = 4 := by rw [hkids]; rfl
      have g0 : t.kids[0]'(by omega) = x0 := by simp [hkids]
      have g1 : t.kids[1]'(by omega) = x1 := by simp [hkids]
      have g2 : t.kids[2]'(by omega) = x2 := by simp [hkids]
      have g3 : t.kids[3]'(by omega) = x3 := by simp [hkids]
      obtain ⟨b', o, ha, -, n0⟩ := HN.out 0 (by omega)
      subst ha
      obtain ⟨b1, o1, ha, -, n1⟩ := HN.out 1 (by omega)
      cases ha
      obtain ⟨b1, o1, ha, -, n2⟩ := HN.out 2 (by omega)
      cases ha
      obtain ⟨b1, o1, ha, -, n3⟩ := HN.out 3 (by omega)
      cases ha
      have l0 := HK.out 0 (by omega)
      have l1 := HK.out 1 (by omega)
      have l2 := HK.out 2 (by omega)
      have l3 := HK.out 3 (by omega)
      rw [g0] at n0 l0
      rw [g1] at n1 l1
      rw [g2] at n2 l2
      rw [g3] at n3 l3
      obtain ⟨a0, p0, S0, hS0, -⟩ := l0.out
      obtain ⟨a1, p1, S1, hS1, -⟩ := l1.out
      obtain ⟨a2, p2, S2, hS2, -⟩ := l2.out
      obtain ⟨a3, p3, S3, hS3, -⟩ := l3.out
      rw [hS0] at n0 l0
      rw [hS1] at n1 l1
      rw [hS2] at n2 l2
      rw [hS3] at n3 l3
      simp only [Nat.zero_mul, Nat.add_zero, Nat.one_mul, Nat.reduceMul] at n0 n1 n2 n3
      have f0' := right_fine (plain_right (bare_plain _ (marked_right hm0)))
      have f1' := right_fine (plain_right (bare_plain _ (marked_right hm1)))
      have f2' := right_fine (plain_right hp2)
      have f3' := right_fine (plain_right (bare_plain _ (marked_right hm3)))
      have HF := Lib.hid (And.intro f0' (And.intro f1' (And.intro f2' f3')))
      have C0 : Hid (∀ w', Below w.heap.size w w' → Calls Tryz.prog 56 #[tv x0 (.slice a0 x0.kids.length p0)] w' (SharesV E x0.bare w')) := fun w' h => IH.out x0 (by rw [hkids]; simp) E w' _ (fun b hb => Nat.lt_of_lt_of_le (hEw b hb) h.size) (l0.later h) hm0
      have C1 : Hid (∀ w', Below w.heap.size w w' → Calls Tryz.prog 56 #[tv x1 (.slice a1 x1.kids.length p1)] w' (SharesV E x1.bare w')) := fun w' h => IH.out x1 (by rw [hkids]; simp) E w' _ (fun b hb => Nat.lt_of_lt_of_le (hEw b hb) h.size) (l1.later h) hm1
      have C3 : Hid (∀ w', Below w.heap.size w w' → Calls Tryz.prog 56 #[tv x3 (.slice a3 x3.kids.length p3)] w' (SharesV E x3.bare w')) := fun w' h => IH.out x3 (by rw [hkids]; simp) E w' _ (fun b hb => Nat.lt_of_lt_of_le (hEw b hb) h.size) (l3.later h) hm3
      have HL2 := Lib.hid l2
      have HRES := Lib.hid hres
      have hb3 := below_three w (.cells #[.int .i64 t.k, .int .i64 t.i, .int .i64 t.j, .int .i64 t.n, .slice (some ⟨b', o, none⟩) t.kids.length cap] 25) (.cells #[.int .i64 0, .int .i64 0, .int .i64 0, .int .i64 0, .slice none 0 0] 25) (.cells #[] 3)
      obtain ⟨q0, q1, -, -⟩ := heap_three w (.cells #[.int .i64 t.k, .int .i64 t.i, .int .i64 t.j, .int .i64 t.n, .slice (some ⟨b', o, none⟩) t.kids.length cap] 25) (.cells #[.int .i64 0, .int .i64 0, .int .i64 0, .int .i64 0, .slice none 0 0] 25) (.cells #[] 3)
      have hs3 : w.heap.size + 1 < (((w.alloc (.cells #[.int .i64 t.k, .int .i64 t.i, .int .i64 t.j, .int .i64 t.n, .slice (some ⟨b', o, none⟩) t.kids.length cap] 25)).alloc (.cells #[.int .i64 0, .int .i64 0, .int .i64 0, .int .i64 0, .slice none 0 0] 25)).alloc (.cells #[] 3)).heap.size := by simp
      have e3 : (t.k == 3) = false := by rw [hkc]; decide
      have e4 : (t.k == 4) = false := by rw [hkc]; decide
      have e5 : (t.k == 5) = false := by rw [hkc]; decide
      have e6 : (t.k == 6) = false := by rw [hkc]; decide
      have e7 : (t.k == 7) = false := by rw [hkc]; decide
      have e8 : (t.k == 8) = false := by rw [hkc]; decide
      have e9 : (t.k == 9) = false := by rw [hkc]; decide
      have e10 : (t.k == 10) = false := by rw [hkc]; decide
      have e11 : (t.k == 11) = false := by rw [hkc]; decide
      have e12 : (t.k == 12) = true := by rw [hkc]; decide
      have hx0 := n0
      have hx1 := n1
      have hx2 := n2
      have hx3 := n3
      have j0 : (0 : Int) < (t.kids.length : Int) := by omega
      have i0 : 0 < t.kids.length := by omega
      have j1 : (1 : Int) < (t.kids.length : Int) := by omega
      have i1 : 1 < t.kids.length := by omega
      have j2 : (2 : Int) < (t.kids.length : Int) := by omega
      have i2 : 2 < t.kids.length := by omega
      have j3 : (3 : Int) < (t.kids.length : Int) := by omega
      have i3 : 3 < t.kids.length := by omega
      have H4 := Lib.hid h4
      have HKIDS := Lib.hid hkids
      clear hkc hres hkids h4 g0 g1 g2 g3 l0 l1 l2 l3 hS0 hS1 hS2 hS3 f0' f1' f2' f3' hm0 hm1 hp2 hm3 hn12
      go_enter Tryz.func56, Tryz.ntmps56
      go_upto_region 23 with fail
      generalize (((w.alloc (.cells #[.int .i64 t.k, .int .i64 t.i, .int .i64 t.j, .int .i64 t.n, .slice (some ⟨b', o, none⟩) t.kids.length cap] 25)).alloc (.cells #[.int .i64 0, .int .i64 0, .int .i64 0, .int .i64 0, .slice none 0 0] 25)).alloc (.cells #[] 3)) = v1 at hb3 q0 q1 hs3 ⊢
      have hbx : BxV w t (.slice (some ⟨b', o, none⟩) t.kids.length cap) v1 := ⟨hb3, q0⟩
      have Q1 := Lib.hid q1
      have HB3 := Lib.hid hb3
      obtain ⟨d0, d1, d2, d3, d4⟩ := five_cells q0
      obtain ⟨m00, m01, m02, m03, m04⟩ := n0.below hb3 n0.lt
      obtain ⟨m10, m11, m12, m13, m14⟩ := n1.below hb3 n1.lt
      obtain ⟨m20, m21, m22, m23, m24⟩ := n2.below hb3 n2.lt
      obtain ⟨m30, m31, m32, m33, m34⟩ := n3.below hb3 n3.lt
      clear q0 q1 hb3 n0 n1 n2 n3
      go_wp2_with fail
      go_region_held3 (fun w' => BxV w t (.slice (some ⟨b', o, none⟩) t.kids.length cap) w' ∧ w'.cell? ⟨w.heap.size, 1, none⟩ = some (.int .i64 t.i) ∧ w'.cell? ⟨w.heap.size, 4, none⟩ = some (.slice (some ⟨b', o, none⟩) t.kids.length cap) ∧ w'.cell? ⟨b', o, none⟩ = some (.int .i64 x0.k) ∧ w'.cell? ⟨b', o + 1, none⟩ = some (.int .i64 x0.i) ∧ w'.cell? ⟨b', o + 2, none⟩ = some (.int .i64 x0.j) ∧ w'.cell? ⟨b', o + 3, none⟩ = some (.int .i64 x0.n) ∧ w'.cell? ⟨b', o + 4, none⟩ = some (.slice a0 x0.kids.length p0) ∧ w'.cell? ⟨b', o + 5, none⟩ = some (.int .i64 x1.k) ∧ w'.cell? ⟨b', o + 5 + 1, none⟩ = some (.int .i64 x1.i) ∧ w'.cell? ⟨b', o + 5 + 2, none⟩ = some (.int .i64 x1.j) ∧ w'.cell? ⟨b', o + 5 + 3, none⟩ = some (.int .i64 x1.n) ∧ w'.cell? ⟨b', o + 5 + 4, none⟩ = some (.slice a1 x1.kids.length p1) ∧ w'.cell? ⟨b', o + 10, none⟩ = some (.int .i64 x2.k) ∧ w'.cell? ⟨b', o + 10 + 1, none⟩ = some (.int .i64 x2.i) ∧ w'.cell? ⟨b', o + 10 + 2, none⟩ = some (.int .i64 x2.j) ∧ w'.cell? ⟨b', o + 10 + 3, none⟩ = some (.int .i64 x2.n) ∧ w'.cell? ⟨b', o + 10 + 4, none⟩ = some (.slice a2 x2.kids.length p2) ∧ w'.cell? ⟨b', o + 15, none⟩ = some (.int .i64 x3.k) ∧ w'.cell? ⟨b', o + 15 + 1, none⟩ = some (.int .i64 x3.i) ∧ w'.cell? ⟨b', o + 15 + 2, none⟩ = some (.int .i64 x3.j) ∧ w'.cell? ⟨b', o + 15 + 3, none⟩ = some (.int .i64 x3.n) ∧ w'.cell? ⟨b', o + 15 + 4, none⟩ = some (.slice a3 x3.kids.length p3))
        (((with_reducible refine bx_andV ?_ hx0 hx1 hx2 hx3); repeat (first | with_reducible assumption | with_reducible exact hbx | with_reducible refine bx_drewV ?_ | with_reducible refine bx_allocV ?_ _ | ((with_reducible refine bx_setV ?_ ?hh _); (case hh => simp)))))
        (first | (go_at_call 56; have mk0 := HM2.out; have hS := (‹BxV w _ _ _ ∧ _›).1; ((with_reducible refine Calls.mono (C3.out _ (bx_belowV hS)) ?_); rintro e wn ⟨s3, rfl, hl3, hbn⟩; obtain ⟨a9, p9, S9, rfl, -⟩ := hl3.out; have HQ0 := Lib.hid (HQ0.out.later hbn); have HQ1 := Lib.hid (HQ1.out.later hbn); have HQ3 := Lib.hid (far_wideV hl3 HSZ.out); have hu := mk0.trans (hbn.mono mk0.size); have HU := Lib.hid hu; have hbx3 := bx_callV hS hbn; have hq1n := keep_block hu (by exact hs3) Q1.out; have hsn : w.heap.size + 1 < wn.heap.size := block_lt hq1n; obtain ⟨z0, z1, z2, z3, z4⟩ := five_cells hq1n; obtain ⟨f0, f1, f2, f3, f4⟩ := five_free hq1n; clear hl3 mk0 hu)) |
          (go_at_call 56; have mk0 := HM1.out; have hS := (‹BxV w _ _ _ ∧ _›).1; ((with_reducible refine Calls.mono (C1.out _ (bx_belowV hS)) ?_); rintro e wn ⟨s3, rfl, hl3, hbn⟩; obtain ⟨a8, p8, S8, rfl, -⟩ := hl3.out; have HQ0 := Lib.hid (HQ0.out.later hbn); have HQ1 := Lib.hid (far_wideV hl3 HSZ.out); have HM2 := Lib.hid (mk0.trans (hbn.mono mk0.size)); have HSZ := Lib.hid (Nat.le_trans HSZ.out hbn.size); have hbx2 := bx_callV hS hbn; clear hl3 mk0)) |
          (go_at_call 56; have hS := (‹BxV w _ _ _ ∧ _›).1; ((with_reducible refine Calls.mono (C0.out _ (bx_belowV hS)) ?_); rintro e wn ⟨s3, rfl, hl3, hbn⟩; obtain ⟨a7, p7, S7, rfl, -⟩ := hl3.out; have hbv := (Below.refl v1.heap.size v1).drew; have HM1 := Lib.hid (hbv.trans (hbn.mono hbv.size)); have HSZ := Lib.hid (show v1.heap.size ≤ wn.heap.size from hbn.size); have HQ0 : Hid (LiesQ wn (FarV E v1.heap.size) _ _) := Lib.hid hl3; have hbx2 := bx_callV hS hbn; clear hl3 hbv)))
      go_wp2
      (try simp only [Exit.inBlock, Exit.then])
      refine bodyPost_ret (results_cell_row rfl _ _ (w.heap.size + 1) _ _ _ du rfl (five_alloc hq1n _ _ _ _ _ _) hu1 (by cases du <;> first | rfl | exact hu2) size_term) rfl ?_
      rw [HRES.out]
      have hbw : Below w.heap.size w wn := HB3.out.trans (HU.out.mono HB3.out.size)
      have hE1 : ∀ b, E b → b < w.heap.size + 1 := (fun b hb => Nat.lt_of_lt_of_le (hEw b hb) (by omega))
      have hN1 : w.heap.size ≤ v1.heap.size := by omega
      have h2 : LiesQ wn (FarV E v1.heap.size) x2.kids (.slice a2 x2.kids.length p2) := (HL2.out.later hbw).wide (fun b hb => Or.inl hb)
      obtain ⟨fi0, fi1, fi2, fi3⟩ := HF.out
      refine ⟨.slice (some ⟨wn.heap.size, 0, none⟩) 4 4, rfl, liesQ_rowV (ps := [(x0.bare, .slice a7 x0.bare.kids.length p7), (x1.bare, .slice a8 x1.bare.kids.length p8), (x2, .slice a2 x2.kids.length p2), (x3.bare, .slice a9 x3.bare.kids.length p9)]) (five_newV wn _ _ _ _ _ _ _) (Or.inr hbw.size) ?_ ?_ (Nat.le_refl 4) (by decide), below_five_alloc hbw hbw.size (Nat.le_succ _) _ _ _ _ _ _⟩
      · intro p hp
        simp only [List.mem_cons, List.not_mem_nil, or_false] at hp
        rcases hp with rfl | rfl | rfl | rfl
        · exact fi0
        · exact fi1
        · exact fi2
        · exact fi3
      · intro p hp
        simp only [List.mem_cons, List.not_mem_nil, or_false] at hp
        rcases hp with rfl | rfl | rfl | rfl
        · exact far_fivesV HQ0.out hE1 hs3 hN1 _ _ _ _ _ _
        · exact far_fivesV HQ1.out hE1 hs3 hN1 _ _ _ _ _ _
        · exact far_fivesV h2 hE1 hs3 hN1 _ _ _ _ _ _
        · exact far_fivesV HQ3.out hE1 hs3 hN1 _ _ _ _ _ _
set_option maxHeartbeats 2000000 in
theorem refStripS_anyV (t : Tm) (E : Nat → Prop) (w : World) (s : Value) (hEw : ∀ b, E b → b < w.heap.size) (hl : LiesQ w E t.kids s) : Calls Tryz.prog 26 #[tv t s] w (SharesV E t.stripB w) := by
  obtain ⟨a, cap, S, rfl, hc, hm, -, -, -⟩ := hl.out
  have HL := Lib.hid hl
  obtain ⟨du, hu1, hu2⟩ := under_term
  have H0 := boxes_start w t (.slice a t.kids.length cap)
  clear hl
  unfold tv
  cases hp : t.plainB with
  | true =>
    have hres := Lib.hid (stripB_ofPlainV hp)
    go_enter Tryz.func26, Tryz.ntmps26
    go_wp2_with fail
    refine (refplain_any t _ _ (boxes_lies H0 HL.out.lies)).mono ?_
    rw [hp]
    rintro e w2 ⟨rfl, hb2⟩
    have H2 := boxes_call H0 hb2
    obtain ⟨-, q1⟩ := boxes_two H2
    obtain ⟨d0, d1, d2, d3, d4⟩ := held_cells (boxes_held H2)
    obtain ⟨z0, z1, z2, z3, z4⟩ := five_cells q1
    obtain ⟨f0, f1, f2, f3, f4⟩ := five_free q1
    clear hb2 H0
    go_wp2
    refine bodyPost_ret (results_cell_row rfl _ _ (w.heap.size + 1) _ _ _ du rfl (five_set q1) hu1 (by cases du <;> first | rfl | exact hu2) size_term) rfl ?_
    rw [hres.out]
    exact ⟨_, rfl, (HL.out.later (below_five (boxes_under H2) (by omega) _ _ _ _ _)).wide (fun b hb => Or.inl hb), below_five (boxes_under H2) (by omega) _ _ _ _ _⟩
  | false =>
    cases hr : t.markedB with
    | false =>
      have hres := Lib.hid (stripB_ofNoneV hp hr)
      go_enter Tryz.func26, Tryz.ntmps26
      go_wp2_with fail
      refine (refplain_any t _ _ (boxes_lies H0 HL.out.lies)).mono ?_
      rw [hp]
      rintro e w1 ⟨rfl, hb1⟩
      have H1 := boxes_call H0 hb1
      obtain ⟨d0, d1, d2, d3, d4⟩ := held_cells (boxes_held H1)
      clear hb1 H0
      go_wp2_with fail
      refine (refmarked_any t _ _ (boxes_lies H1 HL.out.lies)).mono ?_
      rw [hr]
      rintro e w2 ⟨rfl, hb2⟩
      have H2 := boxes_call H1 hb2
      obtain ⟨-, q1⟩ := boxes_two H2
      obtain ⟨z0, z1, z2, z3, z4⟩ := five_cells q1
      obtain ⟨f0, f1, f2, f3, f4⟩ := five_free q1
      clear hb2 d0 d1 d2 d3 d4
      obtain ⟨d0, d1, d2, d3, d4⟩ := held_cells (boxes_held H2)
      go_wp2
      refine bodyPost_ret (results_cell_row rfl _ _ (w.heap.size + 1) _ _ _ du rfl (five_set q1) hu1 (by cases du <;> first | rfl | exact hu2) size_term) rfl ?_
      rw [hres.out]
      exact ⟨.slice none 0 0, rfl, liesQ_nil _ _, below_five (boxes_under H2) (by omega) _ _ _ _ _⟩
    | true =>
      have hres := Lib.hid (stripB_ofMarkedV hr)
      go_enter Tryz.func26, Tryz.ntmps26
      go_wp2_with fail
      refine (refplain_any t _ _ (boxes_lies H0 HL.out.lies)).mono ?_
      rw [hp]
      rintro e w1 ⟨rfl, hb1⟩
      have H1 := boxes_call H0 hb1
      obtain ⟨d0, d1, d2, d3, d4⟩ := held_cells (boxes_held H1)
      clear hb1 H0
      go_wp2_with fail
      refine (refmarked_any t _ _ (boxes_lies H1 HL.out.lies)).mono ?_
      rw [hr]
      rintro e w2 ⟨rfl, hb2⟩
      have H2 := boxes_call H1 hb2
      have hs2 : w.heap.size + 2 ≤ w2.heap.size := by have := Below.size H2; simpa using this
      clear hb2 d0 d1 d2 d3 d4
      obtain ⟨d0, d1, d2, d3, d4⟩ := held_cells (boxes_held H2)
      go_wp2_with fail
      refine (refstrip_anyV t E w2 _ (fun b hb => Nat.lt_of_lt_of_le (hEw b hb) (by omega)) (HL.out.later (boxes_under H2)) hr).mono ?_
      rintro e w3 ⟨s3, rfl, hl3, hb3⟩
      obtain ⟨a3, cap3, S3, rfl, -⟩ := hl3.out
      have H3 := boxes_call H2 hb3
      obtain ⟨-, q1⟩ := boxes_two H3
      obtain ⟨z0, z1, z2, z3, z4⟩ := five_cells q1
      obtain ⟨f0, f1, f2, f3, f4⟩ := five_free q1
      have HL3 := Lib.hid hl3
      clear hb3 hl3 d0 d1 d2 d3 d4
      go_wp2
      refine bodyPost_ret (results_cell_row rfl _ _ (w.heap.size + 1) _ _ _ du rfl (five_set q1) hu1 (by cases du <;> first | rfl | exact hu2) size_term) rfl ?_
      rw [hres.out]
      exact ⟨_, rfl, liesQ_fivesV HL3.out (fun b hb => Nat.lt_of_lt_of_le (hEw b hb) (by omega)) (by omega) (by omega) _ _ _ _ _, below_five (boxes_under H3) (by omega) _ _ _ _ _⟩
end Go.Proofs.YtgododpkbiaacaaGreat

namespace Go.Proofs.YtgododpkbiaacaaGreat
open Go.RowKit

theorem sort_fine {i : Int} (h : I64 i) : (sortT i).fine := mk_fine (by unfold I64; decide) h (by unfold I64; decide) (by unfold I64; decide)
theorem var_fine {i : Int} (h : I64 i) : (varT i).fine := mk_fine (by unfold I64; decide) h (by unfold I64; decide) (by unfold I64; decide)
theorem points_good {i : Int} (h : levN 2 i = true) : pointsB i = pointsT i := by unfold pointsB heR2; rw [h]; rfl
theorem point_good {i : Int} {a x : Tm} (h : levN 2 i = true) (ha : a.plainB = true) (hx : x.plainB = true) : pointB i a x = pointT i a x := by unfold pointB heR2 plainL; simp [h, ha, hx]
theorem pairs_of (l : List Tm) (S : Nat → Value) : ∃ ps : List (Tm × Value), ps.map (·.1) = l ∧ ps.length = l.length ∧ ∀ i (h : i < l.length) (h' : i < ps.length), ps[i] = (l[i], S i) := by
  refine ⟨(List.range l.length).map fun i => ((l[i]?).getD .zero, S i), ?_, by simp, fun i h h' => by simp [h]⟩
  apply List.ext_getElem
  · simp
  · intro i h1 h2
    simp at h1
    simp [h2]
theorem owns_later {B : Nat} {w w' : World} {T : TypeId} {v : Value} {n : Nat} {xs : List Value} (h : w.ownsRow B T 5 v n xs) (hb : Below w.heap.size w w') : w'.ownsRow B T 5 v n xs := by
  obtain ⟨h1, h2⟩ := h
  refine ⟨h1, ?_⟩
  rcases h2 with h2 | ⟨g, cap, cur, hv, hg, hh, r⟩
  · exact Or.inl h2
  · refine Or.inr ⟨g, cap, cur, hv, hg, ?_, r⟩
    rw [hb.block g (Array.getElem?_eq_some_iff.1 hh).1]; exact hh
theorem owns_above {B : Nat} {w : World} {T : TypeId} {v : Value} {n : Nat} {xs : List Value} (h : w.ownsRow B T 5 v n xs) : ∀ g, v.ownBlock = some g → B ≤ g := fun g hg => by
  rcases h.2 with ⟨rfl, -⟩ | ⟨g', cap, cur, rfl, hg', -⟩
  · simp [Value.ownBlock] at hg
  · simp [Value.ownBlock] at hg; omega
/-- A row of the body's own, as a list: its kids lie where they lay. -/
theorem owns_lies {B : Nat} {w : World} {Q : Nat → Prop} {v : Value} {ps : List (Tm × Value)} (h : w.ownsRow B 25 5 v ps.length (cells5 ps)) (hQ : ∀ g, B ≤ g → g < w.heap.size → Q g) (hp : ∀ p ∈ ps, p.1.fine ∧ LiesQ w Q p.1.kids p.2) : LiesQ w Q (ps.map (·.1)) v := by
  have h0 := h
  obtain ⟨-, ⟨rfl, hn⟩ | ⟨g, cap, cur, rfl, hg, hh, hnc, hcm, hsz, htk⟩⟩ := h
  · obtain rfl : ps = [] := List.eq_nil_of_length_eq_zero hn
    exact liesQ_nil _ _
  · have := LiesQ.mk (w := w) (P := Q) (ps.map (·.1)) (some ⟨g, 0, none⟩) cap (fun i => (ps[i]?.map (·.2)).getD (.slice none 0 0)) (by simpa using hnc) hcm (fun x hx => by obtain ⟨p, hq, rfl⟩ := List.mem_map.1 hx; exact (hp p hq).1)
      (fun i hi => by
        have hi' : i < ps.length := by simpa using hi
        refine ⟨g, 0, rfl, hQ g hg (Array.getElem?_eq_some_iff.1 hh).1, ?_⟩
        simp only [List.getElem_map, List.getElem?_eq_getElem hi', Option.map_some, Option.getD_some, Nat.zero_add]
        have cellq : ∀ q, q < 5 → w.cell? ⟨g, i * 5 + q, none⟩ = [Value.int .i64 (ps[i]).1.k, .int .i64 (ps[i]).1.i, .int .i64 (ps[i]).1.j, .int .i64 (ps[i]).1.n, (ps[i]).2][q]? := fun q hq => by
          rw [h0.cellAt (i * 5 + q) (by omega)]; exact cells5_get ps i hi' q hq
        exact ⟨cellq 0 (by omega), cellq 1 (by omega), cellq 2 (by omega), cellq 3 (by omega), cellq 4 (by omega)⟩)
      (fun i hi => by
        have hi' : i < ps.length := by simpa using hi
        simp only [List.getElem_map, List.getElem?_eq_getElem hi', Option.map_some, Option.getD_some]
        exact (hp _ (List.getElem_mem hi')).2)
    simpa using this

set_option maxRecDepth 20000 in
set_option maxHeartbeats 4000000 in
theorem rlevel_any (i : Int) (low : Int) (w : World) (hri : I64 i) (hrlow : I64 low) (h0 : 0 ≤ low) (h1 : low ≤ 1000) : Calls Tryz.prog 51 #[.int .i64 i, .int .i64 low] w fun e w' => e = .returned (.bool (levN low i)) ∧ Kept w w' := by
  have Ri := Lib.hid hri
  clear hri
  have Rlow := Lib.hid hrlow
  clear hrlow
  have ew : IntKind.i64.wrap (1000 - low) = 1000 - low := IntWalk.i64_in _ (by omega)
  clear h0 h1
  go_enter Tryz.func51, Tryz.ntmps51
  have kvw : Sees w w.heap.size w := sees_kept _ (kept_refl _)
  by_cases c1 : 0 ≤ i
  · have ec1 : decide (0 ≤ i) = true := decide_eq_true c1
    have Ec1 := Lib.hid ec1
    have Hc1 := Lib.hid c1
    clear c1
    by_cases c2 : i ≤ (1000 - low)
    · have ec2 : decide (i ≤ (1000 - low)) = true := decide_eq_true c2
      have Ec2 := Lib.hid ec2
      have Hc2 := Lib.hid c2
      clear c2
      go_wp2
      go_ret
      exact ⟨ret_bool (Eq.symm (show levN low i = true from by unfold levN; rw [Ec1.out, Ec2.out]; (try rfl))), (kept_refl _)⟩
    · have ec2 : decide (i ≤ (1000 - low)) = false := decide_eq_false c2
      have Ec2 := Lib.hid ec2
      have Hc2 := Lib.hid c2
      clear c2
      go_wp2
      go_ret
      exact ⟨ret_bool (Eq.symm (show levN low i = false from by unfold levN; rw [Ec1.out, Ec2.out]; (try rfl))), (kept_refl _)⟩
  · have ec1 : decide (0 ≤ i) = false := decide_eq_false c1
    have Ec1 := Lib.hid ec1
    have Hc1 := Lib.hid c1
    clear c1
    go_wp2
    go_ret
    exact ⟨ret_bool (Eq.symm (show levN low i = false from by unfold levN; rw [Ec1.out]; (try rfl))), (kept_refl _)⟩

set_option maxRecDepth 20000 in
set_option maxHeartbeats 4000000 in
theorem rplain_any (l : List Tm) (w : World) (s : Value) (hl : Lies w l s) : Calls Tryz.prog 52 #[s] w fun e w' => e = .returned (.bool (plainL l)) ∧ Kept w w' := by
  obtain ⟨a, cap, S, rfl, hc, hmx, -, hn, hk⟩ := hl.out
  unfold maxLen at hmx
  have HN := Lib.hid hn
  have HK := Lib.hid hk
  clear hn hk hl
  go_enter Tryz.func52, Tryz.ntmps52
  go_wp2
  go_loopw [3] (fun iv wr => ∃ k : Nat, k ≤ l.length ∧ iv = .int .i64 k ∧ Hid (∀ j (h : j < l.length), j < k → (l[j]).plainB = true) ∧ Kept w wr) (fun iv _ => l.length - (intOf iv).toNat)
  case atStart => exact ⟨0, Nat.zero_le _, rfl, fun j _ h => absurd h (by omega), kept_refl _⟩
  case round =>
    obtain ⟨k, hkl, rfl, hrel, hb⟩ := hrel
    by_cases hlt : k < l.length
    · obtain ⟨b, o, rfl, hx⟩ := HN.out k hlt
      obtain ⟨c0, c1, c2, c3, c4⟩ := hx.below hb hx.lt
      have hq := HK.out k hlt
      obtain ⟨a', cap', S', hS, -⟩ := hq.out
      rw [hS] at c4 hq
      have HQ := Lib.hid (hq.keep hb)
      have HB := Lib.hid hb
      clear hS hq hb
      go_wp2_with fail
      refine (refplain_any l[k] _ _ HQ.out).mono ?_
      clear c0 c1 c2 c3 c4
      cases hp : (l[k]).plainB with
      | false =>
        have HF : Hid (plainL l = false) := by
          show _ = _
          cases hh : plainL l with
          | false => rfl
          | true => rw [plainL_iff.1 hh _ (List.getElem_mem hlt)] at hp; cases hp
        rintro e w' ⟨rfl, hb'⟩
        have HB2 := Lib.hid (kept_trans HB.out hb')
        clear hb' hp
        go_wp2
        go_ret
        exact ⟨ret_bool (by rw [HF.out]), HB2.out⟩
      | true =>
        have HP := Lib.hid hp
        rintro e w' ⟨rfl, hb'⟩
        have HB2 := Lib.hid (kept_trans HB.out hb')
        clear hb' hp
        go_wp2
        go_roundw
        case rel =>
          refine ⟨k + 1, hlt, by go_num, fun j hj hjk => ?_, HB2.out⟩
          by_cases e : j = k
          · subst e; exact HP.out
          · exact hrel.out j hj (by omega)
        case measure => simp [intOf]; omega
    · obtain rfl : k = l.length := by omega
      have HF : Hid (plainL l = true) := by
        show _ = _
        exact plainL_iff.2 (fun x hx => by obtain ⟨j, hj, rfl⟩ := List.getElem_of_mem hx; exact hrel.out j hj hj)
      have HB := Lib.hid hb
      clear hb
      go_wp2
      go_ret
      exact ⟨ret_bool (by rw [HF.out]), HB.out⟩

set_option maxRecDepth 20000 in
set_option maxHeartbeats 4000000 in
theorem rsort_any (i : Int) (P : Nat → Prop) (w : World) (hri : I64 i) : Calls Tryz.prog 74 #[.int .i64 i] w (GivesP P (sortT i) w) := by
  have Ri := Lib.hid hri
  clear hri
  obtain ⟨du, hu1, hu2⟩ := under_term
  go_enter Tryz.func74, Tryz.ntmps74
  go_upto_region 1 with fail
  refine at_code (fun V0 hV0 => ?_)
  obtain ⟨k2, x1, z3⟩ := alloc1 hV0
  have Kk4 := Lib.hid k2
  clear k2
  have Hx1 := Lib.hid x1
  have Z0 := Lib.hid z3
  clear z3 x1 hV0
  have kvV0 : Sees V0 (w.heap.size) V0 := sees_kept _ (kept_refl _)
  go_wp2_with (refine stop_store 25 (.tmp 2) (.tmp 4) rfl ?_)
  intro _
  refine wpList_store_part_n (by rfl) 25 (.tmp 2) (.tmp 4) rfl (w.heap.size) 0 #[.int .i64 1, .int .i64 i, .int .i64 0, .int .i64 0, .slice none 0 0] (by rfl) (by rfl) 25 size_term (row_ok rfl) ?_
  intro W5 hW5
  clear kvV0
  subst hW5
  refine ⟨_, #[.int .i64 1, .int .i64 i, .int .i64 0, .int .i64 0, .slice none 0 0], Hx1.out, rfl, Nat.le_of_ble_eq_true rfl, ?_⟩
  intro W6 hW6
  go_wp2_with fail
  refine bodyPost_ret (results_cell_row rfl _ _ (w.heap.size) 25 _ _ du rfl (blk_same Hx1.out hW6) hu1 (by cases du <;> first | rfl | exact hu2) size_term) rfl ?_
  exact ⟨_, rfl, par_end (par_row' (liesQ_nil V0 (Par w V0.heap.size [] P)) hW6 (by omega) (by have := Z0.out; omega)) (by have := Z0.out; omega), kept_set Kk4.out hW6 (by omega)⟩

set_option maxRecDepth 20000 in
set_option maxHeartbeats 4000000 in
theorem rv_any (i : Int) (P : Nat → Prop) (w : World) (hri : I64 i) : Calls Tryz.prog 75 #[.int .i64 i] w (GivesP P (varT i) w) := by
  have Ri := Lib.hid hri
  clear hri
  obtain ⟨du, hu1, hu2⟩ := under_term
  go_enter Tryz.func75, Tryz.ntmps75
  go_upto_region 1 with fail
  refine at_code (fun V0 hV0 => ?_)
  obtain ⟨k2, x1, z3⟩ := alloc1 hV0
  have Kk4 := Lib.hid k2
  clear k2
  have Hx1 := Lib.hid x1
  have Z0 := Lib.hid z3
  clear z3 x1 hV0
  have kvV0 : Sees V0 (w.heap.size) V0 := sees_kept _ (kept_refl _)
  go_wp2_with (refine stop_store 25 (.tmp 2) (.tmp 4) rfl ?_)
  intro _
  refine wpList_store_part_n (by rfl) 25 (.tmp 2) (.tmp 4) rfl (w.heap.size) 0 #[.int .i64 2, .int .i64 i, .int .i64 0, .int .i64 0, .slice none 0 0] (by rfl) (by rfl) 25 size_term (row_ok rfl) ?_
  intro W5 hW5
  clear kvV0
  subst hW5
  refine ⟨_, #[.int .i64 2, .int .i64 i, .int .i64 0, .int .i64 0, .slice none 0 0], Hx1.out, rfl, Nat.le_of_ble_eq_true rfl, ?_⟩
  intro W6 hW6
  go_wp2_with fail
  refine bodyPost_ret (results_cell_row rfl _ _ (w.heap.size) 25 _ _ du rfl (blk_same Hx1.out hW6) hu1 (by cases du <;> first | rfl | exact hu2) size_term) rfl ?_
  exact ⟨_, rfl, par_end (par_row' (liesQ_nil V0 (Par w V0.heap.size [] P)) hW6 (by omega) (by have := Z0.out; omega)) (by have := Z0.out; omega), kept_set Kk4.out hW6 (by omega)⟩

set_option maxRecDepth 20000 in
set_option maxHeartbeats 4000000 in
theorem rnode_any (kd : Int) (l : List Tm) (P : Nat → Prop) (w : World) (s : Value) (_ : I64 kd) (hl : LiesQ w P l s) (hlen : l.length ≤ 1000) : Calls Tryz.prog 53 #[.int .i64 kd, s] w (GivesP P (nodeT kd l) w) := by
  obtain ⟨a, cap, S, rfl, hc, hmx, hf, hn, hk⟩ := hl.out
  obtain ⟨ps, hps, hpl, hpg⟩ := pairs_of l S
  unfold maxLen at hmx
  obtain ⟨du, hu1, hu2⟩ := under_term
  obtain ⟨i0, hi, hz0, hz1, hz2⟩ := info_parts info_term
  have HI := Lib.hid (And.intro hi (And.intro hz0 (And.intro hz1 hz2)))
  have HN := Lib.hid hn
  have HK := Lib.hid hk
  have HF := Lib.hid hf
  have HPS := Lib.hid hps
  have HPL := Lib.hid hpl
  have HPG := Lib.hid hpg
  have HLEN := Lib.hid hlen
  clear hn hk hl hf hi hz0 hz1 hz2 hps hpl hpg
  go_enter Tryz.func53, Tryz.ntmps53
  go_upto_region 1 with fail
  refine at_code (fun V0 hV0 => ?_)
  obtain ⟨k0, x0, z0⟩ := alloc1 hV0
  have HK0 := Lib.hid k0
  have HX0 := Lib.hid x0
  have HZ0 := Lib.hid z0
  clear k0 x0 z0 hV0
  go_wp2_with fail
  go_loopw [5, 6] (fun v iv wr => ∃ (k : Nat) (vv : Value), vv = v ∧ k ≤ l.length ∧ iv = .int .i64 k ∧ Hid (wr.ownsRow V0.heap.size 25 5 vv k (cells5 (ps.take k))) ∧ Kept V0 wr) (fun _ iv _ => l.length - (intOf iv).toNat)
  case atStart => exact ⟨0, _, rfl, Nat.zero_le _, rfl, ⟨rfl, Or.inl ⟨rfl, rfl⟩⟩, kept_refl _⟩
  case round =>
    obtain ⟨k, vv, rfl, hkl, rfl, hown0, hb⟩ := hrel
    have HO := Lib.hid hown0.out
    clear hown0
    by_cases hlt : k < l.length
    · obtain ⟨b, o, rfl, -, hx⟩ := HN.out k hlt
      obtain ⟨c0, c1, c2, c3, c4⟩ := hx.below (kept_trans HK0.out hb) hx.lt
      have hq := HK.out k hlt
      obtain ⟨a', cap', S', hS, -⟩ := hq.out
      rw [hS] at c4
      have HS := Lib.hid hS
      have HB := Lib.hid hb
      have hon : (wr.alloc (.cells #[.int .i64 l[k].k, .int .i64 l[k].i, .int .i64 l[k].j, .int .i64 l[k].n, .slice a' l[k].kids.length cap'] 25)).ownsRow V0.heap.size 25 5 vv k (cells5 (ps.take k)) := owns_later HO.out (kept_new _ _)
      have HON := Lib.hid hon
      clear hS hq hb hon
      go_wp2_with (at_builtin; refine wpList_append_lies _ rfl (.tmp 13) (.tmp 18) 23 rfl V0.heap.size 25 i0 _ 5 56 (by kernel_rfl) HI.out.1 HI.out.2.1 HI.out.2.2.1 HI.out.2.2.2 rfl (by decide) _ k (cells5 (ps.take k)) rfl HON.out ⟨wr.heap.size, 0, none⟩ 1 1 (cells5 [(l[k], .slice a' l[k].kids.length cap')]) rfl rfl ?news ?one (by decide) ?max ?bytes ?base _ rfl ?next)
      case news => exact news_new _ _ _ _
      case one => intro u hu; simp [cells5] at hu; rcases hu with rfl | rfl | rfl | rfl | rfl <;> rfl
      case max => have := HLEN.out; unfold maxLen; omega
      case bytes => have := HLEN.out; omega
      case base => have := Below.size HB.out; simp; omega
      case next =>
      intro g cap3 w3 hown hgrow hat hlt3
      have hkE : Kept V0 w3 := Below.grown (kept_alloc HB.out _) hgrow (by have := Below.size HB.out; simp; omega) (owns_above HO.out)
      have hO3 : w3.ownsRow V0.heap.size 25 5 (.slice (some ⟨g, 0, none⟩) (k + 1) cap3) (k + 1) (cells5 (ps.take (k + 1))) := by
        have e : ps.take (k + 1) = ps.take k ++ [(l[k], .slice a' l[k].kids.length cap')] := by
          rw [List.take_succ_eq_append_getElem (by rw [HPL.out]; exact hlt), HPG.out k hlt (by rw [HPL.out]; exact hlt), HS.out]
        rw [e, cells5_append]; exact hown
      have HO3 := Lib.hid hO3
      clear hown hgrow hat hlt3 c0 c1 c2 c3 c4 hO3 hx
      go_wp2_with fail
      go_roundw
      case rel => exact ⟨k + 1, _, rfl, hlt, by go_num, HO3.out, hkE⟩
      case measure => simp [intOf]; omega
    · obtain rfl : k = l.length := by omega
      have hl2 : LiesQ wr (fun b => (P b ∧ b < w.heap.size) ∨ V0.heap.size ≤ b) (ps.map (·.1)) vv := by
        have ho := HO.out
        rw [List.take_of_length_le (by rw [HPL.out]; exact Nat.le_refl _), ← HPL.out] at ho
        refine owns_lies ho (fun g hg _ => Or.inr hg) (fun p hp => ?_)
        obtain ⟨j, hj, rfl⟩ := List.getElem_of_mem hp
        have hj' : j < l.length := by rw [← HPL.out]; exact hj
        rw [HPG.out j hj' hj]
        exact ⟨HF.out _ (List.getElem_mem hj'), (HK.out j hj').keep (fun b _ hlt => Below.block (kept_trans HK0.out hb) b hlt) (fun b hp hlt => Or.inl ⟨hp, hlt⟩)⟩
      rw [HPS.out] at hl2
      obtain ⟨a2, cap2, S2, rfl, -⟩ := hl2.out
      have HL2 := Lib.hid hl2
      have HB := Lib.hid hb
      clear hl2 hb HO
      go_wp2_with (refine stop_store 25 (.tmp 4) (.tmp 22) rfl ?_)
      intro _
      refine wpList_store_part_n (by rfl) 25 (.tmp 4) (.tmp 22) rfl (w.heap.size) 0 #[.int .i64 kd, .int .i64 0, .int .i64 0, .int .i64 0, .slice a2 l.length cap2] (by rfl) (by rfl) 25 size_term (row_ok rfl) ?_
      intro W hW
      subst hW
      refine ⟨_, #[.int .i64 kd, .int .i64 0, .int .i64 0, .int .i64 0, .slice a2 l.length cap2], blk_at HX0.out HB.out, rfl, Nat.le_of_ble_eq_true rfl, ?_⟩
      intro W2 hW2
      go_wp2_with fail
      refine bodyPost_ret (results_cell_row rfl _ _ (w.heap.size) 25 _ _ du rfl (blk_same (blk_at HX0.out HB.out) hW2) hu1 (by cases du <;> first | rfl | exact hu2) size_term) rfl ?_
      refine ⟨_, rfl, ?_, kept_set (kept_trans HK0.out HB.out) hW2 (Nat.le_refl _)⟩
      have hz := HZ0.out
      subst hW2
      exact HL2.out.keep (fun b hb _ => setRow_other _ _ _ _ (by rcases hb with ⟨-, hb⟩ | hb <;> omega)) (fun b hb _ => by rcases hb with ⟨hb, -⟩ | hb; exact Or.inl hb; exact Or.inr (by omega))

end Go.Proofs.YtgododpkbiaacaaGreat
