/-
  Facts and contracts that the proof of RuleLevels uses.
-/
import Derived.Test.YtjlppnmckobcfaaRows
import Derived.WalkKit
import Derived.Lib.Hide
import Derived.KernelRfl
import Derived.Deep.RegionWith
import Derived.Deep.RegionHeld3
import Derived.Deep.AppendLies
import Derived.Laws.Rows
import Derived.Laws.IdiomCopy
import Derived.Deep.Slices
import Derived.Deep.QuietTactic
import Derived.BigQuiet
import Derived.Lib.QuietBelow
import Derived.StillTailTactics
import Derived.IntWalk
import Derived.OwnWalk
import Derived.OrdersHeld
import Derived.Deep.DeepCutAuto
import Derived.Deep.RegionLaw
import Derived.Deep.LoopGhost
import Derived.Deep.MidRow
import Derived.Laws.Tables
import Derived.Laws.CopyOwn
import Derived.Laws.CopyRow
import Derived.Deep.RegionHeld
import Derived.ProofKit
import Derived.OpenShut
import Derived.Carry
import Derived.ChangeSlices
import Derived.JoinedOf
import Derived.Test.YtjlppnmckobcfaaRuleLevelsQ1
namespace Go.Proofs.Ytjlppnmckobcfaa
open Go.RowKit

/-- A term is handed back: its lists lie in blocks of P or in new ones. -/
def GivesP (P : Nat → Prop) (u : Tm) (w : World) (e : Ending) (w' : World) : Prop := ∃ s' : Value, e = .returned (tv u s') ∧ LiesQ w' (fun b => P b ∨ w.heap.size ≤ b) u.kids s' ∧ Kept w w'
theorem Makes.givesP {P : Nat → Prop} {u : Tm} {w w' : World} {e : Ending} (h : Makes u w e w') : GivesP P u w e w' := by
  obtain ⟨s', h1, h2, h3⟩ := h
  exact ⟨s', h1, h2.q.wide (fun _ hb => Or.inr hb.1), h3⟩
/-- A list is handed back. -/
def GivesLP (P : Nat → Prop) (l : List Tm) (w : World) (e : Ending) (w' : World) : Prop := ∃ s' : Value, e = .returned s' ∧ LiesQ w' (fun b => P b ∨ w.heap.size ≤ b) l s' ∧ Kept w w'
theorem MakesAll.givesP {P : Nat → Prop} {l : List Tm} {w w' : World} {e : Ending} (h : MakesAll l w e w') : GivesLP P l w e w' := by
  obtain ⟨s', h1, h2, h3⟩ := h
  exact ⟨s', h1, h2.q.wide (fun _ hb => Or.inr hb.1), h3⟩
/-- Blocks of P that were there at w, and those from n on but for X (the body's own variables). -/
def Par (w : World) (n : Nat) (X : List Nat) (P : Nat → Prop) (b : Nat) : Prop := (P b ∧ b < w.heap.size) ∨ (n ≤ b ∧ b ∉ X)
def XLt (X : List Nat) (V : World) : Prop := ∀ x ∈ X, x < V.heap.size
theorem xlt_nil (V : World) : XLt [] V := fun _ h => by cases h
theorem xlt_later {X : List Nat} {V W : World} (h : XLt X V) (hk : Kept V W) : XLt X W := fun x hx => Nat.lt_of_lt_of_le (h x hx) (Below.size hk)
theorem xlt_more {X : List Nat} {V W : World} (h : XLt X V) (hk : Kept V W) (hs : V.heap.size < W.heap.size) : XLt (V.heap.size :: X) W := fun x hx => by
  rcases List.mem_cons.1 hx with rfl | hx
  · exact hs
  · exact Nat.lt_of_lt_of_le (h x hx) (Below.size hk)
theorem xlt_set {X : List Nat} {V W : World} {g : Nat} {cs : Array Value} (h : XLt X V) (hw : V.setRow g cs = W) : XLt X W := fun x hx => by rw [← hw, setRow_size]; exact h x hx
theorem par_in {w : World} {P : Nat → Prop} {l : List Tm} {s : Value} (n : Nat) (X : List Nat) (h : LiesQ w P l s) : LiesQ w (Par w n X P) l s := h.keep (fun _ _ _ => rfl) (fun _ hp hlt => Or.inl ⟨hp, hlt⟩)
theorem par_give {w V w' : World} {n : Nat} {X : List Nat} {P : Nat → Prop} {l : List Tm} {s : Value} (h : LiesQ w' (fun b => Par w n X P b ∨ V.heap.size ≤ b) l s) (hn : n ≤ V.heap.size) (hX : XLt X V) : LiesQ w' (Par w n X P) l s :=
  h.wide (fun b hb => hb.elim id (fun h => Or.inr ⟨Nat.le_trans hn h, fun hx => by have := hX b hx; omega⟩))
/-- Such a variable is stored. -/
theorem par_set {w V W : World} {n g : Nat} {X : List Nat} {P : Nat → Prop} {l : List Tm} {s : Value} {cs : Array Value} (h : LiesQ V (Par w n X P) l s) (hw : V.setRow g cs = W) (hg : g ∈ X) (hn : w.heap.size ≤ g) : LiesQ W (Par w n X P) l s := by
  subst hw
  exact h.keep (fun b hb _ => setRow_other _ _ _ _ (by rintro rfl; rcases hb with ⟨-, hb⟩ | hb; omega; exact hb.2 hg)) (fun _ hb _ => hb)
/-- A block of the body's beginning is stored. -/
theorem par_row' {w V W : World} {n g : Nat} {X : List Nat} {P : Nat → Prop} {l : List Tm} {s : Value} {cs : Array Value} (h : LiesQ V (Par w n X P) l s) (hw : V.setRow g cs = W) (hg : w.heap.size ≤ g) (hg2 : g < n) : LiesQ W (Par w n X P) l s := by
  subst hw
  exact h.keep (fun b hb _ => setRow_other _ _ _ _ (by rcases hb with ⟨-, hb⟩ | hb <;> omega)) (fun _ hb _ => hb)
theorem par_end {w V : World} {n : Nat} {X : List Nat} {P : Nat → Prop} {l : List Tm} {s : Value} (h : LiesQ V (Par w n X P) l s) (hn : w.heap.size ≤ n) : LiesQ V (fun b => P b ∨ w.heap.size ≤ b) l s :=
  h.wide (fun _ hb => hb.elim (fun h => Or.inl h.1) (fun h => Or.inr (Nat.le_trans hn h.1)))
theorem kept_set {b V W : World} {g : Nat} {cs : Array Value} (h : Kept b V) (hw : V.setRow g cs = W) (hg : b.heap.size ≤ g) : Kept b W := by subst hw; exact below_setRow h hg _
theorem sees_set {V W W' : World} {g : Nat} {cs : Array Value} (h : Kept V W) (hw : W.setRow g cs = W') : Sees V g W' := by
  subst hw
  exact fun k hk hne => (setRow_other _ _ _ _ hne).trans (Below.block h k hk)
theorem blk_same {V W : World} {g : Nat} {old cs : Array Value} {T : TypeId} {fr : Nat × Nat} (h : V.heap[g]? = some (.cells old T fr)) (hw : V.setRow g cs = W) : W.heap[g]? = some (.cells cs T fr) := by subst hw; exact setRow_heap _ _ _ _ _ _ h
theorem blk_other {V W : World} {g k : Nat} {cs : Array Value} {o : Obj} (h : V.heap[k]? = some o) (hw : V.setRow g cs = W) (hne : k ≠ g) : W.heap[k]? = some o := by subst hw; rw [setRow_other _ _ _ _ hne]; exact h
theorem mk_fine {k i j n : Int} {l : List Tm} (hk : I64 k) (hi : I64 i) (hj : I64 j) (hn : I64 n) : (Tm.mk k i j n l).fine := ⟨hk, hi, hj, hn⟩
theorem at_world {P : Program} {f : FuncId} {args : Array Value} {V : World} {K : Ending → World → Prop} (h : ∀ W, V = W → Calls P f args W K) : Calls P f args V K := h V rfl
theorem at_code {P : Program} {c : Code} {Q : Exit → Act → World → Prop} {a : Act} {V : World} (h : ∀ W, V = W → c.wp P Q a W) : c.wp P Q a V := h V rfl
theorem stop_store {P : Program} {ops : Array Oper} {rest : List Oper} {o : Oper} {a : Act} {w : World} {Q : Exit → Act → World → Prop} (ty : TypeId) (x y : Operand) (_ : o.op = .store ty x y) (h : True → wpList P ops Q (o :: rest) a w) : wpList P ops Q (o :: rest) a w := h trivial
theorem stop_load {P : Program} {ops : Array Oper} {rest : List Oper} {o : Oper} {a : Act} {w : World} {Q : Exit → Act → World → Prop} (ty : TypeId) (x : Operand) (_ : o.op = .load ty x) (h : True → wpList P ops Q (o :: rest) a w) : wpList P ops Q (o :: rest) a w := h trivial
theorem run_loadAt_part {P : Program} {w : World} {g : Nat} {C : Array Value} {T : TypeId} {fr : Nat × Nat} (hb : w.heap[g]? = some (.cells C T fr)) (o : Nat) (ty : TypeId) (vs : Array Value) (d : TypeDesc) (hv : (C.toList.drop o).take vs.size = vs.toList)
    (hu : P.underlying ty = some d) (hd : (match d with | .struct _ | .array _ _ => true | _ => false) = true) (hi : (P.info? ty).map (·.size) = some vs.size) :
    (Instr.loadAt ty (.pointer (some ⟨g, o, none⟩))).run P w = .ok (.agg vs) w := by
  have hr := World.rangeAt_of_block hb o vs.size
  rw [extract_list hv] at hr
  have := run_loadAt_mid (P := P) w g o ty vs.toList d hr hu (by cases d <;> first | rfl | exact hd) (by simpa using hi)
  simpa using this
theorem wpList_load_part {P : Program} {ops : Array Oper} {rest : List Oper} {op : Oper} {a : Act} {w : World} {Q : Exit → Act → World → Prop} (g o : Nat) (ty : TypeId) (x : Operand) (vs : Array Value) (d : TypeDesc) {C : Array Value} {T : TypeId} {fr : Nat × Nat}
    (hg : w.heap[g]? = some (.cells C T fr)) (hw : Region.wanted op (yielded ops a.tmps) = true) (ho : op.op = .load ty x) (hx : a.eval x = .pointer (some ⟨g, o, none⟩)) (hv : (C.toList.drop o).take vs.size = vs.toList)
    (hu : P.underlying ty = some d) (hd : (match d with | .struct _ | .array _ _ => true | _ => false) = true) (hi : (P.info? ty).map (·.size) = some vs.size)
    (h : wpList P ops Q rest (a.put op.dst (.agg vs)) w) : wpList P ops Q (op :: rest) a w := by
  unfold wpList
  rw [if_pos hw]
  refine .inl ?_
  unfold Oper.wp execOp
  simp only [ho, hx, run_loadAt_part hg o ty vs d hv hu hd hi, Result.andThen_ok, Sem.run_bind, Sem.run_pure]
  exact h
theorem yields_part {P : Program} {ops : Array Oper} {S : World → Prop} {op : Oper} {a : Act} (g o : Nat) (ty : TypeId) (x : Operand) (vs : Array Value) (d : TypeDesc) {C : Array Value} {T : TypeId} {fr : Nat × Nat}
    (hS : ∀ w, S w → w.heap[g]? = some (.cells C T fr)) (hw : Region.wanted op (yielded ops a.tmps) = true) (ho : op.op = .load ty x) (hx : a.eval x = .pointer (some ⟨g, o, none⟩)) (hv : (C.toList.drop o).take vs.size = vs.toList)
    (hu : P.underlying ty = some d) (hd : (match d with | .struct _ | .array _ _ => true | _ => false) = true) (hi : (P.info? ty).map (·.size) = some vs.size) : YieldsIf P ops S op (.agg vs) a := by
  refine .inl ⟨hw, fun w h => ?_⟩
  unfold execOp
  simp only [ho, hx, run_loadAt_part (hS w h) o ty vs d hv hu hd hi, Result.andThen_ok, Sem.run_bind, Sem.run_pure]
theorem sees_blk {V w' : World} {r g : Nat} {o : Obj} (h : V.heap[g]? = some o) (hne : g ≠ r) (hs : Sees V r w') : w'.heap[g]? = some o := (hs g (block_lt h) hne).trans h
theorem row_ok {cells : Array Value} (h : cells.toList.all (·.oneCell') = true) : cells.all (·.oneCell') = true := by rw [← Array.all_toList]; exact h
theorem setCells_row (g : Nat) (t : TypeId) (fr : Nat × Nat) : ∀ (vs : List Value) (o : Nat) (cur : Array Value) (w : World), w.heap[g]? = some (.cells cur t fr) → o + vs.length ≤ cur.size →
    w.setCells g o vs = w.setRow g (cur.toList.take o ++ vs ++ cur.toList.drop (o + vs.length)).toArray
  | [], o, cur, w, hg, _ => by
    have e : (cur.toList.take o ++ ([] : List Value) ++ cur.toList.drop (o + ([] : List Value).length)).toArray = cur := by simp
    rw [e, setRow_self w g cur t fr hg]; rfl
  | v :: r, o, cur, w, hg, hl => by
    have hl' : o + 1 + r.length ≤ (cur.setIfInBounds o v).size := by simp at hl ⊢; omega
    rw [World.setCells, setCell_eq_setRow w g o cur t fr v hg, setCells_row g t fr r (o + 1) (cur.setIfInBounds o v) _ (setRow_heap w g cur _ t _ hg) hl', setRow_setRow]
    congr 2
    simp only [List.length_cons] at hl ⊢
    have ho : o < cur.toList.length := by simp; omega
    rw [Array.toList_setIfInBounds]
    rw [List.take_succ_eq_append_getElem (by simpa using ho), List.take_set_of_le (Nat.le_refl _), List.getElem_set_self, List.drop_set_of_lt (by omega)]
    simp [Nat.add_assoc, Nat.add_comm 1]
theorem run_storeVar_part {P : Program} (w : World) (g o : Nat) (t ty : TypeId) (old cells new : Array Value) (hg : w.heap[g]? = some (.cells old t (0, 0))) (hi : (P.info? ty).map (·.size) = some cells.size)
    (hn : old.toList.take o ++ cells.toList ++ old.toList.drop (o + cells.size) = new.toList) (hl : o + cells.size ≤ old.size) (h1 : cells.all (·.oneCell') = true) :
    (storeVar ty ⟨g, o, none⟩ (.agg cells)).run P w = .ok () (w.setRow g new) := by
  have ht : w.there g o cells.size := fun j hj => by
    rw [cell_of_row w g (o + j) old t _ hg]
    exact ⟨by rw [Array.getElem?_eq_getElem (by omega)]; rfl, by simp [World.frozen?, hg]⟩
  rw [run_storeVar_mid w g o ty cells ht hi h1, setCells_row g t (0, 0) cells.toList o old w hg (by simpa using hl)]
  simp only [Array.length_toList]
  rw [hn]
theorem wp_store_part {P : Program} {o : Oper} {a : Act} {w : World} {K : Act → World → Prop} {Q : Exit → Act → World → Prop} (ty : TypeId) (x y : Operand) (ho : o.op = .store ty x y)
    (g off : Nat) (cells : Array Value) (hx : a.eval x = .pointer (some ⟨g, off, none⟩)) (hy : a.eval y = .agg cells) (t : TypeId) (hi : (P.info? ty).map (·.size) = some cells.size) (h1 : cells.all (·.oneCell') = true)
    (old new : Array Value) (hg : w.heap[g]? = some (.cells old t (0, 0))) (hn : old.toList.take off ++ cells.toList ++ old.toList.drop (off + cells.size) = new.toList) (hl : off + cells.size ≤ old.size)
    (h : K (a.put o.dst undef) (w.setRow g new)) : o.wp P a w K Q := by
  unfold Oper.wp execOp
  simp only [ho, hx, hy, Instr.storeAt, Instr.sureAddr, Sem.run_bind, Sem.run_pure, Result.andThen_ok, run_storeVar_part w g off t ty old cells new hg hi hn hl h1]
  exact h
theorem step_store_part {P : Program} {ops : Array Oper} {o : Oper} {a : Act} {w : World} {K : Act → World → Prop} {Q : Exit → Act → World → Prop} {E : Prop} (hgd : o.guard = none) (ty : TypeId) (x y : Operand) (ho : o.op = .store ty x y)
    (g off : Nat) (cells : Array Value) (hx : a.eval x = .pointer (some ⟨g, off, none⟩)) (hy : a.eval y = .agg cells) (t : TypeId) (hi : (P.info? ty).map (·.size) = some cells.size) (h1 : cells.all (·.oneCell') = true)
    (old new : Array Value) (hg : w.heap[g]? = some (.cells old t (0, 0))) (hn : old.toList.take off ++ cells.toList ++ old.toList.drop (off + cells.size) = new.toList) (hl : off + cells.size ≤ old.size)
    (h : ∀ W, w.setRow g new = W → K (a.put o.dst undef) W) : if Region.wanted o (yielded ops a.tmps) = true then Oper.wp P o a w K Q else E := by
  have hw : Region.wanted o (yielded ops a.tmps) = true := by simp [Region.wanted, hgd]
  rw [if_pos hw]
  exact wp_store_part ty x y ho g off cells hx hy t hi h1 old new hg hn hl (h _ rfl)
theorem wpList_store_part_n {P : Program} {ops : Array Oper} {rest : List Oper} {o : Oper} {a : Act} {w : World} {Q : Exit → Act → World → Prop} (hgd : o.guard = none) (ty : TypeId) (x y : Operand) (ho : o.op = .store ty x y)
    (g off : Nat) (cells : Array Value) (hx : a.eval x = .pointer (some ⟨g, off, none⟩)) (hy : a.eval y = .agg cells) (t : TypeId) (hi : (P.info? ty).map (·.size) = some cells.size) (h1 : cells.all (·.oneCell') = true)
    (h : ∀ W, w = W → ∃ old new : Array Value, W.heap[g]? = some (.cells old t (0, 0)) ∧ old.toList.take off ++ cells.toList ++ old.toList.drop (off + cells.size) = new.toList ∧ off + cells.size ≤ old.size ∧ ∀ W', W.setRow g new = W' → wpList P ops Q rest (a.put o.dst undef) W') : wpList P ops Q (o :: rest) a w := by
  obtain ⟨old, new, hg, hn, hl, h2⟩ := h w rfl
  exact wpList_plain hgd fun _ hK => wp_store_part ty x y ho g off cells hx hy t hi h1 old new hg hn hl (hK _ _ (h2 _ rfl))
theorem blk_at {V W : World} {g : Nat} {o : Obj} (h : V.heap[g]? = some o) (hk : Kept V W) : W.heap[g]? = some o := (Below.block hk g (block_lt h)).trans h
theorem alloc1 {w V : World} {o0 : Obj} (h : w.alloc o0 = V) : Kept w V ∧ V.heap[w.heap.size]? = some o0 ∧ V.heap.size = w.heap.size + 1 := by
  subst h
  exact ⟨kept_new _ _, alloc_new _ _, by simp⟩
theorem alloc2 {w V : World} {o0 o1 : Obj} (h : (w.alloc o0).alloc o1 = V) : Kept w V ∧ V.heap[w.heap.size]? = some o0 ∧ V.heap[w.heap.size + 1]? = some o1 ∧ V.heap.size = w.heap.size + 2 := by
  obtain ⟨W, hW⟩ : ∃ W, w.alloc o0 = W := ⟨_, rfl⟩
  rw [hW] at h
  obtain ⟨hk, h0, hs⟩ := alloc1 hW
  obtain ⟨gk, g0, gs⟩ := alloc1 h
  exact ⟨kept_trans hk gk, blk_at h0 gk, by rw [← hs]; exact g0, by omega⟩
theorem alloc3 {w V : World} {o0 o1 o2 : Obj} (h : ((w.alloc o0).alloc o1).alloc o2 = V) : Kept w V ∧ V.heap[w.heap.size]? = some o0 ∧ V.heap[w.heap.size + 1]? = some o1 ∧ V.heap[w.heap.size + 2]? = some o2 ∧ V.heap.size = w.heap.size + 3 := by
  obtain ⟨W, hW⟩ : ∃ W, (w.alloc o0).alloc o1 = W := ⟨_, rfl⟩
  rw [hW] at h
  obtain ⟨hk, h0, h1, hs⟩ := alloc2 hW
  obtain ⟨gk, g0, gs⟩ := alloc1 h
  exact ⟨kept_trans hk gk, blk_at h0 gk, blk_at h1 gk, by rw [← hs]; exact g0, by omega⟩
/-- The five lists of an equality across types. -/
def HQ (w : World) (P : Nat → Prop) (h : He) (sa sb sx sy sh : Value) : Prop := LiesQ w P h.a.kids sa ∧ LiesQ w P h.b.kids sb ∧ LiesQ w P h.x.kids sx ∧ LiesQ w P h.y.kids sy ∧ LiesQ w P h.h.kids sh
theorem HQ.lies {w : World} {P : Nat → Prop} {h : He} {sa sb sx sy sh : Value} (H : HQ w P h sa sb sx sy sh) : HLies w h sa sb sx sy sh := ⟨H.1.lies, H.2.1.lies, H.2.2.1.lies, H.2.2.2.1.lies, H.2.2.2.2.lies⟩
theorem HLies.q {w : World} {h : He} {sa sb sx sy sh : Value} (H : HLies w h sa sb sx sy sh) : HQ w (fun b => b < w.heap.size) h sa sb sx sy sh := ⟨H.1.q, H.2.1.q, H.2.2.1.q, H.2.2.2.1.q, H.2.2.2.2.q⟩
def FQ (w : World) (P : Nat → Prop) (g : Fm) (sa sc sb sd se sf : Value) : Prop := LiesQ w P g.a.kids sa ∧ LiesQ w P g.c.kids sc ∧ LiesQ w P g.b.kids sb ∧ LiesQ w P g.d.kids sd ∧ LiesQ w P g.e.kids se ∧ LiesQ w P g.f.kids sf
theorem FLies.q {w : World} {g : Fm} {sa sc sb sd se sf : Value} (H : FLies w g sa sc sb sd se sf) : FQ w (fun b => b < w.heap.size) g sa sc sb sd se sf := ⟨H.1.q, H.2.1.q, H.2.2.1.q, H.2.2.2.1.q, H.2.2.2.2.1.q, H.2.2.2.2.2.q⟩
theorem under_of (t : TypeId) (h : (Try.prog.underlying t).map (fun d => match d with | .struct _ | .array _ _ => true | _ => false) = some true) : ∃ d, Try.prog.underlying t = some d ∧ (match d with | .struct _ | .array _ _ => true | _ => false) = true := by
  cases e : Try.prog.underlying t with
  | none => rw [e] at h; cases h
  | some d => rw [e] at h; exact ⟨d, rfl, Option.some.inj h⟩
end Go.Proofs.Ytjlppnmckobcfaa

namespace Go.Proofs.Ytjlppnmckobcfaa
open Go.RowKit

def SeesN (V : World) (_ : Nat) (w' : World) : Prop := ∀ k, k < V.heap.size → w'.heap[k]? = V.heap[k]?
theorem seesN_kept {V W : World} (g : Nat) (h : Kept V W) : SeesN V g W := fun k hk => Below.block h k hk
theorem seesN_of {V W w' : World} {g : Nat} (h : Kept V W) (hs : SeesN W g w') : SeesN V g w' := fun k hk => (hs k (Nat.lt_of_lt_of_le hk (Below.size h))).trans (Below.block h k hk)
theorem partN_cell {V : World} {r g : Nat} {C : Array Value} {T : TypeId} {fr : Nat × Nat} (h : V.heap[g]? = some (.cells C T fr)) (_ : True) (o : Nat) (v : Value) (hv : C[o]? = some v) : ∀ w', SeesN V r w' → w'.cell? ⟨g, o, none⟩ = some v := fun w' hk => by
  have hb : w'.heap[g]? = some (.cells C T fr) := (hk g (block_lt h)).trans h
  rw [cell_of_row w' g o C T fr hb]; exact hv
theorem seesN_blk {V w' : World} {r g : Nat} {o : Obj} (h : V.heap[g]? = some o) (_ : True) (hs : SeesN V r w') : w'.heap[g]? = some o := (hs g (block_lt h)).trans h
theorem par_grow {w V W : World} {n : Nat} {X X' : List Nat} {P : Nat → Prop} {l : List Tm} {s : Value} (h : LiesQ V (Par w n X P) l s) (hk : Kept V W) (hx : ∀ x, x ∈ X' → x ∈ X ∨ V.heap.size ≤ x) : LiesQ W (Par w n X' P) l s :=
  h.keep (fun b _ hlt => Below.block hk b hlt) (fun b hb hlt => hb.imp id (fun hb => ⟨hb.1, fun hm => (hx b hm).elim hb.2 (fun h => absurd hlt (Nat.not_lt.2 h))⟩))
end Go.Proofs.Ytjlppnmckobcfaa

namespace Go.Proofs.Ytjlppnmckobcfaa
open Go

section
variable {P : Program} {ops : Array Oper} {Q : Exit → Act → World → Prop} {md : Region.Mode} {S : World → Prop} {k0 : Nat}

def wpAnyX (P : Program) (md : Region.Mode) (ops : Array Oper) (Q : Exit → Act → World → Prop) (S : World → Prop) (k0 : Nat) : Nat → Array Bool → Act → World → Prop
  | 0, listed, a, w => Region.ready md ops listed = [] ∧ Q .normal a w
  | fuel + 1, listed, a, w =>
    (Region.ready md ops listed = [] → Q .normal a w) ∧
    ∀ i ∈ Region.ready md ops listed, wpOp P ops Q i (fun a' w' => ((listed.setIfInBounds i true).getD k0 true = false → S w') ∧ wpAnyX P md ops Q S k0 fuel (listed.setIfInBounds i true) a' w') a w

theorem wpAny_of_X : ∀ (fuel : Nat) (listed : Array Bool) (a : Act) (w : World), wpAnyX P md ops Q S k0 fuel listed a w → wpAny P md ops Q fuel listed a w
  | 0, _, _, _, h => h
  | fuel + 1, _, _, _, h => ⟨h.1, fun i hi => wpOp_mono (fun a' w' h' => wpAny_of_X fuel _ a' w' h'.2) (h.2 i hi)⟩

theorem getD_set_ne' {l : Array Bool} {i k : Nat} (h : i ≠ k) : (l.setIfInBounds i true).getD k true = l.getD k true := getD_set_ne true h

theorem wpAnyX_first {i : Nat} {oi : Oper} {v : Value} (hi : ops[i]? = some oi) (hsel : ∀ (j : Nat) (o : Oper) cs b, ops[j]? = some o → o.op ≠ .select cs b)
    (hQ : ∀ c a w, Q (.panic c) (a.put oi.dst v) w → Q (.panic c) a w) (hki : i ≠ k0)
    (hwait : ∃ ok, ops[k0]? = some ok ∧ ∃ e ∈ ok.after, Region.binds md e = true ∧ e.on = i) :
    ∀ (fuel : Nat) (listed : Array Bool) (a : Act) (w : World),
      (∀ j oj, ops[j]? = some oj → j ≠ i → listed.getD j true = false → (∀ e ∈ oj.after, Region.binds md e = true → e.on ≠ i) → oi.apart ops oj = true) →
      i ∈ Region.ready md ops listed → listed.getD k0 true = false → YieldsIf P ops S oi v a → S w →
      wpAnyX P md ops Q S k0 fuel (listed.setIfInBounds i true) (a.put oi.dst v) w → wpAnyX P md ops Q S k0 (fuel + 1) listed a w := by
  intro fuel
  induction fuel with
  | zero =>
    intro listed a w _ hr _ hy hS H
    refine ⟨fun h => (by rw [h] at hr; cases hr), fun j hj => ?_⟩
    by_cases hji : j = i
    · subst hji; exact hy.wpOp hi hS ⟨fun _ => hS, H⟩
    · have := ready_mono hj hji
      rw [H.1] at this
      cases this
  | succ fuel ih =>
    intro listed a w hfree hr hun0 hy hS H
    refine ⟨fun h => (by rw [h] at hr; cases hr), fun j hj => ?_⟩
    by_cases hji : j = i
    · subst hji; exact hy.wpOp hi hS ⟨fun _ => hS, H⟩
    · have h1 := H.2 j (ready_mono hj hji)
      obtain ⟨hjun, oj, hoj, hall⟩ := mem_ready.1 hj
      have hnot : ∀ e ∈ oj.after, Region.binds md e = true → e.on ≠ i := fun e he hb heq => by
        have h1 := hall e he hb
        have h0 := (mem_ready.1 hr).1
        rw [heq] at h1
        rcases Nat.lt_or_ge i listed.size with h' | h'
        · simp [h'] at h0 h1; rw [h0] at h1; cases h1
        · simp [Array.getElem?_eq_none h'] at h1
      have hjk : j ≠ k0 := fun e => by
        obtain ⟨ok, hok, e', he', hb', hon⟩ := hwait
        rw [e, hok] at hoj
        exact hnot e' (by rw [← Option.some.inj hoj]; exact he') hb' hon
      have h2 := wpOp_putIf hoj (hfree j oj hoj hji hjun hnot) (fun cs b => hsel i oi cs b hi) (fun cs b => hsel j oj cs b hoj) hQ hy h1
      have hfree' : ∀ k ok, ops[k]? = some ok → k ≠ i → (listed.setIfInBounds j true).getD k true = false →
          (∀ e ∈ ok.after, Region.binds md e = true → e.on ≠ i) → oi.apart ops ok = true := fun k ok hk hki hun hno => by
        refine hfree k ok hk hki ?_ hno
        by_cases hjk : j = k
        · subst hjk; exact hjun
        · rw [getD_set_ne true hjk] at hun; exact hun
      have hun' : (listed.setIfInBounds j true).getD k0 true = false := by rw [getD_set_ne' hjk]; exact hun0
      have hun2 : ((listed.setIfInBounds i true).setIfInBounds j true).getD k0 true = false := by rw [getD_set_ne' hjk, getD_set_ne' hki]; exact hun0
      refine wpOp_mono (fun a' w' h3 => ⟨fun _ => h3.2.1 hun2, ih (listed.setIfInBounds j true) a' w' hfree' (ready_mono hr (Ne.symm hji)) hun' h3.1 (h3.2.1 hun2) ?_⟩) h2
      rw [Array.setIfInBounds_comm _ _ hji]
      exact h3.2.2

/-- What yields in whatever world may be taken at any time. -/
theorem wpAnyX_any {i : Nat} {oi : Oper} {v : Value} (hi : ops[i]? = some oi) (hsel : ∀ (j : Nat) (o : Oper) cs b, ops[j]? = some o → o.op ≠ .select cs b)
    (hQ : ∀ c a w, Q (.panic c) (a.put oi.dst v) w → Q (.panic c) a w) (hki : i ≠ k0) :
    ∀ (fuel : Nat) (listed : Array Bool) (a : Act) (w : World),
      (∀ j oj, ops[j]? = some oj → j ≠ i → listed.getD j true = false → (∀ e ∈ oj.after, Region.binds md e = true → e.on ≠ i) → oi.apart ops oj = true) →
      i ∈ Region.ready md ops listed → YieldsIf P ops (fun _ => True) oi v a → (listed.getD k0 true = false → S w) →
      wpAnyX P md ops Q S k0 fuel (listed.setIfInBounds i true) (a.put oi.dst v) w → wpAnyX P md ops Q S k0 (fuel + 1) listed a w := by
  intro fuel
  induction fuel with
  | zero =>
    intro listed a w _ hr hy hS H
    refine ⟨fun h => (by rw [h] at hr; cases hr), fun j hj => ?_⟩
    by_cases hji : j = i
    · subst hji; exact hy.wpOp hi trivial ⟨fun h => hS (by rw [getD_set_ne' hki] at h; exact h), H⟩
    · have := ready_mono hj hji
      rw [H.1] at this
      cases this
  | succ fuel ih =>
    intro listed a w hfree hr hy hS H
    refine ⟨fun h => (by rw [h] at hr; cases hr), fun j hj => ?_⟩
    by_cases hji : j = i
    · subst hji; exact hy.wpOp hi trivial ⟨fun h => hS (by rw [getD_set_ne' hki] at h; exact h), H⟩
    · have h1 := H.2 j (ready_mono hj hji)
      obtain ⟨hjun, oj, hoj, hall⟩ := mem_ready.1 hj
      have hnot : ∀ e ∈ oj.after, Region.binds md e = true → e.on ≠ i := fun e he hb heq => by
        have h1 := hall e he hb
        have h0 := (mem_ready.1 hr).1
        rw [heq] at h1
        rcases Nat.lt_or_ge i listed.size with h' | h'
        · simp [h'] at h0 h1; rw [h0] at h1; cases h1
        · simp [Array.getElem?_eq_none h'] at h1
      have h2 := wpOp_putIf hoj (hfree j oj hoj hji hjun hnot) (fun cs b => hsel i oi cs b hi) (fun cs b => hsel j oj cs b hoj) hQ hy h1
      have hfree' : ∀ k ok, ops[k]? = some ok → k ≠ i → (listed.setIfInBounds j true).getD k true = false →
          (∀ e ∈ ok.after, Region.binds md e = true → e.on ≠ i) → oi.apart ops ok = true := fun k ok hk hki hun hno => by
        refine hfree k ok hk hki ?_ hno
        by_cases hjk : j = k
        · subst hjk; exact hjun
        · rw [getD_set_ne true hjk] at hun; exact hun
      have hcomm : (listed.setIfInBounds i true).setIfInBounds j true = (listed.setIfInBounds j true).setIfInBounds i true := Array.setIfInBounds_comm _ _ (Ne.symm hji)
      have hget : ((listed.setIfInBounds i true).setIfInBounds j true).getD k0 true = (listed.setIfInBounds j true).getD k0 true := by rw [hcomm, getD_set_ne' hki]
      refine wpOp_mono (fun a' w' h3 => ⟨fun h => h3.2.1 (by rw [hget]; exact h), ih (listed.setIfInBounds j true) a' w' hfree' (ready_mono hr (Ne.symm hji)) h3.1 (fun h => h3.2.1 (by rw [hget]; exact h)) ?_⟩) h2
      rw [Array.setIfInBounds_comm _ _ hji]
      exact h3.2.2

theorem takeX_at (i d : Nat) (oi : Oper) {v : Value} {fuel : Nat} {listed : Array Bool} {a : Act} {w : World} (hy : YieldsIf P ops S oi v a)
    (h : wpAnyX P md ops Q S k0 fuel (listed.setIfInBounds i true) (a.put (some d) v) w)
    (hi : ops[i]? = some oi := by rfl) (hd : oi.dst = some d := by rfl)
    (hs : Region.noSelect ops = true := by kernel_rfl) (hf : Region.free md ops listed i = true := by kernel_rfl) (hr : (Region.ready md ops listed).contains i = true := by kernel_rfl)
    (hw : (ops[k0]?.map fun o => o.after.any fun e => Region.binds md e && e.on == i) = some true := by kernel_rfl) (hne : (i != k0) = true := by kernel_rfl) (hun : listed.getD k0 true = false := by kernel_rfl)
    (hQ : ∀ c a w, Q (.panic c) (a.put (some d) v) w → Q (.panic c) a w := by exact fun _ _ _ h => h) (hS : S w := by assumption) : wpAnyX P md ops Q S k0 (fuel + 1) listed a w := by
  rw [← hd] at hQ h
  refine wpAnyX_first hi (Region.noSelect_spec hs) hQ (by simpa using hne) ?_ fuel listed a w (Region.free_spec hi hf) (by simpa using hr) hun hy hS h
  obtain ⟨ok, hok, h2⟩ := Option.map_eq_some_iff.1 hw
  obtain ⟨e, he, h3⟩ := Array.any_eq_true'.1 h2
  simp only [Bool.and_eq_true, beq_iff_eq] at h3
  exact ⟨ok, hok, e, he, h3.1, h3.2⟩
theorem takeX_any (i d : Nat) (oi : Oper) {v : Value} {fuel : Nat} {listed : Array Bool} {a : Act} {w : World} (hy : YieldsIf P ops (fun _ => True) oi v a)
    (h : wpAnyX P md ops Q S k0 fuel (listed.setIfInBounds i true) (a.put (some d) v) w) (hS : listed.getD k0 true = false → S w)
    (hi : ops[i]? = some oi := by rfl) (hd : oi.dst = some d := by rfl)
    (hs : Region.noSelect ops = true := by kernel_rfl) (hf : Region.free md ops listed i = true := by kernel_rfl) (hr : (Region.ready md ops listed).contains i = true := by kernel_rfl) (hne : (i != k0) = true := by kernel_rfl)
    (hQ : ∀ c a w, Q (.panic c) (a.put (some d) v) w → Q (.panic c) a w := by exact fun _ _ _ h => h) : wpAnyX P md ops Q S k0 (fuel + 1) listed a w := by
  rw [← hd] at hQ h
  exact wpAnyX_any hi (Region.noSelect_spec hs) hQ (by simpa using hne) fuel listed a w (Region.free_spec hi hf) (by simpa using hr) hy hS h

def AllReadyX (P : Program) (md : Region.Mode) (ops : Array Oper) (Q : Exit → Act → World → Prop) (S : World → Prop) (k0 : Nat) (fuel : Nat) (listed : Array Bool) (a : Act) (w : World) (rs : List Nat) : Prop :=
  ∀ i ∈ rs, wpOp P ops Q i (fun a' w' => ((listed.setIfInBounds i true).getD k0 true = false → S w') ∧ wpAnyX P md ops Q S k0 fuel (listed.setIfInBounds i true) a' w') a w
theorem AllReadyX.nil {fuel : Nat} {listed : Array Bool} {a : Act} {w : World} : AllReadyX P md ops Q S k0 fuel listed a w [] := fun _ h => by cases h
theorem AllReadyX.cons {fuel : Nat} {listed : Array Bool} {a : Act} {w : World} {i : Nat} {o : Oper} {rs : List Nat} (ho : ops[i]? = some o)
    (h : ∀ K' : Act → World → Prop, Shut (∀ a w, ((listed.setIfInBounds i true).getD k0 true = false → S w) → (((listed.setIfInBounds i true).getD k0 true = false → S w) → wpAnyX P md ops Q S k0 fuel (listed.setIfInBounds i true) a w) → K' a w) → if Region.wanted o (yielded ops a.tmps) = true then Oper.wp P o a w K' Q else K' (a.put o.dst undef) w)
    (hs : AllReadyX P md ops Q S k0 fuel listed a w rs) : AllReadyX P md ops Q S k0 fuel listed a w (i :: rs) := fun j hj => by
  rcases List.mem_cons.1 hj with rfl | hj
  · exact wpOp_step ho (fun K' hK => h K' (fun a w hS hW => hK a w ⟨hS, hW hS⟩))
  · exact hs j hj
theorem wpAnyX_ready {rs : List Nat} {fuel : Nat} {listed : Array Bool} {a : Act} {w : World} (hr : Region.ready md ops listed = rs) (hne : rs ≠ [])
    (h : AllReadyX P md ops Q S k0 fuel listed a w rs) : wpAnyX P md ops Q S k0 (fuel + 1) listed a w := ⟨fun h0 => absurd (hr ▸ h0) hne, hr ▸ h⟩
theorem wpAnyX_done {listed : Array Bool} {a : Act} {w : World} (hr : Region.ready md ops listed = []) (h : Q .normal a w) :
    ∀ fuel, wpAnyX P md ops Q S k0 fuel listed a w
  | 0 => ⟨hr, h⟩
  | _ + 1 => ⟨fun _ => h, by rw [hr]; simp⟩
theorem wp_region_X {id : Nat} {a : Act} {w : World} (k0 : Nat) (hm : P.follows .mixedOrders = true) (hS : S w.drew)
    (h : S w.drew → wpAnyX P .any ops Q S k0 ops.size (Array.replicate ops.size false) a w.drew) : (Code.region id ops true).wp P Q a w :=
  wp_region_any hm (wpAny_of_X _ _ _ _ (h hS))
end
end Go.Proofs.Ytjlppnmckobcfaa

namespace Go.Proofs.Ytjlppnmckobcfaa
open Go.RowKit

/-- A judgment is handed back. -/
def GivesJP (P : Nat → Prop) (j : Jd) (w : World) (e : Ending) (w' : World) : Prop := ∃ su sv sa : Value, e = .returned (jv j su sv sa) ∧ (LiesQ w' (fun b => P b ∨ w.heap.size ≤ b) j.u.kids su ∧ LiesQ w' (fun b => P b ∨ w.heap.size ≤ b) j.v.kids sv ∧ LiesQ w' (fun b => P b ∨ w.heap.size ≤ b) j.a.kids sa) ∧ Kept w w'
def jfitB (t : Tm) (n : Int) : Bool := t.pureB && decide (t.freeB ≤ n)
def rightJ (j : Jd) (n : Int) : Bool := (decide (0 ≤ j.i) && decide (j.i ≤ 1000)) && ((jfitB j.u n && jfitB j.a n) && (if j.eq = true then jfitB j.v n else sameB j.v .zero))

set_option maxRecDepth 20000 in
set_option maxHeartbeats 4000000 in
theorem jfit_any (n : Int) (x : Tm) (P : Nat → Prop) (w : World) (sx : Value) (hfx : x.fine) (hlx : LiesQ w P x.kids sx) (hrn : I64 n) : Calls Try.prog 44 #[tv x sx, .int .i64 n] w fun e w' => e = .returned (.bool (jfitB x n)) ∧ Kept w w' := by
  have Gx := Lib.hid hfx
  clear hfx
  obtain ⟨ax, cx, Sx, rfl, -⟩ := hlx.out
  have Rn := Lib.hid hrn
  clear hrn
  obtain ⟨du, hu1, hu2⟩ := under_term
  unfold tv
  go_enter Try.func44, Try.ntmps44
  go_upto_region 1 with fail
  refine at_code (fun V0 hV0 => ?_)
  obtain ⟨k2, x1, z3⟩ := alloc1 hV0
  have Kk4 := Lib.hid k2
  clear k2
  have Hx1 := Lib.hid x1
  have Z0 := Lib.hid z3
  clear z3 x1 hV0
  have HLx : Hid (LiesQ V0 (Par w V0.heap.size [] P) x.kids _) := (par_in _ _ hlx).later Kk4.out
  clear hlx
  have kvV0 : SeesN V0 V0.heap.size V0 := seesN_kept _ (kept_refl _)
  go_wp2_with (refine stop_load 32 (.tmp 2) rfl ?_)
  intro _
  refine wpList_load_part (w.heap.size) 0 32 (.tmp 2) #[.int .i64 x.k, .int .i64 x.i, .int .i64 x.j, .int .i64 x.n, (.slice ax x.kids.length cx)] du Hx1.out (by rfl) rfl (by rfl) (by rfl) hu1 (by cases du <;> first | rfl | exact hu2) size_term ?_
  go_wp2_with fail
  clear kvV0
  refine (pure_any x _ (.slice ax x.kids.length cx) HLx.out.lies).mono ?_
  obtain ⟨rb8, hb7⟩ : ∃ qb, (x.pureB) = qb := ⟨_, rfl⟩
  rw [hb7]
  have Hhb7 := Lib.hid hb7
  clear hb7
  rintro e w5 ⟨rfl, k6⟩
  have Kk9 := Lib.hid k6
  clear k6
  cases rb8 with
  | false =>
    have kvV0 : SeesN V0 V0.heap.size w5 := seesN_kept _ Kk9.out
    go_wp2
    go_ret
    exact ⟨ret_bool (Eq.symm (show jfitB x n = false from by unfold jfitB; rw [Hhb7.out]; (try rfl))), (kept_trans Kk4.out Kk9.out)⟩
  | true =>
    have kvV0 : SeesN V0 V0.heap.size w5 := seesN_kept _ Kk9.out
    go_wp2_with (refine stop_load 32 (.tmp 2) rfl ?_)
    intro _
    refine wpList_load_part (w.heap.size) 0 32 (.tmp 2) #[.int .i64 x.k, .int .i64 x.i, .int .i64 x.j, .int .i64 x.n, (.slice ax x.kids.length cx)] du (blk_at Hx1.out Kk9.out) (by rfl) rfl (by rfl) (by rfl) hu1 (by cases du <;> first | rfl | exact hu2) size_term ?_
    go_wp2_with fail
    clear kvV0
    refine (Free_any x _ (.slice ax x.kids.length cx) (HLx.out.later Kk9.out).lies).mono ?_
    rintro e w10 ⟨rfl, k11⟩
    have Kk12 := Lib.hid k11
    clear k11
    have kvV0 : SeesN V0 V0.heap.size w10 := seesN_kept _ (kept_trans Kk9.out Kk12.out)
    by_cases c13 : x.freeB ≤ n
    · have ec13 : decide (x.freeB ≤ n) = true := decide_eq_true c13
      have Ec13 := Lib.hid ec13
      have Hc13 := Lib.hid c13
      clear c13
      go_wp2
      go_ret
      exact ⟨ret_bool (Eq.symm (show jfitB x n = true from by unfold jfitB; rw [Hhb7.out, Ec13.out]; (try rfl))), (kept_trans Kk4.out (kept_trans Kk9.out Kk12.out))⟩
    · have ec13 : decide (x.freeB ≤ n) = false := decide_eq_false c13
      have Ec13 := Lib.hid ec13
      have Hc13 := Lib.hid c13
      clear c13
      go_wp2
      go_ret
      exact ⟨ret_bool (Eq.symm (show jfitB x n = false from by unfold jfitB; rw [Hhb7.out, Ec13.out]; (try rfl))), (kept_trans Kk4.out (kept_trans Kk9.out Kk12.out))⟩

set_option maxRecDepth 20000 in
set_option maxHeartbeats 4000000 in
theorem rsortJ_any (i : Int) (P : Nat → Prop) (w : World) (hri : I64 i) : Calls Try.prog 53 #[.int .i64 i] w (GivesP P (.mk 1 i 0 0 []) w) := by
  have Ri := Lib.hid hri
  clear hri
  obtain ⟨du, hu1, hu2⟩ := under_term
  go_enter Try.func53, Try.ntmps53
  go_upto_region 1 with fail
  refine at_code (fun V0 hV0 => ?_)
  obtain ⟨k2, x1, z3⟩ := alloc1 hV0
  have Kk4 := Lib.hid k2
  clear k2
  have Hx1 := Lib.hid x1
  have Z0 := Lib.hid z3
  clear z3 x1 hV0
  have kvV0 : Sees V0 (w.heap.size) V0 := sees_kept _ (kept_refl _)
  go_wp2_with (refine stop_store 32 (.tmp 2) (.tmp 4) rfl ?_)
  intro _
  refine wpList_store_part_n (by rfl) 32 (.tmp 2) (.tmp 4) rfl (w.heap.size) 0 #[.int .i64 1, .int .i64 i, .int .i64 0, .int .i64 0, .slice none 0 0] (by rfl) (by rfl) 32 size_term (row_ok rfl) ?_
  intro W5 hW5
  clear kvV0
  subst hW5
  refine ⟨_, #[.int .i64 1, .int .i64 i, .int .i64 0, .int .i64 0, .slice none 0 0], Hx1.out, rfl, Nat.le_of_ble_eq_true rfl, ?_⟩
  intro W6 hW6
  go_wp2_with fail
  refine bodyPost_ret (results_cell_row rfl _ _ (w.heap.size) 32 _ _ du rfl (blk_same Hx1.out hW6) hu1 (by cases du <;> first | rfl | exact hu2) size_term) rfl ?_
  exact ⟨_, rfl, par_end (par_row' (liesQ_nil V0 (Par w V0.heap.size [] P)) hW6 (by omega) (by have := Z0.out; omega)) (by have := Z0.out; omega), kept_set Kk4.out hW6 (by omega)⟩

set_option maxRecDepth 20000 in
set_option maxHeartbeats 4000000 in
theorem rof_any (i : Int) (x : Tm) (y : Tm) (P : Nat → Prop) (w : World) (sx : Value) (sy : Value) (hfx : x.fine) (hlx : LiesQ w P x.kids sx) (hfy : y.fine) (hly : LiesQ w P y.kids sy) (hri : I64 i) : Calls Try.prog 52 #[tv x sx, tv y sy, .int .i64 i] w (GivesJP P (⟨false, x, (.mk 0 0 0 0 []), y, i⟩ : Jd) w) := by
  have Gx := Lib.hid hfx
  clear hfx
  obtain ⟨ax, cx, Sx, rfl, -⟩ := hlx.out
  have Gy := Lib.hid hfy
  clear hfy
  obtain ⟨ay, cy, Sy, rfl, -⟩ := hly.out
  have Ri := Lib.hid hri
  clear hri
  obtain ⟨dj, dj1, dj2⟩ := under_of 34 (by kernel_rfl)
  obtain ⟨du, hu1, hu2⟩ := under_term
  unfold tv
  go_enter Try.func52, Try.ntmps52
  go_upto_region 1 with fail
  refine at_code (fun V0 hV0 => ?_)
  obtain ⟨k4, x1, x2, x3, z5⟩ := alloc3 hV0
  have Kk6 := Lib.hid k4
  clear k4
  have Hx1 := Lib.hid x1
  have Hx2 := Lib.hid x2
  have Hx3 := Lib.hid x3
  have Z0 := Lib.hid z5
  clear z5 x1 x2 x3 hV0
  have HLx : Hid (LiesQ V0 (Par w V0.heap.size [] P) x.kids _) := (par_in _ _ hlx).later Kk6.out
  clear hlx
  have HLy : Hid (LiesQ V0 (Par w V0.heap.size [] P) y.kids _) := (par_in _ _ hly).later Kk6.out
  clear hly
  have kvV0 : Sees V0 (w.heap.size + 2) V0 := sees_kept _ (kept_refl _)
  go_wp2_with (refine stop_load 32 (.tmp 3) rfl ?_)
  intro _
  refine wpList_load_part (w.heap.size) 0 32 (.tmp 3) #[.int .i64 x.k, .int .i64 x.i, .int .i64 x.j, .int .i64 x.n, (.slice ax x.kids.length cx)] du Hx1.out (by rfl) rfl (by rfl) (by rfl) hu1 (by cases du <;> first | rfl | exact hu2) size_term ?_
  go_wp2_with (refine stop_load 32 (.tmp 4) rfl ?_)
  intro _
  refine wpList_load_part (w.heap.size + 1) 0 32 (.tmp 4) #[.int .i64 y.k, .int .i64 y.i, .int .i64 y.j, .int .i64 y.n, (.slice ay y.kids.length cy)] du Hx2.out (by rfl) rfl (by rfl) (by rfl) hu1 (by cases du <;> first | rfl | exact hu2) size_term ?_
  go_wp2_with (refine stop_store 34 (.tmp 6) (.tmp 10) rfl ?_)
  intro _
  refine wpList_store_part_n (by rfl) 34 (.tmp 6) (.tmp 10) rfl (w.heap.size + 2) 0 #[.bool false, .int .i64 x.k, .int .i64 x.i, .int .i64 x.j, .int .i64 x.n, (.slice ax x.kids.length cx), .int .i64 0, .int .i64 0, .int .i64 0, .int .i64 0, .slice none 0 0, .int .i64 y.k, .int .i64 y.i, .int .i64 y.j, .int .i64 y.n, (.slice ay y.kids.length cy), .int .i64 i] (by rfl) (by rfl) 34 (by kernel_rfl) (row_ok rfl) ?_
  intro W7 hW7
  clear kvV0
  subst hW7
  refine ⟨_, #[.bool false, .int .i64 x.k, .int .i64 x.i, .int .i64 x.j, .int .i64 x.n, (.slice ax x.kids.length cx), .int .i64 0, .int .i64 0, .int .i64 0, .int .i64 0, .slice none 0 0, .int .i64 y.k, .int .i64 y.i, .int .i64 y.j, .int .i64 y.n, (.slice ay y.kids.length cy), .int .i64 i], Hx3.out, rfl, Nat.le_of_ble_eq_true rfl, ?_⟩
  intro W8 hW8
  go_wp2_with fail
  refine bodyPost_ret (results_cell_row rfl _ _ (w.heap.size + 2) 34 _ _ dj rfl (blk_same Hx3.out hW8) dj1 (by cases dj <;> first | rfl | exact dj2) (by kernel_rfl)) rfl ?_
  exact ⟨_, _, _, rfl, ⟨par_end (par_row' HLx.out hW8 (by omega) (by have := Z0.out; omega)) (by have := Z0.out; omega), par_end (par_row' (liesQ_nil V0 (Par w V0.heap.size [] P)) hW8 (by omega) (by have := Z0.out; omega)) (by have := Z0.out; omega), par_end (par_row' HLy.out hW8 (by omega) (by have := Z0.out; omega)) (by have := Z0.out; omega)⟩, kept_set Kk6.out hW8 (by omega)⟩

set_option maxRecDepth 20000 in
set_option maxHeartbeats 4000000 in
theorem rright0_any (n : Int) (i : Int) (u : Tm) (v : Tm) (x : Tm) (P : Nat → Prop) (w : World) (su : Value) (sv : Value) (sx : Value) (hfu : u.fine) (hlu : LiesQ w P u.kids su) (hfv : v.fine) (hlv : LiesQ w P v.kids sv) (hfx : x.fine) (hlx : LiesQ w P x.kids sx) (hri : I64 i) (hrn : I64 n) : Calls Try.prog 25 #[.agg #[.bool false, .int .i64 u.k, .int .i64 u.i, .int .i64 u.j, .int .i64 u.n, su, .int .i64 v.k, .int .i64 v.i, .int .i64 v.j, .int .i64 v.n, sv, .int .i64 x.k, .int .i64 x.i, .int .i64 x.j, .int .i64 x.n, sx, .int .i64 i], .int .i64 n] w fun e w' => e = .returned (.bool (rightJ ⟨false, u, v, x, i⟩ n)) ∧ Kept w w' := by
  have Gu := Lib.hid hfu
  clear hfu
  obtain ⟨au, cu, Su, rfl, -⟩ := hlu.out
  have Gv := Lib.hid hfv
  clear hfv
  obtain ⟨av, cv, Sv, rfl, -⟩ := hlv.out
  have Gx := Lib.hid hfx
  clear hfx
  obtain ⟨ax, cx, Sx, rfl, -⟩ := hlx.out
  have Ri := Lib.hid hri
  clear hri
  have Rn := Lib.hid hrn
  clear hrn
  obtain ⟨dj, dj1, dj2⟩ := under_of 34 (by kernel_rfl)
  obtain ⟨du, hu1, hu2⟩ := under_term
  go_enter Try.func25, Try.ntmps25
  go_upto_region 1 with fail
  refine at_code (fun V0 hV0 => ?_)
  obtain ⟨k2, x1, z3⟩ := alloc1 hV0
  have Kk4 := Lib.hid k2
  clear k2
  have Hx1 := Lib.hid x1
  have Z0 := Lib.hid z3
  clear z3 x1 hV0
  have HLu : Hid (LiesQ V0 (Par w V0.heap.size [] P) u.kids _) := (par_in _ _ hlu).later Kk4.out
  clear hlu
  have HLv : Hid (LiesQ V0 (Par w V0.heap.size [] P) v.kids _) := (par_in _ _ hlv).later Kk4.out
  clear hlv
  have HLx : Hid (LiesQ V0 (Par w V0.heap.size [] P) x.kids _) := (par_in _ _ hlx).later Kk4.out
  clear hlx
  have ld5 := partN_cell (r := V0.heap.size) Hx1.out trivial 0 (.bool false) rfl
  have ld6 := partN_cell (r := V0.heap.size) Hx1.out trivial 16 (.int .i64 i) rfl
  have kvV0 : SeesN V0 V0.heap.size V0 := seesN_kept _ (kept_refl _)
  by_cases c7 : i < 0
  · have ec7 : decide (i < 0) = true := decide_eq_true c7
    have Ec7 := Lib.hid ec7
    have Hc7 := Lib.hid c7
    clear c7
    go_wp2
    go_ret
    exact ⟨ret_bool (Eq.symm (show rightJ ⟨false, u, v, x, i⟩ n = false from by unfold rightJ; (try simp only []); rw [show decide (0 ≤ i) = false from decide_eq_false (by have := of_decide_eq_true Ec7.out; omega)]; (try first | rfl | simp))), Kk4.out⟩
  · have ec7 : decide (i < 0) = false := decide_eq_false c7
    have Ec7 := Lib.hid ec7
    have Hc7 := Lib.hid c7
    clear c7
    by_cases c8 : 1000 < i
    · have ec8 : decide (1000 < i) = true := decide_eq_true c8
      have Ec8 := Lib.hid ec8
      have Hc8 := Lib.hid c8
      clear c8
      go_wp2
      go_ret
      exact ⟨ret_bool (Eq.symm (show rightJ ⟨false, u, v, x, i⟩ n = false from by unfold rightJ; (try simp only []); rw [show decide (0 ≤ i) = true from decide_eq_true (by have := of_decide_eq_false Ec7.out; omega), show decide (i ≤ 1000) = false from decide_eq_false (by have := of_decide_eq_true Ec8.out; omega)]; (try first | rfl | simp))), Kk4.out⟩
    · have ec8 : decide (1000 < i) = false := decide_eq_false c8
      have Ec8 := Lib.hid ec8
      have Hc8 := Lib.hid c8
      clear c8
      go_wp2_with (refine stop_load 32 (.tmp 14) rfl ?_)
      intro _
      refine wpList_load_part (w.heap.size) 1 32 (.tmp 14) #[.int .i64 u.k, .int .i64 u.i, .int .i64 u.j, .int .i64 u.n, (.slice au u.kids.length cu)] du Hx1.out (by rfl) rfl (by rfl) (by rfl) hu1 (by cases du <;> first | rfl | exact hu2) size_term ?_
      go_wp2_with fail
      clear kvV0
      refine (jfit_any n u (Par w V0.heap.size [] P) _ ((.slice au u.kids.length cu)) Gu.out HLu.out Rn.out).mono ?_
      obtain ⟨rb12, hb11⟩ : ∃ qb, (jfitB u n) = qb := ⟨_, rfl⟩
      rw [hb11]
      have Hhb11 := Lib.hid hb11
      clear hb11
      rintro e w9 ⟨rfl, k10⟩
      have Kk13 := Lib.hid k10
      clear k10
      cases rb12 with
      | false =>
        have kvV0 : SeesN V0 V0.heap.size w9 := seesN_kept _ Kk13.out
        go_wp2
        go_ret
        exact ⟨ret_bool (Eq.symm (show rightJ ⟨false, u, v, x, i⟩ n = false from by unfold rightJ; (try simp only []); rw [show decide (0 ≤ i) = true from decide_eq_true (by have := of_decide_eq_false Ec7.out; omega), show decide (i ≤ 1000) = true from decide_eq_true (by have := of_decide_eq_false Ec8.out; omega), Hhb11.out]; (try first | rfl | simp))), (kept_trans Kk4.out Kk13.out)⟩
      | true =>
        have kvV0 : SeesN V0 V0.heap.size w9 := seesN_kept _ Kk13.out
        go_wp2_with (refine stop_load 32 (.tmp 21) rfl ?_)
        intro _
        refine wpList_load_part (w.heap.size) 11 32 (.tmp 21) #[.int .i64 x.k, .int .i64 x.i, .int .i64 x.j, .int .i64 x.n, (.slice ax x.kids.length cx)] du (blk_at Hx1.out Kk13.out) (by rfl) rfl (by rfl) (by rfl) hu1 (by cases du <;> first | rfl | exact hu2) size_term ?_
        go_wp2_with fail
        clear kvV0
        refine (jfit_any n x (Par w V0.heap.size [] P) _ ((.slice ax x.kids.length cx)) Gx.out (HLx.out.later Kk13.out) Rn.out).mono ?_
        obtain ⟨rb17, hb16⟩ : ∃ qb, (jfitB x n) = qb := ⟨_, rfl⟩
        rw [hb16]
        have Hhb16 := Lib.hid hb16
        clear hb16
        rintro e w14 ⟨rfl, k15⟩
        have Kk18 := Lib.hid k15
        clear k15
        cases rb17 with
        | false =>
          have kvV0 : SeesN V0 V0.heap.size w14 := seesN_kept _ (kept_trans Kk13.out Kk18.out)
          go_wp2
          go_ret
          exact ⟨ret_bool (Eq.symm (show rightJ ⟨false, u, v, x, i⟩ n = false from by unfold rightJ; (try simp only []); rw [show decide (0 ≤ i) = true from decide_eq_true (by have := of_decide_eq_false Ec7.out; omega), show decide (i ≤ 1000) = true from decide_eq_true (by have := of_decide_eq_false Ec8.out; omega), Hhb11.out, Hhb16.out]; (try first | rfl | simp))), (kept_trans Kk4.out (kept_trans Kk13.out Kk18.out))⟩
        | true =>
          have kvV0 : SeesN V0 V0.heap.size w14 := seesN_kept _ (kept_trans Kk13.out Kk18.out)
          go_wp2_with (refine stop_load 32 (.tmp 33) rfl ?_)
          intro _
          refine wpList_load_part (w.heap.size) 6 32 (.tmp 33) #[.int .i64 v.k, .int .i64 v.i, .int .i64 v.j, .int .i64 v.n, (.slice av v.kids.length cv)] du (blk_at Hx1.out (kept_trans Kk13.out Kk18.out)) (by rfl) rfl (by rfl) (by rfl) hu1 (by cases du <;> first | rfl | exact hu2) size_term ?_
          go_wp2_with fail
          clear kvV0
          refine (same_any v Tm.zero _ ((.slice av v.kids.length cv)) (.slice none 0 0) (HLv.out.later (kept_trans Kk13.out Kk18.out)).lies (liesQ_nil w14 (Par w V0.heap.size [] P)).lies).mono ?_
          obtain ⟨rb22, hb21⟩ : ∃ qb, (sameB v Tm.zero) = qb := ⟨_, rfl⟩
          rw [hb21]
          have Hhb21 := Lib.hid hb21
          clear hb21
          rintro e w19 ⟨rfl, k20⟩
          have Kk23 := Lib.hid k20
          clear k20
          cases rb22 with
          | false =>
            have kvV0 : SeesN V0 V0.heap.size w19 := seesN_kept _ (kept_trans Kk13.out (kept_trans Kk18.out Kk23.out))
            go_wp2
            go_ret
            exact ⟨ret_bool (Eq.symm (show rightJ ⟨false, u, v, x, i⟩ n = false from by unfold rightJ; (try simp only []); rw [show decide (0 ≤ i) = true from decide_eq_true (by have := of_decide_eq_false Ec7.out; omega), show decide (i ≤ 1000) = true from decide_eq_true (by have := of_decide_eq_false Ec8.out; omega), Hhb11.out, Hhb16.out, Hhb21.out]; (try first | rfl | simp))), (kept_trans Kk4.out (kept_trans Kk13.out (kept_trans Kk18.out Kk23.out)))⟩
          | true =>
            have kvV0 : SeesN V0 V0.heap.size w19 := seesN_kept _ (kept_trans Kk13.out (kept_trans Kk18.out Kk23.out))
            go_wp2
            go_ret
            exact ⟨ret_bool (Eq.symm (show rightJ ⟨false, u, v, x, i⟩ n = true from by unfold rightJ; (try simp only []); rw [show decide (0 ≤ i) = true from decide_eq_true (by have := of_decide_eq_false Ec7.out; omega), show decide (i ≤ 1000) = true from decide_eq_true (by have := of_decide_eq_false Ec8.out; omega), Hhb11.out, Hhb16.out, Hhb21.out]; (try first | rfl | simp))), (kept_trans Kk4.out (kept_trans Kk13.out (kept_trans Kk18.out Kk23.out)))⟩

set_option maxRecDepth 20000 in
set_option maxHeartbeats 4000000 in
theorem rright1_any (n : Int) (i : Int) (u : Tm) (v : Tm) (x : Tm) (P : Nat → Prop) (w : World) (su : Value) (sv : Value) (sx : Value) (hfu : u.fine) (hlu : LiesQ w P u.kids su) (hfv : v.fine) (hlv : LiesQ w P v.kids sv) (hfx : x.fine) (hlx : LiesQ w P x.kids sx) (hri : I64 i) (hrn : I64 n) : Calls Try.prog 25 #[.agg #[.bool true, .int .i64 u.k, .int .i64 u.i, .int .i64 u.j, .int .i64 u.n, su, .int .i64 v.k, .int .i64 v.i, .int .i64 v.j, .int .i64 v.n, sv, .int .i64 x.k, .int .i64 x.i, .int .i64 x.j, .int .i64 x.n, sx, .int .i64 i], .int .i64 n] w fun e w' => e = .returned (.bool (rightJ ⟨true, u, v, x, i⟩ n)) ∧ Kept w w' := by
  have Gu := Lib.hid hfu
  clear hfu
  obtain ⟨au, cu, Su, rfl, -⟩ := hlu.out
  have Gv := Lib.hid hfv
  clear hfv
  obtain ⟨av, cv, Sv, rfl, -⟩ := hlv.out
  have Gx := Lib.hid hfx
  clear hfx
  obtain ⟨ax, cx, Sx, rfl, -⟩ := hlx.out
  have Ri := Lib.hid hri
  clear hri
  have Rn := Lib.hid hrn
  clear hrn
  obtain ⟨dj, dj1, dj2⟩ := under_of 34 (by kernel_rfl)
  obtain ⟨du, hu1, hu2⟩ := under_term
  go_enter Try.func25, Try.ntmps25
  go_upto_region 1 with fail
  refine at_code (fun V0 hV0 => ?_)
  obtain ⟨k2, x1, z3⟩ := alloc1 hV0
  have Kk4 := Lib.hid k2
  clear k2
  have Hx1 := Lib.hid x1
  have Z0 := Lib.hid z3
  clear z3 x1 hV0
  have HLu : Hid (LiesQ V0 (Par w V0.heap.size [] P) u.kids _) := (par_in _ _ hlu).later Kk4.out
  clear hlu
  have HLv : Hid (LiesQ V0 (Par w V0.heap.size [] P) v.kids _) := (par_in _ _ hlv).later Kk4.out
  clear hlv
  have HLx : Hid (LiesQ V0 (Par w V0.heap.size [] P) x.kids _) := (par_in _ _ hlx).later Kk4.out
  clear hlx
  have ld5 := partN_cell (r := V0.heap.size) Hx1.out trivial 0 (.bool true) rfl
  have ld6 := partN_cell (r := V0.heap.size) Hx1.out trivial 16 (.int .i64 i) rfl
  have kvV0 : SeesN V0 V0.heap.size V0 := seesN_kept _ (kept_refl _)
  by_cases c7 : i < 0
  · have ec7 : decide (i < 0) = true := decide_eq_true c7
    have Ec7 := Lib.hid ec7
    have Hc7 := Lib.hid c7
    clear c7
    go_wp2
    go_ret
    exact ⟨ret_bool (Eq.symm (show rightJ ⟨true, u, v, x, i⟩ n = false from by unfold rightJ; (try simp only []); rw [show decide (0 ≤ i) = false from decide_eq_false (by have := of_decide_eq_true Ec7.out; omega)]; (try first | rfl | simp))), Kk4.out⟩
  · have ec7 : decide (i < 0) = false := decide_eq_false c7
    have Ec7 := Lib.hid ec7
    have Hc7 := Lib.hid c7
    clear c7
    by_cases c8 : 1000 < i
    · have ec8 : decide (1000 < i) = true := decide_eq_true c8
      have Ec8 := Lib.hid ec8
      have Hc8 := Lib.hid c8
      clear c8
      go_wp2
      go_ret
      exact ⟨ret_bool (Eq.symm (show rightJ ⟨true, u, v, x, i⟩ n = false from by unfold rightJ; (try simp only []); rw [show decide (0 ≤ i) = true from decide_eq_true (by have := of_decide_eq_false Ec7.out; omega), show decide (i ≤ 1000) = false from decide_eq_false (by have := of_decide_eq_true Ec8.out; omega)]; (try first | rfl | simp))), Kk4.out⟩
    · have ec8 : decide (1000 < i) = false := decide_eq_false c8
      have Ec8 := Lib.hid ec8
      have Hc8 := Lib.hid c8
      clear c8
      go_wp2_with (refine stop_load 32 (.tmp 14) rfl ?_)
      intro _
      refine wpList_load_part (w.heap.size) 1 32 (.tmp 14) #[.int .i64 u.k, .int .i64 u.i, .int .i64 u.j, .int .i64 u.n, (.slice au u.kids.length cu)] du Hx1.out (by rfl) rfl (by rfl) (by rfl) hu1 (by cases du <;> first | rfl | exact hu2) size_term ?_
      go_wp2_with fail
      clear kvV0
      refine (jfit_any n u (Par w V0.heap.size [] P) _ ((.slice au u.kids.length cu)) Gu.out HLu.out Rn.out).mono ?_
      obtain ⟨rb12, hb11⟩ : ∃ qb, (jfitB u n) = qb := ⟨_, rfl⟩
      rw [hb11]
      have Hhb11 := Lib.hid hb11
      clear hb11
      rintro e w9 ⟨rfl, k10⟩
      have Kk13 := Lib.hid k10
      clear k10
      cases rb12 with
      | false =>
        have kvV0 : SeesN V0 V0.heap.size w9 := seesN_kept _ Kk13.out
        go_wp2
        go_ret
        exact ⟨ret_bool (Eq.symm (show rightJ ⟨true, u, v, x, i⟩ n = false from by unfold rightJ; (try simp only []); rw [show decide (0 ≤ i) = true from decide_eq_true (by have := of_decide_eq_false Ec7.out; omega), show decide (i ≤ 1000) = true from decide_eq_true (by have := of_decide_eq_false Ec8.out; omega), Hhb11.out]; (try first | rfl | simp))), (kept_trans Kk4.out Kk13.out)⟩
      | true =>
        have kvV0 : SeesN V0 V0.heap.size w9 := seesN_kept _ Kk13.out
        go_wp2_with (refine stop_load 32 (.tmp 21) rfl ?_)
        intro _
        refine wpList_load_part (w.heap.size) 11 32 (.tmp 21) #[.int .i64 x.k, .int .i64 x.i, .int .i64 x.j, .int .i64 x.n, (.slice ax x.kids.length cx)] du (blk_at Hx1.out Kk13.out) (by rfl) rfl (by rfl) (by rfl) hu1 (by cases du <;> first | rfl | exact hu2) size_term ?_
        go_wp2_with fail
        clear kvV0
        refine (jfit_any n x (Par w V0.heap.size [] P) _ ((.slice ax x.kids.length cx)) Gx.out (HLx.out.later Kk13.out) Rn.out).mono ?_
        obtain ⟨rb17, hb16⟩ : ∃ qb, (jfitB x n) = qb := ⟨_, rfl⟩
        rw [hb16]
        have Hhb16 := Lib.hid hb16
        clear hb16
        rintro e w14 ⟨rfl, k15⟩
        have Kk18 := Lib.hid k15
        clear k15
        cases rb17 with
        | false =>
          have kvV0 : SeesN V0 V0.heap.size w14 := seesN_kept _ (kept_trans Kk13.out Kk18.out)
          go_wp2
          go_ret
          exact ⟨ret_bool (Eq.symm (show rightJ ⟨true, u, v, x, i⟩ n = false from by unfold rightJ; (try simp only []); rw [show decide (0 ≤ i) = true from decide_eq_true (by have := of_decide_eq_false Ec7.out; omega), show decide (i ≤ 1000) = true from decide_eq_true (by have := of_decide_eq_false Ec8.out; omega), Hhb11.out, Hhb16.out]; (try first | rfl | simp))), (kept_trans Kk4.out (kept_trans Kk13.out Kk18.out))⟩
        | true =>
          have kvV0 : SeesN V0 V0.heap.size w14 := seesN_kept _ (kept_trans Kk13.out Kk18.out)
          go_wp2_with (refine stop_load 32 (.tmp 29) rfl ?_)
          intro _
          refine wpList_load_part (w.heap.size) 6 32 (.tmp 29) #[.int .i64 v.k, .int .i64 v.i, .int .i64 v.j, .int .i64 v.n, (.slice av v.kids.length cv)] du (blk_at Hx1.out (kept_trans Kk13.out Kk18.out)) (by rfl) rfl (by rfl) (by rfl) hu1 (by cases du <;> first | rfl | exact hu2) size_term ?_
          go_wp2_with fail
          clear kvV0
          refine (jfit_any n v (Par w V0.heap.size [] P) _ ((.slice av v.kids.length cv)) Gv.out (HLv.out.later (kept_trans Kk13.out Kk18.out)) Rn.out).mono ?_
          obtain ⟨rb22, hb21⟩ : ∃ qb, (jfitB v n) = qb := ⟨_, rfl⟩
          rw [hb21]
          have Hhb21 := Lib.hid hb21
          clear hb21
          rintro e w19 ⟨rfl, k20⟩
          have Kk23 := Lib.hid k20
          clear k20
          cases rb22 with
          | false =>
            have kvV0 : SeesN V0 V0.heap.size w19 := seesN_kept _ (kept_trans Kk13.out (kept_trans Kk18.out Kk23.out))
            go_wp2
            go_ret
            exact ⟨ret_bool (Eq.symm (show rightJ ⟨true, u, v, x, i⟩ n = false from by unfold rightJ; (try simp only []); rw [show decide (0 ≤ i) = true from decide_eq_true (by have := of_decide_eq_false Ec7.out; omega), show decide (i ≤ 1000) = true from decide_eq_true (by have := of_decide_eq_false Ec8.out; omega), Hhb11.out, Hhb16.out, Hhb21.out]; (try first | rfl | simp))), (kept_trans Kk4.out (kept_trans Kk13.out (kept_trans Kk18.out Kk23.out)))⟩
          | true =>
            have kvV0 : SeesN V0 V0.heap.size w19 := seesN_kept _ (kept_trans Kk13.out (kept_trans Kk18.out Kk23.out))
            go_wp2
            go_ret
            exact ⟨ret_bool (Eq.symm (show rightJ ⟨true, u, v, x, i⟩ n = true from by unfold rightJ; (try simp only []); rw [show decide (0 ≤ i) = true from decide_eq_true (by have := of_decide_eq_false Ec7.out; omega), show decide (i ≤ 1000) = true from decide_eq_true (by have := of_decide_eq_false Ec8.out; omega), Hhb11.out, Hhb16.out, Hhb21.out]; (try first | rfl | simp))), (kept_trans Kk4.out (kept_trans Kk13.out (kept_trans Kk18.out Kk23.out)))⟩

end Go.Proofs.Ytjlppnmckobcfaa

namespace Go.Proofs.Ytjlppnmckobcfaa.Dv
open Go.RowKit

def kidsL : List Int := [0, 0, 2, 2, 2, 2, 3, 1, 1, 2, 1, 2, 1, 1, 2, 2, 1, 2, 3, 3, 1, 1, 2, 2, 2, 2, 3, 4]
def dkidsN (r : Int) : Int := if 1 ≤ r ∧ r ≤ 28 then (kidsL[(r - 1).toNat]?).getD 0 else -1
def innerB (r k : Int) : Bool := if r = 3 ∨ r = 6 ∨ r = 4 ∨ r = 7 ∨ r = 19 ∨ r = 20 ∨ r = 18 ∨ r = 23 ∨ r = 25 ∨ r = 26 ∨ r = 28 then k == 1 else if r = 27 then (k == 1 || k == 2) else false
theorem in28 {r : Int} (h : 1 ≤ r ∧ r ≤ 28) : r = 1 ∨ r = 2 ∨ r = 3 ∨ r = 4 ∨ r = 5 ∨ r = 6 ∨ r = 7 ∨ r = 8 ∨ r = 9 ∨ r = 10 ∨ r = 11 ∨ r = 12 ∨ r = 13 ∨ r = 14 ∨ r = 15 ∨ r = 16 ∨ r = 17 ∨ r = 18 ∨ r = 19 ∨ r = 20 ∨ r = 21 ∨ r = 22 ∨ r = 23 ∨ r = 24 ∨ r = 25 ∨ r = 26 ∨ r = 27 ∨ r = 28 := by omega
theorem out_kids {r : Int} (h : ¬ (1 ≤ r ∧ r ≤ 28)) : dkidsN r = -1 := if_neg h

set_option maxHeartbeats 1000000 in
theorem dkids_any (r : Int) (w : World) : Calls Try.prog 21 #[.int .i64 r] w fun e w' => e = .returned (.int .i64 (dkidsN r)) ∧ w' = w := by
  by_cases h : 1 ≤ r ∧ r ≤ 28
  · rcases in28 h with rfl | rfl | rfl | rfl | rfl | rfl | rfl | rfl | rfl | rfl | rfl | rfl | rfl | rfl | rfl | rfl | rfl | rfl | rfl | rfl | rfl | rfl | rfl | rfl | rfl | rfl | rfl | rfl
    all_goals
      clear h
      go_enter Try.func21, Try.ntmps21
      go_wp2
      go_ret
      exact ⟨ret_int (by decide), rfl⟩
  · rw [out_kids h]
    go_enter Try.func21, Try.ntmps21
    go_wp2
    all_goals go_ret
    all_goals exact ⟨ret_int (by first | rfl | (exfalso; simp only [beq_iff_eq] at *; omega)), rfl⟩

set_option maxHeartbeats 1000000 in
theorem dinner_any (r k : Int) (w : World) : Calls Try.prog 23 #[.int .i64 r, .int .i64 k] w fun e w' => e = .returned (.bool (innerB r k)) ∧ w' = w := by
  go_enter Try.func23, Try.ntmps23
  go_wp2
  all_goals go_ret
  all_goals exact ⟨ret_bool (by unfold innerB; simp only [beq_iff_eq, beq_eq_false_iff_ne, ne_eq] at *; (repeat' split) <;> first | rfl | omega | (simp_all; done) | (exfalso; omega) | (simp; omega)), rfl⟩
end Go.Proofs.Ytjlppnmckobcfaa.Dv

namespace Go.Proofs.Ytjlppnmckobcfaa
open Go.RowKit

/-- An entry in a block of its own. -/
def BNode (w : World) (b : Nat) (e : En) (s : Value) : Prop := w.cell? ⟨b, 0, none⟩ = some (.int .i64 e.a.k) ∧ w.cell? ⟨b, 1, none⟩ = some (.int .i64 e.a.i) ∧ w.cell? ⟨b, 2, none⟩ = some (.int .i64 e.a.j) ∧ w.cell? ⟨b, 3, none⟩ = some (.int .i64 e.a.n) ∧ w.cell? ⟨b, 4, none⟩ = some (s) ∧ w.cell? ⟨b, 5, none⟩ = some (.int .i64 e.i)
theorem bnode_new (w : World) (e : En) (s : Value) : BNode (w.alloc (.cells #[.int .i64 e.a.k, .int .i64 e.a.i, .int .i64 e.a.j, .int .i64 e.a.n, s, .int .i64 e.i] 52)) w.heap.size e s := by
  have key : ∀ o, (w.alloc (.cells #[.int .i64 e.a.k, .int .i64 e.a.i, .int .i64 e.a.j, .int .i64 e.a.n, s, .int .i64 e.i] 52)).cell? ⟨w.heap.size, o, none⟩ = (#[.int .i64 e.a.k, .int .i64 e.a.i, .int .i64 e.a.j, .int .i64 e.a.n, s, .int .i64 e.i] : Array Value)[o]? := fun o => by rw [World.cell?_alloc_at _ _ _ _ rfl]
  exact ⟨by rw [key]; rfl, by rw [key]; rfl, by rw [key]; rfl, by rw [key]; rfl, by rw [key]; rfl, by rw [key]; rfl⟩
theorem BNode.keep {v w' : World} {b : Nat} {e : En} {s : Value} (h : BNode v b e s) (hk : Kept v w') : BNode w' b e s := ⟨cell_lat hk h.1, cell_lat hk h.2.1, cell_lat hk h.2.2.1, cell_lat hk h.2.2.2.1, cell_lat hk h.2.2.2.2.1, cell_lat hk h.2.2.2.2.2⟩
end Go.Proofs.Ytjlppnmckobcfaa

namespace Go.Proofs.Ytjlppnmckobcfaa
open Go.RowKit

set_option maxRecDepth 20000 in
set_option maxHeartbeats 2000000 in
theorem ctxright_any (l : List En) (w : World) (s : Value) (hl : LiesE w l s) : Calls Try.prog 43 #[s] w fun e w' => e = .returned (.bool (rightC l)) ∧ Below w.heap.size w w' := by
  obtain ⟨a, cap, S, rfl, hc, hmx, -, hn, hk⟩ := hl.out
  unfold maxLen at hmx
  have HN := Lib.hid hn
  have HK := Lib.hid hk
  clear hn hk hl
  go_enter Try.func43, Try.ntmps43
  go_wp2
  go_loopw [7] (fun iv wr => ∃ k : Nat, k ≤ l.length ∧ iv = .int .i64 k ∧ Hid (rightC (l.take k) = true) ∧ Below w.heap.size w wr) (fun iv _ => l.length - (intOf iv).toNat)
  case atStart => exact ⟨0, Nat.zero_le _, rfl, by simp [Hid, rightC, rightE], Below.refl _ _⟩
  case round =>
    obtain ⟨k, hk, rfl, hgood, hb⟩ := hrel
    by_cases hlt : k < l.length
    · obtain ⟨b, o, rfl, hx⟩ := HN.out k hlt
      have hx := hx.below hb hx.lt
      have hq := (HK.out k hlt).keep hb
      obtain ⟨a', cap', S', hS, -⟩ := hq.out
      rw [hS] at hx hq
      have HQ := Lib.hid hq
      have HT := Lib.hid (rightC_take hlt)
      have HO := Lib.hid (fun h => rightC_of (l := l) hlt h)
      obtain ⟨x0, x1, x2, x3, x4, x5⟩ := hx
      clear hS hq
      have hX := bnode_new wr l[k] (.slice a' l[k].a.kids.length cap')
      have hbV : Below wr.heap.size wr (wr.alloc (.cells #[.int .i64 l[k].a.k, .int .i64 l[k].a.i, .int .i64 l[k].a.j, .int .i64 l[k].a.n, (.slice a' l[k].a.kids.length cap'), .int .i64 l[k].i] 52)) := (Below.refl _ _).alloc (Nat.le_refl _) _
      have hqV := HQ.out.keep hbV
      have hbw := below_call hb hbV hb.size
      clear HQ hb hbV
      go_upto_region 4 with fail
      clear x0 x1 x2 x3 x4 x5
      obtain ⟨g, hg⟩ : ∃ g, wr.heap.size = g := ⟨_, rfl⟩
      rw [hg] at hX ⊢
      generalize wr.alloc (.cells #[.int .i64 l[k].a.k, .int .i64 l[k].a.i, .int .i64 l[k].a.j, .int .i64 l[k].a.n, (.slice a' l[k].a.kids.length cap'), .int .i64 l[k].i] 52) = V at hX hqV hbw ⊢
      have HX := Lib.hid hX
      have HQ := Lib.hid hqV
      have HBV := Lib.hid hbw
      have hk0 := kept_start V
      clear hqV hbw hg
      obtain ⟨x0, x1, x2, x3, x4, x5⟩ := hX
      by_cases h0 : l[k].i < 0
      · have e0 : decide (l[k].i < 0) = true := decide_eq_true h0
        go_wp2
        go_ret
        exact ⟨ret_bool (HO.out (by unfold goodE; rw [decide_eq_false (show ¬ 0 ≤ l[k].i by omega)]; rfl)).symm, HBV.out⟩
      have e0 : decide (l[k].i < 0) = false := decide_eq_false h0
      by_cases h1 : 1000 < l[k].i
      · have e1 : decide (1000 < l[k].i) = true := decide_eq_true h1
        go_wp2
        go_ret
        exact ⟨ret_bool (HO.out (by unfold goodE; rw [decide_eq_false (show ¬ l[k].i ≤ 1000 by omega), Bool.and_false]; rfl)).symm, HBV.out⟩
      have e1 : decide (1000 < l[k].i) = false := decide_eq_false h1
      have g0 : decide (0 ≤ l[k].i) = true := decide_eq_true (by omega)
      have g1 : decide (l[k].i ≤ 1000) = true := decide_eq_true (by omega)
      have G0 := Lib.hid g0
      have G1 := Lib.hid g1
      clear g0 g1
      go_wp2_with fail
      refine (marked_any l[k].a _ _ HQ.out).mono ?_
      obtain ⟨mb, hmb⟩ : ∃ b, l[k].a.markedB = b := ⟨_, rfl⟩
      rw [hmb]
      have HMB := Lib.hid hmb
      clear hmb
      rintro e w1 ⟨rfl, hb1⟩
      have hk1 := kept_call hk0 hb1
      obtain ⟨x0, x1, x2, x3, x4, x5⟩ := HX.out.keep hk1
      clear hb1 hk0
      cases mb with
      | false =>
        go_wp2
        go_ret
        exact ⟨ret_bool (HO.out (by unfold goodE; rw [HMB.out, Bool.and_false]; rfl)).symm, HBV.out.trans (Below.mono hk1 HBV.out.size)⟩
      | true =>
        go_wp2_with fail
        refine (Free_any l[k].a _ _ (kept_lies hk1 HQ.out)).mono ?_
        obtain ⟨fb, hfb⟩ : ∃ b, l[k].a.freeB = b := ⟨_, rfl⟩
        rw [hfb]
        have HFB := Lib.hid hfb
        clear hfb
        rintro e w2 ⟨rfl, hb2⟩
        have hk2 := kept_call hk1 hb2
        clear hb2
        by_cases h3 : (k : Int) < fb
        · have e3 : decide ((k : Int) < fb) = true := decide_eq_true h3
          go_wp2
          go_ret
          exact ⟨ret_bool (HO.out (by unfold goodE; rw [HFB.out, decide_eq_false (show ¬ fb ≤ (k : Int) by omega), Bool.and_false])).symm, HBV.out.trans (Below.mono hk2 HBV.out.size)⟩
        · have e3 : decide ((k : Int) < fb) = false := decide_eq_false h3
          have HS : Hid (goodE k l[k] = true) := by unfold goodE; rw [G0.out, G1.out, HMB.out, HFB.out, decide_eq_true (show fb ≤ (k : Int) by omega)]; rfl
          go_wp2
          go_roundw
          case rel => exact ⟨k + 1, by omega, by go_num, by show _ = true; rw [HT.out, hgood.out, HS.out]; rfl, HBV.out.trans (Below.mono hk2 HBV.out.size)⟩
          case measure => simp [intOf]; omega
    · have : k = l.length := by omega
      subst this
      go_wp2
      go_ret
      exact ⟨ret_bool (by have hg := hgood.out; rw [List.take_length] at hg; exact hg.symm), hb⟩

/-- What GreatCtx tells. -/
def NotGreatC (l : List En) (M : Nat) (w : World) (e : Ending) (w' : World) : Prop :=
  ∃ g : Bool, e = .returned (.bool g) ∧ (g = false → l.length ≤ M ∧ ∀ u ∈ l, (u.a.size : Int) ≤ M ∧ u.a.deep ≤ 201) ∧ Below w.heap.size w w'

set_option maxHeartbeats 1000000 in
theorem greatctx_any (l : List En) (M : Nat) (w : World) (ls : Value) (hl : LiesE w l ls) (hM : M ≤ 10000) :
    Calls Try.prog 19 #[ls, .int .i64 M] w (NotGreatC l M w) := by
  obtain ⟨a, cap, S, rfl, hc, hm, -, hn, hk⟩ := hl.out
  unfold maxLen at hm
  have HN := Lib.hid hn
  have HK := Lib.hid hk
  clear hl hn hk
  go_enter Try.func19, Try.ntmps19
  by_cases hlen : M < l.length
  · have e1 : decide ((M : Int) < (l.length : Int)) = true := decide_eq_true (by omega)
    have e2 : decide (M < l.length) = true := decide_eq_true hlen
    go_wp2
    go_ret
    exact ⟨true, rfl, (fun h => by cases h), Below.refl _ _⟩
  have e1 : decide ((M : Int) < (l.length : Int)) = false := decide_eq_false (by omega)
  have e2 : decide (M < l.length) = false := decide_eq_false hlen
  go_wp2
  go_loopw [5, 6] (fun nv iv wr => ∃ (k : Nat) (n : Int), k ≤ l.length ∧ iv = .int .i64 k ∧ nv = .int .i64 n ∧ 0 ≤ n ∧ n ≤ M + 1 ∧ Hid (n ≤ M → ∀ j (h : j < l.length), j < k → ((l[j]).a.size : Int) ≤ M ∧ (l[j]).a.deep ≤ 201) ∧ Kept w wr) (fun _ i _ => l.length - (intOf i).toNat)
  case atStart => exact ⟨0, 0, Nat.zero_le _, rfl, rfl, by omega, by omega, fun _ j _ h => by omega, kept_start _⟩
  case round =>
    obtain ⟨k, n, hk, rfl, rfl, hn1, hn2, hrel, hb⟩ := hrel
    by_cases hlt : k < l.length
    · by_cases hnm : n ≤ M
      · obtain ⟨b, o, rfl, hx⟩ := HN.out k hlt
        obtain ⟨c0, c1, c2, c3, c4, c5⟩ := hx.below hb hx.lt
        have hq := HK.out k hlt
        obtain ⟨a', cap', S', hS, -⟩ := hq.out
        rw [hS] at c4 hq
        have HQ := Lib.hid (hq.keep hb)
        clear hS hq
        go_wp2_with fail
        refine (weigh_any l[k].a _ _ _ _ HQ.out (by omega) (by omega) (by omega) (by omega)).mono ?_
        rintro e w' ⟨r, rfl, hr1, hr2, hr3, hb'⟩
        have HR3 := Lib.hid hr3
        have HB' := kept_call hb hb'
        clear hb' hb hr3 c0 c1 c2 c3 c4 c5
        go_wp2
        go_roundw
        case rel =>
          refine ⟨k + 1, n + r, by omega, by go_num, rfl, by omega, by omega, ?_, HB'⟩
          intro hle j hj hjk
          by_cases e : j = k
          · subst e
            have e4 := HR3.out (by omega)
            omega
          · exact hrel.out hnm j hj (by omega)
        case measure => simp [intOf]; omega
      · go_wp2
        go_ret
        exact ⟨_, rfl, fun h => absurd h (by simp <;> omega), hb⟩
    · have : k = l.length := by omega
      subst this
      go_wp2
      all_goals go_ret
      all_goals
        refine ⟨_, rfl, fun h => ⟨by omega, fun u hu => ?_⟩, hb⟩
        have hle : n ≤ M := by simpa using h
        obtain ⟨j, hj, rfl⟩ := List.getElem_of_mem hu
        exact hrel.out hle j hj hj
end Go.Proofs.Ytjlppnmckobcfaa
