/-
  Facts and contracts that the proof of ParseExact uses.
-/
import Derived.Lib.ItoaNum
import Derived.Lib.ItoaLen
import Derived.Test.YtdhfbphliejcdaaRows
import Derived.WalkKit
import Derived.Lib.Hide
import Derived.ProofKit
import Derived.LoopTactic
import Derived.Below
import Derived.IntWalk
import Derived.Lib.Strings
import Derived.Laws.Strings2
import Derived.Deep.AppendLies
import Derived.Laws.Rows
import Derived.OwnWalk
import Derived.KernelRfl
import Derived.Deep.RegionHeld3
import Derived.Lib.Builder
import Derived.WalkSmall
import Derived.Maps.GroupsBeside
import Derived.Maps.StringElems
import Derived.Laws.OwnMore
import Derived.Deep.RegionLaw
import Derived.Maps.AppendAt
import Derived.Deep.Cut
import Derived.Deep.DeepCutAuto
import Derived.Maps.OwnOps
import Derived.Maps.OwnSet
import Derived.Lib.MinMax
import Derived.Laws.IdiomCopy
import Derived.Deep.Slices
import Derived.Lib.QuietBelow
import Derived.StillTailTactics
import Derived.BigQuiet
import Derived.Deep.RegionWith
import Derived.OrdersHeld
import Derived.Laws.StructEq
import GoSem.Core.Float
import Derived.Laws.Cover2
import Derived.Laws.FloatArith
import Derived.Laws.Externs
import Derived.Deep.QuietTactic
import Derived.Laws.AppendOwn
import Derived.Recover
import Derived.RegionTactic
import Derived.Deep.LoopGhost
import Derived.Deep.CutBlock
import Derived.OpenShut
import Derived.Carry
import Derived.JoinedOf
import Derived.ChangeMaps5
import Derived.Test.YtdhfbphliejcdaaParseExactQ1
namespace Go.Proofs.Ytdhfbphliejcdaa.Dv
open Go.RowKit

theorem hltD {w : World} {b : Nat} {o : Obj} (h : w.heap[b]? = some o) : b < w.heap.size := (Array.getElem?_eq_some_iff.1 h).1
theorem typeD {w : World} {b : Nat} {cs cs' : Array Value} {T T' : TypeId} {fz fz' : Nat × Nat} (h : w.heap[b]? = some (Obj.cells cs T fz)) (k : w.heap[b]? = some (Obj.cells cs' T' fz')) : T = T' := by
  rw [h] at k; injection k with k; injection k
/-- The constants of a parsing: where its blocks lie, the allowances, the end of the text. -/
structure PC where
  B : Nat
  P : Nat
  S : Nat
  G : Nat
  deep : Nat
  nodes : Nat
  E : Nat
  br : Bool
def PAt (w : World) (c : PC) : Prop := w.heap[c.P]? = some (.cells #[.pointer (some ⟨c.S, 0, none⟩), .float .f64 c.deep, .pointer (some ⟨c.G, 0, none⟩)] 53 (0, 0))
/-- The parser has the tokens ts left; u nodes are used up. -/
structure PSt (c : PC) (u : Nat) (ts : List Tok) (w : World) : Prop where
  bS : c.B ≤ c.S
  bP : c.B ≤ c.P
  bG : c.B ≤ c.G
  lo : c.B ≤ w.heap.size
  str : ∃ tv, SAt w c.S tv c.E c.br ∧ TLies w ts tv
  par : PAt w c
  bud : w.heap[c.G]? = some (budObj c.nodes u)
  tok : ∀ t ∈ ts, t.s.length ≤ 10000000
  few : u + ts.length ≤ 1000000000
/-- What stays: all that is older than the parsing, and every block of its own but the stream and the budget. -/
structure Fp (c : PC) (w w' : World) : Prop where
  below : Below c.B w w'
  kept : ∀ (b : Nat) (cs : Array Value) (T : TypeId) (fz : Nat × Nat), w.heap[b]? = some (Obj.cells cs T fz) → T ≠ 83 → T ≠ 85 → w'.heap[b]? = some (Obj.cells cs T fz)
theorem Fp.size {c : PC} {w w' : World} (h : Fp c w w') : w.heap.size ≤ w'.heap.size := h.below.size
theorem Fp.refl (c : PC) (w : World) : Fp c w w := ⟨Below.refl _ _, fun _ _ _ _ h _ _ => h⟩
theorem Fp.trans {c : PC} {w w1 w2 : World} (h : Fp c w w1) (k : Fp c w1 w2) : Fp c w w2 := ⟨h.below.trans k.below, fun b cs T fz e h1 h2 => k.kept b cs T fz (h.kept b cs T fz e h1 h2) h1 h2⟩
theorem Fp.grown {c : PC} {w w' : World} {row : Option Nat} (hg : w.grownBy w' row) (hB : ∀ b, row = some b → c.B ≤ b) (hT : ∀ b, row = some b → ∀ cs T fz, w.heap[b]? = some (Obj.cells cs T fz) → T = 83 ∨ T = 85) (hlo : c.B ≤ w.heap.size) : Fp c w w' := by
  refine ⟨⟨hg.os, hg.tape, hg.output, hg.size, fun k hk => hg.block k (by omega) (fun e => by have := hB k e.symm; omega)⟩, fun b cs T fz e h1 h2 => ?_⟩
  by_cases hb : some b = row
  · rcases hT b hb.symm cs T fz e with h | h
    · exact absurd h h1
    · exact absurd h h2
  · rw [hg.block b (hltD e) hb]; exact e
theorem Fp.later {c : PC} {w w' : World} (hb : Below w.heap.size w w') (hlo : c.B ≤ w.heap.size) : Fp c w w' := ⟨hb.mono hlo, fun b cs T fz e _ _ => by rw [hb.block b (hltD e)]; exact e⟩
theorem Fp.drew {c : PC} {w w' : World} (h : Fp c w w') : Fp c w w'.drew := ⟨h.below.drew, h.kept⟩
theorem Fp.drewN {c : PC} {w w' : World} (h : Fp c w w') : ∀ k, Fp c w (w'.drewN k)
  | 0 => h
  | k + 1 => (Fp.drewN h k).drew
theorem Fp.other {c : PC} {w w1 w2 : World} (h : Fp c w w1) {b : Nat} (hg : w1.grownBy w2 (some b)) (hb : w.heap.size ≤ b) (hlo : c.B ≤ w.heap.size) : Fp c w w2 := by
  refine ⟨h.below.trans ⟨hg.os, hg.tape, hg.output, hg.size, fun k hk => hg.block k (by have := h.size; omega) (fun e => by have := Option.some.inj e; omega)⟩, fun q cs T fz e h1 h2 => ?_⟩
  have e1 := h.kept q cs T fz e h1 h2
  rw [hg.block q (hltD e1) (fun e2 => by have := hltD e; have := Option.some.inj e2; omega)]; exact e1
theorem PSt.later {c : PC} {u : Nat} {ts : List Tok} {w w' : World} (h : PSt c u ts w) (hb : Below w.heap.size w w') : PSt c u ts w' := by
  obtain ⟨tv, h1, h2⟩ := h.str
  refine ⟨h.bS, h.bP, h.bG, Nat.le_trans h.lo hb.size, ⟨tv, ?_, ?_⟩, ?_, ?_, h.tok, h.few⟩
  · unfold SAt at h1 ⊢; rw [hb.block _ (hltD h1)]; exact h1
  · exact h2.keep fun g cs fz e => by rw [hb.block _ (hltD e)]; exact e
  · have r := h.par; unfold PAt at r ⊢; rw [hb.block _ (hltD r)]; exact r
  · rw [hb.block _ (hltD h.bud)]; exact h.bud
theorem PSt.drew {c : PC} {u : Nat} {ts : List Tok} {w : World} (h : PSt c u ts w) : PSt c u ts w.drew := h.later (Below.refl _ _).drew
theorem PSt.alloc {c : PC} {u : Nat} {ts : List Tok} {w : World} (h : PSt c u ts w) (o : Obj) : PSt c u ts (w.alloc o) := h.later ((Below.refl _ _).alloc (Nat.le_refl _) o)
/-- A step that writes a block of derivations. -/
theorem PSt.other {c : PC} {u : Nat} {ts : List Tok} {w w' : World} (h : PSt c u ts w) {row : Option Nat} (hg : w.grownBy w' row) (hb : ∀ b, row = some b → c.B ≤ b ∧ ∃ cs fz, w.heap[b]? = some (Obj.cells cs 25 fz)) : PSt c u ts w' := by
  obtain ⟨tv, h1, h2⟩ := h.str
  have old : ∀ {q : Nat} {cs : Array Value} {T : TypeId} {fz : Nat × Nat}, T ≠ 25 → w.heap[q]? = some (Obj.cells cs T fz) → w'.heap[q]? = some (Obj.cells cs T fz) := fun {q cs T fz} hne e => by
    rw [hg.block q (hltD e) (fun e2 => by obtain ⟨-, cs', fz', e3⟩ := hb q e2.symm; exact hne (typeD e e3))]; exact e
  refine ⟨h.bS, h.bP, h.bG, Nat.le_trans h.lo hg.size, ⟨tv, ?_, ?_⟩, ?_, ?_, h.tok, h.few⟩
  · exact old (by decide) h1
  · exact h2.keep fun g cs fz e => old (by decide) e
  · exact old (by decide) h.par
  · exact old (by decide) h.bud
/-- A step of the stream. -/
theorem PSt.stream {c : PC} {u : Nat} {ts r : List Tok} {w w' : World} (h : PSt c u ts w) (hg : w.grownBy w' (some c.S)) (hs : ∃ tv, SAt w' c.S tv c.E c.br ∧ TLies w' r tv) (hr : ∀ t ∈ r, t ∈ ts) (hl : r.length ≤ ts.length) : PSt c u r w' ∧ Fp c w w' := by
  obtain ⟨tv, h1, h2⟩ := h.str
  have hfr : Fp c w w' := Fp.grown hg (fun b e => by obtain rfl := Option.some.inj e; exact h.bS) (fun b e cs T fz e2 => by obtain rfl := Option.some.inj e; exact Or.inl (typeD e2 h1)) h.lo
  have old : ∀ {q : Nat} {cs : Array Value} {T : TypeId} {fz : Nat × Nat}, T ≠ 83 → w.heap[q]? = some (Obj.cells cs T fz) → w'.heap[q]? = some (Obj.cells cs T fz) := fun {q cs T fz} hne e => by
    rw [hg.block q (hltD e) (fun e2 => by obtain rfl := Option.some.inj e2; exact hne (typeD e h1))]; exact e
  exact ⟨⟨h.bS, h.bP, h.bG, Nat.le_trans h.lo hg.size, hs, old (by decide) h.par, old (by decide) h.bud, fun t ht => h.tok t (hr t ht), by have := h.few; omega⟩, hfr⟩
def PTake (c : PC) (u : Nat) (w : World) (x : Except Nat (Tok × List Tok)) (e : Ending) (w' : World) : Prop :=
  match x with
  | .error a => e = faultP a ∧ Fp c w w'
  | .ok (t, r) => e = .returned (.agg #[.int .i64 t.k, .string ⟨t.s.toArray⟩, .int .i64 t.at_]) ∧ PSt c u r w' ∧ Fp c w w'
theorem PSt.ptake {c : PC} {u : Nat} {ts : List Tok} {w : World} (h : PSt c u ts w) (k : Nat) : Calls Try.prog 37 #[.pointer (some ⟨c.S, 0, none⟩), .int .i64 k] w (PTake c u w (takeT c.E k ts)) := by
  obtain ⟨tv, h1, h2⟩ := h.str
  refine (take_any c.S tv c.E c.br ts k w h1 h2).mono ?_
  intro e w' hg
  cases hx : takeT c.E k ts with
  | error a =>
    rw [hx] at hg
    obtain ⟨he, hgr⟩ := hg
    exact ⟨he, Fp.grown hgr (fun b e => by obtain rfl := Option.some.inj e; exact h.bS) (fun b e cs T fz e2 => by obtain rfl := Option.some.inj e; exact Or.inl (typeD e2 h1)) h.lo⟩
  | ok p =>
    obtain ⟨t, r⟩ := p
    rw [hx] at hg
    obtain ⟨he, hgr, v', h3, h4⟩ := hg
    have hl := takeT_eq hx
    have hs := h.stream hgr ⟨v', h3, h4⟩ (fun y hy => by rw [hl.1]; exact List.mem_cons_of_mem _ hy) (by rw [hl.1]; simp)
    exact ⟨he, hs.1, hs.2⟩
theorem PSt.pnext {c : PC} {u : Nat} {ts : List Tok} {w : World} (h : PSt c u ts w) (k : Nat) : Calls Try.prog 39 #[.pointer (some ⟨c.S, 0, none⟩), .int .i64 k] w fun e w' => e = .returned (.bool ((ts.head?.map fun t => t.k == k).getD false)) ∧ w = w' := by
  obtain ⟨tv, h1, h2⟩ := h.str
  exact next_tok c.S tv c.E c.br ts k w h1 h2
theorem PSt.tokOk {c : PC} {u : Nat} {ts r : List Tok} {t : Tok} {k E : Nat} {w : World} (h : PSt c u ts w) (hx : takeT E k ts = .ok (t, r)) : t.s.length ≤ 10000000 := h.tok t (by rw [(takeT_eq hx).1]; exact List.mem_cons_self)
theorem PSt.cells {c : PC} {u : Nat} {ts : List Tok} {w : World} (h : PSt c u ts w) : w.cell? ⟨c.P, 0, none⟩ = some (.pointer (some ⟨c.S, 0, none⟩)) ∧ w.cell? ⟨c.P, 1, none⟩ = some (.float .f64 c.deep) ∧ w.cell? ⟨c.P, 2, none⟩ = some (.pointer (some ⟨c.G, 0, none⟩)) ∧ c.P < w.heap.size := by
  have r1 := h.par
  unfold PAt at r1
  exact ⟨by rw [Lib.cell_of_heap r1]; rfl, by rw [Lib.cell_of_heap r1]; rfl, by rw [Lib.cell_of_heap r1]; rfl, hltD r1⟩
theorem drewN_grown (w : World) : ∀ k, w.grownBy (w.drewN k) none
  | 0 => ⟨rfl, rfl, rfl, Nat.le_refl _, fun _ _ _ => rfl⟩
  | k + 1 => by
    have h := drewN_grown w k
    exact ⟨h.os, h.tape, h.output, h.size, h.block⟩
/-- One node more. -/
theorem PSt.pnode {c : PC} {u : Nat} {ts : List Tok} {w : World} (h : PSt c u ts w) (hf : u + 1 + ts.length ≤ 1000000000) : Calls Try.prog 47 #[.pointer (some ⟨c.G, 0, none⟩), .int .i64 1] w fun e w' =>
    e = .returned (.bool (withinB (u + 1 : Nat) c.nodes)) ∧ Fp c w w' ∧ (withinB (u + 1 : Nat) c.nodes = true → PSt c (u + 1) ts w') := by
  have hfew := h.few
  cases hw : withinB (u + 1 : Nat) c.nodes with
  | false =>
    refine (take_out c.G c.nodes u 1 w h.bud (by omega) (by omega) (by omega) (by simpa using hw)).mono ?_
    rintro e w' ⟨rfl, k, rfl⟩
    exact ⟨rfl, (Fp.refl c w).drewN k, fun h => by cases h⟩
  | true =>
    refine (take_yes c.G c.nodes u 1 w h.bud (by omega) (by omega) (by omega) (by simpa using hw)).mono ?_
    rintro e w' ⟨rfl, k, rfl⟩
    have hg0 : w.grownBy ((w.drewN k).setCell ⟨c.G, 1, none⟩ (.int .i64 ((u : Int) + 1))) (some c.G) := by
      have h1 := drewN_grown w k
      exact ⟨h1.os, h1.tape, h1.output, by simp, fun q hq hne => (Below.heap_setCell _ _ _ _ (by show q ≠ c.G; exact fun e => hne (by rw [e]))).trans (h1.block q hq (by simp))⟩
    have hfr : Fp c w ((w.drewN k).setCell ⟨c.G, 1, none⟩ (.int .i64 ((u : Int) + 1))) := Fp.grown hg0 (fun b e => by obtain rfl := Option.some.inj e; exact h.bG) (fun b e cs T fz e2 => by obtain rfl := Option.some.inj e; exact Or.inr (typeD e2 h.bud)) h.lo
    refine ⟨rfl, hfr, fun _ => ?_⟩
    obtain ⟨tv, h1, h2⟩ := h.str
    have old : ∀ {q : Nat} {cs : Array Value} {T : TypeId} {fz : Nat × Nat}, T ≠ 85 → w.heap[q]? = some (Obj.cells cs T fz) → ((w.drewN k).setCell ⟨c.G, 1, none⟩ (.int .i64 ((u : Int) + 1))).heap[q]? = some (Obj.cells cs T fz) := fun {q cs T fz} hne e => by
      rw [hg0.block q (hltD e) (fun e2 => by obtain rfl := Option.some.inj e2; exact hne (typeD e h.bud))]; exact e
    refine ⟨h.bS, h.bP, h.bG, Nat.le_trans h.lo hg0.size, ⟨tv, old (by decide) h1, h2.keep fun g cs fz e => old (by decide) e⟩, old (by decide) h.par, ?_, h.tok, by omega⟩
    have hb : (w.drewN k).heap[c.G]? = some (budObj c.nodes u) := by rw [(drewN_grown w k).block _ (hltD h.bud) (by simp)]; exact h.bud
    have := heap_setCell_same _ _ 1 _ _ (.int .i64 ((u : Int) + 1)) hb
    exact this
/-- What a parsing has made stays while it goes on. -/
theorem own_fp {c : PC} {w w' : World} {B : Nat} (h : Fp c w w') {b : Nat} (ho : Own B w b) : w'.heap[b]? = w.heap[b]? := by
  obtain ⟨_, cs, hb⟩ := ho
  rw [hb]
  exact h.kept b cs _ _ hb (by decide) (by decide)
theorem liesP_fp {c : PC} {w w' : World} {B : Nat} {l : List Tm} {s : Value} (h : LiesP w (Own B w) l s) (hf : Fp c w w') : LiesP w' (Own B w') l s := h.keep (fun _ hb _ => own_fp hf hb) (fun _ hb _ => hb.same (own_fp hf hb))
theorem made_fp {c : PC} {w w' : World} {B : Nat} {v : Value} {ps : List (Tm × Value)} (h : Made B w v ps) (hf : Fp c w w') : Made B w' v ps := by
  refine ⟨?_, h.fine, fun p hp => (h.kids p hp).keep (fun b hb _ => own_fp hf hb.1) (fun b hb _ => ⟨hb.1.same (own_fp hf hb.1), hb.2⟩)⟩
  obtain ⟨h1, h2⟩ := h.own
  refine ⟨h1, ?_⟩
  rcases h2 with h2 | ⟨g, cap, cur, hv, hg, hh, r⟩
  · exact Or.inl h2
  · exact Or.inr ⟨g, cap, cur, hv, hg, hf.kept _ _ _ _ hh (by decide) (by decide), r⟩
/-- What a parsing leaves by. -/
def faultV : PF → Value
  | (0, a) => .iface 57 (.agg #[.int .i64 a])
  | (1, a) => .iface 55 (.agg #[.int .i64 a, .string ⟨#[100, 101, 101, 112]⟩])
  | (_ + 2, a) => .iface 55 (.agg #[.int .i64 a, .string ⟨#[110, 111, 100, 101, 115]⟩])
def leaveP (p : PF) : Ending := .panicked [{ v := faultV p, recovered := false }]
theorem fault_leave (a : Nat) : faultP a = leaveP (0, a) := rfl
theorem Fp.row {c : PC} {w w1 w2 : World} (h : Fp c w w1) {row : Option Nat} (hg : w1.grownBy w2 row) (hb : ∀ b, row = some b → w.heap.size ≤ b) (hlo : c.B ≤ w.heap.size) : Fp c w w2 := by
  refine ⟨h.below.trans ⟨hg.os, hg.tape, hg.output, hg.size, fun k hk => hg.block k (by have := h.size; omega) (fun e => by have := hb k e.symm; omega)⟩, fun q cs T fz e h1 h2 => ?_⟩
  have e1 := h.kept q cs T fz e h1 h2
  rw [hg.block q (hltD e1) (fun e2 => by have := hltD e; have := hb q e2.symm; omega)]; exact e1
/-- The block of a list that was made. -/
theorem made_row {B : Nat} {w : World} {v : Value} {ps : List (Tm × Value)} (h : Made B w v ps) : ∀ b, v.ownBlock = some b → B ≤ b ∧ ∃ cs fz, w.heap[b]? = some (Obj.cells cs 25 fz) := by
  intro b hb
  rcases h.own.2 with ⟨rfl, -⟩ | ⟨g, cap, cur, rfl, hg, hh, -⟩
  · simp [Value.ownBlock] at hb
  · simp [Value.ownBlock] at hb
    subst hb
    exact ⟨hg, cur, _, hh⟩
/-- A derivation that was parsed is appended. -/
theorem made_push_fp {c : PC} {B : Nat} {wr wn w3 : World} {v : Value} {ps : List (Tm × Value)} {t : Tm} {s : Value} {g cap : Nat} (h : Made B wr v ps) (hB : B ≤ wr.heap.size) (hf : Fp c wr wn) (ht : t.fine) (hk : LiesP wn (Own wr.heap.size wn) t.kids s) (o : Obj)
    (hown : w3.ownsRow B 25 3 (.slice (some ⟨g, 0, none⟩) (ps.length + 1) cap) (ps.length + 1) (cells5 ps ++ cells5 [(t, s)])) (hgrow : (wn.alloc o).grownBy w3 v.ownBlock) (hat : v.ownBlock = some g ∨ g = wn.heap.size + 1) :
    Made B w3 (.slice (some ⟨g, 0, none⟩) (ps.length + 1) cap) (ps ++ [(t, s)]) :=
  made_step (made_later (made_fp h hf) ((Below.refl _ _).alloc (Nat.le_refl _) _)) ht
    (hk.keep (fun b _ hlt => Below.heap_alloc _ _ _ hlt) (fun b hb hlt => ⟨(hb.same (Below.heap_alloc _ _ _ hlt)).from hB, made_block h hb.1⟩)) hown hgrow (by simpa using hat)
/-- The parsing of premises, some of them done. -/
def KInv (dp : DP) (d n u0 : Nat) (ts0 : List Tok) (acc : List Tm) (m u : Nat) (ts : List Tok) : Prop := kidsD dp d n u0 ts0 = (match kidsD dp d m u ts with
  | .error e => .error e
  | .ok (l, u2, r) => .ok (acc ++ l, u2, r))
theorem KInv.start (dp : DP) (d n u : Nat) (ts : List Tok) : KInv dp d n u ts [] n u ts := by
  unfold KInv
  cases kidsD dp d n u ts with
  | error e => rfl
  | ok x => rfl
theorem KInv.err {dp : DP} {d n u0 m u : Nat} {ts0 ts : List Tok} {acc : List Tm} {e : PF} (h : KInv dp d n u0 ts0 acc (m + 1) u ts) (hx : dp d u ts = .error e) : kidsD dp d n u0 ts0 = .error e := by
  unfold KInv at h
  rw [h, kidsD, hx]
theorem KInv.step {dp : DP} {d n u0 m u u1 : Nat} {ts0 ts r : List Tok} {acc : List Tm} {t : Tm} (h : KInv dp d n u0 ts0 acc (m + 1) u ts) (hx : dp d u ts = .ok (t, u1, r)) : KInv dp d n u0 ts0 (acc ++ [t]) m u1 r := by
  unfold KInv at h ⊢
  rw [h, kidsD, hx]
  dsimp only
  cases kidsD dp d m u1 r with
  | error e => rfl
  | ok x => obtain ⟨l, u2, r2⟩ := x; simp
theorem KInv.done {dp : DP} {d n u0 u : Nat} {ts0 ts : List Tok} {acc : List Tm} (h : KInv dp d n u0 ts0 acc 0 u ts) : kidsD dp d n u0 ts0 = .ok (acc, u, ts) := by
  unfold KInv at h
  rw [h, kidsD]
  simp
/-- What the parsing of a derivation gives. -/
def DerG (c : PC) (w : World) (x : Except PF (Tm × Nat × List Tok)) (e : Ending) (w' : World) : Prop :=
  match x with
  | .error a => e = leaveP a ∧ Fp c w w'
  | .ok (t, u, r) => ∃ s, e = .returned (tv t s) ∧ LiesP w' (Own w.heap.size w') t.kids s ∧ t.fine ∧ PSt c u r w' ∧ Fp c w w'
def DerC (c : PC) (f : Nat) (dp : DP) : Prop := ∀ (d u : Nat) (ts : List Tok) (w : World), ts.length < f → d + ts.length ≤ 1000000000 → PSt c u ts w → Calls Try.prog 40 #[.pointer (some ⟨c.P, 0, none⟩), .int .i64 d] w (DerG c w (dp d u ts))
theorem DerC.use {c : PC} {f : Nat} {dp : DP} (h : DerC c f dp) (d u : Nat) (ts : List Tok) (w : World) (h1 : ts.length < f) (h2 : d + ts.length ≤ 1000000000) (h3 : PSt c u ts w) : Calls Try.prog 40 #[.pointer (some ⟨c.P, 0, none⟩), .int .i64 d] w (DerG c w (dp d u ts)) := h d u ts w h1 h2 h3
end Go.Proofs.Ytdhfbphliejcdaa.Dv

namespace Go.Proofs.Ytdhfbphliejcdaa.Dv
open Go.RowKit

set_option maxRecDepth 20000 in
theorem field_tok2 (a b d : Value) (w : World) : (Instr.field 87 (.agg #[a, b, d]) 2).run Try.prog w = .ok d w := by kernel_rfl
theorem setD_grown (w : World) (b i : Nat) (v : Value) : w.grownBy (w.setCell ⟨b, i, none⟩ v) (some b) := grown_at ⟨rfl, rfl, rfl, Nat.le_refl _, fun _ _ _ => rfl⟩ i v
/-- What stands by when the premises are parsed: the result's block, the derivation's block. -/
structure Stand (c : PC) (w : World) (D : Nat) (t : Tm) (v : Value) (u : Nat) (ts : List Tok) (w' : World) : Prop where
  box : w'.heap[D]? = some (boxOf t v)
  res : w'.heap[w.heap.size]? = some zeroObj
  st : PSt c u ts w'
  fr : Fp c w w'
theorem Stand.size {c : PC} {w w' : World} {D u : Nat} {t : Tm} {v : Value} {ts : List Tok} (h : Stand c w D t v u ts w') : D < w'.heap.size := hltD h.box
theorem Stand.drew {c : PC} {w w' : World} {D u : Nat} {t : Tm} {v : Value} {ts : List Tok} (h : Stand c w D t v u ts w') : Stand c w D t v u ts w'.drew := ⟨h.box, h.res, h.st.drew, h.fr.drew⟩
theorem Stand.call {c : PC} {w w' wn : World} {D u u1 : Nat} {t : Tm} {v : Value} {ts r : List Tok} (h : Stand c w D t v u ts w') (hf : Fp c w' wn) (hs : PSt c u1 r wn) : Stand c w D t v u1 r wn :=
  ⟨hf.kept _ _ _ _ h.box (by decide) (by decide), hf.kept _ _ _ _ h.res (by decide) (by decide), hs, h.fr.trans hf⟩
theorem Stand.later {c : PC} {w w' wn : World} {D u : Nat} {t : Tm} {v : Value} {ts : List Tok} (h : Stand c w D t v u ts w') (hb : Below w'.heap.size w' wn) : Stand c w D t v u ts wn :=
  h.call (Fp.later hb h.st.lo) (h.st.later hb)
theorem Stand.grow {c : PC} {w w' wn : World} {D u : Nat} {t : Tm} {v : Value} {ts : List Tok} (h : Stand c w D t v u ts w') {row : Option Nat} (hg : w'.grownBy wn row) (hlo : c.B ≤ w.heap.size) (hD : w.heap.size < D) (hb : ∀ b, row = some b → D + 1 ≤ b ∧ ∃ cs fz, w'.heap[b]? = some (Obj.cells cs 25 fz)) : Stand c w D t v u ts wn :=
  ⟨by rw [hg.block _ h.size (fun e => by have := (hb D e.symm).1; omega)]; exact h.box, by rw [hg.block _ (hltD h.res) (fun e => by have := (hb _ e.symm).1; omega)]; exact h.res,
    h.st.other hg (fun b e => ⟨by have := (hb b e).1; omega, (hb b e).2⟩), h.fr.row hg (fun b e => by have := (hb b e).1; omega) hlo⟩
theorem Stand.put {c : PC} {w w' : World} {D u : Nat} {t : Tm} {v : Value} {ts : List Tok} (h : Stand c w D t v u ts w') (hlo : c.B ≤ w.heap.size) (hD : w.heap.size < D) (v' : Value) : Stand c w D t v' u ts (w'.setCell ⟨D, 2, none⟩ v') :=
  ⟨by exact heap_setCell_same _ _ 2 _ _ v' h.box, (Below.heap_setCell _ _ _ _ (by show w.heap.size ≠ D; omega)).trans h.res,
    h.st.other (setD_grown w' D 2 v') (fun b e => by obtain rfl := Option.some.inj e; exact ⟨by omega, _, _, h.box⟩), h.fr.row (setD_grown w' D 2 v') (fun b e => by obtain rfl := Option.some.inj e; omega) hlo⟩
theorem Stand.num {c : PC} {w w' : World} {D u : Nat} {k : Int} {v : Value} {ts : List Tok} {m : Int} (h : Stand c w D (.mk k m []) v u ts w') (hlo : c.B ≤ w.heap.size) (hD : w.heap.size < D) (n : Int) : Stand c w D (.mk k n []) v u ts (w'.setCell ⟨D, 1, none⟩ (.int .i64 n)) :=
  ⟨by exact heap_setCell_same _ _ 1 _ _ (.int .i64 n) h.box, (Below.heap_setCell _ _ _ _ (by show w.heap.size ≠ D; omega)).trans h.res,
    h.st.other (setD_grown w' D 1 _) (fun b e => by obtain rfl := Option.some.inj e; exact ⟨by omega, _, _, h.box⟩), h.fr.row (setD_grown w' D 1 _) (fun b e => by obtain rfl := Option.some.inj e; omega) hlo⟩
theorem below_made {B b o : Nat} {w : World} {v : Value} {ps : List (Tm × Value)} (h : Made B w v ps) (hb : b < B) (x : Value) : Made B (w.setCell ⟨b, o, none⟩ x) v ps := by
  have hk : ∀ b', B ≤ b' → (w.setCell ⟨b, o, none⟩ x).heap[b']? = w.heap[b']? := fun b' hb' => Below.heap_setCell _ _ _ _ (by show b' ≠ b; omega)
  obtain ⟨h1, h2⟩ := h.own
  refine ⟨⟨h1, ?_⟩, h.fine, fun p hp => (h.kids p hp).keep (fun b' hb' _ => hk b' hb'.1.1) (fun b' hb' _ => ⟨hb'.1.same (hk b' hb'.1.1), hb'.2⟩)⟩
  rcases h2 with h2 | ⟨g, cap, cur, hv, hg, hh, r⟩
  · exact Or.inl h2
  · exact Or.inr ⟨g, cap, cur, hv, hg, by rw [hk g hg]; exact hh, r⟩
/-- The end: the derivation is stored as the result. -/
theorem psd_end {c : PC} {w w' : World} {D u : Nat} {t x : Tm} {v s : Value} {r : List Tok} (h : Stand c w D t v u r w') (hlo : c.B ≤ w.heap.size) (hD : w.heap.size < D) (hl : LiesP w' (Own (D + 1) w') x.kids s) :
    LiesP (five w' w.heap.size (.int .i64 x.k) (.int .i64 x.i) s) (Own w.heap.size (five w' w.heap.size (.int .i64 x.k) (.int .i64 x.i) s)) x.kids s ∧ PSt c u r (five w' w.heap.size (.int .i64 x.k) (.int .i64 x.i) s) ∧ Fp c w (five w' w.heap.size (.int .i64 x.k) (.int .i64 x.i) s) := by
  have hg : w'.grownBy (five w' w.heap.size (.int .i64 x.k) (.int .i64 x.i) s) (some w.heap.size) := ((setD_grown _ _ _ _).trans (setD_grown _ _ _ _)).trans (setD_grown _ _ _ _)
  exact ⟨liesP_fives hl (by omega) (by omega) _ _ _, h.st.other hg (fun b e => by obtain rfl := Option.some.inj e; exact ⟨hlo, _, _, h.res⟩), h.fr.row hg (fun b e => by obtain rfl := Option.some.inj e; exact Nat.le_refl _) hlo⟩
def ps16_0 : Oper := { dst := some 68, op := Go.Op.fieldAddr 25 (Go.Operand.tmp 7) 2, type := 0, pos := "parse.go:77", after := #[], guard := none }
def ps16_1 : Oper := { dst := some 69, op := Go.Op.load 23 (Go.Operand.tmp 68), type := 23, pos := "parse.go:77", after := #[{ on := 0, ground := Go.Ground.data }], guard := none }
def ps16_2 : Oper := { dst := some 70, op := Go.Op.move (Go.Operand.tmp 0), type := 86, pos := "parse.go:77", after := #[], guard := none }
def ps16_3 : Oper := { dst := some 71, op := Go.Op.move (Go.Operand.tmp 1), type := 3, pos := "parse.go:77", after := #[], guard := none }
def ps16_4 : Oper := { dst := some 72, op := Go.Op.binOp Go.BinOp.add 3 (Go.Operand.tmp 71) (Go.Operand.const (Go.Value.int Go.IntKind.i64 1)) 3, type := 3, pos := "parse.go:77", after := #[{ on := 3, ground := Go.Ground.data }], guard := none }
def ps16_5 : Oper := { dst := some 73, op := Go.Op.call { callee := Go.Callee.value (Go.Operand.func 40), args := #[Go.Operand.tmp 70, Go.Operand.tmp 72], argTypes := #[86, 3] }, type := 25, pos := "parse.go:77", after := #[{ on := 2, ground := Go.Ground.data }, { on := 4, ground := Go.Ground.data }], guard := none }
set_option maxHeartbeats 8000000 in
set_option maxRecDepth 20000 in
theorem pderiv_step (c : PC) (f : Nat) (hL : DerC c f (derP c.deep c.nodes c.E f)) : DerC c (f + 1) (derP c.deep c.nodes c.E (f + 1)) := by
  intro d u ts w hf hd h
  obtain ⟨du, hu1, hu2⟩ := under_term
  obtain ⟨i0, hi, hz0, hz1, hz2⟩ := info_parts info_term
  have HI := Lib.hid (And.intro hi (And.intro hz0 (And.intro hz1 hz2)))
  have hlo := h.lo
  have hfew := h.few
  have HL := Lib.hid hL
  have HDL := Lib.hid (derP_len (deep := c.deep) (nodes := c.nodes) (E := c.E) f)
  have HS0 := Lib.hid (h.alloc zeroObj)
  have HF0 := Lib.hid (Fp.later ((Below.refl w.heap.size w).alloc (Nat.le_refl _) zeroObj) hlo)
  have HR0 := Lib.hid (show (w.alloc zeroObj).heap[w.heap.size]? = some zeroObj from alloc_new _ _)
  have HV := Lib.hid (show derP c.deep c.nodes c.E (f + 1) d u ts = (match takeT c.E 1 ts with | .error e => .error (0, e) | .ok (o, r) => if withinB d c.deep = false then .error (1, o.at_) else if withinB (u + 1 : Nat) c.nodes = false then .error (2, o.at_) else ruleD (derP c.deep c.nodes c.E f) c.E d u r) from rfl)
  generalize derP c.deep c.nodes c.E f = dp at HL HDL HV
  generalize derP c.deep c.nodes c.E (f + 1) d u ts = X at HV
  obtain ⟨p0, p1, p2, plt⟩ := HS0.out.cells
  have hfld := field_tok
  have hfld2 := field_tok2
  clear hL h hi hz0 hz1 hz2
  go_enter Try.func40, Try.ntmps40
  go_wp2_with fail
  refine (HS0.out.ptake 1).mono ?_
  intro e w1 hg
  cases hx : takeT c.E 1 ts with
  | error ea =>
    rw [hx] at hg
    obtain ⟨rfl, hf⟩ := hg
    rw [fault_leave]
    unfold leaveP
    go_wp2
    rw [HV.out, hx]
    exact ⟨rfl, rfl, HF0.out.trans hf⟩
  | ok p =>
  obtain ⟨o1, r1⟩ := p
  rw [hx] at hg
  obtain ⟨rfl, hs, hf⟩ := hg
  have HX1 := Lib.hid hx
  have hl1 := takeT_len hx
  have HS1 := Lib.hid hs
  have HF1 := Lib.hid (HF0.out.trans hf)
  have HR1 := Lib.hid (hf.kept _ _ _ _ HR0.out (by decide) (by decide))
  clear hs hf hx p0 p1 p2 plt
  obtain ⟨p0, p1, p2, plt⟩ := HS1.out.cells
  go_wp2_with fail
  refine (within_any d c.deep w1).mono ?_
  rintro e w' ⟨rfl, rfl⟩
  cases hwd : withinB d c.deep with
  | false =>
    go_wp2
    rw [HV.out, HX1.out]
    dsimp only
    rw [if_pos hwd]
    exact ⟨rfl, rfl, HF1.out⟩
  | true =>
  have HWD := Lib.hid (show ¬ withinB d c.deep = false by rw [hwd]; decide)
  clear hwd
  go_wp2_with fail
  refine (HS1.out.pnode (by omega)).mono ?_
  rintro e w2 ⟨rfl, hf, hs⟩
  cases hwn : withinB (u + 1 : Nat) c.nodes with
  | false =>
    go_wp2
    rw [HV.out, HX1.out]
    dsimp only
    rw [if_neg HWD.out, if_pos hwn]
    exact ⟨rfl, rfl, HF1.out.trans hf⟩
  | true =>
  have HS2 := Lib.hid (hs hwn)
  have HF2 := Lib.hid (HF1.out.trans hf)
  have HR2 := Lib.hid (hf.kept _ _ _ _ HR1.out (by decide) (by decide))
  have HRD := Lib.hid (show X = ruleD dp c.E d u r1 by
    rw [HV.out, HX1.out]
    dsimp only
    rw [if_neg HWD.out, if_neg (by rw [hwn]; decide)])
  clear hs hf hwn p0 p1 p2 plt HV
  obtain ⟨p0, p1, p2, plt⟩ := HS2.out.cells
  go_wp2_with fail
  refine (HS2.out.ptake 3).mono ?_
  intro e w3 hg
  cases hx : takeT c.E 3 r1 with
  | error ea =>
    rw [hx] at hg
    obtain ⟨rfl, hf⟩ := hg
    rw [fault_leave]
    unfold leaveP
    go_wp2
    rw [HRD.out, ruleD, hx]
    exact ⟨rfl, rfl, HF2.out.trans hf⟩
  | ok p =>
  obtain ⟨tk, r0⟩ := p
  rw [hx] at hg
  obtain ⟨rfl, hs, hf⟩ := hg
  have HX3 := Lib.hid hx
  have hl3 := takeT_len hx
  have htl := HS2.out.tokOk hx
  have hr3 := hf.kept _ _ _ _ HR2.out (by decide) (by decide)
  obtain ⟨R, hRe⟩ : ∃ R, ruleN tk.s = R := ⟨_, rfl⟩
  have HRE := Lib.hid hRe
  have hRg := ruleN_range tk.s
  rw [hRe] at hRg
  have HRI := Lib.hid (ruleN_is tk.s)
  rw [hRe] at HRI
  have hb1 := (Below.refl w3.heap.size w3).alloc (Nat.le_refl _) (.cells #[.int .i64 tk.k, .string ⟨tk.s.toArray⟩, .int .i64 tk.at_] 87)
  have hb2 := (Below.refl (w3.alloc (.cells #[.int .i64 tk.k, .string ⟨tk.s.toArray⟩, .int .i64 tk.at_] 87)).heap.size (w3.alloc (.cells #[.int .i64 tk.k, .string ⟨tk.s.toArray⟩, .int .i64 tk.at_] 87))).alloc (Nat.le_refl _) (.cells #[.int .i64 R, .int .i64 0, .slice none 0 0] 25)
  have hb := hb1.trans (hb2.mono hb1.size)
  have HS := Lib.hid (show Stand c w (w3.heap.size + 1) (.mk R 0 []) (.slice none 0 0) (u + 1) r0 ((w3.alloc (.cells #[.int .i64 tk.k, .string ⟨tk.s.toArray⟩, .int .i64 tk.at_] 87)).alloc (.cells #[.int .i64 R, .int .i64 0, .slice none 0 0] 25)) from ⟨by have h := alloc_new (w3.alloc (.cells #[.int .i64 tk.k, .string ⟨tk.s.toArray⟩, .int .i64 tk.at_] 87)) (.cells #[.int .i64 R, .int .i64 0, .slice none 0 0] 25); rw [World.size_alloc] at h; exact h, (hb.block _ (hltD hr3)).trans hr3, hs.later hb, (HF2.out.trans hf).trans (Fp.later hb hs.lo)⟩)
  have hto := ((hb2.block w3.heap.size (by simp)).trans (alloc_new w3 (.cells #[.int .i64 tk.k, .string ⟨tk.s.toArray⟩, .int .i64 tk.at_] 87)))
  have HT3 := Lib.hid (show (w3.alloc (.cells #[.int .i64 tk.k, .string ⟨tk.s.toArray⟩, .int .i64 tk.at_] 87)).heap[w3.heap.size]? = some (.cells #[.int .i64 tk.k, .string ⟨tk.s.toArray⟩, .int .i64 tk.at_] 87) from alloc_new _ _)
  have hDR0 : w.heap.size < w3.heap.size + 1 := by have := hltD hr3; omega
  have HFW := Lib.hid (HF2.out.trans hf)
  obtain ⟨t0, t1, t2⟩ := five_cells HT3.out
  clear hs hf hx hr3 hRe hb1 hb2 hb p0 p1 p2 plt
  go_wp2_with fail
  refine (drule_any ⟨tk.s.toArray⟩ R HRI.out _).mono ?_
  rintro e w' ⟨rfl, rfl⟩
  clear t0 t1 t2
  go_upto_region 8 with fail
  obtain ⟨U, hU⟩ : ∃ U, U = (w3.alloc (.cells #[.int .i64 tk.k, .string ⟨tk.s.toArray⟩, .int .i64 tk.at_] 87)).alloc (.cells #[.int .i64 R, .int .i64 0, .slice none 0 0] 25) := ⟨_, rfl⟩
  rw [← hU] at HS hto
  rw [← hU]
  clear hU
  obtain ⟨t0, t1, t2⟩ := five_cells hto
  obtain ⟨y0, y1, y2⟩ := five_cells HS.out.box
  change U.cell? ⟨(w3.heap.size + 1), 0, none⟩ = some (.int .i64 R) at y0
  obtain ⟨f0, f1, f2⟩ := five_free HS.out.box
  have hDR : w.heap.size < (w3.heap.size + 1) := hDR0
  clear hto hDR0 HR0 HR1 HR2 HS0 HS1 HF0 HF1 HT3
  by_cases hr0 : R = 0
  · subst hr0
    go_wp2_with fail
    refine (fail_any _ _).mono ?_
    rintro e w' ⟨rfl, rfl⟩
    rw [fault_leave]
    unfold leaveP
    go_wp2
    rw [HRD.out, ruleD, HX3.out]
    dsimp only
    rw [if_pos HRE.out]
    exact ⟨rfl, rfl, HS.out.fr⟩
  have hRR : 1 ≤ R ∧ R ≤ 28 := by omega
  by_cases h12 : R = 1 ∨ R = 2
  · have HRN := Lib.hid (show numD c.E R r0 = (match takeT c.E 4 r0 with | .error e => .error (0, e) | .ok (t, q) => .ok ((((getB t.s).getD 0 : Nat) : Int), q)) from if_pos h12)
    have HRX := Lib.hid (show X = (match numD c.E R r0 with | .error e => .error e | .ok (n, r2) => match kidsD dp (d + 1) (dkidsN R).toNat (u + 1) r2 with | .error e => .error e | .ok (l, u2, r3) => match takeT c.E 2 r3 with | .error e => .error (0, e) | .ok (_, r4) => .ok (.mk R n l, u2, r4)) by
      rw [HRD.out, ruleD, HX3.out]
      dsimp only
      rw [HRE.out, if_neg hr0]
      rfl)
    obtain ⟨p0, p1, p2, plt⟩ := HS.out.st.cells
    rcases h12 with hc12 | hc12
    · subst hc12
      go_wp2_with fail
      refine (HS.out.st.ptake 4).mono ?_
      intro e w4 hg
      cases hx : takeT c.E 4 r0 with
      | error ea =>
        rw [hx] at hg
        obtain ⟨rfl, hf⟩ := hg
        rw [fault_leave]
        unfold leaveP
        go_wp2
        rw [HRX.out, HRN.out, hx]
        exact ⟨rfl, rfl, HS.out.fr.trans hf⟩
      | ok p =>
      obtain ⟨tn, r2⟩ := p
      rw [hx] at hg
      obtain ⟨rfl, hs, hf⟩ := hg
      have htn := HS.out.st.tokOk hx
      have hl5 : r2.length ≤ r0.length := by have := takeT_len hx; omega
      have hgb := getB_d tn.s
      have HGE := Lib.hid (getV_eq tn.s)
      obtain ⟨z, hz⟩ : ∃ z, (getB tn.s).getD 0 = z := ⟨_, rfl⟩
      rw [hz] at hgb HGE
      obtain ⟨nm, hnm⟩ : ∃ nm : Int, nm = (z : Int) := ⟨_, rfl⟩
      have hnmR : 0 ≤ nm ∧ nm ≤ 1000000 := by omega
      have HKX := Lib.hid (show numD c.E _ r0 = .ok (nm, r2) by rw [HRN.out, hx]; dsimp only; rw [hz, hnm])
      have HS4 := Lib.hid (HS.out.call hf hs)
      clear hs hf hx y0 y1 y2 f0 f1 f2 t0 t1 t2 p0 p1 p2 plt hz
      obtain ⟨y0, y1, y2⟩ := five_cells HS4.out.box
      obtain ⟨f0, f1, f2⟩ := five_free HS4.out.box
      go_wp2_with fail
      refine (get_any ⟨tn.s.toArray⟩ w4 (by show tn.s.toArray.size ≤ maxLen; unfold maxLen; rw [List.size_toArray]; omega)).mono ?_
      rintro e w' ⟨rfl, hww⟩
      rw [hww]
      clear hww
      obtain ⟨bb, hbb⟩ := HGE.out
      rw [show (⟨tn.s.toArray⟩ : ByteArray).data.toList = tn.s from rfl, hbb, ← hnm]
      have HSV := Lib.hid (HS4.out.num hlo hDR nm)
      clear hnm
      go_upto_region 14 with fail
      clear y0 y1 y2 f0 f1 f2 HS
      obtain ⟨V, hV⟩ : ∃ V, V = w4.setCell ⟨(w3.heap.size + 1), 1, none⟩ (.int .i64 nm) := ⟨_, rfl⟩
      rw [← hV] at HSV
      rw [← hV]
      have HS := HSV
      clear hV HSV HS4 HGE hbb hgb
      obtain ⟨n, hn⟩ : ∃ n : Nat, dkidsN 1 = (n : Int) := ⟨(dkidsN 1).toNat, by have := dkids_nn (r := 1) (by omega); omega⟩
      have HKE := Lib.hid (fun ea (hk : kidsD dp (d + 1) n (u + 1) r2 = .error ea) => show X = .error ea by rw [HRX.out, HKX.out]; dsimp only; rw [hn, Int.toNat_natCast, hk])
      have HKT := Lib.hid (fun l u2 r3 (hk : kidsD dp (d + 1) n (u + 1) r2 = .ok (l, u2, r3)) => show X = (match takeT c.E 2 r3 with | .error e => .error (0, e) | .ok (_, r4) => .ok (.mk 1 nm l, u2, r4)) by rw [HRX.out, HKX.out]; dsimp only; rw [hn, Int.toNat_natCast, hk])
      have hn4 : n ≤ 4 := by have := (dkids_nn (r := 1) (by omega)).2; omega
      have HN := Lib.hid hn
      have HRF := Lib.hid hRR
      obtain ⟨y0, y1, y2⟩ := five_cells HS.out.box
      change V.cell? ⟨(w3.heap.size + 1), 0, none⟩ = some (.int .i64 1) at y0
      clear hn
      go_wp2_with fail
      refine (dkids_any 1 V).mono ?_
      rintro e w' ⟨rfl, rfl⟩
      rw [HN.out]
      clear y0 y1 y2
      go_wp2_with fail
      go_loopw [66] (fun i wr => ∃ (j u' : Nat) (q : List Tok) (ps : List (Tm × Value)) (vv : Value), j ≤ n ∧ i = .int .i64 j ∧ Hid (KInv dp (d + 1) n (u + 1) r2 (ps.map (·.1)) (n - j) u' q) ∧ Hid (ps.length = j) ∧ q.length ≤ r2.length ∧ Hid (Made (w3.heap.size + 1 + 1) wr vv ps) ∧ Hid (Stand c w (w3.heap.size + 1) (.mk 1 nm []) vv u' q wr)) (fun i _ => n - (intOf i).toNat)
      case atStart => exact ⟨0, u + 1, r2, [], _, Nat.zero_le _, rfl, KInv.start _ _ _ _ _, rfl, Nat.le_refl _, made_nil _ _, HS.out⟩
      case round =>
        clear HS
        obtain ⟨j, u', q, ps, vv, hj, rfl, hki, hpl, hql, hmd, hsd⟩ := hrel
        obtain ⟨y0, y1, y2⟩ := five_cells hsd.out.box
        obtain ⟨f0, f1, f2⟩ := five_free hsd.out.box
        by_cases hlt : j < n
        · have hlt' : (j : Int) < (n : Int) := by omega
          obtain ⟨m, hm⟩ : ∃ m, n - j = m + 1 := ⟨n - j - 1, by omega⟩
          have HKI := Lib.hid (show KInv dp (d + 1) n (u + 1) r2 (ps.map (·.1)) (m + 1) u' q by rw [← hm]; exact hki.out)
          have HM := Lib.hid hm
          have HSD := Lib.hid hsd.out.drew
          have HMD := Lib.hid (show Made (w3.heap.size + 1 + 1) wr.drew vv ps from made_fp hmd.out ((Fp.refl c wr).drew))
          have HPL := Lib.hid hpl.out
          have hdsz := hsd.out.size
          have HCALL := Lib.hid (show Calls Try.prog 40 #[.pointer (some ⟨c.P, 0, none⟩), .int .i64 ((d : Int) + 1)] wr.drew (DerG c wr.drew (dp (d + 1) u' q)) from by rw [show (d : Int) + 1 = ((d + 1 : Nat) : Int) by omega]; exact HL.out.use (d + 1) u' q wr.drew (by omega) (by omega) HSD.out.st)
          have hw1 : IntKind.i64.wrap ((d : Int) + 1) = (d : Int) + 1 := IntWalk.i64_in _ (by omega)
          have hw2 : IntKind.i64.wrap ((j : Int) + 1) = (j : Int) + 1 := IntWalk.i64_in _ (by omega)
          clear hki hpl hmd hsd hm
          cases hx : dp (d + 1) u' q with
          | error ea =>
            have HC2 : Hid (Calls Try.prog 40 #[.pointer (some ⟨c.P, 0, none⟩), .int .i64 ((d : Int) + 1)] wr.drew fun e w' => e = leaveP ea ∧ Fp c wr.drew w') := HCALL.out.mono (fun e w' hg => by rw [hx] at hg; exact hg)
            have HXE := Lib.hid (HKE.out _ (HKI.out.err hx))
            have hyd : wr.drew.cell? ⟨(w3.heap.size + 1), 2, none⟩ = some vv := y2
            clear HCALL
            go_wp2_with fail
            refine wp_region_held_drew (S := fun w' => w'.cell? ⟨(w3.heap.size + 1), 2, none⟩ = some vv) (by kernel_rfl) ?_ (fun hHeld => ?_)
            · (try dsimp only)
              exact hyd
            refine take_at 0 68 ps16_0 (v := ?_) (Or.inl ⟨by rfl, ?_⟩) ?_
            rotate_left 1
            · ((intro w hSw; (try dsimp only at hSw); unfold ps16_0; go_simp) <;> with_reducible rfl)
            (try simp only [Act.put, List.setIfInBounds_toArray, List.set_cons_zero, List.set_cons_succ])
            refine take_at 1 69 ps16_1 (v := ?_) (Or.inl ⟨by rfl, ?_⟩) ?_
            rotate_left 1
            · ((intro w hSw; (try dsimp only at hSw); unfold ps16_1; go_simp) <;> with_reducible rfl)
            (try simp only [Act.put, List.setIfInBounds_toArray, List.set_cons_zero, List.set_cons_succ])
            refine take_at 2 70 ps16_2 (v := ?_) (Or.inl ⟨by rfl, ?_⟩) ?_
            rotate_left 1
            · ((intro w hSw; (try dsimp only at hSw); unfold ps16_2; go_simp) <;> with_reducible rfl)
            (try simp only [Act.put, List.setIfInBounds_toArray, List.set_cons_zero, List.set_cons_succ])
            refine take_at 3 71 ps16_3 (v := ?_) (Or.inl ⟨by rfl, ?_⟩) ?_
            rotate_left 1
            · ((intro w hSw; (try dsimp only at hSw); unfold ps16_3; go_simp) <;> with_reducible rfl)
            (try simp only [Act.put, List.setIfInBounds_toArray, List.set_cons_zero, List.set_cons_succ])
            refine take_at 4 72 ps16_4 (v := ?_) (Or.inl ⟨by rfl, ?_⟩) ?_
            rotate_left 1
            · ((intro w hSw; (try dsimp only at hSw); unfold ps16_4; go_simp) <;> with_reducible rfl)
            (try simp only [Act.put, List.setIfInBounds_toArray, List.set_cons_zero, List.set_cons_succ])
            refine wpAnyH_ready (rs := [5]) (by kernel_rfl) (by simp) ?_
            refine AllReadyH.cons (o := ps16_5) rfl (fun K hK => ?_) ?_
            · unfold ps16_5
              go_simp
              (go_at_call 40; with_reducible refine Calls.mono HC2.out ?_)
              rintro e wn ⟨rfl, hf⟩
              unfold leaveP
              go_wp2
              rw [HXE.out]
              exact ⟨rfl, rfl, HSD.out.fr.trans hf⟩
            exact AllReadyH.nil
          | ok m =>
            obtain ⟨t1, u1, q1⟩ := m
            have HC2 : Hid (Calls Try.prog 40 #[.pointer (some ⟨c.P, 0, none⟩), .int .i64 ((d : Int) + 1)] wr.drew fun e w' => ∃ s, e = .returned (tv t1 s) ∧ LiesP w' (Own wr.drew.heap.size w') t1.kids s ∧ t1.fine ∧ PSt c u1 q1 w' ∧ Fp c wr.drew w') := HCALL.out.mono (fun e w' hg => by rw [hx] at hg; exact hg)
            have HXN := Lib.hid hx
            clear HCALL hx
            go_wp2_with fail
            go_region_law (first | (refine step_append_lies _ rfl _ _ 23 rfl (w3.heap.size + 1 + 1) 25 i0 _ 3 40 (by kernel_rfl) HI.out.1 HI.out.2.1 HI.out.2.2.1 HI.out.2.2.2 rfl (by decide) _ ps.length (cells5 ps) rfl (made_later (made_fp HMD.out HFN.out) ((Below.refl _ _).alloc (Nat.le_refl _) _)).own ⟨wn.heap.size, 0, none⟩ 1 1 (cells5 [(t1, .slice a2 t1.kids.length cap2)]) rfl rfl (news_new _ _ _ _) (by intro z hz; simp [cells5] at hz; rcases hz with rfl | rfl | rfl <;> rfl) (by decide) (by have := HPL.out; unfold maxLen; omega) (by have := HPL.out; omega) (by have := HSN.out.size; simp; omega) _ rfl ?_; intro g cap3 w9 hown hgrow hat _; have HPB := Lib.hid (made_push_fp HMD.out hdszd HFN.out HFI.out HLN.out _ hown hgrow (by rcases hat with h | h; exact Or.inl h; exact Or.inr (h.trans (by simp)))); have hs3 := (HSN.out.later ((Below.refl _ _).alloc (Nat.le_refl _) (.cells #[.int .i64 t1.k, .int .i64 t1.i, .slice a2 t1.kids.length cap2] 25))).grow hgrow hlo hDR (made_row (made_later (made_fp HMD.out HFN.out) ((Below.refl _ _).alloc (Nat.le_refl _) _))); have HS3 := Lib.hid hs3; obtain ⟨r0, r1, r2'⟩ := five_cells hs3.box; obtain ⟨s0, s1, s2'⟩ := five_free hs3.box; clear hown hgrow hat hs3) | (go_simp; go_at_call 40; (with_reducible refine Calls.mono HC2.out ?_); rintro e wn ⟨s1, rfl, hl1, hfi, hs1, hf1⟩; obtain ⟨a2, cap2, rfl, -, -⟩ := hl1.out; have HFN := Lib.hid hf1; have HLN := Lib.hid hl1; have HFI := Lib.hid hfi; have HSN := Lib.hid (HSD.out.call hf1 hs1); obtain ⟨r0, r1, r2'⟩ := five_cells HSN.out.box; have hdszd : w3.heap.size + 1 + 1 ≤ wr.drew.heap.size := hdsz; have hsn : w3.heap.size + 1 < wn.heap.size := HSN.out.size; clear hl1 hfi hs1 hf1))
            all_goals
              go_wp2_with fail
              go_roundw
              case rel =>
                have hlen1 := (HDL.out _ _ _ _ _ _ HXN.out).1
                exact ⟨j + 1, u1, q1, ps ++ [(t1, .slice a2 t1.kids.length cap2)], _, hlt, by go_num, by rw [show n - (j + 1) = m by have := HM.out; omega, List.map_append]; exact HKI.out.step HXN.out, by have := HPL.out; simp [Hid]; omega, by omega, Lib.hid (below_made HPB.out (by omega) _), Lib.hid (HS3.out.put hlo hDR _)⟩
              case measure => simp [intOf]; omega
        · obtain rfl : j = n := by omega
          have hkd := hki.out
          rw [Nat.sub_self] at hkd
          have HKD := Lib.hid hkd.done
          have hmdl := made_lies hmd.out
          have HSD := Lib.hid hsd.out
          obtain ⟨p0, p1, p2, plt⟩ := hsd.out.st.cells
          have HML := Lib.hid hmdl
          clear hki hpl hmd hsd hkd hmdl
          go_wp2_with fail
          refine (HSD.out.st.ptake 2).mono ?_
          intro e w6 hg
          cases hx : takeT c.E 2 q with
          | error ea =>
            rw [hx] at hg
            obtain ⟨rfl, hf⟩ := hg
            rw [fault_leave]
            unfold leaveP
            go_wp2
            rw [HKT.out _ _ _ HKD.out, hx]
            exact ⟨rfl, rfl, HSD.out.fr.trans hf⟩
          | ok p =>
            obtain ⟨z, q4⟩ := p
            rw [hx] at hg
            obtain ⟨rfl, hs6, hf6⟩ := hg
            have hs6' := HSD.out.call hf6 hs6
            have HX6 := Lib.hid hx
            have hl6 := liesP_fp HML.out hf6
            obtain ⟨al, cl, rfl, -, -⟩ := hl6.out
            rw [List.length_map] at hl6 hs6'
            have HS6 := Lib.hid hs6'
            clear hs6'
            have HE := Lib.hid (psd_end (x := Tm.mk 1 nm (ps.map fun p : Tm × Value => p.1)) HS6.out hlo hDR hl6)
            obtain ⟨x0, x1, x2⟩ := five_cells HS6.out.box
            obtain ⟨z0, z1, z2⟩ := five_cells HS6.out.res
            obtain ⟨g0, g1, g2⟩ := five_free HS6.out.res
            have hz6 := HS6.out.res
            clear hs6 hf6 hx hl6 y0 y1 y2 f0 f1 f2 p0 p1 p2
            go_wp2
            (try simp only [Exit.inBlock, Exit.then])
            refine bodyPost_ret (results_cell_row rfl _ _ w.heap.size _ _ _ du rfl (five_set hz6) hu1 (by cases du <;> first | rfl | exact hu2) size_term) rfl ?_
            rw [HKT.out _ _ _ HKD.out, HX6.out]
            exact ⟨_, rfl, HE.out.1, ⟨by unfold I64; show -9223372036854775808 ≤ (1 : Int) ∧ (1 : Int) ≤ 9223372036854775807; omega, by unfold I64; show -9223372036854775808 ≤ nm ∧ nm ≤ 9223372036854775807; omega⟩, HE.out.2.1, HE.out.2.2⟩
    · subst hc12
      go_wp2_with fail
      refine (HS.out.st.ptake 4).mono ?_
      intro e w4 hg
      cases hx : takeT c.E 4 r0 with
      | error ea =>
        rw [hx] at hg
        obtain ⟨rfl, hf⟩ := hg
        rw [fault_leave]
        unfold leaveP
        go_wp2
        rw [HRX.out, HRN.out, hx]
        exact ⟨rfl, rfl, HS.out.fr.trans hf⟩
      | ok p =>
      obtain ⟨tn, r2⟩ := p
      rw [hx] at hg
      obtain ⟨rfl, hs, hf⟩ := hg
      have htn := HS.out.st.tokOk hx
      have hl5 : r2.length ≤ r0.length := by have := takeT_len hx; omega
      have hgb := getB_d tn.s
      have HGE := Lib.hid (getV_eq tn.s)
      obtain ⟨z, hz⟩ : ∃ z, (getB tn.s).getD 0 = z := ⟨_, rfl⟩
      rw [hz] at hgb HGE
      obtain ⟨nm, hnm⟩ : ∃ nm : Int, nm = (z : Int) := ⟨_, rfl⟩
      have hnmR : 0 ≤ nm ∧ nm ≤ 1000000 := by omega
      have HKX := Lib.hid (show numD c.E _ r0 = .ok (nm, r2) by rw [HRN.out, hx]; dsimp only; rw [hz, hnm])
      have HS4 := Lib.hid (HS.out.call hf hs)
      clear hs hf hx y0 y1 y2 f0 f1 f2 t0 t1 t2 p0 p1 p2 plt hz
      obtain ⟨y0, y1, y2⟩ := five_cells HS4.out.box
      obtain ⟨f0, f1, f2⟩ := five_free HS4.out.box
      go_wp2_with fail
      refine (get_any ⟨tn.s.toArray⟩ w4 (by show tn.s.toArray.size ≤ maxLen; unfold maxLen; rw [List.size_toArray]; omega)).mono ?_
      rintro e w' ⟨rfl, hww⟩
      rw [hww]
      clear hww
      obtain ⟨bb, hbb⟩ := HGE.out
      rw [show (⟨tn.s.toArray⟩ : ByteArray).data.toList = tn.s from rfl, hbb, ← hnm]
      have HSV := Lib.hid (HS4.out.num hlo hDR nm)
      clear hnm
      go_upto_region 14 with fail
      clear y0 y1 y2 f0 f1 f2 HS
      obtain ⟨V, hV⟩ : ∃ V, V = w4.setCell ⟨(w3.heap.size + 1), 1, none⟩ (.int .i64 nm) := ⟨_, rfl⟩
      rw [← hV] at HSV
      rw [← hV]
      have HS := HSV
      clear hV HSV HS4 HGE hbb hgb
      obtain ⟨n, hn⟩ : ∃ n : Nat, dkidsN 2 = (n : Int) := ⟨(dkidsN 2).toNat, by have := dkids_nn (r := 2) (by omega); omega⟩
      have HKE := Lib.hid (fun ea (hk : kidsD dp (d + 1) n (u + 1) r2 = .error ea) => show X = .error ea by rw [HRX.out, HKX.out]; dsimp only; rw [hn, Int.toNat_natCast, hk])
      have HKT := Lib.hid (fun l u2 r3 (hk : kidsD dp (d + 1) n (u + 1) r2 = .ok (l, u2, r3)) => show X = (match takeT c.E 2 r3 with | .error e => .error (0, e) | .ok (_, r4) => .ok (.mk 2 nm l, u2, r4)) by rw [HRX.out, HKX.out]; dsimp only; rw [hn, Int.toNat_natCast, hk])
      have hn4 : n ≤ 4 := by have := (dkids_nn (r := 2) (by omega)).2; omega
      have HN := Lib.hid hn
      have HRF := Lib.hid hRR
      obtain ⟨y0, y1, y2⟩ := five_cells HS.out.box
      change V.cell? ⟨(w3.heap.size + 1), 0, none⟩ = some (.int .i64 2) at y0
      clear hn
      go_wp2_with fail
      refine (dkids_any 2 V).mono ?_
      rintro e w' ⟨rfl, rfl⟩
      rw [HN.out]
      clear y0 y1 y2
      go_wp2_with fail
      go_loopw [66] (fun i wr => ∃ (j u' : Nat) (q : List Tok) (ps : List (Tm × Value)) (vv : Value), j ≤ n ∧ i = .int .i64 j ∧ Hid (KInv dp (d + 1) n (u + 1) r2 (ps.map (·.1)) (n - j) u' q) ∧ Hid (ps.length = j) ∧ q.length ≤ r2.length ∧ Hid (Made (w3.heap.size + 1 + 1) wr vv ps) ∧ Hid (Stand c w (w3.heap.size + 1) (.mk 2 nm []) vv u' q wr)) (fun i _ => n - (intOf i).toNat)
      case atStart => exact ⟨0, u + 1, r2, [], _, Nat.zero_le _, rfl, KInv.start _ _ _ _ _, rfl, Nat.le_refl _, made_nil _ _, HS.out⟩
      case round =>
        clear HS
        obtain ⟨j, u', q, ps, vv, hj, rfl, hki, hpl, hql, hmd, hsd⟩ := hrel
        obtain ⟨y0, y1, y2⟩ := five_cells hsd.out.box
        obtain ⟨f0, f1, f2⟩ := five_free hsd.out.box
        by_cases hlt : j < n
        · have hlt' : (j : Int) < (n : Int) := by omega
          obtain ⟨m, hm⟩ : ∃ m, n - j = m + 1 := ⟨n - j - 1, by omega⟩
          have HKI := Lib.hid (show KInv dp (d + 1) n (u + 1) r2 (ps.map (·.1)) (m + 1) u' q by rw [← hm]; exact hki.out)
          have HM := Lib.hid hm
          have HSD := Lib.hid hsd.out.drew
          have HMD := Lib.hid (show Made (w3.heap.size + 1 + 1) wr.drew vv ps from made_fp hmd.out ((Fp.refl c wr).drew))
          have HPL := Lib.hid hpl.out
          have hdsz := hsd.out.size
          have HCALL := Lib.hid (show Calls Try.prog 40 #[.pointer (some ⟨c.P, 0, none⟩), .int .i64 ((d : Int) + 1)] wr.drew (DerG c wr.drew (dp (d + 1) u' q)) from by rw [show (d : Int) + 1 = ((d + 1 : Nat) : Int) by omega]; exact HL.out.use (d + 1) u' q wr.drew (by omega) (by omega) HSD.out.st)
          have hw1 : IntKind.i64.wrap ((d : Int) + 1) = (d : Int) + 1 := IntWalk.i64_in _ (by omega)
          have hw2 : IntKind.i64.wrap ((j : Int) + 1) = (j : Int) + 1 := IntWalk.i64_in _ (by omega)
          clear hki hpl hmd hsd hm
          cases hx : dp (d + 1) u' q with
          | error ea =>
            have HC2 : Hid (Calls Try.prog 40 #[.pointer (some ⟨c.P, 0, none⟩), .int .i64 ((d : Int) + 1)] wr.drew fun e w' => e = leaveP ea ∧ Fp c wr.drew w') := HCALL.out.mono (fun e w' hg => by rw [hx] at hg; exact hg)
            have HXE := Lib.hid (HKE.out _ (HKI.out.err hx))
            have hyd : wr.drew.cell? ⟨(w3.heap.size + 1), 2, none⟩ = some vv := y2
            clear HCALL
            go_wp2_with fail
            refine wp_region_held_drew (S := fun w' => w'.cell? ⟨(w3.heap.size + 1), 2, none⟩ = some vv) (by kernel_rfl) ?_ (fun hHeld => ?_)
            · (try dsimp only)
              exact hyd
            refine take_at 0 68 ps16_0 (v := ?_) (Or.inl ⟨by rfl, ?_⟩) ?_
            rotate_left 1
            · ((intro w hSw; (try dsimp only at hSw); unfold ps16_0; go_simp) <;> with_reducible rfl)
            (try simp only [Act.put, List.setIfInBounds_toArray, List.set_cons_zero, List.set_cons_succ])
            refine take_at 1 69 ps16_1 (v := ?_) (Or.inl ⟨by rfl, ?_⟩) ?_
            rotate_left 1
            · ((intro w hSw; (try dsimp only at hSw); unfold ps16_1; go_simp) <;> with_reducible rfl)
            (try simp only [Act.put, List.setIfInBounds_toArray, List.set_cons_zero, List.set_cons_succ])
            refine take_at 2 70 ps16_2 (v := ?_) (Or.inl ⟨by rfl, ?_⟩) ?_
            rotate_left 1
            · ((intro w hSw; (try dsimp only at hSw); unfold ps16_2; go_simp) <;> with_reducible rfl)
            (try simp only [Act.put, List.setIfInBounds_toArray, List.set_cons_zero, List.set_cons_succ])
            refine take_at 3 71 ps16_3 (v := ?_) (Or.inl ⟨by rfl, ?_⟩) ?_
            rotate_left 1
            · ((intro w hSw; (try dsimp only at hSw); unfold ps16_3; go_simp) <;> with_reducible rfl)
            (try simp only [Act.put, List.setIfInBounds_toArray, List.set_cons_zero, List.set_cons_succ])
            refine take_at 4 72 ps16_4 (v := ?_) (Or.inl ⟨by rfl, ?_⟩) ?_
            rotate_left 1
            · ((intro w hSw; (try dsimp only at hSw); unfold ps16_4; go_simp) <;> with_reducible rfl)
            (try simp only [Act.put, List.setIfInBounds_toArray, List.set_cons_zero, List.set_cons_succ])
            refine wpAnyH_ready (rs := [5]) (by kernel_rfl) (by simp) ?_
            refine AllReadyH.cons (o := ps16_5) rfl (fun K hK => ?_) ?_
            · unfold ps16_5
              go_simp
              (go_at_call 40; with_reducible refine Calls.mono HC2.out ?_)
              rintro e wn ⟨rfl, hf⟩
              unfold leaveP
              go_wp2
              rw [HXE.out]
              exact ⟨rfl, rfl, HSD.out.fr.trans hf⟩
            exact AllReadyH.nil
          | ok m =>
            obtain ⟨t1, u1, q1⟩ := m
            have HC2 : Hid (Calls Try.prog 40 #[.pointer (some ⟨c.P, 0, none⟩), .int .i64 ((d : Int) + 1)] wr.drew fun e w' => ∃ s, e = .returned (tv t1 s) ∧ LiesP w' (Own wr.drew.heap.size w') t1.kids s ∧ t1.fine ∧ PSt c u1 q1 w' ∧ Fp c wr.drew w') := HCALL.out.mono (fun e w' hg => by rw [hx] at hg; exact hg)
            have HXN := Lib.hid hx
            clear HCALL hx
            go_wp2_with fail
            go_region_law (first | (refine step_append_lies _ rfl _ _ 23 rfl (w3.heap.size + 1 + 1) 25 i0 _ 3 40 (by kernel_rfl) HI.out.1 HI.out.2.1 HI.out.2.2.1 HI.out.2.2.2 rfl (by decide) _ ps.length (cells5 ps) rfl (made_later (made_fp HMD.out HFN.out) ((Below.refl _ _).alloc (Nat.le_refl _) _)).own ⟨wn.heap.size, 0, none⟩ 1 1 (cells5 [(t1, .slice a2 t1.kids.length cap2)]) rfl rfl (news_new _ _ _ _) (by intro z hz; simp [cells5] at hz; rcases hz with rfl | rfl | rfl <;> rfl) (by decide) (by have := HPL.out; unfold maxLen; omega) (by have := HPL.out; omega) (by have := HSN.out.size; simp; omega) _ rfl ?_; intro g cap3 w9 hown hgrow hat _; have HPB := Lib.hid (made_push_fp HMD.out hdszd HFN.out HFI.out HLN.out _ hown hgrow (by rcases hat with h | h; exact Or.inl h; exact Or.inr (h.trans (by simp)))); have hs3 := (HSN.out.later ((Below.refl _ _).alloc (Nat.le_refl _) (.cells #[.int .i64 t1.k, .int .i64 t1.i, .slice a2 t1.kids.length cap2] 25))).grow hgrow hlo hDR (made_row (made_later (made_fp HMD.out HFN.out) ((Below.refl _ _).alloc (Nat.le_refl _) _))); have HS3 := Lib.hid hs3; obtain ⟨r0, r1, r2'⟩ := five_cells hs3.box; obtain ⟨s0, s1, s2'⟩ := five_free hs3.box; clear hown hgrow hat hs3) | (go_simp; go_at_call 40; (with_reducible refine Calls.mono HC2.out ?_); rintro e wn ⟨s1, rfl, hl1, hfi, hs1, hf1⟩; obtain ⟨a2, cap2, rfl, -, -⟩ := hl1.out; have HFN := Lib.hid hf1; have HLN := Lib.hid hl1; have HFI := Lib.hid hfi; have HSN := Lib.hid (HSD.out.call hf1 hs1); obtain ⟨r0, r1, r2'⟩ := five_cells HSN.out.box; have hdszd : w3.heap.size + 1 + 1 ≤ wr.drew.heap.size := hdsz; have hsn : w3.heap.size + 1 < wn.heap.size := HSN.out.size; clear hl1 hfi hs1 hf1))
            all_goals
              go_wp2_with fail
              go_roundw
              case rel =>
                have hlen1 := (HDL.out _ _ _ _ _ _ HXN.out).1
                exact ⟨j + 1, u1, q1, ps ++ [(t1, .slice a2 t1.kids.length cap2)], _, hlt, by go_num, by rw [show n - (j + 1) = m by have := HM.out; omega, List.map_append]; exact HKI.out.step HXN.out, by have := HPL.out; simp [Hid]; omega, by omega, Lib.hid (below_made HPB.out (by omega) _), Lib.hid (HS3.out.put hlo hDR _)⟩
              case measure => simp [intOf]; omega
        · obtain rfl : j = n := by omega
          have hkd := hki.out
          rw [Nat.sub_self] at hkd
          have HKD := Lib.hid hkd.done
          have hmdl := made_lies hmd.out
          have HSD := Lib.hid hsd.out
          obtain ⟨p0, p1, p2, plt⟩ := hsd.out.st.cells
          have HML := Lib.hid hmdl
          clear hki hpl hmd hsd hkd hmdl
          go_wp2_with fail
          refine (HSD.out.st.ptake 2).mono ?_
          intro e w6 hg
          cases hx : takeT c.E 2 q with
          | error ea =>
            rw [hx] at hg
            obtain ⟨rfl, hf⟩ := hg
            rw [fault_leave]
            unfold leaveP
            go_wp2
            rw [HKT.out _ _ _ HKD.out, hx]
            exact ⟨rfl, rfl, HSD.out.fr.trans hf⟩
          | ok p =>
            obtain ⟨z, q4⟩ := p
            rw [hx] at hg
            obtain ⟨rfl, hs6, hf6⟩ := hg
            have hs6' := HSD.out.call hf6 hs6
            have HX6 := Lib.hid hx
            have hl6 := liesP_fp HML.out hf6
            obtain ⟨al, cl, rfl, -, -⟩ := hl6.out
            rw [List.length_map] at hl6 hs6'
            have HS6 := Lib.hid hs6'
            clear hs6'
            have HE := Lib.hid (psd_end (x := Tm.mk 2 nm (ps.map fun p : Tm × Value => p.1)) HS6.out hlo hDR hl6)
            obtain ⟨x0, x1, x2⟩ := five_cells HS6.out.box
            obtain ⟨z0, z1, z2⟩ := five_cells HS6.out.res
            obtain ⟨g0, g1, g2⟩ := five_free HS6.out.res
            have hz6 := HS6.out.res
            clear hs6 hf6 hx hl6 y0 y1 y2 f0 f1 f2 p0 p1 p2
            go_wp2
            (try simp only [Exit.inBlock, Exit.then])
            refine bodyPost_ret (results_cell_row rfl _ _ w.heap.size _ _ _ du rfl (five_set hz6) hu1 (by cases du <;> first | rfl | exact hu2) size_term) rfl ?_
            rw [HKT.out _ _ _ HKD.out, HX6.out]
            exact ⟨_, rfl, HE.out.1, ⟨by unfold I64; show -9223372036854775808 ≤ (2 : Int) ∧ (2 : Int) ≤ 9223372036854775807; omega, by unfold I64; show -9223372036854775808 ≤ nm ∧ nm ≤ 9223372036854775807; omega⟩, HE.out.2.1, HE.out.2.2⟩
  · have hn1 : ¬ R = 1 := fun e => h12 (Or.inl e)
    have hn2 : ¬ R = 2 := fun e => h12 (Or.inr e)
    have HRX := Lib.hid (show X = (match numD c.E R r0 with | .error e => .error e | .ok (n, r2) => match kidsD dp (d + 1) (dkidsN R).toNat (u + 1) r2 with | .error e => .error e | .ok (l, u2, r3) => match takeT c.E 2 r3 with | .error e => .error (0, e) | .ok (_, r4) => .ok (.mk R n l, u2, r4)) by
      rw [HRD.out, ruleD, HX3.out]
      dsimp only
      rw [HRE.out, if_neg hr0]
      rfl)
    obtain ⟨nm, hnm⟩ : ∃ nm : Int, nm = 0 := ⟨_, rfl⟩
    have hnmR : 0 ≤ nm ∧ nm ≤ 1000000 := by omega
    obtain ⟨r2, hr2⟩ : ∃ r2, r2 = r0 := ⟨_, rfl⟩
    have HKX := Lib.hid (show numD c.E R r0 = .ok (nm, r2) by unfold numD; rw [if_neg h12, hnm, hr2])
    rw [← hnm] at HS
    rw [← hr2] at HS
    have hl5 : r2.length ≤ r0.length := by rw [hr2]; exact Nat.le_refl _
    clear hnm hr2 h12 t0 t1 t2
    go_upto_region 14 with fail
    clear y0 y1 y2 f0 f1 f2
    obtain ⟨V, hV⟩ : ∃ V, V = U := ⟨_, rfl⟩
    rw [← hV] at HS
    rw [← hV]
    clear hV
    obtain ⟨n, hn⟩ : ∃ n : Nat, dkidsN R = (n : Int) := ⟨(dkidsN R).toNat, by have := dkids_nn (r := R) (by omega); omega⟩
    have HKE := Lib.hid (fun ea (hk : kidsD dp (d + 1) n (u + 1) r2 = .error ea) => show X = .error ea by rw [HRX.out, HKX.out]; dsimp only; rw [hn, Int.toNat_natCast, hk])
    have HKT := Lib.hid (fun l u2 r3 (hk : kidsD dp (d + 1) n (u + 1) r2 = .ok (l, u2, r3)) => show X = (match takeT c.E 2 r3 with | .error e => .error (0, e) | .ok (_, r4) => .ok (.mk R nm l, u2, r4)) by rw [HRX.out, HKX.out]; dsimp only; rw [hn, Int.toNat_natCast, hk])
    have hn4 : n ≤ 4 := by have := (dkids_nn (r := R) (by omega)).2; omega
    have HN := Lib.hid hn
    have HRF := Lib.hid hRR
    obtain ⟨y0, y1, y2⟩ := five_cells HS.out.box
    change V.cell? ⟨(w3.heap.size + 1), 0, none⟩ = some (.int .i64 R) at y0
    clear hn
    go_wp2_with fail
    refine (dkids_any R V).mono ?_
    rintro e w' ⟨rfl, rfl⟩
    rw [HN.out]
    clear y0 y1 y2
    go_wp2_with fail
    go_loopw [66] (fun i wr => ∃ (j u' : Nat) (q : List Tok) (ps : List (Tm × Value)) (vv : Value), j ≤ n ∧ i = .int .i64 j ∧ Hid (KInv dp (d + 1) n (u + 1) r2 (ps.map (·.1)) (n - j) u' q) ∧ Hid (ps.length = j) ∧ q.length ≤ r2.length ∧ Hid (Made (w3.heap.size + 1 + 1) wr vv ps) ∧ Hid (Stand c w (w3.heap.size + 1) (.mk R nm []) vv u' q wr)) (fun i _ => n - (intOf i).toNat)
    case atStart => exact ⟨0, u + 1, r2, [], _, Nat.zero_le _, rfl, KInv.start _ _ _ _ _, rfl, Nat.le_refl _, made_nil _ _, HS.out⟩
    case round =>
      clear HS
      obtain ⟨j, u', q, ps, vv, hj, rfl, hki, hpl, hql, hmd, hsd⟩ := hrel
      obtain ⟨y0, y1, y2⟩ := five_cells hsd.out.box
      obtain ⟨f0, f1, f2⟩ := five_free hsd.out.box
      by_cases hlt : j < n
      · have hlt' : (j : Int) < (n : Int) := by omega
        obtain ⟨m, hm⟩ : ∃ m, n - j = m + 1 := ⟨n - j - 1, by omega⟩
        have HKI := Lib.hid (show KInv dp (d + 1) n (u + 1) r2 (ps.map (·.1)) (m + 1) u' q by rw [← hm]; exact hki.out)
        have HM := Lib.hid hm
        have HSD := Lib.hid hsd.out.drew
        have HMD := Lib.hid (show Made (w3.heap.size + 1 + 1) wr.drew vv ps from made_fp hmd.out ((Fp.refl c wr).drew))
        have HPL := Lib.hid hpl.out
        have hdsz := hsd.out.size
        have HCALL := Lib.hid (show Calls Try.prog 40 #[.pointer (some ⟨c.P, 0, none⟩), .int .i64 ((d : Int) + 1)] wr.drew (DerG c wr.drew (dp (d + 1) u' q)) from by rw [show (d : Int) + 1 = ((d + 1 : Nat) : Int) by omega]; exact HL.out.use (d + 1) u' q wr.drew (by omega) (by omega) HSD.out.st)
        have hw1 : IntKind.i64.wrap ((d : Int) + 1) = (d : Int) + 1 := IntWalk.i64_in _ (by omega)
        have hw2 : IntKind.i64.wrap ((j : Int) + 1) = (j : Int) + 1 := IntWalk.i64_in _ (by omega)
        clear hki hpl hmd hsd hm
        cases hx : dp (d + 1) u' q with
        | error ea =>
          have HC2 : Hid (Calls Try.prog 40 #[.pointer (some ⟨c.P, 0, none⟩), .int .i64 ((d : Int) + 1)] wr.drew fun e w' => e = leaveP ea ∧ Fp c wr.drew w') := HCALL.out.mono (fun e w' hg => by rw [hx] at hg; exact hg)
          have HXE := Lib.hid (HKE.out _ (HKI.out.err hx))
          have hyd : wr.drew.cell? ⟨(w3.heap.size + 1), 2, none⟩ = some vv := y2
          clear HCALL
          go_wp2_with fail
          refine wp_region_held_drew (S := fun w' => w'.cell? ⟨(w3.heap.size + 1), 2, none⟩ = some vv) (by kernel_rfl) ?_ (fun hHeld => ?_)
          · (try dsimp only)
            exact hyd
          refine take_at 0 68 ps16_0 (v := ?_) (Or.inl ⟨by rfl, ?_⟩) ?_
          rotate_left 1
          · ((intro w hSw; (try dsimp only at hSw); unfold ps16_0; go_simp) <;> with_reducible rfl)
          (try simp only [Act.put, List.setIfInBounds_toArray, List.set_cons_zero, List.set_cons_succ])
          refine take_at 1 69 ps16_1 (v := ?_) (Or.inl ⟨by rfl, ?_⟩) ?_
          rotate_left 1
          · ((intro w hSw; (try dsimp only at hSw); unfold ps16_1; go_simp) <;> with_reducible rfl)
          (try simp only [Act.put, List.setIfInBounds_toArray, List.set_cons_zero, List.set_cons_succ])
          refine take_at 2 70 ps16_2 (v := ?_) (Or.inl ⟨by rfl, ?_⟩) ?_
          rotate_left 1
          · ((intro w hSw; (try dsimp only at hSw); unfold ps16_2; go_simp) <;> with_reducible rfl)
          (try simp only [Act.put, List.setIfInBounds_toArray, List.set_cons_zero, List.set_cons_succ])
          refine take_at 3 71 ps16_3 (v := ?_) (Or.inl ⟨by rfl, ?_⟩) ?_
          rotate_left 1
          · ((intro w hSw; (try dsimp only at hSw); unfold ps16_3; go_simp) <;> with_reducible rfl)
          (try simp only [Act.put, List.setIfInBounds_toArray, List.set_cons_zero, List.set_cons_succ])
          refine take_at 4 72 ps16_4 (v := ?_) (Or.inl ⟨by rfl, ?_⟩) ?_
          rotate_left 1
          · ((intro w hSw; (try dsimp only at hSw); unfold ps16_4; go_simp) <;> with_reducible rfl)
          (try simp only [Act.put, List.setIfInBounds_toArray, List.set_cons_zero, List.set_cons_succ])
          refine wpAnyH_ready (rs := [5]) (by kernel_rfl) (by simp) ?_
          refine AllReadyH.cons (o := ps16_5) rfl (fun K hK => ?_) ?_
          · unfold ps16_5
            go_simp
            (go_at_call 40; with_reducible refine Calls.mono HC2.out ?_)
            rintro e wn ⟨rfl, hf⟩
            unfold leaveP
            go_wp2
            rw [HXE.out]
            exact ⟨rfl, rfl, HSD.out.fr.trans hf⟩
          exact AllReadyH.nil
        | ok m =>
          obtain ⟨t1, u1, q1⟩ := m
          have HC2 : Hid (Calls Try.prog 40 #[.pointer (some ⟨c.P, 0, none⟩), .int .i64 ((d : Int) + 1)] wr.drew fun e w' => ∃ s, e = .returned (tv t1 s) ∧ LiesP w' (Own wr.drew.heap.size w') t1.kids s ∧ t1.fine ∧ PSt c u1 q1 w' ∧ Fp c wr.drew w') := HCALL.out.mono (fun e w' hg => by rw [hx] at hg; exact hg)
          have HXN := Lib.hid hx
          clear HCALL hx
          go_wp2_with fail
          go_region_law (first | (refine step_append_lies _ rfl _ _ 23 rfl (w3.heap.size + 1 + 1) 25 i0 _ 3 40 (by kernel_rfl) HI.out.1 HI.out.2.1 HI.out.2.2.1 HI.out.2.2.2 rfl (by decide) _ ps.length (cells5 ps) rfl (made_later (made_fp HMD.out HFN.out) ((Below.refl _ _).alloc (Nat.le_refl _) _)).own ⟨wn.heap.size, 0, none⟩ 1 1 (cells5 [(t1, .slice a2 t1.kids.length cap2)]) rfl rfl (news_new _ _ _ _) (by intro z hz; simp [cells5] at hz; rcases hz with rfl | rfl | rfl <;> rfl) (by decide) (by have := HPL.out; unfold maxLen; omega) (by have := HPL.out; omega) (by have := HSN.out.size; simp; omega) _ rfl ?_; intro g cap3 w9 hown hgrow hat _; have HPB := Lib.hid (made_push_fp HMD.out hdszd HFN.out HFI.out HLN.out _ hown hgrow (by rcases hat with h | h; exact Or.inl h; exact Or.inr (h.trans (by simp)))); have hs3 := (HSN.out.later ((Below.refl _ _).alloc (Nat.le_refl _) (.cells #[.int .i64 t1.k, .int .i64 t1.i, .slice a2 t1.kids.length cap2] 25))).grow hgrow hlo hDR (made_row (made_later (made_fp HMD.out HFN.out) ((Below.refl _ _).alloc (Nat.le_refl _) _))); have HS3 := Lib.hid hs3; obtain ⟨r0, r1, r2'⟩ := five_cells hs3.box; obtain ⟨s0, s1, s2'⟩ := five_free hs3.box; clear hown hgrow hat hs3) | (go_simp; go_at_call 40; (with_reducible refine Calls.mono HC2.out ?_); rintro e wn ⟨s1, rfl, hl1, hfi, hs1, hf1⟩; obtain ⟨a2, cap2, rfl, -, -⟩ := hl1.out; have HFN := Lib.hid hf1; have HLN := Lib.hid hl1; have HFI := Lib.hid hfi; have HSN := Lib.hid (HSD.out.call hf1 hs1); obtain ⟨r0, r1, r2'⟩ := five_cells HSN.out.box; have hdszd : w3.heap.size + 1 + 1 ≤ wr.drew.heap.size := hdsz; have hsn : w3.heap.size + 1 < wn.heap.size := HSN.out.size; clear hl1 hfi hs1 hf1))
          all_goals
            go_wp2_with fail
            go_roundw
            case rel =>
              have hlen1 := (HDL.out _ _ _ _ _ _ HXN.out).1
              exact ⟨j + 1, u1, q1, ps ++ [(t1, .slice a2 t1.kids.length cap2)], _, hlt, by go_num, by rw [show n - (j + 1) = m by have := HM.out; omega, List.map_append]; exact HKI.out.step HXN.out, by have := HPL.out; simp [Hid]; omega, by omega, Lib.hid (below_made HPB.out (by omega) _), Lib.hid (HS3.out.put hlo hDR _)⟩
            case measure => simp [intOf]; omega
      · obtain rfl : j = n := by omega
        have hkd := hki.out
        rw [Nat.sub_self] at hkd
        have HKD := Lib.hid hkd.done
        have hmdl := made_lies hmd.out
        have HSD := Lib.hid hsd.out
        obtain ⟨p0, p1, p2, plt⟩ := hsd.out.st.cells
        have HML := Lib.hid hmdl
        clear hki hpl hmd hsd hkd hmdl
        go_wp2_with fail
        refine (HSD.out.st.ptake 2).mono ?_
        intro e w6 hg
        cases hx : takeT c.E 2 q with
        | error ea =>
          rw [hx] at hg
          obtain ⟨rfl, hf⟩ := hg
          rw [fault_leave]
          unfold leaveP
          go_wp2
          rw [HKT.out _ _ _ HKD.out, hx]
          exact ⟨rfl, rfl, HSD.out.fr.trans hf⟩
        | ok p =>
          obtain ⟨z, q4⟩ := p
          rw [hx] at hg
          obtain ⟨rfl, hs6, hf6⟩ := hg
          have hs6' := HSD.out.call hf6 hs6
          have HX6 := Lib.hid hx
          have hl6 := liesP_fp HML.out hf6
          obtain ⟨al, cl, rfl, -, -⟩ := hl6.out
          rw [List.length_map] at hl6 hs6'
          have HS6 := Lib.hid hs6'
          clear hs6'
          have HE := Lib.hid (psd_end (x := Tm.mk R nm (ps.map fun p : Tm × Value => p.1)) HS6.out hlo hDR hl6)
          obtain ⟨x0, x1, x2⟩ := five_cells HS6.out.box
          obtain ⟨z0, z1, z2⟩ := five_cells HS6.out.res
          obtain ⟨g0, g1, g2⟩ := five_free HS6.out.res
          have hz6 := HS6.out.res
          clear hs6 hf6 hx hl6 y0 y1 y2 f0 f1 f2 p0 p1 p2
          go_wp2
          (try simp only [Exit.inBlock, Exit.then])
          refine bodyPost_ret (results_cell_row rfl _ _ w.heap.size _ _ _ du rfl (five_set hz6) hu1 (by cases du <;> first | rfl | exact hu2) size_term) rfl ?_
          rw [HKT.out _ _ _ HKD.out, HX6.out]
          exact ⟨_, rfl, HE.out.1, ⟨by unfold I64; show -9223372036854775808 ≤ R ∧ R ≤ 9223372036854775807; omega, by unfold I64; show -9223372036854775808 ≤ nm ∧ nm ≤ 9223372036854775807; omega⟩, HE.out.2.1, HE.out.2.2⟩
theorem pderiv_any (c : PC) : ∀ f, DerC c f (derP c.deep c.nodes c.E f)
  | 0 => fun d u ts w hf _ _ => by omega
  | f + 1 => pderiv_step c f (pderiv_any c f)
end Go.Proofs.Ytdhfbphliejcdaa.Dv

namespace Go.Proofs.Ytdhfbphliejcdaa.Dv
open Go.RowKit

/-- A file by value. -/
abbrev fv (cv : Value) (t : Tm) (s : Value) : Value := .agg #[cv, .int .i64 t.k, .int .i64 t.i, s]
abbrev fileO (cv : Value) (k i : Int) (s : Value) : Obj := .cells #[cv, .int .i64 k, .int .i64 i, s] 27
theorem under_file : ∃ d, Try.prog.underlying 27 = some d ∧ (match d with | .struct _ | .array _ _ => true | _ => false) = true := by
  have h : (Try.prog.underlying 27).map (fun d => match d with | .struct _ | .array _ _ => true | _ => false) = some true := by kernel_rfl
  cases e : Try.prog.underlying 27 with
  | none => rw [e] at h; cases h
  | some d => rw [e] at h; exact ⟨d, rfl, Option.some.inj h⟩
theorem size_file : (Try.prog.info? 27).map (·.size) = some 4 := by kernel_rfl
theorem four_cells {w : World} {g : Nat} {v0 v1 v2 v3 : Value} {T : TypeId} (h : w.heap[g]? = some (.cells #[v0, v1, v2, v3] T (0, 0))) :
    w.cell? ⟨g, 0, none⟩ = some v0 ∧ w.cell? ⟨g, 1, none⟩ = some v1 ∧ w.cell? ⟨g, 2, none⟩ = some v2 ∧ w.cell? ⟨g, 3, none⟩ = some v3 := by
  refine ⟨?_, ?_, ?_, ?_⟩ <;> (rw [cell_of_row w g _ _ _ _ h]; rfl)
theorem four_free {w : World} {g : Nat} {cs : Array Value} {T : TypeId} (h : w.heap[g]? = some (.cells cs T (0, 0))) :
    w.frozen? ⟨g, 0, none⟩ = false ∧ w.frozen? ⟨g, 1, none⟩ = false ∧ w.frozen? ⟨g, 2, none⟩ = false ∧ w.frozen? ⟨g, 3, none⟩ = false :=
  ⟨open_unfrozen h _, open_unfrozen h _, open_unfrozen h _, open_unfrozen h _⟩
abbrev four (w : World) (g : Nat) (v0 v1 v2 v3 : Value) : World := (((w.setCell ⟨g, 0, none⟩ v0).setCell ⟨g, 1, none⟩ v1).setCell ⟨g, 2, none⟩ v2).setCell ⟨g, 3, none⟩ v3
theorem four_set {w : World} {g : Nat} {T : TypeId} {z0 z1 z2 z3 v0 v1 v2 v3 : Value} (h : w.heap[g]? = some (.cells #[z0, z1, z2, z3] T (0, 0))) :
    (four w g v0 v1 v2 v3).heap[g]? = some (.cells #[v0, v1, v2, v3] T (0, 0)) :=
  heap_setCell_same _ _ _ _ _ _ (heap_setCell_same _ _ _ _ _ _ (heap_setCell_same _ _ _ _ _ _ (heap_setCell_same _ _ _ _ _ _ h)))
/-- A step that writes a block of the sort of files. -/
theorem PSt.file {c : PC} {u : Nat} {ts : List Tok} {w w' : World} (h : PSt c u ts w) {b : Nat} (hg : w.grownBy w' (some b)) {cs : Array Value} {fz : Nat × Nat} (hb : w.heap[b]? = some (Obj.cells cs 27 fz)) : PSt c u ts w' := by
  obtain ⟨tv, h1, h2⟩ := h.str
  have old : ∀ {q : Nat} {cs : Array Value} {T : TypeId} {fz : Nat × Nat}, T ≠ 27 → w.heap[q]? = some (Obj.cells cs T fz) → w'.heap[q]? = some (Obj.cells cs T fz) := fun {q cs T fz} hne e => by
    rw [hg.block q (hltD e) (fun e2 => by obtain rfl := Option.some.inj e2; exact hne (typeD e hb))]; exact e
  refine ⟨h.bS, h.bP, h.bG, Nat.le_trans h.lo hg.size, ⟨tv, ?_, ?_⟩, ?_, ?_, h.tok, h.few⟩
  · exact old (by decide) h1
  · exact h2.keep fun g cs fz e => old (by decide) e
  · exact old (by decide) h.par
  · exact old (by decide) h.bud
/-- What stands by when a file is parsed: the result's block, the file's block. -/
structure StandF (c : PC) (w : World) (D : Nat) (cv : Value) (k i : Int) (s : Value) (u : Nat) (ts : List Tok) (w' : World) : Prop where
  box : w'.heap[D]? = some (fileO cv k i s)
  res : w'.heap[w.heap.size]? = some (fileO (.slice none 0 0) 0 0 (.slice none 0 0))
  st : PSt c u ts w'
  fr : Fp c w w'
theorem StandF.size {c : PC} {w w' : World} {D u : Nat} {cv : Value} {k i : Int} {s : Value} {ts : List Tok} (h : StandF c w D cv k i s u ts w') : D < w'.heap.size := hltD h.box
theorem StandF.drew {c : PC} {w w' : World} {D u : Nat} {cv : Value} {k i : Int} {s : Value} {ts : List Tok} (h : StandF c w D cv k i s u ts w') : StandF c w D cv k i s u ts w'.drew := ⟨h.box, h.res, h.st.drew, h.fr.drew⟩
theorem StandF.call {c : PC} {w w' wn : World} {D u u1 : Nat} {cv : Value} {k i : Int} {s : Value} {ts r : List Tok} (h : StandF c w D cv k i s u ts w') (hf : Fp c w' wn) (hs : PSt c u1 r wn) : StandF c w D cv k i s u1 r wn :=
  ⟨hf.kept _ _ _ _ h.box (by decide) (by decide), hf.kept _ _ _ _ h.res (by decide) (by decide), hs, h.fr.trans hf⟩
theorem StandF.later {c : PC} {w w' wn : World} {D u : Nat} {cv : Value} {k i : Int} {s : Value} {ts : List Tok} (h : StandF c w D cv k i s u ts w') (hb : Below w'.heap.size w' wn) : StandF c w D cv k i s u ts wn :=
  h.call (Fp.later hb h.st.lo) (h.st.later hb)
theorem StandF.grow {c : PC} {w w' wn : World} {D u : Nat} {cv : Value} {k i : Int} {s : Value} {ts : List Tok} (h : StandF c w D cv k i s u ts w') {row : Option Nat} (hg : w'.grownBy wn row) (hlo : c.B ≤ w.heap.size) (hD : w.heap.size < D) (hb : ∀ b, row = some b → D + 1 ≤ b ∧ ∃ cs fz, w'.heap[b]? = some (Obj.cells cs 25 fz)) : StandF c w D cv k i s u ts wn :=
  ⟨by rw [hg.block _ h.size (fun e => by have := (hb D e.symm).1; omega)]; exact h.box, by rw [hg.block _ (hltD h.res) (fun e => by have := (hb _ e.symm).1; omega)]; exact h.res,
    h.st.other hg (fun b e => ⟨by have := (hb b e).1; omega, (hb b e).2⟩), h.fr.row hg (fun b e => by have := (hb b e).1; omega) hlo⟩
theorem StandF.put {c : PC} {w w' : World} {D u : Nat} {cv : Value} {k i : Int} {s : Value} {ts : List Tok} (h : StandF c w D cv k i s u ts w') (hlo : c.B ≤ w.heap.size) (hD : w.heap.size < D) (v' : Value) : StandF c w D v' k i s u ts (w'.setCell ⟨D, 0, none⟩ v') :=
  ⟨heap_setCell_same _ _ 0 _ _ v' h.box, (Below.heap_setCell _ _ _ _ (by show w.heap.size ≠ D; omega)).trans h.res,
    h.st.file (setD_grown w' D 0 v') h.box, h.fr.row (setD_grown w' D 0 v') (fun b e => by obtain rfl := Option.some.inj e; omega) hlo⟩
abbrev putF (w' : World) (D : Nat) (k i : Int) (s : Value) : World := ((w'.setCell ⟨D, 1, none⟩ (.int .i64 k)).setCell ⟨D, 2, none⟩ (.int .i64 i)).setCell ⟨D, 3, none⟩ s
theorem StandF.deriv {c : PC} {w w' : World} {D u : Nat} {cv : Value} {k i : Int} {s : Value} {ts : List Tok} (h : StandF c w D cv k i s u ts w') (hlo : c.B ≤ w.heap.size) (hD : w.heap.size < D) (k' i' : Int) (s' : Value) : StandF c w D cv k' i' s' u ts (putF w' D k' i' s') := by
  have hg : w'.grownBy (putF w' D k' i' s') (some D) := ((setD_grown _ _ _ _).trans (setD_grown _ _ _ _)).trans (setD_grown _ _ _ _)
  exact ⟨heap_setCell_same _ _ 3 _ _ s' (heap_setCell_same _ _ 2 _ _ _ (heap_setCell_same _ _ 1 _ _ _ h.box)), (hg.block _ (hltD h.res) (fun e => by have := Option.some.inj e; omega)).trans h.res,
    h.st.file hg h.box, h.fr.row hg (fun b e => by obtain rfl := Option.some.inj e; omega) hlo⟩
/-- The contexts, some of them done. -/
def CInv (dp : DP) (E f u0 : Nat) (ts0 : List Tok) (acc : List Tm) (m u : Nat) (ts : List Tok) : Prop := ctxD dp E f u0 ts0 = (match ctxD dp E m u ts with
  | .error e => .error e
  | .ok (l, u2, r) => .ok (acc ++ l, u2, r))
theorem CInv.start (dp : DP) (E f u : Nat) (ts : List Tok) : CInv dp E f u ts [] f u ts := by
  unfold CInv
  cases ctxD dp E f u ts with
  | error e => rfl
  | ok x => rfl
theorem CInv.err {dp : DP} {E f u0 m u : Nat} {ts0 ts : List Tok} {acc : List Tm} {e : PF} (h : CInv dp E f u0 ts0 acc (m + 1) u ts) (hn : ((ts.head?.map fun t => t.k == 2).getD false) = false) (hx : dp 1 u ts = .error e) : ctxD dp E f u0 ts0 = .error e := by
  unfold CInv at h
  rw [h, ctxD, if_neg (by rw [hn]; decide), hx]
theorem CInv.step {dp : DP} {E f u0 m u u1 : Nat} {ts0 ts r : List Tok} {acc : List Tm} {t : Tm} (h : CInv dp E f u0 ts0 acc (m + 1) u ts) (hn : ((ts.head?.map fun t => t.k == 2).getD false) = false) (hx : dp 1 u ts = .ok (t, u1, r)) : CInv dp E f u0 ts0 (acc ++ [t]) m u1 r := by
  unfold CInv at h ⊢
  rw [h, ctxD, if_neg (by rw [hn]; decide), hx]
  dsimp only
  cases ctxD dp E m u1 r with
  | error e => rfl
  | ok x => obtain ⟨l, u2, r2⟩ := x; simp
theorem CInv.done {dp : DP} {E f u0 m u : Nat} {ts0 ts : List Tok} {acc : List Tm} (h : CInv dp E f u0 ts0 acc (m + 1) u ts) (hn : ((ts.head?.map fun t => t.k == 2).getD false) = true) : ctxD dp E f u0 ts0 = .ok (acc, u, ts) := by
  unfold CInv at h
  rw [h, ctxD, if_pos hn]
  simp
/-- What the parsing of a file gives. -/
def FileG (c : PC) (w : World) (x : Except PF ((List Tm × Tm) × List Tok)) (e : Ending) (w' : World) : Prop :=
  match x with
  | .error a => e = leaveP a ∧ Fp c w w'
  | .ok ((l, t), r) => ∃ cv s, e = .returned (fv cv t s) ∧ LiesP w' (Own w.heap.size w') l cv ∧ LiesP w' (Own w.heap.size w') t.kids s ∧ t.fine ∧ (∃ u, PSt c u r w') ∧ Fp c w w'
/-- The end: the file is stored as the result. -/
theorem psf_end {c : PC} {w w' : World} {D u : Nat} {cv : Value} {k i : Int} {s : Value} {r : List Tok} {l l2 : List Tm} (h : StandF c w D cv k i s u r w') (hlo : c.B ≤ w.heap.size) (hD : w.heap.size < D) (hl : LiesP w' (Own (D + 1) w') l cv) (hl2 : LiesP w' (Own (D + 1) w') l2 s) :
    LiesP (four w' w.heap.size cv (.int .i64 k) (.int .i64 i) s) (Own w.heap.size (four w' w.heap.size cv (.int .i64 k) (.int .i64 i) s)) l cv ∧ LiesP (four w' w.heap.size cv (.int .i64 k) (.int .i64 i) s) (Own w.heap.size (four w' w.heap.size cv (.int .i64 k) (.int .i64 i) s)) l2 s ∧ PSt c u r (four w' w.heap.size cv (.int .i64 k) (.int .i64 i) s) ∧ Fp c w (four w' w.heap.size cv (.int .i64 k) (.int .i64 i) s) := by
  have hg : w'.grownBy (four w' w.heap.size cv (.int .i64 k) (.int .i64 i) s) (some w.heap.size) := (((setD_grown _ _ _ _).trans (setD_grown _ _ _ _)).trans (setD_grown _ _ _ _)).trans (setD_grown _ _ _ _)
  have hk : ∀ b, w.heap.size < b → b < w'.heap.size → (four w' w.heap.size cv (.int .i64 k) (.int .i64 i) s).heap[b]? = w'.heap[b]? := fun b h1 h2 => hg.block b h2 (fun e => by have := Option.some.inj e; omega)
  exact ⟨hl.keep (fun b hb hlt => hk b (by have := hb.1; omega) hlt) (fun b hb hlt => (hb.from (by omega)).same (hk b (by have := hb.1; omega) hlt)), hl2.keep (fun b hb hlt => hk b (by have := hb.1; omega) hlt) (fun b hb hlt => (hb.from (by omega)).same (hk b (by have := hb.1; omega) hlt)), h.st.file hg h.res, h.fr.row hg (fun b e => by obtain rfl := Option.some.inj e; exact Nat.le_refl _) hlo⟩
def psf8_0 : Oper := { dst := some 32, op := Go.Op.fieldAddr 27 (Go.Operand.tmp 4) 0, type := 0, pos := "parse.go:52", after := #[], guard := none }
def psf8_1 : Oper := { dst := some 33, op := Go.Op.load 23 (Go.Operand.tmp 32), type := 23, pos := "parse.go:52", after := #[{ on := 0, ground := Go.Ground.data }], guard := none }
def psf8_2 : Oper := { dst := some 34, op := Go.Op.move (Go.Operand.tmp 0), type := 86, pos := "parse.go:52", after := #[], guard := none }
def psf8_3 : Oper := { dst := some 35, op := Go.Op.call { callee := Go.Callee.value (Go.Operand.func 40), args := #[Go.Operand.tmp 34, Go.Operand.const (Go.Value.int Go.IntKind.i64 1)], argTypes := #[86, 3] }, type := 25, pos := "parse.go:52", after := #[{ on := 2, ground := Go.Ground.data }], guard := none }
set_option maxHeartbeats 8000000 in
set_option maxRecDepth 20000 in
theorem pfile_any (c : PC) (f : Nat) (dp : DP) (hL : DerC c f dp) (hDL : DpL dp) (ts : List Tok) (w : World) (hf : ts.length < f) (h : PSt c 0 ts w) : Calls Try.prog 20 #[.pointer (some ⟨c.P, 0, none⟩)] w (FileG c w (fileP dp c.E f ts)) := by
  obtain ⟨df, hu1, hu2⟩ := under_file
  obtain ⟨i0, hi, hz0, hz1, hz2⟩ := info_parts info_term
  have HI := Lib.hid (And.intro hi (And.intro hz0 (And.intro hz1 hz2)))
  have hlo := h.lo
  have hfew := h.few
  have HL := Lib.hid hL
  have HDL := Lib.hid hDL
  have HS0 := Lib.hid (h.alloc (fileO (.slice none 0 0) 0 0 (.slice none 0 0)))
  have HF0 := Lib.hid (Fp.later ((Below.refl w.heap.size w).alloc (Nat.le_refl _) (fileO (.slice none 0 0) 0 0 (.slice none 0 0))) hlo)
  have HR0 := Lib.hid (show (w.alloc (fileO (.slice none 0 0) 0 0 (.slice none 0 0))).heap[w.heap.size]? = some (fileO (.slice none 0 0) 0 0 (.slice none 0 0)) from alloc_new _ _)
  obtain ⟨X, hX⟩ : ∃ X, X = fileP dp c.E f ts := ⟨_, rfl⟩
  rw [← hX]
  unfold fileP at hX
  have HV := Lib.hid hX
  obtain ⟨p0, p1, p2, plt⟩ := HS0.out.cells
  have hfld := field_tok
  clear hL h hi hz0 hz1 hz2 hX hDL
  go_enter Try.func20, Try.ntmps20
  go_wp2_with fail
  refine (HS0.out.ptake 1).mono ?_
  intro e w1 hg
  cases hx : takeT c.E 1 ts with
  | error ea =>
    rw [hx] at hg
    obtain ⟨rfl, hf⟩ := hg
    rw [fault_leave]
    unfold leaveP
    go_wp2
    rw [HV.out, hx]
    exact ⟨rfl, rfl, HF0.out.trans hf⟩
  | ok p =>
  obtain ⟨o1, r1⟩ := p
  rw [hx] at hg
  obtain ⟨rfl, hs, hf⟩ := hg
  have hl1 := takeT_len hx
  have HS1 := Lib.hid hs
  have HF1 := Lib.hid (HF0.out.trans hf)
  have HR1 := Lib.hid (hf.kept _ _ _ _ HR0.out (by decide) (by decide))
  rw [hx] at HV
  simp only at HV
  clear hs hf hx p0 p1 p2 plt HS0 HF0 HR0
  obtain ⟨p0, p1, p2, plt⟩ := HS1.out.cells
  go_wp2_with fail
  refine (HS1.out.ptake 3).mono ?_
  intro e w3 hg
  cases hx : takeT c.E 3 r1 with
  | error ea =>
    rw [hx] at hg
    obtain ⟨rfl, hf⟩ := hg
    rw [fault_leave]
    unfold leaveP
    go_wp2
    rw [HV.out, hx]
    exact ⟨rfl, rfl, HF1.out.trans hf⟩
  | ok p =>
  obtain ⟨tk, r2⟩ := p
  rw [hx] at hg
  obtain ⟨rfl, hs, hf⟩ := hg
  have hl3 := takeT_len hx
  have htl := HS1.out.tokOk hx
  have hr3 := hf.kept _ _ _ _ HR1.out (by decide) (by decide)
  rw [hx] at HV
  simp only at HV
  have hb1 := (Below.refl w3.heap.size w3).alloc (Nat.le_refl _) (.cells #[.int .i64 tk.k, .string ⟨tk.s.toArray⟩, .int .i64 tk.at_] 87)
  have hb2 := (Below.refl (w3.alloc (.cells #[.int .i64 tk.k, .string ⟨tk.s.toArray⟩, .int .i64 tk.at_] 87)).heap.size (w3.alloc (.cells #[.int .i64 tk.k, .string ⟨tk.s.toArray⟩, .int .i64 tk.at_] 87))).alloc (Nat.le_refl _) (.cells #[.slice none 0 0, .int .i64 0, .int .i64 0, .slice none 0 0] 27)
  have hb := hb1.trans (hb2.mono hb1.size)
  have HSX := Lib.hid (show StandF c w (w3.heap.size + 1) (.slice none 0 0) 0 0 (.slice none 0 0) 0 r2 ((w3.alloc (.cells #[.int .i64 tk.k, .string ⟨tk.s.toArray⟩, .int .i64 tk.at_] 87)).alloc (.cells #[.slice none 0 0, .int .i64 0, .int .i64 0, .slice none 0 0] 27)) from ⟨by have h := alloc_new (w3.alloc (.cells #[.int .i64 tk.k, .string ⟨tk.s.toArray⟩, .int .i64 tk.at_] 87)) (.cells #[.slice none 0 0, .int .i64 0, .int .i64 0, .slice none 0 0] 27); rw [World.size_alloc] at h; exact h, (hb.block _ (hltD hr3)).trans hr3, hs.later hb, (HF1.out.trans hf).trans (Fp.later hb hs.lo)⟩)
  have HT3 := Lib.hid (show (w3.alloc (.cells #[.int .i64 tk.k, .string ⟨tk.s.toArray⟩, .int .i64 tk.at_] 87)).heap[w3.heap.size]? = some (.cells #[.int .i64 tk.k, .string ⟨tk.s.toArray⟩, .int .i64 tk.at_] 87) from alloc_new _ _)
  have HF3 := Lib.hid ((HF1.out.trans hf).trans (Fp.later hb1 hs.lo))
  have hDR : w.heap.size < w3.heap.size + 1 := by have := hltD hr3; omega
  obtain ⟨t0, t1, t2⟩ := five_cells HT3.out
  clear hs hf hx hr3 hb1 hb2 hb p0 p1 p2 plt HS1 HF1 HR1
  by_cases si : tk.s = fileW
  rotate_left 1
  · have sb : (tk.s == [102, 105, 108, 101]) = false := by simpa [fileW] using si
    rw [if_neg si] at HV
    go_wp2_with fail
    refine (fail_any _ _).mono ?_
    rintro e w' ⟨rfl, rfl⟩
    rw [fault_leave]
    unfold leaveP
    go_wp2
    rw [HV.out]
    exact ⟨rfl, rfl, HF3.out⟩
  have sb : (tk.s == [102, 105, 108, 101]) = true := by rw [si]; rfl
  rw [if_pos si] at HV
  have HSIB := Lib.hid sb
  rw [si] at HSX
  go_upto_region 6 with fail
  clear t0 t1 t2 si sb HT3 HF3
  obtain ⟨U, hU⟩ : ∃ U, U = (w3.alloc (.cells #[.int .i64 tk.k, .string ⟨fileW.toArray⟩, .int .i64 tk.at_] 87)).alloc (.cells #[.slice none 0 0, .int .i64 0, .int .i64 0, .slice none 0 0] 27) := ⟨_, rfl⟩
  rw [← hU] at HSX
  rw [← hU]
  clear hU
  obtain ⟨p0, p1, p2, plt⟩ := HSX.out.st.cells
  go_wp2_with fail
  refine (HSX.out.st.ptake 1).mono ?_
  intro e w4 hg
  cases hx : takeT c.E 1 r2 with
  | error ea =>
    rw [hx] at hg
    obtain ⟨rfl, hf⟩ := hg
    rw [fault_leave]
    unfold leaveP
    go_wp2
    rw [HV.out, hx]
    exact ⟨rfl, rfl, HSX.out.fr.trans hf⟩
  | ok p =>
  obtain ⟨o4, r3⟩ := p
  rw [hx] at hg
  obtain ⟨rfl, hs, hf⟩ := hg
  have hl4 := takeT_len hx
  have HS := Lib.hid (HSX.out.call hf hs)
  rw [hx] at HV
  simp only at HV
  clear hs hf hx p0 p1 p2 plt HSX
  go_wp2_with fail
  go_loopg [] r3.length (fun g wr => ∃ (m u' : Nat) (q : List Tok) (ps : List (Tm × Value)) (vv : Value), g = q.length ∧ Hid (CInv dp c.E f 0 r3 (ps.map (·.1)) m u' q) ∧ q.length < m ∧ q.length ≤ r3.length ∧ Hid (ps.length + q.length ≤ r3.length) ∧ Hid (Made (w3.heap.size + 1 + 1) wr vv ps) ∧ Hid (StandF c w (w3.heap.size + 1) vv 0 0 (.slice none 0 0) u' q wr))
  case atStart => exact ⟨f, 0, r3, [], _, rfl, CInv.start _ _ _ _ _, by omega, Nat.le_refl _, by simp [Hid], made_nil _ _, HS.out⟩
  case round =>
    clear HS
    obtain ⟨m, u', q, ps, vv, hgq, hci, hqm, hql, hpl, hmd, hsd⟩ := hrel
    have HGQ := Lib.hid hgq
    clear hgq
    obtain ⟨y0, y1, y2, y3⟩ := four_cells hsd.out.box
    obtain ⟨f0, f1, f2, f3⟩ := four_free hsd.out.box
    obtain ⟨p0, p1, p2, plt⟩ := hsd.out.st.cells
    obtain ⟨m, rfl⟩ : ∃ m', m = m' + 1 := ⟨m - 1, by omega⟩
    cases hnx : ((q.head?.map fun t => t.k == 2).getD false) with
    | false =>
      have HNX := Lib.hid hnx
      have HCI := Lib.hid hci.out
      have HSD0 := Lib.hid hsd.out
      have HSD := Lib.hid hsd.out.drew
      have HMD := Lib.hid (made_fp hmd.out ((Fp.refl c wr).drew))
      have HPL := Lib.hid hpl.out
      have hdsz := hsd.out.size
      have HCALL := Lib.hid (HL.out.use 1 u' q wr.drew (by omega) (by omega) HSD.out.st)
      clear hci hpl hmd hsd
      go_wp2_with fail
      refine (HSD0.out.st.pnext 2).mono ?_
      rintro e w' ⟨rfl, hww⟩
      rw [← hww, hnx]
      clear hww hnx HSD0 p0 p1 p2 plt
      cases hx : dp 1 u' q with
      | error ea =>
        have HC2 : Hid (Calls Try.prog 40 #[.pointer (some ⟨c.P, 0, none⟩), .int .i64 1] wr.drew fun e w' => e = leaveP ea ∧ Fp c wr.drew w') := HCALL.out.mono (fun e w' hg => by rw [hx] at hg; exact hg)
        have HCE := HCI.out.err HNX.out hx
        rw [HCE] at HV
        simp only at HV
        have HXE := HV
        have hyd : wr.drew.cell? ⟨(w3.heap.size + 1), 0, none⟩ = some vv := y0
        clear HCALL HCE
        go_wp2_with fail
        refine wp_region_held_drew (S := fun w' => w'.cell? ⟨(w3.heap.size + 1), 0, none⟩ = some vv) (by kernel_rfl) ?_ (fun hHeld => ?_)
        · (try dsimp only)
          exact hyd
        refine take_at 0 32 psf8_0 (v := ?_) (Or.inl ⟨by rfl, ?_⟩) ?_
        rotate_left 1
        · ((intro w hSw; (try dsimp only at hSw); unfold psf8_0; go_simp) <;> with_reducible rfl)
        (try simp only [Act.put, List.setIfInBounds_toArray, List.set_cons_zero, List.set_cons_succ])
        refine take_at 1 33 psf8_1 (v := ?_) (Or.inl ⟨by rfl, ?_⟩) ?_
        rotate_left 1
        · ((intro w hSw; (try dsimp only at hSw); unfold psf8_1; go_simp) <;> with_reducible rfl)
        (try simp only [Act.put, List.setIfInBounds_toArray, List.set_cons_zero, List.set_cons_succ])
        refine take_at 2 34 psf8_2 (v := ?_) (Or.inl ⟨by rfl, ?_⟩) ?_
        rotate_left 1
        · ((intro w hSw; (try dsimp only at hSw); unfold psf8_2; go_simp) <;> with_reducible rfl)
        (try simp only [Act.put, List.setIfInBounds_toArray, List.set_cons_zero, List.set_cons_succ])
        refine wpAnyH_ready (rs := [3]) (by kernel_rfl) (by simp) ?_
        refine AllReadyH.cons (o := psf8_3) rfl (fun K hK => ?_) ?_
        · unfold psf8_3
          go_simp
          (go_at_call 40; with_reducible refine Calls.mono HC2.out ?_)
          rintro e wn ⟨rfl, hf⟩
          unfold leaveP
          go_wp2
          rw [HXE.out]
          exact ⟨rfl, rfl, HSD.out.fr.trans hf⟩
        exact AllReadyH.nil
      | ok p =>
        obtain ⟨t1, u1, q1⟩ := p
        have HC2 : Hid (Calls Try.prog 40 #[.pointer (some ⟨c.P, 0, none⟩), .int .i64 1] wr.drew fun e w' => ∃ s, e = .returned (tv t1 s) ∧ LiesP w' (Own wr.drew.heap.size w') t1.kids s ∧ t1.fine ∧ PSt c u1 q1 w' ∧ Fp c wr.drew w') := HCALL.out.mono (fun e w' hg => by rw [hx] at hg; exact hg)
        have HXN := Lib.hid hx
        clear HCALL hx
        go_wp2_with fail
        go_region_law (first | (refine step_append_lies _ rfl _ _ 23 rfl (w3.heap.size + 1 + 1) 25 i0 _ 3 40 (by kernel_rfl) HI.out.1 HI.out.2.1 HI.out.2.2.1 HI.out.2.2.2 rfl (by decide) _ ps.length (cells5 ps) rfl (made_later (made_fp HMD.out HFN.out) ((Below.refl _ _).alloc (Nat.le_refl _) _)).own ⟨wn.heap.size, 0, none⟩ 1 1 (cells5 [(t1, .slice a2 t1.kids.length cap2)]) rfl rfl (news_new _ _ _ _) (by intro z hz; simp [cells5] at hz; rcases hz with rfl | rfl | rfl <;> rfl) (by decide) (by have := HPL.out; unfold maxLen; omega) (by have := HPL.out; omega) (by have := HSN.out.size; simp; omega) _ rfl ?_; intro g cap3 w9 hown hgrow hat _; have HPB := Lib.hid (made_push_fp HMD.out hdszd HFN.out HFI.out HLN.out _ hown hgrow (by rcases hat with h | h; exact Or.inl h; exact Or.inr (h.trans (by simp)))); have hs3 := (HSN.out.later ((Below.refl _ _).alloc (Nat.le_refl _) (.cells #[.int .i64 t1.k, .int .i64 t1.i, .slice a2 t1.kids.length cap2] 25))).grow hgrow hlo hDR (made_row (made_later (made_fp HMD.out HFN.out) ((Below.refl _ _).alloc (Nat.le_refl _) _))); have HS3 := Lib.hid hs3; obtain ⟨r0, r1', r2', r3'⟩ := four_cells hs3.box; obtain ⟨s0, s1, s2', s3'⟩ := four_free hs3.box; clear hown hgrow hat hs3) | (go_simp; go_at_call 40; (with_reducible refine Calls.mono HC2.out ?_); rintro e wn ⟨s1, rfl, hl1, hfi, hs1, hf1⟩; obtain ⟨a2, cap2, rfl, -, -⟩ := hl1.out; have HFN := Lib.hid hf1; have HLN := Lib.hid hl1; have HFI := Lib.hid hfi; have HSN := Lib.hid (HSD.out.call hf1 hs1); obtain ⟨r0, r1', r2', r3'⟩ := four_cells HSN.out.box; have hdszd : w3.heap.size + 1 + 1 ≤ wr.drew.heap.size := hdsz; have hsn : w3.heap.size + 1 < wn.heap.size := HSN.out.size; clear hl1 hfi hs1 hf1))
        all_goals
          have hlen1 := (HDL.out _ _ _ _ _ _ HXN.out).1
          go_wp2_with fail
          go_roundg q1.length
          case measure => rw [HGQ.out]; exact hlen1
          case rel =>
            exact ⟨m, u1, q1, ps ++ [(t1, .slice a2 t1.kids.length cap2)], _, rfl, by rw [List.map_append]; exact HCI.out.step HNX.out HXN.out, by omega, by omega, by have := HPL.out; simp [Hid]; omega, Lib.hid (below_made HPB.out (by omega) _), Lib.hid (HS3.out.put hlo hDR _)⟩
    | true =>
      have HSD := Lib.hid hsd.out
      have hcd := hci.out.done hnx
      rw [hcd] at HV
      simp only at HV
      have HML := Lib.hid (made_lies hmd.out)
      clear hci hpl hmd hsd hcd
      go_wp2_with fail
      refine (HSD.out.st.pnext 2).mono ?_
      rintro e w' ⟨rfl, hww⟩
      rw [← hww, hnx]
      clear hww hnx
      go_wp2_with fail
      refine (HSD.out.st.ptake 2).mono ?_
      intro e w5 hg
      cases hx : takeT c.E 2 q with
      | error ea =>
        rw [hx] at hg
        obtain ⟨rfl, hf⟩ := hg
        rw [fault_leave]
        unfold leaveP
        go_wp2
        rw [HV.out, hx]
        exact ⟨rfl, rfl, HSD.out.fr.trans hf⟩
      | ok p =>
      obtain ⟨o5, q2⟩ := p
      rw [hx] at hg
      obtain ⟨rfl, hs, hf⟩ := hg
      have hl5 := takeT_len hx
      have HS5 := Lib.hid (HSD.out.call hf hs)
      have HM5 := Lib.hid (liesP_fp HML.out hf)
      rw [hx] at HV
      simp only at HV
      clear hs hf hx y0 y1 y2 y3 f0 f1 f2 f3 p0 p1 p2 plt HSD HML
      have HCALL := Lib.hid (HL.out.use 1 u' q2 w5 (by omega) (by omega) HS5.out.st)
      go_wp2_with fail
      refine HCALL.out.mono ?_
      intro e w6 hg
      cases hx : dp 1 u' q2 with
      | error ea =>
        rw [hx] at hg
        obtain ⟨rfl, hf⟩ := hg
        unfold leaveP
        go_wp2
        rw [HV.out, hx]
        exact ⟨rfl, rfl, HS5.out.fr.trans hf⟩
      | ok p =>
      obtain ⟨t, u2, q3⟩ := p
      rw [hx] at hg
      obtain ⟨s, rfl, hl, hfi, hs, hf⟩ := hg
      obtain ⟨a2, cap2, rfl, -, -⟩ := hl.out
      have hlen2 := (HDL.out _ _ _ _ _ _ hx).1
      have HS6 := Lib.hid (HS5.out.call hf hs)
      have HM6 := Lib.hid (liesP_fp HM5.out hf)
      have hsz5 := HS5.out.size
      have HK6 := Lib.hid (hl.from (B' := w3.heap.size + 1 + 1) (by omega))
      have HFI := Lib.hid hfi
      rw [hx] at HV
      simp only at HV
      obtain ⟨y0, y1, y2, y3⟩ := four_cells HS6.out.box
      obtain ⟨f0, f1, f2, f3⟩ := four_free HS6.out.box
      clear hs hf hx hl hfi HCALL HS5 HM5
      have hg7 : w6.grownBy (putF w6 (w3.heap.size + 1) t.k t.i (.slice a2 t.kids.length cap2)) (some (w3.heap.size + 1)) := ((setD_grown _ _ _ _).trans (setD_grown _ _ _ _)).trans (setD_grown _ _ _ _)
      have hk7 : ∀ b, w3.heap.size + 1 < b → b < w6.heap.size → (putF w6 (w3.heap.size + 1) t.k t.i (.slice a2 t.kids.length cap2)).heap[b]? = w6.heap[b]? := fun b h1 h2 => hg7.block b h2 (fun e => by have := Option.some.inj e; omega)
      have HM7 := Lib.hid (HM6.out.keep (w' := putF w6 (w3.heap.size + 1) t.k t.i (.slice a2 t.kids.length cap2)) (Q := Own (w3.heap.size + 1 + 1) (putF w6 (w3.heap.size + 1) t.k t.i (.slice a2 t.kids.length cap2))) (fun b hb hlt => hk7 b (by have := hb.1; omega) hlt) (fun b hb hlt => hb.same (hk7 b (by have := hb.1; omega) hlt)))
      have HK7 := Lib.hid (HK6.out.keep (w' := putF w6 (w3.heap.size + 1) t.k t.i (.slice a2 t.kids.length cap2)) (Q := Own (w3.heap.size + 1 + 1) (putF w6 (w3.heap.size + 1) t.k t.i (.slice a2 t.kids.length cap2))) (fun b hb hlt => hk7 b (by have := hb.1; omega) hlt) (fun b hb hlt => hb.same (hk7 b (by have := hb.1; omega) hlt)))
      have HS7 := Lib.hid (HS6.out.deriv hlo hDR t.k t.i (.slice a2 t.kids.length cap2))
      clear hg7 hk7 HM6 HK6
      unfold tv
      go_upto_region 11 with fail
      clear y0 y1 y2 y3 f0 f1 f2 f3
      obtain ⟨V, hV⟩ : ∃ V, V = ((w6.setCell ⟨w3.heap.size + 1, 1, none⟩ (.int .i64 t.k)).setCell ⟨w3.heap.size + 1, 2, none⟩ (.int .i64 t.i)).setCell ⟨w3.heap.size + 1, 3, none⟩ (.slice a2 t.kids.length cap2) := ⟨_, rfl⟩
      have hV2 : V = putF w6 (w3.heap.size + 1) t.k t.i (.slice a2 t.kids.length cap2) := hV
      rw [← hV2] at HS7 HM7 HK7
      rw [← hV]
      clear hV hV2 HS6
      obtain ⟨p0, p1, p2, plt⟩ := HS7.out.st.cells
      go_wp2_with fail
      refine (HS7.out.st.ptake 2).mono ?_
      intro e w8 hg
      cases hx : takeT c.E 2 q3 with
      | error ea =>
        rw [hx] at hg
        obtain ⟨rfl, hf⟩ := hg
        rw [fault_leave]
        unfold leaveP
        go_wp2
        rw [HV.out, hx]
        exact ⟨rfl, rfl, HS7.out.fr.trans hf⟩
      | ok p =>
      obtain ⟨o6, q4⟩ := p
      rw [hx] at hg
      obtain ⟨rfl, hs, hf⟩ := hg
      have HS8 := Lib.hid (HS7.out.call hf hs)
      have hl8 := liesP_fp HM7.out hf
      have hk8 := liesP_fp HK7.out hf
      rw [hx] at HV
      simp only at HV
      obtain ⟨al, cl, rfl, -, -⟩ := hl8.out
      have hs8 := HS8.out
      rw [List.length_map] at hl8 hs8
      have HS8 := Lib.hid hs8
      clear hs8
      have HE := Lib.hid (psf_end HS8.out hlo hDR hl8 hk8)
      obtain ⟨y0, y1, y2, y3⟩ := four_cells HS8.out.box
      obtain ⟨z0, z1, z2, z3⟩ := four_cells HS8.out.res
      obtain ⟨g0, g1, g2, g3⟩ := four_free HS8.out.res
      have hz8 := HS8.out.res
      clear hs hf hx hl8 hk8 p0 p1 p2 plt HM7 HK7 HS7
      go_wp2
      (try simp only [Exit.inBlock, Exit.then])
      refine bodyPost_ret (results_cell_row rfl _ _ w.heap.size _ _ _ df rfl (four_set hz8) hu1 (by cases df <;> first | rfl | exact hu2) size_file) rfl ?_
      rw [HV.out]
      exact ⟨_, _, rfl, HE.out.1, HE.out.2.1, HFI.out, ⟨_, HE.out.2.2.1⟩, HE.out.2.2.2⟩
end Go.Proofs.Ytdhfbphliejcdaa.Dv

namespace Go.Proofs.Ytdhfbphliejcdaa.Dv
open Go.RowKit

theorem belowD {B b : Nat} {w w' : World} (hB : B ≤ b) (hg : w.grownBy w' (some b)) (hlo : B ≤ w.heap.size) : Below B w w' := ⟨hg.os, hg.tape, hg.output, hg.size, fun k hk => hg.block k (by omega) (fun e => by have := Option.some.inj e; omega)⟩
abbrev zF : Obj := fileO (.slice none 0 0) 0 0 (.slice none 0 0)
abbrev oE (k : Int) : Obj := .cells #[.int .i64 k] 28
abbrev oA (a : Int) : Obj := .cells #[.int .i64 a] 3
abbrev oS (s : ByteArray) : Obj := .cells #[.string s] 9
theorem assertF (a : Nat) (w : World) : (Instr.typeAssert (.iface 57 (.agg #[.int .i64 a])) 20 57 true).run Try.prog w = .ok (.tuple #[.agg #[.int .i64 a], .bool true]) w := by kernel_rfl
theorem assertFB (a : Nat) (w : World) : (Instr.typeAssert (.iface 57 (.agg #[.int .i64 a])) 20 55 true).run Try.prog w = .ok (.tuple #[.agg #[.int .i64 0, .string ⟨#[]⟩], .bool false]) w := by kernel_rfl
theorem assertB (a : Nat) (s : ByteArray) (w : World) : (Instr.typeAssert (.iface 55 (.agg #[.int .i64 a, .string s])) 20 55 true).run Try.prog w = .ok (.tuple #[.agg #[.int .i64 a, .string s], .bool true]) w := by kernel_rfl
/-- What the closure leaves in the results of a parsing that failed. -/
def CatchF (B : Nat) (k : Int) (a : Nat) (s : ByteArray) (w w' : World) : Prop := w'.heap[B]? = some zF ∧ w'.heap[B + 1]? = some (oE k) ∧ w'.heap[B + 2]? = some (oA a) ∧ w'.heap[B + 3]? = some (oS s) ∧ Below B w w'
theorem catch_drewF {B : Nat} {k : Int} {a : Nat} {s : ByteArray} {w w' : World} (h : CatchF B k a s w w') : CatchF B k a s w w'.drew := ⟨h.1, h.2.1, h.2.2.1, h.2.2.2.1, h.2.2.2.2.drew⟩
/-- The four results as they stand. -/
structure Four (B : Nat) (w : World) : Prop where
  f : ∃ v0 v1 v2 v3, w.heap[B]? = some (.cells #[v0, v1, v2, v3] 27 (0, 0))
  e : ∃ x, w.heap[B + 1]? = some (.cells #[x] 28 (0, 0))
  a : ∃ x, w.heap[B + 2]? = some (.cells #[x] 3 (0, 0))
  s : ∃ x, w.heap[B + 3]? = some (.cells #[x] 9 (0, 0))
theorem catch_fin {B : Nat} {w W : World} {v0 v1 v2 v3 x y z : Value} (hF : W.heap[B]? = some (.cells #[v0, v1, v2, v3] 27 (0, 0))) (hE : W.heap[B + 1]? = some (.cells #[x] 28 (0, 0))) (hA : W.heap[B + 2]? = some (.cells #[y] 3 (0, 0))) (hS : W.heap[B + 3]? = some (.cells #[z] 9 (0, 0))) (hb : Below B w W) (k : Int) (a : Nat) (s : ByteArray) :
    CatchF B k a s w ((((four W B (.slice none 0 0) (.int .i64 0) (.int .i64 0) (.slice none 0 0)).setCell ⟨B + 1, 0, none⟩ (.int .i64 k)).setCell ⟨B + 2, 0, none⟩ (.int .i64 a)).setCell ⟨B + 3, 0, none⟩ (.string s)) := by
  have c4 : W.grownBy (four W B (.slice none 0 0) (.int .i64 0) (.int .i64 0) (.slice none 0 0)) (some B) := (((setD_grown _ _ _ _).trans (setD_grown _ _ _ _)).trans (setD_grown _ _ _ _)).trans (setD_grown _ _ _ _)
  have k0 : (four W B (.slice none 0 0) (.int .i64 0) (.int .i64 0) (.slice none 0 0)).heap[B]? = some zF := four_set hF
  have hsF := hltD hF
  have hsE := hltD hE
  have hsA := hltD hA
  have hsS := hltD hS
  have k1 := (c4.block (B + 1) hsE (fun e => by have := Option.some.inj e; omega)).trans hE
  have k2 := (c4.block (B + 2) hsA (fun e => by have := Option.some.inj e; omega)).trans hA
  have k3 := (c4.block (B + 3) hsS (fun e => by have := Option.some.inj e; omega)).trans hS
  have hb4 := hb.trans (belowD (B := B) (Nat.le_refl _) c4 (by omega))
  have hs4 := c4.size
  generalize four W B (.slice none 0 0) (.int .i64 0) (.int .i64 0) (.slice none 0 0) = V at k0 k1 k2 k3 hb4 hs4 ⊢
  have m1 := setD_grown V (B + 1) 0 (.int .i64 k)
  have m2 := setD_grown (V.setCell ⟨B + 1, 0, none⟩ (.int .i64 k)) (B + 2) 0 (.int .i64 a)
  have m3 := setD_grown ((V.setCell ⟨B + 1, 0, none⟩ (.int .i64 k)).setCell ⟨B + 2, 0, none⟩ (.int .i64 a)) (B + 3) 0 (.string s)
  have z1 : (V.setCell ⟨B + 1, 0, none⟩ (.int .i64 k)).heap.size = V.heap.size := by simp
  have z2 : ((V.setCell ⟨B + 1, 0, none⟩ (.int .i64 k)).setCell ⟨B + 2, 0, none⟩ (.int .i64 a)).heap.size = V.heap.size := by simp
  refine ⟨?_, ?_, ?_, ?_, ?_⟩
  · exact (((m3.block B (by omega) (fun e => by have := Option.some.inj e; omega)).trans (m2.block B (by omega) (fun e => by have := Option.some.inj e; omega))).trans (m1.block B (by omega) (fun e => by have := Option.some.inj e; omega))).trans k0
  · exact ((m3.block (B + 1) (by omega) (fun e => by have := Option.some.inj e; omega)).trans (m2.block (B + 1) (by omega) (fun e => by have := Option.some.inj e; omega))).trans (heap_setCell_same _ _ _ _ _ _ k1)
  · exact (m3.block (B + 2) (by omega) (fun e => by have := Option.some.inj e; omega)).trans (heap_setCell_same _ _ _ _ _ _ ((m1.block (B + 2) (by omega) (fun e => by have := Option.some.inj e; omega)).trans k2))
  · exact heap_setCell_same _ _ _ _ _ _ (((m2.block (B + 3) (by omega) (fun e => by have := Option.some.inj e; omega)).trans (m1.block (B + 3) (by omega) (fun e => by have := Option.some.inj e; omega))).trans k3)
  · exact ((hb4.trans (belowD (by omega) m1 (by omega))).trans (belowD (by omega) m2 (by omega))).trans (belowD (by omega) m3 (by omega))
theorem catch_drew {W : World} {p : Addr} {v : Value} (h : W.cell? p = some v) : W.drew.cell? p = some v := h
theorem catch_keep {W : World} {b i n q : Nat} {x v : Value} (h : W.cell? ⟨n, q, none⟩ = some v) (hne : n ≠ b) : (W.setCell ⟨b, i, none⟩ x).cell? ⟨n, q, none⟩ = some v := (World.cell?_of_block (a := ⟨n, q, none⟩) (Below.heap_setCell _ _ _ _ (by show n ≠ b; exact hne))).trans h
theorem tm27 (p0 p1 p2 p3 v : Value) : #[p0, p1, p2, p3] ++ (Array.replicate 23 undef).setIfInBounds 5 v = #[p0, p1, p2, p3, undef, undef, undef, undef, undef, v, undef, undef, undef, undef, undef, undef, undef, undef, undef, undef, undef, undef, undef, undef, undef, undef, undef] := by
  apply Array.toList_inj.1
  rw [Array.toList_append, Array.toList_setIfInBounds, Array.toList_replicate]
  rfl
def psv3_0 : Oper := { dst := some 15, op := Go.Op.build 27 #[], type := 27, pos := "parse.go:23", after := #[], guard := none }
def psv3_1 : Oper := { dst := some 16, op := Go.Op.fieldAddr 57 (Go.Operand.tmp 7) 0, type := 0, pos := "parse.go:23", after := #[{ on := 4, ground := Go.Ground.gcOnly Go.Departure.lateStores }], guard := none }
def psv3_2 : Oper := { dst := some 17, op := Go.Op.load 3 (Go.Operand.tmp 16), type := 3, pos := "parse.go:23", after := #[{ on := 1, ground := Go.Ground.data }, { on := 4, ground := Go.Ground.gcOnly Go.Departure.lateStores }], guard := none }
def psv3_3 : Oper := { dst := none, op := Go.Op.store 27 (Go.Operand.tmp 0) (Go.Operand.tmp 15), type := 0, pos := "parse.go:23", after := #[{ on := 0, ground := Go.Ground.data }, { on := 0, ground := Go.Ground.phase }, { on := 1, ground := Go.Ground.textOnly Go.Departure.lateStores }, { on := 2, ground := Go.Ground.textOnly Go.Departure.lateStores }], guard := none }
def psv3_4 : Oper := { dst := none, op := Go.Op.store 28 (Go.Operand.tmp 1) (Go.Operand.const (Go.Value.int Go.IntKind.i64 2)), type := 0, pos := "parse.go:23", after := #[{ on := 3, ground := Go.Ground.chain }, { on := 0, ground := Go.Ground.phase }, { on := 1, ground := Go.Ground.textOnly Go.Departure.lateStores }, { on := 2, ground := Go.Ground.textOnly Go.Departure.lateStores }, { on := 3, ground := Go.Ground.phase }], guard := none }
def psv3_5 : Oper := { dst := none, op := Go.Op.store 3 (Go.Operand.tmp 2) (Go.Operand.tmp 17), type := 0, pos := "parse.go:23", after := #[{ on := 2, ground := Go.Ground.data }, { on := 4, ground := Go.Ground.chain }, { on := 0, ground := Go.Ground.phase }, { on := 1, ground := Go.Ground.phase }, { on := 2, ground := Go.Ground.phase }, { on := 3, ground := Go.Ground.phase }, { on := 4, ground := Go.Ground.phase }], guard := none }
def psv3_6 : Oper := { dst := none, op := Go.Op.store 9 (Go.Operand.tmp 3) (Go.Operand.const (Go.Value.string { data := #[] })), type := 0, pos := "parse.go:23", after := #[{ on := 5, ground := Go.Ground.chain }, { on := 0, ground := Go.Ground.phase }, { on := 1, ground := Go.Ground.phase }, { on := 2, ground := Go.Ground.phase }, { on := 3, ground := Go.Ground.phase }, { on := 4, ground := Go.Ground.phase }, { on := 5, ground := Go.Ground.phase }], guard := none }
def psv8_0 : Oper := { dst := some 22, op := Go.Op.build 27 #[], type := 27, pos := "parse.go:20", after := #[], guard := none }
def psv8_1 : Oper := { dst := some 23, op := Go.Op.fieldAddr 55 (Go.Operand.tmp 5) 0, type := 0, pos := "parse.go:20", after := #[{ on := 6, ground := Go.Ground.gcOnly Go.Departure.lateStores }], guard := none }
def psv8_2 : Oper := { dst := some 24, op := Go.Op.load 3 (Go.Operand.tmp 23), type := 3, pos := "parse.go:20", after := #[{ on := 1, ground := Go.Ground.data }, { on := 6, ground := Go.Ground.gcOnly Go.Departure.lateStores }], guard := none }
def psv8_3 : Oper := { dst := some 25, op := Go.Op.fieldAddr 55 (Go.Operand.tmp 5) 1, type := 0, pos := "parse.go:20", after := #[{ on := 7, ground := Go.Ground.gcOnly Go.Departure.lateStores }], guard := none }
def psv8_4 : Oper := { dst := some 26, op := Go.Op.load 9 (Go.Operand.tmp 25), type := 9, pos := "parse.go:20", after := #[{ on := 3, ground := Go.Ground.data }, { on := 7, ground := Go.Ground.gcOnly Go.Departure.lateStores }], guard := none }
def psv8_5 : Oper := { dst := none, op := Go.Op.store 27 (Go.Operand.tmp 0) (Go.Operand.tmp 22), type := 0, pos := "parse.go:20", after := #[{ on := 0, ground := Go.Ground.data }, { on := 0, ground := Go.Ground.phase }, { on := 1, ground := Go.Ground.textOnly Go.Departure.lateStores }, { on := 2, ground := Go.Ground.textOnly Go.Departure.lateStores }, { on := 3, ground := Go.Ground.textOnly Go.Departure.lateStores }, { on := 4, ground := Go.Ground.textOnly Go.Departure.lateStores }], guard := none }
def psv8_6 : Oper := { dst := none, op := Go.Op.store 28 (Go.Operand.tmp 1) (Go.Operand.const (Go.Value.int Go.IntKind.i64 4)), type := 0, pos := "parse.go:20", after := #[{ on := 5, ground := Go.Ground.chain }, { on := 0, ground := Go.Ground.phase }, { on := 1, ground := Go.Ground.textOnly Go.Departure.lateStores }, { on := 2, ground := Go.Ground.textOnly Go.Departure.lateStores }, { on := 3, ground := Go.Ground.textOnly Go.Departure.lateStores }, { on := 4, ground := Go.Ground.textOnly Go.Departure.lateStores }, { on := 5, ground := Go.Ground.phase }], guard := none }
def psv8_7 : Oper := { dst := none, op := Go.Op.store 3 (Go.Operand.tmp 2) (Go.Operand.tmp 24), type := 0, pos := "parse.go:20", after := #[{ on := 2, ground := Go.Ground.data }, { on := 6, ground := Go.Ground.chain }, { on := 0, ground := Go.Ground.phase }, { on := 1, ground := Go.Ground.phase }, { on := 2, ground := Go.Ground.phase }, { on := 3, ground := Go.Ground.textOnly Go.Departure.lateStores }, { on := 4, ground := Go.Ground.textOnly Go.Departure.lateStores }, { on := 5, ground := Go.Ground.phase }, { on := 6, ground := Go.Ground.phase }], guard := none }
def psv8_8 : Oper := { dst := none, op := Go.Op.store 9 (Go.Operand.tmp 3) (Go.Operand.tmp 26), type := 0, pos := "parse.go:20", after := #[{ on := 4, ground := Go.Ground.data }, { on := 7, ground := Go.Ground.chain }, { on := 0, ground := Go.Ground.phase }, { on := 1, ground := Go.Ground.phase }, { on := 2, ground := Go.Ground.phase }, { on := 3, ground := Go.Ground.phase }, { on := 4, ground := Go.Ground.phase }, { on := 5, ground := Go.Ground.phase }, { on := 6, ground := Go.Ground.phase }, { on := 7, ground := Go.Ground.phase }], guard := none }
set_option maxHeartbeats 4000000 in
set_option maxRecDepth 20000 in
theorem catch_fault (B : Nat) (a : Nat) (w : World) (h4 : Four B w) :
    CallsD Try.prog 19 #[.pointer (some ⟨B, 0, none⟩), .pointer (some ⟨B + 1, 0, none⟩), .pointer (some ⟨B + 2, 0, none⟩), .pointer (some ⟨B + 3, 0, none⟩)] (.panicking ({ v := .iface 57 (.agg #[.int .i64 a]), recovered := false } :: [])) w fun e u' w' =>
      e = .returned (.tuple #[]) ∧ u' = .panicking ({ v := .iface 57 (.agg #[.int .i64 a]), recovered := true } :: []) ∧ CatchF B 2 a ⟨#[]⟩ w w' := by
  obtain ⟨⟨v0, v1, v2, v3, hT⟩, ⟨x, hE⟩, ⟨y, hA⟩, ⟨z, hS⟩⟩ := h4
  refine callsD_of_wpS Try.func19 rfl fun c₀ cs hu => ?_
  apply wpS_seq
  apply wpS_region
  simp [wpOpsS, go_sem, recoverD, hu, Try.ntmps19, Exit.thenS]
  refine wpS_of_wp (wp_mono (Q := fun e a' w' => e = Exit.normal ∧ a'.defers = [] ∧ CatchF B 2 a ⟨#[]⟩ w w') ?_ (fun e a' w' h => ?_))
  · have hta := assertF
    have htb := assertFB
    have htc := assertB
    have hb := (Below.refl w.heap.size w).alloc (Nat.le_refl _) (.cells #[.int .i64 a] 57)
    have hT1 := (hb.block _ (hltD hT)).trans hT
    have hE1 := (hb.block _ (hltD hE)).trans hE
    have hA1 := (hb.block _ (hltD hA)).trans hA
    have hS1 := (hb.block _ (hltD hS)).trans hS
    have hF1 : (w.alloc (.cells #[.int .i64 a] 57)).heap[w.heap.size]? = some (.cells #[.int .i64 a] 57) := alloc_new _ _
    have hs1 : w.heap.size < (w.alloc (.cells #[.int .i64 a] 57)).heap.size := by simp
    have hBS : B < w.heap.size ∧ B + 1 < w.heap.size ∧ B + 2 < w.heap.size ∧ B + 3 < w.heap.size := ⟨hltD hT, hltD hE, hltD hA, hltD hS⟩
    have HB := Lib.hid (hb.mono (Nat.le_of_lt hBS.1))
    clear hT hE hA hS hu hb
    rw [tm27]
    go_upto_region 3 with fail
    obtain ⟨W, hW⟩ : ∃ W, W = w.alloc (.cells #[.int .i64 a] 57) := ⟨_, rfl⟩
    rw [← hW] at hT1 hE1 hA1 hS1 hF1 hs1 HB
    rw [← hW]
    clear hW
    obtain ⟨x0, x1, x2, x3⟩ := four_cells hT1
    obtain ⟨f0, f1, f2, f3⟩ := four_free hT1
    have x5 : W.cell? ⟨B + 1, 0, none⟩ = some x := by rw [Lib.cell_of_heap hE1]; rfl
    have x6 : W.cell? ⟨B + 2, 0, none⟩ = some y := by rw [Lib.cell_of_heap hA1]; rfl
    have x7 : W.cell? ⟨B + 3, 0, none⟩ = some z := by rw [Lib.cell_of_heap hS1]; rfl
    have x8 : W.cell? ⟨w.heap.size, 0, none⟩ = some (.int .i64 a) := by rw [Lib.cell_of_heap hF1]; rfl
    have f5 : W.frozen? ⟨B + 1, 0, none⟩ = false := Lib.frozen_of_heap hE1 0
    have f6 : W.frozen? ⟨B + 2, 0, none⟩ = false := Lib.frozen_of_heap hA1 0
    have f7 : W.frozen? ⟨B + 3, 0, none⟩ = false := Lib.frozen_of_heap hS1 0
    have HH := Lib.hid (catch_drewF (catch_fin (W := W) hT1 hE1 hA1 hS1 HB.out 2 a ⟨#[]⟩))
    have hne : w.heap.size ≠ B := by omega
    have hne1 : w.heap.size ≠ B + 1 := by omega
    have hne2 : w.heap.size ≠ B + 2 := by omega
    have hne3 : w.heap.size ≠ B + 3 := by omega
    have hWs : w.heap.size < W.heap.size := hs1
    clear hT1 hE1 hA1 hS1 hF1 hta htb htc
    refine wp_region_held_drew (S := fun w' => w'.cell? ⟨w.heap.size, 0, none⟩ = some (.int .i64 a)) (by kernel_rfl) ?_ (fun hHeld => ?_)
    · (try dsimp only)
      repeat (first | with_reducible exact x8 | with_reducible refine catch_drew ?_ | with_reducible refine catch_keep ?_ (by assumption))
    refine take_at 0 15 psv3_0 (v := ?_) (Or.inl ⟨by rfl, ?_⟩) ?_
    rotate_left 1
    · ((intro w hSw; (try dsimp only at hSw); unfold psv3_0; go_simp) <;> with_reducible rfl)
    (try simp only [Act.put, List.setIfInBounds_toArray, List.set_cons_zero, List.set_cons_succ])
    refine take_at 1 16 psv3_1 (v := ?_) (Or.inl ⟨by rfl, ?_⟩) ?_
    rotate_left 1
    · ((intro w hSw; (try dsimp only at hSw); unfold psv3_1; go_simp) <;> with_reducible rfl)
    (try simp only [Act.put, List.setIfInBounds_toArray, List.set_cons_zero, List.set_cons_succ])
    refine take_at 2 17 psv3_2 (v := ?_) (Or.inl ⟨by rfl, ?_⟩) ?_
    rotate_left 1
    · ((intro w hSw; (try dsimp only at hSw); unfold psv3_2; go_simp) <;> with_reducible rfl)
    (try simp only [Act.put, List.setIfInBounds_toArray, List.set_cons_zero, List.set_cons_succ])
    refine wpAnyH_ready (rs := [3]) (by kernel_rfl) (by simp) ?_
    refine AllReadyH.cons (o := psv3_3) rfl (fun K hK => ?_) ?_
    · unfold psv3_3
      go_simp
      clear hHeld
      refine hK.out _ _ ?_ (fun hHeld => ?_)
      · (try dsimp only)
        repeat (first | with_reducible exact x8 | with_reducible refine catch_drew ?_ | with_reducible refine catch_keep ?_ (by assumption))
      clear hK K
      (try simp only [Act.put, List.setIfInBounds_toArray, List.set_cons_zero, List.set_cons_succ])
      refine wpAnyH_ready (rs := [4]) (by kernel_rfl) (by simp) ?_
      refine AllReadyH.cons (o := psv3_4) rfl (fun K hK => ?_) ?_
      · unfold psv3_4
        go_simp
        clear hHeld
        refine hK.out _ _ ?_ (fun hHeld => ?_)
        · (try dsimp only)
          repeat (first | with_reducible exact x8 | with_reducible refine catch_drew ?_ | with_reducible refine catch_keep ?_ (by assumption))
        clear hK K
        (try simp only [Act.put, List.setIfInBounds_toArray, List.set_cons_zero, List.set_cons_succ])
        refine wpAnyH_ready (rs := [5]) (by kernel_rfl) (by simp) ?_
        refine AllReadyH.cons (o := psv3_5) rfl (fun K hK => ?_) ?_
        · unfold psv3_5
          go_simp
          clear hHeld
          refine hK.out _ _ ?_ (fun hHeld => ?_)
          · (try dsimp only)
            repeat (first | with_reducible exact x8 | with_reducible refine catch_drew ?_ | with_reducible refine catch_keep ?_ (by assumption))
          clear hK K
          (try simp only [Act.put, List.setIfInBounds_toArray, List.set_cons_zero, List.set_cons_succ])
          refine wpAnyH_ready (rs := [6]) (by kernel_rfl) (by simp) ?_
          refine AllReadyH.cons (o := psv3_6) rfl (fun K hK => ?_) ?_
          · unfold psv3_6
            go_simp
            clear hHeld
            refine hK.out _ _ ?_ (fun hHeld => ?_)
            · (try dsimp only)
              repeat (first | with_reducible exact x8 | with_reducible refine catch_drew ?_ | with_reducible refine catch_keep ?_ (by assumption))
            clear hK K
            (try simp only [Act.put, List.setIfInBounds_toArray, List.set_cons_zero, List.set_cons_succ])
            refine wpAnyH_done (by kernel_rfl) ?_ _
            refine ⟨rfl, rfl, ?_⟩
            with_reducible exact HH.out
          exact AllReadyH.nil
        exact AllReadyH.nil
      exact AllReadyH.nil
    exact AllReadyH.nil
  · obtain ⟨rfl, hd, hC⟩ := h
    exact ⟨hd, _, rfl, .tuple #[], results_none rfl _ _ _, rfl, rfl, hC⟩
set_option maxHeartbeats 4000000 in
set_option maxRecDepth 20000 in
theorem catch_beyond (B : Nat) (a : Nat) (s : ByteArray) (w : World) (h4 : Four B w) :
    CallsD Try.prog 19 #[.pointer (some ⟨B, 0, none⟩), .pointer (some ⟨B + 1, 0, none⟩), .pointer (some ⟨B + 2, 0, none⟩), .pointer (some ⟨B + 3, 0, none⟩)] (.panicking ({ v := .iface 55 (.agg #[.int .i64 a, .string s]), recovered := false } :: [])) w fun e u' w' =>
      e = .returned (.tuple #[]) ∧ u' = .panicking ({ v := .iface 55 (.agg #[.int .i64 a, .string s]), recovered := true } :: []) ∧ CatchF B 4 a s w w' := by
  obtain ⟨⟨v0, v1, v2, v3, hT⟩, ⟨x, hE⟩, ⟨y, hA⟩, ⟨z, hS⟩⟩ := h4
  refine callsD_of_wpS Try.func19 rfl fun c₀ cs hu => ?_
  apply wpS_seq
  apply wpS_region
  simp [wpOpsS, go_sem, recoverD, hu, Try.ntmps19, Exit.thenS]
  refine wpS_of_wp (wp_mono (Q := fun e a' w' => e = Exit.normal ∧ a'.defers = [] ∧ CatchF B 4 a s w w') ?_ (fun e a' w' h => ?_))
  · have hta := assertF
    have htb := assertFB
    have htc := assertB
    have hb := (Below.refl w.heap.size w).alloc (Nat.le_refl _) (.cells #[.int .i64 a, .string s] 55)
    have hT1 := (hb.block _ (hltD hT)).trans hT
    have hE1 := (hb.block _ (hltD hE)).trans hE
    have hA1 := (hb.block _ (hltD hA)).trans hA
    have hS1 := (hb.block _ (hltD hS)).trans hS
    have hF1 : (w.alloc (.cells #[.int .i64 a, .string s] 55)).heap[w.heap.size]? = some (.cells #[.int .i64 a, .string s] 55) := alloc_new _ _
    have hs1 : w.heap.size < (w.alloc (.cells #[.int .i64 a, .string s] 55)).heap.size := by simp
    have hBS : B < w.heap.size ∧ B + 1 < w.heap.size ∧ B + 2 < w.heap.size ∧ B + 3 < w.heap.size := ⟨hltD hT, hltD hE, hltD hA, hltD hS⟩
    have HB := Lib.hid (hb.mono (Nat.le_of_lt hBS.1))
    clear hT hE hA hS hu hb
    rw [tm27]
    go_upto_region 8 with fail
    obtain ⟨W, hW⟩ : ∃ W, W = w.alloc (.cells #[.int .i64 a, .string s] 55) := ⟨_, rfl⟩
    rw [← hW] at hT1 hE1 hA1 hS1 hF1 hs1 HB
    rw [← hW]
    clear hW
    obtain ⟨x0, x1, x2, x3⟩ := four_cells hT1
    obtain ⟨f0, f1, f2, f3⟩ := four_free hT1
    have x5 : W.cell? ⟨B + 1, 0, none⟩ = some x := by rw [Lib.cell_of_heap hE1]; rfl
    have x6 : W.cell? ⟨B + 2, 0, none⟩ = some y := by rw [Lib.cell_of_heap hA1]; rfl
    have x7 : W.cell? ⟨B + 3, 0, none⟩ = some z := by rw [Lib.cell_of_heap hS1]; rfl
    have x8 : W.cell? ⟨w.heap.size, 0, none⟩ = some (.int .i64 a) := by rw [Lib.cell_of_heap hF1]; rfl
    have x9 : W.cell? ⟨w.heap.size, 1, none⟩ = some (.string s) := by rw [Lib.cell_of_heap hF1]; rfl
    have f5 : W.frozen? ⟨B + 1, 0, none⟩ = false := Lib.frozen_of_heap hE1 0
    have f6 : W.frozen? ⟨B + 2, 0, none⟩ = false := Lib.frozen_of_heap hA1 0
    have f7 : W.frozen? ⟨B + 3, 0, none⟩ = false := Lib.frozen_of_heap hS1 0
    have HH := Lib.hid (catch_drewF (catch_fin (W := W) hT1 hE1 hA1 hS1 HB.out 4 a s))
    have hne : w.heap.size ≠ B := by omega
    have hne1 : w.heap.size ≠ B + 1 := by omega
    have hne2 : w.heap.size ≠ B + 2 := by omega
    have hne3 : w.heap.size ≠ B + 3 := by omega
    have hWs : w.heap.size < W.heap.size := hs1
    clear hT1 hE1 hA1 hS1 hF1 hta htb htc
    refine wp_region_held_drew (S := fun w' => w'.cell? ⟨w.heap.size, 0, none⟩ = some (.int .i64 a) ∧ w'.cell? ⟨w.heap.size, 1, none⟩ = some (.string s)) (by kernel_rfl) ?_ (fun hHeld => ?_)
    · (try dsimp only)
      refine ⟨?_, ?_⟩ <;> repeat (first | with_reducible exact x8 | with_reducible exact x9 | with_reducible refine catch_drew ?_ | with_reducible refine catch_keep ?_ (by assumption))
    refine take_at 0 22 psv8_0 (v := ?_) (Or.inl ⟨by rfl, ?_⟩) ?_
    rotate_left 1
    · ((intro w hSw; (try dsimp only at hSw); unfold psv8_0; go_simp) <;> with_reducible rfl)
    (try simp only [Act.put, List.setIfInBounds_toArray, List.set_cons_zero, List.set_cons_succ])
    refine take_at 1 23 psv8_1 (v := ?_) (Or.inl ⟨by rfl, ?_⟩) ?_
    rotate_left 1
    · ((intro w hSw; (try dsimp only at hSw); unfold psv8_1; go_simp) <;> with_reducible rfl)
    (try simp only [Act.put, List.setIfInBounds_toArray, List.set_cons_zero, List.set_cons_succ])
    refine take_at 2 24 psv8_2 (v := ?_) (Or.inl ⟨by rfl, ?_⟩) ?_
    rotate_left 1
    · ((intro w hSw; (try dsimp only at hSw); unfold psv8_2; go_simp) <;> with_reducible rfl)
    (try simp only [Act.put, List.setIfInBounds_toArray, List.set_cons_zero, List.set_cons_succ])
    refine take_at 3 25 psv8_3 (v := ?_) (Or.inl ⟨by rfl, ?_⟩) ?_
    rotate_left 1
    · ((intro w hSw; (try dsimp only at hSw); unfold psv8_3; go_simp) <;> with_reducible rfl)
    (try simp only [Act.put, List.setIfInBounds_toArray, List.set_cons_zero, List.set_cons_succ])
    refine take_at 4 26 psv8_4 (v := ?_) (Or.inl ⟨by rfl, ?_⟩) ?_
    rotate_left 1
    · ((intro w hSw; (try dsimp only at hSw); unfold psv8_4; go_simp) <;> with_reducible rfl)
    (try simp only [Act.put, List.setIfInBounds_toArray, List.set_cons_zero, List.set_cons_succ])
    refine wpAnyH_ready (rs := [5]) (by kernel_rfl) (by simp) ?_
    refine AllReadyH.cons (o := psv8_5) rfl (fun K hK => ?_) ?_
    · unfold psv8_5
      go_simp
      clear hHeld
      refine hK.out _ _ ?_ (fun hHeld => ?_)
      · (try dsimp only)
        refine ⟨?_, ?_⟩ <;> repeat (first | with_reducible exact x8 | with_reducible exact x9 | with_reducible refine catch_drew ?_ | with_reducible refine catch_keep ?_ (by assumption))
      clear hK K
      (try simp only [Act.put, List.setIfInBounds_toArray, List.set_cons_zero, List.set_cons_succ])
      refine wpAnyH_ready (rs := [6]) (by kernel_rfl) (by simp) ?_
      refine AllReadyH.cons (o := psv8_6) rfl (fun K hK => ?_) ?_
      · unfold psv8_6
        go_simp
        clear hHeld
        refine hK.out _ _ ?_ (fun hHeld => ?_)
        · (try dsimp only)
          refine ⟨?_, ?_⟩ <;> repeat (first | with_reducible exact x8 | with_reducible exact x9 | with_reducible refine catch_drew ?_ | with_reducible refine catch_keep ?_ (by assumption))
        clear hK K
        (try simp only [Act.put, List.setIfInBounds_toArray, List.set_cons_zero, List.set_cons_succ])
        refine wpAnyH_ready (rs := [7]) (by kernel_rfl) (by simp) ?_
        refine AllReadyH.cons (o := psv8_7) rfl (fun K hK => ?_) ?_
        · unfold psv8_7
          go_simp
          clear hHeld
          refine hK.out _ _ ?_ (fun hHeld => ?_)
          · (try dsimp only)
            refine ⟨?_, ?_⟩ <;> repeat (first | with_reducible exact x8 | with_reducible exact x9 | with_reducible refine catch_drew ?_ | with_reducible refine catch_keep ?_ (by assumption))
          clear hK K
          (try simp only [Act.put, List.setIfInBounds_toArray, List.set_cons_zero, List.set_cons_succ])
          refine wpAnyH_ready (rs := [8]) (by kernel_rfl) (by simp) ?_
          refine AllReadyH.cons (o := psv8_8) rfl (fun K hK => ?_) ?_
          · unfold psv8_8
            go_simp
            clear hHeld
            refine hK.out _ _ ?_ (fun hHeld => ?_)
            · (try dsimp only)
              refine ⟨?_, ?_⟩ <;> repeat (first | with_reducible exact x8 | with_reducible exact x9 | with_reducible refine catch_drew ?_ | with_reducible refine catch_keep ?_ (by assumption))
            clear hK K
            (try simp only [Act.put, List.setIfInBounds_toArray, List.set_cons_zero, List.set_cons_succ])
            refine wpAnyH_done (by kernel_rfl) ?_ _
            refine ⟨rfl, rfl, ?_⟩
            with_reducible exact HH.out
          exact AllReadyH.nil
        exact AllReadyH.nil
      exact AllReadyH.nil
    exact AllReadyH.nil
  · obtain ⟨rfl, hd, hC⟩ := h
    exact ⟨hd, _, rfl, .tuple #[], results_none rfl _ _ _, rfl, rfl, hC⟩
theorem catch_idleF (B : Nat) (w : World) :
    CallsD Try.prog 19 #[.pointer (some ⟨B, 0, none⟩), .pointer (some ⟨B + 1, 0, none⟩), .pointer (some ⟨B + 2, 0, none⟩), .pointer (some ⟨B + 3, 0, none⟩)] .returning w fun e u' w' => e = .returned (.tuple #[]) ∧ u' = .returning ∧ w' = w := by
  refine callsD_of_wpS Try.func19 rfl fun c₀ cs hu => ?_
  apply wpS_seq
  apply wpS_region
  simp [wpOpsS, go_sem, recoverD, hu, Try.ntmps19, Exit.thenS]
  refine wpS_of_wp (wp_mono (Q := fun e a' w' => e = Exit.normal ∧ a'.defers = [] ∧ w' = w) ?_ (fun e a' w' h => ?_))
  · rw [tm27]
    go_wp2
  · obtain ⟨rfl, hd, rfl⟩ := h
    cases c₀
    refine ⟨hd, _, rfl, .tuple #[], results_none rfl _ _ _, rfl, ?_, rfl⟩
    simp_all
end Go.Proofs.Ytdhfbphliejcdaa.Dv

namespace Go.Proofs.Ytdhfbphliejcdaa.Dv
open Go.RowKit

/-- What a parsing that failed hands back. -/
def errV : PF → Value
  | (0, a) => .tuple #[.agg #[.slice none 0 0, .int .i64 0, .int .i64 0, .slice none 0 0], .int .i64 2, .int .i64 a, .string ⟨#[]⟩]
  | (1, a) => .tuple #[.agg #[.slice none 0 0, .int .i64 0, .int .i64 0, .slice none 0 0], .int .i64 4, .int .i64 a, .string ⟨#[100, 101, 101, 112]⟩]
  | (_ + 2, a) => .tuple #[.agg #[.slice none 0 0, .int .i64 0, .int .i64 0, .slice none 0 0], .int .i64 4, .int .i64 a, .string ⟨#[110, 111, 100, 101, 115]⟩]
def ParseG (w : World) (x : Except PF (List Tm × Tm)) (e : Ending) (w' : World) : Prop := Below w.heap.size w w' ∧ match x with
  | .error p => e = .returned (errV p)
  | .ok (l, t) => ∃ cv s, e = .returned (.tuple #[fv cv t s, .int .i64 0, .int .i64 0, .string ⟨#[]⟩]) ∧ LiesP w' (Own w.heap.size w') l cv ∧ LiesP w' (Own w.heap.size w') t.kids s ∧ t.fine
set_option maxRecDepth 20000 in
theorem parse_results (tmps : Array Value) (w : World) (n : Nat) (v0 v1 v2 v3 u1 u2 u3 : Value) (h8 : tmps.getD 6 undef = .pointer (some ⟨n, 0, none⟩)) (h9 : tmps.getD 7 undef = .pointer (some ⟨n + 1, 0, none⟩)) (h10 : tmps.getD 8 undef = .pointer (some ⟨n + 2, 0, none⟩)) (h11 : tmps.getD 9 undef = .pointer (some ⟨n + 3, 0, none⟩)) (k0 : w.heap[n]? = some (.cells #[v0, v1, v2, v3] 27 (0, 0))) (k1 : w.heap[n + 1]? = some (.cells #[u1] 28 (0, 0))) (k2 : w.heap[n + 2]? = some (.cells #[u2] 3 (0, 0))) (k3 : w.heap[n + 3]? = some (.cells #[u3] 9 (0, 0))) :
    (results Try.f8 tmps).run Try.prog w = .ok (.tuple #[.agg #[v0, v1, v2, v3], u1, u2, u3]) w := by
  have h8' : tmps[6]?.getD undef = .pointer (some ⟨n, 0, none⟩) := by simpa using h8
  have h9' : tmps[7]?.getD undef = .pointer (some ⟨n + 1, 0, none⟩) := by simpa using h9
  have h10' : tmps[8]?.getD undef = .pointer (some ⟨n + 2, 0, none⟩) := by simpa using h10
  have h11' : tmps[9]?.getD undef = .pointer (some ⟨n + 3, 0, none⟩) := by simpa using h11
  obtain ⟨y0, y1, y2, y3⟩ := four_cells k0
  have x1 : w.cell? ⟨n + 1, 0, none⟩ = some u1 := by rw [Lib.cell_of_heap k1]; rfl
  have x2 : w.cell? ⟨n + 2, 0, none⟩ = some u2 := by rw [Lib.cell_of_heap k2]; rfl
  have x3 : w.cell? ⟨n + 3, 0, none⟩ = some u3 := by rw [Lib.cell_of_heap k3]; rfl
  simp [results, Try.results8, h8', h9', h10', h11', asAddr, y0, y1, y2, y3, x1, x2, x3, go_sem]
/-- The four results behind the last stores. -/
def finF (W : World) (B : Nat) (v0 v1 v2 v3 : Value) : World := (((four W B v0 v1 v2 v3).setCell ⟨B + 1, 0, none⟩ (.int .i64 0)).setCell ⟨B + 2, 0, none⟩ (.int .i64 0)).setCell ⟨B + 3, 0, none⟩ (.string ⟨#[]⟩)
theorem fin_file {B N : Nat} {w W : World} {v0 v1 v2 v3 z0 z1 z2 z3 x y z : Value} (hF : W.heap[B]? = some (.cells #[z0, z1, z2, z3] 27 (0, 0))) (hE : W.heap[B + 1]? = some (.cells #[x] 28 (0, 0))) (hA : W.heap[B + 2]? = some (.cells #[y] 3 (0, 0))) (hS : W.heap[B + 3]? = some (.cells #[z] 9 (0, 0))) (hb : Below B w W) (hN : B + 4 ≤ N) {l l2 : List Tm} {cv s : Value} (hl : LiesP W (Own N W) l cv) (hl2 : LiesP W (Own N W) l2 s) :
    (finF W B v0 v1 v2 v3).heap[B]? = some (.cells #[v0, v1, v2, v3] 27 (0, 0)) ∧ (finF W B v0 v1 v2 v3).heap[B + 1]? = some (oE 0) ∧ (finF W B v0 v1 v2 v3).heap[B + 2]? = some (oA 0) ∧ (finF W B v0 v1 v2 v3).heap[B + 3]? = some (oS ⟨#[]⟩) ∧ Below B w (finF W B v0 v1 v2 v3) ∧ LiesP (finF W B v0 v1 v2 v3) (Own B (finF W B v0 v1 v2 v3)) l cv ∧ LiesP (finF W B v0 v1 v2 v3) (Own B (finF W B v0 v1 v2 v3)) l2 s := by
  have c4 : W.grownBy (four W B v0 v1 v2 v3) (some B) := (((setD_grown _ _ _ _).trans (setD_grown _ _ _ _)).trans (setD_grown _ _ _ _)).trans (setD_grown _ _ _ _)
  have k0 : (four W B v0 v1 v2 v3).heap[B]? = some (.cells #[v0, v1, v2, v3] 27 (0, 0)) := four_set hF
  have hsF := hltD hF
  have hsE := hltD hE
  have hsA := hltD hA
  have hsS := hltD hS
  have k1 := (c4.block (B + 1) hsE (fun e => by have := Option.some.inj e; omega)).trans hE
  have k2 := (c4.block (B + 2) hsA (fun e => by have := Option.some.inj e; omega)).trans hA
  have k3 := (c4.block (B + 3) hsS (fun e => by have := Option.some.inj e; omega)).trans hS
  have hb4 := hb.trans (belowD (B := B) (Nat.le_refl _) c4 (by omega))
  have hs4 := c4.size
  have hk4 : ∀ b, B + 4 ≤ b → b < W.heap.size → (four W B v0 v1 v2 v3).heap[b]? = W.heap[b]? := fun b h1 h2 => c4.block b h2 (fun e => by have := Option.some.inj e; omega)
  unfold finF
  generalize four W B v0 v1 v2 v3 = V at k0 k1 k2 k3 hb4 hs4 hk4 ⊢
  have m1 := setD_grown V (B + 1) 0 (.int .i64 0)
  have m2 := setD_grown (V.setCell ⟨B + 1, 0, none⟩ (.int .i64 0)) (B + 2) 0 (.int .i64 0)
  have m3 := setD_grown ((V.setCell ⟨B + 1, 0, none⟩ (.int .i64 0)).setCell ⟨B + 2, 0, none⟩ (.int .i64 0)) (B + 3) 0 (.string ⟨#[]⟩)
  have z1 : (V.setCell ⟨B + 1, 0, none⟩ (.int .i64 0)).heap.size = V.heap.size := by simp
  have z2 : ((V.setCell ⟨B + 1, 0, none⟩ (.int .i64 0)).setCell ⟨B + 2, 0, none⟩ (.int .i64 0)).heap.size = V.heap.size := by simp
  have hk : ∀ b, B + 4 ≤ b → b < W.heap.size → (((V.setCell ⟨B + 1, 0, none⟩ (.int .i64 0)).setCell ⟨B + 2, 0, none⟩ (.int .i64 0)).setCell ⟨B + 3, 0, none⟩ (.string ⟨#[]⟩)).heap[b]? = W.heap[b]? := fun b h1 h2 =>
    (((m3.block b (by omega) (fun e => by have := Option.some.inj e; omega)).trans (m2.block b (by omega) (fun e => by have := Option.some.inj e; omega))).trans (m1.block b (by omega) (fun e => by have := Option.some.inj e; omega))).trans (hk4 b h1 h2)
  refine ⟨?_, ?_, ?_, ?_, ?_, ?_, ?_⟩
  · exact (((m3.block B (by omega) (fun e => by have := Option.some.inj e; omega)).trans (m2.block B (by omega) (fun e => by have := Option.some.inj e; omega))).trans (m1.block B (by omega) (fun e => by have := Option.some.inj e; omega))).trans k0
  · exact ((m3.block (B + 1) (by omega) (fun e => by have := Option.some.inj e; omega)).trans (m2.block (B + 1) (by omega) (fun e => by have := Option.some.inj e; omega))).trans (heap_setCell_same _ _ _ _ _ _ k1)
  · exact (m3.block (B + 2) (by omega) (fun e => by have := Option.some.inj e; omega)).trans (heap_setCell_same _ _ _ _ _ _ ((m1.block (B + 2) (by omega) (fun e => by have := Option.some.inj e; omega)).trans k2))
  · exact heap_setCell_same _ _ _ _ _ _ (((m2.block (B + 3) (by omega) (fun e => by have := Option.some.inj e; omega)).trans (m1.block (B + 3) (by omega) (fun e => by have := Option.some.inj e; omega))).trans k3)
  · exact ((hb4.trans (belowD (by omega) m1 (by omega))).trans (belowD (by omega) m2 (by omega))).trans (belowD (by omega) m3 (by omega))
  · exact hl.keep (fun b hb hlt => hk b (by have := hb.1; omega) hlt) (fun b hb hlt => (hb.from (by omega)).same (hk b (by have := hb.1; omega) hlt))
  · exact hl2.keep (fun b hb hlt => hk b (by have := hb.1; omega) hlt) (fun b hb hlt => (hb.from (by omega)).same (hk b (by have := hb.1; omega) hlt))
theorem four_new (w : World) : Four w.heap.size ((((w.alloc zF).alloc (oE 0)).alloc (oA 0)).alloc (oS ⟨#[]⟩)) ∧ ((((w.alloc zF).alloc (oE 0)).alloc (oA 0)).alloc (oS ⟨#[]⟩)).heap.size = w.heap.size + 4 ∧ Below w.heap.size w ((((w.alloc zF).alloc (oE 0)).alloc (oA 0)).alloc (oS ⟨#[]⟩)) := by
  have b1 := (Below.refl w.heap.size w).alloc (Nat.le_refl _) zF
  have b2 := (Below.refl (w.alloc zF).heap.size (w.alloc zF)).alloc (Nat.le_refl _) (oE 0)
  have b3 := (Below.refl ((w.alloc zF).alloc (oE 0)).heap.size ((w.alloc zF).alloc (oE 0))).alloc (Nat.le_refl _) (oA 0)
  have b4 := (Below.refl (((w.alloc zF).alloc (oE 0)).alloc (oA 0)).heap.size (((w.alloc zF).alloc (oE 0)).alloc (oA 0))).alloc (Nat.le_refl _) (oS ⟨#[]⟩)
  have n1 := alloc_new w zF
  have n2 := alloc_new (w.alloc zF) (oE 0)
  have n3 := alloc_new ((w.alloc zF).alloc (oE 0)) (oA 0)
  have n4 := alloc_new (((w.alloc zF).alloc (oE 0)).alloc (oA 0)) (oS ⟨#[]⟩)
  simp only [World.size_alloc] at b1 b2 b3 b4 n1 n2 n3 n4
  have e1 : ((((w.alloc zF).alloc (oE 0)).alloc (oA 0)).alloc (oS ⟨#[]⟩)).heap[w.heap.size]? = some zF := by rw [b4.block _ (by omega), b3.block _ (by omega), b2.block _ (by omega)]; exact n1
  have e2 : ((((w.alloc zF).alloc (oE 0)).alloc (oA 0)).alloc (oS ⟨#[]⟩)).heap[w.heap.size + 1]? = some (oE 0) := by rw [b4.block _ (by omega), b3.block _ (by omega)]; exact n2
  have e3 : ((((w.alloc zF).alloc (oE 0)).alloc (oA 0)).alloc (oS ⟨#[]⟩)).heap[w.heap.size + 2]? = some (oA 0) := by rw [b4.block _ (by omega)]; exact n3
  exact ⟨⟨⟨_, _, _, _, e1⟩, ⟨_, e2⟩, ⟨_, e3⟩, ⟨_, n4⟩⟩, by simp, ((b1.trans (b2.mono (by omega))).trans (b3.mono (by omega))).trans (b4.mono (by omega))⟩
theorem Four.keep {B : Nat} {w w' : World} (h : Four B w) (hb : Below (B + 4) w w') : Four B w' := by
  obtain ⟨⟨v0, v1, v2, v3, h0⟩, ⟨x, h1⟩, ⟨y, h2⟩, ⟨z, h3⟩⟩ := h
  exact ⟨⟨v0, v1, v2, v3, (hb.block _ (by omega)).trans h0⟩, ⟨x, (hb.block _ (by omega)).trans h1⟩, ⟨y, (hb.block _ (by omega)).trans h2⟩, ⟨z, (hb.block _ (by omega)).trans h3⟩⟩
theorem Four.put {B : Nat} {w : World} (h : Four B w) (v0 v1 v2 v3 : Value) : Four B (four w B v0 v1 v2 v3) := by
  obtain ⟨⟨z0, z1, z2, z3, h0⟩, ⟨x, h1⟩, ⟨y, h2⟩, ⟨z, h3⟩⟩ := h
  have c4 : w.grownBy (four w B v0 v1 v2 v3) (some B) := (((setD_grown _ _ _ _).trans (setD_grown _ _ _ _)).trans (setD_grown _ _ _ _)).trans (setD_grown _ _ _ _)
  exact ⟨⟨_, _, _, _, four_set h0⟩, ⟨x, (c4.block _ (hltD h1) (fun e => by have := Option.some.inj e; omega)).trans h1⟩, ⟨y, (c4.block _ (hltD h2) (fun e => by have := Option.some.inj e; omega)).trans h2⟩, ⟨z, (c4.block _ (hltD h3) (fun e => by have := Option.some.inj e; omega)).trans h3⟩⟩
set_option maxHeartbeats 3000000 in
set_option maxRecDepth 20000 in
theorem parse_any (s : ByteArray) (deep nodes : Nat) (w : World) (hs : s.size ≤ 10000000) : Calls Try.prog 8 #[.string s, .float .f64 deep, .float .f64 nodes] w (ParseG w (parseB s.data.toList deep nodes)) := by
  have hmf : ∀ (fn : Fn) (first cap : Array Value) (w : World), (Instr.makeFunc fn first cap).run Try.prog w = .ok (.func fn first cap) w := fun _ _ _ _ => rfl
  have hsf : ∀ (a : Addr) (m : Mode) (w : World), (store a (.float .f64 deep) m).run Try.prog w = stored Try.prog w a (.float .f64 deep) m := fun a m w => run_store Try.prog w a _ m rfl
  have H4 := Lib.hid (four_new w)
  have hsl : s.data.toList.length = s.size := by simp
  have HSL := Lib.hid hsl
  clear hsl
  go_enter_defers Try.func8, Try.ntmps8
  go_upto_region 1 with fail
  obtain ⟨w4, hw4⟩ : ∃ w4, w4 = (((w.alloc zF).alloc (oE 0)).alloc (oA 0)).alloc (oS ⟨#[]⟩) := ⟨_, rfl⟩
  rw [← hw4]
  have HC := Lib.hid H4.out
  rw [← hw4] at HC
  have h4s : w.heap.size + 4 = w4.heap.size := HC.out.2.1.symm
  clear hw4 H4
  go_wp2_with fail
  refine (of_any s w4 hs).mono ?_
  intro e w1 hg
  obtain ⟨v, rfl, hlt, hSA, hTL, hB1⟩ := hg
  obtain ⟨S, hS⟩ : ∃ S, w1.heap.size - 1 = S := ⟨_, rfl⟩
  rw [hS] at hSA
  rw [hS]
  have hS1 : w1.heap.size = S + 1 := by omega
  have hSB : w.heap.size + 4 ≤ S := by omega
  have HSA := Lib.hid hSA
  have HTL := Lib.hid hTL
  have HB1 := Lib.hid hB1
  have HBD := Lib.hid (ofL_bound s.data.toList)
  have HS1 := Lib.hid hS1
  have hSB1 : w.heap.size + 4 ≤ w1.heap.size := by omega
  clear hSA hTL hB1 hS hlt hS1
  go_wp2_with fail
  refine (new_any nodes w1).mono ?_
  rintro e w' ⟨rfl, rfl⟩
  go_upto_region 2 with fail
  obtain ⟨W, hW⟩ : ∃ W, W = (w1.alloc (budObj nodes 0)).alloc (.cells #[.pointer (some ⟨S, 0, none⟩), .float .f64 deep, .pointer (some ⟨w1.heap.size, 0, none⟩)] 53) := ⟨_, rfl⟩
  rw [← hW]
  have hb1 := (Below.refl w1.heap.size w1).alloc (Nat.le_refl _) (budObj nodes 0)
  have hb2 := (Below.refl (w1.alloc (budObj nodes 0)).heap.size (w1.alloc (budObj nodes 0))).alloc (Nat.le_refl _) (.cells #[.pointer (some ⟨S, 0, none⟩), .float .f64 deep, .pointer (some ⟨w1.heap.size, 0, none⟩)] 53)
  have hbu := (hb2.block w1.heap.size (by simp)).trans (alloc_new w1 (budObj nodes 0))
  have hpa := alloc_new (w1.alloc (budObj nodes 0)) (.cells #[.pointer (some ⟨S, 0, none⟩), .float .f64 deep, .pointer (some ⟨w1.heap.size, 0, none⟩)] 53)
  have hbW := hb1.trans (hb2.mono hb1.size)
  rw [← hW] at hbu hpa hbW
  rw [World.size_alloc] at hpa
  have hWs : W.heap.size = w1.heap.size + 2 := by rw [hW]; simp
  have HWS := Lib.hid hWs
  have HP := Lib.hid (show PSt ⟨w.heap.size + 4, w1.heap.size + 1, S, w1.heap.size, deep, nodes, (ofL s.data.toList).2.1, (ofL s.data.toList).2.2⟩ 0 (ofL s.data.toList).1 W from
    ⟨hSB, by show w.heap.size + 4 ≤ w1.heap.size + 1; omega, by show w.heap.size + 4 ≤ w1.heap.size; omega, by show w.heap.size + 4 ≤ W.heap.size; omega, ⟨v, (hbW.block _ (hltD HSA.out)).trans HSA.out, HTL.out.keep fun g cs fz e => by rw [hbW.block _ (hltD e)]; exact e⟩, hpa, hbu, fun t ht => by have := (HBD.out.2.2 t ht).1; rw [HSL.out] at this; omega, by have := HBD.out.1; rw [HSL.out] at this; omega⟩)
  have HBW := Lib.hid ((HC.out.2.2.trans (HB1.out.mono (by omega))).trans (hbW.mono (by omega)))
  have H4W := Lib.hid ((HC.out.1.keep (HB1.out.mono (by omega))).keep (hbW.mono (by omega)))
  have HFL := Lib.hid (pfile_any ⟨w.heap.size + 4, w1.heap.size + 1, S, w1.heap.size, deep, nodes, (ofL s.data.toList).2.1, (ofL s.data.toList).2.2⟩ ((ofL s.data.toList).1.length + 1) _ (pderiv_any _ _) (derP_len _) (ofL s.data.toList).1 W (Nat.lt_succ_self _) HP.out)
  clear hW hb1 hb2 hbu hpa hbW hWs HSA HTL HB1 HP
  go_wp2_with fail
  refine HFL.out.mono ?_
  intro e w2 hg
  obtain ⟨X, hX⟩ : ∃ X, fileP (derP deep nodes (ofL s.data.toList).2.1 ((ofL s.data.toList).1.length + 1)) (ofL s.data.toList).2.1 ((ofL s.data.toList).1.length + 1) (ofL s.data.toList).1 = X := ⟨_, rfl⟩
  have hg' : FileG ⟨w.heap.size + 4, w1.heap.size + 1, S, w1.heap.size, deep, nodes, (ofL s.data.toList).2.1, (ofL s.data.toList).2.2⟩ W X e w2 := by rw [← hX]; exact hg
  clear hg HFL
  cases X with
  | error pe =>
    obtain ⟨rfl, hf⟩ := hg'
    have HX := Lib.hid (show parseB s.data.toList deep nodes = .error pe by unfold parseB; rw [hX])
    have hfb : Below (w.heap.size + 4) W w2 := hf.below
    have H42 := Lib.hid (H4W.out.keep hfb)
    have HB2 := Lib.hid (HBW.out.trans (hfb.mono (by omega)))
    clear hX hf hfb
    match pe with
    | (0, a) =>
      unfold leaveP
      go_wp2
      refine leaves_cons (f := 19) (args := #[.pointer (some ⟨w.heap.size, 0, none⟩), .pointer (some ⟨w.heap.size + 1, 0, none⟩), .pointer (some ⟨w.heap.size + 2, 0, none⟩), .pointer (some ⟨w.heap.size + 3, 0, none⟩)]) (by simp) (by simp [go_sem]) ?_
      refine (catch_fault w.heap.size a w2 H42.out).mono ?_
      rintro e u' w'' ⟨rfl, rfl, hC⟩
      show ∃ v, (results _ _).run _ _ = .ok v _ ∧ _
      refine ⟨_, parse_results _ w'' w.heap.size _ _ _ _ _ _ _ rfl rfl rfl rfl hC.1 hC.2.1 hC.2.2.1 hC.2.2.2.1, ?_⟩
      rw [HX.out]
      exact ⟨HB2.out.trans hC.2.2.2.2, rfl⟩
    | (1, a) =>
      unfold leaveP
      go_wp2
      refine leaves_cons (f := 19) (args := #[.pointer (some ⟨w.heap.size, 0, none⟩), .pointer (some ⟨w.heap.size + 1, 0, none⟩), .pointer (some ⟨w.heap.size + 2, 0, none⟩), .pointer (some ⟨w.heap.size + 3, 0, none⟩)]) (by simp) (by simp [go_sem]) ?_
      refine (catch_beyond w.heap.size a ⟨#[100, 101, 101, 112]⟩ w2 H42.out).mono ?_
      rintro e u' w'' ⟨rfl, rfl, hC⟩
      show ∃ v, (results _ _).run _ _ = .ok v _ ∧ _
      refine ⟨_, parse_results _ w'' w.heap.size _ _ _ _ _ _ _ rfl rfl rfl rfl hC.1 hC.2.1 hC.2.2.1 hC.2.2.2.1, ?_⟩
      rw [HX.out]
      exact ⟨HB2.out.trans hC.2.2.2.2, rfl⟩
    | (k + 2, a) =>
      unfold leaveP
      go_wp2
      refine leaves_cons (f := 19) (args := #[.pointer (some ⟨w.heap.size, 0, none⟩), .pointer (some ⟨w.heap.size + 1, 0, none⟩), .pointer (some ⟨w.heap.size + 2, 0, none⟩), .pointer (some ⟨w.heap.size + 3, 0, none⟩)]) (by simp) (by simp [go_sem]) ?_
      refine (catch_beyond w.heap.size a ⟨#[110, 111, 100, 101, 115]⟩ w2 H42.out).mono ?_
      rintro e u' w'' ⟨rfl, rfl, hC⟩
      show ∃ v, (results _ _).run _ _ = .ok v _ ∧ _
      refine ⟨_, parse_results _ w'' w.heap.size _ _ _ _ _ _ _ rfl rfl rfl rfl hC.1 hC.2.1 hC.2.2.1 hC.2.2.2.1, ?_⟩
      rw [HX.out]
      exact ⟨HB2.out.trans hC.2.2.2.2, rfl⟩
  | ok m =>
    obtain ⟨⟨l, t⟩, r⟩ := m
    obtain ⟨cv, sv, rfl, hl, hlt, hfi, ⟨u, hs2⟩, hf⟩ := hg'
    obtain ⟨ac, cc, rfl, -, -⟩ := hl.out
    obtain ⟨ak, ck, rfl, -, -⟩ := hlt.out
    have hfb : Below (w.heap.size + 4) W w2 := hf.below
    have H42 := Lib.hid (H4W.out.keep hfb)
    have HB2 := Lib.hid (HBW.out.trans (hfb.mono (by omega)))
    obtain ⟨⟨z0, z1, z2, z3, hz⟩, ⟨xe, he⟩, ⟨xa, ha⟩, ⟨xs, hss⟩⟩ := H42.out
    obtain ⟨p0, p1, p2, plt⟩ := hs2.cells
    obtain ⟨tv2, hSA2, hTL2⟩ := hs2.str
    have c4 : w2.grownBy (four w2 w.heap.size (.slice ac l.length cc) (.int .i64 t.k) (.int .i64 t.i) (.slice ak t.kids.length ck)) (some w.heap.size) := (((setD_grown _ _ _ _).trans (setD_grown _ _ _ _)).trans (setD_grown _ _ _ _)).trans (setD_grown _ _ _ _)
    have hSA3 : SAt (four w2 w.heap.size (.slice ac l.length cc) (.int .i64 t.k) (.int .i64 t.i) (.slice ak t.kids.length ck)) S tv2 (ofL s.data.toList).2.1 (ofL s.data.toList).2.2 := (c4.block S (hltD hSA2) (fun e => by have := Option.some.inj e; omega)).trans hSA2
    have hTL3 : TLies (four w2 w.heap.size (.slice ac l.length cc) (.int .i64 t.k) (.int .i64 t.i) (.slice ak t.kids.length ck)) r tv2 := hTL2.keep fun g cs fz e => by
      rw [c4.block g (hltD e) (fun e2 => by
        have e3 := Option.some.inj e2
        rw [e3] at e
        exact (by decide : (87 : TypeId) ≠ 27) (typeD e hz))]
      exact e
    have HZE := Lib.hid (show (four w2 w.heap.size (.slice ac l.length cc) (.int .i64 t.k) (.int .i64 t.i) (.slice ak t.kids.length ck)).heap[w.heap.size]? = some (.cells #[.slice ac l.length cc, .int .i64 t.k, .int .i64 t.i, .slice ak t.kids.length ck] 27 (0, 0)) from four_set hz)
    have hpp : (four w2 w.heap.size (.slice ac l.length cc) (.int .i64 t.k) (.int .i64 t.i) (.slice ak t.kids.length ck)).cell? ⟨w1.heap.size + 1, 0, none⟩ = some (.pointer (some ⟨S, 0, none⟩)) := by
      rw [World.cell?_of_block (a := ⟨w1.heap.size + 1, 0, none⟩) (c4.block (w1.heap.size + 1) plt (fun e => by have := Option.some.inj e; omega))]; exact p0
    have HEND := Lib.hid (end_any S tv2 (ofL s.data.toList).2.1 (ofL s.data.toList).2.2 r _ hSA3 hTL3)
    have H4E := Lib.hid (H42.out.put (.slice ac l.length cc) (.int .i64 t.k) (.int .i64 t.i) (.slice ak t.kids.length ck))
    have HBE := Lib.hid (HB2.out.trans (belowD (Nat.le_refl _) c4 (by have := hltD hz; omega)))
    have hk4 : ∀ b, w.heap.size + 4 ≤ b → b < w2.heap.size → (four w2 w.heap.size (.slice ac l.length cc) (.int .i64 t.k) (.int .i64 t.i) (.slice ak t.kids.length ck)).heap[b]? = w2.heap[b]? := fun b h1 h2 => c4.block b h2 (fun e => by have := Option.some.inj e; omega)
    have hWW := HWS.out
    have HLE := Lib.hid (hl.keep (w' := four w2 w.heap.size (.slice ac l.length cc) (.int .i64 t.k) (.int .i64 t.i) (.slice ak t.kids.length ck)) (Q := Own W.heap.size (four w2 w.heap.size (.slice ac l.length cc) (.int .i64 t.k) (.int .i64 t.i) (.slice ak t.kids.length ck))) (fun b hb hlt => hk4 b (by have := hb.1; omega) hlt) (fun b hb hlt => hb.same (hk4 b (by have := hb.1; omega) hlt)))
    have HKE := Lib.hid (hlt.keep (w' := four w2 w.heap.size (.slice ac l.length cc) (.int .i64 t.k) (.int .i64 t.i) (.slice ak t.kids.length ck)) (Q := Own W.heap.size (four w2 w.heap.size (.slice ac l.length cc) (.int .i64 t.k) (.int .i64 t.i) (.slice ak t.kids.length ck))) (fun b hb hlt => hk4 b (by have := hb.1; omega) hlt) (fun b hb hlt => hb.same (hk4 b (by have := hb.1; omega) hlt)))
    have HFI := Lib.hid hfi
    have HX1 := Lib.hid hX
    obtain ⟨y0, y1, y2, y3⟩ := four_cells hz
    obtain ⟨f0, f1, f2, f3⟩ := four_free hz
    have hne : ¬ w1.heap.size + 1 = w.heap.size := by omega
    clear hl hlt hfi hs2 hf hfb hSA2 hTL2 c4 hSA3 hTL3 hk4 he ha hss hz hX H42
    unfold fv
    go_upto_region 4 with fail
    obtain ⟨V, hV⟩ : ∃ V, V = (((w2.setCell ⟨w.heap.size, 0, none⟩ (.slice ac l.length cc)).setCell ⟨w.heap.size, 1, none⟩ (.int .i64 t.k)).setCell ⟨w.heap.size, 2, none⟩ (.int .i64 t.i)).setCell ⟨w.heap.size, 3, none⟩ (.slice ak t.kids.length ck) := ⟨_, rfl⟩
    have hV2 : V = four w2 w.heap.size (.slice ac l.length cc) (.int .i64 t.k) (.int .i64 t.i) (.slice ak t.kids.length ck) := hV
    rw [← hV2] at hpp HEND H4E HBE HLE HKE HZE
    rw [← hV]
    clear hV hV2 y0 y1 y2 y3 f0 f1 f2 f3 p0 p1 p2 plt
    go_wp2_with fail
    refine HEND.out.mono ?_
    intro e w5 hg
    obtain ⟨hww, hg⟩ := hg
    cases hy : endP (ofL s.data.toList).2.1 (ofL s.data.toList).2.2 r with
    | error ea =>
      rw [hy] at hg
      obtain rfl := hg
      have HX := Lib.hid (show parseB s.data.toList deep nodes = .error (0, ea) by unfold parseB; rw [HX1.out]; dsimp only; rw [hy])
      rw [← hww]
      clear hy hww HEND hpp
      unfold faultP
      go_wp2
      refine leaves_cons (f := 19) (args := #[.pointer (some ⟨w.heap.size, 0, none⟩), .pointer (some ⟨w.heap.size + 1, 0, none⟩), .pointer (some ⟨w.heap.size + 2, 0, none⟩), .pointer (some ⟨w.heap.size + 3, 0, none⟩)]) (by simp) (by simp [go_sem]) ?_
      refine (catch_fault w.heap.size ea V H4E.out).mono ?_
      rintro e u' w'' ⟨rfl, rfl, hC⟩
      show ∃ v, (results _ _).run _ _ = .ok v _ ∧ _
      refine ⟨_, parse_results _ w'' w.heap.size _ _ _ _ _ _ _ rfl rfl rfl rfl hC.1 hC.2.1 hC.2.2.1 hC.2.2.2.1, ?_⟩
      rw [HX.out]
      exact ⟨HBE.out.trans hC.2.2.2.2, rfl⟩
    | ok z =>
      rw [hy] at hg
      obtain rfl := hg
      have HX := Lib.hid (show parseB s.data.toList deep nodes = .ok (l, t) by unfold parseB; rw [HX1.out]; dsimp only; rw [hy])
      rw [← hww]
      clear hy hww HEND hpp
      obtain ⟨-, ⟨xe, he⟩, ⟨xa, ha⟩, ⟨xs, hss⟩⟩ := H4E.out
      have HFIN := Lib.hid (fin_file (B := w.heap.size) (N := W.heap.size) (v0 := .slice ac l.length cc) (v1 := .int .i64 t.k) (v2 := .int .i64 t.i) (v3 := .slice ak t.kids.length ck) HZE.out he ha hss HBE.out (by omega) HLE.out HKE.out)
      obtain ⟨y0, y1, y2, y3⟩ := four_cells HZE.out
      obtain ⟨f0, f1, f2, f3⟩ := four_free HZE.out
      have x5 : V.cell? ⟨w.heap.size + 1, 0, none⟩ = some xe := by rw [Lib.cell_of_heap he]; rfl
      have x6 : V.cell? ⟨w.heap.size + 2, 0, none⟩ = some xa := by rw [Lib.cell_of_heap ha]; rfl
      have x7 : V.cell? ⟨w.heap.size + 3, 0, none⟩ = some xs := by rw [Lib.cell_of_heap hss]; rfl
      have f5 : V.frozen? ⟨w.heap.size + 1, 0, none⟩ = false := Lib.frozen_of_heap he 0
      have f6 : V.frozen? ⟨w.heap.size + 2, 0, none⟩ = false := Lib.frozen_of_heap ha 0
      have f7 : V.frozen? ⟨w.heap.size + 3, 0, none⟩ = false := Lib.frozen_of_heap hss 0
      clear he ha hss
      go_wp2
      refine leaves_cons (f := 19) (args := #[.pointer (some ⟨w.heap.size, 0, none⟩), .pointer (some ⟨w.heap.size + 1, 0, none⟩), .pointer (some ⟨w.heap.size + 2, 0, none⟩), .pointer (some ⟨w.heap.size + 3, 0, none⟩)]) (by simp) (by simp [go_sem]) ?_
      refine (catch_idleF w.heap.size _).mono ?_
      rintro e u' w'' ⟨rfl, rfl, rfl⟩
      show ∃ v, (results _ _).run _ _ = .ok v _ ∧ _
      refine ⟨_, parse_results _ (finF V w.heap.size (.slice ac l.length cc) (.int .i64 t.k) (.int .i64 t.i) (.slice ak t.kids.length ck)) w.heap.size _ _ _ _ _ _ _ rfl rfl rfl rfl HFIN.out.1 HFIN.out.2.1 HFIN.out.2.2.1 HFIN.out.2.2.2.1, ?_⟩
      rw [HX.out]
      exact ⟨HFIN.out.2.2.2.2.1, _, _, rfl, HFIN.out.2.2.2.2.2.1, HFIN.out.2.2.2.2.2.2, HFI.out⟩
end Go.Proofs.Ytdhfbphliejcdaa.Dv

namespace Go.Proofs.Ytdhfbphliejcdaa.Dv
open Go.RowKit

def numberedB (r : Int) : Bool := r == 1 || r == 2
theorem numbered_any (r : Int) (w : World) : Calls Try.prog 35 #[.int .i64 r] w fun e w' => e = .returned (.bool (numberedB r)) ∧ w' = w := by
  go_enter Try.func35, Try.ntmps35
  go_wp2
  all_goals go_ret
  all_goals exact ⟨ret_bool (by unfold numberedB; simp_all), rfl⟩

end Go.Proofs.Ytdhfbphliejcdaa.Dv

namespace Go.Proofs.Ytdhfbphliejcdaa.Dv
theorem pk1 : parseB [40, 102, 105, 108, 101, 32, 40, 40, 115, 111, 114, 116, 32, 48, 41, 41, 32, 40, 118, 97, 114, 32, 48, 41, 41] 4611686018427387904 4611686018427387904 = .ok ([.mk 1 0 []], .mk 2 0 []) := by kernel_rfl
theorem pk2 : parseB [40, 102, 105, 108, 101, 32, 40, 41, 32, 40, 115, 111, 114, 116, 41, 41] 4621256167635550208 4621256167635550208 = .error (0, 14) := by kernel_rfl
theorem pk3 : parseB [40, 102, 105, 108, 101, 32, 40, 41, 32, 40, 114, 101, 102, 108, 32, 40, 115, 111, 114, 116, 32, 48, 41, 41, 41] 4607182418800017408 4621256167635550208 = .error (1, 15) := by kernel_rfl
end Go.Proofs.Ytdhfbphliejcdaa.Dv

namespace Go.Proofs.Ytdhfbphliejcdaa.Dv
open Go.RowKit

mutual
def sameB : Tm → Tm → Bool
  | .mk k i l, .mk k' i' l' => (k == k') && ((i == i') && samesB l l')
def samesB : List Tm → List Tm → Bool
  | [], [] => true
  | x :: r, y :: s => sameB x y && samesB r s
  | [], _ :: _ => false
  | _ :: _, [] => false
end

theorem sameB_eq (a b : Tm) : sameB a b = ((a.k == b.k) && ((a.i == b.i) && samesB a.kids b.kids)) := by
  cases a; cases b; simp only [sameB]; rfl

theorem samesB_length : ∀ {l m : List Tm}, samesB l m = true → l.length = m.length
  | [], [], _ => rfl
  | x :: r, y :: s, h => by simp only [samesB, Bool.and_eq_true] at h; simp [samesB_length h.2]
  | [], _ :: _, h => by simp [samesB] at h
  | _ :: _, [], h => by simp [samesB] at h

theorem sameB_self (a : Tm) : sameB a a = true := by
  induction a using Tm.ind with
  | h a ih =>
    rw [sameB_eq]
    have key : ∀ (l : List Tm), (∀ x ∈ l, sameB x x = true) → samesB l l = true := by
      intro l
      induction l with
      | nil => intro _; simp [samesB]
      | cons x r ihl => intro hx; simp only [samesB, hx x List.mem_cons_self, Bool.true_and]; exact ihl (fun z hz => hx z (List.mem_cons_of_mem _ hz))
    simp [key a.kids ih]

theorem sames_take : ∀ (l m : List Tm) (k : Nat) (h : k < l.length) (h' : k < m.length), samesB (l.take (k + 1)) (m.take (k + 1)) = (samesB (l.take k) (m.take k) && sameB l[k] m[k])
  | x :: r, y :: s, 0, _, _ => by simp [samesB]
  | x :: r, y :: s, k + 1, h, h' => by
    simp only [List.take_succ_cons, samesB, List.getElem_cons_succ]
    rw [sames_take r s k (by simpa using h) (by simpa using h'), Bool.and_assoc]

theorem sames_of : ∀ (l m : List Tm) (k : Nat) (h : k < l.length) (h' : k < m.length), sameB l[k] m[k] = false → samesB l m = false
  | x :: r, y :: s, 0, _, _, hs => by simp only [List.getElem_cons_zero] at hs; simp [samesB, hs]
  | x :: r, y :: s, k + 1, h, h', hs => by
    simp only [List.getElem_cons_succ] at hs
    simp [samesB, sames_of r s k (by simpa using h) (by simpa using h') hs]

theorem sames_ne {l m : List Tm} (h : l.length ≠ m.length) : samesB l m = false := by
  cases hs : samesB l m with
  | false => rfl
  | true => exact absurd (samesB_length hs) h

/-- Two boxed terms, and what is new beside them. -/
def Held2 (w : World) (a : Tm) (s : Value) (b : Tm) (r : Value) (w' : World) : Prop := Below (w.heap.size + 2) ((w.alloc (boxOf a s)).alloc (boxOf b r)) w'

theorem held2_start (w : World) (a : Tm) (s : Value) (b : Tm) (r : Value) : Held2 w a s b r ((w.alloc (.cells #[.int .i64 a.k, .int .i64 a.i, s] 25)).alloc (.cells #[.int .i64 b.k, .int .i64 b.i, r] 25)) := Below.refl _ _
theorem held2_first {w w' : World} {a b : Tm} {s r : Value} (h : Held2 w a s b r w') : Held w a s w' := by
  unfold Held2 at h; unfold Held
  exact ((Below.refl _ _).alloc (by simp) _).trans (h.mono (by omega))
theorem held2_call {w w1 w2 : World} {a b : Tm} {s r : Value} (h : Held2 w a s b r w1) (hb : Below w1.heap.size w1 w2) : Held2 w a s b r w2 :=
  below_call h hb (by have := h.size; simpa using this)
theorem held2_below {w w1 : World} {a b : Tm} {s r : Value} (h : Held2 w a s b r w1) : Below w.heap.size w w1 := held_below (held2_first h)
theorem held2_lies {w w1 : World} {a b : Tm} {s r s' : Value} {l : List Tm} (h : Held2 w a s b r w1) (hl : Lies w l s') : Lies w1 l s' := hl.keep (held2_below h)
end Go.Proofs.Ytdhfbphliejcdaa.Dv
