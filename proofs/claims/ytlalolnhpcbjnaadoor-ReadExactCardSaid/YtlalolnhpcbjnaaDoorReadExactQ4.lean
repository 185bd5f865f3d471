/-
  Facts and contracts that the proof of ReadExact uses.
-/
import Derived.Lib.ItoaNum
import Derived.Lib.ItoaLen
import Derived.Test.YtlalolnhpcbjnaaDoorRows
import Derived.WalkKit
import Derived.Lib.Hide
import Derived.ProofKit
import Derived.LoopTactic
import Derived.Below
import Derived.IntWalk
import Derived.Lib.Strings
import Derived.Laws.Strings2
import Derived.Deep.AppendLies
import Derived.Laws.Rows
import Derived.OwnWalk
import Derived.KernelRfl
import Derived.Deep.RegionHeld3
import Derived.Lib.Builder
import Derived.WalkSmall
import Derived.Maps.GroupsBeside
import Derived.Maps.StringElems
import Derived.Laws.OwnMore
import Derived.Deep.RegionLaw
import Derived.Maps.AppendAt
import Derived.Deep.Cut
import Derived.Deep.DeepCutAuto
import Derived.Maps.OwnOps
import Derived.Maps.OwnSet
import Derived.Lib.MinMax
import Derived.Laws.IdiomCopy
import Derived.Deep.Slices
import Derived.Lib.QuietBelow
import Derived.StillTailTactics
import Derived.BigQuiet
import Derived.Deep.RegionWith
import Derived.OrdersHeld
import Derived.Laws.StructEq
import GoSem.Core.Float
import Derived.Laws.Cover2
import Derived.Laws.FloatArith
import Derived.Laws.Externs
import Derived.Deep.QuietTactic
import Derived.Deep.CutBlock
import Derived.Deep.LoopGhost
import Derived.Recover
import Derived.RegionTactic
import Derived.Defers
import Derived.OpenShut
import Derived.Carry
import Derived.SliceStrings
import Derived.Test.YtlalolnhpcbjnaaDoorShelf
import Derived.Lib.AppendIntMem
import Derived.Lib.LaidTab
import Derived.LaidMore
import Derived.LaidSub
import Derived.LaidHandle
import Derived.Stop.Joined
import Derived.JoinedOf
import Derived.Test.YtlalolnhpcbjnaaDoorCards
import Derived.Test.YtlalolnhpcbjnaaDoorTie
import Derived.SevenTiedAt
import Derived.ChangeMaps5
import Derived.Test.YtlalolnhpcbjnaaDoorReadExactQ3
namespace Go.Proofs.YtlalolnhpcbjnaaDoor.Dv
open Go.RowKit

/-- The page's tokens behind a slice. -/
def PTok (w : World) (L : List Tok) (v : Value) : Prop := ∃ a cap, v = .slice a L.length cap ∧ L.length ≤ cap ∧ cap ≤ maxLen ∧ (L = [] ∨ ∃ g cs fz, a = some ⟨g, 0, none⟩ ∧ w.heap[g]? = some (Obj.cells cs 79 fz) ∧ cs.toList.take (L.length * 3) = cells3 L)
theorem PTok.keep {w w' : World} {ts : List Tok} {v : Value} (h : PTok w ts v) (hk : ∀ (g : Nat) (cs : Array Value) (fz : Nat × Nat), w.heap[g]? = some (Obj.cells cs 79 fz) → w'.heap[g]? = some (Obj.cells cs 79 fz)) : PTok w' ts v := by
  obtain ⟨a, cap, hv, h1, h2, h3⟩ := h
  refine ⟨a, cap, hv, h1, h2, ?_⟩
  rcases h3 with h3 | ⟨g, cs, fz, h4, h5, h6⟩
  · exact Or.inl h3
  · exact Or.inr ⟨g, cs, fz, h4, hk _ _ _ h5, h6⟩
theorem PTok.cell {w : World} {L : List Tok} {v : Value} (h : PTok w L v) : ∃ a cap, v = .slice a L.length cap ∧ ∀ p t, L[p]? = some t → ∃ g, a = some ⟨g, 0, none⟩ ∧ w.cell? ⟨g, p * 3, none⟩ = some (.int .i64 t.k) ∧ w.cell? ⟨g, p * 3 + 1, none⟩ = some (.string ⟨t.s.toArray⟩) ∧ w.cell? ⟨g, p * 3 + 2, none⟩ = some (.int .i64 t.at_) := by
  obtain ⟨a, cap, hv, h1, h2, h3⟩ := h
  refine ⟨a, cap, hv, fun p t ht => ?_⟩
  obtain ⟨hp, rfl⟩ := List.getElem?_eq_some_iff.1 ht
  rcases h3 with rfl | ⟨g, cs, fz, h4, h5, h6⟩
  · simp at hp
  · refine ⟨g, h4, ?_, ?_, ?_⟩
    · have hc := cells3_get L p hp 0 (by decide)
      rw [← h6, List.getElem?_take, if_pos (by omega)] at hc
      rw [Lib.cell_of_heap h5]; simpa using hc
    · have hc := cells3_get L p hp 1 (by decide)
      rw [← h6, List.getElem?_take, if_pos (by omega)] at hc
      rw [Lib.cell_of_heap h5]; simpa using hc
    · have hc := cells3_get L p hp 2 (by decide)
      rw [← h6, List.getElem?_take, if_pos (by omega)] at hc
      rw [Lib.cell_of_heap h5]; simpa using hc
/-- The block of the page's Reader. -/
def rrO (v : Value) (p : Nat) (bad : Int) (i j : Int) (nv : Value) : Obj := .cells #[v, .int .i64 p, .int .i64 bad, .int .i64 i, .int .i64 j, nv] 52 (0, 0)
theorem rr_cells {w : World} {R p : Nat} {v nv : Value} {bad i j : Int} (h : w.heap[R]? = some (rrO v p bad i j nv)) : w.cell? ⟨R, 0, none⟩ = some v ∧ w.cell? ⟨R, 1, none⟩ = some (.int .i64 p) ∧ w.cell? ⟨R, 2, none⟩ = some (.int .i64 bad) := by
  unfold rrO at h
  exact ⟨by rw [Lib.cell_of_heap h]; rfl, by rw [Lib.cell_of_heap h]; rfl, by rw [Lib.cell_of_heap h]; rfl⟩
def DrewOf (w w' : World) : Prop := ∃ k, w' = w.drewN k
theorem drewN_heap (w : World) : ∀ k, (w.drewN k).heap = w.heap
  | 0 => rfl
  | k + 1 => drewN_heap w k
theorem drewN_cell (w : World) (k : Nat) (a : Addr) : (w.drewN k).cell? a = w.cell? a := by
  induction k with
  | zero => rfl
  | succ k ih => exact ih
theorem drewN_two (w : World) (k m : Nat) : DrewOf w ((w.drewN k).drewN m) := by
  induction m with
  | zero => exact ⟨k, rfl⟩
  | succ m ih => obtain ⟨q, hq⟩ := ih; exact ⟨q + 1, by show ((w.drewN k).drewN m).drew = (w.drewN q).drew; rw [hq]⟩
set_option maxRecDepth 20000 in
theorem rkind_any (R p : Nat) (v nv : Value) (bad i j : Int) (L : List Tok) (w : World) (hR : w.heap[R]? = some (rrO v p bad i j nv)) (hL : PTok w L v) : Calls Tryd.prog 31 #[.pointer (some ⟨R, 0, none⟩)] w fun e w' => e = .returned (.int .i64 (kindAt L p : Nat)) ∧ DrewOf w w' := by
  obtain ⟨a, cap, rfl, hc⟩ := hL.cell
  obtain ⟨c0, c1, c2⟩ := rr_cells hR
  have HLN := Lib.hid (show L.length ≤ maxLen by obtain ⟨a', cap', e, h1, h2, -⟩ := hL; omega)
  clear hR hL
  by_cases hlt : p < L.length
  · obtain ⟨g, rfl, k0, -, -⟩ := hc p L[p] (List.getElem?_eq_getElem hlt)
    have hk : kindAt L p = L[p].k := by simp [kindAt, List.getElem?_eq_getElem hlt]
    rw [hk]
    generalize L[p].k = kk at k0
    clear hc hk
    go_enter Tryd.func31, Tryd.ntmps31
    go_wp2_with fail
    go_quiet (fail)
    have d0 := (drewN_cell w nq _).trans c0
    have d1 := (drewN_cell w nq _).trans c1
    have m0 := (drewN_cell w nq _).trans k0
    have HD := Lib.hid (drewN_two w nq)
    generalize w.drewN nq = W at d0 d1 m0 HD
    clear c0 c1 c2 k0
    go_wp2_with fail
    go_quiet (fail)
    go_wp2
    go_ret
    exact ⟨rfl, HD.out _⟩
  · have hk : kindAt L p = 0 := by simp [kindAt, List.getElem?_eq_none (by omega : L.length ≤ p)]
    rw [hk]
    clear hc hk
    go_enter Tryd.func31, Tryd.ntmps31
    go_wp2_with fail
    go_quiet (fail)
    have HD := Lib.hid (show DrewOf w (w.drewN nq) from ⟨nq, rfl⟩)
    generalize w.drewN nq = W at HD
    go_wp2
    go_ret
    exact ⟨rfl, HD.out⟩
set_option maxRecDepth 20000 in
theorem rword_any (R p : Nat) (v nv : Value) (bad i j : Int) (L : List Tok) (w : World) (hR : w.heap[R]? = some (rrO v p bad i j nv)) (hL : PTok w L v) : Calls Tryd.prog 43 #[.pointer (some ⟨R, 0, none⟩)] w fun e w' => e = .returned (.string ⟨(wordAt L p).toArray⟩) ∧ DrewOf w w' := by
  obtain ⟨a, cap, rfl, hc⟩ := hL.cell
  obtain ⟨c0, c1, c2⟩ := rr_cells hR
  have HLN := Lib.hid (show L.length ≤ maxLen by obtain ⟨a', cap', e, h1, h2, -⟩ := hL; omega)
  clear hR hL
  by_cases hlt : p < L.length
  · obtain ⟨g, rfl, -, k0, -⟩ := hc p L[p] (List.getElem?_eq_getElem hlt)
    have hk : wordAt L p = L[p].s := by simp [wordAt, List.getElem?_eq_getElem hlt]
    rw [hk]
    generalize (⟨(L[p].s).toArray⟩ : ByteArray) = kk at k0
    clear hc hk
    go_enter Tryd.func43, Tryd.ntmps43
    go_wp2_with fail
    go_quiet (fail)
    have d0 := (drewN_cell w nq _).trans c0
    have d1 := (drewN_cell w nq _).trans c1
    have m0 := (drewN_cell w nq _).trans k0
    have HD := Lib.hid (drewN_two w nq)
    generalize w.drewN nq = W at d0 d1 m0 HD
    clear c0 c1 c2 k0
    go_wp2_with fail
    go_quiet (fail)
    go_wp2
    go_ret
    exact ⟨rfl, HD.out _⟩
  · have hk : wordAt L p = [] := by simp [wordAt, List.getElem?_eq_none (by omega : L.length ≤ p)]
    rw [hk]
    clear hc hk
    go_enter Tryd.func43, Tryd.ntmps43
    go_wp2_with fail
    go_quiet (fail)
    have HD := Lib.hid (show DrewOf w (w.drewN nq) from ⟨nq, rfl⟩)
    generalize w.drewN nq = W at HD
    go_wp2
    go_ret
    exact ⟨rfl, HD.out⟩
/-- The token at fault, as an int. -/
def badV : Option Nat → Int
  | none => -1
  | some b => b
def rrX (v : Value) (s : XS) (i j : Int) (nv : Value) : Obj := rrO v s.p (badV s.bad) i j nv
theorem rr_set {w : World} {R p : Nat} {v nv : Value} {bad i j : Int} (h : w.heap[R]? = some (rrO v p bad i j nv)) (b : Int) : (w.setCell ⟨R, 2, none⟩ (.int .i64 b)).heap[R]? = some (rrO v p b i j nv) := heap_setCell_same w R 2 _ _ _ h
theorem rr_setp {w : World} {R p : Nat} {v nv : Value} {bad i j : Int} (h : w.heap[R]? = some (rrO v p bad i j nv)) (q : Nat) : (w.setCell ⟨R, 1, none⟩ (.int .i64 q)).heap[R]? = some (rrO v q bad i j nv) := heap_setCell_same w R 1 _ _ _ h
set_option maxRecDepth 20000 in
theorem rfail_any (R : Nat) (v nv : Value) (s : XS) (i j : Int) (w : World) (hR : w.heap[R]? = some (rrX v s i j nv)) : Calls Tryd.prog 44 #[.pointer (some ⟨R, 0, none⟩), .int .i64 s.p] w fun e w' => e = .returned (.tuple #[]) ∧ w.grownBy w' (some R) ∧ w'.heap[R]? = some (rrX v s.fail i j nv) := by
  obtain ⟨c0, c1, c2⟩ := rr_cells hR
  have hf : w.frozen? ⟨R, 2, none⟩ = false := by
    unfold rrX rrO at hR
    unfold World.frozen?
    rw [hR]
    rfl
  have HG := Lib.hid (grown_at (S := R) (⟨rfl, rfl, rfl, Nat.le_refl _, fun _ _ _ => rfl⟩ : w.grownBy w none) 2 (.int .i64 (s.p : Nat)))
  have HR := Lib.hid hR
  have HG0 := Lib.hid (show w.grownBy w (some R) from ⟨rfl, rfl, rfl, Nat.le_refl _, fun _ _ _ => rfl⟩)
  clear hR
  cases hb : s.bad with
  | none =>
    have hq := rr_set (HR.out) (s.p : Nat)
    have HQ := Lib.hid (show (w.setCell ⟨R, 2, none⟩ (.int .i64 (s.p : Nat))).heap[R]? = some (rrX v s.fail i j nv) by
      rw [hq]; unfold rrX XS.fail; rw [hb]; rfl)
    rw [hb] at c2
    unfold badV at c2
    clear hq
    go_enter Tryd.func44, Tryd.ntmps44
    go_wp2
    exact bodyPost_end (results_none rfl _ _ _) rfl ⟨rfl, HG.out, HQ.out⟩
  | some b =>
    have HQ := Lib.hid (show w.heap[R]? = some (rrX v s.fail i j nv) by
      rw [HR.out]; unfold rrX XS.fail; rw [hb]; simp [hb])
    rw [hb] at c2
    unfold badV at c2
    have h0 : (0 : Int) ≤ (b : Int) := by omega
    go_enter Tryd.func44, Tryd.ntmps44
    go_wp2
    exact bodyPost_end (results_none rfl _ _ _) rfl ⟨rfl, HG0.out, HQ.out⟩
theorem drewN_row (w : World) (k : Nat) (row : Option Nat) : w.grownBy (w.drewN k) row := by
  have h := drewN_grown w k
  exact ⟨h.os, h.tape, h.output, h.size, fun b hb _ => by rw [drewN_heap]⟩
theorem PTok.heap {w w' : World} {L : List Tok} {v : Value} (h : PTok w L v) (e : w'.heap = w.heap) : PTok w' L v := h.keep fun g cs fz h2 => by rw [e]; exact h2
theorem PTok.row {w w' : World} {L : List Tok} {v v0 nv : Value} {R p : Nat} {bad i j : Int} (h : PTok w L v) (hR : w.heap[R]? = some (rrO v0 p bad i j nv)) (hg : w.grownBy w' (some R)) : PTok w' L v :=
  h.keep fun g cs fz e => by
    rw [hg.block g (hltD e) (fun e2 => by
      obtain rfl := Option.some.inj e2
      unfold rrO at hR
      exact absurd (typeD e hR) (by decide))]
    exact e
/-- What Want gives. -/
def WantG (R : Nat) (v nv : Value) (i j : Int) (w : World) (x : List UInt8 × XS) (e : Ending) (w' : World) : Prop := e = .returned (.string ⟨x.1.toArray⟩) ∧ w.grownBy w' (some R) ∧ w'.heap[R]? = some (rrX v x.2 i j nv)
set_option maxHeartbeats 1000000 in
set_option maxRecDepth 20000 in
theorem rwant_any (R k : Nat) (v nv : Value) (s : XS) (i j : Int) (L : List Tok) (w : World) (hR : w.heap[R]? = some (rrX v s i j nv)) (hL : PTok w L v) (hp : s.p ≤ 1000000000) : Calls Tryd.prog 30 #[.pointer (some ⟨R, 0, none⟩), .int .i64 k] w (WantG R v nv i j w (wantX L k s)) := by
  obtain ⟨c0, c1, c2⟩ := rr_cells hR
  have HG0 := Lib.hid (show w.grownBy w (some R) from ⟨rfl, rfl, rfl, Nat.le_refl _, fun _ _ _ => rfl⟩)
  have HR := Lib.hid hR
  have HL := Lib.hid hL
  have HK := Lib.hid (rkind_any R s.p v nv (badV s.bad) i j L w hR hL)
  clear hR hL
  cases hb : s.bad with
  | some b =>
    have hx : wantX L k s = ([], s) := want_bad hb
    rw [hb] at c2
    unfold badV at c2
    have h0 : (0 : Int) ≤ (b : Int) := by omega
    rw [hx]
    go_enter Tryd.func30, Tryd.ntmps30
    go_wp2
    go_ret
    exact ⟨rfl, HG0.out, HR.out⟩
  | none =>
    rw [hb] at c2
    unfold badV at c2
    by_cases hk : kindAt L s.p = k
    · have hx : wantX L k s = (wordAt L s.p, s.next) := by unfold wantX; rw [hb]; simp only; rw [if_pos hk]
      rw [hx]
      have hkb : ((kindAt L s.p : Nat) : Int) = (k : Int) := by rw [hk]
      go_enter Tryd.func30, Tryd.ntmps30
      go_wp2_with fail
      refine HK.out.mono ?_
      rintro e w1 ⟨rfl, q1, rfl⟩
      rw [hkb]
      have HR1 := Lib.hid (show (w.drewN q1).heap[R]? = some (rrX v s i j nv) by rw [drewN_heap]; exact HR.out)
      have HL1 := Lib.hid (HL.out.heap (drewN_heap w q1))
      have HG1 := Lib.hid (drewN_row w q1 (some R))
      generalize w.drewN q1 = W at HR1 HL1 HG1
      clear HK HG0 c0 c1 c2
      go_wp2_with fail
      refine (rword_any R s.p v nv (badV s.bad) i j L W HR1.out HL1.out).mono ?_
      rintro e w2 ⟨rfl, q2, rfl⟩
      have HR2 := Lib.hid (show (W.drewN q2).heap[R]? = some (rrX v s i j nv) by rw [drewN_heap]; exact HR1.out)
      have HG2 := Lib.hid (HG1.out.trans (drewN_row W q2 (some R)))
      generalize W.drewN q2 = U at HR2 HG2
      obtain ⟨c0, c1, c2⟩ := rr_cells HR2.out
      have hf : U.frozen? ⟨R, 1, none⟩ = false := by
        have hR := HR2.out
        unfold rrX rrO at hR
        unfold World.frozen?
        rw [hR]
        rfl
      have HQ := Lib.hid (show (U.setCell ⟨R, 1, none⟩ (.int .i64 ((s.p : Int) + 1))).heap[R]? = some (rrX v s.next i j nv) from rr_setp HR2.out (s.p + 1))
      have HG := Lib.hid (HG2.out.trans (grown_at (S := R) (⟨rfl, rfl, rfl, Nat.le_refl _, fun _ _ _ => rfl⟩ : U.grownBy U none) 1 (.int .i64 ((s.p : Int) + 1))))
      go_wp2
      go_ret
      exact ⟨rfl, HG.out, HQ.out⟩
    · have hx : wantX L k s = ([], s.fail) := by unfold wantX; rw [hb]; simp only; rw [if_neg hk]
      rw [hx]
      have hkb : ¬ ((kindAt L s.p : Nat) : Int) = (k : Int) := by omega
      go_enter Tryd.func30, Tryd.ntmps30
      go_wp2_with fail
      refine HK.out.mono ?_
      rintro e w1 ⟨rfl, q1, rfl⟩
      have HR1 := Lib.hid (show (w.drewN q1).heap[R]? = some (rrX v s i j nv) by rw [drewN_heap]; exact HR.out)
      have HG1 := Lib.hid (drewN_row w q1 (some R))
      generalize w.drewN q1 = W at HR1 HG1
      clear HK HG0 HL c0 c1 c2
      obtain ⟨c0, c1, c2⟩ := rr_cells HR1.out
      go_wp2_with fail
      refine (rfail_any R v nv s i j W HR1.out).mono ?_
      rintro e w2 ⟨rfl, hg2, hq2⟩
      have HG := Lib.hid (HG1.out.trans hg2)
      have HQ := Lib.hid hq2
      clear hg2 hq2
      go_wp2
      go_ret
      exact ⟨rfl, HG.out, HQ.out⟩
end Go.Proofs.YtlalolnhpcbjnaaDoor.Dv

namespace Go.Proofs.YtlalolnhpcbjnaaDoor.Rt
open Go.RowKit
open Dv (XS kindAt wordAt placeAt wantX kind_cons kind_nil want_is want_bad here_place rrO rrX badV PTok rr_set rr_setp DrewOf drewN_heap drewN_row hltD)

/-- The Reader's block, its tokens, the two levels. -/
structure PR where
  R : Nat
  L : List Tok
  v : Value
  i : Int
  j : Int
structure RS (c : PR) (nv : Value) (s : XS) (w : World) : Prop where
  rd : w.heap[c.R]? = some (rrX c.v s c.i c.j nv)
  tok : PTok w c.L c.v
/-- Nothing but the Reader's block is other than it was. -/
abbrev Fw (c : PR) (w w' : World) : Prop := w.grownBy w' (some c.R)
theorem Fw.refl (c : PR) (w : World) : Fw c w w := ⟨rfl, rfl, rfl, Nat.le_refl _, fun _ _ _ => rfl⟩
theorem RS.cells {c : PR} {nv : Value} {s : XS} {w : World} (h : RS c nv s w) : w.cell? ⟨c.R, 0, none⟩ = some c.v ∧ w.cell? ⟨c.R, 1, none⟩ = some (.int .i64 s.p) ∧ w.cell? ⟨c.R, 2, none⟩ = some (.int .i64 (badV s.bad)) ∧ w.cell? ⟨c.R, 3, none⟩ = some (.int .i64 c.i) ∧ w.cell? ⟨c.R, 4, none⟩ = some (.int .i64 c.j) ∧ w.cell? ⟨c.R, 5, none⟩ = some nv := by
  have r := h.rd
  unfold rrX rrO at r
  exact ⟨by rw [Lib.cell_of_heap r]; rfl, by rw [Lib.cell_of_heap r]; rfl, by rw [Lib.cell_of_heap r]; rfl, by rw [Lib.cell_of_heap r]; rfl, by rw [Lib.cell_of_heap r]; rfl, by rw [Lib.cell_of_heap r]; rfl⟩
theorem RS.free {c : PR} {nv : Value} {s : XS} {w : World} (h : RS c nv s w) (q : Nat) : w.frozen? ⟨c.R, q, none⟩ = false := by
  have r := h.rd
  unfold rrX rrO at r
  unfold World.frozen?
  rw [r]; rfl
theorem RS.lt {c : PR} {nv : Value} {s : XS} {w : World} (h : RS c nv s w) : c.R < w.heap.size := hltD h.rd
theorem RS.of {c : PR} {nv nv' : Value} {s s' : XS} {w w' : World} (h : RS c nv s w) (hg : Fw c w w') (hr : w'.heap[c.R]? = some (rrX c.v s' c.i c.j nv')) : RS c nv' s' w' := ⟨hr, h.tok.row (by have := h.rd; unfold rrX at this; exact this) hg⟩
theorem RS.other {c : PR} {nv : Value} {s : XS} {w w' : World} {row : Option Nat} (h : RS c nv s w) (hg : w.grownBy w' row) (hR : row ≠ some c.R) (hT : ∀ b, row = some b → ∀ (cs : Array Value) (T : TypeId) (fz : Nat × Nat), w.heap[b]? = some (Obj.cells cs T fz) → T ≠ 79) : RS c nv s w' :=
  ⟨(hg.block _ h.lt (fun e => hR e.symm)).trans h.rd, h.tok.keep fun g _ _ e => (hg.block g (hltD e) (fun e2 => hT g e2.symm _ _ _ e rfl)).trans e⟩
theorem RS.same {c : PR} {nv : Value} {s : XS} {w w' : World} (h : RS c nv s w) (hg : w.grownBy w' none) : RS c nv s w' := h.other hg (by simp) (fun b e => by cases e)
theorem drewN_gr (w : World) (k : Nat) : w.grownBy (w.drewN k) none := drewN_row w k none
theorem RS.drewN {c : PR} {nv : Value} {s : XS} {w : World} (h : RS c nv s w) (k : Nat) : RS c nv s (w.drewN k) := h.same (drewN_gr w k)
theorem Fw.same {c : PR} {w w' w2 : World} (h : Fw c w w') (hg : w'.grownBy w2 none) : Fw c w w2 := h.trans ⟨hg.os, hg.tape, hg.output, hg.size, fun b hb _ => hg.block b hb (by simp)⟩
theorem RS.step {c : PR} {nv : Value} {s : XS} {w : World} (h : RS c nv s w) : RS c nv s.next (w.setCell ⟨c.R, 1, none⟩ (.int .i64 ((s.p : Int) + 1))) ∧ Fw c w (w.setCell ⟨c.R, 1, none⟩ (.int .i64 ((s.p : Int) + 1))) := by
  have hg : Fw c w (w.setCell ⟨c.R, 1, none⟩ (.int .i64 ((s.p : Int) + 1))) := grown_at ⟨rfl, rfl, rfl, Nat.le_refl _, fun _ _ _ => rfl⟩ 1 _
  refine ⟨h.of hg ?_, hg⟩
  have r := h.rd
  unfold rrX at r ⊢
  exact rr_setp r (s.p + 1)
theorem RS.kind {c : PR} {nv : Value} {s : XS} {w : World} (h : RS c nv s w) : Calls Tryd.prog 31 #[.pointer (some ⟨c.R, 0, none⟩)] w fun e w' => e = .returned (.int .i64 (kindAt c.L s.p : Nat)) ∧ RS c nv s w' ∧ w.grownBy w' none :=
  (Dv.rkind_any c.R s.p c.v nv (badV s.bad) c.i c.j c.L w (by have := h.rd; unfold rrX at this; exact this) h.tok).mono (by
    rintro e w' ⟨rfl, k, rfl⟩
    exact ⟨rfl, h.drewN k, drewN_gr w k⟩)
theorem RS.word {c : PR} {nv : Value} {s : XS} {w : World} (h : RS c nv s w) : Calls Tryd.prog 43 #[.pointer (some ⟨c.R, 0, none⟩)] w fun e w' => e = .returned (.string ⟨(wordAt c.L s.p).toArray⟩) ∧ RS c nv s w' ∧ w.grownBy w' none :=
  (Dv.rword_any c.R s.p c.v nv (badV s.bad) c.i c.j c.L w (by have := h.rd; unfold rrX at this; exact this) h.tok).mono (by
    rintro e w' ⟨rfl, k, rfl⟩
    exact ⟨rfl, h.drewN k, drewN_gr w k⟩)
theorem RS.want {c : PR} {nv : Value} {s : XS} {w : World} (h : RS c nv s w) (k : Nat) (hp : s.p ≤ 1000000000) : Calls Tryd.prog 30 #[.pointer (some ⟨c.R, 0, none⟩), .int .i64 k] w fun e w' => e = .returned (.string ⟨(wantX c.L k s).1.toArray⟩) ∧ RS c nv (wantX c.L k s).2 w' ∧ Fw c w w' :=
  (Dv.rwant_any c.R k c.v nv s c.i c.j c.L w h.rd h.tok hp).mono (by
    rintro e w' ⟨rfl, hg, hr⟩
    exact ⟨rfl, h.of hg hr, hg⟩)
set_option maxRecDepth 20000 in
theorem rfailat_any (c : PR) (nv : Value) (s : XS) (q : Nat) (w : World) (h : RS c nv s w) : Calls Tryd.prog 44 #[.pointer (some ⟨c.R, 0, none⟩), .int .i64 q] w fun e w' => e = .returned (.tuple #[]) ∧ RS c nv (failAt q s) w' ∧ Fw c w w' := by
  obtain ⟨c0, c1, c2, -, -, -⟩ := h.cells
  have hf := h.free 2
  have hg := grown_at (S := c.R) (⟨rfl, rfl, rfl, Nat.le_refl _, fun _ _ _ => rfl⟩ : w.grownBy w none) 2 (.int .i64 (q : Nat))
  have HG := Lib.hid hg
  have HS := Lib.hid h
  clear hg
  cases hb : s.bad with
  | none =>
    have HQ := Lib.hid (HS.out.of HG.out (nv' := nv) (s' := failAt q s) (by
      have r := HS.out.rd
      unfold rrX at r ⊢
      rw [rr_set r (q : Nat)]; unfold failAt; rw [hb]; rfl))
    rw [hb] at c2
    unfold badV at c2
    clear h
    go_enter Tryd.func44, Tryd.ntmps44
    go_wp2
    exact bodyPost_end (results_none rfl _ _ _) rfl ⟨rfl, HQ.out, HG.out⟩
  | some b =>
    have HX := Lib.hid (show failAt q s = s by unfold failAt; rw [hb])
    rw [hb] at c2
    unfold badV at c2
    have h0 : (0 : Int) ≤ (b : Int) := by omega
    clear h
    go_enter Tryd.func44, Tryd.ntmps44
    go_wp2
    exact bodyPost_end (results_none rfl _ _ _) rfl ⟨rfl, by rw [HX.out]; exact HS.out, Fw.refl _ _⟩
theorem fail_at (s : XS) : failAt s.p s = s.fail := by unfold failAt XS.fail; cases h : s.bad <;> rfl
theorem RS.failed {c : PR} {nv : Value} {s : XS} {w : World} (h : RS c nv s w) : Calls Tryd.prog 44 #[.pointer (some ⟨c.R, 0, none⟩), .int .i64 (s.p : Nat)] w fun e w' => e = .returned (.tuple #[]) ∧ RS c nv s.fail w' ∧ Fw c w w' :=
  (rfailat_any c nv s s.p w h).mono (by rintro e w' ⟨rfl, h1, h2⟩; rw [fail_at] at h1; exact ⟨rfl, h1, h2⟩)

/-- Where a Reader stands. -/
structure IX (L : List Tok) (s : XS) : Prop where
  p : s.p ≤ L.length
  bad : ∀ b, s.bad = some b → b ≤ L.length
theorem IX.failAt {L : List Tok} {s : XS} (h : IX L s) {q : Nat} (hq : q ≤ L.length) : IX L (failAt q s) := by
  unfold Rt.failAt
  cases hb : s.bad with
  | none => exact ⟨h.p, fun b e => by cases e; exact hq⟩
  | some b => exact h
theorem failAt_p (q : Nat) (s : XS) : (failAt q s).p = s.p := by unfold failAt; cases s.bad <;> rfl
theorem fail_p (s : XS) : s.fail.p = s.p := by rw [← fail_at, failAt_p]
theorem IX.fail {L : List Tok} {s : XS} (h : IX L s) : IX L s.fail := by rw [← fail_at]; exact h.failAt h.p
theorem kind_lt {L : List Tok} {p : Nat} (h : kindAt L p ≠ 0) : p < L.length := by
  rcases drop_kind (L := L) (p := p) with ⟨-, h1, -⟩ | ⟨t, r, h1, -⟩
  · exact absurd h1 h
  · have := congrArg List.length h1
    simp only [List.length_drop, List.length_cons] at this
    omega
theorem IX.next {L : List Tok} {s : XS} (h : IX L s) (hk : kindAt L s.p ≠ 0) : IX L s.next := ⟨kind_lt hk, h.bad⟩
theorem IX.want {L : List Tok} {s : XS} (h : IX L s) {k : Nat} (hk : k ≠ 0) : IX L (wantX L k s).2 := by
  unfold wantX
  cases hb : s.bad with
  | some b => exact h
  | none =>
    simp only
    split
    · rename_i e; exact h.next (by omega)
    · exact h.fail
theorem want_up (L : List Tok) (k : Nat) (s : XS) : s.p ≤ (wantX L k s).2.p := by
  unfold wantX
  cases s.bad with
  | some b => exact Nat.le_refl _
  | none =>
    simp only
    split
    · exact Nat.le_succ _
    · rw [fail_p]; exact Nat.le_refl _
/-- What a level's reading keeps. -/
structure KeepL (L : List Tok) (lx : XS → Int × XS) : Prop where
  keep : ∀ s, IX L s → IX L (lx s).2
  up : ∀ s, s.p ≤ (lx s).2.p
  nn : ∀ s, 0 ≤ (lx s).1 ∧ (lx s).1 ≤ 1000
theorem levQ_keep {lx : XS → Int × XS} {L : List Tok} (h : KeepL L lx) {s : XS} : (IX L s → IX L (levQ lx L s).2) ∧ s.p ≤ (levQ lx L s).2.p ∧ 0 ≤ (levQ lx L s).1 ∧ (levQ lx L s).1 ≤ 1001 := by
  unfold levQ
  split
  · rename_i hc
    split
    · refine ⟨fun hi => IX.want (h.keep _ (hi.next (by omega))) (by decide), ?_, ?_, ?_⟩
      · have := h.up s.next; have h2 := want_up L 2 (lx s.next).2; show s.p ≤ (wantX L 2 (lx s.next).2).2.p
        have h3 : s.next.p = s.p + 1 := rfl
        omega
      · have := h.nn s.next; show 0 ≤ (lx s.next).1 + 1; omega
      · have := h.nn s.next; show (lx s.next).1 + 1 ≤ 1001; omega
    · refine ⟨fun hi => IX.want (h.keep _ (h.keep _ (hi.next (by omega)))) (by decide), ?_, ?_, ?_⟩
      · have := h.up s.next; have h4 := h.up (lx s.next).2; have h2 := want_up L 2 (lx (lx s.next).2).2; show s.p ≤ (wantX L 2 (lx (lx s.next).2).2).2.p
        have h3 : s.next.p = s.p + 1 := rfl
        omega
      · have := h.nn s.next; show 0 ≤ max (lx s.next).1 (lx (lx s.next).2).1; omega
      · have := h.nn s.next; have := h.nn (lx s.next).2; show max (lx s.next).1 (lx (lx s.next).2).1 ≤ 1001; omega
  · exact ⟨fun hi => hi.fail, by rw [fail_p]; exact Nat.le_refl _, Int.le_refl 0, by show (0 : Int) ≤ 1001; decide⟩
theorem levN_keep {lx : XS → Int × XS} {L : List Tok} (h : KeepL L lx) {i j : Int} (hi : 0 ≤ i ∧ i ≤ 1000) (hj : 0 ≤ j ∧ j ≤ 1000) {s : XS} : (IX L s → IX L (levN lx L i j s).2) ∧ s.p ≤ (levN lx L i j s).2.p ∧ 0 ≤ (levN lx L i j s).1 := by
  unfold levN
  by_cases k4 : kindAt L s.p = 4
  · rw [if_pos k4]
    exact ⟨fun h => h.next (by omega), Nat.le_succ _, Int.natCast_nonneg _⟩
  rw [if_neg k4]
  by_cases ki : kindAt L s.p = 3 ∧ wordAt L s.p = [105]
  · rw [if_pos ki]
    exact ⟨fun h => h.next (by omega), Nat.le_succ _, hi.1⟩
  rw [if_neg ki]
  by_cases kj : kindAt L s.p = 3 ∧ wordAt L s.p = [106]
  · rw [if_pos kj]
    exact ⟨fun h => h.next (by omega), Nat.le_succ _, hj.1⟩
  rw [if_neg kj]
  by_cases k1 : kindAt L s.p = 1
  · rw [if_pos k1]
    obtain ⟨q1, q2, q3, -⟩ := levQ_keep h (s := s.next)
    exact ⟨fun h => q1 (h.next (by omega)), Nat.le_trans (Nat.le_succ _) q2, q3⟩
  · rw [if_neg k1]
    exact ⟨fun h => h.fail, by rw [fail_p]; exact Nat.le_refl _, Int.le_refl 0⟩
theorem levE_keep {L : List Tok} {p0 : Nat} {x : Int × XS} (h0 : 0 ≤ x.1) (hp : p0 ≤ x.2.p) : (p0 ≤ L.length → IX L x.2 → IX L (levE p0 x).2) ∧ p0 ≤ (levE p0 x).2.p ∧ 0 ≤ (levE p0 x).1 ∧ (levE p0 x).1 ≤ 1000 := by
  have e : (levE p0 x).2 = if 1000 < x.1 then failAt p0 x.2 else x.2 := by
    unfold levE
    by_cases hb : (if 1000 < x.1 then failAt p0 x.2 else x.2).bad = none
    · rw [if_pos hb]
    · rw [if_neg hb]
  have e1 : (levE p0 x).1 = if (if 1000 < x.1 then failAt p0 x.2 else x.2).bad = none then x.1 else 0 := by
    unfold levE
    by_cases hb : (if 1000 < x.1 then failAt p0 x.2 else x.2).bad = none
    · rw [if_pos hb, if_pos hb]
    · rw [if_neg hb, if_neg hb]
  rw [e, e1]
  refine ⟨fun hq hi => ?_, ?_, ?_, ?_⟩
  · split
    · exact hi.failAt hq
    · exact hi
  · split
    · rw [failAt_p]; exact hp
    · exact hp
  · by_cases hb : (if 1000 < x.1 then failAt p0 x.2 else x.2).bad = none
    · rw [if_pos hb]; exact h0
    · rw [if_neg hb]; exact Int.le_refl 0
  · by_cases hb : (if 1000 < x.1 then failAt p0 x.2 else x.2).bad = none
    · rw [if_pos hb]
      by_cases hn : 1000 < x.1
      · rw [if_pos hn] at hb
        unfold failAt at hb
        cases hx : x.2.bad with
        | none => rw [hx] at hb; cases hb
        | some b => rw [hx] at hb; dsimp only at hb; rw [hx] at hb; cases hb
      · omega
    · rw [if_neg hb]; show (0 : Int) ≤ 1000; decide
theorem levX_keep {L : List Tok} {i j : Int} (hi : 0 ≤ i ∧ i ≤ 1000) (hj : 0 ≤ j ∧ j ≤ 1000) : ∀ f, KeepL L (levX L i j f)
  | 0 => ⟨fun s h => h.fail, fun s => by show s.p ≤ s.fail.p; rw [fail_p]; exact Nat.le_refl _, fun s => ⟨Int.le_refl 0, by show (0 : Int) ≤ 1000; decide⟩⟩
  | f + 1 => by
    have H := fun s => levN_keep (levX_keep (L := L) hi hj f) hi hj (s := s)
    refine ⟨fun s h => ?_, fun s => ?_, fun s => ?_⟩
    · unfold levX
      cases hb : s.bad with
      | some b => exact h
      | none => exact (levE_keep (L := L) (H s).2.2 (H s).2.1).1 h.p ((H s).1 h)
    · unfold levX
      cases hb : s.bad with
      | some b => exact Nat.le_refl _
      | none => exact (levE_keep (L := L) (H s).2.2 (H s).2.1).2.1
    · unfold levX
      cases hb : s.bad with
      | some b => exact ⟨Int.le_refl 0, by show (0 : Int) ≤ 1000; decide⟩
      | none => exact (levE_keep (L := L) (H s).2.2 (H s).2.1).2.2
end Go.Proofs.YtlalolnhpcbjnaaDoor.Rt

namespace Go.Proofs.YtlalolnhpcbjnaaDoor.Rt
open Go.RowKit
open Dv (XS kindAt wordAt placeAt wantX rrX badV PTok)

structure LevC (c : PR) (f : Nat) (lx : XS → Int × XS) : Prop where
  use : ∀ (nv : Value) (s : XS) (w : World), IX c.L s → c.L.length + 1 ≤ s.p + f → RS c nv s w → Calls Tryd.prog 61 #[.pointer (some ⟨c.R, 0, none⟩)] w fun e w' => e = .returned (.int .i64 (lx s).1) ∧ RS c nv (lx s).2 w' ∧ Fw c w w'
theorem word_at {L : List Tok} (h : ∀ t ∈ L, t.s.length ≤ 10000000) (p : Nat) : (wordAt L p).length ≤ 10000000 := by
  unfold wordAt
  cases e : L[p]? with
  | none => simp
  | some t => exact h t (List.mem_of_getElem? e)
theorem failAt_bad (q : Nat) (s : XS) : ∃ b, (failAt q s).bad = some b := by
  unfold failAt
  cases h : s.bad with
  | none => exact ⟨q, rfl⟩
  | some b => exact ⟨b, h⟩
theorem levE_out {p0 : Nat} {n : Int} {y : XS} (h : 1000 < n) : levE p0 (n, y) = (0, failAt p0 y) := by
  obtain ⟨b, hb⟩ := failAt_bad p0 y
  unfold levE
  simp only [if_pos h]
  rw [if_neg (by rw [hb]; simp)]
theorem levE_in {p0 : Nat} {n : Int} {y : XS} (h : ¬ 1000 < n) (hb : y.bad = none) : levE p0 (n, y) = (n, y) := by
  unfold levE
  simp only [if_neg h]
  rw [if_pos hb]
theorem levE_bad {p0 b : Nat} {n : Int} {y : XS} (h : ¬ 1000 < n) (hb : y.bad = some b) : levE p0 (n, y) = (0, y) := by
  unfold levE
  simp only [if_neg h]
  rw [if_neg (by rw [hb]; simp)]
set_option maxHeartbeats 8000000 in
set_option maxRecDepth 20000 in
theorem rlevel_step (c : PR) (f : Nat) (hlen : c.L.length ≤ 1000000) (htl : ∀ t ∈ c.L, t.s.length ≤ 10000000) (hi : 0 ≤ c.i ∧ c.i ≤ 1000) (hj : 0 ≤ c.j ∧ c.j ≤ 1000) (hL : LevC c f (levX c.L c.i c.j f)) : LevC c (f + 1) (levX c.L c.i c.j (f + 1)) := by
  refine ⟨?_⟩
  intro nv s w hx hf h
  have HS0 := Lib.hid h
  have HF0 := Lib.hid (Fw.refl c w)
  have HI := Lib.hid hx
  have hp := hx.p
  obtain ⟨c0, c1, c2, c3, c4, c5⟩ := h.cells
  cases hb : s.bad with
  | some b =>
    have HX := Lib.hid (show levX c.L c.i c.j (f + 1) s = (0, s) from levX_sticks _ _ _ _ _ _ hb)
    rw [hb] at c2
    unfold badV at c2
    have h0 : (0 : Int) ≤ (b : Int) := by omega
    clear hL h hx
    go_enter Tryd.func61, Tryd.ntmps61
    go_wp2
    go_ret
    rw [HX.out]
    exact ⟨rfl, HS0.out, HF0.out⟩
  | none =>
    obtain ⟨X, hX⟩ : ∃ X, levX c.L c.i c.j (f + 1) s = X := ⟨_, rfl⟩
    rw [hX]
    unfold levX at hX
    rw [hb] at hX
    dsimp only at hX
    have HK := Lib.hid (levX_keep (L := c.L) hi hj f)
    have HLV := Lib.hid hL
    clear hL
    generalize levX c.L c.i c.j f = lx at hX HK HLV
    have HX := Lib.hid hX
    rw [hb] at c2
    unfold badV at c2
    have hw1 : IntKind.i64.wrap ((s.p : Int) + 1) = (s.p : Int) + 1 := IntWalk.i64_in _ (by omega)
    have HB := Lib.hid hb
    have HFU := Lib.hid hf
    clear hX h hx hb hf
    go_enter Tryd.func61, Tryd.ntmps61
    by_cases hq : kindAt c.L s.p = 1 ∧ ¬ (kindAt c.L (s.p + 1) = 3 ∧ (wordAt c.L (s.p + 1) = sucW ∨ wordAt c.L (s.p + 1) = maxW))
    case pos =>
      obtain ⟨hk1, hq⟩ := hq
      have hki : ((kindAt c.L s.p : Nat) : Int) = 1 := by omega
      have HXX := Lib.hid (show X = (0, s.next.fail) by
        have e : levN lx c.L c.i c.j s = (0, s.next.fail) := by
          unfold levN
          rw [if_neg (by omega), if_neg (by omega), if_neg (by omega), if_pos hk1]
          unfold levQ
          rw [if_neg (by exact hq)]
        rw [← HX.out, e]
        have hnb : s.next.fail.bad = some s.next.p := fail_none (s := s.next) HB.out
        exact levE_bad (by omega) hnb)
      clear HX
      go_wp2_with fail
      refine HS0.out.kind.mono ?_
      rintro e w1 ⟨rfl, hs, hg⟩
      rw [hki]
      have HS1 := Lib.hid hs
      have HF1 := Lib.hid (Fw.same HF0.out hg)
      clear hs hg
      go_wp2_with fail
      refine HS1.out.kind.mono ?_
      rintro e w2 ⟨rfl, hs, hg⟩
      rw [hki]
      have HS2 := Lib.hid hs
      have HF2 := Lib.hid (Fw.same HF1.out hg)
      clear hs hg
      go_wp2_with fail
      refine HS2.out.kind.mono ?_
      rintro e w3 ⟨rfl, hs, hg⟩
      rw [hki]
      have HS3 := Lib.hid hs
      have HF3 := Lib.hid (Fw.same HF2.out hg)
      clear hs hg
      go_wp2_with fail
      refine HS3.out.kind.mono ?_
      rintro e w4 ⟨rfl, hs, hg⟩
      rw [hki]
      have HS4 := Lib.hid hs
      have HF4 := Lib.hid (Fw.same HF3.out hg)
      clear hs hg
      have hst := HS4.out.step
      have HSN := Lib.hid hst.1
      have HFN := Lib.hid (HF4.out.trans hst.2)
      clear hst
      clear c0 c1 c2 c3 c4 c5
      obtain ⟨c0, c1, c2, c3, c4, c5⟩ := HS4.out.cells
      have f1 := HS4.out.free 1
      go_upto_region 16 with fail
      obtain ⟨V, hV⟩ : ∃ V, V = w4.setCell ⟨c.R, 1, none⟩ (.int .i64 ((s.p : Int) + 1)) := ⟨_, rfl⟩
      rw [← hV] at HSN HFN
      rw [← hV]
      clear hV
      clear c0 c1 c2 c3 c4 c5 f1
      have HS5 := HSN
      have HF5 := HFN
      clear HSN HFN
      obtain ⟨wd, hwd⟩ : ∃ wd, wordAt c.L s.next.p = wd := ⟨_, rfl⟩
      rw [show wordAt c.L (s.p + 1) = wd from hwd] at hq
      go_wp2_with fail
      refine HS5.out.word.mono ?_
      rintro e w6 ⟨rfl, hs, hg⟩
      rw [hwd]
      have HS6 := Lib.hid hs
      have HF6 := Lib.hid (Fw.same HF5.out hg)
      clear hs hg
      clear hwd
      by_cases hk3 : kindAt c.L (s.p + 1) = 3
      case neg =>
        have hk3i : ¬ ((kindAt c.L s.next.p : Nat) : Int) = 3 := by rw [show s.next.p = s.p + 1 from rfl]; omega
        go_wp2_with fail
        refine HS6.out.kind.mono ?_
        rintro e w7 ⟨rfl, hs, hg⟩
        have HS7 := Lib.hid hs
        have HF7 := Lib.hid (Fw.same HF6.out hg)
        clear hs hg
        have hst := HS7.out.failed
        have HFL := Lib.hid hst
        clear hst
        obtain ⟨c0, c1, c2, c3, c4, c5⟩ := HS7.out.cells
        have f1 := HS7.out.free 1
        go_wp2_with fail
        refine HFL.out.mono ?_
        rintro e w9 ⟨rfl, hs9, hg9⟩
        have HS9 := Lib.hid hs9
        have HF9 := Lib.hid (HF7.out.trans hg9)
        clear hs9 hg9
        go_wp2
        go_ret
        rw [HXX.out]
        exact ⟨rfl, HS9.out, HF9.out⟩
      have hk3i : ((kindAt c.L s.next.p : Nat) : Int) = 3 := by rw [show s.next.p = s.p + 1 from rfl]; omega
      have hwa : (wd == [115, 117, 99]) = false := by have : ¬ wd = sucW := fun e => hq ⟨hk3, Or.inl e⟩; simpa [sucW] using this
      have hwb : (wd == [109, 97, 120]) = false := by have : ¬ wd = maxW := fun e => hq ⟨hk3, Or.inr e⟩; simpa [maxW] using this
      go_wp2_with fail
      refine HS6.out.kind.mono ?_
      rintro e w7 ⟨rfl, hs, hg⟩
      rw [hk3i]
      have HS7 := Lib.hid hs
      have HF7 := Lib.hid (Fw.same HF6.out hg)
      clear hs hg
      have hst := HS7.out.failed
      have HFL := Lib.hid hst
      clear hst
      obtain ⟨c0, c1, c2, c3, c4, c5⟩ := HS7.out.cells
      have f1 := HS7.out.free 1
      go_wp2_with fail
      refine HFL.out.mono ?_
      rintro e w9 ⟨rfl, hs9, hg9⟩
      have HS9 := Lib.hid hs9
      have HF9 := Lib.hid (HF7.out.trans hg9)
      clear hs9 hg9
      go_wp2
      go_ret
      rw [HXX.out]
      exact ⟨rfl, HS9.out, HF9.out⟩
    go_upto_block 0 with fail
    go_cut [4] (fun s4 wx => ∃ (n : Int) (y : XS), s4 = .int .i64 n ∧ Hid (levN lx c.L c.i c.j s = (n, y)) ∧ Hid (RS c nv y wx) ∧ Hid (Fw c w wx))
    case first =>
      by_cases hk4 : kindAt c.L s.p = 4
      case pos =>
        have hki : ((kindAt c.L s.p : Nat) : Int) = 4 := by omega
        have hln := word_at htl s.p
        obtain ⟨wd, hwd⟩ : ∃ wd, wordAt c.L s.p = wd := ⟨_, rfl⟩
        have HY := Lib.hid (show levN lx c.L c.i c.j s = ((((getB wd).getD 0 : Nat) : Int), s.next) by unfold levN; rw [if_pos hk4, hwd])
        rw [hwd] at hln
        go_wp2_with fail
        refine HS0.out.kind.mono ?_
        rintro e w1 ⟨rfl, hs, hg⟩
        rw [hki]
        have HS1 := Lib.hid hs
        have HF1 := Lib.hid (Fw.same HF0.out hg)
        clear hs hg
        go_wp2_with fail
        refine HS1.out.word.mono ?_
        rintro e w2 ⟨rfl, hs, hg⟩
        rw [hwd]
        have HS2 := Lib.hid hs
        have HF2 := Lib.hid (Fw.same HF1.out hg)
        clear hs hg
        clear hwd
        go_wp2_with fail
        refine (refget_any ⟨wd.toArray⟩ w2 (by show wd.toArray.size ≤ maxLen; unfold maxLen; rw [List.size_toArray]; omega)).mono ?_
        rintro e w' ⟨rfl, hww⟩
        obtain rfl := hww.symm
        have HGE := Lib.hid (getV_eq wd)
        obtain ⟨bb, hbb⟩ := HGE.out
        rw [show (⟨wd.toArray⟩ : ByteArray).data.toList = wd from rfl, hbb]
        have hgb := getB_d wd
        obtain ⟨nm, hnm⟩ : ∃ nm : Int, nm = (((getB wd).getD 0 : Nat) : Int) := ⟨_, rfl⟩
        rw [← hnm] at HY
        rw [← hnm]
        clear hnm hgb hbb HGE c0 c1 c2 c3 c4 c5
        have hst := HS2.out.step
        have HSN := Lib.hid hst.1
        have HFN := Lib.hid (HF2.out.trans hst.2)
        clear hst
        obtain ⟨c0, c1, c2, c3, c4, c5⟩ := HS2.out.cells
        have f1 := HS2.out.free 1
        go_wp2_with fail
        go_meet
        case rel => exact ⟨_, _, rfl, HY, HSN.out, HFN.out⟩
      by_cases hki3 : kindAt c.L s.p = 3 ∧ wordAt c.L s.p = [105]
      case pos =>
        have hk3 := hki3
        obtain ⟨hk3, hwd⟩ := hk3
        have hki : ((kindAt c.L s.p : Nat) : Int) = 3 := by omega
        have HY := Lib.hid (show levN lx c.L c.i c.j s = (c.i, s.next) by unfold levN; rw [if_neg (by omega), if_pos ⟨hk3, hwd⟩])
        go_wp2_with fail
        refine HS0.out.kind.mono ?_
        rintro e w1 ⟨rfl, hs, hg⟩
        rw [hki]
        have HS1 := Lib.hid hs
        have HF1 := Lib.hid (Fw.same HF0.out hg)
        clear hs hg
        go_wp2_with fail
        refine HS1.out.kind.mono ?_
        rintro e w2 ⟨rfl, hs, hg⟩
        rw [hki]
        have HS2 := Lib.hid hs
        have HF2 := Lib.hid (Fw.same HF1.out hg)
        clear hs hg
        go_wp2_with fail
        refine HS2.out.word.mono ?_
        rintro e w3 ⟨rfl, hs, hg⟩
        rw [hwd]
        have HS3 := Lib.hid hs
        have HF3 := Lib.hid (Fw.same HF2.out hg)
        clear hs hg
        clear c0 c1 c2 c3 c4 c5
        have hst := HS3.out.step
        have HSN := Lib.hid hst.1
        have HFN := Lib.hid (HF3.out.trans hst.2)
        clear hst
        obtain ⟨c0, c1, c2, c3, c4, c5⟩ := HS3.out.cells
        have f1 := HS3.out.free 1
        go_wp2_with fail
        go_meet
        case rel => exact ⟨_, _, rfl, HY, HSN.out, HFN.out⟩
      by_cases hkj3 : kindAt c.L s.p = 3 ∧ wordAt c.L s.p = [106]
      case pos =>
        have hk3 := hkj3
        obtain ⟨hk3, hwd⟩ := hk3
        have hki : ((kindAt c.L s.p : Nat) : Int) = 3 := by omega
        have HY := Lib.hid (show levN lx c.L c.i c.j s = (c.j, s.next) by unfold levN; rw [if_neg (by omega), if_neg hki3, if_pos ⟨hk3, hwd⟩])
        go_wp2_with fail
        refine HS0.out.kind.mono ?_
        rintro e w1 ⟨rfl, hs, hg⟩
        rw [hki]
        have HS1 := Lib.hid hs
        have HF1 := Lib.hid (Fw.same HF0.out hg)
        clear hs hg
        go_wp2_with fail
        refine HS1.out.kind.mono ?_
        rintro e w2 ⟨rfl, hs, hg⟩
        rw [hki]
        have HS2 := Lib.hid hs
        have HF2 := Lib.hid (Fw.same HF1.out hg)
        clear hs hg
        go_wp2_with fail
        refine HS2.out.word.mono ?_
        rintro e w3 ⟨rfl, hs, hg⟩
        rw [hwd]
        have HS3 := Lib.hid hs
        have HF3 := Lib.hid (Fw.same HF2.out hg)
        clear hs hg
        go_wp2_with fail
        refine HS3.out.kind.mono ?_
        rintro e w4 ⟨rfl, hs, hg⟩
        rw [hki]
        have HS4 := Lib.hid hs
        have HF4 := Lib.hid (Fw.same HF3.out hg)
        clear hs hg
        go_wp2_with fail
        refine HS4.out.word.mono ?_
        rintro e w5 ⟨rfl, hs, hg⟩
        rw [hwd]
        have HS5 := Lib.hid hs
        have HF5 := Lib.hid (Fw.same HF4.out hg)
        clear hs hg
        clear c0 c1 c2 c3 c4 c5
        have hst := HS5.out.step
        have HSN := Lib.hid hst.1
        have HFN := Lib.hid (HF5.out.trans hst.2)
        clear hst
        obtain ⟨c0, c1, c2, c3, c4, c5⟩ := HS5.out.cells
        have f1 := HS5.out.free 1
        go_wp2_with fail
        go_meet
        case rel => exact ⟨_, _, rfl, HY, HSN.out, HFN.out⟩
      by_cases hk3 : kindAt c.L s.p = 3
      case pos =>
        have hki : ((kindAt c.L s.p : Nat) : Int) = 3 := by omega
        obtain ⟨wd, hwd⟩ : ∃ wd, wordAt c.L s.p = wd := ⟨_, rfl⟩
        rw [hwd] at hki3 hkj3
        have hwa : (wd == [105]) = false := by have : ¬ wd = [105] := fun e => hki3 ⟨hk3, e⟩; simpa using this
        have hwb : (wd == [106]) = false := by have : ¬ wd = [106] := fun e => hkj3 ⟨hk3, e⟩; simpa using this
        have HY := Lib.hid (show levN lx c.L c.i c.j s = (0, s.fail) by unfold levN; rw [if_neg (by omega), if_neg (by rw [hwd]; exact hki3), if_neg (by rw [hwd]; exact hkj3), if_neg (by omega)])
        clear hki3 hkj3 hq
        go_wp2_with fail
        refine HS0.out.kind.mono ?_
        rintro e w1 ⟨rfl, hs, hg⟩
        rw [hki]
        have HS1 := Lib.hid hs
        have HF1 := Lib.hid (Fw.same HF0.out hg)
        clear hs hg
        go_wp2_with fail
        refine HS1.out.kind.mono ?_
        rintro e w2 ⟨rfl, hs, hg⟩
        rw [hki]
        have HS2 := Lib.hid hs
        have HF2 := Lib.hid (Fw.same HF1.out hg)
        clear hs hg
        go_wp2_with fail
        refine HS2.out.word.mono ?_
        rintro e w3 ⟨rfl, hs, hg⟩
        rw [hwd]
        have HS3 := Lib.hid hs
        have HF3 := Lib.hid (Fw.same HF2.out hg)
        clear hs hg
        go_wp2_with fail
        refine HS3.out.kind.mono ?_
        rintro e w4 ⟨rfl, hs, hg⟩
        rw [hki]
        have HS4 := Lib.hid hs
        have HF4 := Lib.hid (Fw.same HF3.out hg)
        clear hs hg
        go_wp2_with fail
        refine HS4.out.word.mono ?_
        rintro e w5 ⟨rfl, hs, hg⟩
        rw [hwd]
        have HS5 := Lib.hid hs
        have HF5 := Lib.hid (Fw.same HF4.out hg)
        clear hs hg
        go_wp2_with fail
        refine HS5.out.kind.mono ?_
        rintro e w6 ⟨rfl, hs, hg⟩
        rw [hki]
        have HS6 := Lib.hid hs
        have HF6 := Lib.hid (Fw.same HF5.out hg)
        clear hs hg
        have hst := HS6.out.failed
        have HFL := Lib.hid hst
        clear hst c0 c1 c2 c3 c4 c5
        obtain ⟨c0, c1, c2, c3, c4, c5⟩ := HS6.out.cells
        have f1 := HS6.out.free 1
        go_wp2_with fail
        refine HFL.out.mono ?_
        rintro e w9 ⟨rfl, hs9, hg9⟩
        have HSN := Lib.hid hs9
        have HFN := Lib.hid (HF6.out.trans hg9)
        clear hs9 hg9
        go_wp2_with fail
        go_meet
        case rel => exact ⟨_, _, rfl, HY, HSN.out, HFN.out⟩
      by_cases hk1 : kindAt c.L s.p = 1
      case neg =>
        have hk4i : ¬ ((kindAt c.L s.p : Nat) : Int) = 4 := by omega
        have hk3i : ¬ ((kindAt c.L s.p : Nat) : Int) = 3 := by omega
        have hk1i : ¬ ((kindAt c.L s.p : Nat) : Int) = 1 := by omega
        have HY := Lib.hid (show levN lx c.L c.i c.j s = (0, s.fail) by unfold levN; rw [if_neg hk4, if_neg hki3, if_neg hkj3, if_neg hk1])
        clear hki3 hkj3 hq
        go_wp2_with fail
        refine HS0.out.kind.mono ?_
        rintro e w1 ⟨rfl, hs, hg⟩
        have HS1 := Lib.hid hs
        have HF1 := Lib.hid (Fw.same HF0.out hg)
        clear hs hg
        go_wp2_with fail
        refine HS1.out.kind.mono ?_
        rintro e w2 ⟨rfl, hs, hg⟩
        have HS2 := Lib.hid hs
        have HF2 := Lib.hid (Fw.same HF1.out hg)
        clear hs hg
        go_wp2_with fail
        refine HS2.out.kind.mono ?_
        rintro e w3 ⟨rfl, hs, hg⟩
        have HS3 := Lib.hid hs
        have HF3 := Lib.hid (Fw.same HF2.out hg)
        clear hs hg
        go_wp2_with fail
        refine HS3.out.kind.mono ?_
        rintro e w4 ⟨rfl, hs, hg⟩
        have HS4 := Lib.hid hs
        have HF4 := Lib.hid (Fw.same HF3.out hg)
        clear hs hg
        have hst := HS4.out.failed
        have HFL := Lib.hid hst
        clear hst c0 c1 c2 c3 c4 c5
        obtain ⟨c0, c1, c2, c3, c4, c5⟩ := HS4.out.cells
        have f1 := HS4.out.free 1
        go_wp2_with fail
        refine HFL.out.mono ?_
        rintro e w9 ⟨rfl, hs9, hg9⟩
        have HSN := Lib.hid hs9
        have HFN := Lib.hid (HF4.out.trans hg9)
        clear hs9 hg9
        go_wp2_with fail
        go_meet
        case rel => exact ⟨_, _, rfl, HY, HSN.out, HFN.out⟩
      have hq : kindAt c.L (s.p + 1) = 3 ∧ (wordAt c.L (s.p + 1) = sucW ∨ wordAt c.L (s.p + 1) = maxW) := Classical.byContradiction fun e => hq ⟨hk1, e⟩
      have hki : ((kindAt c.L s.p : Nat) : Int) = 1 := by omega
      have HY := Lib.hid (show levN lx c.L c.i c.j s = levQ lx c.L s.next by unfold levN; rw [if_neg hk4, if_neg hki3, if_neg hkj3, if_pos hk1])
      clear hki3 hkj3
      go_wp2_with fail
      refine HS0.out.kind.mono ?_
      rintro e w1 ⟨rfl, hs, hg⟩
      rw [hki]
      have HS1 := Lib.hid hs
      have HF1 := Lib.hid (Fw.same HF0.out hg)
      clear hs hg
      go_wp2_with fail
      refine HS1.out.kind.mono ?_
      rintro e w2 ⟨rfl, hs, hg⟩
      rw [hki]
      have HS2 := Lib.hid hs
      have HF2 := Lib.hid (Fw.same HF1.out hg)
      clear hs hg
      go_wp2_with fail
      refine HS2.out.kind.mono ?_
      rintro e w3 ⟨rfl, hs, hg⟩
      rw [hki]
      have HS3 := Lib.hid hs
      have HF3 := Lib.hid (Fw.same HF2.out hg)
      clear hs hg
      go_wp2_with fail
      refine HS3.out.kind.mono ?_
      rintro e w4 ⟨rfl, hs, hg⟩
      rw [hki]
      have HS4 := Lib.hid hs
      have HF4 := Lib.hid (Fw.same HF3.out hg)
      clear hs hg
      have hst := HS4.out.step
      have HSN := Lib.hid hst.1
      have HFN := Lib.hid (HF4.out.trans hst.2)
      clear hst c0 c1 c2 c3 c4 c5
      obtain ⟨c0, c1, c2, c3, c4, c5⟩ := HS4.out.cells
      have f1 := HS4.out.free 1
      go_upto_region 16 with fail
      obtain ⟨V, hV⟩ : ∃ V, V = w4.setCell ⟨c.R, 1, none⟩ (.int .i64 ((s.p : Int) + 1)) := ⟨_, rfl⟩
      rw [← hV] at HSN HFN
      rw [← hV]
      clear hV
      clear c0 c1 c2 c3 c4 c5 f1
      have HS5 := HSN
      have HF5 := HFN
      clear HSN HFN
      have hk3i : ((kindAt c.L s.next.p : Nat) : Int) = 3 := by rw [show s.next.p = s.p + 1 from rfl]; omega
      have hp1 := kind_lt (L := c.L) (p := s.p) (by omega)
      have hp2 := kind_lt (L := c.L) (p := s.p + 1) (by omega)
      have HN1 := Lib.hid (HI.out.next (by omega))
      have HN2 := Lib.hid (HN1.out.next (show kindAt c.L (s.p + 1) ≠ 0 by omega))
      have hw2 : IntKind.i64.wrap ((s.p : Int) + 1 + 1) = (s.p : Int) + 1 + 1 := IntWalk.i64_in _ (by omega)
      obtain ⟨s1, hs1⟩ : ∃ s1, s1 = s.next := ⟨_, rfl⟩
      have HP1 := Lib.hid (show s1.p = s.p + 1 by rw [hs1]; rfl)
      have HB1 := Lib.hid (show s1.bad = none by rw [hs1]; exact HB.out)
      rw [← hs1] at HY HS5 hk3i HN1 HN2
      obtain ⟨wd, hwd⟩ : ∃ wd, wordAt c.L s1.p = wd := ⟨_, rfl⟩
      obtain ⟨hq3, hqw⟩ := hq
      rw [show wordAt c.L (s.p + 1) = wd by rw [← hwd, HP1.out]] at hqw
      have HY2 := Lib.hid (show levQ lx c.L s1 = (if wd = sucW then ((lx s1.next).1 + 1, (wantX c.L 2 (lx s1.next).2).2) else (max (lx s1.next).1 (lx (lx s1.next).2).1, (wantX c.L 2 (lx (lx s1.next).2).2).2)) by unfold levQ; rw [hwd, HP1.out, if_pos ⟨hq3, hqw⟩])
      have hw3 : IntKind.i64.wrap ((s1.p : Int) + 1) = (s1.p : Int) + 1 := by have := HP1.out; exact IntWalk.i64_in _ (by omega)
      obtain ⟨s2, hs2⟩ : ∃ s2, s2 = s1.next := ⟨_, rfl⟩
      have HP2 := Lib.hid (show s2.p = s.p + 2 by rw [hs2]; show s1.p + 1 = _; rw [HP1.out])
      rw [← hs2] at HY2 HN2
      clear hs1 hw2
      go_wp2_with fail
      refine HS5.out.word.mono ?_
      rintro e w6 ⟨rfl, hs, hg⟩
      rw [hwd]
      have HS6 := Lib.hid hs
      have HF6 := Lib.hid (Fw.same HF5.out hg)
      clear hs hg
      clear hwd
      rcases hqw with hqw | hqw
      · rw [hqw] at HY2
        rw [show wd = [115, 117, 99] from hqw]
        rw [if_pos rfl] at HY2
        go_wp2_with fail
        refine HS6.out.kind.mono ?_
        rintro e w7 ⟨rfl, hs, hg⟩
        rw [hk3i]
        have HS7 := Lib.hid hs
        have HF7 := Lib.hid (Fw.same HF6.out hg)
        clear hs hg
        have hst := HS7.out.step
        rw [← hs2] at hst
        have HSN := Lib.hid hst.1
        have HFN := Lib.hid (HF7.out.trans hst.2)
        clear hst
        obtain ⟨c0, c1, c2, c3, c4, c5⟩ := HS7.out.cells
        have f1 := HS7.out.free 1
        go_upto_region 21 with fail
        obtain ⟨V, hV⟩ : ∃ V, V = w7.setCell ⟨c.R, 1, none⟩ (.int .i64 ((s1.p : Int) + 1)) := ⟨_, rfl⟩
        rw [← hV] at HSN HFN
        rw [← hV]
        clear hV
        clear c0 c1 c2 c3 c4 c5 f1
        have HS8 := HSN
        have HF8 := HFN
        clear HSN HFN
        have HC := Lib.hid (HLV.out.use nv s2 V HN2.out (by have := HFU.out; have := HP2.out; omega) HS8.out)
        have hnn := HK.out.nn s2
        have HN3 := Lib.hid (HK.out.keep s2 HN2.out)
        have HU3 := Lib.hid (HK.out.up s2)
        have HC2 := Lib.hid (fun w' => HLV.out.use nv (lx s2).2 w' HN3.out (by have := HFU.out; have := HP2.out; have := HU3.out; omega))
        have hnn2 := HK.out.nn (lx s2).2
        have HN4 := Lib.hid (HK.out.keep (lx s2).2 HN3.out)
        generalize lx s2 = y1 at HC HY2 hnn HN3 HU3 HC2 hnn2 HN4
        obtain ⟨n1, s3⟩ := y1
        dsimp only at HC HY2 hnn HN3 HU3 HC2 hnn2 HN4
        go_wp2_with fail
        refine HC.out.mono ?_
        rintro e w9 ⟨rfl, hs, hg⟩
        have HS9 := Lib.hid hs
        have HF9 := Lib.hid (World.grownBy.trans HF8.out hg)
        clear hs hg
        clear HC
        clear HC2 hnn2 HN4
        have hwn : IntKind.i64.wrap (n1 + 1) = n1 + 1 := IntWalk.i64_in _ (by omega)
        have hp3 : s3.p ≤ 1000000000 := by have := HN3.out.p; omega
        go_wp2_with fail
        refine (HS9.out.want 2 hp3).mono ?_
        rintro e w9 ⟨rfl, hs, hg⟩
        have HSN := Lib.hid hs
        have HFN := Lib.hid (HF9.out.trans hg)
        clear hs hg
        go_wp2_with fail
        go_meet
        case rel => exact ⟨_, _, rfl, (HY.out.trans HY2.out), HSN.out, HFN.out⟩
      · rw [hqw] at HY2
        rw [show wd = [109, 97, 120] from hqw]
        rw [if_neg (by decide)] at HY2
        go_wp2_with fail
        refine HS6.out.kind.mono ?_
        rintro e w7 ⟨rfl, hs, hg⟩
        rw [hk3i]
        have HS7 := Lib.hid hs
        have HF7 := Lib.hid (Fw.same HF6.out hg)
        clear hs hg
        have hst := HS7.out.step
        rw [← hs2] at hst
        have HSN := Lib.hid hst.1
        have HFN := Lib.hid (HF7.out.trans hst.2)
        clear hst
        obtain ⟨c0, c1, c2, c3, c4, c5⟩ := HS7.out.cells
        have f1 := HS7.out.free 1
        go_upto_region 21 with fail
        obtain ⟨V, hV⟩ : ∃ V, V = w7.setCell ⟨c.R, 1, none⟩ (.int .i64 ((s1.p : Int) + 1)) := ⟨_, rfl⟩
        rw [← hV] at HSN HFN
        rw [← hV]
        clear hV
        clear c0 c1 c2 c3 c4 c5 f1
        have HS8 := HSN
        have HF8 := HFN
        clear HSN HFN
        have HC := Lib.hid (HLV.out.use nv s2 V HN2.out (by have := HFU.out; have := HP2.out; omega) HS8.out)
        have hnn := HK.out.nn s2
        have HN3 := Lib.hid (HK.out.keep s2 HN2.out)
        have HU3 := Lib.hid (HK.out.up s2)
        have HC2 := Lib.hid (fun w' => HLV.out.use nv (lx s2).2 w' HN3.out (by have := HFU.out; have := HP2.out; have := HU3.out; omega))
        have hnn2 := HK.out.nn (lx s2).2
        have HN4 := Lib.hid (HK.out.keep (lx s2).2 HN3.out)
        generalize lx s2 = y1 at HC HY2 hnn HN3 HU3 HC2 hnn2 HN4
        obtain ⟨n1, s3⟩ := y1
        dsimp only at HC HY2 hnn HN3 HU3 HC2 hnn2 HN4
        go_wp2_with fail
        refine HC.out.mono ?_
        rintro e w9 ⟨rfl, hs, hg⟩
        have HS9 := Lib.hid hs
        have HF9 := Lib.hid (World.grownBy.trans HF8.out hg)
        clear hs hg
        clear HC
        have HCC := Lib.hid (HC2.out w9 HS9.out)
        generalize lx s3 = y2 at HCC HY2 hnn2 HN4
        obtain ⟨n2, s4⟩ := y2
        dsimp only at HCC HY2 hnn2 HN4
        have hp4 : s4.p ≤ 1000000000 := by have := HN4.out.p; omega
        go_wp2_with fail
        refine HCC.out.mono ?_
        rintro e w10 ⟨rfl, hs, hg⟩
        have HS10 := Lib.hid hs
        have HF10 := Lib.hid (World.grownBy.trans HF9.out hg)
        clear hs hg
        clear HCC HC2
        go_wp2_with fail
        refine (HS10.out.want 2 hp4).mono ?_
        rintro e w99 ⟨rfl, hs, hg⟩
        have HSN := Lib.hid hs
        have HFN := Lib.hid (HF10.out.trans hg)
        clear hs hg
        go_wp2_with fail
        go_meet
        case rel => exact ⟨_, _, rfl, (HY.out.trans HY2.out), HSN.out, HFN.out⟩
    case rest =>
    obtain ⟨n, y, rfl, hcut⟩ := hcut
    obtain ⟨hy, hsy, hfy⟩ := hcut
    have HXY := Lib.hid (show X = levE s.p (n, y) by rw [← HX.out, hy.out])
    clear c0 c1 c2 c3 c4 c5 hy hq
    by_cases hn : 1000 < n
    · have HXX := Lib.hid (HXY.out.trans (levE_out hn))
      have HFL := Lib.hid (rfailat_any c nv y s.p _ hsy.out)
      obtain ⟨b, hbb⟩ := failAt_bad s.p y
      clear HXY
      go_wp2_with fail
      refine HFL.out.mono ?_
      rintro e w9 ⟨rfl, hs9, hg9⟩
      have HS9 := Lib.hid hs9
      have HF9 := Lib.hid (hfy.out.trans hg9)
      clear hs9 hg9
      obtain ⟨c0, c1, c2, c3, c4, c5⟩ := HS9.out.cells
      rw [hbb] at c2
      unfold badV at c2
      have h0 : (0 : Int) ≤ (b : Int) := by omega
      clear hbb
      go_wp2
      go_ret
      rw [HXX.out]
      exact ⟨rfl, HS9.out, HF9.out⟩
    · obtain ⟨c0, c1, c2, c3, c4, c5⟩ := hsy.out.cells
      cases hyb : y.bad with
      | none =>
        have HXX := Lib.hid (HXY.out.trans (levE_in hn hyb))
        rw [hyb] at c2
        unfold badV at c2
        clear hyb HXY
        go_wp2
        go_ret
        rw [HXX.out]
        exact ⟨rfl, hsy.out, hfy.out⟩
      | some b =>
        have HXX := Lib.hid (HXY.out.trans (levE_bad hn hyb))
        rw [hyb] at c2
        unfold badV at c2
        have h0 : (0 : Int) ≤ (b : Int) := by omega
        clear hyb HXY
        go_wp2
        go_ret
        rw [HXX.out]
        exact ⟨rfl, hsy.out, hfy.out⟩
theorem rlevel_any (c : PR) (hlen : c.L.length ≤ 1000000) (htl : ∀ t ∈ c.L, t.s.length ≤ 10000000) (hi : 0 ≤ c.i ∧ c.i ≤ 1000) (hj : 0 ≤ c.j ∧ c.j ≤ 1000) : ∀ f, LevC c f (levX c.L c.i c.j f)
  | 0 => ⟨fun nv s w hx hf h => absurd hx.p (by omega)⟩
  | f + 1 => rlevel_step c f hlen htl hi hj (rlevel_any c hlen htl hi hj f)
end Go.Proofs.YtlalolnhpcbjnaaDoor.Rt

namespace Go.Proofs.YtlalolnhpcbjnaaDoor.Rt
open Go.RowKit
open Dv (XS kindAt wordAt placeAt wantX rrO rrX badV PTok hltD typeD)

def strV (x : List UInt8) : Value := .string ⟨x.toArray⟩
/-- The names' row: the outermost first. -/
def NR (w : World) (nv : Value) (N : Names) : Prop := ∃ g cap cur, nv = .slice (some ⟨g, 0, none⟩) N.length cap ∧ w.heap[g]? = some (Obj.cells cur 9 (0, 0)) ∧ N.length ≤ cap ∧ cap ≤ maxLen ∧ cur.size = cap ∧ cur.toList.take N.length = N.reverse.map strV
theorem below_gr {w w' : World} (h : Below w.heap.size w w') : w.grownBy w' none := ⟨h.os, h.tape, h.output, h.size, fun k hk _ => h.block k hk⟩
theorem below_of {w w' : World} (h : w.grownBy w' none) : Below w.heap.size w w' := ⟨h.os, h.tape, h.output, h.size, fun k hk => h.block k hk (by simp)⟩
theorem cell_lt {w : World} {a : Addr} {u : Value} (h : w.cell? a = some u) : a.block < w.heap.size := by
  rcases Nat.lt_or_ge a.block w.heap.size with h1 | h1
  · exact h1
  · exfalso
    simp [World.cell?, Array.getElem?_eq_none h1] at h
theorem cell_gr {w w' : World} {a : Addr} {u : Value} (hg : w.grownBy w' none) (h : w.cell? a = some u) : w'.cell? a = some u := (World.cell?_of_block (hg.block _ (cell_lt h) (by simp))).trans h
theorem NR.same {w w' : World} {nv : Value} {N : Names} (h : NR w nv N) (hg : w.grownBy w' none) : NR w' nv N := by
  obtain ⟨g, cap, cur, e, hh, r⟩ := h
  exact ⟨g, cap, cur, e, (hg.block _ (hltD hh) (by simp)).trans hh, r⟩
theorem NR.fw {c : PR} {w w' : World} {nv nv' : Value} {s : XS} {N : Names} (h : NR w nv N) (hs : RS c nv' s w) (hg : Fw c w w') : NR w' nv N := by
  obtain ⟨g, cap, cur, e, hh, r⟩ := h
  refine ⟨g, cap, cur, e, (hg.block _ (hltD hh) (fun e2 => ?_)).trans hh, r⟩
  obtain rfl := Option.some.inj e2
  have := hs.rd
  unfold rrX rrO at this
  exact absurd (typeD hh this) (by decide)
theorem NR.own {w : World} {nv : Value} {N : Names} (h : NR w nv N) : w.ownsRow 0 9 1 nv N.length (N.reverse.map strV) := by
  obtain ⟨g, cap, cur, e, hh, h1, h2, h3, h4⟩ := h
  exact ⟨by simp, Or.inr ⟨g, cap, cur, e, Nat.zero_le _, hh, h1, h2, by omega, by rw [Nat.mul_one]; exact h4⟩⟩
theorem nr_of {B n : Nat} {xs : List Value} {w : World} {v : Value} (h : w.ownsRow B 9 1 v n xs) (hv : v ≠ .slice none 0 0) {N : Names} (hn : n = N.length) (hx : xs = N.reverse.map strV) : NR w v N := by
  subst hn hx
  obtain ⟨-, ⟨e, -⟩ | ⟨g, cap, cur, e, -, hh, h1, h2, h3, h4⟩⟩ := h
  · exact absurd e hv
  · exact ⟨g, cap, cur, e, hh, h1, h2, by omega, by rw [Nat.mul_one] at h4; exact h4⟩
theorem own_empty (w : World) : (w.alloc (.cells #[] 9)).ownsRow 0 9 1 (.slice (some ⟨w.heap.size, 0, none⟩) 0 0) 0 [] := ⟨rfl, Or.inr ⟨_, 0, #[], rfl, Nat.zero_le _, alloc_new _ _, Nat.le_refl _, Nat.zero_le _, rfl, rfl⟩⟩
theorem own_empty_block (w : World) : (Value.slice (some ⟨w.heap.size, 0, none⟩) 0 0).ownBlock = some w.heap.size := rfl
theorem strs_one (l : List (List UInt8)) : ∀ u ∈ l.map strV, u.oneCell' = true := by
  intro u hu
  obtain ⟨x, -, rfl⟩ := List.mem_map.1 hu
  rfl
theorem NR.cells {w : World} {nv : Value} {N : Names} (h : NR w nv N) : ∃ g cap, nv = .slice (some ⟨g, 0, none⟩) N.length cap ∧ N.length ≤ cap ∧ cap ≤ maxLen ∧ ∀ j u, (N.reverse.map strV)[j]? = some u → w.cell? ((⟨g, 0, none⟩ : Addr).add j) = some u := by
  obtain ⟨g, cap, cur, e, hh, h1, h2, h3, h4⟩ := h
  refine ⟨g, cap, e, h1, h2, fun j u hu => ?_⟩
  rw [← h4, List.getElem?_take] at hu
  split at hu
  · rw [Addr.add_lit, Lib.cell_of_heap hh]
    simpa using hu
  · cases hu
theorem info_str : (Tryd.prog.info? 9).map (fun i => (i.zero, i.size, i.bytes)) = some (some (.string ⟨#[]⟩), 1, 16) := by kernel_rfl
theorem wp_append_strs {o : Oper} {a : Act} {w : World} {K : Act → World → Prop} {E : Exit → Act → World → Prop} (s x : Operand)
    (ho : o.op = .call { callee := .builtin .append, args := #[s, x], argTypes := #[22, 22] }) (v : Value) (n : Nat) (xs : List Value) (hs : a.eval s = v) (hown : w.ownsRow 0 9 1 v n xs)
    (ad : Addr) (m cp : Nat) (news : List Value) (hx : a.eval x = .slice (some ad) m cp) (hl : news.length = m) (hnews : ∀ j u, news[j]? = some u → w.cell? (ad.add j) = some u) (h1 : ∀ u ∈ news, u.oneCell' = true) (hm : n + m ≤ 1000000000)
    (h : ∀ v' w', w'.ownsRow 0 9 1 v' (n + m) (xs ++ news) → w.grownBy w' v.ownBlock → (v' = .slice none 0 0 ↔ v = .slice none 0 0 ∧ m = 0) → (v'.ownBlock = v.ownBlock ∨ v'.ownBlock = some w.heap.size) → K (a.put o.dst v') w') : o.wp Tryd.prog a w K E := by
  obtain ⟨i0, hi, hz0, hz1, hz2⟩ := info_parts info_str
  have ht : Tryd.prog.underlying 22 = some (.slice 9) := by kernel_rfl
  obtain ⟨v', w', hr, h2, h3, h4, h5⟩ := run_append_own_at (P := Tryd.prog) w 0 22 o.type 9 i0 _ 1 16 ht hi hz0 hz1 hz2 rfl (by decide) v n xs hown ad m cp news (by omega) hnews h1 (by unfold maxLen; omega) (by omega) (Nat.zero_le _)
  unfold Oper.wp execOp
  simp only [ho, resolve, invoke, builtin, Sem.run_bind, Sem.run_pure, Result.andThen_ok, List.map_toArray, List.map_cons, List.map_nil, hs, hx, hr]
  exact h v' w' h2 h3 h4 h5
theorem wpList_append_strs {ops : Array Oper} {rest : List Oper} {o : Oper} {a : Act} {w : World} {E : Exit → Act → World → Prop} (hgd : o.guard = none) (s x : Operand)
    (ho : o.op = .call { callee := .builtin .append, args := #[s, x], argTypes := #[22, 22] }) (v : Value) (n : Nat) (xs : List Value) (hs : a.eval s = v) (hown : w.ownsRow 0 9 1 v n xs)
    (ad : Addr) (m cp : Nat) (news : List Value) (hx : a.eval x = .slice (some ad) m cp) (hl : news.length = m) (hnews : ∀ j u, news[j]? = some u → w.cell? (ad.add j) = some u) (h1 : ∀ u ∈ news, u.oneCell' = true) (hm : n + m ≤ 1000000000)
    (h : ∀ v' w', w'.ownsRow 0 9 1 v' (n + m) (xs ++ news) → w.grownBy w' v.ownBlock → (v' = .slice none 0 0 ↔ v = .slice none 0 0 ∧ m = 0) → (v'.ownBlock = v.ownBlock ∨ v'.ownBlock = some w.heap.size) → wpList Tryd.prog ops E rest (a.put o.dst v') w') : wpList Tryd.prog ops E (o :: rest) a w :=
  wpList_plain hgd fun _ hK => wp_append_strs s x ho v n xs hs hown ad m cp news hx hl hnews h1 hm fun v' w' h2 h3 h4 h5 => hK _ _ (h v' w' h2 h3 h4 h5)
theorem step_append_strs {ops : Array Oper} {o : Oper} {a : Act} {w : World} {K : Act → World → Prop} {E : Exit → Act → World → Prop} {F : Prop} (hgd : o.guard = none) (s x : Operand)
    (ho : o.op = .call { callee := .builtin .append, args := #[s, x], argTypes := #[22, 22] }) (v : Value) (n : Nat) (xs : List Value) (hs : a.eval s = v) (hown : w.ownsRow 0 9 1 v n xs)
    (ad : Addr) (m cp : Nat) (news : List Value) (hx : a.eval x = .slice (some ad) m cp) (hl : news.length = m) (hnews : ∀ j u, news[j]? = some u → w.cell? (ad.add j) = some u) (h1 : ∀ u ∈ news, u.oneCell' = true) (hm : n + m ≤ 1000000000)
    (h : ∀ v' w', w'.ownsRow 0 9 1 v' (n + m) (xs ++ news) → w.grownBy w' v.ownBlock → (v' = .slice none 0 0 ↔ v = .slice none 0 0 ∧ m = 0) → (v'.ownBlock = v.ownBlock ∨ v'.ownBlock = some w.heap.size) → K (a.put o.dst v') w') : if Region.wanted o (yielded ops a.tmps) = true then Oper.wp Tryd.prog o a w K E else F := by
  have hw : Region.wanted o (yielded ops a.tmps) = true := by simp [Region.wanted, hgd]
  rw [if_pos hw]
  exact wp_append_strs s x ho v n xs hs hown ad m cp news hx hl hnews h1 hm h
theorem RS.setn {c : PR} {nv : Value} {s : XS} {w : World} {N : Names} (h : RS c nv s w) (nv' : Value) (hN : NR w nv' N) : RS c nv' s (w.setCell ⟨c.R, 5, none⟩ nv') ∧ NR (w.setCell ⟨c.R, 5, none⟩ nv') nv' N ∧ Fw c w (w.setCell ⟨c.R, 5, none⟩ nv') := by
  have hg : Fw c w (w.setCell ⟨c.R, 5, none⟩ nv') := grown_at ⟨rfl, rfl, rfl, Nat.le_refl _, fun _ _ _ => rfl⟩ 5 _
  refine ⟨h.of hg ?_, hN.fw h hg, hg⟩
  have r := h.rd
  unfold rrX rrO at r ⊢
  exact heap_setCell_same w c.R 5 _ _ _ r
set_option maxRecDepth 20000 in
theorem rpush_any (c : PR) (nv : Value) (s : XS) (N X : Names) (xa : Addr) (xc : Nat) (w : World) (h : RS c nv s w) (hN : NR w nv N) (hX : ∀ j u, (X.reverse.map strV)[j]? = some u → w.cell? (xa.add j) = some u) (hm : N.length + X.length ≤ 100000000) :
    Calls Tryd.prog 32 #[.pointer (some ⟨c.R, 0, none⟩), .slice (some xa) X.length xc] w fun e w' => e = .returned (.tuple #[]) ∧ ∃ nv', RS c nv' s w' ∧ NR w' nv' (X ++ N) ∧ Fw c w w' := by
  obtain ⟨g, cap, rfl, hc1, hc2, hcs⟩ := hN.cells
  obtain ⟨c0, c1, c2, c3, c4, c5⟩ := h.cells
  have HA := Lib.hid (below_gr ((Below.refl w.heap.size w).alloc (Nat.le_refl _) (.cells #[] 9)))
  have HO := Lib.hid (own_empty w)
  have HNA := Lib.hid (fun (j : Nat) (u : Value) (hu : (N.reverse.map strV)[j]? = some u) => cell_gr HA.out (hcs j u hu))
  have HS := Lib.hid h
  have HX := Lib.hid hX
  have c5a := cell_gr HA.out c5
  clear h hX hcs hN c0 c1 c2 c3 c4 c5
  go_enter Tryd.func32, Tryd.ntmps32
  go_wp2_with (first
    | (at_builtin
       refine wpList_append_strs rfl (.tmp 5) (.tmp 9) rfl (.slice (some ⟨w.heap.size, 0, none⟩) 0 0) 0 [] rfl HO.out ⟨g, 0, none⟩ N.length cap (N.reverse.map strV) rfl (by simp) HNA.out (strs_one _) (by omega) ?_
       intro v1 w1 hown1 hg1 hnil1 hat1
       have HB1 := Lib.hid (show w.grownBy w1 none from below_gr ((below_of HA.out).grown hg1 (below_of HA.out).size (fun k hk => by rw [own_empty_block] at hk; cases hk; exact Nat.le_refl _)))
       have HAT := Lib.hid (show ∀ k, v1.ownBlock = some k → w.heap.size ≤ k from fun k hk => by
         rcases hat1 with e | e <;> rw [e] at hk
         · rw [own_empty_block] at hk; cases hk; exact Nat.le_refl _
         · cases hk; have := HA.out.size; omega)
       have HO1 := Lib.hid hown1
       have HNI := Lib.hid (show v1 ≠ .slice none 0 0 from fun e => by have := (hnil1.1 e).1; cases this)
       clear hown1 hg1 hnil1 hat1)
    | (at_builtin
       refine wpList_append_strs rfl (.tmp 10) (.tmp 11) rfl v1 (0 + N.length) ([] ++ N.reverse.map strV) rfl HO1.out xa X.length xc (X.reverse.map strV) rfl (by simp) (fun j u hu => cell_gr HB1.out (HX.out j u hu)) (strs_one _) (by omega) ?_
       intro v2 w2 hown2 hg2 hnil2 hat2
       have HB2 := Lib.hid (show w.grownBy w2 none from below_gr ((below_of HB1.out).grown hg2 (below_of HB1.out).size HAT.out))
       have HN2 := Lib.hid (nr_of hown2 (fun e => HNI.out (hnil2.1 e).1) (N := X ++ N) (by simp; omega) (by simp))
       have HS2 := Lib.hid (HS.out.same HB2.out)
       have hf5 := HS2.out.free 5
       have c5n := HS2.out.cells.2.2.2.2.2
       clear hown2 hg2 hnil2 hat2
       obtain ⟨g2, cap2, hv2, -⟩ := HN2.out.cells
       subst hv2))
  have hst := HS2.out.setn _ HN2.out
  simp only [List.length_append] at hst
  exact bodyPost_end (results_none rfl _ _ _) rfl ⟨rfl, _, hst.1, hst.2.1, (Fw.same (Fw.refl c w) HB2.out).trans hst.2.2⟩
set_option maxHeartbeats 1000000 in
set_option maxRecDepth 20000 in
theorem rpop_any (c : PR) (nv : Value) (s : XS) (N : Names) (b : Nat) (w : World) (h : RS c nv s w) (hN : NR w nv N) (hb : b ≤ N.length) (hm : N.length ≤ 100000000) :
    Calls Tryd.prog 62 #[.pointer (some ⟨c.R, 0, none⟩), .int .i64 b] w fun e w' => e = .returned (.tuple #[]) ∧ ∃ nv', RS c nv' s w' ∧ NR w' nv' (N.drop b) ∧ Fw c w w' := by
  obtain ⟨g, cap, rfl, hc1, hc2, hcs⟩ := hN.cells
  obtain ⟨c0, c1, c2, c3, c4, c5⟩ := h.cells
  have HA := Lib.hid (show w.grownBy (w.alloc (.cells #[] 9)).drew none from (drewN_gr w 1).trans (below_gr ((Below.refl w.drew.heap.size w.drew).alloc (Nat.le_refl _) (.cells #[] 9))))
  have HO := Lib.hid (show (w.alloc (.cells #[] 9)).drew.ownsRow 0 9 1 (.slice (some ⟨w.heap.size, 0, none⟩) 0 0) 0 [] from own_empty w)
  have HNA := Lib.hid (show ∀ j u, ((N.drop b).reverse.map strV)[j]? = some u → (w.alloc (.cells #[] 9)).drew.cell? ((⟨g, 0, none⟩ : Addr).add j) = some u from fun j u hu => cell_gr HA.out (hcs j u (by
    have e : (N.drop b).reverse = N.reverse.take (N.length - b) := by rw [List.reverse_drop]
    rw [e, List.map_take, List.getElem?_take] at hu
    split at hu
    · exact hu
    · cases hu)))
  have HS := Lib.hid h
  have hle : N.length ≤ cap + b := by omega
  have hw1 : IntKind.i64.wrap ((N.length : Int) - (b : Int)) = ((N.length - b : Nat) : Int) := by rw [IntWalk.i64_in _ (by omega)]; omega
  have c5a : (w.alloc (.cells #[] 9)).cell? ⟨c.R, 5, none⟩ = some (.slice (some ⟨g, 0, none⟩) N.length cap) := (show (w.alloc (.cells #[] 9)).drew.cell? ⟨c.R, 5, none⟩ = some (.slice (some ⟨g, 0, none⟩) N.length cap) from cell_gr HA.out c5)
  clear h hcs hN c0 c1 c2 c3 c4
  go_enter Tryd.func62, Tryd.ntmps62
  go_wp2_with fail
  go_region_law (first
    | (refine step_append_strs rfl (.tmp 5) (.tmp 17) rfl (.slice (some ⟨w.heap.size, 0, none⟩) 0 0) 0 [] rfl HO.out ⟨g, 0, none⟩ (N.length - b) cap ((N.drop b).reverse.map strV) rfl (by simp) HNA.out (strs_one _) (by omega) ?_
       intro v2 w2 hown hg hnil hat
       have HB2 := Lib.hid (show w.grownBy w2 none from below_gr ((below_of HA.out).grown hg (below_of HA.out).size (fun k hk => by rw [own_empty_block] at hk; cases hk; exact Nat.le_refl _)))
       have HS2 := Lib.hid (HS.out.same HB2.out)
       have HN2 := Lib.hid (nr_of hown (fun e => by have := (hnil.1 e).1; cases this) (N := N.drop b) (by simp) rfl)
       have hf5 := HS2.out.free 5
       have c5n := HS2.out.cells.2.2.2.2.2
       clear hown hg hnil hat
       obtain ⟨g2, cap2, hv2, -⟩ := HN2.out.cells
       subst hv2))
  all_goals
    have hst := HS2.out.setn _ HN2.out
    simp only [List.length_drop] at hst
    go_wp2
    exact bodyPost_end (results_none rfl _ _ _) rfl ⟨rfl, _, hst.1, hst.2.1, (Fw.same (Fw.refl c w) HB2.out).trans hst.2.2⟩
end Go.Proofs.YtlalolnhpcbjnaaDoor.Rt

namespace Go.Proofs.YtlalolnhpcbjnaaDoor.Rt
open Go.RowKit
open Dv (XS kindAt wordAt placeAt wantX rrO rrX badV PTok hltD typeD)

def markedL : List (List UInt8) := (headsW.drop 1).take 12
def plainL : List (List UInt8) := headsW.drop 13
theorem RS.drew {c : PR} {nv : Value} {s : XS} {w : World} (h : RS c nv s w) : RS c nv s w.drew := h.drewN 1
theorem drew_gr (w : World) : w.grownBy w.drew none := drewN_gr w 1
/-- A row of words. -/
def WRow (w : World) (g : Nat) (l : List (List UInt8)) : Prop := ∀ k (h : k < l.length), w.cell? ⟨g, k, none⟩ = some (strV (l[k]'h))
theorem WRow.same {w w' : World} {g : Nat} {l : List (List UInt8)} (h : WRow w g l) (hg : w.grownBy w' none) : WRow w' g l := fun k hk => cell_gr hg (h k hk)
theorem wrow_lit (w : World) (l : List (List UInt8)) : WRow (w.alloc (.cells (l.map strV).toArray 9)) w.heap.size l := fun k hk => by
  rw [Lib.cell_of_heap (alloc_new w _)]
  simp [hk]
set_option maxRecDepth 20000 in
theorem pmk_any (w : World) : Calls Tryd.prog 58 #[] w fun e w' => ∃ g, e = .returned (.slice (some ⟨g, 0, none⟩) 12 12) ∧ WRow w' g markedL ∧ w.grownBy w' none := by
  go_enter Tryd.func58, Tryd.ntmps58
  go_wp2
  go_ret
  exact ⟨w.heap.size, rfl, wrow_lit w markedL, below_gr ((Below.refl _ _).alloc (Nat.le_refl _) _)⟩
set_option maxRecDepth 20000 in
theorem ppl_any (w : World) : Calls Tryd.prog 59 #[] w fun e w' => ∃ g, e = .returned (.slice (some ⟨g, 0, none⟩) 11 11) ∧ WRow w' g plainL ∧ w.grownBy w' none := by
  go_enter Tryd.func59, Tryd.ntmps59
  go_wp2
  go_ret
  exact ⟨w.heap.size, rfl, wrow_lit w plainL, below_gr ((Below.refl _ _).alloc (Nat.le_refl _) _)⟩
/-- The first that fits. -/
def findQ (p : List UInt8 → Nat → Bool) : List (List UInt8) → Nat → Option Nat
  | [], _ => none
  | y :: r, k => if p y k = true then some k else findQ p r (k + 1)
structure FindI (p : List UInt8 → Nat → Bool) (l : List (List UInt8)) (k : Nat) : Prop where
  eq : findQ p l 0 = findQ p (l.drop k) k
theorem FindI.start (p : List UInt8 → Nat → Bool) (l : List (List UInt8)) : FindI p l 0 := ⟨by rw [List.drop_zero]⟩
theorem FindI.next {p : List UInt8 → Nat → Bool} {l : List (List UInt8)} {k : Nat} {y : List UInt8} (h : FindI p l k) (hd : l.drop k = y :: l.drop (k + 1)) (hp : p y k = false) : FindI p l (k + 1) := ⟨by rw [h.eq, hd]; simp [findQ, hp]⟩
theorem FindI.found {p : List UInt8 → Nat → Bool} {l : List (List UInt8)} {k : Nat} {y : List UInt8} (h : FindI p l k) (hd : l.drop k = y :: l.drop (k + 1)) (hp : p y k = true) : findQ p l 0 = some k := by rw [h.eq, hd]; simp [findQ, hp]
theorem FindI.none {p : List UInt8 → Nat → Bool} {l : List (List UInt8)} {k : Nat} (h : FindI p l k) (hk : l.length ≤ k) : findQ p l 0 = Option.none := by rw [h.eq, List.drop_eq_nil_of_le hk]; rfl
def pM (so : Int) (x y : List UInt8) (k : Nat) : Bool := (y == x) && (so != 2 || k == 0)
def pP (so : Int) (x y : List UInt8) (_ : Nat) : Bool := (y == x) && so != 1
def listV (so : Int) (x : List UInt8) : Int := if headN x = 0 ∨ (sortN (headN x) ≠ 0 ∧ so ≠ 0 ∧ sortN (headN x) ≠ so) then 0 else headN x
def listW (so : Int) (x : List UInt8) : Int := match findQ (pM so x) markedL 0 with
  | some i => (i : Int) + 1
  | none => match findQ (pP so x) plainL 0 with
    | some i => 13 + (i : Int)
    | none => 0
theorem findQ_none {p : List UInt8 → Nat → Bool} : ∀ {l : List (List UInt8)} {k : Nat}, (∀ y ∈ l, ∀ q, p y q = false) → findQ p l k = none
  | [], _, _ => rfl
  | y :: r, k, h => by
    unfold findQ
    rw [if_neg (by rw [h y (List.mem_cons_self ..) k]; simp)]
    exact findQ_none fun z hz => h z (List.mem_cons_of_mem _ hz)
theorem idxL_none {x : List UInt8} : ∀ {l : List (List UInt8)}, x ∉ l → idxL x l = none
  | [], _ => rfl
  | y :: r, h => by
    unfold idxL
    rw [if_neg (fun e => h (by rw [e]; exact List.mem_cons_self ..)), idxL_none (fun e => h (List.mem_cons_of_mem _ e))]
    rfl
theorem list_known : ∀ x ∈ headsW, x ≠ [] → listV 0 x = listW 0 x ∧ listV 1 x = listW 1 x ∧ listV 2 x = listW 2 x := by decide
theorem listV_eq {so : Int} (hso : so = 0 ∨ so = 1 ∨ so = 2) {x : List UInt8} (hx : x ≠ []) : listV so x = listW so x := by
  by_cases h : x ∈ headsW
  · obtain ⟨h0, h1, h2⟩ := list_known x h hx
    rcases hso with rfl | rfl | rfl
    · exact h0
    · exact h1
    · exact h2
  · have hm : ∀ l : List (List UInt8), (∀ y ∈ l, y ∈ headsW) → ∀ y ∈ l, (y == x) = false := fun l hl y hy => by
      rw [beq_eq_false_iff_ne]
      rintro rfl
      exact h (hl y hy)
    have h1 : headN x = 0 := by
      unfold headN
      rw [if_neg (fun e => h (by rw [e]; decide)), idxL_none (fun e => h (List.mem_of_mem_drop e))]
    unfold listV listW
    rw [if_pos (Or.inl h1), findQ_none (fun y hy q => by unfold pM; rw [hm markedL (fun z hz => List.mem_of_mem_drop (List.mem_of_mem_take hz)) y hy]; rfl), findQ_none (fun y hy q => by unfold pP; rw [hm plainL (fun z hz => List.mem_of_mem_drop hz) y hy]; rfl)]
theorem listW_marked {so : Int} {x : List UInt8} {i : Nat} (h : findQ (pM so x) markedL 0 = some i) : listW so x = (i : Int) + 1 := by unfold listW; rw [h]
theorem listW_plain {so : Int} {x : List UInt8} {i : Nat} (h : findQ (pM so x) markedL 0 = none) (h2 : findQ (pP so x) plainL 0 = some i) : listW so x = 13 + (i : Int) := by unfold listW; rw [h, h2]
theorem listW_none {so : Int} {x : List UInt8} (h : findQ (pM so x) markedL 0 = none) (h2 : findQ (pP so x) plainL 0 = none) : listW so x = 0 := by unfold listW; rw [h, h2]
theorem word_ne {L : List Tok} (h : ∀ t ∈ L, t.k = 3 → t.s ≠ []) {p : Nat} (hk : kindAt L p = 3) : wordAt L p ≠ [] := by
  rcases drop_kind (L := L) (p := p) with ⟨-, h1, -⟩ | ⟨t, r, h0, h1, h2, -, -⟩
  · omega
  · rw [h2]
    exact h t (List.mem_of_mem_drop (by rw [h0]; exact List.mem_cons_self ..)) (by omega)
def ol7_0 : Oper := { dst := some 18, op := Go.Op.move (Go.Operand.tmp 5), type := 22, pos := "ref.go:169", after := #[], guard := none }
def ol7_1 : Oper := { dst := some 19, op := Go.Op.move (Go.Operand.tmp 6), type := 3, pos := "ref.go:169", after := #[], guard := none }
def ol7_2 : Oper := { dst := some 20, op := Go.Op.indexAddr 22 (Go.Operand.tmp 18) (Go.Operand.tmp 19), type := 0, pos := "ref.go:169", after := #[{ on := 0, ground := Go.Ground.data }, { on := 1, ground := Go.Ground.data }], guard := none }
def ol7_3 : Oper := { dst := some 21, op := Go.Op.load 9 (Go.Operand.tmp 20), type := 9, pos := "ref.go:169", after := #[{ on := 2, ground := Go.Ground.data }], guard := none }
def ol7_4 : Oper := { dst := some 22, op := Go.Op.move (Go.Operand.tmp 0), type := 50, pos := "ref.go:169", after := #[], guard := none }
def ol7_5 : Oper := { dst := some 23, op := Go.Op.call { callee := Go.Callee.value (Go.Operand.func 43), args := #[Go.Operand.tmp 22], argTypes := #[50] }, type := 9, pos := "ref.go:169", after := #[{ on := 4, ground := Go.Ground.data }], guard := none }
def ol7_6 : Oper := { dst := some 24, op := Go.Op.binOp Go.BinOp.eql 9 (Go.Operand.tmp 21) (Go.Operand.tmp 23) 9, type := 4, pos := "ref.go:169", after := #[{ on := 3, ground := Go.Ground.data }, { on := 5, ground := Go.Ground.data }], guard := none }
def ol7_7 : Oper := { dst := some 25, op := Go.Op.move (Go.Operand.tmp 24), type := 4, pos := "ref.go:169", after := #[{ on := 6, ground := Go.Ground.data }, { on := 5, ground := Go.Ground.chain }], guard := none }
def ol7_8 : Oper := { dst := some 26, op := Go.Op.move (Go.Operand.tmp 1), type := 3, pos := "ref.go:169", after := #[{ on := 7, ground := Go.Ground.guard }], guard := some (7, true) }
def ol7_9 : Oper := { dst := some 27, op := Go.Op.binOp Go.BinOp.neq 3 (Go.Operand.tmp 26) (Go.Operand.const (Go.Value.int Go.IntKind.i64 2)) 3, type := 4, pos := "ref.go:169", after := #[{ on := 8, ground := Go.Ground.data }, { on := 7, ground := Go.Ground.guard }], guard := some (7, true) }
def ol7_10 : Oper := { dst := some 28, op := Go.Op.move (Go.Operand.tmp 27), type := 4, pos := "ref.go:169", after := #[{ on := 9, ground := Go.Ground.data }, { on := 7, ground := Go.Ground.chain }, { on := 7, ground := Go.Ground.guard }], guard := some (7, true) }
def ol7_11 : Oper := { dst := some 29, op := Go.Op.move (Go.Operand.tmp 6), type := 3, pos := "ref.go:169", after := #[{ on := 10, ground := Go.Ground.guard }], guard := some (10, false) }
def ol7_12 : Oper := { dst := some 30, op := Go.Op.binOp Go.BinOp.eql 3 (Go.Operand.tmp 29) (Go.Operand.const (Go.Value.int Go.IntKind.i64 0)) 3, type := 4, pos := "ref.go:169", after := #[{ on := 11, ground := Go.Ground.data }, { on := 10, ground := Go.Ground.guard }], guard := some (10, false) }
def ol7_13 : Oper := { dst := some 31, op := Go.Op.pick (Go.Operand.tmp 28) (Go.Operand.const (Go.Value.bool true)) (Go.Operand.tmp 30), type := 4, pos := "ref.go:169", after := #[{ on := 10, ground := Go.Ground.data }, { on := 12, ground := Go.Ground.data }, { on := 7, ground := Go.Ground.guard }], guard := some (7, true) }
def ol7_14 : Oper := { dst := some 32, op := Go.Op.pick (Go.Operand.tmp 25) (Go.Operand.tmp 31) (Go.Operand.const (Go.Value.bool false)), type := 4, pos := "ref.go:169", after := #[{ on := 7, ground := Go.Ground.data }, { on := 13, ground := Go.Ground.data }], guard := none }
def ol13_0 : Oper := { dst := some 42, op := Go.Op.move (Go.Operand.tmp 5), type := 22, pos := "ref.go:175", after := #[], guard := none }
def ol13_1 : Oper := { dst := some 43, op := Go.Op.move (Go.Operand.tmp 7), type := 3, pos := "ref.go:175", after := #[], guard := none }
def ol13_2 : Oper := { dst := some 44, op := Go.Op.indexAddr 22 (Go.Operand.tmp 42) (Go.Operand.tmp 43), type := 0, pos := "ref.go:175", after := #[{ on := 0, ground := Go.Ground.data }, { on := 1, ground := Go.Ground.data }], guard := none }
def ol13_3 : Oper := { dst := some 45, op := Go.Op.load 9 (Go.Operand.tmp 44), type := 9, pos := "ref.go:175", after := #[{ on := 2, ground := Go.Ground.data }], guard := none }
def ol13_4 : Oper := { dst := some 46, op := Go.Op.move (Go.Operand.tmp 0), type := 50, pos := "ref.go:175", after := #[], guard := none }
def ol13_5 : Oper := { dst := some 47, op := Go.Op.call { callee := Go.Callee.value (Go.Operand.func 43), args := #[Go.Operand.tmp 46], argTypes := #[50] }, type := 9, pos := "ref.go:175", after := #[{ on := 4, ground := Go.Ground.data }], guard := none }
def ol13_6 : Oper := { dst := some 48, op := Go.Op.binOp Go.BinOp.eql 9 (Go.Operand.tmp 45) (Go.Operand.tmp 47) 9, type := 4, pos := "ref.go:175", after := #[{ on := 3, ground := Go.Ground.data }, { on := 5, ground := Go.Ground.data }], guard := none }
def ol13_7 : Oper := { dst := some 49, op := Go.Op.move (Go.Operand.tmp 48), type := 4, pos := "ref.go:175", after := #[{ on := 6, ground := Go.Ground.data }, { on := 5, ground := Go.Ground.chain }], guard := none }
def ol13_8 : Oper := { dst := some 50, op := Go.Op.move (Go.Operand.tmp 1), type := 3, pos := "ref.go:175", after := #[{ on := 7, ground := Go.Ground.guard }], guard := some (7, true) }
def ol13_9 : Oper := { dst := some 51, op := Go.Op.binOp Go.BinOp.neq 3 (Go.Operand.tmp 50) (Go.Operand.const (Go.Value.int Go.IntKind.i64 1)) 3, type := 4, pos := "ref.go:175", after := #[{ on := 8, ground := Go.Ground.data }, { on := 7, ground := Go.Ground.guard }], guard := some (7, true) }
def ol13_10 : Oper := { dst := some 52, op := Go.Op.pick (Go.Operand.tmp 49) (Go.Operand.tmp 51) (Go.Operand.const (Go.Value.bool false)), type := 4, pos := "ref.go:175", after := #[{ on := 7, ground := Go.Ground.data }, { on := 9, ground := Go.Ground.data }], guard := none }
set_option maxHeartbeats 4000000 in
set_option maxRecDepth 20000 in
theorem rlist_any (c : PR) (nv : Value) (s : XS) (so : Int) (hso : so = 0 ∨ so = 1 ∨ so = 2) (w : World) (h : RS c nv s w) (hne : ∀ t ∈ c.L, t.k = 3 → t.s ≠ []) : Calls Tryd.prog 45 #[.pointer (some ⟨c.R, 0, none⟩), .int .i64 so] w fun e w' => e = .returned (.int .i64 (listK c.L so s)) ∧ RS c nv s w' ∧ w.grownBy w' none := by
  have HS0 := Lib.hid h
  by_cases hk : kindAt c.L s.p = 3
  case neg =>
    have HX := Lib.hid (show listK c.L so s = 0 from if_neg (fun e => hk e.1))
    have hki : ¬ ((kindAt c.L s.p : Nat) : Int) = 3 := by omega
    have hkb : (((kindAt c.L s.p : Nat) : Int) != 3) = true := by simpa using hki
    clear h
    go_enter Tryd.func45, Tryd.ntmps45
    go_wp2_with fail
    refine HS0.out.kind.mono ?_
    rintro e w1 ⟨rfl, hs, hg⟩
    have HS1 := Lib.hid hs
    have HG1 := Lib.hid hg
    clear hs hg
    go_wp2
    go_ret
    exact ⟨by rw [HX.out]; rfl, HS1.out, HG1.out⟩
  have hki : ((kindAt c.L s.p : Nat) : Int) = 3 := by omega
  have hwn := word_ne hne hk
  obtain ⟨wd, hwd⟩ : ∃ wd, wordAt c.L s.p = wd := ⟨_, rfl⟩
  rw [hwd] at hwn
  have HX := Lib.hid (show listK c.L so s = listW so wd by
    rw [← listV_eq hso hwn]
    unfold listK listV
    rw [hwd]
    by_cases hc : headN wd = 0 ∨ (sortN (headN wd) ≠ 0 ∧ so ≠ 0 ∧ sortN (headN wd) ≠ so)
    · rw [if_pos hc, if_neg (fun e => e.2 hc)]
    · rw [if_neg hc, if_pos ⟨hk, hc⟩])
  clear h hwn hk
  go_enter Tryd.func45, Tryd.ntmps45
  go_wp2_with fail
  refine HS0.out.kind.mono ?_
  rintro e w1 ⟨rfl, hs, hg⟩
  rw [hki]
  have HS1 := Lib.hid hs
  have HG1 := Lib.hid hg
  have HMK := Lib.hid (pmk_any w1)
  clear hs hg hki
  go_wp2_with fail
  refine HMK.out.mono ?_
  rintro e w2 ⟨g, rfl, hrow, hg2⟩
  have HSM := Lib.hid (HS1.out.same hg2)
  have HGM := Lib.hid (HG1.out.trans hg2)
  have HRM := Lib.hid hrow
  clear hrow hg2 HMK
  go_wp2_with fail
  go_loopw [6] (fun i wr => ∃ k : Nat, k ≤ 12 ∧ i = .int .i64 k ∧ Hid (FindI (pM so wd) markedL k) ∧ Hid (RS c nv s wr) ∧ Hid (w.grownBy wr none) ∧ Hid (WRow wr g markedL)) (fun i _ => 12 - (intOf i).toNat)
  case atStart => exact ⟨0, Nat.zero_le _, rfl, Lib.hid (FindI.start _ _), HSM, HGM, HRM⟩
  case round =>
    obtain ⟨k, hk, rfl, HNO, HS, HG, HR⟩ := hrel
    clear HSM HGM HRM
    by_cases hlt : k < 12
    · have hkl : k < (markedL).length := hlt
      have hc := HR.out k hkl
      have HD := Lib.hid (List.drop_eq_getElem_cons hkl)
      obtain ⟨y, hy⟩ : ∃ y, (markedL)[k]'hkl = y := ⟨_, rfl⟩
      rw [hy] at hc HD
      unfold strV at hc
      clear hy
      have HWD := Lib.hid (HS.out.drew.word)
      cases hyx : (y == wd)
      · have HPY := Lib.hid (show pM so wd y k = false by unfold pM; rw [hyx]; rfl)
        clear HS
        (try clear hk0)
        (try clear hs2)
        (try clear hs1)
        go_wp2_with fail
        refine wp_region_held_drew (S := fun w' => w'.cell? ⟨g, k, none⟩ = some (.string ⟨y.toArray⟩)) (by kernel_rfl) ?_ (fun hHeld => ?_)
        · (try dsimp only)
          (first | exact hc | exact HCN.out)
        refine take_at 0 18 ol7_0 (v := ?_) (Or.inl ⟨by rfl, ?_⟩) ?_
        rotate_left 1
        · ((intro w hSw; (try dsimp only at hSw); unfold ol7_0; go_simp) <;> with_reducible rfl)
        (try simp only [Act.put, List.setIfInBounds_toArray, List.set_cons_zero, List.set_cons_succ])
        refine take_at 1 19 ol7_1 (v := ?_) (Or.inl ⟨by rfl, ?_⟩) ?_
        rotate_left 1
        · ((intro w hSw; (try dsimp only at hSw); unfold ol7_1; go_simp) <;> with_reducible rfl)
        (try simp only [Act.put, List.setIfInBounds_toArray, List.set_cons_zero, List.set_cons_succ])
        refine take_at 2 20 ol7_2 (v := ?_) (Or.inl ⟨by rfl, ?_⟩) ?_
        rotate_left 1
        · ((intro w hSw; (try dsimp only at hSw); unfold ol7_2; go_simp) <;> with_reducible rfl)
        (try simp only [Act.put, List.setIfInBounds_toArray, List.set_cons_zero, List.set_cons_succ])
        refine take_at 3 21 ol7_3 (v := ?_) (Or.inl ⟨by rfl, ?_⟩) ?_
        rotate_left 1
        · ((intro w hSw; (try dsimp only at hSw); unfold ol7_3; go_simp) <;> with_reducible rfl)
        (try simp only [Act.put, List.setIfInBounds_toArray, List.set_cons_zero, List.set_cons_succ])
        refine take_at 4 22 ol7_4 (v := ?_) (Or.inl ⟨by rfl, ?_⟩) ?_
        rotate_left 1
        · ((intro w hSw; (try dsimp only at hSw); unfold ol7_4; go_simp) <;> with_reducible rfl)
        (try simp only [Act.put, List.setIfInBounds_toArray, List.set_cons_zero, List.set_cons_succ])
        refine wpAnyH_ready (rs := [5]) (by kernel_rfl) (by simp) ?_
        refine AllReadyH.cons (o := ol7_5) rfl (fun K hK => ?_) ?_
        · unfold ol7_5
          go_simp
          (go_at_call 43; with_reducible refine Calls.mono HWD.out ?_)
          rintro e wn ⟨rfl, hs2, hg2⟩
          rw [hwd]
          have HSN := Lib.hid hs2
          have HGN := Lib.hid ((HG.out.trans (drew_gr wr)).trans hg2)
          have HCN := Lib.hid (cell_gr ((drew_gr wr).trans hg2) hc)
          have HRN := Lib.hid (HR.out.same ((drew_gr wr).trans hg2))
          clear hs2 hg2
          refine hK.out _ _ ?_ (fun hHeld => ?_)
          · (try dsimp only)
            (first | exact hc | exact HCN.out)
          clear hK K
          (try simp only [Act.put, List.setIfInBounds_toArray, List.set_cons_zero, List.set_cons_succ])
          refine take_at 6 24 ol7_6 (v := ?_) (Or.inl ⟨by rfl, ?_⟩) ?_
          rotate_left 1
          · ((intro w hSw; (try dsimp only at hSw); unfold ol7_6; go_simp) <;> with_reducible rfl)
          (try simp only [Act.put, List.setIfInBounds_toArray, List.set_cons_zero, List.set_cons_succ])
          refine take_at 7 25 ol7_7 (v := ?_) (Or.inl ⟨by rfl, ?_⟩) ?_
          rotate_left 1
          · ((intro w hSw; (try dsimp only at hSw); unfold ol7_7; go_simp) <;> with_reducible rfl)
          (try simp only [Act.put, List.setIfInBounds_toArray, List.set_cons_zero, List.set_cons_succ])
          refine take_at 8 26 ol7_8 (v := undef) (Or.inr ⟨by rfl, rfl⟩) ?_
          (try simp only [Act.put, List.setIfInBounds_toArray, List.set_cons_zero, List.set_cons_succ])
          refine take_at 9 27 ol7_9 (v := undef) (Or.inr ⟨by rfl, rfl⟩) ?_
          (try simp only [Act.put, List.setIfInBounds_toArray, List.set_cons_zero, List.set_cons_succ])
          refine take_at 10 28 ol7_10 (v := undef) (Or.inr ⟨by rfl, rfl⟩) ?_
          (try simp only [Act.put, List.setIfInBounds_toArray, List.set_cons_zero, List.set_cons_succ])
          refine take_at 11 29 ol7_11 (v := undef) (Or.inr ⟨by rfl, rfl⟩) ?_
          (try simp only [Act.put, List.setIfInBounds_toArray, List.set_cons_zero, List.set_cons_succ])
          refine take_at 12 30 ol7_12 (v := undef) (Or.inr ⟨by rfl, rfl⟩) ?_
          (try simp only [Act.put, List.setIfInBounds_toArray, List.set_cons_zero, List.set_cons_succ])
          refine take_at 13 31 ol7_13 (v := undef) (Or.inr ⟨by rfl, rfl⟩) ?_
          (try simp only [Act.put, List.setIfInBounds_toArray, List.set_cons_zero, List.set_cons_succ])
          refine take_at 14 32 ol7_14 (v := ?_) (Or.inl ⟨by rfl, ?_⟩) ?_
          rotate_left 1
          · ((intro w hSw; (try dsimp only at hSw); unfold ol7_14; go_simp) <;> with_reducible rfl)
          (try simp only [Act.put, List.setIfInBounds_toArray, List.set_cons_zero, List.set_cons_succ])
          refine wpAnyH_done (by kernel_rfl) ?_ _
          clear hHeld
          go_wp2
          go_round
          case rel => exact ⟨k + 1, by omega, by go_num, HNO.out.next HD.out HPY.out, HSN.out, HGN.out, HRN.out⟩
          case measure => simp [intOf]; omega
        exact AllReadyH.nil

      · by_cases hs2 : so = 2
        · have hsb : (so != 2) = false := by simp [hs2]
          by_cases hk0 : k = 0
          · have hkb : ((k : Int) == 0) = true := by simp [hk0]
            have HPY := Lib.hid (show pM so wd y k = true by unfold pM; rw [hyx, hsb]; simp [hk0])
            clear HS
            (try clear hk0)
            (try clear hs2)
            (try clear hs1)
            go_wp2_with fail
            refine wp_region_held_drew (S := fun w' => w'.cell? ⟨g, k, none⟩ = some (.string ⟨y.toArray⟩)) (by kernel_rfl) ?_ (fun hHeld => ?_)
            · (try dsimp only)
              (first | exact hc | exact HCN.out)
            refine take_at 0 18 ol7_0 (v := ?_) (Or.inl ⟨by rfl, ?_⟩) ?_
            rotate_left 1
            · ((intro w hSw; (try dsimp only at hSw); unfold ol7_0; go_simp) <;> with_reducible rfl)
            (try simp only [Act.put, List.setIfInBounds_toArray, List.set_cons_zero, List.set_cons_succ])
            refine take_at 1 19 ol7_1 (v := ?_) (Or.inl ⟨by rfl, ?_⟩) ?_
            rotate_left 1
            · ((intro w hSw; (try dsimp only at hSw); unfold ol7_1; go_simp) <;> with_reducible rfl)
            (try simp only [Act.put, List.setIfInBounds_toArray, List.set_cons_zero, List.set_cons_succ])
            refine take_at 2 20 ol7_2 (v := ?_) (Or.inl ⟨by rfl, ?_⟩) ?_
            rotate_left 1
            · ((intro w hSw; (try dsimp only at hSw); unfold ol7_2; go_simp) <;> with_reducible rfl)
            (try simp only [Act.put, List.setIfInBounds_toArray, List.set_cons_zero, List.set_cons_succ])
            refine take_at 3 21 ol7_3 (v := ?_) (Or.inl ⟨by rfl, ?_⟩) ?_
            rotate_left 1
            · ((intro w hSw; (try dsimp only at hSw); unfold ol7_3; go_simp) <;> with_reducible rfl)
            (try simp only [Act.put, List.setIfInBounds_toArray, List.set_cons_zero, List.set_cons_succ])
            refine take_at 4 22 ol7_4 (v := ?_) (Or.inl ⟨by rfl, ?_⟩) ?_
            rotate_left 1
            · ((intro w hSw; (try dsimp only at hSw); unfold ol7_4; go_simp) <;> with_reducible rfl)
            (try simp only [Act.put, List.setIfInBounds_toArray, List.set_cons_zero, List.set_cons_succ])
            refine wpAnyH_ready (rs := [5]) (by kernel_rfl) (by simp) ?_
            refine AllReadyH.cons (o := ol7_5) rfl (fun K hK => ?_) ?_
            · unfold ol7_5
              go_simp
              (go_at_call 43; with_reducible refine Calls.mono HWD.out ?_)
              rintro e wn ⟨rfl, hs2, hg2⟩
              rw [hwd]
              have HSN := Lib.hid hs2
              have HGN := Lib.hid ((HG.out.trans (drew_gr wr)).trans hg2)
              have HCN := Lib.hid (cell_gr ((drew_gr wr).trans hg2) hc)
              have HRN := Lib.hid (HR.out.same ((drew_gr wr).trans hg2))
              clear hs2 hg2
              refine hK.out _ _ ?_ (fun hHeld => ?_)
              · (try dsimp only)
                (first | exact hc | exact HCN.out)
              clear hK K
              (try simp only [Act.put, List.setIfInBounds_toArray, List.set_cons_zero, List.set_cons_succ])
              refine take_at 6 24 ol7_6 (v := ?_) (Or.inl ⟨by rfl, ?_⟩) ?_
              rotate_left 1
              · ((intro w hSw; (try dsimp only at hSw); unfold ol7_6; go_simp) <;> with_reducible rfl)
              (try simp only [Act.put, List.setIfInBounds_toArray, List.set_cons_zero, List.set_cons_succ])
              refine take_at 7 25 ol7_7 (v := ?_) (Or.inl ⟨by rfl, ?_⟩) ?_
              rotate_left 1
              · ((intro w hSw; (try dsimp only at hSw); unfold ol7_7; go_simp) <;> with_reducible rfl)
              (try simp only [Act.put, List.setIfInBounds_toArray, List.set_cons_zero, List.set_cons_succ])
              refine take_at 8 26 ol7_8 (v := ?_) (Or.inl ⟨by rfl, ?_⟩) ?_
              rotate_left 1
              · ((intro w hSw; (try dsimp only at hSw); unfold ol7_8; go_simp) <;> with_reducible rfl)
              (try simp only [Act.put, List.setIfInBounds_toArray, List.set_cons_zero, List.set_cons_succ])
              refine take_at 9 27 ol7_9 (v := ?_) (Or.inl ⟨by rfl, ?_⟩) ?_
              rotate_left 1
              · ((intro w hSw; (try dsimp only at hSw); unfold ol7_9; go_simp) <;> with_reducible rfl)
              (try simp only [Act.put, List.setIfInBounds_toArray, List.set_cons_zero, List.set_cons_succ])
              refine take_at 10 28 ol7_10 (v := ?_) (Or.inl ⟨by rfl, ?_⟩) ?_
              rotate_left 1
              · ((intro w hSw; (try dsimp only at hSw); unfold ol7_10; go_simp) <;> with_reducible rfl)
              (try simp only [Act.put, List.setIfInBounds_toArray, List.set_cons_zero, List.set_cons_succ])
              refine take_at 11 29 ol7_11 (v := ?_) (Or.inl ⟨by rfl, ?_⟩) ?_
              rotate_left 1
              · ((intro w hSw; (try dsimp only at hSw); unfold ol7_11; go_simp) <;> with_reducible rfl)
              (try simp only [Act.put, List.setIfInBounds_toArray, List.set_cons_zero, List.set_cons_succ])
              refine take_at 12 30 ol7_12 (v := ?_) (Or.inl ⟨by rfl, ?_⟩) ?_
              rotate_left 1
              · ((intro w hSw; (try dsimp only at hSw); unfold ol7_12; go_simp) <;> with_reducible rfl)
              (try simp only [Act.put, List.setIfInBounds_toArray, List.set_cons_zero, List.set_cons_succ])
              refine take_at 13 31 ol7_13 (v := ?_) (Or.inl ⟨by rfl, ?_⟩) ?_
              rotate_left 1
              · ((intro w hSw; (try dsimp only at hSw); unfold ol7_13; go_simp) <;> with_reducible rfl)
              (try simp only [Act.put, List.setIfInBounds_toArray, List.set_cons_zero, List.set_cons_succ])
              refine take_at 14 32 ol7_14 (v := ?_) (Or.inl ⟨by rfl, ?_⟩) ?_
              rotate_left 1
              · ((intro w hSw; (try dsimp only at hSw); unfold ol7_14; go_simp) <;> with_reducible rfl)
              (try simp only [Act.put, List.setIfInBounds_toArray, List.set_cons_zero, List.set_cons_succ])
              refine wpAnyH_done (by kernel_rfl) ?_ _
              clear hHeld
              go_wp2
              go_ret
              exact ⟨by rw [HX.out]; exact congrArg (fun z => Ending.returned (.int .i64 z)) (listW_marked (HNO.out.found HD.out HPY.out)).symm, HSN.out, HGN.out⟩
            exact AllReadyH.nil

          · have hkb : ((k : Int) == 0) = false := by simp [hk0]
            have HPY := Lib.hid (show pM so wd y k = false by unfold pM; rw [hyx, hsb]; simp [hk0])
            clear HS
            (try clear hk0)
            (try clear hs2)
            (try clear hs1)
            go_wp2_with fail
            refine wp_region_held_drew (S := fun w' => w'.cell? ⟨g, k, none⟩ = some (.string ⟨y.toArray⟩)) (by kernel_rfl) ?_ (fun hHeld => ?_)
            · (try dsimp only)
              (first | exact hc | exact HCN.out)
            refine take_at 0 18 ol7_0 (v := ?_) (Or.inl ⟨by rfl, ?_⟩) ?_
            rotate_left 1
            · ((intro w hSw; (try dsimp only at hSw); unfold ol7_0; go_simp) <;> with_reducible rfl)
            (try simp only [Act.put, List.setIfInBounds_toArray, List.set_cons_zero, List.set_cons_succ])
            refine take_at 1 19 ol7_1 (v := ?_) (Or.inl ⟨by rfl, ?_⟩) ?_
            rotate_left 1
            · ((intro w hSw; (try dsimp only at hSw); unfold ol7_1; go_simp) <;> with_reducible rfl)
            (try simp only [Act.put, List.setIfInBounds_toArray, List.set_cons_zero, List.set_cons_succ])
            refine take_at 2 20 ol7_2 (v := ?_) (Or.inl ⟨by rfl, ?_⟩) ?_
            rotate_left 1
            · ((intro w hSw; (try dsimp only at hSw); unfold ol7_2; go_simp) <;> with_reducible rfl)
            (try simp only [Act.put, List.setIfInBounds_toArray, List.set_cons_zero, List.set_cons_succ])
            refine take_at 3 21 ol7_3 (v := ?_) (Or.inl ⟨by rfl, ?_⟩) ?_
            rotate_left 1
            · ((intro w hSw; (try dsimp only at hSw); unfold ol7_3; go_simp) <;> with_reducible rfl)
            (try simp only [Act.put, List.setIfInBounds_toArray, List.set_cons_zero, List.set_cons_succ])
            refine take_at 4 22 ol7_4 (v := ?_) (Or.inl ⟨by rfl, ?_⟩) ?_
            rotate_left 1
            · ((intro w hSw; (try dsimp only at hSw); unfold ol7_4; go_simp) <;> with_reducible rfl)
            (try simp only [Act.put, List.setIfInBounds_toArray, List.set_cons_zero, List.set_cons_succ])
            refine wpAnyH_ready (rs := [5]) (by kernel_rfl) (by simp) ?_
            refine AllReadyH.cons (o := ol7_5) rfl (fun K hK => ?_) ?_
            · unfold ol7_5
              go_simp
              (go_at_call 43; with_reducible refine Calls.mono HWD.out ?_)
              rintro e wn ⟨rfl, hs2, hg2⟩
              rw [hwd]
              have HSN := Lib.hid hs2
              have HGN := Lib.hid ((HG.out.trans (drew_gr wr)).trans hg2)
              have HCN := Lib.hid (cell_gr ((drew_gr wr).trans hg2) hc)
              have HRN := Lib.hid (HR.out.same ((drew_gr wr).trans hg2))
              clear hs2 hg2
              refine hK.out _ _ ?_ (fun hHeld => ?_)
              · (try dsimp only)
                (first | exact hc | exact HCN.out)
              clear hK K
              (try simp only [Act.put, List.setIfInBounds_toArray, List.set_cons_zero, List.set_cons_succ])
              refine take_at 6 24 ol7_6 (v := ?_) (Or.inl ⟨by rfl, ?_⟩) ?_
              rotate_left 1
              · ((intro w hSw; (try dsimp only at hSw); unfold ol7_6; go_simp) <;> with_reducible rfl)
              (try simp only [Act.put, List.setIfInBounds_toArray, List.set_cons_zero, List.set_cons_succ])
              refine take_at 7 25 ol7_7 (v := ?_) (Or.inl ⟨by rfl, ?_⟩) ?_
              rotate_left 1
              · ((intro w hSw; (try dsimp only at hSw); unfold ol7_7; go_simp) <;> with_reducible rfl)
              (try simp only [Act.put, List.setIfInBounds_toArray, List.set_cons_zero, List.set_cons_succ])
              refine take_at 8 26 ol7_8 (v := ?_) (Or.inl ⟨by rfl, ?_⟩) ?_
              rotate_left 1
              · ((intro w hSw; (try dsimp only at hSw); unfold ol7_8; go_simp) <;> with_reducible rfl)
              (try simp only [Act.put, List.setIfInBounds_toArray, List.set_cons_zero, List.set_cons_succ])
              refine take_at 9 27 ol7_9 (v := ?_) (Or.inl ⟨by rfl, ?_⟩) ?_
              rotate_left 1
              · ((intro w hSw; (try dsimp only at hSw); unfold ol7_9; go_simp) <;> with_reducible rfl)
              (try simp only [Act.put, List.setIfInBounds_toArray, List.set_cons_zero, List.set_cons_succ])
              refine take_at 10 28 ol7_10 (v := ?_) (Or.inl ⟨by rfl, ?_⟩) ?_
              rotate_left 1
              · ((intro w hSw; (try dsimp only at hSw); unfold ol7_10; go_simp) <;> with_reducible rfl)
              (try simp only [Act.put, List.setIfInBounds_toArray, List.set_cons_zero, List.set_cons_succ])
              refine take_at 11 29 ol7_11 (v := ?_) (Or.inl ⟨by rfl, ?_⟩) ?_
              rotate_left 1
              · ((intro w hSw; (try dsimp only at hSw); unfold ol7_11; go_simp) <;> with_reducible rfl)
              (try simp only [Act.put, List.setIfInBounds_toArray, List.set_cons_zero, List.set_cons_succ])
              refine take_at 12 30 ol7_12 (v := ?_) (Or.inl ⟨by rfl, ?_⟩) ?_
              rotate_left 1
              · ((intro w hSw; (try dsimp only at hSw); unfold ol7_12; go_simp) <;> with_reducible rfl)
              (try simp only [Act.put, List.setIfInBounds_toArray, List.set_cons_zero, List.set_cons_succ])
              refine take_at 13 31 ol7_13 (v := ?_) (Or.inl ⟨by rfl, ?_⟩) ?_
              rotate_left 1
              · ((intro w hSw; (try dsimp only at hSw); unfold ol7_13; go_simp) <;> with_reducible rfl)
              (try simp only [Act.put, List.setIfInBounds_toArray, List.set_cons_zero, List.set_cons_succ])
              refine take_at 14 32 ol7_14 (v := ?_) (Or.inl ⟨by rfl, ?_⟩) ?_
              rotate_left 1
              · ((intro w hSw; (try dsimp only at hSw); unfold ol7_14; go_simp) <;> with_reducible rfl)
              (try simp only [Act.put, List.setIfInBounds_toArray, List.set_cons_zero, List.set_cons_succ])
              refine wpAnyH_done (by kernel_rfl) ?_ _
              clear hHeld
              go_wp2
              go_round
              case rel => exact ⟨k + 1, by omega, by go_num, HNO.out.next HD.out HPY.out, HSN.out, HGN.out, HRN.out⟩
              case measure => simp [intOf]; omega
            exact AllReadyH.nil

        · have hsb : (so != 2) = true := by simp [hs2]
          have HPY := Lib.hid (show pM so wd y k = true by unfold pM; rw [hyx, hsb]; rfl)
          clear HS
          (try clear hk0)
          (try clear hs2)
          (try clear hs1)
          go_wp2_with fail
          refine wp_region_held_drew (S := fun w' => w'.cell? ⟨g, k, none⟩ = some (.string ⟨y.toArray⟩)) (by kernel_rfl) ?_ (fun hHeld => ?_)
          · (try dsimp only)
            (first | exact hc | exact HCN.out)
          refine take_at 0 18 ol7_0 (v := ?_) (Or.inl ⟨by rfl, ?_⟩) ?_
          rotate_left 1
          · ((intro w hSw; (try dsimp only at hSw); unfold ol7_0; go_simp) <;> with_reducible rfl)
          (try simp only [Act.put, List.setIfInBounds_toArray, List.set_cons_zero, List.set_cons_succ])
          refine take_at 1 19 ol7_1 (v := ?_) (Or.inl ⟨by rfl, ?_⟩) ?_
          rotate_left 1
          · ((intro w hSw; (try dsimp only at hSw); unfold ol7_1; go_simp) <;> with_reducible rfl)
          (try simp only [Act.put, List.setIfInBounds_toArray, List.set_cons_zero, List.set_cons_succ])
          refine take_at 2 20 ol7_2 (v := ?_) (Or.inl ⟨by rfl, ?_⟩) ?_
          rotate_left 1
          · ((intro w hSw; (try dsimp only at hSw); unfold ol7_2; go_simp) <;> with_reducible rfl)
          (try simp only [Act.put, List.setIfInBounds_toArray, List.set_cons_zero, List.set_cons_succ])
          refine take_at 3 21 ol7_3 (v := ?_) (Or.inl ⟨by rfl, ?_⟩) ?_
          rotate_left 1
          · ((intro w hSw; (try dsimp only at hSw); unfold ol7_3; go_simp) <;> with_reducible rfl)
          (try simp only [Act.put, List.setIfInBounds_toArray, List.set_cons_zero, List.set_cons_succ])
          refine take_at 4 22 ol7_4 (v := ?_) (Or.inl ⟨by rfl, ?_⟩) ?_
          rotate_left 1
          · ((intro w hSw; (try dsimp only at hSw); unfold ol7_4; go_simp) <;> with_reducible rfl)
          (try simp only [Act.put, List.setIfInBounds_toArray, List.set_cons_zero, List.set_cons_succ])
          refine wpAnyH_ready (rs := [5]) (by kernel_rfl) (by simp) ?_
          refine AllReadyH.cons (o := ol7_5) rfl (fun K hK => ?_) ?_
          · unfold ol7_5
            go_simp
            (go_at_call 43; with_reducible refine Calls.mono HWD.out ?_)
            rintro e wn ⟨rfl, hs2, hg2⟩
            rw [hwd]
            have HSN := Lib.hid hs2
            have HGN := Lib.hid ((HG.out.trans (drew_gr wr)).trans hg2)
            have HCN := Lib.hid (cell_gr ((drew_gr wr).trans hg2) hc)
            have HRN := Lib.hid (HR.out.same ((drew_gr wr).trans hg2))
            clear hs2 hg2
            refine hK.out _ _ ?_ (fun hHeld => ?_)
            · (try dsimp only)
              (first | exact hc | exact HCN.out)
            clear hK K
            (try simp only [Act.put, List.setIfInBounds_toArray, List.set_cons_zero, List.set_cons_succ])
            refine take_at 6 24 ol7_6 (v := ?_) (Or.inl ⟨by rfl, ?_⟩) ?_
            rotate_left 1
            · ((intro w hSw; (try dsimp only at hSw); unfold ol7_6; go_simp) <;> with_reducible rfl)
            (try simp only [Act.put, List.setIfInBounds_toArray, List.set_cons_zero, List.set_cons_succ])
            refine take_at 7 25 ol7_7 (v := ?_) (Or.inl ⟨by rfl, ?_⟩) ?_
            rotate_left 1
            · ((intro w hSw; (try dsimp only at hSw); unfold ol7_7; go_simp) <;> with_reducible rfl)
            (try simp only [Act.put, List.setIfInBounds_toArray, List.set_cons_zero, List.set_cons_succ])
            refine take_at 8 26 ol7_8 (v := ?_) (Or.inl ⟨by rfl, ?_⟩) ?_
            rotate_left 1
            · ((intro w hSw; (try dsimp only at hSw); unfold ol7_8; go_simp) <;> with_reducible rfl)
            (try simp only [Act.put, List.setIfInBounds_toArray, List.set_cons_zero, List.set_cons_succ])
            refine take_at 9 27 ol7_9 (v := ?_) (Or.inl ⟨by rfl, ?_⟩) ?_
            rotate_left 1
            · ((intro w hSw; (try dsimp only at hSw); unfold ol7_9; go_simp) <;> with_reducible rfl)
            (try simp only [Act.put, List.setIfInBounds_toArray, List.set_cons_zero, List.set_cons_succ])
            refine take_at 10 28 ol7_10 (v := ?_) (Or.inl ⟨by rfl, ?_⟩) ?_
            rotate_left 1
            · ((intro w hSw; (try dsimp only at hSw); unfold ol7_10; go_simp) <;> with_reducible rfl)
            (try simp only [Act.put, List.setIfInBounds_toArray, List.set_cons_zero, List.set_cons_succ])
            refine take_at 11 29 ol7_11 (v := undef) (Or.inr ⟨by rfl, rfl⟩) ?_
            (try simp only [Act.put, List.setIfInBounds_toArray, List.set_cons_zero, List.set_cons_succ])
            refine take_at 12 30 ol7_12 (v := undef) (Or.inr ⟨by rfl, rfl⟩) ?_
            (try simp only [Act.put, List.setIfInBounds_toArray, List.set_cons_zero, List.set_cons_succ])
            refine take_at 13 31 ol7_13 (v := ?_) (Or.inl ⟨by rfl, ?_⟩) ?_
            rotate_left 1
            · ((intro w hSw; (try dsimp only at hSw); unfold ol7_13; go_simp) <;> with_reducible rfl)
            (try simp only [Act.put, List.setIfInBounds_toArray, List.set_cons_zero, List.set_cons_succ])
            refine take_at 14 32 ol7_14 (v := ?_) (Or.inl ⟨by rfl, ?_⟩) ?_
            rotate_left 1
            · ((intro w hSw; (try dsimp only at hSw); unfold ol7_14; go_simp) <;> with_reducible rfl)
            (try simp only [Act.put, List.setIfInBounds_toArray, List.set_cons_zero, List.set_cons_succ])
            refine wpAnyH_done (by kernel_rfl) ?_ _
            clear hHeld
            go_wp2
            go_ret
            exact ⟨by rw [HX.out]; exact congrArg (fun z => Ending.returned (.int .i64 z)) (listW_marked (HNO.out.found HD.out HPY.out)).symm, HSN.out, HGN.out⟩
          exact AllReadyH.nil

    · obtain rfl : k = 12 := by omega
      have HN1 := Lib.hid (HNO.out.none (Nat.le_refl _))
      have HS1 := HS
      have HG1 := HG
      have HMK := Lib.hid (ppl_any wr)
      clear HNO HS HG HR hlt hk
      go_wp2_with fail
      refine HMK.out.mono ?_
      rintro e w2 ⟨g, rfl, hrow, hg2⟩
      have HSM := Lib.hid (HS1.out.same hg2)
      have HGM := Lib.hid (HG1.out.trans hg2)
      have HRM := Lib.hid hrow
      clear hrow hg2 HMK
      go_wp2_with fail
      go_loopw [7] (fun i wr => ∃ k : Nat, k ≤ 11 ∧ i = .int .i64 k ∧ Hid (FindI (pP so wd) plainL k) ∧ Hid (RS c nv s wr) ∧ Hid (w.grownBy wr none) ∧ Hid (WRow wr g plainL)) (fun i _ => 11 - (intOf i).toNat)
      case atStart => exact ⟨0, Nat.zero_le _, rfl, Lib.hid (FindI.start _ _), HSM, HGM, HRM⟩
      case round =>
        obtain ⟨k, hk, rfl, HNO, HS, HG, HR⟩ := hrel
        clear HSM HGM HRM
        by_cases hlt : k < 11
        · have hkl : k < (plainL).length := hlt
          have hc := HR.out k hkl
          have HD := Lib.hid (List.drop_eq_getElem_cons hkl)
          obtain ⟨y, hy⟩ : ∃ y, (plainL)[k]'hkl = y := ⟨_, rfl⟩
          rw [hy] at hc HD
          unfold strV at hc
          clear hy
          have HWD := Lib.hid (HS.out.drew.word)
          cases hyx : (y == wd)
          · have HPY := Lib.hid (show pP so wd y k = false by unfold pP; rw [hyx]; rfl)
            clear HS
            (try clear hk0)
            (try clear hs2)
            (try clear hs1)
            go_wp2_with fail
            refine wp_region_held_drew (S := fun w' => w'.cell? ⟨g, k, none⟩ = some (.string ⟨y.toArray⟩)) (by kernel_rfl) ?_ (fun hHeld => ?_)
            · (try dsimp only)
              (first | exact hc | exact HCN.out)
            refine take_at 0 42 ol13_0 (v := ?_) (Or.inl ⟨by rfl, ?_⟩) ?_
            rotate_left 1
            · ((intro w hSw; (try dsimp only at hSw); unfold ol13_0; go_simp) <;> with_reducible rfl)
            (try simp only [Act.put, List.setIfInBounds_toArray, List.set_cons_zero, List.set_cons_succ])
            refine take_at 1 43 ol13_1 (v := ?_) (Or.inl ⟨by rfl, ?_⟩) ?_
            rotate_left 1
            · ((intro w hSw; (try dsimp only at hSw); unfold ol13_1; go_simp) <;> with_reducible rfl)
            (try simp only [Act.put, List.setIfInBounds_toArray, List.set_cons_zero, List.set_cons_succ])
            refine take_at 2 44 ol13_2 (v := ?_) (Or.inl ⟨by rfl, ?_⟩) ?_
            rotate_left 1
            · ((intro w hSw; (try dsimp only at hSw); unfold ol13_2; go_simp) <;> with_reducible rfl)
            (try simp only [Act.put, List.setIfInBounds_toArray, List.set_cons_zero, List.set_cons_succ])
            refine take_at 3 45 ol13_3 (v := ?_) (Or.inl ⟨by rfl, ?_⟩) ?_
            rotate_left 1
            · ((intro w hSw; (try dsimp only at hSw); unfold ol13_3; go_simp) <;> with_reducible rfl)
            (try simp only [Act.put, List.setIfInBounds_toArray, List.set_cons_zero, List.set_cons_succ])
            refine take_at 4 46 ol13_4 (v := ?_) (Or.inl ⟨by rfl, ?_⟩) ?_
            rotate_left 1
            · ((intro w hSw; (try dsimp only at hSw); unfold ol13_4; go_simp) <;> with_reducible rfl)
            (try simp only [Act.put, List.setIfInBounds_toArray, List.set_cons_zero, List.set_cons_succ])
            refine wpAnyH_ready (rs := [5]) (by kernel_rfl) (by simp) ?_
            refine AllReadyH.cons (o := ol13_5) rfl (fun K hK => ?_) ?_
            · unfold ol13_5
              go_simp
              (go_at_call 43; with_reducible refine Calls.mono HWD.out ?_)
              rintro e wn ⟨rfl, hs2, hg2⟩
              rw [hwd]
              have HSN := Lib.hid hs2
              have HGN := Lib.hid ((HG.out.trans (drew_gr wr)).trans hg2)
              have HCN := Lib.hid (cell_gr ((drew_gr wr).trans hg2) hc)
              have HRN := Lib.hid (HR.out.same ((drew_gr wr).trans hg2))
              clear hs2 hg2
              refine hK.out _ _ ?_ (fun hHeld => ?_)
              · (try dsimp only)
                (first | exact hc | exact HCN.out)
              clear hK K
              (try simp only [Act.put, List.setIfInBounds_toArray, List.set_cons_zero, List.set_cons_succ])
              refine take_at 6 48 ol13_6 (v := ?_) (Or.inl ⟨by rfl, ?_⟩) ?_
              rotate_left 1
              · ((intro w hSw; (try dsimp only at hSw); unfold ol13_6; go_simp) <;> with_reducible rfl)
              (try simp only [Act.put, List.setIfInBounds_toArray, List.set_cons_zero, List.set_cons_succ])
              refine take_at 7 49 ol13_7 (v := ?_) (Or.inl ⟨by rfl, ?_⟩) ?_
              rotate_left 1
              · ((intro w hSw; (try dsimp only at hSw); unfold ol13_7; go_simp) <;> with_reducible rfl)
              (try simp only [Act.put, List.setIfInBounds_toArray, List.set_cons_zero, List.set_cons_succ])
              refine take_at 8 50 ol13_8 (v := undef) (Or.inr ⟨by rfl, rfl⟩) ?_
              (try simp only [Act.put, List.setIfInBounds_toArray, List.set_cons_zero, List.set_cons_succ])
              refine take_at 9 51 ol13_9 (v := undef) (Or.inr ⟨by rfl, rfl⟩) ?_
              (try simp only [Act.put, List.setIfInBounds_toArray, List.set_cons_zero, List.set_cons_succ])
              refine take_at 10 52 ol13_10 (v := ?_) (Or.inl ⟨by rfl, ?_⟩) ?_
              rotate_left 1
              · ((intro w hSw; (try dsimp only at hSw); unfold ol13_10; go_simp) <;> with_reducible rfl)
              (try simp only [Act.put, List.setIfInBounds_toArray, List.set_cons_zero, List.set_cons_succ])
              refine wpAnyH_done (by kernel_rfl) ?_ _
              clear hHeld
              go_wp2
              go_round
              case rel => exact ⟨k + 1, by omega, by go_num, HNO.out.next HD.out HPY.out, HSN.out, HGN.out, HRN.out⟩
              case measure => simp [intOf]; omega
            exact AllReadyH.nil

          · by_cases hs1 : so = 1
            · have hsb : (so != 1) = false := by simp [hs1]
              have HPY := Lib.hid (show pP so wd y k = false by unfold pP; rw [hyx, hsb]; rfl)
              clear HS
              (try clear hk0)
              (try clear hs2)
              (try clear hs1)
              go_wp2_with fail
              refine wp_region_held_drew (S := fun w' => w'.cell? ⟨g, k, none⟩ = some (.string ⟨y.toArray⟩)) (by kernel_rfl) ?_ (fun hHeld => ?_)
              · (try dsimp only)
                (first | exact hc | exact HCN.out)
              refine take_at 0 42 ol13_0 (v := ?_) (Or.inl ⟨by rfl, ?_⟩) ?_
              rotate_left 1
              · ((intro w hSw; (try dsimp only at hSw); unfold ol13_0; go_simp) <;> with_reducible rfl)
              (try simp only [Act.put, List.setIfInBounds_toArray, List.set_cons_zero, List.set_cons_succ])
              refine take_at 1 43 ol13_1 (v := ?_) (Or.inl ⟨by rfl, ?_⟩) ?_
              rotate_left 1
              · ((intro w hSw; (try dsimp only at hSw); unfold ol13_1; go_simp) <;> with_reducible rfl)
              (try simp only [Act.put, List.setIfInBounds_toArray, List.set_cons_zero, List.set_cons_succ])
              refine take_at 2 44 ol13_2 (v := ?_) (Or.inl ⟨by rfl, ?_⟩) ?_
              rotate_left 1
              · ((intro w hSw; (try dsimp only at hSw); unfold ol13_2; go_simp) <;> with_reducible rfl)
              (try simp only [Act.put, List.setIfInBounds_toArray, List.set_cons_zero, List.set_cons_succ])
              refine take_at 3 45 ol13_3 (v := ?_) (Or.inl ⟨by rfl, ?_⟩) ?_
              rotate_left 1
              · ((intro w hSw; (try dsimp only at hSw); unfold ol13_3; go_simp) <;> with_reducible rfl)
              (try simp only [Act.put, List.setIfInBounds_toArray, List.set_cons_zero, List.set_cons_succ])
              refine take_at 4 46 ol13_4 (v := ?_) (Or.inl ⟨by rfl, ?_⟩) ?_
              rotate_left 1
              · ((intro w hSw; (try dsimp only at hSw); unfold ol13_4; go_simp) <;> with_reducible rfl)
              (try simp only [Act.put, List.setIfInBounds_toArray, List.set_cons_zero, List.set_cons_succ])
              refine wpAnyH_ready (rs := [5]) (by kernel_rfl) (by simp) ?_
              refine AllReadyH.cons (o := ol13_5) rfl (fun K hK => ?_) ?_
              · unfold ol13_5
                go_simp
                (go_at_call 43; with_reducible refine Calls.mono HWD.out ?_)
                rintro e wn ⟨rfl, hs2, hg2⟩
                rw [hwd]
                have HSN := Lib.hid hs2
                have HGN := Lib.hid ((HG.out.trans (drew_gr wr)).trans hg2)
                have HCN := Lib.hid (cell_gr ((drew_gr wr).trans hg2) hc)
                have HRN := Lib.hid (HR.out.same ((drew_gr wr).trans hg2))
                clear hs2 hg2
                refine hK.out _ _ ?_ (fun hHeld => ?_)
                · (try dsimp only)
                  (first | exact hc | exact HCN.out)
                clear hK K
                (try simp only [Act.put, List.setIfInBounds_toArray, List.set_cons_zero, List.set_cons_succ])
                refine take_at 6 48 ol13_6 (v := ?_) (Or.inl ⟨by rfl, ?_⟩) ?_
                rotate_left 1
                · ((intro w hSw; (try dsimp only at hSw); unfold ol13_6; go_simp) <;> with_reducible rfl)
                (try simp only [Act.put, List.setIfInBounds_toArray, List.set_cons_zero, List.set_cons_succ])
                refine take_at 7 49 ol13_7 (v := ?_) (Or.inl ⟨by rfl, ?_⟩) ?_
                rotate_left 1
                · ((intro w hSw; (try dsimp only at hSw); unfold ol13_7; go_simp) <;> with_reducible rfl)
                (try simp only [Act.put, List.setIfInBounds_toArray, List.set_cons_zero, List.set_cons_succ])
                refine take_at 8 50 ol13_8 (v := ?_) (Or.inl ⟨by rfl, ?_⟩) ?_
                rotate_left 1
                · ((intro w hSw; (try dsimp only at hSw); unfold ol13_8; go_simp) <;> with_reducible rfl)
                (try simp only [Act.put, List.setIfInBounds_toArray, List.set_cons_zero, List.set_cons_succ])
                refine take_at 9 51 ol13_9 (v := ?_) (Or.inl ⟨by rfl, ?_⟩) ?_
                rotate_left 1
                · ((intro w hSw; (try dsimp only at hSw); unfold ol13_9; go_simp) <;> with_reducible rfl)
                (try simp only [Act.put, List.setIfInBounds_toArray, List.set_cons_zero, List.set_cons_succ])
                refine take_at 10 52 ol13_10 (v := ?_) (Or.inl ⟨by rfl, ?_⟩) ?_
                rotate_left 1
                · ((intro w hSw; (try dsimp only at hSw); unfold ol13_10; go_simp) <;> with_reducible rfl)
                (try simp only [Act.put, List.setIfInBounds_toArray, List.set_cons_zero, List.set_cons_succ])
                refine wpAnyH_done (by kernel_rfl) ?_ _
                clear hHeld
                go_wp2
                go_round
                case rel => exact ⟨k + 1, by omega, by go_num, HNO.out.next HD.out HPY.out, HSN.out, HGN.out, HRN.out⟩
                case measure => simp [intOf]; omega
              exact AllReadyH.nil

            · have hsb : (so != 1) = true := by simp [hs1]
              have HPY := Lib.hid (show pP so wd y k = true by unfold pP; rw [hyx, hsb]; rfl)
              clear HS
              (try clear hk0)
              (try clear hs2)
              (try clear hs1)
              go_wp2_with fail
              refine wp_region_held_drew (S := fun w' => w'.cell? ⟨g, k, none⟩ = some (.string ⟨y.toArray⟩)) (by kernel_rfl) ?_ (fun hHeld => ?_)
              · (try dsimp only)
                (first | exact hc | exact HCN.out)
              refine take_at 0 42 ol13_0 (v := ?_) (Or.inl ⟨by rfl, ?_⟩) ?_
              rotate_left 1
              · ((intro w hSw; (try dsimp only at hSw); unfold ol13_0; go_simp) <;> with_reducible rfl)
              (try simp only [Act.put, List.setIfInBounds_toArray, List.set_cons_zero, List.set_cons_succ])
              refine take_at 1 43 ol13_1 (v := ?_) (Or.inl ⟨by rfl, ?_⟩) ?_
              rotate_left 1
              · ((intro w hSw; (try dsimp only at hSw); unfold ol13_1; go_simp) <;> with_reducible rfl)
              (try simp only [Act.put, List.setIfInBounds_toArray, List.set_cons_zero, List.set_cons_succ])
              refine take_at 2 44 ol13_2 (v := ?_) (Or.inl ⟨by rfl, ?_⟩) ?_
              rotate_left 1
              · ((intro w hSw; (try dsimp only at hSw); unfold ol13_2; go_simp) <;> with_reducible rfl)
              (try simp only [Act.put, List.setIfInBounds_toArray, List.set_cons_zero, List.set_cons_succ])
              refine take_at 3 45 ol13_3 (v := ?_) (Or.inl ⟨by rfl, ?_⟩) ?_
              rotate_left 1
              · ((intro w hSw; (try dsimp only at hSw); unfold ol13_3; go_simp) <;> with_reducible rfl)
              (try simp only [Act.put, List.setIfInBounds_toArray, List.set_cons_zero, List.set_cons_succ])
              refine take_at 4 46 ol13_4 (v := ?_) (Or.inl ⟨by rfl, ?_⟩) ?_
              rotate_left 1
              · ((intro w hSw; (try dsimp only at hSw); unfold ol13_4; go_simp) <;> with_reducible rfl)
              (try simp only [Act.put, List.setIfInBounds_toArray, List.set_cons_zero, List.set_cons_succ])
              refine wpAnyH_ready (rs := [5]) (by kernel_rfl) (by simp) ?_
              refine AllReadyH.cons (o := ol13_5) rfl (fun K hK => ?_) ?_
              · unfold ol13_5
                go_simp
                (go_at_call 43; with_reducible refine Calls.mono HWD.out ?_)
                rintro e wn ⟨rfl, hs2, hg2⟩
                rw [hwd]
                have HSN := Lib.hid hs2
                have HGN := Lib.hid ((HG.out.trans (drew_gr wr)).trans hg2)
                have HCN := Lib.hid (cell_gr ((drew_gr wr).trans hg2) hc)
                have HRN := Lib.hid (HR.out.same ((drew_gr wr).trans hg2))
                clear hs2 hg2
                refine hK.out _ _ ?_ (fun hHeld => ?_)
                · (try dsimp only)
                  (first | exact hc | exact HCN.out)
                clear hK K
                (try simp only [Act.put, List.setIfInBounds_toArray, List.set_cons_zero, List.set_cons_succ])
                refine take_at 6 48 ol13_6 (v := ?_) (Or.inl ⟨by rfl, ?_⟩) ?_
                rotate_left 1
                · ((intro w hSw; (try dsimp only at hSw); unfold ol13_6; go_simp) <;> with_reducible rfl)
                (try simp only [Act.put, List.setIfInBounds_toArray, List.set_cons_zero, List.set_cons_succ])
                refine take_at 7 49 ol13_7 (v := ?_) (Or.inl ⟨by rfl, ?_⟩) ?_
                rotate_left 1
                · ((intro w hSw; (try dsimp only at hSw); unfold ol13_7; go_simp) <;> with_reducible rfl)
                (try simp only [Act.put, List.setIfInBounds_toArray, List.set_cons_zero, List.set_cons_succ])
                refine take_at 8 50 ol13_8 (v := ?_) (Or.inl ⟨by rfl, ?_⟩) ?_
                rotate_left 1
                · ((intro w hSw; (try dsimp only at hSw); unfold ol13_8; go_simp) <;> with_reducible rfl)
                (try simp only [Act.put, List.setIfInBounds_toArray, List.set_cons_zero, List.set_cons_succ])
                refine take_at 9 51 ol13_9 (v := ?_) (Or.inl ⟨by rfl, ?_⟩) ?_
                rotate_left 1
                · ((intro w hSw; (try dsimp only at hSw); unfold ol13_9; go_simp) <;> with_reducible rfl)
                (try simp only [Act.put, List.setIfInBounds_toArray, List.set_cons_zero, List.set_cons_succ])
                refine take_at 10 52 ol13_10 (v := ?_) (Or.inl ⟨by rfl, ?_⟩) ?_
                rotate_left 1
                · ((intro w hSw; (try dsimp only at hSw); unfold ol13_10; go_simp) <;> with_reducible rfl)
                (try simp only [Act.put, List.setIfInBounds_toArray, List.set_cons_zero, List.set_cons_succ])
                refine wpAnyH_done (by kernel_rfl) ?_ _
                clear hHeld
                go_wp2
                go_ret
                exact ⟨by rw [HX.out]; exact congrArg (fun z => Ending.returned (.int .i64 z)) (listW_plain HN1.out (HNO.out.found HD.out HPY.out)).symm, HSN.out, HGN.out⟩
              exact AllReadyH.nil

        · obtain rfl : k = 11 := by omega
          have HN2 := Lib.hid (HNO.out.none (Nat.le_refl _))
          go_wp2
          go_ret
          exact ⟨by rw [HX.out]; exact congrArg (fun z => Ending.returned (.int .i64 z)) (listW_none HN1.out HN2.out).symm, HS.out, HG.out⟩

end Go.Proofs.YtlalolnhpcbjnaaDoor.Rt

namespace Go.Proofs.YtlalolnhpcbjnaaDoor
open Go.RowKit Go.Maps Go.ChangeShapes

theorem below_grown {B b : Nat} {w w' : World} (hB : B ≤ b) (hg : w.grownBy w' (some b)) (hlo : B ≤ w.heap.size) : Below B w w' := ⟨hg.os, hg.tape, hg.output, hg.size, fun k hk => hg.block k (by omega) (fun e => by have := Option.some.inj e; omega)⟩
abbrev W5' (w : World) (B at_ : Nat) : World := (w.setCell ⟨B + 1, 0, none⟩ (.int .i64 2)).setCell ⟨B + 2, 0, none⟩ (.int .i64 at_)
theorem assert_fault (at_ : Nat) (w : World) : (Instr.typeAssert (.iface 77 (.agg #[.int .i64 at_])) 20 77 true).run Tryd.prog w = .ok (.tuple #[.agg #[.int .i64 at_], .bool true]) w := by kernel_rfl
/-- What the closure leaves in the results of a reading that failed. -/
def CatchG (B : Nat) (at_ : Nat) (w w' : World) : Prop := w'.heap[B]? = some (.cells #[.int .i64 0, .int .i64 0, .int .i64 0, .int .i64 0, .slice none 0 0] 26) ∧ w'.heap[B + 1]? = some (.cells #[.int .i64 2] 27) ∧ w'.heap[B + 2]? = some (.cells #[.int .i64 at_] 3) ∧ Below B w w'
set_option maxHeartbeats 2000000 in
set_option maxRecDepth 20000 in
theorem catch_panicking (B : Nat) (at_ : Nat) (w : World) {v0 v1 v2 v3 v4 x y : Value} (hT : w.heap[B]? = some (.cells #[v0, v1, v2, v3, v4] 26 (0, 0))) (hE : w.heap[B + 1]? = some (.cells #[x] 27 (0, 0))) (hA : w.heap[B + 2]? = some (.cells #[y] 3 (0, 0))) :
    CallsD Tryd.prog 37 #[.pointer (some ⟨B, 0, none⟩), .pointer (some ⟨B + 1, 0, none⟩), .pointer (some ⟨B + 2, 0, none⟩)] (.panicking ({ v := .iface 77 (.agg #[.int .i64 at_]), recovered := false } :: [])) w fun e u' w' =>
      e = .returned (.tuple #[]) ∧ u' = .panicking ({ v := .iface 77 (.agg #[.int .i64 at_]), recovered := true } :: []) ∧ CatchG B at_ w w' := by
  refine callsD_of_wpS Tryd.func37 rfl fun c₀ cs hu => ?_
  apply wpS_seq
  apply wpS_region
  simp [wpOpsS, go_sem, recoverD, hu, Tryd.ntmps37, Exit.thenS]
  apply wpS_seq
  apply wpS_region
  simp [wpOpsS, go_sem, Exit.thenS]
  refine wpS_cond (t := true) (by simp [Act.eval, Array.replicate]) ?_
  simp only [if_true]
  refine wpS_of_wp (wp_mono (Q := fun e a' w' => e = Exit.normal ∧ a'.defers = [] ∧ CatchG B at_ w w') ?_ (fun e a' w' h => ?_))
  · have hta := assert_fault at_
    obtain ⟨du, hu1, hu2⟩ := under_term
    have hb := (Below.refl w.heap.size w).alloc (Nat.le_refl _) (.cells #[.int .i64 at_] 77)
    have hT1 := (hb.block _ (hlt_of hT)).trans hT
    have hE1 := (hb.block _ (hlt_of hE)).trans hE
    have hA1 := (hb.block _ (hlt_of hA)).trans hA
    have hF1 : (w.alloc (.cells #[.int .i64 at_] 77)).heap[w.heap.size]? = some (.cells #[.int .i64 at_] 77) := alloc_new _ _
    have hs1 : w.heap.size < (w.alloc (.cells #[.int .i64 at_] 77)).heap.size := by simp
    have hBS : B < w.heap.size ∧ B + 1 < w.heap.size ∧ B + 2 < w.heap.size := ⟨hlt_of hT, hlt_of hE, hlt_of hA⟩
    have HB := Lib.hid (hb.mono (Nat.le_of_lt hBS.1))
    clear hT hE hA hu hb
    change Code.wp _ _ _ { tmps := #[.pointer (some ⟨B, 0, none⟩), .pointer (some ⟨B + 1, 0, none⟩), .pointer (some ⟨B + 2, 0, none⟩), (.iface 77 (.agg #[.int .i64 at_])), undef, undef, (.iface 77 (.agg #[.int .i64 at_])), (.iface 77 (.agg #[.int .i64 at_])), .bool true, undef, undef, undef, undef, undef, undef, undef, undef], defers := [] } w
    go_upto_region 3 with fail
    obtain ⟨W, hW⟩ : ∃ W, W = w.alloc (.cells #[.int .i64 at_] 77) := ⟨_, rfl⟩
    rw [← hW] at hT1 hE1 hA1 hF1 hs1 HB
    rw [← hW]
    clear hW
    have x0 : W.cell? ⟨B, 0, none⟩ = some v0 := by rw [Lib.cell_of_heap hT1]; rfl
    have x1 : W.cell? ⟨B, 1, none⟩ = some v1 := by rw [Lib.cell_of_heap hT1]; rfl
    have x2 : W.cell? ⟨B, 2, none⟩ = some v2 := by rw [Lib.cell_of_heap hT1]; rfl
    have x3 : W.cell? ⟨B, 3, none⟩ = some v3 := by rw [Lib.cell_of_heap hT1]; rfl
    have x4 : W.cell? ⟨B, 4, none⟩ = some v4 := by rw [Lib.cell_of_heap hT1]; rfl
    have x5 : W.cell? ⟨B + 1, 0, none⟩ = some x := by rw [Lib.cell_of_heap hE1]; rfl
    have x6 : W.cell? ⟨B + 2, 0, none⟩ = some y := by rw [Lib.cell_of_heap hA1]; rfl
    have x7 : W.cell? ⟨w.heap.size, 0, none⟩ = some (.int .i64 at_) := by rw [Lib.cell_of_heap hF1]; rfl
    have f0 : W.frozen? ⟨B, 0, none⟩ = false := Lib.frozen_of_heap hT1 0
    have f1 : W.frozen? ⟨B, 1, none⟩ = false := Lib.frozen_of_heap hT1 1
    have f2 : W.frozen? ⟨B, 2, none⟩ = false := Lib.frozen_of_heap hT1 2
    have f3 : W.frozen? ⟨B, 3, none⟩ = false := Lib.frozen_of_heap hT1 3
    have f4 : W.frozen? ⟨B, 4, none⟩ = false := Lib.frozen_of_heap hT1 4
    have f5 : W.frozen? ⟨B + 1, 0, none⟩ = false := Lib.frozen_of_heap hE1 0
    have f6 : W.frozen? ⟨B + 2, 0, none⟩ = false := Lib.frozen_of_heap hA1 0
    have HH := Lib.hid (And.intro hT1 (And.intro hE1 hA1))
    have hne : ¬ B = w.heap.size := by omega
    have hne1 : ¬ B + 1 = w.heap.size := by omega
    have hne2 : ¬ B + 2 = w.heap.size := by omega
    have hWs : w.heap.size < W.heap.size := hs1
    clear hT1 hE1 hA1 hF1
    go_region
    go_step
    refine ⟨rfl, rfl, ?_⟩
    have hc5 := cell5_grown W B 0 (.int .i64 0) (.int .i64 0) (.int .i64 0) (.int .i64 0) (.slice none 0 0)
    have k1 : (cell5 W B 0 (.int .i64 0) (.int .i64 0) (.int .i64 0) (.int .i64 0) (.slice none 0 0)).heap[B]? = some (.cells #[.int .i64 0, .int .i64 0, .int .i64 0, .int .i64 0, .slice none 0 0] 26 (0, 0)) := five_set HH.out.1
    have k2 := (hc5.block (B + 1) (by omega) (fun e => by have := Option.some.inj e; omega)).trans HH.out.2.1
    have k3 := (hc5.block (B + 2) (by omega) (fun e => by have := Option.some.inj e; omega)).trans HH.out.2.2
    have hb5 := below_grown (B := B) (Nat.le_refl _) hc5 (by omega)
    obtain ⟨W5, hW5⟩ : ∃ W5, W5 = cell5 W B 0 (.int .i64 0) (.int .i64 0) (.int .i64 0) (.int .i64 0) (.slice none 0 0) := ⟨_, rfl⟩
    rw [← hW5] at hc5 k1 k2 k3 hb5
    have hs5 := hc5.size
    show CatchG B at_ w ((W5' (cell5 W B 0 (.int .i64 0) (.int .i64 0) (.int .i64 0) (.int .i64 0) (.slice none 0 0)) B at_).drew)
    rw [← hW5]
    have m1 := g1 W5 (B + 1) 0 (.int .i64 2)
    have m2 := g1 (W5.setCell ⟨B + 1, 0, none⟩ (.int .i64 2)) (B + 2) 0 (.int .i64 at_)
    have hs6 : (W5.setCell ⟨B + 1, 0, none⟩ (.int .i64 2)).heap.size = W5.heap.size := by simp
    refine ⟨?_, ?_, ?_, ?_⟩
    · exact ((m2.block B (by omega) (fun e => by have := Option.some.inj e; omega)).trans (m1.block B (by omega) (fun e => by have := Option.some.inj e; omega))).trans k1
    · exact (m2.block (B + 1) (by omega) (fun e => by have := Option.some.inj e; omega)).trans (heap_setCell_same _ _ _ _ _ _ k2)
    · exact heap_setCell_same _ _ _ _ _ _ ((m1.block (B + 2) (by omega) (fun e => by have := Option.some.inj e; omega)).trans k3)
    · exact (((HB.out.trans hb5).trans (below_grown (by omega) m1 (by omega))).trans (below_grown (by omega) m2 (by omega))).drew
  · obtain ⟨rfl, hd, hC⟩ := h
    exact ⟨hd, _, rfl, .tuple #[], results_none rfl _ _ _, rfl, rfl, hC⟩
theorem catch_idle (B : Nat) (w : World) :
    CallsD Tryd.prog 37 #[.pointer (some ⟨B, 0, none⟩), .pointer (some ⟨B + 1, 0, none⟩), .pointer (some ⟨B + 2, 0, none⟩)] .returning w fun e u' w' => e = .returned (.tuple #[]) ∧ u' = .returning ∧ w' = w := by
  refine callsD_of_wpS Tryd.func37 rfl fun c₀ cs hu => ?_
  apply wpS_seq
  apply wpS_region
  simp [wpOpsS, go_sem, recoverD, hu, Tryd.ntmps37, Exit.thenS]
  apply wpS_seq
  apply wpS_region
  simp [wpOpsS, go_sem, Exit.thenS]
  refine wpS_cond (t := false) (by simp [Act.eval, Array.replicate]) ?_
  simp only [Bool.false_eq_true, if_false]
  refine wpS_of_wp (wp_skip ?_)
  cases c₀
  simp_all [bodyPostS, results, Tryd.results37]
end Go.Proofs.YtlalolnhpcbjnaaDoor

namespace Go.Proofs.YtlalolnhpcbjnaaDoor
open Go.RowKit Go.Maps Go.ChangeShapes

def readT (l : List UInt8) (names : Names) (i j : Int) : Except Nat Tm :=
  match termP (ofL l).2.1 i j ((ofL l).1.length + 1) 0 names.reverse (ofL l).1 with
  | .error a => .error a
  | .ok (t, r) => match endP (ofL l).2.1 (ofL l).2.2 r with
    | .error a => .error a
    | .ok _ => .ok t
def WholeG (w : World) (x : Except Nat Tm) (e : Ending) (w' : World) : Prop := Below w.heap.size w w' ∧ match x with
  | .error a => e = .returned (.tuple #[.agg #[.int .i64 0, .int .i64 0, .int .i64 0, .int .i64 0, .slice none 0 0], .int .i64 2, .int .i64 a])
  | .ok t => ∃ s, e = .returned (.tuple #[tv t s, .int .i64 0, .int .i64 0]) ∧ LiesP w' (Own w.heap.size w') t.kids s ∧ t.fine
abbrev zT : Obj := .cells #[.int .i64 0, .int .i64 0, .int .i64 0, .int .i64 0, .slice none 0 0] 26
abbrev zE : Obj := .cells #[.int .i64 0] 27
abbrev zA : Obj := .cells #[.int .i64 0] 3
theorem three_new (w : World) : ((((w.alloc zT).alloc zE).alloc zA).heap.size = w.heap.size + 3) ∧ (((w.alloc zT).alloc zE).alloc zA).heap[w.heap.size]? = some zT ∧ (((w.alloc zT).alloc zE).alloc zA).heap[w.heap.size + 1]? = some zE ∧ (((w.alloc zT).alloc zE).alloc zA).heap[w.heap.size + 2]? = some zA ∧ Below w.heap.size w (((w.alloc zT).alloc zE).alloc zA) := by
  have b1 := al w zT
  have b2 := al (w.alloc zT) zE
  have b3 := al ((w.alloc zT).alloc zE) zA
  have s1 : (w.alloc zT).heap.size = w.heap.size + 1 := by simp
  have s2 : ((w.alloc zT).alloc zE).heap.size = w.heap.size + 2 := by simp
  have e1 : (w.alloc zT).heap[w.heap.size]? = some zT := alloc_new _ _
  have e2 : ((w.alloc zT).alloc zE).heap[w.heap.size + 1]? = some zE := by have := alloc_new (w.alloc zT) zE; rw [s1] at this; exact this
  have e3 : (((w.alloc zT).alloc zE).alloc zA).heap[w.heap.size + 2]? = some zA := by have := alloc_new ((w.alloc zT).alloc zE) zA; rw [s2] at this; exact this
  exact ⟨by simp, (b3.block _ (by omega)).trans ((b2.block _ (by omega)).trans e1), (b3.block _ (by omega)).trans e2, e3, (b1.trans (b2.mono (by omega))).trans (b3.mono (by omega))⟩
theorem make_inner (w : World) : (Instr.makeMap 72 none).run Tryd.prog w = .ok (.map (some w.heap.size)) (w.alloc (.map #[] 0)) := by kernel_rfl
theorem rd_start {l : List UInt8} {w w1 : World} {S : Nat} {i j : Int} {names : Names} {a : Option Addr} {cap : Nat} {v : Value} (hS : w1.heap.size = S + 1) (hB : w.heap.size + 3 ≤ S) (h1 : SAt w1 S v (ofL l).2.1 (ofL l).2.2) (h2 : TLies w1 (ofL l).1 v) (ho : TxLies (w.heap.size + 3) w1 names (.slice a names.length cap)) (hl : l.length ≤ 10000000) (hm : names.length ≤ 10000000) (hsh : ∀ y ∈ names, y.length ≤ 10000000) :
    RSt (RC.mk (w.heap.size + 3) S (w1.heap.size + 1) w1.heap.size (ofL l).2.1 (ofL l).2.2 i j names (.slice a names.length cap) (100 * (ofL l).1.length)) 0 names.reverse (ofL l).1 ((w1.alloc (.map #[] 0)).alloc (.cells #[.pointer (some ⟨S, 0, none⟩), .int .i64 i, .int .i64 j, .slice a names.length cap, .map (some w1.heap.size), .int .i64 names.length, .map none, .int .i64 0] 75)) ∧ Below w1.heap.size w1 ((w1.alloc (.map #[] 0)).alloc (.cells #[.pointer (some ⟨S, 0, none⟩), .int .i64 i, .int .i64 j, .slice a names.length cap, .map (some w1.heap.size), .int .i64 names.length, .map none, .int .i64 0] 75)) := by
  have hbd := ofL_bound l
  have b1 := al w1 (.map #[] 0)
  have b2 := al (w1.alloc (.map #[] 0)) (.cells #[.pointer (some ⟨S, 0, none⟩), .int .i64 i, .int .i64 j, .slice a names.length cap, .map (some w1.heap.size), .int .i64 names.length, .map none, .int .i64 0] 75)
  have s1 : (w1.alloc (.map #[] 0)).heap.size = w1.heap.size + 1 := by simp
  have bb := b1.trans (b2.mono (by omega))
  have g0 := World.ownsGroups_made (H := Unit) w1 Tryd.prog 9 3 .i64
  have hbs := bb.size
  have q1 := alloc_new (w1.alloc (.map #[] 0)) (.cells #[.pointer (some ⟨S, 0, none⟩), .int .i64 i, .int .i64 j, .slice a names.length cap, .map (some w1.heap.size), .int .i64 names.length, .map none, .int .i64 0] 75)
  rw [s1] at q1
  have q2 := groups_same g0 (b2.block _ (by omega)) (fun g cs fz e => by rw [b2.block _ (hlt_of e)]; exact e)
  have q3 := (bb.block S (by omega)).trans h1
  have q4 : TLies ((w1.alloc (.map #[] 0)).alloc (.cells #[.pointer (some ⟨S, 0, none⟩), .int .i64 i, .int .i64 j, .slice a names.length cap, .map (some w1.heap.size), .int .i64 names.length, .map none, .int .i64 0] 75)) (ofL l).1 v := h2.keep fun g cs fz e => by rw [bb.block _ (hlt_of e)]; exact e
  have q5 := ho.keep (bb.mono (by omega))
  have q6 : ∀ t ∈ (ofL l).1, t.s.length ≤ 10000000 := fun t ht => by have := (hbd.2.2 t ht).1; omega
  have q7 : (ofL l).1.length ≤ 10000000 := by omega
  have q8 : names.reverse.length = names.length := List.length_reverse
  obtain ⟨W, hW⟩ : ∃ W, W = (w1.alloc (.map #[] 0)).alloc (.cells #[.pointer (some ⟨S, 0, none⟩), .int .i64 i, .int .i64 j, .slice a names.length cap, .map (some w1.heap.size), .int .i64 names.length, .map none, .int .i64 0] 75) := ⟨_, rfl⟩
  rw [← hW] at hbs bb q1 q2 q3 q4 q5
  rw [← hW]
  clear hW b2 hbd
  obtain ⟨ts, hts⟩ : ∃ ts, (ofL l).1 = ts := ⟨_, rfl⟩
  rw [hts] at q4 q6 q7
  rw [hts]
  refine ⟨?_, bb⟩
  refine { bS := hB, bR := ?_, bM := ?_, lo := ?_, kk := ?_, str := ⟨v, q3, q4⟩, tok := q6, rdr := ?_, outs := q5, many := ?_, short := hsh }
  · dsimp only; omega
  · dsimp only; omega
  · dsimp only; omega
  · dsimp only; omega
  · refine ⟨0, 0, .map none, .map [], [], ?_, ?_, Or.inl rfl, q2, rfl, ⟨⟨[], rfl⟩, fun x => Or.inl ⟨rfl, rfl⟩⟩⟩
    · unfold RAt
      rw [q8]
      exact q1
    · dsimp only; omega
  · show names.reverse.length + 100 * ts.length + 0 ≤ 100000000000
    omega
theorem liesP_setR {w : World} {B g i : Nat} {l : List Tm} {s v : Value} (h : LiesP w (Own B w) l s) (hB : g < B) : LiesP (w.setCell ⟨g, i, none⟩ v) (Own B (w.setCell ⟨g, i, none⟩ v)) l s := by
  have k := g1 w g i v
  revert k
  generalize w.setCell ⟨g, i, none⟩ v = w'
  intro k
  exact liesP_grown h k hB
def finV (w : World) (n : Nat) (v0 v1 v2 v3 v4 : Value) : World := ((cell5 w n 0 v0 v1 v2 v3 v4).setCell ⟨n + 1, 0, none⟩ (.int .i64 0)).setCell ⟨n + 2, 0, none⟩ (.int .i64 0)
set_option maxHeartbeats 4000000 in
theorem whole_fin {w2 : World} {n B' : Nat} {v0 v1 v2 v3 v4 z0 z1 z2 z3 z4 x y s : Value} {l : List Tm} (hz : w2.heap[n]? = some (.cells #[z0, z1, z2, z3, z4] 26 (0, 0))) (h1 : w2.heap[n + 1]? = some (.cells #[x] 27 (0, 0))) (h2 : w2.heap[n + 2]? = some (.cells #[y] 3 (0, 0))) (hl : LiesP w2 (Own B' w2) l s) (hB : n + 2 < B') :
    (finV (cell5 w2 n 0 v0 v1 v2 v3 v4) n v0 v1 v2 v3 v4).heap[n]? = some (.cells #[v0, v1, v2, v3, v4] 26 (0, 0)) ∧ (finV (cell5 w2 n 0 v0 v1 v2 v3 v4) n v0 v1 v2 v3 v4).heap[n + 1]? = some (.cells #[.int .i64 0] 27 (0, 0)) ∧ (finV (cell5 w2 n 0 v0 v1 v2 v3 v4) n v0 v1 v2 v3 v4).heap[n + 2]? = some (.cells #[.int .i64 0] 3 (0, 0)) ∧ LiesP (finV (cell5 w2 n 0 v0 v1 v2 v3 v4) n v0 v1 v2 v3 v4) (Own B' (finV (cell5 w2 n 0 v0 v1 v2 v3 v4) n v0 v1 v2 v3 v4)) l s ∧ Below n w2 (finV (cell5 w2 n 0 v0 v1 v2 v3 v4) n v0 v1 v2 v3 v4) := by
  have hn := hlt_of h2
  have c1 := cell5_grown w2 n 0 v0 v1 v2 v3 v4
  have c2 := cell5_grown (cell5 w2 n 0 v0 v1 v2 v3 v4) n 0 v0 v1 v2 v3 v4
  have k1 : (cell5 w2 n 0 v0 v1 v2 v3 v4).heap[n]? = some (.cells #[v0, v1, v2, v3, v4] 26 (0, 0)) := five_set hz
  have k2 : (cell5 (cell5 w2 n 0 v0 v1 v2 v3 v4) n 0 v0 v1 v2 v3 v4).heap[n]? = some (.cells #[v0, v1, v2, v3, v4] 26 (0, 0)) := five_set k1
  have l2 := liesP_grown (liesP_grown hl c1 (by omega)) c2 (by omega)
  have cc := c1.trans c2
  have e1 := (cc.block (n + 1) (by omega) (fun e => by have := Option.some.inj e; omega)).trans h1
  have e2 := (cc.block (n + 2) (by omega) (fun e => by have := Option.some.inj e; omega)).trans h2
  have hb := below_grown (B := n) (Nat.le_refl _) cc (by omega)
  have hs := cc.size
  obtain ⟨W, hW⟩ : ∃ W, W = cell5 (cell5 w2 n 0 v0 v1 v2 v3 v4) n 0 v0 v1 v2 v3 v4 := ⟨_, rfl⟩
  rw [← hW] at k2 l2 e1 e2 hb hs
  unfold finV
  rw [← hW]
  have m1 := g1 W (n + 1) 0 (.int .i64 0)
  have m2 := g1 (W.setCell ⟨n + 1, 0, none⟩ (.int .i64 0)) (n + 2) 0 (.int .i64 0)
  have hs6 : (W.setCell ⟨n + 1, 0, none⟩ (.int .i64 0)).heap.size = W.heap.size := by simp
  refine ⟨?_, ?_, ?_, liesP_setR (liesP_setR l2 (by omega)) hB, ?_⟩
  · exact ((m2.block n (by omega) (fun e => by have := Option.some.inj e; omega)).trans (m1.block n (by omega) (fun e => by have := Option.some.inj e; omega))).trans k2
  · exact (m2.block (n + 1) (by omega) (fun e => by have := Option.some.inj e; omega)).trans (heap_setCell_same _ _ _ _ _ _ e1)
  · exact heap_setCell_same _ _ _ _ _ _ ((m1.block (n + 2) (by omega) (fun e => by have := Option.some.inj e; omega)).trans e2)
  · exact (hb.trans (below_grown (by omega) m1 (by omega))).trans (below_grown (by omega) m2 (by omega))
set_option maxRecDepth 20000 in
theorem read_results (tmps : Array Value) (w : World) (n : Nat) (v0 v1 v2 v3 v4 u1 u2 : Value) (h8 : tmps.getD 8 undef = .pointer (some ⟨n, 0, none⟩)) (h9 : tmps.getD 9 undef = .pointer (some ⟨n + 1, 0, none⟩)) (h10 : tmps.getD 10 undef = .pointer (some ⟨n + 2, 0, none⟩)) (k0 : w.heap[n]? = some (.cells #[v0, v1, v2, v3, v4] 26 (0, 0))) (k1 : w.heap[n + 1]? = some (.cells #[u1] 27 (0, 0))) (k2 : w.heap[n + 2]? = some (.cells #[u2] 3 (0, 0))) :
    (results Tryd.f21 tmps).run Tryd.prog w = .ok (.tuple #[.agg #[v0, v1, v2, v3, v4], u1, u2]) w := by
  have h8' : tmps[8]?.getD undef = .pointer (some ⟨n, 0, none⟩) := by simpa using h8
  have h9' : tmps[9]?.getD undef = .pointer (some ⟨n + 1, 0, none⟩) := by simpa using h9
  have h10' : tmps[10]?.getD undef = .pointer (some ⟨n + 2, 0, none⟩) := by simpa using h10
  have y0 : w.cell? ⟨n, 0, none⟩ = some v0 := by rw [Lib.cell_of_heap k0]; rfl
  have y1 : w.cell? ⟨n, 1, none⟩ = some v1 := by rw [Lib.cell_of_heap k0]; rfl
  have y2 : w.cell? ⟨n, 2, none⟩ = some v2 := by rw [Lib.cell_of_heap k0]; rfl
  have y3 : w.cell? ⟨n, 3, none⟩ = some v3 := by rw [Lib.cell_of_heap k0]; rfl
  have y4 : w.cell? ⟨n, 4, none⟩ = some v4 := by rw [Lib.cell_of_heap k0]; rfl
  have x1 : w.cell? ⟨n + 1, 0, none⟩ = some u1 := by rw [Lib.cell_of_heap k1]; rfl
  have x2 : w.cell? ⟨n + 2, 0, none⟩ = some u2 := by rw [Lib.cell_of_heap k2]; rfl
  simp [results, Tryd.results21, h8', h9', h10', asAddr, y0, y1, y2, y3, y4, x1, x2, go_sem]
end Go.Proofs.YtlalolnhpcbjnaaDoor
