/-
  Facts and contracts that the proof of ReadExact uses.
-/
import Derived.Lib.ItoaNum
import Derived.Lib.ItoaLen
import Derived.Test.YtlalolnhpcbjnaaDoorRows
import Derived.WalkKit
import Derived.Lib.Hide
import Derived.ProofKit
import Derived.LoopTactic
import Derived.Below
import Derived.IntWalk
import Derived.Lib.Strings
import Derived.Laws.Strings2
import Derived.Deep.AppendLies
import Derived.Laws.Rows
import Derived.OwnWalk
import Derived.KernelRfl
import Derived.Deep.RegionHeld3
import Derived.Lib.Builder
import Derived.WalkSmall
import Derived.Maps.GroupsBeside
import Derived.Maps.StringElems
import Derived.Laws.OwnMore
import Derived.Deep.RegionLaw
import Derived.Maps.AppendAt
import Derived.Deep.Cut
import Derived.Deep.DeepCutAuto
import Derived.Maps.OwnOps
import Derived.Maps.OwnSet
import Derived.Lib.MinMax
import Derived.Laws.IdiomCopy
import Derived.Deep.Slices
import Derived.Lib.QuietBelow
import Derived.StillTailTactics
import Derived.BigQuiet
import Derived.Deep.RegionWith
import Derived.OrdersHeld
import Derived.Laws.StructEq
import GoSem.Core.Float
import Derived.Laws.Cover2
import Derived.Laws.FloatArith
import Derived.Laws.Externs
import Derived.Deep.QuietTactic
import Derived.Deep.CutBlock
import Derived.Deep.LoopGhost
import Derived.Recover
import Derived.RegionTactic
import Derived.Defers
import Derived.OpenShut
import Derived.Carry
import Derived.SliceStrings
import Derived.Test.YtlalolnhpcbjnaaDoorShelf
import Derived.Lib.AppendIntMem
import Derived.Lib.LaidTab
import Derived.LaidMore
import Derived.LaidSub
import Derived.LaidHandle
import Derived.Stop.Joined
import Derived.JoinedOf
import Derived.Test.YtlalolnhpcbjnaaDoorCards
import Derived.Test.YtlalolnhpcbjnaaDoorTie
import Derived.SevenTiedAt
import Derived.ChangeMaps5
import Derived.Test.YtlalolnhpcbjnaaDoorReadExactQ4
namespace Go.Proofs.YtlalolnhpcbjnaaDoor
open Go.RowKit Go.Maps Go.ChangeShapes

set_option maxHeartbeats 1600000 in
set_option maxRecDepth 20000 in
theorem whole_any (s : ByteArray) (names : Names) (a : Option Addr) (cap : Nat) (i j : Int) (hij : (0 ≤ i ∧ i ≤ 1000) ∧ 0 ≤ j ∧ j ≤ 1000) (w : World) (hs : s.size ≤ 10000000) (hT : TabsR w.heap.size w) (hN : TxLies w.heap.size w names (.slice a names.length cap)) (hm : names.length ≤ 10000000) (hsh : ∀ y ∈ names, y.length ≤ 10000000) :
    Calls Tryd.prog 21 #[.string s, .slice a names.length cap, .int .i64 i, .int .i64 j] w (WholeG w (readT s.data.toList names i j)) := by
  have hmf : ∀ (fn : Fn) (first cap : Array Value) (w : World), (Instr.makeFunc fn first cap).run Tryd.prog w = .ok (.func fn first cap) w := fun _ _ _ _ => rfl
  have hmk := make_inner
  have HN := Lib.hid hN
  have HT := Lib.hid hT
  have HSH := Lib.hid hsh
  have HIJ := Lib.hid hij
  have H3 := Lib.hid (three_new w)
  have hsl : s.data.toList.length = s.size := by simp
  have HSL := Lib.hid hsl
  clear hN hT hsh hij hsl
  go_enter_defers Tryd.func21, Tryd.ntmps21
  go_upto_region 1 with fail
  obtain ⟨w3, hw3⟩ : ∃ w3, w3 = ((w.alloc zT).alloc zE).alloc zA := ⟨_, rfl⟩
  rw [← hw3]
  have HC := Lib.hid H3.out
  rw [← hw3] at HC
  have h3s : w.heap.size + 3 = w3.heap.size := HC.out.1.symm
  clear hw3 H3
  go_wp2_with fail
  refine (of_any s w3 hs).mono ?_
  intro e w1 hg
  obtain ⟨v, rfl, hlt, hSA, hTL, hB1⟩ := hg
  obtain ⟨S, hS⟩ : ∃ S, w1.heap.size - 1 = S := ⟨_, rfl⟩
  rw [hS] at hSA
  rw [hS]
  have hS1 : w1.heap.size = S + 1 := by omega
  have hSB : w.heap.size + 3 ≤ S := by omega
  have hN1 := (HN.out.keep HC.out.2.2.2.2).keep (hB1.mono (by omega))
  have hN3 : TxLies (w.heap.size + 3) w1 names (.slice a names.length cap) := by
    obtain ⟨a', c', e1, e2, e3, e4⟩ := hN1
    exact ⟨a', c', e1, e2, e3, fun q hq => by obtain ⟨g, o, h1, h2, h3⟩ := e4 q hq; exact ⟨g, o, h1, by omega, h3⟩⟩
  have hst := rd_start (l := s.data.toList) (i := i) (j := j) hS1 hSB hSA hTL hN3 (by rw [HSL.out]; exact hs) hm HSH.out
  have HR := Lib.hid hst.1
  have HB := Lib.hid ((HC.out.2.2.2.2.trans (hB1.mono (by omega))).trans (hst.2.mono (by omega)))
  have HB3 := Lib.hid (hB1.trans (hst.2.mono (by omega)))
  have hw1 : w.heap.size + 4 ≤ w1.heap.size := by omega
  have HS := Lib.hid hS1
  have HBD := Lib.hid (ofL_bound s.data.toList)
  clear hSA hTL hB1 hN1 hN3 hst hS hS1 hlt
  go_upto_region 2 with fail
  obtain ⟨W, hW⟩ : ∃ W, W = (w1.alloc (.map #[] 0)).alloc (.cells #[.pointer (some ⟨S, 0, none⟩), .int .i64 i, .int .i64 j, .slice a names.length cap, .map (some w1.heap.size), .int .i64 names.length, .map none, .int .i64 0] 75) := ⟨_, rfl⟩
  rw [← hW]
  rw [← hW] at HR HB HB3
  have hWs : W.heap.size = w1.heap.size + 2 := by rw [hW]; simp
  have HWS := Lib.hid hWs
  have HT1 := Lib.hid (show TabsR (w.heap.size + 3) W from ⟨by have := HT.out.lo; omega, (HT.out.keep HB.out).heads, (HT.out.keep HB.out).syms⟩)
  have HTM := Lib.hid (rterm_any (RC.mk (w.heap.size + 3) S (w1.heap.size + 1) w1.heap.size (ofL s.data.toList).2.1 (ofL s.data.toList).2.2 i j names (.slice a names.length cap) (100 * (ofL s.data.toList).1.length)) HIJ.out ((ofL s.data.toList).1.length + 1) 0 names.reverse (ofL s.data.toList).1 0 W (by omega) HR.out HT1.out)
  have z0 := (HB3.out.block w.heap.size (by omega)).trans HC.out.2.1
  have z1 := (HB3.out.block (w.heap.size + 1) (by omega)).trans HC.out.2.2.1
  have z2 := (HB3.out.block (w.heap.size + 2) (by omega)).trans HC.out.2.2.2.1
  have HZ := Lib.hid (And.intro z0 (And.intro z1 z2))
  clear hW z0 z1 z2 hWs
  go_wp2_with fail
  refine HTM.out.mono ?_
  intro e w2 hg
  cases hx : termP (ofL s.data.toList).2.1 i j ((ofL s.data.toList).1.length + 1) 0 names.reverse (ofL s.data.toList).1 with
  | error at_ =>
    rw [show termP (RC.E (RC.mk (w.heap.size + 3) S (w1.heap.size + 1) w1.heap.size (ofL s.data.toList).2.1 (ofL s.data.toList).2.2 i j names (.slice a names.length cap) (100 * (ofL s.data.toList).1.length))) (RC.i (RC.mk (w.heap.size + 3) S (w1.heap.size + 1) w1.heap.size (ofL s.data.toList).2.1 (ofL s.data.toList).2.2 i j names (.slice a names.length cap) (100 * (ofL s.data.toList).1.length))) (RC.j (RC.mk (w.heap.size + 3) S (w1.heap.size + 1) w1.heap.size (ofL s.data.toList).2.1 (ofL s.data.toList).2.2 i j names (.slice a names.length cap) (100 * (ofL s.data.toList).1.length))) ((ofL s.data.toList).1.length + 1) 0 names.reverse (ofL s.data.toList).1 = .error at_ from hx] at hg
    obtain ⟨rfl, hf⟩ := hg
    have HX := Lib.hid (show readT s.data.toList names i j = .error at_ by unfold readT; rw [hx])
    have hfb : Below (w.heap.size + 3) W w2 := hf.below
    have HZ2 := Lib.hid (And.intro ((hfb.block _ (by omega)).trans HZ.out.1) (And.intro ((hfb.block _ (by omega)).trans HZ.out.2.1) ((hfb.block _ (by omega)).trans HZ.out.2.2)))
    have HB2 := Lib.hid (HB.out.trans (hfb.mono (by omega)))
    clear hx hf hfb
    unfold faultP
    go_wp2
    refine leaves_cons (f := 37) (args := #[.pointer (some ⟨w.heap.size, 0, none⟩), .pointer (some ⟨w.heap.size + 1, 0, none⟩), .pointer (some ⟨w.heap.size + 2, 0, none⟩)]) (by simp) (by simp [go_sem]) ?_
    refine (catch_panicking w.heap.size at_ w2 HZ2.out.1 HZ2.out.2.1 HZ2.out.2.2).mono ?_
    rintro e u' w'' ⟨rfl, rfl, hC⟩
    show ∃ v, (results _ _).run _ _ = .ok v _ ∧ _
    refine ⟨_, read_results _ w'' w.heap.size _ _ _ _ _ _ _ rfl rfl rfl hC.1 hC.2.1 hC.2.2.1, ?_⟩
    rw [HX.out]
    exact ⟨HB2.out.trans hC.2.2.2, rfl⟩
  | ok m =>
    obtain ⟨t, r⟩ := m
    rw [show termP (RC.E (RC.mk (w.heap.size + 3) S (w1.heap.size + 1) w1.heap.size (ofL s.data.toList).2.1 (ofL s.data.toList).2.2 i j names (.slice a names.length cap) (100 * (ofL s.data.toList).1.length))) (RC.i (RC.mk (w.heap.size + 3) S (w1.heap.size + 1) w1.heap.size (ofL s.data.toList).2.1 (ofL s.data.toList).2.2 i j names (.slice a names.length cap) (100 * (ofL s.data.toList).1.length))) (RC.j (RC.mk (w.heap.size + 3) S (w1.heap.size + 1) w1.heap.size (ofL s.data.toList).2.1 (ofL s.data.toList).2.2 i j names (.slice a names.length cap) (100 * (ofL s.data.toList).1.length))) ((ofL s.data.toList).1.length + 1) 0 names.reverse (ofL s.data.toList).1 = .ok (t, r) from hx] at hg
    obtain ⟨sv, rfl, hl, hfi, hs2, hf⟩ := hg
    obtain ⟨au, cu, rfl, -, -⟩ := hl.out
    have hfb : Below (w.heap.size + 3) W w2 := hf.below
    have HZ2 := Lib.hid (And.intro ((hfb.block _ (by omega)).trans HZ.out.1) (And.intro ((hfb.block _ (by omega)).trans HZ.out.2.1) ((hfb.block _ (by omega)).trans HZ.out.2.2)))
    have HB2 := Lib.hid (HB.out.trans (hfb.mono (by omega)))
    have rr : w2.cell? ⟨w1.heap.size + 1, 0, none⟩ = some (.pointer (some ⟨S, 0, none⟩)) := hs2.cells.1
    have rlt : w1.heap.size + 1 < w2.heap.size := hs2.cells.2.2.2.2
    obtain ⟨tv2, hSA2, hTL2⟩ := hs2.str
    have c5 := cell5_grown w2 w.heap.size 0 (.int .i64 t.k) (.int .i64 t.i) (.int .i64 t.j) (.int .i64 t.n) (.slice au t.kids.length cu)
    have k0 : (cell5 w2 w.heap.size 0 (.int .i64 t.k) (.int .i64 t.i) (.int .i64 t.j) (.int .i64 t.n) (.slice au t.kids.length cu)).heap[w.heap.size]? = some (.cells #[.int .i64 t.k, .int .i64 t.i, .int .i64 t.j, .int .i64 t.n, .slice au t.kids.length cu] 26 (0, 0)) := five_set HZ2.out.1
    have k1 := (c5.block (w.heap.size + 1) (by omega) (fun e => by have := Option.some.inj e; omega)).trans HZ2.out.2.1
    have k2 := (c5.block (w.heap.size + 2) (by omega) (fun e => by have := Option.some.inj e; omega)).trans HZ2.out.2.2
    have hSA3 : SAt (cell5 w2 w.heap.size 0 (.int .i64 t.k) (.int .i64 t.i) (.int .i64 t.j) (.int .i64 t.n) (.slice au t.kids.length cu)) S tv2 (ofL s.data.toList).2.1 (ofL s.data.toList).2.2 := (c5.block S (hlt_of hSA2) (fun e => by have := Option.some.inj e; omega)).trans hSA2
    have hTL3 : TLies (cell5 w2 w.heap.size 0 (.int .i64 t.k) (.int .i64 t.i) (.int .i64 t.j) (.int .i64 t.n) (.slice au t.kids.length cu)) r tv2 := hTL2.keep fun g cs fz e => by
      rw [c5.block g (hlt_of e) (fun e2 => by
        have e3 := Option.some.inj e2
        rw [e3] at e
        exact (by decide : (63 : TypeId) ≠ 26) (type_one e HZ2.out.1))]
      exact e
    have HEND := Lib.hid (end_any S tv2 (ofL s.data.toList).2.1 (ofL s.data.toList).2.2 r _ hSA3 hTL3)
    have HKK := Lib.hid (And.intro k0 (And.intro k1 k2))
    have HB5 := Lib.hid (HB2.out.trans (below_grown (Nat.le_refl _) c5 (by omega)))
    have HFIN := Lib.hid (whole_fin (B' := W.heap.size) (v0 := .int .i64 t.k) (v1 := .int .i64 t.i) (v2 := .int .i64 t.j) (v3 := .int .i64 t.n) (v4 := .slice au t.kids.length cu) HZ2.out.1 HZ2.out.2.1 HZ2.out.2.2 hl (by have := HWS.out; omega))
    have HFI := Lib.hid hfi
    have HX1 := Lib.hid hx
    obtain ⟨⟨q0, q1, q2, q3, q4⟩, ⟨g0, g1x, g2, g3, g4⟩, hGl⟩ := cells5_of HZ2.out.1
    have p1 : w2.cell? ⟨w.heap.size + 1, 0, none⟩ = some (.int .i64 0) := by rw [Lib.cell_of_heap HZ2.out.2.1]; rfl
    have p2 : w2.cell? ⟨w.heap.size + 2, 0, none⟩ = some (.int .i64 0) := by rw [Lib.cell_of_heap HZ2.out.2.2]; rfl
    have p3 : w2.frozen? ⟨w.heap.size + 1, 0, none⟩ = false := Lib.frozen_of_heap HZ2.out.2.1 0
    have p4 : w2.frozen? ⟨w.heap.size + 2, 0, none⟩ = false := Lib.frozen_of_heap HZ2.out.2.2 0
    have hne : ¬ w1.heap.size + 1 = w.heap.size := by omega
    clear hl hfi hs2 hf hfb hSA2 hTL2 c5 k0 k1 k2 hSA3 hTL3 hx
    unfold tv
    go_wp2_with fail
    refine HEND.out.mono ?_
    intro e w4 hg
    obtain ⟨hww, hg⟩ := hg
    rw [hww] at HKK HB5 HFIN
    clear hww HEND q0 q1 q2 q3 q4 g0 g1x g2 g3 g4 hGl p1 p2 p3 p4 rr
    obtain ⟨⟨q0, q1, q2, q3, q4⟩, ⟨g0, g1x, g2, g3, g4⟩, hGl⟩ := cells5_of HKK.out.1
    have p1 : w4.cell? ⟨w.heap.size + 1, 0, none⟩ = some (.int .i64 0) := by rw [Lib.cell_of_heap HKK.out.2.1]; rfl
    have p2 : w4.cell? ⟨w.heap.size + 2, 0, none⟩ = some (.int .i64 0) := by rw [Lib.cell_of_heap HKK.out.2.2]; rfl
    have p3 : w4.frozen? ⟨w.heap.size + 1, 0, none⟩ = false := Lib.frozen_of_heap HKK.out.2.1 0
    have p4 : w4.frozen? ⟨w.heap.size + 2, 0, none⟩ = false := Lib.frozen_of_heap HKK.out.2.2 0
    cases hy : endP (ofL s.data.toList).2.1 (ofL s.data.toList).2.2 r with
    | error at_ =>
      rw [hy] at hg
      obtain rfl := hg
      have HX := Lib.hid (show readT s.data.toList names i j = .error at_ by unfold readT; rw [HX1.out]; simp only; rw [hy])
      clear hy
      unfold faultP
      go_wp2
      refine leaves_cons (f := 37) (args := #[.pointer (some ⟨w.heap.size, 0, none⟩), .pointer (some ⟨w.heap.size + 1, 0, none⟩), .pointer (some ⟨w.heap.size + 2, 0, none⟩)]) (by simp) (by simp [go_sem]) ?_
      refine (catch_panicking w.heap.size at_ w4 HKK.out.1 HKK.out.2.1 HKK.out.2.2).mono ?_
      rintro e u' w'' ⟨rfl, rfl, hC⟩
      show ∃ v, (results _ _).run _ _ = .ok v _ ∧ _
      refine ⟨_, read_results _ w'' w.heap.size _ _ _ _ _ _ _ rfl rfl rfl hC.1 hC.2.1 hC.2.2.1, ?_⟩
      rw [HX.out]
      exact ⟨HB5.out.trans hC.2.2.2, rfl⟩
    | ok u =>
      rw [hy] at hg
      obtain rfl := hg
      have HX := Lib.hid (show readT s.data.toList names i j = .ok t by unfold readT; rw [HX1.out]; simp only; rw [hy])
      clear hy
      go_wp2
      refine leaves_cons (f := 37) (args := #[.pointer (some ⟨w.heap.size, 0, none⟩), .pointer (some ⟨w.heap.size + 1, 0, none⟩), .pointer (some ⟨w.heap.size + 2, 0, none⟩)]) (by simp) (by simp [go_sem]) ?_
      refine (catch_idle w.heap.size _).mono ?_
      rintro e u' w'' ⟨rfl, rfl, rfl⟩
      show ∃ v, (results _ _).run _ _ = .ok v _ ∧ _
      refine ⟨_, read_results _ (finV w4 w.heap.size (.int .i64 t.k) (.int .i64 t.i) (.int .i64 t.j) (.int .i64 t.n) (.slice au t.kids.length cu)) w.heap.size _ _ _ _ _ _ _ rfl rfl rfl HFIN.out.1 HFIN.out.2.1 HFIN.out.2.2.1, ?_⟩
      rw [HX.out]
      exact ⟨HB2.out.trans HFIN.out.2.2.2.2, _, rfl, HFIN.out.2.2.2.1.from (by have := HWS.out; omega), HFI.out⟩
end Go.Proofs.YtlalolnhpcbjnaaDoor

namespace Go.Proofs.YtlalolnhpcbjnaaDoor
open Go.RowKit Go.Maps Go.ChangeShapes

theorem results_ct2 {P : Program} {fn : Func} {p q r : Tmp} {ty : TypeId} (h : fn.results = #[.cell p ty, .tmp q, .tmp r]) (tmps : Array Value) (w : World) (g : Nat) (t : TypeId) (cs : Array Value) (fr : Nat × Nat) (d : TypeDesc)
    (hp : tmps.getD p undef = .pointer (some ⟨g, 0, none⟩)) (hg : w.heap[g]? = some (.cells cs t fr))
    (hu : P.underlying ty = some d) (hd : (match d with | .struct _ | .array _ _ => true | _ => false) = true) (hi : (P.info? ty).map (·.size) = some cs.size) :
    (results fn tmps).run P w = .ok (.tuple #[.agg cs, tmps.getD q undef, tmps.getD r undef]) w := by
  have hp' : tmps[p]?.getD undef = .pointer (some ⟨g, 0, none⟩) := by simpa using hp
  simp [results, h, hp', asAddr, run_loadVar_row w g t ty cs fr d hg hu hd hi]
def readB (l : List UInt8) (names : Names) (i j : Int) : Except (Nat × Nat) Tm :=
  if i < 0 ∨ 1000 < i ∨ j < 0 ∨ 1000 < j then .error (1, 0) else
    match readT l names i j with
    | .error a => .error (2, a)
    | .ok t => .ok t
def ReadG (w : World) (x : Except (Nat × Nat) Tm) (e : Ending) (w' : World) : Prop := Below w.heap.size w w' ∧ match x with
  | .error (k, a) => e = .returned (.tuple #[.agg #[.int .i64 0, .int .i64 0, .int .i64 0, .int .i64 0, .slice none 0 0], .int .i64 k, .int .i64 a])
  | .ok t => ∃ s, e = .returned (.tuple #[tv t s, .int .i64 0, .int .i64 0]) ∧ LiesP w' (Own w.heap.size w') t.kids s ∧ t.fine
theorem TabsR.up {B B' : Nat} {w : World} (h : TabsR B w) (hB : B ≤ B') : TabsR B' w := ⟨by have := h.lo; omega, h.heads, h.syms⟩
theorem TxLies.up {B B' : Nat} {w : World} {l : Names} {v : Value} (h : TxLies B w l v) (hB : B ≤ B') : TxLies B' w l v := by
  obtain ⟨a, c, e1, e2, e3, e4⟩ := h
  exact ⟨a, c, e1, e2, e3, fun q hq => by obtain ⟨g, o, h1, h2, h3⟩ := e4 q hq; exact ⟨g, o, h1, by omega, h3⟩⟩
set_option maxHeartbeats 400000 in
set_option maxRecDepth 20000 in
theorem read_any (s : ByteArray) (names : Names) (nv : Value) (i j : Int) (w : World) (hs : s.size ≤ 10000000) (hT : TabsR w.heap.size w) (hN : TxLies w.heap.size w names nv) (hm : names.length ≤ 10000000) (hsh : ∀ y ∈ names, y.length ≤ 10000000) :
    Calls Tryd.prog 8 #[.string s, nv, .int .i64 i, .int .i64 j] w (ReadG w (readB s.data.toList names i j)) := by
  obtain ⟨du, hu1, hu2⟩ := under_term
  obtain ⟨a, cap, rfl, hN2⟩ := hN
  have hN : TxLies w.heap.size w names (.slice a names.length cap) := ⟨a, cap, rfl, hN2⟩
  have hba := al w zT
  have hsz : (w.alloc zT).heap.size = w.heap.size + 1 := by simp
  have HG := Lib.hid (show (w.alloc zT).heap[w.heap.size]? = some zT from alloc_new _ _)
  have HW := Lib.hid (fun (h : (0 ≤ i ∧ i ≤ 1000) ∧ 0 ≤ j ∧ j ≤ 1000) => whole_any s names a cap i j h (w.alloc zT) hs ((hT.keep hba).up (by omega)) ((hN.keep hba).up (by omega)) hm hsh)
  have HBA := Lib.hid hba
  have HSZ := Lib.hid hsz
  clear hN hN2 hT hba hsh hsz
  by_cases c1 : i < 0
  · skip
    have HX := Lib.hid (show readB s.data.toList names i j = .error (1, 0) from if_pos (by omega))
    go_enter Tryd.func8, Tryd.ntmps8
    go_wp2
    refine bodyPost_ret (results_ct2 rfl _ _ w.heap.size _ _ _ du rfl HG.out hu1 (by cases du <;> first | rfl | exact hu2) size_term) rfl ?_
    rw [HX.out]
    exact ⟨HBA.out, rfl⟩
  by_cases c2 : 1000 < i
  · skip
    have HX := Lib.hid (show readB s.data.toList names i j = .error (1, 0) from if_pos (by omega))
    go_enter Tryd.func8, Tryd.ntmps8
    go_wp2
    refine bodyPost_ret (results_ct2 rfl _ _ w.heap.size _ _ _ du rfl HG.out hu1 (by cases du <;> first | rfl | exact hu2) size_term) rfl ?_
    rw [HX.out]
    exact ⟨HBA.out, rfl⟩
  by_cases c3 : j < 0
  · skip
    have HX := Lib.hid (show readB s.data.toList names i j = .error (1, 0) from if_pos (by omega))
    go_enter Tryd.func8, Tryd.ntmps8
    go_wp2
    refine bodyPost_ret (results_ct2 rfl _ _ w.heap.size _ _ _ du rfl HG.out hu1 (by cases du <;> first | rfl | exact hu2) size_term) rfl ?_
    rw [HX.out]
    exact ⟨HBA.out, rfl⟩
  by_cases c4 : 1000 < j
  · skip
    have HX := Lib.hid (show readB s.data.toList names i j = .error (1, 0) from if_pos (by omega))
    go_enter Tryd.func8, Tryd.ntmps8
    go_wp2
    refine bodyPost_ret (results_ct2 rfl _ _ w.heap.size _ _ _ du rfl HG.out hu1 (by cases du <;> first | rfl | exact hu2) size_term) rfl ?_
    rw [HX.out]
    exact ⟨HBA.out, rfl⟩
  have HC := Lib.hid (HW.out (by omega))
  have HX := Lib.hid (show readB s.data.toList names i j = (match readT s.data.toList names i j with
    | .error a => .error (2, a)
    | .ok t => .ok t) from if_neg (by omega))
  clear HW
  go_enter Tryd.func8, Tryd.ntmps8
  go_wp2_with fail
  refine HC.out.mono ?_
  intro e w2 hg
  obtain ⟨hB, hg⟩ := hg
  have hz2 := (hB.block w.heap.size (by have := HSZ.out; omega)).trans HG.out
  obtain ⟨⟨q0, q1, q2, q3, q4⟩, ⟨g0, g1x, g2, g3, g4⟩, hGl⟩ := cells5_of hz2
  have HZ := Lib.hid hz2
  have HB := Lib.hid (HBA.out.trans (hB.mono (by have := HSZ.out; omega)))
  clear hz2 hB HBA
  cases hx : readT s.data.toList names i j with
  | error at_ =>
    rw [hx] at hg HX
    obtain rfl := hg
    clear hx
    go_wp2
    refine bodyPost_ret (results_ct2 rfl _ _ w.heap.size _ _ _ du rfl (five_set HZ.out) hu1 (by cases du <;> first | rfl | exact hu2) size_term) rfl ?_
    rw [HX.out]
    exact ⟨HB.out.trans (below_grown (Nat.le_refl _) (cell5_grown w2 w.heap.size 0 (.int .i64 0) (.int .i64 0) (.int .i64 0) (.int .i64 0) (.slice none 0 0)) (by omega)), rfl⟩
  | ok t =>
    rw [hx] at hg HX
    obtain ⟨sv, rfl, hl, hfi⟩ := hg
    obtain ⟨au, cu, rfl, -, -⟩ := hl.out
    have c5 := cell5_grown w2 w.heap.size 0 (.int .i64 t.k) (.int .i64 t.i) (.int .i64 t.j) (.int .i64 t.n) (.slice au t.kids.length cu)
    have HLL := Lib.hid ((liesP_grown hl c5 (by have := HSZ.out; omega)).from (B' := w.heap.size) (by have := HSZ.out; omega))
    have HBB := Lib.hid (HB.out.trans (below_grown (Nat.le_refl _) c5 (by omega)))
    have HFI := Lib.hid hfi
    clear hx hl c5 hfi
    unfold tv
    go_wp2
    refine bodyPost_ret (results_ct2 rfl _ _ w.heap.size _ _ _ du rfl (five_set HZ.out) hu1 (by cases du <;> first | rfl | exact hu2) size_term) rfl ?_
    rw [HX.out]
    exact ⟨HBB.out, _, rfl, HLL.out, HFI.out⟩
/-- Name. -/
def nameB (n : Int) : List UInt8 := if 1 ≤ n ∧ n ≤ 21 then (symsW[(n - 1).toNat]?).getD [] else []
set_option maxHeartbeats 2000000 in
set_option maxRecDepth 20000 in
theorem nameR_any (B : Nat) (n : Int) (w : World) (hT : TabsR B w) : Calls Tryd.prog 17 #[.int .i64 n] w fun e w' => e = .returned (.string ⟨(nameB n).toArray⟩) ∧ w = w' := by
  have HT := Lib.hid hT
  clear hT
  by_cases c1 : n < 1
  · have HX := Lib.hid (show nameB n = [] from if_neg (by omega))
    go_enter Tryd.func17, Tryd.ntmps17
    go_wp2
    go_ret
    rw [HX.out]
    exact ⟨rfl, rfl⟩
  by_cases c2 : 21 < n
  · have HX := Lib.hid (show nameB n = [] from if_neg (by omega))
    go_enter Tryd.func17, Tryd.ntmps17
    go_wp2
    go_ret
    rw [HX.out]
    exact ⟨rfl, rfl⟩
  obtain ⟨k, rfl⟩ : ∃ k : Nat, n = (k : Int) + 1 := ⟨(n - 1).toNat, by omega⟩
  have hk : k < 21 := by omega
  have HX := Lib.hid (show nameB ((k : Int) + 1) = (symsW[k]?).getD [] by unfold nameB; rw [if_pos (by omega), show ((k : Int) + 1 - 1).toNat = k by omega])
  have hw : IntKind.i64.wrap ((k : Int) + 1 - 1) = (k : Int) := by rw [IntWalk.i64_in _ (by omega)]; omega
  have hc := HT.out.syms k hk
  generalize (symsW[k]?).getD [] = y at HX hc
  go_enter Tryd.func17, Tryd.ntmps17
  go_wp2
  go_ret
  rw [HX.out]
  exact ⟨rfl, rfl⟩
end Go.Proofs.YtlalolnhpcbjnaaDoor

namespace Go.Proofs.YtlalolnhpcbjnaaDoor
open Go.RowKit Go.Maps Go.ChangeShapes

set_option maxRecDepth 20000 in
theorem psy_any (w : World) : Calls Tryd.prog 77 #[] w fun e w' => ∃ g, e = .returned (.slice (some ⟨g, 0, none⟩) 21 21) ∧ (∀ k < 21, w'.cell? ⟨g, k, none⟩ = some (.string ⟨((symsW[k]?).getD []).toArray⟩)) ∧ Below w.heap.size w w' := by
  go_enter Tryd.func77, Tryd.ntmps77
  go_wp2
  go_ret
  refine ⟨w.heap.size, rfl, fun k hk => ?_, (Below.refl _ _).alloc (Nat.le_refl _) _⟩
  rw [Lib.cell_of_heap (alloc_new w _)]
  have : ∀ q : Fin 21, (#[.string ⟨#[117, 105, 112]⟩, .string ⟨#[102, 117, 110, 101, 120, 116]⟩, .string ⟨#[115, 121, 109]⟩, .string ⟨#[116, 114, 97, 110, 115]⟩, .string ⟨#[116, 114]⟩, .string ⟨#[104, 101, 116]⟩, .string ⟨#[116, 121, 112]⟩, .string ⟨#[116, 114, 104]⟩, .string ⟨#[104, 112]⟩, .string ⟨#[104, 50, 101]⟩, .string ⟨#[101, 50, 104]⟩, .string ⟨#[114, 112]⟩, .string ⟨#[99, 112, 105]⟩, .string ⟨#[99, 115, 105, 103]⟩, .string ⟨#[99, 108, 97, 109]⟩, .string ⟨#[99, 97, 112, 112]⟩, .string ⟨#[99, 112, 97, 105, 114]⟩, .string ⟨#[99, 102, 115, 116]⟩, .string ⟨#[99, 115, 110, 100]⟩, .string ⟨#[99, 101, 113]⟩, .string ⟨#[99, 114, 101, 102, 108]⟩] : Array Value)[q.1]? = some (.string ⟨((symsW[q.1]?).getD []).toArray⟩) := by
    intro q
    match q with
    | ⟨0, _⟩ => rfl
    | ⟨1, _⟩ => rfl
    | ⟨2, _⟩ => rfl
    | ⟨3, _⟩ => rfl
    | ⟨4, _⟩ => rfl
    | ⟨5, _⟩ => rfl
    | ⟨6, _⟩ => rfl
    | ⟨7, _⟩ => rfl
    | ⟨8, _⟩ => rfl
    | ⟨9, _⟩ => rfl
    | ⟨10, _⟩ => rfl
    | ⟨11, _⟩ => rfl
    | ⟨12, _⟩ => rfl
    | ⟨13, _⟩ => rfl
    | ⟨14, _⟩ => rfl
    | ⟨15, _⟩ => rfl
    | ⟨16, _⟩ => rfl
    | ⟨17, _⟩ => rfl
    | ⟨18, _⟩ => rfl
    | ⟨19, _⟩ => rfl
    | ⟨20, _⟩ => rfl
    | ⟨k + 21, h⟩ => exact absurd h (by omega)
  exact this ⟨k, hk⟩
set_option maxHeartbeats 2000000 in
set_option maxRecDepth 20000 in
theorem psym_any (x : List UInt8) (w : World) : Calls Tryd.prog 60 #[.string ⟨x.toArray⟩] w fun e w' => e = .returned (.int .i64 (symN x)) ∧ Below w.heap.size w w' := by
  obtain ⟨L, hL⟩ : ∃ L, symsW = L := ⟨_, rfl⟩
  have hL21 : L.length = 21 := by rw [← hL]; rfl
  have HP := Lib.hid (psy_any w)
  rw [hL] at HP
  have HI := Lib.hid (show ∀ o, idxL x L = o → symN x = (match o with | some i => (i : Int) + 1 | none => 0) from fun o ho => by unfold symN; rw [hL, ho]; cases o <;> rfl)
  clear hL
  go_enter Tryd.func60, Tryd.ntmps60
  go_wp2_with fail
  refine HP.out.mono ?_
  rintro e w1 ⟨g, rfl, hrow, hb1⟩
  have HB := Lib.hid hb1
  have HT := Lib.hid hrow
  clear hb1 hrow HP
  go_wp2_with fail
  go_loop [4] (fun i => ∃ k : Nat, k ≤ 21 ∧ i = .int .i64 k ∧ Hid (idxL x L = (idxL x (L.drop k)).map (· + k))) (fun i => 21 - (intOf i).toNat)
  case atStart => exact ⟨0, Nat.zero_le _, rfl, Lib.hid (by rw [List.drop_zero]; cases idxL x L <;> rfl)⟩
  case round =>
    obtain ⟨k, hk, rfl, hno⟩ := hrel
    by_cases hlt : k < 21
    · have hc := HT.out k hlt
      have hkl : k < L.length := by omega
      have hdr : L.drop k = L[k] :: L.drop (k + 1) := List.drop_eq_getElem_cons hkl
      have hcc : w1.cell? ⟨g, k, none⟩ = some (.string ⟨(L[k]).toArray⟩) := by rw [hc]; simp only [List.getElem?_eq_getElem hkl, Option.getD_some]
      obtain ⟨y, hy⟩ : ∃ y, L[k] = y := ⟨_, rfl⟩
      rw [hy] at hcc hdr
      have HD := Lib.hid hdr
      clear hc hdr hy
      cases hyx : (y == x)
      · go_wp2
        go_round
        case rel =>
          refine ⟨k + 1, by omega, by go_num, Lib.hid ?_⟩
          rw [hno.out, HD.out]
          simp only [idxL]
          rw [if_neg (by simpa using hyx)]
          cases idxL x (L.drop (k + 1)) <;> simp; omega
        case measure => simp [intOf]; omega
      · go_wp2
        go_ret
        refine ⟨?_, HB.out⟩
        have h1 : idxL x L = some k := by
          rw [hno.out, HD.out]
          simp only [idxL]
          rw [if_pos (by simpa using hyx)]
          simp
        rw [HI.out _ h1]
        (try rfl)
    · obtain rfl : k = 21 := by omega
      go_wp2
      go_ret
      refine ⟨?_, HB.out⟩
      have h1 : idxL x L = none := by rw [hno.out, List.drop_eq_nil_of_le (by omega)]; rfl
      rw [HI.out _ h1]
      (try rfl)
end Go.Proofs.YtlalolnhpcbjnaaDoor

namespace Go.Proofs.YtlalolnhpcbjnaaDoor
open Go.RowKit

/-- Five cells of one block are written. -/
abbrev five (w : World) (g : Nat) (v0 v1 v2 v3 v4 : Value) : World := ((((w.setCell ⟨g, 0, none⟩ v0).setCell ⟨g, 1, none⟩ v1).setCell ⟨g, 2, none⟩ v2).setCell ⟨g, 3, none⟩ v3).setCell ⟨g, 4, none⟩ v4
theorem five_other (w : World) (g : Nat) (v0 v1 v2 v3 v4 : Value) {b : Nat} (h : b ≠ g) : (five w g v0 v1 v2 v3 v4).heap[b]? = w.heap[b]? := by
  unfold five; repeat rw [Below.heap_setCell _ _ _ _ (by exact h)]
theorem below_five {B : Nat} {w w1 : World} (h : Below B w w1) {g : Nat} (hg : B ≤ g) (v0 v1 v2 v3 v4 : Value) : Below B w (five w1 g v0 v1 v2 v3 v4) :=
  ((((h.setCell hg _).setCell hg _).setCell hg _).setCell hg _).setCell hg _
theorem liesP_fives {B N g : Nat} {w : World} {l : List Tm} {s : Value} (h : LiesP w (Own B w) l s) (hg : g < B) (hN : N ≤ B) (v0 v1 v2 v3 v4 : Value) : LiesP (five w g v0 v1 v2 v3 v4) (Own N (five w g v0 v1 v2 v3 v4)) l s :=
  h.keep (fun b hp _ => five_other w g v0 v1 v2 v3 v4 (by have := hp.1; omega)) (fun b hp _ => (hp.from hN).same (five_other w g v0 v1 v2 v3 v4 (by have := hp.1; omega)))
theorem one5 (t : Tm) (s : Value) (hs : s.oneCell' = true := by rfl) : ∀ v ∈ cells5 [(t, s)], v.oneCell' = true := by
  intro v hv; simp [cells5] at hv; rcases hv with rfl | rfl | rfl | rfl | rfl
  · rfl
  · rfl
  · rfl
  · rfl
  · exact hs
/-- What a call hands back that makes a term, or the zero term and false. -/
def GivesZ (r : Option Tm) (w : World) (e : Ending) (w' : World) : Prop := Below w.heap.size w w' ∧
  ((∃ u s', r = some u ∧ e = .returned (.tuple #[tv u s', .bool true]) ∧ LiesP w' (Own w.heap.size w') u.kids s') ∨ (r = none ∧ e = .returned (.tuple #[tv Tm.zero (.slice none 0 0), .bool false])))
theorem GivesZ.none {w w' : World} {e : Ending} (h : GivesZ none w e w') : e = .returned (.tuple #[tv Tm.zero (.slice none 0 0), .bool false]) ∧ Below w.heap.size w w' := by
  obtain ⟨hb, ⟨u, s', h1, -⟩ | ⟨-, h2⟩⟩ := h
  · cases h1
  · exact ⟨h2, hb⟩
theorem GivesZ.some {u : Tm} {w w' : World} {e : Ending} (h : GivesZ (some u) w e w') : GivesSome u w e w' := by
  obtain ⟨hb, ⟨u', s', h1, h2, h3⟩ | ⟨h1, -⟩⟩ := h
  · cases h1; exact ⟨⟨s', h2, h3⟩, hb⟩
  · cases h1
end Go.Proofs.YtlalolnhpcbjnaaDoor

namespace Go.Proofs.YtlalolnhpcbjnaaDoor.Rt
open Go.RowKit
open Dv (XS kindAt wordAt placeAt wantX rrO rrX badV PTok hltD typeD)

structure KeepT (L : List Tok) (tx : TX) : Prop where
  keep : ∀ so N s, IX L s → IX L (tx so N s).2
  up : ∀ so N s, s.p ≤ (tx so N s).2.p
theorem kidsX_keep {tx : TX} {L : List Tok} (h : KeepT L tx) {k own : Int} : ∀ {c p : Nat} {x N : Names} {s : XS}, (IX L s → IX L (kidsX tx L k own x p c N s).2) ∧ s.p ≤ (kidsX tx L k own x p c N s).2.p
  | 0, p, x, N, s => ⟨fun h => h, Nat.le_refl _⟩
  | c + 1, p, x, N, s => by
    unfold kidsX
    dsimp only
    obtain ⟨h1, h2⟩ := kidsX_keep h (k := k) (own := own) (c := c) (p := p + 1) (x := if k = 22 ∧ p = 2 then [(wantX L 3 (wantX L 3 s).2).1, (wantX L 3 s).1] else x) (N := N) (s := (tx (if k = 12 ∧ p = 2 then 2 else own) (if bindsN k p = 0 then N else (if k = 22 ∧ p = 2 then [(wantX L 3 (wantX L 3 s).2).1, (wantX L 3 s).1] else x) ++ N) (if k = 22 ∧ p = 2 then (wantX L 3 (wantX L 3 s).2).2 else s)).2)
    have h3 : (IX L s → IX L (if k = 22 ∧ p = 2 then (wantX L 3 (wantX L 3 s).2).2 else s)) ∧ s.p ≤ (if k = 22 ∧ p = 2 then (wantX L 3 (wantX L 3 s).2).2 else s).p := by
      split
      · exact ⟨fun h => (h.want (by decide)).want (by decide), Nat.le_trans (want_up _ _ _) (want_up _ _ _)⟩
      · exact ⟨fun h => h, Nat.le_refl _⟩
    exact ⟨fun hi => h1 (h.keep _ _ _ (h3.1 hi)), Nat.le_trans h3.2 (Nat.le_trans (h.up _ _ _) h2)⟩
theorem lv_keep {L : List Tok} {lx : XS → Int × XS} (h : KeepL L lx) (c : Prop) [Decidable c] {s : XS} : (IX L s → IX L (if c then lx s else (0, s)).2) ∧ s.p ≤ (if c then lx s else (0, s)).2.p := by
  split
  · exact ⟨h.keep s, h.up s⟩
  · exact ⟨fun h => h, Nat.le_refl _⟩
/-- Behind the levels. -/
def tailX (tx : TX) (L : List Tok) (k i j n : Int) (N : Names) (s : XS) : Tm × XS :=
  let x := if bindsN k 1 = 1 then wantX L 3 s else ([], s)
  let kd := kidsX tx L k (ownS k) (if bindsN k 1 = 1 then [x.1] else []) 0 (kidsN k n).toNat N x.2
  (.mk k i j n kd.1, (wantX L 2 kd.2).2)
theorem restX_tail (lx : XS → Int × XS) (tx : TX) (L : List Tok) (k n : Int) (N : Names) (s : XS) : restX lx tx L k n N s = tailX tx L k (if 0 < levelsN k then lx s else (0, s)).1 (if 1 < levelsN k then lx (if 0 < levelsN k then lx s else (0, s)).2 else (0, (if 0 < levelsN k then lx s else (0, s)).2)).1 n N (if 1 < levelsN k then lx (if 0 < levelsN k then lx s else (0, s)).2 else (0, (if 0 < levelsN k then lx s else (0, s)).2)).2 := rfl
theorem tailX_keep {tx : TX} {L : List Tok} (h : KeepT L tx) {k i j n : Int} {N : Names} {s : XS} : (IX L s → IX L (tailX tx L k i j n N s).2) ∧ s.p ≤ (tailX tx L k i j n N s).2.p := by
  unfold tailX
  dsimp only
  have h3 : (IX L s → IX L (if bindsN k 1 = 1 then wantX L 3 s else ([], s)).2) ∧ s.p ≤ (if bindsN k 1 = 1 then wantX L 3 s else ([], s)).2.p := by
    split
    · exact ⟨fun h => h.want (by decide), want_up _ _ _⟩
    · exact ⟨fun h => h, Nat.le_refl _⟩
  obtain ⟨h1, h2⟩ := kidsX_keep h (k := k) (own := ownS k) (c := (kidsN k n).toNat) (p := 0) (x := if bindsN k 1 = 1 then [(if bindsN k 1 = 1 then wantX L 3 s else ([], s)).1] else []) (N := N) (s := (if bindsN k 1 = 1 then wantX L 3 s else ([], s)).2)
  exact ⟨fun hi => (h1 (h3.1 hi)).want (by decide), Nat.le_trans h3.2 (Nat.le_trans h2 (want_up _ _ _))⟩
theorem restX_keep {lx : XS → Int × XS} {tx : TX} {L : List Tok} (hl : KeepL L lx) (h : KeepT L tx) {k n : Int} {N : Names} {s : XS} : (IX L s → IX L (restX lx tx L k n N s).2) ∧ s.p ≤ (restX lx tx L k n N s).2.p := by
  rw [restX_tail]
  obtain ⟨a1, a2⟩ := lv_keep hl (0 < levelsN k) (s := s)
  obtain ⟨b1, b2⟩ := lv_keep hl (1 < levelsN k) (s := (if 0 < levelsN k then lx s else (0, s)).2)
  obtain ⟨c1, c2⟩ := tailX_keep h (k := k) (i := (if 0 < levelsN k then lx s else (0, s)).1) (j := (if 1 < levelsN k then lx (if 0 < levelsN k then lx s else (0, s)).2 else (0, (if 0 < levelsN k then lx s else (0, s)).2)).1) (n := n) (N := N) (s := (if 1 < levelsN k then lx (if 0 < levelsN k then lx s else (0, s)).2 else (0, (if 0 < levelsN k then lx s else (0, s)).2)).2)
  exact ⟨fun hi => c1 (b1 (a1 hi)), Nat.le_trans a2 (Nat.le_trans b2 c2)⟩
theorem bodyX_keep {lx : XS → Int × XS} {tx : TX} {L : List Tok} (hl : KeepL L lx) (h : KeepT L tx) {k : Int} {N : Names} {s : XS} : (IX L s → IX L (bodyX lx tx L k N s).2) ∧ s.p ≤ (bodyX lx tx L k N s).2.p := by
  unfold bodyX
  by_cases hk : k = 23
  · rw [if_pos hk]
    by_cases hc : kindAt L s.p = 3 ∧ symN (wordAt L s.p) ≠ 0
    · rw [if_pos hc]
      obtain ⟨h1, h2⟩ := restX_keep hl h (k := k) (n := symN (wordAt L s.p)) (N := N) (s := s.next)
      exact ⟨fun hi => h1 (hi.next (by omega)), Nat.le_trans (Nat.le_succ _) h2⟩
    · rw [if_neg hc]
      exact ⟨fun hi => hi.fail, by rw [fail_p]; exact Nat.le_refl _⟩
  · rw [if_neg hk]
    exact restX_keep hl h
theorem listK_kind {L : List Tok} {so : Int} {s : XS} (h : listK L so s ≠ 0) : kindAt L s.p = 3 ∧ listK L so s = headN (wordAt L s.p) := by
  unfold listK at h ⊢
  split at h
  · rename_i hc; rw [if_pos hc]; exact ⟨hc.1, rfl⟩
  · exact absurd rfl h
theorem termX_keep {L : List Tok} {i j : Int} (hi : 0 ≤ i ∧ i ≤ 1000) (hj : 0 ≤ j ∧ j ≤ 1000) : ∀ f, KeepT L (termX L i j f)
  | 0 => ⟨fun _ _ s h => h.fail, fun _ _ s => by show s.p ≤ s.fail.p; rw [fail_p]; exact Nat.le_refl _⟩
  | f + 1 => by
    have H := fun k N s => bodyX_keep (levX_keep (L := L) hi hj f) (termX_keep (L := L) hi hj f) (k := k) (N := N) (s := s)
    have main : ∀ so N s, (IX L s → IX L (termX L i j (f + 1) so N s).2) ∧ s.p ≤ (termX L i j (f + 1) so N s).2.p := by
      intro so N s
      unfold termX
      cases hb : s.bad with
      | some b => exact ⟨fun h => h, Nat.le_refl _⟩
      | none =>
        dsimp only
        by_cases k3 : kindAt L s.p = 3
        · rw [if_pos k3]
          cases idxL (wordAt L s.p) N with
          | some q => exact ⟨fun h => h.next (by omega), Nat.le_succ _⟩
          | none => exact ⟨fun h => h.fail, by dsimp only; rw [fail_p]; exact Nat.le_refl _⟩
        · rw [if_neg k3]
          by_cases k1 : kindAt L s.p = 1
          · rw [if_pos k1]
            by_cases hl : listK L so s.next = 0
            · rw [if_pos hl]
              exact ⟨fun h => (h.next (by omega)).fail, by dsimp only; rw [fail_p]; exact Nat.le_succ _⟩
            · rw [if_neg hl]
              obtain ⟨h1, h2⟩ := H (listK L so s.next) N s.next.next
              exact ⟨fun h => h1 ((h.next (by omega)).next (by rw [(listK_kind hl).1]; decide)), Nat.le_trans (Nat.le_trans (Nat.le_succ _) (Nat.le_succ _)) h2⟩
          · rw [if_neg k1]
            exact ⟨fun h => h.fail, by dsimp only; rw [fail_p]; exact Nat.le_refl _⟩
    exact ⟨fun so N s => (main so N s).1, fun so N s => (main so N s).2⟩

/-- What a term's reading gives. -/
def TermG (c : PR) (N : Names) (w : World) (x : Tm × XS) (e : Ending) (w' : World) : Prop := ∃ sv nv, e = .returned (tv x.1 sv) ∧ LiesP w' (Own w.heap.size w') x.1.kids sv ∧ x.1.fine ∧ RS c nv x.2 w' ∧ NR w' nv N ∧ Fw c w w'
structure TermC (c : PR) (f : Nat) (tx : TX) : Prop where
  use : ∀ (so : Int) (N : Names) (nv : Value) (s : XS) (w : World), (so = 0 ∨ so = 1 ∨ so = 2) → IX c.L s → c.L.length + 1 ≤ s.p + f → N.length + 2 * f ≤ 50000000 → RS c nv s w → NR w nv N → Calls Tryd.prog 23 #[.pointer (some ⟨c.R, 0, none⟩), .int .i64 so] w (TermG c N w (tx so N s))
theorem NR.other {w w' : World} {nv : Value} {N : Names} {row : Option Nat} (h : NR w nv N) (hg : w.grownBy w' row) (hT : ∀ b, row = some b → ∃ cs fz, w.heap[b]? = some (Obj.cells cs 26 fz)) : NR w' nv N := by
  obtain ⟨g, cap, cur, e, hh, r⟩ := h
  refine ⟨g, cap, cur, e, (hg.block _ (hltD hh) (fun e2 => ?_)).trans hh, r⟩
  obtain ⟨cs, fz, h2⟩ := hT g e2.symm
  exact absurd (typeD hh h2) (by decide)
theorem RS.term {c : PR} {nv : Value} {s : XS} {w w' : World} {row : Option Nat} (h : RS c nv s w) (hg : w.grownBy w' row) (hT : ∀ b, row = some b → ∃ cs fz, w.heap[b]? = some (Obj.cells cs 26 fz)) : RS c nv s w' := by
  refine h.other hg (fun e => ?_) (fun b e cs T fz h2 => ?_)
  · obtain ⟨cs, fz, h2⟩ := hT _ e
    have r := h.rd
    unfold rrX rrO at r
    exact absurd (typeD r h2) (by decide)
  · obtain ⟨cs', fz', h3⟩ := hT b e
    rintro rfl
    exact absurd (typeD h2 h3) (by decide)
/-- What stands by while the kids are read: the result's block, the term's block. -/
structure StandB (c : PR) (w : World) (D : Nat) (t : Tm) (v nv : Value) (s : XS) (N : Names) (w' : World) : Prop where
  box : w'.heap[D]? = some (boxOf t v)
  res : w'.heap[w.heap.size]? = some zeroObj
  st : RS c nv s w'
  nm : NR w' nv N
  fr : Fw c w w'
  hR : c.R < w.heap.size
  hD : w.heap.size < D
theorem StandB.lt {c : PR} {w w' : World} {D : Nat} {t : Tm} {v nv : Value} {s : XS} {N : Names} (h : StandB c w D t v nv s N w') : D < w'.heap.size := hltD h.box
theorem StandB.call {c : PR} {w w' wn : World} {D : Nat} {t : Tm} {v nv nv1 : Value} {s s1 : XS} {N N1 : Names} (h : StandB c w D t v nv s N w') (hs : RS c nv1 s1 wn) (hn : NR wn nv1 N1) (hf : Fw c w' wn) : StandB c w D t v nv1 s1 N1 wn :=
  ⟨(hf.block _ h.lt (fun e => by have := Option.some.inj e; have := h.hR; have := h.hD; omega)).trans h.box, (hf.block _ (hltD h.res) (fun e => by have := Option.some.inj e; have := h.hR; omega)).trans h.res, hs, hn, h.fr.trans hf, h.hR, h.hD⟩
theorem StandB.keepn {c : PR} {w w' wn : World} {D : Nat} {t : Tm} {v nv : Value} {s s1 : XS} {N : Names} (h : StandB c w D t v nv s N w') (hs : RS c nv s1 wn) (hf : Fw c w' wn) : StandB c w D t v nv s1 N wn := h.call hs (h.nm.fw h.st hf) hf
theorem StandB.same {c : PR} {w w' wn : World} {D : Nat} {t : Tm} {v nv : Value} {s : XS} {N : Names} (h : StandB c w D t v nv s N w') (hg : w'.grownBy wn none) : StandB c w D t v nv s N wn := h.keepn (h.st.same hg) (Fw.same (Fw.refl c w') hg)
theorem row_fw {c : PR} {w w' wn : World} {row : Option Nat} (h : Fw c w w') (hg : w'.grownBy wn row) (hb : ∀ b, row = some b → w.heap.size ≤ b) : Fw c w wn :=
  ⟨hg.os.trans h.os, hg.tape.trans h.tape, hg.output.trans h.output, Nat.le_trans h.size hg.size, fun k hk hne => (hg.block k (Nat.lt_of_lt_of_le hk h.size) (fun e => by have := hb k e.symm; omega)).trans (h.block k hk hne)⟩
theorem StandB.row {c : PR} {w w' wn : World} {D : Nat} {t : Tm} {v nv : Value} {s : XS} {N : Names} (h : StandB c w D t v nv s N w') {row : Option Nat} (hg : w'.grownBy wn row) (hb : ∀ b, row = some b → D + 1 ≤ b ∧ ∃ cs fz, w'.heap[b]? = some (Obj.cells cs 26 fz)) : StandB c w D t v nv s N wn :=
  ⟨(hg.block _ h.lt (fun e => by have := (hb _ e.symm).1; omega)).trans h.box, (hg.block _ (hltD h.res) (fun e => by have := (hb _ e.symm).1; have := h.hD; omega)).trans h.res, h.st.term hg (fun b e => (hb b e).2), h.nm.other hg (fun b e => (hb b e).2), row_fw h.fr hg (fun b e => by have := (hb b e).1; have := h.hD; omega), h.hR, h.hD⟩
theorem set_gr (w : World) (D q : Nat) (x : Value) : w.grownBy (w.setCell ⟨D, q, none⟩ x) (some D) := grown_at ⟨rfl, rfl, rfl, Nat.le_refl _, fun _ _ _ => rfl⟩ q x
theorem StandB.put {c : PR} {w w' : World} {D : Nat} {t t' : Tm} {v v' nv : Value} {s : XS} {N : Names} (h : StandB c w D t v nv s N w') (q : Nat) (x : Value) (hb : (w'.setCell ⟨D, q, none⟩ x).heap[D]? = some (boxOf t' v')) : StandB c w D t' v' nv s N (w'.setCell ⟨D, q, none⟩ x) := by
  have hg := set_gr w' D q x
  have hT : ∀ b, some D = some b → ∃ cs fz, w'.heap[b]? = some (Obj.cells cs 26 fz) := fun b e => by obtain rfl := Option.some.inj e; exact ⟨_, _, h.box⟩
  exact ⟨hb, (hg.block _ (hltD h.res) (fun e => by have := Option.some.inj e; have := h.hD; omega)).trans h.res, h.st.term hg hT, h.nm.other hg hT, row_fw h.fr hg (fun b e => by obtain rfl := Option.some.inj e; have := h.hD; omega), h.hR, h.hD⟩
theorem StandB.seti {c : PR} {w w' : World} {D : Nat} {k i j n : Int} {v nv : Value} {s : XS} {N : Names} (h : StandB c w D (.mk k i j n []) v nv s N w') (x : Int) : StandB c w D (.mk k x j n []) v nv s N (w'.setCell ⟨D, 1, none⟩ (.int .i64 x)) := h.put 1 _ (heap_setCell_same _ _ 1 _ _ _ h.box)
theorem StandB.setj {c : PR} {w w' : World} {D : Nat} {k i j n : Int} {v nv : Value} {s : XS} {N : Names} (h : StandB c w D (.mk k i j n []) v nv s N w') (x : Int) : StandB c w D (.mk k i x n []) v nv s N (w'.setCell ⟨D, 2, none⟩ (.int .i64 x)) := h.put 2 _ (heap_setCell_same _ _ 2 _ _ _ h.box)
theorem StandB.setn {c : PR} {w w' : World} {D : Nat} {k i j n : Int} {v nv : Value} {s : XS} {N : Names} (h : StandB c w D (.mk k i j n []) v nv s N w') (x : Int) : StandB c w D (.mk k i j x []) v nv s N (w'.setCell ⟨D, 3, none⟩ (.int .i64 x)) := h.put 3 _ (heap_setCell_same _ _ 3 _ _ _ h.box)
theorem StandB.setv {c : PR} {w w' : World} {D : Nat} {t : Tm} {v nv : Value} {s : XS} {N : Names} (h : StandB c w D t v nv s N w') (x : Value) : StandB c w D t x nv s N (w'.setCell ⟨D, 4, none⟩ x) := h.put 4 _ (heap_setCell_same _ _ 4 _ _ _ h.box)
/-- The end: the term is stored as the result. -/
theorem tend {c : PR} {w w' : World} {x : Tm} {sv nv : Value} {s : XS} {N : Names} {D : Nat} (hr : w'.heap[w.heap.size]? = some zeroObj) (hs : RS c nv s w') (hn : NR w' nv N) (hf : Fw c w w') (hD : w.heap.size < D) (hl : LiesP w' (Own D w') x.kids sv) (hfi : x.fine) :
    TermG c N w (x, s) (.returned (tv x sv)) (five w' w.heap.size (.int .i64 x.k) (.int .i64 x.i) (.int .i64 x.j) (.int .i64 x.n) sv) := by
  have hg : w'.grownBy (five w' w.heap.size (.int .i64 x.k) (.int .i64 x.i) (.int .i64 x.j) (.int .i64 x.n) sv) (some w.heap.size) := ((((set_gr _ _ _ _).trans (set_gr _ _ _ _)).trans (set_gr _ _ _ _)).trans (set_gr _ _ _ _)).trans (set_gr _ _ _ _)
  have hT : ∀ b, some w.heap.size = some b → ∃ cs fz, w'.heap[b]? = some (Obj.cells cs 26 fz) := fun b e => by obtain rfl := Option.some.inj e; exact ⟨_, _, hr⟩
  exact ⟨sv, nv, rfl, liesP_fives hl hD (by omega) _ _ _ _ _, hfi, hs.term hg hT, hn.other hg hT, row_fw hf hg (fun b e => by obtain rfl := Option.some.inj e; exact Nat.le_refl _)⟩
theorem tend_zero {c : PR} {w w' : World} {nv : Value} {s : XS} {N : Names} (hs : RS c nv s w') (hn : NR w' nv N) (hf : Fw c w w') : TermG c N w (Tm.zero, s) (.returned (tv Tm.zero (.slice none 0 0))) w' := ⟨_, nv, rfl, liesP_nil _ _, zero_fine, hs, hn, hf⟩
theorem tend_zero5 {c : PR} {w w' : World} {nv : Value} {s : XS} {N : Names} (hr : w'.heap[w.heap.size]? = some zeroObj) (hs : RS c nv s w') (hn : NR w' nv N) (hf : Fw c w w') : TermG c N w (Tm.zero, s) (.returned (tv Tm.zero (.slice none 0 0))) (five w' w.heap.size (.int .i64 0) (.int .i64 0) (.int .i64 0) (.int .i64 0) (.slice none 0 0)) :=
  tend (D := w.heap.size + 1) (x := Tm.zero) hr hs hn hf (by omega) (liesP_nil _ _) zero_fine
end Go.Proofs.YtlalolnhpcbjnaaDoor.Rt

namespace Go.Proofs.YtlalolnhpcbjnaaDoor.Rt
open Go.RowKit
open Dv (XS kindAt wordAt placeAt wantX rrO rrX badV PTok hltD typeD)

/-- The kids, some of them read. -/
structure KI (tx : TX) (L : List Tok) (k : Int) (N : Names) (n0 : Nat) (x0 : Names) (q0 : XS) (l : List Tm) (x : Names) (p m : Nat) (q : XS) : Prop where
  eq : kidsX tx L k (ownS k) x0 0 n0 N q0 = (l ++ (kidsX tx L k (ownS k) x p m N q).1, (kidsX tx L k (ownS k) x p m N q).2)
theorem KI.start (tx : TX) (L : List Tok) (k : Int) (N : Names) (n0 : Nat) (x0 : Names) (q0 : XS) : KI tx L k N n0 x0 q0 [] x0 0 n0 q0 := ⟨by simp⟩
theorem KI.step {tx : TX} {L : List Tok} {k : Int} {N : Names} {n0 p m : Nat} {x0 x xa : Names} {q0 q qa s1 : XS} {l : List Tm} {so : Int} {Na : Names} {t1 : Tm} (h : KI tx L k N n0 x0 q0 l x p (m + 1) q)
    (hq : (if k = 22 ∧ p = 2 then (wantX L 3 (wantX L 3 q).2).2 else q) = qa) (hx : (if k = 22 ∧ p = 2 then [(wantX L 3 (wantX L 3 q).2).1, (wantX L 3 q).1] else x) = xa) (hs : (if k = 12 ∧ p = 2 then 2 else ownS k) = so) (hN : (if bindsN k p = 0 then N else xa ++ N) = Na) (ht : tx so Na qa = (t1, s1)) : KI tx L k N n0 x0 q0 (l ++ [t1]) xa (p + 1) m s1 := ⟨by
  rw [h.eq]
  have e : kidsX tx L k (ownS k) x p (m + 1) N q = (t1 :: (kidsX tx L k (ownS k) xa (p + 1) m N s1).1, (kidsX tx L k (ownS k) xa (p + 1) m N s1).2) := by
    rw [kidsX]
    rw [hq, hx, hs, hN, ht]
  rw [e]
  simp⟩
theorem KI.done {tx : TX} {L : List Tok} {k : Int} {N : Names} {n0 p : Nat} {x0 x : Names} {q0 q : XS} {l : List Tm} (h : KI tx L k N n0 x0 q0 l x p 0 q) : kidsX tx L k (ownS k) x0 0 n0 N q0 = (l, q) := by rw [h.eq]; simp [kidsX]
/-- The names that are pushed. -/
def XV (k : Int) (w : World) (v : Value) (x : Names) : Prop := bindsN k 1 = 1 → NR w v x ∧ x.length = 1
theorem XV.fw {c : PR} {k : Int} {w w' : World} {v nv : Value} {x : Names} {s : XS} (h : XV k w v x) (hs : RS c nv s w) (hg : Fw c w w') : XV k w' v x := fun e => ⟨(h e).1.fw hs hg, (h e).2⟩
theorem XV.same {k : Int} {w w' : World} {v : Value} {x : Names} (h : XV k w v x) (hg : w.grownBy w' none) : XV k w' v x := fun e => ⟨(h e).1.same hg, (h e).2⟩
theorem XV.row {k : Int} {w w' : World} {v : Value} {x : Names} {row : Option Nat} (h : XV k w v x) (hg : w.grownBy w' row) (hT : ∀ b, row = some b → ∃ cs fz, w.heap[b]? = some (Obj.cells cs 26 fz)) : XV k w' v x := fun e => ⟨(h e).1.other hg hT, (h e).2⟩
theorem xv_22 {k : Int} (h : k = 22) {w : World} {v : Value} {x : Names} : XV k w v x := fun e => by subst h; exact absurd e (by decide)
theorem own_fw {c : PR} {w w' : World} {B : Nat} (hR : c.R < B) (h : Fw c w w') {b : Nat} (ho : Own B w b) : w'.heap[b]? = w.heap[b]? := h.block b ho.lt (fun e => by have := Option.some.inj e; have := ho.1; omega)
theorem liesP_fw {c : PR} {w w' : World} {B : Nat} (hR : c.R < B) {l : List Tm} {s : Value} (h : LiesP w (Own B w) l s) (hf : Fw c w w') : LiesP w' (Own B w') l s := h.keep (fun _ hb _ => own_fw hR hf hb) (fun _ hb _ => hb.same (own_fw hR hf hb))
theorem made_fw {c : PR} {w w' : World} {B : Nat} (hR : c.R < B) {v : Value} {ps : List (Tm × Value)} (h : Made B w v ps) (hf : Fw c w w') : Made B w' v ps := by
  refine ⟨?_, h.fine, fun p hp => (h.kids p hp).keep (fun b hb _ => own_fw hR hf hb.1) (fun b hb _ => ⟨hb.1.same (own_fw hR hf hb.1), hb.2⟩)⟩
  obtain ⟨h1, h2⟩ := h.own
  refine ⟨h1, ?_⟩
  rcases h2 with h2 | ⟨g, cap, cur, hv, hg, hh, r⟩
  · exact Or.inl h2
  · exact Or.inr ⟨g, cap, cur, hv, hg, (hf.block g (hltD hh) (fun e => by have := Option.some.inj e; omega)).trans hh, r⟩
theorem made_rowT {B : Nat} {w : World} {v : Value} {ps : List (Tm × Value)} (h : Made B w v ps) : ∀ b, v.ownBlock = some b → B ≤ b ∧ ∃ cs fz, w.heap[b]? = some (Obj.cells cs 26 fz) := by
  intro b hb
  rcases h.own.2 with ⟨rfl, -⟩ | ⟨g, cap, cur, rfl, hg, hh, -⟩
  · simp [Value.ownBlock] at hb
  · simp [Value.ownBlock] at hb
    subst hb
    exact ⟨hg, cur, _, hh⟩
theorem made_push_fw {c : PR} {B : Nat} (hR : c.R < B) {wr wn w3 : World} {v : Value} {ps : List (Tm × Value)} {t : Tm} {s : Value} {g cap : Nat} (h : Made B wr v ps) (hB : B ≤ wr.heap.size) (hf : Fw c wr wn) (ht : t.fine) (hk : LiesP wn (Own wr.heap.size wn) t.kids s) (o : Obj)
    (hown : w3.ownsRow B 26 5 (.slice (some ⟨g, 0, none⟩) (ps.length + 1) cap) (ps.length + 1) (cells5 ps ++ cells5 [(t, s)])) (hgrow : (wn.alloc o).grownBy w3 v.ownBlock) (hat : v.ownBlock = some g ∨ g = wn.heap.size + 1) :
    Made B w3 (.slice (some ⟨g, 0, none⟩) (ps.length + 1) cap) (ps ++ [(t, s)]) :=
  made_step (made_later (made_fw hR h hf) ((Below.refl _ _).alloc (Nat.le_refl _) _)) ht
    (hk.keep (fun b _ hlt => Below.heap_alloc _ _ _ hlt) (fun b hb hlt => ⟨(hb.same (Below.heap_alloc _ _ _ hlt)).from hB, made_block h hb.1⟩)) hown hgrow (by simpa using hat)
theorem kidsN_few (k n : Int) : kidsN k n ≤ 100 := by
  unfold kidsN givenN
  (repeat' split) <;> omega
theorem ownS_is (k : Int) : ownS k = 1 ∨ ownS k = 2 := by unfold ownS; split <;> simp
theorem tm_fine {k i j n : Int} {l : List Tm} (hk : -1000 ≤ k ∧ k ≤ 1000) (hi : -1000 ≤ i ∧ i ≤ 1000000000) (hj : -1000 ≤ j ∧ j ≤ 1000000000) (hn : -1000 ≤ n ∧ n ≤ 1000) : (Tm.mk k i j n l).fine := by
  simp only [Tm.fine, I64, Tm.k, Tm.i, Tm.j, Tm.n]
  omega
theorem symN_few (x : List UInt8) : 0 ≤ symN x ∧ symN x ≤ 21 := by
  unfold symN
  cases h : idxL x symsW with
  | none => exact ⟨Int.le_refl 0, by decide⟩
  | some q =>
    have := idxL_lt h
    have h2 : symsW.length = 21 := rfl
    dsimp only
    omega
/-- Behind the names. -/
def endsX (tx : TX) (L : List Tok) (k i j n : Int) (N x0 : Names) (q : XS) : Tm × XS := (.mk k i j n (kidsX tx L k (ownS k) x0 0 (kidsN k n).toNat N q).1, (wantX L 2 (kidsX tx L k (ownS k) x0 0 (kidsN k n).toNat N q).2).2)
theorem tailX_one {tx : TX} {L : List Tok} {k i j n : Int} {N : Names} {q : XS} (h : bindsN k 1 = 1) : tailX tx L k i j n N q = endsX tx L k i j n N [(wantX L 3 q).1] (wantX L 3 q).2 := by unfold tailX endsX; simp only [if_pos h]
theorem tailX_none {tx : TX} {L : List Tok} {k i j n : Int} {N : Names} {q : XS} (h : ¬ bindsN k 1 = 1) : tailX tx L k i j n N q = endsX tx L k i j n N [] q := by unfold tailX endsX; simp only [if_neg h]
theorem nr_lit (w : World) (x : List UInt8) : NR (w.alloc (.cells #[.string ⟨x.toArray⟩] 9)) (.slice (some ⟨w.heap.size, 0, none⟩) 1 1) [x] := ⟨_, 1, _, rfl, alloc_new _ _, Nat.le_refl _, by decide, rfl, rfl⟩
theorem nr_lit2 (w : World) (x y : List UInt8) : NR (w.alloc (.cells #[.string ⟨x.toArray⟩, .string ⟨y.toArray⟩] 9)) (.slice (some ⟨w.heap.size, 0, none⟩) 2 2) [y, x] := ⟨_, 2, _, rfl, alloc_new _ _, Nat.le_refl _, by decide, rfl, rfl⟩
end Go.Proofs.YtlalolnhpcbjnaaDoor.Rt

namespace Go.Proofs.YtlalolnhpcbjnaaDoor.Rt
open Go.RowKit
open Dv (XS kindAt wordAt placeAt wantX rrO rrX badV PTok hltD typeD)

theorem bindsN_at {k : Int} (h : k ≠ 22) {q : Nat} (hq : bindsN k q ≠ 0) : bindsN k q = 1 := by
  unfold bindsN at hq ⊢
  (repeat' split at hq) <;> (first | (exfalso; omega) | simp_all)
set_option maxHeartbeats 16000000 in
set_option maxRecDepth 20000 in
theorem rbody_any (c : PR) (f : Nat) (lx : XS → Int × XS) (tx : TX) (hLV : LevC c f lx) (hKL : KeepL c.L lx) (hTC : TermC c f tx) (hKT : KeepT c.L tx) (hlen : c.L.length ≤ 1000000) (k : Int) (hk : k = 1 ∨ (3 ≤ k ∧ k ≤ 23)) (N : Names) (nv : Value) (s : XS) (w : World) (hx : IX c.L s) (hf : c.L.length + 2 ≤ s.p + f) (hN : N.length + 2 * f + 2 ≤ 50000000) (h : RS c nv s w) (hn : NR w nv N) : Calls Tryd.prog 46 #[.pointer (some ⟨c.R, 0, none⟩), .int .i64 k] w (TermG c N w (bodyX lx tx c.L k N s)) := by
  obtain ⟨du, hu1, hu2⟩ := under_term
  obtain ⟨i0, hi0, hz0, hz1, hz2⟩ := info_parts info_term
  have HIF := Lib.hid (And.intro hi0 (And.intro hz0 (And.intro hz1 hz2)))
  clear hi0 hz0 hz1 hz2
  have HLV := Lib.hid hLV
  have HKL := Lib.hid hKL
  have HTC := Lib.hid hTC
  have HKT := Lib.hid hKT
  have HI := Lib.hid hx
  have hp := hx.p
  have HFU := Lib.hid hf
  have HNL := Lib.hid hN
  have HB0 := Lib.hid (show StandB c w (w.heap.size + 1) (.mk k 0 0 0 []) (.slice none 0 0) nv s N ((w.alloc zeroObj).alloc (.cells #[.int .i64 k, .int .i64 0, .int .i64 0, .int .i64 0, .slice none 0 0] 26)) from by
    have hb := ((Below.refl w.heap.size w).alloc (Nat.le_refl _) zeroObj).alloc (by simp) (.cells #[.int .i64 k, .int .i64 0, .int .i64 0, .int .i64 0, .slice none 0 0] 26)
    have hg := below_gr hb
    refine ⟨?_, ?_, h.same hg, hn.same hg, Fw.same (Fw.refl c w) hg, h.lt, by omega⟩
    · have := alloc_new (w.alloc zeroObj) (.cells #[.int .i64 k, .int .i64 0, .int .i64 0, .int .i64 0, .slice none 0 0] 26)
      rw [show (w.alloc zeroObj).heap.size = w.heap.size + 1 by simp] at this
      exact this
    · exact (Below.heap_alloc _ _ _ (by simp)).trans (alloc_new _ _))
  clear hLV hKL hTC hKT hx hf hN h hn
  obtain ⟨X, hX⟩ : ∃ X, bodyX lx tx c.L k N s = X := ⟨_, rfl⟩
  rw [hX]
  have HX := Lib.hid hX
  clear hX
  go_enter Tryd.func46, Tryd.ntmps46
  go_upto_if 17 with fail
  go_cut [6] (fun s6 wx => s6 = .int .i64 (ownS k) ∧ Hid (StandB c w (w.heap.size + 1) (.mk k 0 0 0 []) (.slice none 0 0) nv s N wx))
  case first =>
    by_cases h12 : 12 < k
    · have HOW := Lib.hid (show ownS k = 2 from if_neg (by omega))
      go_wp2_with fail
      go_meet
      case rel => exact ⟨by rw [HOW.out], HB0⟩
    · have HOW := Lib.hid (show ownS k = 1 from if_pos (by omega))
      go_wp2_with fail
      go_meet
      case rel => exact ⟨by rw [HOW.out], HB0⟩
  case rest =>
  obtain ⟨rfl, HB⟩ := hcut
  clear HB0
  by_cases hq : k = 23 ∧ ¬ (kindAt c.L s.p = 3 ∧ symN (wordAt c.L s.p) ≠ 0)
  case pos =>
    obtain ⟨rfl, hq⟩ := hq
    have HXX := Lib.hid (show (Tm.zero, s.fail) = X by rw [← HX.out]; unfold bodyX; rw [if_pos rfl, if_neg hq])
    clear HX
    go_wp2_with fail
    refine HB.out.st.word.mono ?_
    rintro e w1 ⟨rfl, hs, hg⟩
    have HB1 := Lib.hid (HB.out.same hg)
    clear hs hg
    obtain ⟨wd, hwd⟩ : ∃ wd, wordAt c.L s.p = wd := ⟨_, rfl⟩
    rw [hwd]
    rw [hwd] at hq
    go_wp2_with fail
    refine (psym_any wd w1).mono ?_
    rintro e w2 ⟨rfl, hb2⟩
    have HB2 := Lib.hid (HB1.out.same (below_gr hb2))
    clear hb2 HB1
    by_cases hk3 : kindAt c.L s.p = 3
    · have hk3i : ((kindAt c.L s.p : Nat) : Int) = 3 := by omega
      have hs0 : symN wd = 0 := by
        by_cases h : symN wd = 0
        · exact h
        · exact absurd ⟨hk3, h⟩ hq
      rw [hs0]
      clear hs0 hq hk3 hwd
      go_wp2_with fail
      refine HB2.out.st.kind.mono ?_
      rintro e w3 ⟨rfl, hs, hg⟩
      rw [hk3i]
      have HB3 := Lib.hid (HB2.out.same hg)
      clear hs hg
      obtain ⟨c0, c1, c2, c3, c4, c5⟩ := HB3.out.st.cells
      have f1 := HB3.out.st.free 1
      go_wp2_with fail
      refine HB3.out.st.failed.mono ?_
      rintro e w4 ⟨rfl, hs, hg⟩
      have HBZ := Lib.hid (HB3.out.keepn hs hg)
      clear hs hg
      clear c0 c1 c2 c3 c4 c5 f1
      obtain ⟨z0, z1, z2, z3, z4⟩ := five_cells HBZ.out.res
      obtain ⟨g0, g1, g2, g3, g4⟩ := five_free HBZ.out.res
      have hz := HBZ.out.res
      have HE := Lib.hid (tend_zero5 HBZ.out.res HBZ.out.st HBZ.out.nm HBZ.out.fr)
      go_wp2
      (try simp only [Exit.inBlock, Exit.then])
      refine bodyPost_ret (results_cell_row rfl _ _ w.heap.size _ _ _ du rfl (five_set hz) hu1 (by cases du <;> first | rfl | exact hu2) size_term) rfl ?_
      rw [← HXX.out]
      exact HE.out
    · have hk3i : ¬ ((kindAt c.L s.p : Nat) : Int) = 3 := by omega
      clear hq hk3 hwd
      go_wp2_with fail
      refine HB2.out.st.kind.mono ?_
      rintro e w3 ⟨rfl, hs, hg⟩
      have HB3 := Lib.hid (HB2.out.same hg)
      clear hs hg
      obtain ⟨c0, c1, c2, c3, c4, c5⟩ := HB3.out.st.cells
      have f1 := HB3.out.st.free 1
      go_wp2_with fail
      refine HB3.out.st.failed.mono ?_
      rintro e w4 ⟨rfl, hs, hg⟩
      have HBZ := Lib.hid (HB3.out.keepn hs hg)
      clear hs hg
      clear c0 c1 c2 c3 c4 c5 f1
      obtain ⟨z0, z1, z2, z3, z4⟩ := five_cells HBZ.out.res
      obtain ⟨g0, g1, g2, g3, g4⟩ := five_free HBZ.out.res
      have hz := HBZ.out.res
      have HE := Lib.hid (tend_zero5 HBZ.out.res HBZ.out.st HBZ.out.nm HBZ.out.fr)
      go_wp2
      (try simp only [Exit.inBlock, Exit.then])
      refine bodyPost_ret (results_cell_row rfl _ _ w.heap.size _ _ _ du rfl (five_set hz) hu1 (by cases du <;> first | rfl | exact hu2) size_term) rfl ?_
      rw [← HXX.out]
      exact HE.out
  go_upto_block 0 with fail
  go_cut [7] (fun s7 wx => ∃ (i j n : Int) (q : XS) (v : Value), s7 = v ∧ Hid (bodyX lx tx c.L k N s = tailX tx c.L k i j n N q) ∧ Hid ((0 ≤ i ∧ i ≤ 1000) ∧ (0 ≤ j ∧ j ≤ 1000) ∧ (0 ≤ n ∧ n ≤ 21)) ∧ Hid (IX c.L q) ∧ Hid (s.p ≤ q.p) ∧ Hid (StandB c w (w.heap.size + 1) (.mk k i j n []) (.slice none 0 0) nv q N wx))
  case first =>
    by_cases h23 : k = 23
    case pos =>
      subst h23
      replace hq : kindAt c.L s.p = 3 ∧ symN (wordAt c.L s.p) ≠ 0 := Classical.byContradiction fun e => hq ⟨rfl, e⟩
      go_wp2_with fail
      refine HB.out.st.word.mono ?_
      rintro e w1 ⟨rfl, hs, hg⟩
      have HB1 := Lib.hid (HB.out.same hg)
      clear hs hg
      obtain ⟨wd, hwd⟩ : ∃ wd, wordAt c.L s.p = wd := ⟨_, rfl⟩
      rw [hwd]
      rw [hwd] at hq
      go_wp2_with fail
      refine (psym_any wd w1).mono ?_
      rintro e w2 ⟨rfl, hb2⟩
      have HB2 := Lib.hid (HB1.out.same (below_gr hb2))
      clear hb2 HB1
      obtain ⟨hk3, hs0⟩ := hq
      have hsf := symN_few wd
      have hk3i : ((kindAt c.L s.p : Nat) : Int) = 3 := by omega
      have HSW := Lib.hid hwd
      have HK3 := Lib.hid hk3
      have HS0 := Lib.hid hs0
      obtain ⟨n, hn⟩ : ∃ n, symN wd = n := ⟨_, rfl⟩
      rw [hn] at hsf HS0
      rw [hn]
      have hnb : (n == 0) = false := by have := HS0.out; simpa using this
      have HSN := Lib.hid hn
      clear hs0 hk3 hwd hn
      go_wp2_with fail
      refine HB2.out.st.kind.mono ?_
      rintro e w3 ⟨rfl, hs, hg⟩
      rw [hk3i]
      have HB3 := Lib.hid (HB2.out.same hg)
      clear hs hg
      obtain ⟨c0, c1, c2, c3, c4, c5⟩ := HB3.out.st.cells
      have f1 := HB3.out.st.free 1
      have hst := HB3.out.st.step
      have HB4 := Lib.hid (HB3.out.keepn hst.1 hst.2)
      clear hst
      have hw1 : IntKind.i64.wrap ((s.p : Int) + 1) = (s.p : Int) + 1 := IntWalk.i64_in _ (by omega)
      go_upto_region 12 with fail
      obtain ⟨V, hV⟩ : ∃ V, V = w3.setCell ⟨c.R, 1, none⟩ (.int .i64 ((s.p : Int) + 1)) := ⟨_, rfl⟩
      rw [← hV] at HB4
      rw [← hV]
      clear hV hw1
      clear c0 c1 c2 c3 c4 c5 f1
      obtain ⟨y0, y1, y2, y3, y4⟩ := five_cells HB4.out.box
      obtain ⟨g0, g1, g2, g3, g4⟩ := five_free HB4.out.box
      have HB10 := Lib.hid (HB4.out.setn n)
      go_upto_region 13 with fail
      clear y0 y1 y2 y3 y4 g0 g1 g2 g3 g4
      obtain ⟨s0, hs0⟩ : ∃ s0, s0 = s.next := ⟨_, rfl⟩
      have HP0 := Lib.hid (show s0.p = s.p + 1 by rw [hs0]; rfl)
      have HIs0 := Lib.hid (show IX c.L s0 by rw [hs0]; exact HI.out.next (by have := HK3.out; omega))
      have HN0 := Lib.hid hs0
      rw [← hs0] at HB10
      clear hs0
      have HC1 := Lib.hid (HLV.out.use nv s0 _ HIs0.out (by have := HFU.out; have := HP0.out; omega) HB10.out.st)
      have hnn1 := HKL.out.nn s0
      have HIs1 := Lib.hid (HKL.out.keep s0 HIs0.out)
      have HUs1 := Lib.hid (HKL.out.up s0)
      obtain ⟨n1, s1, hy1⟩ : ∃ n1 s1, lx s0 = (n1, s1) := ⟨_, _, rfl⟩
      rw [hy1] at HC1 hnn1 HIs1 HUs1
      dsimp only at HC1 hnn1 HIs1 HUs1
      have HY1 := Lib.hid hy1
      clear hy1
      go_wp2_with fail
      refine HC1.out.mono ?_
      rintro e w5 ⟨rfl, hs, hg⟩
      have HB11 := Lib.hid (HB10.out.keepn hs hg)
      clear hs hg HC1
      obtain ⟨y0, y1, y2, y3, y4⟩ := five_cells HB11.out.box
      obtain ⟨g0, g1, g2, g3, g4⟩ := five_free HB11.out.box
      have HB12 := Lib.hid (HB11.out.seti n1)
      go_upto_region 14 with fail
      clear y0 y1 y2 y3 y4 g0 g1 g2 g3 g4
      have HC2 := Lib.hid (HLV.out.use nv s1 _ HIs1.out (by have := HFU.out; have := HP0.out; have := HUs1.out; omega) HB12.out.st)
      have hnn2 := HKL.out.nn s1
      have HIs2 := Lib.hid (HKL.out.keep s1 HIs1.out)
      have HUs2 := Lib.hid (HKL.out.up s1)
      obtain ⟨n2, s2, hy2⟩ : ∃ n2 s2, lx s1 = (n2, s2) := ⟨_, _, rfl⟩
      rw [hy2] at HC2 hnn2 HIs2 HUs2
      dsimp only at HC2 hnn2 HIs2 HUs2
      have HY2 := Lib.hid hy2
      clear hy2
      go_wp2_with fail
      refine HC2.out.mono ?_
      rintro e w6 ⟨rfl, hs, hg⟩
      have HB13 := Lib.hid (HB12.out.keepn hs hg)
      clear hs hg HC2
      obtain ⟨y0, y1, y2, y3, y4⟩ := five_cells HB13.out.box
      obtain ⟨g0, g1, g2, g3, g4⟩ := five_free HB13.out.box
      have HB14 := Lib.hid (HB13.out.setj n2)
      have HT := Lib.hid (show bodyX lx tx c.L 23 N s = tailX tx c.L 23 n1 n2 n N s2 by
        unfold bodyX
        rw [if_pos rfl, HSW.out, HSN.out, if_pos ⟨HK3.out, HS0.out⟩, ← HN0.out, restX_tail, if_pos (by decide : 0 < levelsN 23), HY1.out]
        dsimp only
        rw [if_pos (by decide : 1 < levelsN 23), HY2.out])
      go_wp2_with fail
      go_meet
      case rel => exact ⟨n1, n2, n, s2, _, rfl, HT, Lib.hid (by omega), HIs2, Lib.hid (by have := HUs1.out; have := HUs2.out; have := HP0.out; omega), HB14⟩
    clear hq
    by_cases h39 : k = 3 ∨ k = 4 ∨ k = 5 ∨ k = 6 ∨ k = 7 ∨ k = 8 ∨ k = 9
    case pos =>
      rcases h39 with rfl | rfl | rfl | rfl | rfl | rfl | rfl
      · have HB10 := HB
        have HIs := HI
        have HC1 := Lib.hid (HLV.out.use nv s _ HIs.out (by have := HFU.out; omega) HB10.out.st)
        have hnn1 := HKL.out.nn s
        have HIs1 := Lib.hid (HKL.out.keep s HIs.out)
        have HUs1 := Lib.hid (HKL.out.up s)
        obtain ⟨n1, s1, hy1⟩ : ∃ n1 s1, lx s = (n1, s1) := ⟨_, _, rfl⟩
        rw [hy1] at HC1 hnn1 HIs1 HUs1
        dsimp only at HC1 hnn1 HIs1 HUs1
        have HY1 := Lib.hid hy1
        clear hy1
        go_wp2_with fail
        refine HC1.out.mono ?_
        rintro e w1 ⟨rfl, hs, hg⟩
        have HB11 := Lib.hid (HB10.out.keepn hs hg)
        clear hs hg HC1
        obtain ⟨y0, y1, y2, y3, y4⟩ := five_cells HB11.out.box
        obtain ⟨g0, g1, g2, g3, g4⟩ := five_free HB11.out.box
        have HB12 := Lib.hid (HB11.out.seti n1)
        go_upto_region 23 with fail
        clear y0 y1 y2 y3 y4 g0 g1 g2 g3 g4
        have HC2 := Lib.hid (HLV.out.use nv s1 _ HIs1.out (by have := HFU.out; have := HUs1.out; omega) HB12.out.st)
        have hnn2 := HKL.out.nn s1
        have HIs2 := Lib.hid (HKL.out.keep s1 HIs1.out)
        have HUs2 := Lib.hid (HKL.out.up s1)
        obtain ⟨n2, s2, hy2⟩ : ∃ n2 s2, lx s1 = (n2, s2) := ⟨_, _, rfl⟩
        rw [hy2] at HC2 hnn2 HIs2 HUs2
        dsimp only at HC2 hnn2 HIs2 HUs2
        have HY2 := Lib.hid hy2
        clear hy2
        go_wp2_with fail
        refine HC2.out.mono ?_
        rintro e w2 ⟨rfl, hs, hg⟩
        have HB13 := Lib.hid (HB12.out.keepn hs hg)
        clear hs hg HC2
        obtain ⟨y0, y1, y2, y3, y4⟩ := five_cells HB13.out.box
        obtain ⟨g0, g1, g2, g3, g4⟩ := five_free HB13.out.box
        have HB14 := Lib.hid (HB13.out.setj n2)
        have HT := Lib.hid (show bodyX lx tx c.L 3 N s = tailX tx c.L 3 n1 n2 0 N s2 by unfold bodyX; rw [if_neg (by decide), restX_tail]; rw [if_pos (by decide : 0 < levelsN 3), HY1.out]; dsimp only; rw [if_pos (by decide : 1 < levelsN 3), HY2.out])
        go_wp2_with fail
        go_meet
        case rel => exact ⟨n1, n2, 0, s2, _, rfl, HT, Lib.hid (by omega), HIs2, Lib.hid (by have := HUs1.out; have := HUs2.out; omega), HB14⟩

      · have HB10 := HB
        have HIs := HI
        have HC1 := Lib.hid (HLV.out.use nv s _ HIs.out (by have := HFU.out; omega) HB10.out.st)
        have hnn1 := HKL.out.nn s
        have HIs1 := Lib.hid (HKL.out.keep s HIs.out)
        have HUs1 := Lib.hid (HKL.out.up s)
        obtain ⟨n1, s1, hy1⟩ : ∃ n1 s1, lx s = (n1, s1) := ⟨_, _, rfl⟩
        rw [hy1] at HC1 hnn1 HIs1 HUs1
        dsimp only at HC1 hnn1 HIs1 HUs1
        have HY1 := Lib.hid hy1
        clear hy1
        go_wp2_with fail
        refine HC1.out.mono ?_
        rintro e w1 ⟨rfl, hs, hg⟩
        have HB11 := Lib.hid (HB10.out.keepn hs hg)
        clear hs hg HC1
        obtain ⟨y0, y1, y2, y3, y4⟩ := five_cells HB11.out.box
        obtain ⟨g0, g1, g2, g3, g4⟩ := five_free HB11.out.box
        have HB12 := Lib.hid (HB11.out.seti n1)
        go_upto_region 23 with fail
        clear y0 y1 y2 y3 y4 g0 g1 g2 g3 g4
        have HC2 := Lib.hid (HLV.out.use nv s1 _ HIs1.out (by have := HFU.out; have := HUs1.out; omega) HB12.out.st)
        have hnn2 := HKL.out.nn s1
        have HIs2 := Lib.hid (HKL.out.keep s1 HIs1.out)
        have HUs2 := Lib.hid (HKL.out.up s1)
        obtain ⟨n2, s2, hy2⟩ : ∃ n2 s2, lx s1 = (n2, s2) := ⟨_, _, rfl⟩
        rw [hy2] at HC2 hnn2 HIs2 HUs2
        dsimp only at HC2 hnn2 HIs2 HUs2
        have HY2 := Lib.hid hy2
        clear hy2
        go_wp2_with fail
        refine HC2.out.mono ?_
        rintro e w2 ⟨rfl, hs, hg⟩
        have HB13 := Lib.hid (HB12.out.keepn hs hg)
        clear hs hg HC2
        obtain ⟨y0, y1, y2, y3, y4⟩ := five_cells HB13.out.box
        obtain ⟨g0, g1, g2, g3, g4⟩ := five_free HB13.out.box
        have HB14 := Lib.hid (HB13.out.setj n2)
        have HT := Lib.hid (show bodyX lx tx c.L 4 N s = tailX tx c.L 4 n1 n2 0 N s2 by unfold bodyX; rw [if_neg (by decide), restX_tail]; rw [if_pos (by decide : 0 < levelsN 4), HY1.out]; dsimp only; rw [if_pos (by decide : 1 < levelsN 4), HY2.out])
        go_wp2_with fail
        go_meet
        case rel => exact ⟨n1, n2, 0, s2, _, rfl, HT, Lib.hid (by omega), HIs2, Lib.hid (by have := HUs1.out; have := HUs2.out; omega), HB14⟩

      · have HB10 := HB
        have HIs := HI
        have HC1 := Lib.hid (HLV.out.use nv s _ HIs.out (by have := HFU.out; omega) HB10.out.st)
        have hnn1 := HKL.out.nn s
        have HIs1 := Lib.hid (HKL.out.keep s HIs.out)
        have HUs1 := Lib.hid (HKL.out.up s)
        obtain ⟨n1, s1, hy1⟩ : ∃ n1 s1, lx s = (n1, s1) := ⟨_, _, rfl⟩
        rw [hy1] at HC1 hnn1 HIs1 HUs1
        dsimp only at HC1 hnn1 HIs1 HUs1
        have HY1 := Lib.hid hy1
        clear hy1
        go_wp2_with fail
        refine HC1.out.mono ?_
        rintro e w1 ⟨rfl, hs, hg⟩
        have HB11 := Lib.hid (HB10.out.keepn hs hg)
        clear hs hg HC1
        obtain ⟨y0, y1, y2, y3, y4⟩ := five_cells HB11.out.box
        obtain ⟨g0, g1, g2, g3, g4⟩ := five_free HB11.out.box
        have HB12 := Lib.hid (HB11.out.seti n1)
        go_upto_region 23 with fail
        clear y0 y1 y2 y3 y4 g0 g1 g2 g3 g4
        have HC2 := Lib.hid (HLV.out.use nv s1 _ HIs1.out (by have := HFU.out; have := HUs1.out; omega) HB12.out.st)
        have hnn2 := HKL.out.nn s1
        have HIs2 := Lib.hid (HKL.out.keep s1 HIs1.out)
        have HUs2 := Lib.hid (HKL.out.up s1)
        obtain ⟨n2, s2, hy2⟩ : ∃ n2 s2, lx s1 = (n2, s2) := ⟨_, _, rfl⟩
        rw [hy2] at HC2 hnn2 HIs2 HUs2
        dsimp only at HC2 hnn2 HIs2 HUs2
        have HY2 := Lib.hid hy2
        clear hy2
        go_wp2_with fail
        refine HC2.out.mono ?_
        rintro e w2 ⟨rfl, hs, hg⟩
        have HB13 := Lib.hid (HB12.out.keepn hs hg)
        clear hs hg HC2
        obtain ⟨y0, y1, y2, y3, y4⟩ := five_cells HB13.out.box
        obtain ⟨g0, g1, g2, g3, g4⟩ := five_free HB13.out.box
        have HB14 := Lib.hid (HB13.out.setj n2)
        have HT := Lib.hid (show bodyX lx tx c.L 5 N s = tailX tx c.L 5 n1 n2 0 N s2 by unfold bodyX; rw [if_neg (by decide), restX_tail]; rw [if_pos (by decide : 0 < levelsN 5), HY1.out]; dsimp only; rw [if_pos (by decide : 1 < levelsN 5), HY2.out])
        go_wp2_with fail
        go_meet
        case rel => exact ⟨n1, n2, 0, s2, _, rfl, HT, Lib.hid (by omega), HIs2, Lib.hid (by have := HUs1.out; have := HUs2.out; omega), HB14⟩

      · have HB10 := HB
        have HIs := HI
        have HC1 := Lib.hid (HLV.out.use nv s _ HIs.out (by have := HFU.out; omega) HB10.out.st)
        have hnn1 := HKL.out.nn s
        have HIs1 := Lib.hid (HKL.out.keep s HIs.out)
        have HUs1 := Lib.hid (HKL.out.up s)
        obtain ⟨n1, s1, hy1⟩ : ∃ n1 s1, lx s = (n1, s1) := ⟨_, _, rfl⟩
        rw [hy1] at HC1 hnn1 HIs1 HUs1
        dsimp only at HC1 hnn1 HIs1 HUs1
        have HY1 := Lib.hid hy1
        clear hy1
        go_wp2_with fail
        refine HC1.out.mono ?_
        rintro e w1 ⟨rfl, hs, hg⟩
        have HB11 := Lib.hid (HB10.out.keepn hs hg)
        clear hs hg HC1
        obtain ⟨y0, y1, y2, y3, y4⟩ := five_cells HB11.out.box
        obtain ⟨g0, g1, g2, g3, g4⟩ := five_free HB11.out.box
        have HB12 := Lib.hid (HB11.out.seti n1)
        go_upto_region 23 with fail
        clear y0 y1 y2 y3 y4 g0 g1 g2 g3 g4
        have HC2 := Lib.hid (HLV.out.use nv s1 _ HIs1.out (by have := HFU.out; have := HUs1.out; omega) HB12.out.st)
        have hnn2 := HKL.out.nn s1
        have HIs2 := Lib.hid (HKL.out.keep s1 HIs1.out)
        have HUs2 := Lib.hid (HKL.out.up s1)
        obtain ⟨n2, s2, hy2⟩ : ∃ n2 s2, lx s1 = (n2, s2) := ⟨_, _, rfl⟩
        rw [hy2] at HC2 hnn2 HIs2 HUs2
        dsimp only at HC2 hnn2 HIs2 HUs2
        have HY2 := Lib.hid hy2
        clear hy2
        go_wp2_with fail
        refine HC2.out.mono ?_
        rintro e w2 ⟨rfl, hs, hg⟩
        have HB13 := Lib.hid (HB12.out.keepn hs hg)
        clear hs hg HC2
        obtain ⟨y0, y1, y2, y3, y4⟩ := five_cells HB13.out.box
        obtain ⟨g0, g1, g2, g3, g4⟩ := five_free HB13.out.box
        have HB14 := Lib.hid (HB13.out.setj n2)
        have HT := Lib.hid (show bodyX lx tx c.L 6 N s = tailX tx c.L 6 n1 n2 0 N s2 by unfold bodyX; rw [if_neg (by decide), restX_tail]; rw [if_pos (by decide : 0 < levelsN 6), HY1.out]; dsimp only; rw [if_pos (by decide : 1 < levelsN 6), HY2.out])
        go_wp2_with fail
        go_meet
        case rel => exact ⟨n1, n2, 0, s2, _, rfl, HT, Lib.hid (by omega), HIs2, Lib.hid (by have := HUs1.out; have := HUs2.out; omega), HB14⟩

      · have HB10 := HB
        have HIs := HI
        have HC1 := Lib.hid (HLV.out.use nv s _ HIs.out (by have := HFU.out; omega) HB10.out.st)
        have hnn1 := HKL.out.nn s
        have HIs1 := Lib.hid (HKL.out.keep s HIs.out)
        have HUs1 := Lib.hid (HKL.out.up s)
        obtain ⟨n1, s1, hy1⟩ : ∃ n1 s1, lx s = (n1, s1) := ⟨_, _, rfl⟩
        rw [hy1] at HC1 hnn1 HIs1 HUs1
        dsimp only at HC1 hnn1 HIs1 HUs1
        have HY1 := Lib.hid hy1
        clear hy1
        go_wp2_with fail
        refine HC1.out.mono ?_
        rintro e w1 ⟨rfl, hs, hg⟩
        have HB11 := Lib.hid (HB10.out.keepn hs hg)
        clear hs hg HC1
        obtain ⟨y0, y1, y2, y3, y4⟩ := five_cells HB11.out.box
        obtain ⟨g0, g1, g2, g3, g4⟩ := five_free HB11.out.box
        have HB12 := Lib.hid (HB11.out.seti n1)
        go_upto_region 23 with fail
        clear y0 y1 y2 y3 y4 g0 g1 g2 g3 g4
        have HC2 := Lib.hid (HLV.out.use nv s1 _ HIs1.out (by have := HFU.out; have := HUs1.out; omega) HB12.out.st)
        have hnn2 := HKL.out.nn s1
        have HIs2 := Lib.hid (HKL.out.keep s1 HIs1.out)
        have HUs2 := Lib.hid (HKL.out.up s1)
        obtain ⟨n2, s2, hy2⟩ : ∃ n2 s2, lx s1 = (n2, s2) := ⟨_, _, rfl⟩
        rw [hy2] at HC2 hnn2 HIs2 HUs2
        dsimp only at HC2 hnn2 HIs2 HUs2
        have HY2 := Lib.hid hy2
        clear hy2
        go_wp2_with fail
        refine HC2.out.mono ?_
        rintro e w2 ⟨rfl, hs, hg⟩
        have HB13 := Lib.hid (HB12.out.keepn hs hg)
        clear hs hg HC2
        obtain ⟨y0, y1, y2, y3, y4⟩ := five_cells HB13.out.box
        obtain ⟨g0, g1, g2, g3, g4⟩ := five_free HB13.out.box
        have HB14 := Lib.hid (HB13.out.setj n2)
        have HT := Lib.hid (show bodyX lx tx c.L 7 N s = tailX tx c.L 7 n1 n2 0 N s2 by unfold bodyX; rw [if_neg (by decide), restX_tail]; rw [if_pos (by decide : 0 < levelsN 7), HY1.out]; dsimp only; rw [if_pos (by decide : 1 < levelsN 7), HY2.out])
        go_wp2_with fail
        go_meet
        case rel => exact ⟨n1, n2, 0, s2, _, rfl, HT, Lib.hid (by omega), HIs2, Lib.hid (by have := HUs1.out; have := HUs2.out; omega), HB14⟩

      · have HB10 := HB
        have HIs := HI
        have HC1 := Lib.hid (HLV.out.use nv s _ HIs.out (by have := HFU.out; omega) HB10.out.st)
        have hnn1 := HKL.out.nn s
        have HIs1 := Lib.hid (HKL.out.keep s HIs.out)
        have HUs1 := Lib.hid (HKL.out.up s)
        obtain ⟨n1, s1, hy1⟩ : ∃ n1 s1, lx s = (n1, s1) := ⟨_, _, rfl⟩
        rw [hy1] at HC1 hnn1 HIs1 HUs1
        dsimp only at HC1 hnn1 HIs1 HUs1
        have HY1 := Lib.hid hy1
        clear hy1
        go_wp2_with fail
        refine HC1.out.mono ?_
        rintro e w1 ⟨rfl, hs, hg⟩
        have HB11 := Lib.hid (HB10.out.keepn hs hg)
        clear hs hg HC1
        obtain ⟨y0, y1, y2, y3, y4⟩ := five_cells HB11.out.box
        obtain ⟨g0, g1, g2, g3, g4⟩ := five_free HB11.out.box
        have HB12 := Lib.hid (HB11.out.seti n1)
        go_upto_region 23 with fail
        clear y0 y1 y2 y3 y4 g0 g1 g2 g3 g4
        have HC2 := Lib.hid (HLV.out.use nv s1 _ HIs1.out (by have := HFU.out; have := HUs1.out; omega) HB12.out.st)
        have hnn2 := HKL.out.nn s1
        have HIs2 := Lib.hid (HKL.out.keep s1 HIs1.out)
        have HUs2 := Lib.hid (HKL.out.up s1)
        obtain ⟨n2, s2, hy2⟩ : ∃ n2 s2, lx s1 = (n2, s2) := ⟨_, _, rfl⟩
        rw [hy2] at HC2 hnn2 HIs2 HUs2
        dsimp only at HC2 hnn2 HIs2 HUs2
        have HY2 := Lib.hid hy2
        clear hy2
        go_wp2_with fail
        refine HC2.out.mono ?_
        rintro e w2 ⟨rfl, hs, hg⟩
        have HB13 := Lib.hid (HB12.out.keepn hs hg)
        clear hs hg HC2
        obtain ⟨y0, y1, y2, y3, y4⟩ := five_cells HB13.out.box
        obtain ⟨g0, g1, g2, g3, g4⟩ := five_free HB13.out.box
        have HB14 := Lib.hid (HB13.out.setj n2)
        have HT := Lib.hid (show bodyX lx tx c.L 8 N s = tailX tx c.L 8 n1 n2 0 N s2 by unfold bodyX; rw [if_neg (by decide), restX_tail]; rw [if_pos (by decide : 0 < levelsN 8), HY1.out]; dsimp only; rw [if_pos (by decide : 1 < levelsN 8), HY2.out])
        go_wp2_with fail
        go_meet
        case rel => exact ⟨n1, n2, 0, s2, _, rfl, HT, Lib.hid (by omega), HIs2, Lib.hid (by have := HUs1.out; have := HUs2.out; omega), HB14⟩

      · have HB10 := HB
        have HIs := HI
        have HC1 := Lib.hid (HLV.out.use nv s _ HIs.out (by have := HFU.out; omega) HB10.out.st)
        have hnn1 := HKL.out.nn s
        have HIs1 := Lib.hid (HKL.out.keep s HIs.out)
        have HUs1 := Lib.hid (HKL.out.up s)
        obtain ⟨n1, s1, hy1⟩ : ∃ n1 s1, lx s = (n1, s1) := ⟨_, _, rfl⟩
        rw [hy1] at HC1 hnn1 HIs1 HUs1
        dsimp only at HC1 hnn1 HIs1 HUs1
        have HY1 := Lib.hid hy1
        clear hy1
        go_wp2_with fail
        refine HC1.out.mono ?_
        rintro e w1 ⟨rfl, hs, hg⟩
        have HB11 := Lib.hid (HB10.out.keepn hs hg)
        clear hs hg HC1
        obtain ⟨y0, y1, y2, y3, y4⟩ := five_cells HB11.out.box
        obtain ⟨g0, g1, g2, g3, g4⟩ := five_free HB11.out.box
        have HB12 := Lib.hid (HB11.out.seti n1)
        go_upto_region 23 with fail
        clear y0 y1 y2 y3 y4 g0 g1 g2 g3 g4
        have HC2 := Lib.hid (HLV.out.use nv s1 _ HIs1.out (by have := HFU.out; have := HUs1.out; omega) HB12.out.st)
        have hnn2 := HKL.out.nn s1
        have HIs2 := Lib.hid (HKL.out.keep s1 HIs1.out)
        have HUs2 := Lib.hid (HKL.out.up s1)
        obtain ⟨n2, s2, hy2⟩ : ∃ n2 s2, lx s1 = (n2, s2) := ⟨_, _, rfl⟩
        rw [hy2] at HC2 hnn2 HIs2 HUs2
        dsimp only at HC2 hnn2 HIs2 HUs2
        have HY2 := Lib.hid hy2
        clear hy2
        go_wp2_with fail
        refine HC2.out.mono ?_
        rintro e w2 ⟨rfl, hs, hg⟩
        have HB13 := Lib.hid (HB12.out.keepn hs hg)
        clear hs hg HC2
        obtain ⟨y0, y1, y2, y3, y4⟩ := five_cells HB13.out.box
        obtain ⟨g0, g1, g2, g3, g4⟩ := five_free HB13.out.box
        have HB14 := Lib.hid (HB13.out.setj n2)
        have HT := Lib.hid (show bodyX lx tx c.L 9 N s = tailX tx c.L 9 n1 n2 0 N s2 by unfold bodyX; rw [if_neg (by decide), restX_tail]; rw [if_pos (by decide : 0 < levelsN 9), HY1.out]; dsimp only; rw [if_pos (by decide : 1 < levelsN 9), HY2.out])
        go_wp2_with fail
        go_meet
        case rel => exact ⟨n1, n2, 0, s2, _, rfl, HT, Lib.hid (by omega), HIs2, Lib.hid (by have := HUs1.out; have := HUs2.out; omega), HB14⟩

    by_cases h1 : k = 1 ∨ k = 10 ∨ k = 11 ∨ k = 12
    case pos =>
      rcases h1 with rfl | rfl | rfl | rfl
      · have HB10 := HB
        have HIs := HI
        have HC1 := Lib.hid (HLV.out.use nv s _ HIs.out (by have := HFU.out; omega) HB10.out.st)
        have hnn1 := HKL.out.nn s
        have HIs1 := Lib.hid (HKL.out.keep s HIs.out)
        have HUs1 := Lib.hid (HKL.out.up s)
        obtain ⟨n1, s1, hy1⟩ : ∃ n1 s1, lx s = (n1, s1) := ⟨_, _, rfl⟩
        rw [hy1] at HC1 hnn1 HIs1 HUs1
        dsimp only at HC1 hnn1 HIs1 HUs1
        have HY1 := Lib.hid hy1
        clear hy1
        go_wp2_with fail
        refine HC1.out.mono ?_
        rintro e w1 ⟨rfl, hs, hg⟩
        have HB11 := Lib.hid (HB10.out.keepn hs hg)
        clear hs hg HC1
        obtain ⟨y0, y1, y2, y3, y4⟩ := five_cells HB11.out.box
        obtain ⟨g0, g1, g2, g3, g4⟩ := five_free HB11.out.box
        have HB12 := Lib.hid (HB11.out.seti n1)
        have HT := Lib.hid (show bodyX lx tx c.L 1 N s = tailX tx c.L 1 n1 0 0 N s1 by unfold bodyX; rw [if_neg (by decide), restX_tail]; rw [if_pos (by decide : 0 < levelsN 1), HY1.out]; dsimp only; rw [if_neg (by decide : ¬ 1 < levelsN 1)])
        go_wp2_with fail
        go_meet
        case rel => exact ⟨n1, 0, 0, s1, _, rfl, HT, Lib.hid (by omega), HIs1, Lib.hid (by have := HUs1.out; omega), HB12⟩

      · have HB10 := HB
        have HIs := HI
        have HC1 := Lib.hid (HLV.out.use nv s _ HIs.out (by have := HFU.out; omega) HB10.out.st)
        have hnn1 := HKL.out.nn s
        have HIs1 := Lib.hid (HKL.out.keep s HIs.out)
        have HUs1 := Lib.hid (HKL.out.up s)
        obtain ⟨n1, s1, hy1⟩ : ∃ n1 s1, lx s = (n1, s1) := ⟨_, _, rfl⟩
        rw [hy1] at HC1 hnn1 HIs1 HUs1
        dsimp only at HC1 hnn1 HIs1 HUs1
        have HY1 := Lib.hid hy1
        clear hy1
        go_wp2_with fail
        refine HC1.out.mono ?_
        rintro e w1 ⟨rfl, hs, hg⟩
        have HB11 := Lib.hid (HB10.out.keepn hs hg)
        clear hs hg HC1
        obtain ⟨y0, y1, y2, y3, y4⟩ := five_cells HB11.out.box
        obtain ⟨g0, g1, g2, g3, g4⟩ := five_free HB11.out.box
        have HB12 := Lib.hid (HB11.out.seti n1)
        have HT := Lib.hid (show bodyX lx tx c.L 10 N s = tailX tx c.L 10 n1 0 0 N s1 by unfold bodyX; rw [if_neg (by decide), restX_tail]; rw [if_pos (by decide : 0 < levelsN 10), HY1.out]; dsimp only; rw [if_neg (by decide : ¬ 1 < levelsN 10)])
        go_wp2_with fail
        go_meet
        case rel => exact ⟨n1, 0, 0, s1, _, rfl, HT, Lib.hid (by omega), HIs1, Lib.hid (by have := HUs1.out; omega), HB12⟩

      · have HB10 := HB
        have HIs := HI
        have HC1 := Lib.hid (HLV.out.use nv s _ HIs.out (by have := HFU.out; omega) HB10.out.st)
        have hnn1 := HKL.out.nn s
        have HIs1 := Lib.hid (HKL.out.keep s HIs.out)
        have HUs1 := Lib.hid (HKL.out.up s)
        obtain ⟨n1, s1, hy1⟩ : ∃ n1 s1, lx s = (n1, s1) := ⟨_, _, rfl⟩
        rw [hy1] at HC1 hnn1 HIs1 HUs1
        dsimp only at HC1 hnn1 HIs1 HUs1
        have HY1 := Lib.hid hy1
        clear hy1
        go_wp2_with fail
        refine HC1.out.mono ?_
        rintro e w1 ⟨rfl, hs, hg⟩
        have HB11 := Lib.hid (HB10.out.keepn hs hg)
        clear hs hg HC1
        obtain ⟨y0, y1, y2, y3, y4⟩ := five_cells HB11.out.box
        obtain ⟨g0, g1, g2, g3, g4⟩ := five_free HB11.out.box
        have HB12 := Lib.hid (HB11.out.seti n1)
        have HT := Lib.hid (show bodyX lx tx c.L 11 N s = tailX tx c.L 11 n1 0 0 N s1 by unfold bodyX; rw [if_neg (by decide), restX_tail]; rw [if_pos (by decide : 0 < levelsN 11), HY1.out]; dsimp only; rw [if_neg (by decide : ¬ 1 < levelsN 11)])
        go_wp2_with fail
        go_meet
        case rel => exact ⟨n1, 0, 0, s1, _, rfl, HT, Lib.hid (by omega), HIs1, Lib.hid (by have := HUs1.out; omega), HB12⟩

      · have HB10 := HB
        have HIs := HI
        have HC1 := Lib.hid (HLV.out.use nv s _ HIs.out (by have := HFU.out; omega) HB10.out.st)
        have hnn1 := HKL.out.nn s
        have HIs1 := Lib.hid (HKL.out.keep s HIs.out)
        have HUs1 := Lib.hid (HKL.out.up s)
        obtain ⟨n1, s1, hy1⟩ : ∃ n1 s1, lx s = (n1, s1) := ⟨_, _, rfl⟩
        rw [hy1] at HC1 hnn1 HIs1 HUs1
        dsimp only at HC1 hnn1 HIs1 HUs1
        have HY1 := Lib.hid hy1
        clear hy1
        go_wp2_with fail
        refine HC1.out.mono ?_
        rintro e w1 ⟨rfl, hs, hg⟩
        have HB11 := Lib.hid (HB10.out.keepn hs hg)
        clear hs hg HC1
        obtain ⟨y0, y1, y2, y3, y4⟩ := five_cells HB11.out.box
        obtain ⟨g0, g1, g2, g3, g4⟩ := five_free HB11.out.box
        have HB12 := Lib.hid (HB11.out.seti n1)
        have HT := Lib.hid (show bodyX lx tx c.L 12 N s = tailX tx c.L 12 n1 0 0 N s1 by unfold bodyX; rw [if_neg (by decide), restX_tail]; rw [if_pos (by decide : 0 < levelsN 12), HY1.out]; dsimp only; rw [if_neg (by decide : ¬ 1 < levelsN 12)])
        go_wp2_with fail
        go_meet
        case rel => exact ⟨n1, 0, 0, s1, _, rfl, HT, Lib.hid (by omega), HIs1, Lib.hid (by have := HUs1.out; omega), HB12⟩

    have HT := Lib.hid (show bodyX lx tx c.L k N s = tailX tx c.L k 0 0 0 N s by
      have e0 : levelsN k = 0 := by unfold levelsN; rw [if_neg (by omega), if_neg (by omega)]
      unfold bodyX
      rw [if_neg h23, restX_tail, if_neg (by omega), if_neg (by omega)])
    have ha1 : ¬ k = 1 := by omega
    have ha10 : ¬ k = 10 := by omega
    have ha11 : ¬ k = 11 := by omega
    have ha12 : ¬ k = 12 := by omega
    have ha3 : ¬ k = 3 := by omega
    have ha4 : ¬ k = 4 := by omega
    have ha5 : ¬ k = 5 := by omega
    have ha6 : ¬ k = 6 := by omega
    have ha7 : ¬ k = 7 := by omega
    have ha8 : ¬ k = 8 := by omega
    have ha9 : ¬ k = 9 := by omega
    clear h1 h39
    go_wp2_with fail
    go_meet
    case rel => exact ⟨0, 0, 0, s, _, rfl, HT, Lib.hid (by omega), HI, Lib.hid (Nat.le_refl _), HB⟩
  case rest =>
  obtain ⟨i, j, n, q, v7, rfl, HT, HR, HIQ, HUQ, HBQ⟩ := hcut
  have HXT := Lib.hid (show X = tailX tx c.L k i j n N q by rw [← HX.out, HT.out])
  clear HT HX HB hq HI
  go_wp2_with fail
  refine (refbinds_any k 1 _).mono ?_
  rintro e w' ⟨rfl, hw'⟩
  obtain rfl := hw'.symm
  go_upto_if 77 with fail
  go_cut [8] (fun s8 wx => ∃ (x0 : Names) (q2 : XS) (v8 : Value), s8 = v8 ∧ Hid (X = endsX tx c.L k i j n N x0 q2) ∧ Hid (XV k wx v8 x0) ∧ Hid (IX c.L q2) ∧ Hid (q.p ≤ q2.p) ∧ Hid (StandB c w (w.heap.size + 1) (.mk k i j n []) (.slice none 0 0) nv q2 N wx))
  case first =>
    have HWT := Lib.hid (HBQ.out.st.want 3 (by have := HIQ.out.p; omega))
    cases hbb : (bindsN k 1 == 1)
    · have HBN := Lib.hid (show ¬ bindsN k 1 = 1 by simpa using hbb)
      go_wp2_with fail
      go_meet
      case rel => exact ⟨[], q, _, rfl, Lib.hid (HXT.out.trans (tailX_none HBN.out)), Lib.hid (fun e => absurd e HBN.out), HIQ, Lib.hid (Nat.le_refl _), HBQ⟩
    · have HBN := Lib.hid (show bindsN k 1 = 1 by simpa using hbb)
      go_wp2_with fail
      refine HWT.out.mono ?_
      rintro e w2 ⟨rfl, hs, hg⟩
      have HB2 := Lib.hid (HBQ.out.keepn hs hg)
      clear hs hg
      have HB3 := Lib.hid (HB2.out.same (below_gr ((Below.refl w2.heap.size w2).alloc (Nat.le_refl _) (.cells #[.string ⟨(wantX c.L 3 q).1.toArray⟩] 9))))
      go_wp2_with fail
      go_meet
      case rel => exact ⟨[(wantX c.L 3 q).1], (wantX c.L 3 q).2, _, rfl, Lib.hid (HXT.out.trans (tailX_one HBN.out)), Lib.hid (fun _ => ⟨nr_lit w2 _, rfl⟩), Lib.hid (HIQ.out.want (by decide)), Lib.hid (want_up _ _ _), HB3⟩
  case rest =>
  obtain ⟨x0, q2, v8, rfl, HXE, HXV, HI2, HU2, HB2⟩ := hcut
  clear HXT HBQ HIQ
  obtain ⟨K0, hK0⟩ : ∃ K0, kidsN k n = K0 := ⟨_, rfl⟩
  obtain ⟨n0, hn0⟩ : ∃ n0, K0.toNat = n0 := ⟨_, rfl⟩
  have hfew := kidsN_few k n
  have HKN := Lib.hid (show X = (Tm.mk k i j n (kidsX tx c.L k (ownS k) x0 0 n0 N q2).1, (wantX c.L 2 (kidsX tx c.L k (ownS k) x0 0 n0 N q2).2).2) by rw [HXE.out]; unfold endsX; rw [hK0, hn0])
  rw [hK0] at hfew
  have hn6 : n0 ≤ 100 := by omega
  have HK0 := Lib.hid hK0
  have HN0 := Lib.hid hn0
  clear hK0 hn0 HXE
  go_wp2_with fail
  go_loopw [8, 9, 10] (fun nmv kv iv wr => ∃ (jj : Nat) (q3 : XS) (ps : List (Tm × Value)) (vv v8 : Value) (x3 : Names) (nv3 : Value), v8 = nmv ∧ vv = kv ∧ jj ≤ n0 ∧ iv = .int .i64 jj ∧ Hid (KI tx c.L k N n0 x0 q2 (ps.map (·.1)) x3 jj (n0 - jj) q3) ∧ Hid (ps.length = jj) ∧ Hid (q2.p ≤ q3.p) ∧ Hid (IX c.L q3) ∧ Hid (Made (w.heap.size + 2) wr vv ps) ∧ Hid (XV k wr v8 x3) ∧ Hid (StandB c w (w.heap.size + 1) (.mk k i j n []) (.slice none 0 0) nv3 q3 N wr)) (fun _ _ iv _ => n0 - (intOf iv).toNat)
  case atStart => exact ⟨0, q2, [], _, _, x0, nv, rfl, rfl, Nat.zero_le _, rfl, Lib.hid (KI.start _ _ _ _ _ _ _), Lib.hid rfl, Lib.hid (Nat.le_refl _), HI2, Lib.hid (made_nil _ _), HXV, HB2⟩
  case round =>
    clear HB2 HXV
    obtain ⟨jj, q3, ps, vv, v8, x3, nv3, rfl, rfl, hjj, rfl, HKI0, HPL, HUP, HIV, HMD0, HXV0, HSD0⟩ := hrel
    obtain ⟨y0, y1, y2, y3, y4⟩ := five_cells HSD0.out.box
    change wr.cell? ⟨w.heap.size + 1, 3, none⟩ = some (.int .i64 n) at y3
    have HRK := Lib.hid (refkids_any k n wr)
    rw [HK0.out] at HRK
    by_cases hlt : jj < n0
    · have hlt' : (jj : Int) < K0 := by have := HN0.out; omega
      obtain ⟨m, hm⟩ : ∃ m, n0 - jj = m + 1 := ⟨n0 - jj - 1, by omega⟩
      have HM := Lib.hid hm
      have HKI := Lib.hid (show KI tx c.L k N n0 x0 q2 (ps.map (·.1)) x3 jj (m + 1) q3 by rw [← hm]; exact HKI0.out)
      have hwj1 : IntKind.i64.wrap ((jj : Int) + 1) = (jj : Int) + 1 := IntWalk.i64_in _ (by omega)
      clear hm HKI0
      go_wp2_with fail
      refine HRK.out.mono ?_
      rintro e wk ⟨rfl, hbk⟩
      have HSD := Lib.hid (HSD0.out.same (below_gr hbk))
      have HMD := Lib.hid (made_later HMD0.out hbk)
      have HXV := Lib.hid (HXV0.out.same (below_gr hbk))
      have hdsz := HSD.out.lt
      clear hbk HSD0 HMD0 HXV0 HRK y0 y1 y2 y3 y4
      by_cases h22 : k = 22
      · have h22b : (k == 22) = true := by simp [h22]
        have h12b : (k == 12) = false := by simp; omega
        have H22 := Lib.hid h22
        by_cases hj2 : jj = 2
        · have hjb : ((jj : Int) == 2) = true := by simp [hj2]
          have hbn : bindsN k jj = 2 := by rw [h22, hj2]; rfl
          have HBN := Lib.hid hbn
          have HYES := Lib.hid (show k = 22 ∧ jj = 2 from ⟨h22, hj2⟩)
          have HNO := Lib.hid (show ¬ (k = 12 ∧ jj = 2) by omega)
          clear h22 hj2
          have HW1 := Lib.hid (HSD.out.st.want 3 (by have := HIV.out.p; omega))
          go_wp2_with fail
          refine HW1.out.mono ?_
          rintro e w2 ⟨rfl, hs, hg⟩
          have HSA := Lib.hid (HSD.out.keepn hs hg)
          have HXA := Lib.hid (HXV.out.fw HSD.out.st hg)
          have HMA := Lib.hid (made_fw (by have := HSD.out.hR; omega) HMD.out hg)
          have HIA := Lib.hid (HIV.out.want (k := 3) (by decide))
          have HUA := Lib.hid (want_up c.L 3 q3)
          clear hs hg HW1
          obtain ⟨a1, qa, hqa⟩ : ∃ a1 qa, wantX c.L 3 q3 = (a1, qa) := ⟨_, _, rfl⟩
          rw [hqa] at HSA HIA HUA
          rw [hqa]
          dsimp only at HSA HIA HUA
          dsimp only
          have HQA := Lib.hid hqa
          clear hqa
          have HW2 := Lib.hid (HSA.out.st.want 3 (by have := HIA.out.p; omega))
          go_wp2_with fail
          refine HW2.out.mono ?_
          rintro e w3 ⟨rfl, hs, hg⟩
          have HSB := Lib.hid (HSA.out.keepn hs hg)
          have HMB := Lib.hid (made_fw (by have := HSA.out.hR; omega) HMA.out hg)
          have HIB := Lib.hid (HIA.out.want (k := 3) (by decide))
          have HUB := Lib.hid (want_up c.L 3 qa)
          clear hs hg HW2
          obtain ⟨a3, qb, hqb⟩ : ∃ a3 qb, wantX c.L 3 qa = (a3, qb) := ⟨_, _, rfl⟩
          rw [hqb] at HSB HIB HUB
          rw [hqb]
          dsimp only at HSB HIB HUB
          dsimp only
          have HQB := Lib.hid hqb
          clear hqb
          have hal := below_gr ((Below.refl w3.heap.size w3).alloc (Nat.le_refl _) (.cells #[.string ⟨a1.toArray⟩, .string ⟨a3.toArray⟩] 9))
          have HSC := Lib.hid (HSB.out.same hal)
          have HMC := Lib.hid (made_later HMB.out (below_of hal))
          have HNC := Lib.hid (nr_lit2 w3 a1 a3)
          clear hal
          go_upto_region 39 with fail
          obtain ⟨V, hV⟩ : ∃ V, V = w3.alloc (.cells #[.string ⟨a1.toArray⟩, .string ⟨a3.toArray⟩] 9) := ⟨_, rfl⟩
          rw [← hV] at HSC HMC HNC
          rw [← hV]
          clear hV
          go_wp2_with fail
          refine (refbinds_any k jj _).mono ?_
          rintro e w' ⟨rfl, hw'⟩
          obtain rfl := hw'.symm
          rw [hbn]
          obtain ⟨g8, cap8, hv8, -, -, hcs8⟩ := HNC.out.cells
          have HPU := Lib.hid (rpush_any c _ _ N [a3, a1] ⟨g8, 0, none⟩ cap8 _ HSC.out.st HSC.out.nm hcs8 (by have := HNL.out; simp; omega))
          obtain rfl : w3.heap.size = g8 := by cases hv8; rfl
          obtain rfl : 2 = cap8 := by cases hv8; rfl
          clear hcs8 hv8
          go_wp2_with fail
          refine HPU.out.mono ?_
          rintro e wq ⟨rfl, nvq, hs, hn, hg⟩
          have HSP1 := Lib.hid (HSC.out.call hs hn hg)
          have HXP1 := Lib.hid (show XV k wq (.slice (some ⟨w3.heap.size, 0, none⟩) 2 2) [a3, a1] from xv_22 H22.out)
          have HMP1 := Lib.hid (made_fw (by have := HSC.out.hR; omega) HMC.out hg)
          clear hs hn hg HPU
          obtain ⟨t1, s1, hxt⟩ : ∃ t1 s1, tx (ownS k) ([a3, a1] ++ N) qb = (t1, s1) := ⟨_, _, rfl⟩
          have HCALL := Lib.hid (HTC.out.use (ownS k) ([a3, a1] ++ N) _ qb _ (by rcases ownS_is k with h | h <;> omega) HIB.out (by have := HFU.out; have := HUQ.out; have := HU2.out; have := HUP.out; have := HUA.out; have := HUB.out; omega) (by have := HNL.out; simp; omega) HSP1.out.st HSP1.out.nm)
          rw [hxt] at HCALL
          have HXN := Lib.hid (HKI.out.step (by rw [if_pos HYES.out, HQA.out]; dsimp only; rw [HQB.out]) (by rw [if_pos HYES.out, HQA.out]; dsimp only; rw [HQB.out]) (if_neg HNO.out) (if_neg (by rw [HBN.out]; decide)) hxt)
          have HIN := Lib.hid (show IX c.L s1 by have h := HKT.out.keep (ownS k) ([a3, a1] ++ N) qb HIB.out; rw [hxt] at h; exact h)
          have HUN := Lib.hid (show qb.p ≤ s1.p by have h := HKT.out.up (ownS k) ([a3, a1] ++ N) qb; rw [hxt] at h; exact h)
          clear hxt
          go_wp2_with fail
          refine HCALL.out.mono ?_
          rintro e wn ⟨sv, nv4, rfl, hl1, hfi, hs1, hn1, hf1⟩
          obtain ⟨a2, cap2, rfl, -, -⟩ := hl1.out
          have HSN := Lib.hid (HSP1.out.call hs1 hn1 hf1)
          have HXW := Lib.hid (HXP1.out.fw HSP1.out.st hf1)
          have HMN := Lib.hid (made_fw (by have := HSP1.out.hR; omega) HMP1.out hf1)
          have HM3 := Lib.hid (made_later HMN.out ((Below.refl _ _).alloc (Nat.le_refl _) (.cells #[.int .i64 t1.k, .int .i64 t1.i, .int .i64 t1.j, .int .i64 t1.n, .slice a2 t1.kids.length cap2] 26)))
          have hsn := HSN.out.lt
          have hsz := HSP1.out.lt
          have HFN := Lib.hid hf1
          have HLN := Lib.hid hl1
          have HFI := Lib.hid hfi
          clear hl1 hfi hs1 hn1 hf1 HCALL
          go_wp2_with (at_builtin; refine wpList_append_lies _ rfl (.tmp 116) (.tmp 120) 24 rfl (w.heap.size + 2) 26 i0 _ 5 56 (by kernel_rfl) HIF.out.1 HIF.out.2.1 HIF.out.2.2.1 HIF.out.2.2.2 rfl (by decide) _ ps.length (cells5 ps) rfl HM3.out.own ⟨wn.heap.size, 0, none⟩ 1 1 (cells5 [(t1, .slice a2 t1.kids.length cap2)]) rfl rfl ?news ?one (by decide) ?max ?bytes ?base _ rfl ?next)
          case news => exact news_new _ _ _ _
          case one => exact one5 _ _
          case max => have := HPL.out; unfold maxLen; omega
          case bytes => have := HPL.out; omega
          case base => simp; omega
          case next =>
            intro g cap3 w9 hown hgrow hat _
            have HPB := Lib.hid (made_push_fw (by have := HSN.out.hR; omega) HMP1.out (by omega) HFN.out HFI.out HLN.out _ hown hgrow (by rcases hat with h | h; exact Or.inl h; exact Or.inr (h.trans (by simp))))
            have hal := below_gr ((Below.refl wn.heap.size wn).alloc (Nat.le_refl _) (.cells #[.int .i64 t1.k, .int .i64 t1.i, .int .i64 t1.j, .int .i64 t1.n, .slice a2 t1.kids.length cap2] 26))
            have hrw := made_rowT HM3.out
            have HS9 := Lib.hid ((HSN.out.same hal).row hgrow (fun b e => ⟨by have := (hrw b e).1; omega, (hrw b e).2⟩))
            have HX9 := Lib.hid ((HXW.out.same hal).row hgrow (fun b e => (hrw b e).2))
            clear hown hgrow hat hal hrw
            go_wp2_with fail
            refine (rpop_any c nv4 s1 ([a3, a1] ++ N) 2 w9 HS9.out.st HS9.out.nm (by simp) (by have := HNL.out; simp; omega)).mono ?_
            rintro e wp ⟨rfl, nv5, hs, hn, hg⟩
            rw [show (([a3, a1] ++ N)).drop 2 = N from rfl] at hn
            have HSP := Lib.hid (HS9.out.call hs hn hg)
            have HXP := Lib.hid (HX9.out.fw HS9.out.st hg)
            have HPP := Lib.hid (made_fw (by have := HSP.out.hR; omega) HPB.out hg)
            clear hs hn hg
            go_wp2_with fail
            go_roundw
            case rel => exact ⟨jj + 1, s1, ps ++ [(t1, .slice a2 t1.kids.length cap2)], _, _, [a3, a1], nv5, rfl, rfl, hlt, by go_num, Lib.hid (by rw [show n0 - (jj + 1) = m by have := HM.out; omega, List.map_append]; exact HXN.out), Lib.hid (by have := HPL.out; simp; omega), Lib.hid (by have := HUN.out; have := HUP.out; have := HUA.out; have := HUB.out; omega), HIN, HPP, HXP, HSP⟩
            case measure => simp [intOf]; omega

        · have hjb : ((jj : Int) == 2) = false := by simp; omega
          have hbn : bindsN k jj = 0 := by rw [h22]; unfold bindsN; rw [if_neg (by omega), if_neg (by omega), if_pos rfl, if_neg (by omega)]
          have HBN := Lib.hid hbn
          have HNB := Lib.hid (show ¬ (k = 22 ∧ jj = 2) by omega)
          have HNO := Lib.hid (show ¬ (k = 12 ∧ jj = 2) by omega)
          clear h22 hj2
          go_wp2_with fail
          refine (refbinds_any k jj _).mono ?_
          rintro e w' ⟨rfl, hw'⟩
          obtain rfl := hw'.symm
          rw [hbn]
          obtain ⟨t1, s1, hxt⟩ : ∃ t1 s1, tx (ownS k) N q3 = (t1, s1) := ⟨_, _, rfl⟩
          have HCALL := Lib.hid (HTC.out.use (ownS k) N _ q3 _ (by rcases ownS_is k with h | h <;> omega) HIV.out (by have := HFU.out; have := HUQ.out; have := HU2.out; have := HUP.out; omega) (by have := HNL.out; omega) HSD.out.st HSD.out.nm)
          rw [hxt] at HCALL
          have HXN := Lib.hid (HKI.out.step (if_neg HNB.out) (if_neg HNB.out) (if_neg HNO.out) (if_pos (by rw [HBN.out])) hxt)
          have HIN := Lib.hid (show IX c.L s1 by have h := HKT.out.keep (ownS k) N q3 HIV.out; rw [hxt] at h; exact h)
          have HUN := Lib.hid (show q3.p ≤ s1.p by have h := HKT.out.up (ownS k) N q3; rw [hxt] at h; exact h)
          clear hxt
          go_wp2_with fail
          refine HCALL.out.mono ?_
          rintro e wn ⟨sv, nv4, rfl, hl1, hfi, hs1, hn1, hf1⟩
          obtain ⟨a2, cap2, rfl, -, -⟩ := hl1.out
          have HSN := Lib.hid (HSD.out.call hs1 hn1 hf1)
          have HXW := Lib.hid (HXV.out.fw HSD.out.st hf1)
          have HMN := Lib.hid (made_fw (by have := HSD.out.hR; omega) HMD.out hf1)
          have HM3 := Lib.hid (made_later HMN.out ((Below.refl _ _).alloc (Nat.le_refl _) (.cells #[.int .i64 t1.k, .int .i64 t1.i, .int .i64 t1.j, .int .i64 t1.n, .slice a2 t1.kids.length cap2] 26)))
          have hsn := HSN.out.lt
          have hsz := HSD.out.lt
          have HFN := Lib.hid hf1
          have HLN := Lib.hid hl1
          have HFI := Lib.hid hfi
          clear hl1 hfi hs1 hn1 hf1 HCALL
          go_wp2_with (at_builtin; refine wpList_append_lies _ rfl (.tmp 116) (.tmp 120) 24 rfl (w.heap.size + 2) 26 i0 _ 5 56 (by kernel_rfl) HIF.out.1 HIF.out.2.1 HIF.out.2.2.1 HIF.out.2.2.2 rfl (by decide) _ ps.length (cells5 ps) rfl HM3.out.own ⟨wn.heap.size, 0, none⟩ 1 1 (cells5 [(t1, .slice a2 t1.kids.length cap2)]) rfl rfl ?news ?one (by decide) ?max ?bytes ?base _ rfl ?next)
          case news => exact news_new _ _ _ _
          case one => exact one5 _ _
          case max => have := HPL.out; unfold maxLen; omega
          case bytes => have := HPL.out; omega
          case base => simp; omega
          case next =>
            intro g cap3 w9 hown hgrow hat _
            have HPB := Lib.hid (made_push_fw (by have := HSN.out.hR; omega) HMD.out (by omega) HFN.out HFI.out HLN.out _ hown hgrow (by rcases hat with h | h; exact Or.inl h; exact Or.inr (h.trans (by simp))))
            have hal := below_gr ((Below.refl wn.heap.size wn).alloc (Nat.le_refl _) (.cells #[.int .i64 t1.k, .int .i64 t1.i, .int .i64 t1.j, .int .i64 t1.n, .slice a2 t1.kids.length cap2] 26))
            have hrw := made_rowT HM3.out
            have HS9 := Lib.hid ((HSN.out.same hal).row hgrow (fun b e => ⟨by have := (hrw b e).1; omega, (hrw b e).2⟩))
            have HX9 := Lib.hid ((HXW.out.same hal).row hgrow (fun b e => (hrw b e).2))
            clear hown hgrow hat hal hrw
            go_wp2_with fail
            go_roundw
            case rel => exact ⟨jj + 1, s1, ps ++ [(t1, .slice a2 t1.kids.length cap2)], _, _, x3, nv4, rfl, rfl, hlt, by go_num, Lib.hid (by rw [show n0 - (jj + 1) = m by have := HM.out; omega, List.map_append]; exact HXN.out), Lib.hid (by have := HPL.out; simp; omega), Lib.hid (by have := HUN.out; have := HUP.out; omega), HIN, HPB, HX9, HS9⟩
            case measure => simp [intOf]; omega

      have h22b : (k == 22) = false := by simp [h22]
      have HNB := Lib.hid (show ¬ (k = 22 ∧ jj = 2) by omega)
      have H22 := Lib.hid h22
      clear h22
      by_cases h12 : k = 12
      · have h12b : (k == 12) = true := by simp [h12]
        have hbn : bindsN k jj = 0 := by rw [h12]; unfold bindsN; rw [if_neg (by omega), if_neg (by omega), if_neg (by omega)]
        have HBN := Lib.hid hbn
        by_cases hj2 : jj = 2
        · have hjb : ((jj : Int) == 2) = true := by simp [hj2]
          have HNO := Lib.hid (show (k = 12 ∧ jj = 2) by omega)
          clear h12 hj2
          go_wp2_with fail
          refine (refbinds_any k jj _).mono ?_
          rintro e w' ⟨rfl, hw'⟩
          obtain rfl := hw'.symm
          rw [hbn]
          obtain ⟨t1, s1, hxt⟩ : ∃ t1 s1, tx 2 N q3 = (t1, s1) := ⟨_, _, rfl⟩
          have HCALL := Lib.hid (HTC.out.use 2 N _ q3 _ (Or.inr (Or.inr rfl)) HIV.out (by have := HFU.out; have := HUQ.out; have := HU2.out; have := HUP.out; omega) (by have := HNL.out; omega) HSD.out.st HSD.out.nm)
          rw [hxt] at HCALL
          have HXN := Lib.hid (HKI.out.step (if_neg HNB.out) (if_neg HNB.out) (if_pos HNO.out) (if_pos (by rw [HBN.out])) hxt)
          have HIN := Lib.hid (show IX c.L s1 by have h := HKT.out.keep 2 N q3 HIV.out; rw [hxt] at h; exact h)
          have HUN := Lib.hid (show q3.p ≤ s1.p by have h := HKT.out.up 2 N q3; rw [hxt] at h; exact h)
          clear hxt
          go_wp2_with fail
          refine HCALL.out.mono ?_
          rintro e wn ⟨sv, nv4, rfl, hl1, hfi, hs1, hn1, hf1⟩
          obtain ⟨a2, cap2, rfl, -, -⟩ := hl1.out
          have HSN := Lib.hid (HSD.out.call hs1 hn1 hf1)
          have HXW := Lib.hid (HXV.out.fw HSD.out.st hf1)
          have HMN := Lib.hid (made_fw (by have := HSD.out.hR; omega) HMD.out hf1)
          have HM3 := Lib.hid (made_later HMN.out ((Below.refl _ _).alloc (Nat.le_refl _) (.cells #[.int .i64 t1.k, .int .i64 t1.i, .int .i64 t1.j, .int .i64 t1.n, .slice a2 t1.kids.length cap2] 26)))
          have hsn := HSN.out.lt
          have hsz := HSD.out.lt
          have HFN := Lib.hid hf1
          have HLN := Lib.hid hl1
          have HFI := Lib.hid hfi
          clear hl1 hfi hs1 hn1 hf1 HCALL
          go_wp2_with (at_builtin; refine wpList_append_lies _ rfl (.tmp 116) (.tmp 120) 24 rfl (w.heap.size + 2) 26 i0 _ 5 56 (by kernel_rfl) HIF.out.1 HIF.out.2.1 HIF.out.2.2.1 HIF.out.2.2.2 rfl (by decide) _ ps.length (cells5 ps) rfl HM3.out.own ⟨wn.heap.size, 0, none⟩ 1 1 (cells5 [(t1, .slice a2 t1.kids.length cap2)]) rfl rfl ?news ?one (by decide) ?max ?bytes ?base _ rfl ?next)
          case news => exact news_new _ _ _ _
          case one => exact one5 _ _
          case max => have := HPL.out; unfold maxLen; omega
          case bytes => have := HPL.out; omega
          case base => simp; omega
          case next =>
            intro g cap3 w9 hown hgrow hat _
            have HPB := Lib.hid (made_push_fw (by have := HSN.out.hR; omega) HMD.out (by omega) HFN.out HFI.out HLN.out _ hown hgrow (by rcases hat with h | h; exact Or.inl h; exact Or.inr (h.trans (by simp))))
            have hal := below_gr ((Below.refl wn.heap.size wn).alloc (Nat.le_refl _) (.cells #[.int .i64 t1.k, .int .i64 t1.i, .int .i64 t1.j, .int .i64 t1.n, .slice a2 t1.kids.length cap2] 26))
            have hrw := made_rowT HM3.out
            have HS9 := Lib.hid ((HSN.out.same hal).row hgrow (fun b e => ⟨by have := (hrw b e).1; omega, (hrw b e).2⟩))
            have HX9 := Lib.hid ((HXW.out.same hal).row hgrow (fun b e => (hrw b e).2))
            clear hown hgrow hat hal hrw
            go_wp2_with fail
            go_roundw
            case rel => exact ⟨jj + 1, s1, ps ++ [(t1, .slice a2 t1.kids.length cap2)], _, _, x3, nv4, rfl, rfl, hlt, by go_num, Lib.hid (by rw [show n0 - (jj + 1) = m by have := HM.out; omega, List.map_append]; exact HXN.out), Lib.hid (by have := HPL.out; simp; omega), Lib.hid (by have := HUN.out; have := HUP.out; omega), HIN, HPB, HX9, HS9⟩
            case measure => simp [intOf]; omega

        · have hjb : ((jj : Int) == 2) = false := by simp; omega
          have HNO := Lib.hid (show ¬ (k = 12 ∧ jj = 2) by omega)
          clear h12 hj2
          go_wp2_with fail
          refine (refbinds_any k jj _).mono ?_
          rintro e w' ⟨rfl, hw'⟩
          obtain rfl := hw'.symm
          rw [hbn]
          obtain ⟨t1, s1, hxt⟩ : ∃ t1 s1, tx (ownS k) N q3 = (t1, s1) := ⟨_, _, rfl⟩
          have HCALL := Lib.hid (HTC.out.use (ownS k) N _ q3 _ (by rcases ownS_is k with h | h <;> omega) HIV.out (by have := HFU.out; have := HUQ.out; have := HU2.out; have := HUP.out; omega) (by have := HNL.out; omega) HSD.out.st HSD.out.nm)
          rw [hxt] at HCALL
          have HXN := Lib.hid (HKI.out.step (if_neg HNB.out) (if_neg HNB.out) (if_neg HNO.out) (if_pos (by rw [HBN.out])) hxt)
          have HIN := Lib.hid (show IX c.L s1 by have h := HKT.out.keep (ownS k) N q3 HIV.out; rw [hxt] at h; exact h)
          have HUN := Lib.hid (show q3.p ≤ s1.p by have h := HKT.out.up (ownS k) N q3; rw [hxt] at h; exact h)
          clear hxt
          go_wp2_with fail
          refine HCALL.out.mono ?_
          rintro e wn ⟨sv, nv4, rfl, hl1, hfi, hs1, hn1, hf1⟩
          obtain ⟨a2, cap2, rfl, -, -⟩ := hl1.out
          have HSN := Lib.hid (HSD.out.call hs1 hn1 hf1)
          have HXW := Lib.hid (HXV.out.fw HSD.out.st hf1)
          have HMN := Lib.hid (made_fw (by have := HSD.out.hR; omega) HMD.out hf1)
          have HM3 := Lib.hid (made_later HMN.out ((Below.refl _ _).alloc (Nat.le_refl _) (.cells #[.int .i64 t1.k, .int .i64 t1.i, .int .i64 t1.j, .int .i64 t1.n, .slice a2 t1.kids.length cap2] 26)))
          have hsn := HSN.out.lt
          have hsz := HSD.out.lt
          have HFN := Lib.hid hf1
          have HLN := Lib.hid hl1
          have HFI := Lib.hid hfi
          clear hl1 hfi hs1 hn1 hf1 HCALL
          go_wp2_with (at_builtin; refine wpList_append_lies _ rfl (.tmp 116) (.tmp 120) 24 rfl (w.heap.size + 2) 26 i0 _ 5 56 (by kernel_rfl) HIF.out.1 HIF.out.2.1 HIF.out.2.2.1 HIF.out.2.2.2 rfl (by decide) _ ps.length (cells5 ps) rfl HM3.out.own ⟨wn.heap.size, 0, none⟩ 1 1 (cells5 [(t1, .slice a2 t1.kids.length cap2)]) rfl rfl ?news ?one (by decide) ?max ?bytes ?base _ rfl ?next)
          case news => exact news_new _ _ _ _
          case one => exact one5 _ _
          case max => have := HPL.out; unfold maxLen; omega
          case bytes => have := HPL.out; omega
          case base => simp; omega
          case next =>
            intro g cap3 w9 hown hgrow hat _
            have HPB := Lib.hid (made_push_fw (by have := HSN.out.hR; omega) HMD.out (by omega) HFN.out HFI.out HLN.out _ hown hgrow (by rcases hat with h | h; exact Or.inl h; exact Or.inr (h.trans (by simp))))
            have hal := below_gr ((Below.refl wn.heap.size wn).alloc (Nat.le_refl _) (.cells #[.int .i64 t1.k, .int .i64 t1.i, .int .i64 t1.j, .int .i64 t1.n, .slice a2 t1.kids.length cap2] 26))
            have hrw := made_rowT HM3.out
            have HS9 := Lib.hid ((HSN.out.same hal).row hgrow (fun b e => ⟨by have := (hrw b e).1; omega, (hrw b e).2⟩))
            have HX9 := Lib.hid ((HXW.out.same hal).row hgrow (fun b e => (hrw b e).2))
            clear hown hgrow hat hal hrw
            go_wp2_with fail
            go_roundw
            case rel => exact ⟨jj + 1, s1, ps ++ [(t1, .slice a2 t1.kids.length cap2)], _, _, x3, nv4, rfl, rfl, hlt, by go_num, Lib.hid (by rw [show n0 - (jj + 1) = m by have := HM.out; omega, List.map_append]; exact HXN.out), Lib.hid (by have := HPL.out; simp; omega), Lib.hid (by have := HUN.out; have := HUP.out; omega), HIN, HPB, HX9, HS9⟩
            case measure => simp [intOf]; omega

      have h12b : (k == 12) = false := by simp [h12]
      have HNO := Lib.hid (show ¬ (k = 12 ∧ jj = 2) by omega)
      clear h12
      by_cases hbn : bindsN k jj = 0
      · have HBN := Lib.hid hbn
        go_wp2_with fail
        refine (refbinds_any k jj _).mono ?_
        rintro e w' ⟨rfl, hw'⟩
        obtain rfl := hw'.symm
        rw [hbn]
        obtain ⟨t1, s1, hxt⟩ : ∃ t1 s1, tx (ownS k) N q3 = (t1, s1) := ⟨_, _, rfl⟩
        have HCALL := Lib.hid (HTC.out.use (ownS k) N _ q3 _ (by rcases ownS_is k with h | h <;> omega) HIV.out (by have := HFU.out; have := HUQ.out; have := HU2.out; have := HUP.out; omega) (by have := HNL.out; omega) HSD.out.st HSD.out.nm)
        rw [hxt] at HCALL
        have HXN := Lib.hid (HKI.out.step (if_neg HNB.out) (if_neg HNB.out) (if_neg HNO.out) (if_pos (by rw [HBN.out])) hxt)
        have HIN := Lib.hid (show IX c.L s1 by have h := HKT.out.keep (ownS k) N q3 HIV.out; rw [hxt] at h; exact h)
        have HUN := Lib.hid (show q3.p ≤ s1.p by have h := HKT.out.up (ownS k) N q3; rw [hxt] at h; exact h)
        clear hxt
        go_wp2_with fail
        refine HCALL.out.mono ?_
        rintro e wn ⟨sv, nv4, rfl, hl1, hfi, hs1, hn1, hf1⟩
        obtain ⟨a2, cap2, rfl, -, -⟩ := hl1.out
        have HSN := Lib.hid (HSD.out.call hs1 hn1 hf1)
        have HXW := Lib.hid (HXV.out.fw HSD.out.st hf1)
        have HMN := Lib.hid (made_fw (by have := HSD.out.hR; omega) HMD.out hf1)
        have HM3 := Lib.hid (made_later HMN.out ((Below.refl _ _).alloc (Nat.le_refl _) (.cells #[.int .i64 t1.k, .int .i64 t1.i, .int .i64 t1.j, .int .i64 t1.n, .slice a2 t1.kids.length cap2] 26)))
        have hsn := HSN.out.lt
        have hsz := HSD.out.lt
        have HFN := Lib.hid hf1
        have HLN := Lib.hid hl1
        have HFI := Lib.hid hfi
        clear hl1 hfi hs1 hn1 hf1 HCALL
        go_wp2_with (at_builtin; refine wpList_append_lies _ rfl (.tmp 116) (.tmp 120) 24 rfl (w.heap.size + 2) 26 i0 _ 5 56 (by kernel_rfl) HIF.out.1 HIF.out.2.1 HIF.out.2.2.1 HIF.out.2.2.2 rfl (by decide) _ ps.length (cells5 ps) rfl HM3.out.own ⟨wn.heap.size, 0, none⟩ 1 1 (cells5 [(t1, .slice a2 t1.kids.length cap2)]) rfl rfl ?news ?one (by decide) ?max ?bytes ?base _ rfl ?next)
        case news => exact news_new _ _ _ _
        case one => exact one5 _ _
        case max => have := HPL.out; unfold maxLen; omega
        case bytes => have := HPL.out; omega
        case base => simp; omega
        case next =>
          intro g cap3 w9 hown hgrow hat _
          have HPB := Lib.hid (made_push_fw (by have := HSN.out.hR; omega) HMD.out (by omega) HFN.out HFI.out HLN.out _ hown hgrow (by rcases hat with h | h; exact Or.inl h; exact Or.inr (h.trans (by simp))))
          have hal := below_gr ((Below.refl wn.heap.size wn).alloc (Nat.le_refl _) (.cells #[.int .i64 t1.k, .int .i64 t1.i, .int .i64 t1.j, .int .i64 t1.n, .slice a2 t1.kids.length cap2] 26))
          have hrw := made_rowT HM3.out
          have HS9 := Lib.hid ((HSN.out.same hal).row hgrow (fun b e => ⟨by have := (hrw b e).1; omega, (hrw b e).2⟩))
          have HX9 := Lib.hid ((HXW.out.same hal).row hgrow (fun b e => (hrw b e).2))
          clear hown hgrow hat hal hrw
          go_wp2_with fail
          go_roundw
          case rel => exact ⟨jj + 1, s1, ps ++ [(t1, .slice a2 t1.kids.length cap2)], _, _, x3, nv4, rfl, rfl, hlt, by go_num, Lib.hid (by rw [show n0 - (jj + 1) = m by have := HM.out; omega, List.map_append]; exact HXN.out), Lib.hid (by have := HPL.out; simp; omega), Lib.hid (by have := HUN.out; have := HUP.out; omega), HIN, HPB, HX9, HS9⟩
          case measure => simp [intOf]; omega

      have HBN := Lib.hid hbn
      have hb1 := (binds_one k).2 H22.out jj hbn
      have hbj : bindsN k jj = 1 := bindsN_at H22.out hbn
      obtain ⟨hnx, hx1⟩ := HXV.out hb1
      obtain ⟨g8, cap8, rfl, -, -, hcs8⟩ := hnx.cells
      have HX1 := Lib.hid hx1
      have HPU := Lib.hid (rpush_any c _ _ N x3 ⟨g8, 0, none⟩ cap8 wk HSD.out.st HSD.out.nm hcs8 (by have := HNL.out; omega))
      clear hbn hb1 hnx hx1 hcs8
      go_wp2_with fail
      refine (refbinds_any k jj _).mono ?_
      rintro e w' ⟨rfl, hw'⟩
      obtain rfl := hw'.symm
      rw [hbj]
      go_wp2_with fail
      refine HPU.out.mono ?_
      rintro e wq ⟨rfl, nvq, hs, hn, hg⟩
      have HSP1 := Lib.hid (HSD.out.call hs hn hg)
      have HXP1 := Lib.hid (HXV.out.fw HSD.out.st hg)
      have HMP1 := Lib.hid (made_fw (by have := HSD.out.hR; omega) HMD.out hg)
      clear hs hn hg HPU
      obtain ⟨t1, s1, hxt⟩ : ∃ t1 s1, tx (ownS k) (x3 ++ N) q3 = (t1, s1) := ⟨_, _, rfl⟩
      have HCALL := Lib.hid (HTC.out.use (ownS k) (x3 ++ N) _ q3 _ (by rcases ownS_is k with h | h <;> omega) HIV.out (by have := HFU.out; have := HUQ.out; have := HU2.out; have := HUP.out; omega) (by have := HNL.out; have := HX1.out; simp; omega) HSP1.out.st HSP1.out.nm)
      rw [hxt] at HCALL
      have HXN := Lib.hid (HKI.out.step (if_neg HNB.out) (if_neg HNB.out) (if_neg HNO.out) (if_neg HBN.out) hxt)
      have HIN := Lib.hid (show IX c.L s1 by have h := HKT.out.keep (ownS k) (x3 ++ N) q3 HIV.out; rw [hxt] at h; exact h)
      have HUN := Lib.hid (show q3.p ≤ s1.p by have h := HKT.out.up (ownS k) (x3 ++ N) q3; rw [hxt] at h; exact h)
      clear hxt
      go_wp2_with fail
      refine HCALL.out.mono ?_
      rintro e wn ⟨sv, nv4, rfl, hl1, hfi, hs1, hn1, hf1⟩
      obtain ⟨a2, cap2, rfl, -, -⟩ := hl1.out
      have HSN := Lib.hid (HSP1.out.call hs1 hn1 hf1)
      have HXW := Lib.hid (HXP1.out.fw HSP1.out.st hf1)
      have HMN := Lib.hid (made_fw (by have := HSP1.out.hR; omega) HMP1.out hf1)
      have HM3 := Lib.hid (made_later HMN.out ((Below.refl _ _).alloc (Nat.le_refl _) (.cells #[.int .i64 t1.k, .int .i64 t1.i, .int .i64 t1.j, .int .i64 t1.n, .slice a2 t1.kids.length cap2] 26)))
      have hsn := HSN.out.lt
      have hsz := HSP1.out.lt
      have HFN := Lib.hid hf1
      have HLN := Lib.hid hl1
      have HFI := Lib.hid hfi
      clear hl1 hfi hs1 hn1 hf1 HCALL
      go_wp2_with (at_builtin; refine wpList_append_lies _ rfl (.tmp 116) (.tmp 120) 24 rfl (w.heap.size + 2) 26 i0 _ 5 56 (by kernel_rfl) HIF.out.1 HIF.out.2.1 HIF.out.2.2.1 HIF.out.2.2.2 rfl (by decide) _ ps.length (cells5 ps) rfl HM3.out.own ⟨wn.heap.size, 0, none⟩ 1 1 (cells5 [(t1, .slice a2 t1.kids.length cap2)]) rfl rfl ?news ?one (by decide) ?max ?bytes ?base _ rfl ?next)
      case news => exact news_new _ _ _ _
      case one => exact one5 _ _
      case max => have := HPL.out; unfold maxLen; omega
      case bytes => have := HPL.out; omega
      case base => simp; omega
      case next =>
        intro g cap3 w9 hown hgrow hat _
        have HPB := Lib.hid (made_push_fw (by have := HSN.out.hR; omega) HMP1.out (by omega) HFN.out HFI.out HLN.out _ hown hgrow (by rcases hat with h | h; exact Or.inl h; exact Or.inr (h.trans (by simp))))
        have hal := below_gr ((Below.refl wn.heap.size wn).alloc (Nat.le_refl _) (.cells #[.int .i64 t1.k, .int .i64 t1.i, .int .i64 t1.j, .int .i64 t1.n, .slice a2 t1.kids.length cap2] 26))
        have hrw := made_rowT HM3.out
        have HS9 := Lib.hid ((HSN.out.same hal).row hgrow (fun b e => ⟨by have := (hrw b e).1; omega, (hrw b e).2⟩))
        have HX9 := Lib.hid ((HXW.out.same hal).row hgrow (fun b e => (hrw b e).2))
        clear hown hgrow hat hal hrw
        go_wp2_with fail
        refine (rpop_any c nv4 s1 (x3 ++ N) 1 w9 HS9.out.st HS9.out.nm (by have := HX1.out; simp; omega) (by have := HNL.out; have := HX1.out; simp; omega)).mono ?_
        rintro e wp ⟨rfl, nv5, hs, hn, hg⟩
        rw [show ((x3 ++ N)).drop 1 = N from List.drop_left' HX1.out] at hn
        have HSP := Lib.hid (HS9.out.call hs hn hg)
        have HXP := Lib.hid (HX9.out.fw HS9.out.st hg)
        have HPP := Lib.hid (made_fw (by have := HSP.out.hR; omega) HPB.out hg)
        clear hs hn hg
        go_wp2_with fail
        go_roundw
        case rel => exact ⟨jj + 1, s1, ps ++ [(t1, .slice a2 t1.kids.length cap2)], _, _, x3, nv5, rfl, rfl, hlt, by go_num, Lib.hid (by rw [show n0 - (jj + 1) = m by have := HM.out; omega, List.map_append]; exact HXN.out), Lib.hid (by have := HPL.out; simp; omega), Lib.hid (by have := HUN.out; have := HUP.out; omega), HIN, HPP, HXP, HSP⟩
        case measure => simp [intOf]; omega
    · obtain rfl : jj = n0 := by omega
      have hlt' : ¬ (jj : Int) < K0 := by have := HN0.out; omega
      have HKD := Lib.hid (show kidsX tx c.L k (ownS k) x0 0 jj N q2 = (ps.map (·.1), q3) from by have h := HKI0.out; rw [Nat.sub_self] at h; exact h.done)
      clear HKI0
      go_wp2_with fail
      refine HRK.out.mono ?_
      rintro e wk ⟨rfl, hbk⟩
      have HSD := Lib.hid (HSD0.out.same (below_gr hbk))
      have HML := Lib.hid (made_lies (made_later HMD0.out hbk))
      clear hbk HSD0 HMD0 HXV0 HRK y0 y1 y2 y3 y4
      have HWT := Lib.hid (HSD.out.st.want 2 (by have := HIV.out.p; omega))
      go_wp2_with fail
      refine HWT.out.mono ?_
      rintro e w8 ⟨rfl, hs8, hf8⟩
      have hl8 := liesP_fw (by have := HSD.out.hR; omega) HML.out hf8
      obtain ⟨al, cl, hvv, -, -⟩ := hl8.out
      rw [List.length_map] at hvv
      subst hvv
      have HS8 := Lib.hid (HSD.out.keepn hs8 hf8)
      have hl9 : LiesP (w8.setCell ⟨w.heap.size + 1, 4, none⟩ (.slice al ps.length cl)) (Own (w.heap.size + 2) (w8.setCell ⟨w.heap.size + 1, 4, none⟩ (.slice al ps.length cl))) (ps.map fun p : Tm × Value => p.1) (.slice al ps.length cl) :=
        hl8.keep (fun b hb _ => Below.heap_setCell _ _ _ _ (by have := hb.1; show b ≠ w.heap.size + 1; omega)) (fun b hb _ => hb.same (Below.heap_setCell _ _ _ _ (by have := hb.1; show b ≠ w.heap.size + 1; omega)))
      have HS9 := Lib.hid (HS8.out.setv (.slice al ps.length cl))
      obtain ⟨x0', x1', x2', x3', x4'⟩ := five_cells HS8.out.box
      obtain ⟨f0, f1, f2, f3, f4⟩ := five_free HS8.out.box
      have HL9 := Lib.hid hl9
      clear hs8 hf8 hl8 hl9 HWT HML
      go_upto_region 50 with fail
      obtain ⟨W9, hW9⟩ : ∃ W9, W9 = w8.setCell ⟨w.heap.size + 1, 4, none⟩ (.slice al ps.length cl) := ⟨_, rfl⟩
      rw [← hW9] at HS9 HL9
      rw [← hW9]
      clear hW9 x0' x1' x2' x3' x4' f0 f1 f2 f3 f4 HS8 HSD
      have hR' := HR.out
      have HE := Lib.hid (tend (D := w.heap.size + 2) (x := Tm.mk k i j n (ps.map fun p : Tm × Value => p.1)) HS9.out.res HS9.out.st HS9.out.nm HS9.out.fr (by omega) HL9.out (tm_fine (by omega) (by omega) (by omega) (by omega)))
      clear hR'
      obtain ⟨x0', x1', x2', x3', x4'⟩ := five_cells HS9.out.box
      change W9.cell? ⟨w.heap.size + 1, 0, none⟩ = some (.int .i64 k) at x0'
      change W9.cell? ⟨w.heap.size + 1, 1, none⟩ = some (.int .i64 i) at x1'
      change W9.cell? ⟨w.heap.size + 1, 2, none⟩ = some (.int .i64 j) at x2'
      change W9.cell? ⟨w.heap.size + 1, 3, none⟩ = some (.int .i64 n) at x3'
      obtain ⟨z0, z1, z2, z3, z4⟩ := five_cells HS9.out.res
      obtain ⟨g0, g1, g2, g3, g4⟩ := five_free HS9.out.res
      have hz9 := HS9.out.res
      go_wp2
      (try simp only [Exit.inBlock, Exit.then])
      refine bodyPost_ret (results_cell_row rfl _ _ w.heap.size _ _ _ du rfl (five_set hz9) hu1 (by cases du <;> first | rfl | exact hu2) size_term) rfl ?_
      rw [HKN.out, HKD.out]
      exact HE.out
end Go.Proofs.YtlalolnhpcbjnaaDoor.Rt

namespace Go.Proofs.YtlalolnhpcbjnaaDoor

theorem headN_form (x : List UInt8) : headN x = 0 ∨ headN x = 1 ∨ (3 ≤ headN x ∧ headN x ≤ 23) := by
  unfold headN
  split
  · omega
  · split
    · rename_i i hi
      have := idxL_lt hi
      simp [headsW] at this
      omega
    · omega
end Go.Proofs.YtlalolnhpcbjnaaDoor

namespace Go.Proofs.YtlalolnhpcbjnaaDoor.Rt
open Go.RowKit
open Dv (XS kindAt wordAt placeAt wantX rrO rrX badV PTok hltD typeD)

/-- What stands by while a term is read: the result's block. -/
structure StandR (c : PR) (w : World) (nv : Value) (s : XS) (N : Names) (w' : World) : Prop where
  res : w'.heap[w.heap.size]? = some zeroObj
  st : RS c nv s w'
  nm : NR w' nv N
  fr : Fw c w w'
  hR : c.R < w.heap.size
theorem StandR.call {c : PR} {w w' wn : World} {nv nv1 : Value} {s s1 : XS} {N N1 : Names} (h : StandR c w nv s N w') (hs : RS c nv1 s1 wn) (hn : NR wn nv1 N1) (hf : Fw c w' wn) : StandR c w nv1 s1 N1 wn :=
  ⟨(hf.block _ (hltD h.res) (fun e => by have := Option.some.inj e; have := h.hR; omega)).trans h.res, hs, hn, h.fr.trans hf, h.hR⟩
theorem StandR.keepn {c : PR} {w w' wn : World} {nv : Value} {s s1 : XS} {N : Names} (h : StandR c w nv s N w') (hs : RS c nv s1 wn) (hf : Fw c w' wn) : StandR c w nv s1 N wn := h.call hs (h.nm.fw h.st hf) hf
theorem StandR.same {c : PR} {w w' wn : World} {nv : Value} {s : XS} {N : Names} (h : StandR c w nv s N w') (hg : w'.grownBy wn none) : StandR c w nv s N wn := h.keepn (h.st.same hg) (Fw.same (Fw.refl c w') hg)
theorem list_range {L : List Tok} {so : Int} {s : XS} (h : listK L so s ≠ 0) : listK L so s = 1 ∨ (3 ≤ listK L so s ∧ listK L so s ≤ 23) := by
  have h2 := (listK_kind h).2
  rcases headN_form (wordAt L s.p) with e | e | e
  · exact absurd (h2.trans e) h
  · exact Or.inl (h2.trans e)
  · exact Or.inr (by rw [h2]; exact e)
def ot7_0 : Oper := { dst := some 26, op := Go.Op.move (Go.Operand.tmp 0), type := 50, pos := "ref.go:141", after := #[], guard := none }
def ot7_1 : Oper := { dst := some 27, op := Go.Op.nilCheck (Go.Operand.tmp 26), type := 0, pos := "ref.go:141", after := #[{ on := 0, ground := Go.Ground.data }], guard := none }
def ot7_2 : Oper := { dst := some 28, op := Go.Op.fieldAddr 52 (Go.Operand.tmp 27) 5, type := 0, pos := "ref.go:141", after := #[{ on := 1, ground := Go.Ground.data }], guard := none }
def ot7_3 : Oper := { dst := some 29, op := Go.Op.load 22 (Go.Operand.tmp 28), type := 22, pos := "ref.go:141", after := #[{ on := 2, ground := Go.Ground.data }], guard := none }
def ot7_4 : Oper := { dst := some 30, op := Go.Op.move (Go.Operand.tmp 5), type := 3, pos := "ref.go:141", after := #[], guard := none }
def ot7_5 : Oper := { dst := some 31, op := Go.Op.indexAddr 22 (Go.Operand.tmp 29) (Go.Operand.tmp 30), type := 0, pos := "ref.go:141", after := #[{ on := 3, ground := Go.Ground.data }, { on := 4, ground := Go.Ground.data }], guard := none }
def ot7_6 : Oper := { dst := some 32, op := Go.Op.load 9 (Go.Operand.tmp 31), type := 9, pos := "ref.go:141", after := #[{ on := 5, ground := Go.Ground.data }], guard := none }
def ot7_7 : Oper := { dst := some 33, op := Go.Op.move (Go.Operand.tmp 0), type := 50, pos := "ref.go:141", after := #[], guard := none }
def ot7_8 : Oper := { dst := some 34, op := Go.Op.call { callee := Go.Callee.value (Go.Operand.func 43), args := #[Go.Operand.tmp 33], argTypes := #[50] }, type := 9, pos := "ref.go:141", after := #[{ on := 7, ground := Go.Ground.data }], guard := none }
def ot7_9 : Oper := { dst := some 35, op := Go.Op.binOp Go.BinOp.eql 9 (Go.Operand.tmp 32) (Go.Operand.tmp 34) 9, type := 4, pos := "ref.go:141", after := #[{ on := 6, ground := Go.Ground.data }, { on := 8, ground := Go.Ground.data }], guard := none }
set_option maxHeartbeats 8000000 in
set_option maxRecDepth 20000 in
theorem rterm_step (c : PR) (f : Nat) (hlen : c.L.length ≤ 1000000) (htl : ∀ t ∈ c.L, t.s.length ≤ 10000000) (hne : ∀ t ∈ c.L, t.k = 3 → t.s ≠ []) (hi : 0 ≤ c.i ∧ c.i ≤ 1000) (hj : 0 ≤ c.j ∧ c.j ≤ 1000) (hT : TermC c f (termX c.L c.i c.j f)) : TermC c (f + 1) (termX c.L c.i c.j (f + 1)) := by
  refine ⟨?_⟩
  intro so N nv s w hso hx hf hN h hn
  obtain ⟨du, hu1, hu2⟩ := under_term
  have HBODY := Lib.hid (fun k hk N nv s w hx hf hN h hn => rbody_any c f (levX c.L c.i c.j f) (termX c.L c.i c.j f) (rlevel_any c hlen htl hi hj f) (levX_keep hi hj f) hT (termX_keep hi hj f) hlen k hk N nv s w hx hf hN h hn)
  have HNE := Lib.hid hne
  have HSO := Lib.hid hso
  have HI := Lib.hid hx
  have hp := hx.p
  have HFU := Lib.hid hf
  have HNL := Lib.hid hN
  have HB0 := Lib.hid (show StandR c w nv s N (w.alloc zeroObj) from by
    have hg := below_gr ((Below.refl w.heap.size w).alloc (Nat.le_refl _) zeroObj)
    exact ⟨alloc_new _ _, h.same hg, hn.same hg, Fw.same (Fw.refl c w) hg, h.lt⟩)
  clear hT hne hso hx hf hN h hn htl
  obtain ⟨X, hX⟩ : ∃ X, termX c.L c.i c.j (f + 1) so N s = X := ⟨_, rfl⟩
  rw [hX]
  cases hb : s.bad with
  | some b =>
    have HXX := Lib.hid (show (Tm.zero, s) = X from (termX_sticks _ _ _ _ _ _ _ _ hb).symm.trans hX)
    obtain ⟨c0, c1, c2, c3, c4, c5⟩ := HB0.out.st.cells
    rw [hb] at c2
    unfold badV at c2
    have h0 : (0 : Int) ≤ (b : Int) := by omega
    obtain ⟨z0, z1, z2, z3, z4⟩ := five_cells HB0.out.res
    obtain ⟨g0, g1, g2, g3, g4⟩ := five_free HB0.out.res
    have hz := HB0.out.res
    have HE := Lib.hid (tend_zero HB0.out.st HB0.out.nm HB0.out.fr)
    clear hX hb
    go_enter Tryd.func23, Tryd.ntmps23
    go_wp2
    refine bodyPost_ret (results_cell_row rfl _ _ w.heap.size _ _ _ du rfl hz hu1 (by cases du <;> first | rfl | exact hu2) size_term) rfl ?_
    rw [← HXX.out]
    exact HE.out
  | none =>
  unfold termX at hX
  rw [hb] at hX
  dsimp only at hX
  have HX := Lib.hid hX
  obtain ⟨c0, c1, c2, c3, c4, c5⟩ := HB0.out.st.cells
  rw [hb] at c2
  unfold badV at c2
  have HBN := Lib.hid hb
  clear hX hb
  go_enter Tryd.func23, Tryd.ntmps23
  go_wp2_with fail
  refine HB0.out.st.kind.mono ?_
  rintro e w1 ⟨rfl, hs, hg⟩
  have HB1 := Lib.hid (HB0.out.same hg)
  clear hs hg c0 c1 c2 c3 c4 c5 HB0
  by_cases hk3 : kindAt c.L s.p = 3
  · have hki : ((kindAt c.L s.p : Nat) : Int) = 3 := by omega
    rw [hki]
    obtain ⟨wd, hwd⟩ : ∃ wd, wordAt c.L s.p = wd := ⟨_, rfl⟩
    have HX3 := Lib.hid (show (match idxL wd N with | some q => (Tm.mk 2 q 0 0 [], s.next) | none => (Tm.zero, s.fail)) = X by rw [← HX.out, if_pos hk3, hwd]; (try rfl))
    obtain ⟨g, cap, rfl, hc1, hc2, -⟩ := HB1.out.nm.cells
    obtain ⟨c0, c1, c2, c3, c4, c5⟩ := HB1.out.st.cells
    have hNs : N.length ≤ 50000000 := by have := HNL.out; omega
    have hw2 : IntKind.i64.wrap ((N.length : Int) - 1) = (N.length : Int) - 1 := IntWalk.i64_in _ (by omega)
    clear HX hk3 hki
    go_wp2_with fail
    go_loopw [5] (fun iv wr => ∃ (p : Nat) (x : Int), p ≤ N.length ∧ iv = .int .i64 x ∧ x = (p : Int) - 1 ∧ Hid (idxL wd N = (idxL wd (N.drop (N.length - p))).map (· + (N.length - p))) ∧ Hid (StandR c w (.slice (some ⟨g, 0, none⟩) N.length cap) s N wr)) (fun iv _ => (intOf iv + 1).toNat)
    case atStart => exact ⟨N.length, (N.length : Int) - 1, Nat.le_refl _, rfl, rfl, Lib.hid (by rw [Nat.sub_self, List.drop_zero]; cases idxL wd N <;> rfl), HB1⟩
    case round =>
      clear c0 c1 c2 c3 c4 c5 HB1
      obtain ⟨p0, x, hp0, rfl, hxp, HNO, HSR⟩ := hrel
      obtain ⟨c0, c1, c2, c3, c4, c5⟩ := HSR.out.st.cells
      by_cases hpz : p0 = 0
      · have HXX := Lib.hid (show (Tm.zero, s.fail) = X by
          have h1 : idxL wd N = none := by rw [HNO.out, hpz, Nat.sub_zero, List.drop_length]; rfl
          rw [← HX3.out, h1])
        obtain rfl : x = -1 := by omega
        clear hpz hxp HNO HX3 hp0 c0 c1 c2 c3 c4 c5
        obtain ⟨c0, c1, c2, c3, c4, c5⟩ := HSR.out.st.cells
        have f1 := HSR.out.st.free 1
        go_wp2_with fail
        refine HSR.out.st.failed.mono ?_
        rintro e wz ⟨rfl, hs, hg⟩
        have HBZ := Lib.hid (HSR.out.keepn hs hg)
        clear hs hg
        clear c0 c1 c2 c3 c4 c5 f1
        obtain ⟨z0, z1, z2, z3, z4⟩ := five_cells HBZ.out.res
        obtain ⟨g0, g1, g2, g3, g4⟩ := five_free HBZ.out.res
        have hz := HBZ.out.res
        have HE := Lib.hid (tend_zero5 HBZ.out.res HBZ.out.st HBZ.out.nm HBZ.out.fr)
        go_wp2
        (try simp only [Exit.inBlock, Exit.then])
        refine bodyPost_ret (results_cell_row rfl _ _ w.heap.size _ _ _ du rfl (five_set hz) hu1 (by cases du <;> first | rfl | exact hu2) size_term) rfl ?_
        rw [← HXX.out]
        exact HE.out
      · obtain ⟨p, rfl⟩ : ∃ p, p0 = p + 1 := ⟨p0 - 1, by omega⟩
        obtain rfl : x = (p : Int) := by omega
        have hpl : p < N.length := hp0
        obtain ⟨g', cap', hgv, -, -, hcs⟩ := HSR.out.nm.cells
        obtain rfl : g = g' := by cases hgv; rfl
        obtain ⟨y, hy⟩ : ∃ y, N[N.length - (p + 1)]'(by omega) = y := ⟨_, rfl⟩
        have hc : wr.cell? ⟨g, p, none⟩ = some (.string ⟨y.toArray⟩) := by
          have h1 : (N.reverse.map strV)[p]? = some (strV y) := by
            rw [List.getElem?_map, List.getElem?_reverse hpl, show N.length - 1 - p = N.length - (p + 1) by omega, List.getElem?_eq_getElem (by omega : N.length - (p + 1) < N.length), hy]
            rfl
          have h2 := hcs p _ h1
          rw [Addr.add_lit] at h2
          simpa [strV] using h2
        have HD := Lib.hid (show N.drop (N.length - (p + 1)) = y :: N.drop (N.length - (p + 1) + 1) by rw [List.drop_eq_getElem_cons (by omega : N.length - (p + 1) < N.length), hy])
        have HWD := Lib.hid (HSR.out.st.drew.word)
        clear hgv hcs hy hpz hxp hp0
        cases hyx : (y == wd)
        · go_wp2_with fail
          refine wp_region_held_drew (S := fun w' => w'.cell? ⟨c.R, 5, none⟩ = some (.slice (some ⟨g, 0, none⟩) N.length cap) ∧ w'.cell? ⟨g, p, none⟩ = some (.string ⟨y.toArray⟩)) (by kernel_rfl) ?_ (fun hHeld => ?_)
          · (try dsimp only)
            (first | exact ⟨c5, hc⟩ | exact ⟨HSN.out.st.cells.2.2.2.2.2, HCN.out⟩)
          refine take_at 0 26 ot7_0 (v := ?_) (Or.inl ⟨by rfl, ?_⟩) ?_
          rotate_left 1
          · ((intro w hSw; (try dsimp only at hSw); unfold ot7_0; go_simp) <;> with_reducible rfl)
          (try simp only [Act.put, List.setIfInBounds_toArray, List.set_cons_zero, List.set_cons_succ])
          refine take_at 1 27 ot7_1 (v := ?_) (Or.inl ⟨by rfl, ?_⟩) ?_
          rotate_left 1
          · ((intro w hSw; (try dsimp only at hSw); unfold ot7_1; go_simp) <;> with_reducible rfl)
          (try simp only [Act.put, List.setIfInBounds_toArray, List.set_cons_zero, List.set_cons_succ])
          refine take_at 2 28 ot7_2 (v := ?_) (Or.inl ⟨by rfl, ?_⟩) ?_
          rotate_left 1
          · ((intro w hSw; (try dsimp only at hSw); unfold ot7_2; go_simp) <;> with_reducible rfl)
          (try simp only [Act.put, List.setIfInBounds_toArray, List.set_cons_zero, List.set_cons_succ])
          refine take_at 3 29 ot7_3 (v := ?_) (Or.inl ⟨by rfl, ?_⟩) ?_
          rotate_left 1
          · ((intro w hSw; (try dsimp only at hSw); unfold ot7_3; go_simp) <;> with_reducible rfl)
          (try simp only [Act.put, List.setIfInBounds_toArray, List.set_cons_zero, List.set_cons_succ])
          refine take_at 4 30 ot7_4 (v := ?_) (Or.inl ⟨by rfl, ?_⟩) ?_
          rotate_left 1
          · ((intro w hSw; (try dsimp only at hSw); unfold ot7_4; go_simp) <;> with_reducible rfl)
          (try simp only [Act.put, List.setIfInBounds_toArray, List.set_cons_zero, List.set_cons_succ])
          refine take_at 5 31 ot7_5 (v := ?_) (Or.inl ⟨by rfl, ?_⟩) ?_
          rotate_left 1
          · ((intro w hSw; (try dsimp only at hSw); unfold ot7_5; go_simp) <;> with_reducible rfl)
          (try simp only [Act.put, List.setIfInBounds_toArray, List.set_cons_zero, List.set_cons_succ])
          refine take_at 6 32 ot7_6 (v := ?_) (Or.inl ⟨by rfl, ?_⟩) ?_
          rotate_left 1
          · ((intro w hSw; (try dsimp only at hSw); unfold ot7_6; go_simp) <;> with_reducible rfl)
          (try simp only [Act.put, List.setIfInBounds_toArray, List.set_cons_zero, List.set_cons_succ])
          refine take_at 7 33 ot7_7 (v := ?_) (Or.inl ⟨by rfl, ?_⟩) ?_
          rotate_left 1
          · ((intro w hSw; (try dsimp only at hSw); unfold ot7_7; go_simp) <;> with_reducible rfl)
          (try simp only [Act.put, List.setIfInBounds_toArray, List.set_cons_zero, List.set_cons_succ])
          refine wpAnyH_ready (rs := [8]) (by kernel_rfl) (by simp) ?_
          refine AllReadyH.cons (o := ot7_8) rfl (fun K hK => ?_) ?_
          · unfold ot7_8
            go_simp
            (go_at_call 43; with_reducible refine Calls.mono HWD.out ?_)
            rintro e wn ⟨rfl, hs2, hg2⟩
            rw [hwd]
            have HSN := Lib.hid (HSR.out.same ((drew_gr wr).trans hg2))
            have HCN := Lib.hid (cell_gr ((drew_gr wr).trans hg2) hc)
            clear hs2 hg2
            refine hK.out _ _ ?_ (fun hHeld => ?_)
            · (try dsimp only)
              (first | exact ⟨c5, hc⟩ | exact ⟨HSN.out.st.cells.2.2.2.2.2, HCN.out⟩)
            clear hK K
            (try simp only [Act.put, List.setIfInBounds_toArray, List.set_cons_zero, List.set_cons_succ])
            refine take_at 9 35 ot7_9 (v := ?_) (Or.inl ⟨by rfl, ?_⟩) ?_
            rotate_left 1
            · ((intro w hSw; (try dsimp only at hSw); unfold ot7_9; go_simp) <;> with_reducible rfl)
            (try simp only [Act.put, List.setIfInBounds_toArray, List.set_cons_zero, List.set_cons_succ])
            refine wpAnyH_done (by kernel_rfl) ?_ _
            clear hHeld
            have hwp : IntKind.i64.wrap ((p : Int) - 1) = (p : Int) - 1 := IntWalk.i64_in _ (by omega)
            go_wp2_with fail
            go_round
            case rel => exact ⟨p, (p : Int) - 1, by omega, by go_num, rfl, Lib.hid (by
              rw [HNO.out, HD.out]
              simp only [idxL]
              rw [if_neg (by simpa using hyx)]
              have e : N.length - p = N.length - (p + 1) + 1 := by omega
              rw [e]
              cases idxL wd (N.drop (N.length - (p + 1) + 1)) <;> simp; omega), HSN⟩
            case measure => simp [intOf] <;> omega
          exact AllReadyH.nil

        · go_wp2_with fail
          refine wp_region_held_drew (S := fun w' => w'.cell? ⟨c.R, 5, none⟩ = some (.slice (some ⟨g, 0, none⟩) N.length cap) ∧ w'.cell? ⟨g, p, none⟩ = some (.string ⟨y.toArray⟩)) (by kernel_rfl) ?_ (fun hHeld => ?_)
          · (try dsimp only)
            (first | exact ⟨c5, hc⟩ | exact ⟨HSN.out.st.cells.2.2.2.2.2, HCN.out⟩)
          refine take_at 0 26 ot7_0 (v := ?_) (Or.inl ⟨by rfl, ?_⟩) ?_
          rotate_left 1
          · ((intro w hSw; (try dsimp only at hSw); unfold ot7_0; go_simp) <;> with_reducible rfl)
          (try simp only [Act.put, List.setIfInBounds_toArray, List.set_cons_zero, List.set_cons_succ])
          refine take_at 1 27 ot7_1 (v := ?_) (Or.inl ⟨by rfl, ?_⟩) ?_
          rotate_left 1
          · ((intro w hSw; (try dsimp only at hSw); unfold ot7_1; go_simp) <;> with_reducible rfl)
          (try simp only [Act.put, List.setIfInBounds_toArray, List.set_cons_zero, List.set_cons_succ])
          refine take_at 2 28 ot7_2 (v := ?_) (Or.inl ⟨by rfl, ?_⟩) ?_
          rotate_left 1
          · ((intro w hSw; (try dsimp only at hSw); unfold ot7_2; go_simp) <;> with_reducible rfl)
          (try simp only [Act.put, List.setIfInBounds_toArray, List.set_cons_zero, List.set_cons_succ])
          refine take_at 3 29 ot7_3 (v := ?_) (Or.inl ⟨by rfl, ?_⟩) ?_
          rotate_left 1
          · ((intro w hSw; (try dsimp only at hSw); unfold ot7_3; go_simp) <;> with_reducible rfl)
          (try simp only [Act.put, List.setIfInBounds_toArray, List.set_cons_zero, List.set_cons_succ])
          refine take_at 4 30 ot7_4 (v := ?_) (Or.inl ⟨by rfl, ?_⟩) ?_
          rotate_left 1
          · ((intro w hSw; (try dsimp only at hSw); unfold ot7_4; go_simp) <;> with_reducible rfl)
          (try simp only [Act.put, List.setIfInBounds_toArray, List.set_cons_zero, List.set_cons_succ])
          refine take_at 5 31 ot7_5 (v := ?_) (Or.inl ⟨by rfl, ?_⟩) ?_
          rotate_left 1
          · ((intro w hSw; (try dsimp only at hSw); unfold ot7_5; go_simp) <;> with_reducible rfl)
          (try simp only [Act.put, List.setIfInBounds_toArray, List.set_cons_zero, List.set_cons_succ])
          refine take_at 6 32 ot7_6 (v := ?_) (Or.inl ⟨by rfl, ?_⟩) ?_
          rotate_left 1
          · ((intro w hSw; (try dsimp only at hSw); unfold ot7_6; go_simp) <;> with_reducible rfl)
          (try simp only [Act.put, List.setIfInBounds_toArray, List.set_cons_zero, List.set_cons_succ])
          refine take_at 7 33 ot7_7 (v := ?_) (Or.inl ⟨by rfl, ?_⟩) ?_
          rotate_left 1
          · ((intro w hSw; (try dsimp only at hSw); unfold ot7_7; go_simp) <;> with_reducible rfl)
          (try simp only [Act.put, List.setIfInBounds_toArray, List.set_cons_zero, List.set_cons_succ])
          refine wpAnyH_ready (rs := [8]) (by kernel_rfl) (by simp) ?_
          refine AllReadyH.cons (o := ot7_8) rfl (fun K hK => ?_) ?_
          · unfold ot7_8
            go_simp
            (go_at_call 43; with_reducible refine Calls.mono HWD.out ?_)
            rintro e wn ⟨rfl, hs2, hg2⟩
            rw [hwd]
            have HSN := Lib.hid (HSR.out.same ((drew_gr wr).trans hg2))
            have HCN := Lib.hid (cell_gr ((drew_gr wr).trans hg2) hc)
            clear hs2 hg2
            refine hK.out _ _ ?_ (fun hHeld => ?_)
            · (try dsimp only)
              (first | exact ⟨c5, hc⟩ | exact ⟨HSN.out.st.cells.2.2.2.2.2, HCN.out⟩)
            clear hK K
            (try simp only [Act.put, List.setIfInBounds_toArray, List.set_cons_zero, List.set_cons_succ])
            refine take_at 9 35 ot7_9 (v := ?_) (Or.inl ⟨by rfl, ?_⟩) ?_
            rotate_left 1
            · ((intro w hSw; (try dsimp only at hSw); unfold ot7_9; go_simp) <;> with_reducible rfl)
            (try simp only [Act.put, List.setIfInBounds_toArray, List.set_cons_zero, List.set_cons_succ])
            refine wpAnyH_done (by kernel_rfl) ?_ _
            clear hHeld
            have hst := HSN.out.st.step
            have HSM := Lib.hid (HSN.out.keepn hst.1 hst.2)
            clear hst
            obtain ⟨c0, c1, c2, c3, c4, c5⟩ := HSN.out.st.cells
            have f1 := HSN.out.st.free 1
            have hw1 : IntKind.i64.wrap ((s.p : Int) + 1) = (s.p : Int) + 1 := IntWalk.i64_in _ (by omega)
            have hw2 : IntKind.i64.wrap ((N.length : Int) - 1) = (N.length : Int) - 1 := IntWalk.i64_in _ (by omega)
            have hw3 : IntKind.i64.wrap ((N.length : Int) - 1 - (p : Int)) = ((N.length - (p + 1) : Nat) : Int) := by rw [IntWalk.i64_in _ (by omega)]; omega
            go_upto_region 9 with fail
            obtain ⟨V, hV⟩ : ∃ V, V = wn.setCell ⟨c.R, 1, none⟩ (.int .i64 ((s.p : Int) + 1)) := ⟨_, rfl⟩
            rw [← hV] at HSM
            rw [← hV]
            clear hV
            clear c0 c1 c2 c3 c4 c5 f1
            obtain ⟨c0, c1, c2, c3, c4, c5⟩ := HSM.out.st.cells
            obtain ⟨qn, hqn⟩ : ∃ qn : Nat, N.length - (p + 1) = qn := ⟨_, rfl⟩
            rw [hqn] at hw3
            have hqL : qn ≤ 50000000 := by omega
            have HXX := Lib.hid (show (Tm.mk 2 (qn : Int) 0 0 [], s.next) = X by
              have h1 : idxL wd N = some (N.length - (p + 1)) := by
                rw [HNO.out, HD.out]
                simp only [idxL]
                rw [if_pos (by simpa using hyx)]
                simp
              rw [← HX3.out, h1, hqn])
            clear hqn hyx
            obtain ⟨z0, z1, z2, z3, z4⟩ := five_cells HSM.out.res
            obtain ⟨g0, g1, g2, g3, g4⟩ := five_free HSM.out.res
            have hz := HSM.out.res
            have HE := Lib.hid (tend (D := w.heap.size + 1) (x := Tm.mk 2 (qn : Int) 0 0 []) HSM.out.res HSM.out.st HSM.out.nm HSM.out.fr (by omega) (liesP_nil _ _) (tm_fine (by omega) (by omega) (by omega) (by omega)))
            go_wp2
            (try simp only [Exit.inBlock, Exit.then])
            refine bodyPost_ret (results_cell_row rfl _ _ w.heap.size _ _ _ du rfl (five_set hz) hu1 (by cases du <;> first | rfl | exact hu2) size_term) rfl ?_
            rw [← HXX.out]
            exact HE.out
          exact AllReadyH.nil

  have hki : ¬ ((kindAt c.L s.p : Nat) : Int) = 3 := by omega
  have HW1 := Lib.hid (HB1.out.st.want 1 (by omega))
  by_cases hk1 : kindAt c.L s.p = 1
  case neg =>
    have e1 : wantX c.L 1 s = ([], s.fail) := by unfold wantX; rw [HBN.out]; simp only; rw [if_neg hk1]
    have HXX := Lib.hid (show (Tm.zero, s.fail) = X by rw [← HX.out, if_neg hk3, if_neg hk1])
    rw [e1] at HW1
    clear e1 HX hk1 hk3
    go_wp2_with fail
    refine HW1.out.mono ?_
    rintro e wz ⟨rfl, hs, hg⟩
    have HBZ := Lib.hid (HB1.out.keepn hs hg)
    clear hs hg HW1
    obtain ⟨c0, c1, c2, c3, c4, c5⟩ := HBZ.out.st.cells
    rw [fail_none HBN.out] at c2
    unfold badV at c2
    have h0 : (0 : Int) ≤ (s.p : Int) := by omega
    obtain ⟨z0, z1, z2, z3, z4⟩ := five_cells HBZ.out.res
    obtain ⟨g0, g1, g2, g3, g4⟩ := five_free HBZ.out.res
    have hz := HBZ.out.res
    have HE := Lib.hid (tend_zero5 HBZ.out.res HBZ.out.st HBZ.out.nm HBZ.out.fr)
    go_wp2
    (try simp only [Exit.inBlock, Exit.then])
    refine bodyPost_ret (results_cell_row rfl _ _ w.heap.size _ _ _ du rfl (five_set hz) hu1 (by cases du <;> first | rfl | exact hu2) size_term) rfl ?_
    rw [← HXX.out]
    exact HE.out
  have e1 : wantX c.L 1 s = (wordAt c.L s.p, s.next) := by unfold wantX; rw [HBN.out]; simp only; rw [if_pos hk1]
  rw [e1] at HW1
  have hp1 := kind_lt (L := c.L) (p := s.p) (by omega)
  have HI1 := Lib.hid (HI.out.next (by omega))
  obtain ⟨K, hK⟩ : ∃ K, listK c.L so s.next = K := ⟨_, rfl⟩
  have HX1 := Lib.hid (show (if K = 0 then (Tm.zero, s.next.fail) else bodyX (levX c.L c.i c.j f) (termX c.L c.i c.j f) c.L K N s.next.next) = X by rw [← HX.out, if_neg hk3, if_pos hk1, hK])
  have HKK := Lib.hid hK
  obtain ⟨s1, hs1⟩ : ∃ s1, s1 = s.next := ⟨_, rfl⟩
  have HP1 := Lib.hid (show s1.p = s.p + 1 by rw [hs1]; rfl)
  have HB1N := Lib.hid (show s1.bad = none by rw [hs1]; exact HBN.out)
  rw [← hs1] at HW1 HI1 HX1 HKK
  clear e1 HX hk1 hk3 hK hs1
  go_wp2_with fail
  refine HW1.out.mono ?_
  rintro e w2 ⟨rfl, hs, hg⟩
  have HB2 := Lib.hid (HB1.out.keepn hs hg)
  clear hs hg HW1 HB1
  obtain ⟨c0, c1, c2, c3, c4, c5⟩ := HB2.out.st.cells
  rw [HB1N.out] at c2
  unfold badV at c2
  have HLI := Lib.hid (rlist_any c nv s1 so HSO.out w2 HB2.out.st HNE.out)
  rw [HKK.out] at HLI
  go_wp2_with fail
  refine HLI.out.mono ?_
  rintro e w3 ⟨rfl, hs, hg⟩
  have HB3 := Lib.hid (HB2.out.same hg)
  clear hs hg c0 c1 c2 c3 c4 c5 HLI
  cases hKb : (K == 0)
  case true =>
    have hK0 : K = 0 := by simpa using hKb
    have HXX := Lib.hid (show (Tm.zero, s1.fail) = X by rw [← HX1.out, if_pos hK0])
    clear hK0 HX1
    obtain ⟨c0, c1, c2, c3, c4, c5⟩ := HB3.out.st.cells
    have f1 := HB3.out.st.free 1
    go_wp2_with fail
    refine HB3.out.st.failed.mono ?_
    rintro e wz ⟨rfl, hs, hg⟩
    have HBZ := Lib.hid (HB3.out.keepn hs hg)
    clear hs hg
    clear c0 c1 c2 c3 c4 c5 f1
    obtain ⟨z0, z1, z2, z3, z4⟩ := five_cells HBZ.out.res
    obtain ⟨g0, g1, g2, g3, g4⟩ := five_free HBZ.out.res
    have hz := HBZ.out.res
    have HE := Lib.hid (tend_zero5 HBZ.out.res HBZ.out.st HBZ.out.nm HBZ.out.fr)
    go_wp2
    (try simp only [Exit.inBlock, Exit.then])
    refine bodyPost_ret (results_cell_row rfl _ _ w.heap.size _ _ _ du rfl (five_set hz) hu1 (by cases du <;> first | rfl | exact hu2) size_term) rfl ?_
    rw [← HXX.out]
    exact HE.out
  have HK0 := Lib.hid (show K ≠ 0 by simpa using hKb)
  have HX2 := Lib.hid (show bodyX (levX c.L c.i c.j f) (termX c.L c.i c.j f) c.L K N s1.next = X by rw [← HX1.out, if_neg HK0.out])
  have HKR := Lib.hid (show K = 1 ∨ (3 ≤ K ∧ K ≤ 23) by have h := HK0.out; rw [← HKK.out] at h; rw [← HKK.out]; exact list_range h)
  have HK3 := Lib.hid (show kindAt c.L s1.p = 3 by have h := HK0.out; rw [← HKK.out] at h; exact (listK_kind h).1)
  have HI2 := Lib.hid (HI1.out.next (by rw [HK3.out]; decide))
  have hst := HB3.out.st.step
  have HB4 := Lib.hid (HB3.out.keepn hst.1 hst.2)
  clear hst
  have hw1 : IntKind.i64.wrap ((s1.p : Int) + 1) = (s1.p : Int) + 1 := by have := HP1.out; exact IntWalk.i64_in _ (by omega)
  obtain ⟨c0, c1, c2, c3, c4, c5⟩ := HB3.out.st.cells
  have f1 := HB3.out.st.free 1
  go_upto_region 20 with fail
  obtain ⟨V, hV⟩ : ∃ V, V = w3.setCell ⟨c.R, 1, none⟩ (.int .i64 ((s1.p : Int) + 1)) := ⟨_, rfl⟩
  rw [← hV] at HB4
  rw [← hV]
  clear hV hw1
  clear c0 c1 c2 c3 c4 c5 f1
  have HC := Lib.hid (HBODY.out K HKR.out N nv s1.next V HI2.out (by have := HFU.out; have := HP1.out; show c.L.length + 2 ≤ s1.p + 1 + f; omega) (by have := HNL.out; omega) HB4.out.st HB4.out.nm)
  rw [HX2.out] at HC
  obtain ⟨tr, sr⟩ := X
  go_wp2_with fail
  refine HC.out.mono ?_
  rintro e w5 ⟨sv, nv5, rfl, hl, hfi, hs, hn, hg⟩
  have HB5 := Lib.hid (HB4.out.call hs hn hg)
  have hVs := HB4.out.fr.size
  have hrl := hltD HB4.out.res
  obtain ⟨a2, cap2, rfl, -, -⟩ := hl.out
  obtain ⟨z0, z1, z2, z3, z4⟩ := five_cells HB5.out.res
  obtain ⟨g0, g1, g2, g3, g4⟩ := five_free HB5.out.res
  have hz := HB5.out.res
  have HE := Lib.hid (tend (D := V.heap.size) (x := tr) HB5.out.res HB5.out.st HB5.out.nm HB5.out.fr (by omega) hl hfi)
  clear hl hfi hs hn hg HC
  unfold tv
  go_wp2
  (try simp only [Exit.inBlock, Exit.then])
  refine bodyPost_ret (results_cell_row rfl _ _ w.heap.size _ _ _ du rfl (five_set hz) hu1 (by cases du <;> first | rfl | exact hu2) size_term) rfl ?_
  exact HE.out
theorem rterm_any (c : PR) (hlen : c.L.length ≤ 1000000) (htl : ∀ t ∈ c.L, t.s.length ≤ 10000000) (hne : ∀ t ∈ c.L, t.k = 3 → t.s ≠ []) (hi : 0 ≤ c.i ∧ c.i ≤ 1000) (hj : 0 ≤ c.j ∧ c.j ≤ 1000) : ∀ f, TermC c f (termX c.L c.i c.j f)
  | 0 => ⟨fun so N nv s w _ hx hf _ _ _ => absurd hx.p (by omega)⟩
  | f + 1 => rterm_step c f hlen htl hne hi hj (rterm_any c hlen htl hne hi hj f)
end Go.Proofs.YtlalolnhpcbjnaaDoor.Rt
