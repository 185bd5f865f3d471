/-
  ShowBack holds: for every input the call returns true, and the arguments read as before. No condition.
-/
import Derived.Lib.ItoaNum
import Derived.Lib.ItoaLen
import Derived.Test.YtdhfbphliejcdaaDoorRows
import Derived.WalkKit
import Derived.Lib.Hide
import Derived.ProofKit
import Derived.LoopTactic
import Derived.Below
import Derived.IntWalk
import Derived.Lib.Strings
import Derived.Laws.Strings2
import Derived.Deep.AppendLies
import Derived.Laws.Rows
import Derived.OwnWalk
import Derived.KernelRfl
import Derived.Deep.RegionHeld3
import Derived.Lib.Builder
import Derived.WalkSmall
import Derived.Maps.GroupsBeside
import Derived.Maps.StringElems
import Derived.Laws.OwnMore
import Derived.Deep.RegionLaw
import Derived.Maps.AppendAt
import Derived.Deep.Cut
import Derived.Deep.DeepCutAuto
import Derived.Maps.OwnOps
import Derived.Maps.OwnSet
import Derived.Lib.MinMax
import Derived.Laws.IdiomCopy
import Derived.Deep.Slices
import Derived.Lib.QuietBelow
import Derived.StillTailTactics
import Derived.BigQuiet
import Derived.Deep.RegionWith
import Derived.OrdersHeld
import Derived.Laws.StructEq
import GoSem.Core.Float
import Derived.Laws.Cover2
import Derived.Laws.FloatArith
import Derived.Laws.Externs
import Derived.Deep.QuietTactic
import Derived.Recover
import Derived.RegionTactic
import Derived.Defers
import Derived.Test.YtdhfbphliejcdaaDoorShelf
import Derived.Lib.AppendIntMem
import Derived.Lib.LaidTab
import Derived.Lib.AppendStr
import Derived.Lib.UnsafeStr
import Derived.Shelf.RegionOpenPlain
import Derived.Laws.AppendOwn
import Derived.Deep.CutBlock
import Derived.Deep.LoopGhost
import Derived.Laws.BytesArg
import Derived.Laws.AppendOwnNone
import Derived.OpenShut
import Derived.Carry
import Derived.LaidMore
import Derived.LaidSub
import Derived.LaidHandle
import Derived.Stop.Joined
import Derived.JoinedOf
import Derived.Test.YtdhfbphliejcdaaDoorCards
import Derived.Test.YtdhfbphliejcdaaDoorTie
import Derived.SevenTiedAt
import Derived.ChangeMaps5
import Derived.Test.YtdhfbphliejcdaaDoorShowBackQ3
namespace Go.Proofs.YtdhfbphliejcdaaDoor.Dv
open Go.RowKit

/-- What a parsing that failed hands back. -/
def errV : PF → Value
  | (0, a) => .tuple #[.agg #[.slice none 0 0, .int .i64 0, .int .i64 0, .slice none 0 0], .int .i64 2, .int .i64 a, .string ⟨#[]⟩]
  | (1, a) => .tuple #[.agg #[.slice none 0 0, .int .i64 0, .int .i64 0, .slice none 0 0], .int .i64 4, .int .i64 a, .string ⟨#[100, 101, 101, 112]⟩]
  | (_ + 2, a) => .tuple #[.agg #[.slice none 0 0, .int .i64 0, .int .i64 0, .slice none 0 0], .int .i64 4, .int .i64 a, .string ⟨#[110, 111, 100, 101, 115]⟩]
def ParseG (w : World) (x : Except PF (List Tm × Tm)) (e : Ending) (w' : World) : Prop := Below w.heap.size w w' ∧ match x with
  | .error p => e = .returned (errV p)
  | .ok (l, t) => ∃ cv s, e = .returned (.tuple #[fv cv t s, .int .i64 0, .int .i64 0, .string ⟨#[]⟩]) ∧ LiesP w' (Own w.heap.size w') l cv ∧ LiesP w' (Own w.heap.size w') t.kids s ∧ t.fine
set_option maxRecDepth 20000 in
theorem parse_results (tmps : Array Value) (w : World) (n : Nat) (v0 v1 v2 v3 u1 u2 u3 : Value) (h8 : tmps.getD 6 undef = .pointer (some ⟨n, 0, none⟩)) (h9 : tmps.getD 7 undef = .pointer (some ⟨n + 1, 0, none⟩)) (h10 : tmps.getD 8 undef = .pointer (some ⟨n + 2, 0, none⟩)) (h11 : tmps.getD 9 undef = .pointer (some ⟨n + 3, 0, none⟩)) (k0 : w.heap[n]? = some (.cells #[v0, v1, v2, v3] 26 (0, 0))) (k1 : w.heap[n + 1]? = some (.cells #[u1] 34 (0, 0))) (k2 : w.heap[n + 2]? = some (.cells #[u2] 3 (0, 0))) (k3 : w.heap[n + 3]? = some (.cells #[u3] 9 (0, 0))) :
    (results Tryd.f15 tmps).run Tryd.prog w = .ok (.tuple #[.agg #[v0, v1, v2, v3], u1, u2, u3]) w := by
  have h8' : tmps[6]?.getD undef = .pointer (some ⟨n, 0, none⟩) := by simpa using h8
  have h9' : tmps[7]?.getD undef = .pointer (some ⟨n + 1, 0, none⟩) := by simpa using h9
  have h10' : tmps[8]?.getD undef = .pointer (some ⟨n + 2, 0, none⟩) := by simpa using h10
  have h11' : tmps[9]?.getD undef = .pointer (some ⟨n + 3, 0, none⟩) := by simpa using h11
  obtain ⟨y0, y1, y2, y3⟩ := four_cells k0
  have x1 : w.cell? ⟨n + 1, 0, none⟩ = some u1 := by rw [Lib.cell_of_heap k1]; rfl
  have x2 : w.cell? ⟨n + 2, 0, none⟩ = some u2 := by rw [Lib.cell_of_heap k2]; rfl
  have x3 : w.cell? ⟨n + 3, 0, none⟩ = some u3 := by rw [Lib.cell_of_heap k3]; rfl
  simp [results, Tryd.results15, h8', h9', h10', h11', asAddr, y0, y1, y2, y3, x1, x2, x3, go_sem]
/-- The four results behind the last stores. -/
def finF (W : World) (B : Nat) (v0 v1 v2 v3 : Value) : World := (((four W B v0 v1 v2 v3).setCell ⟨B + 1, 0, none⟩ (.int .i64 0)).setCell ⟨B + 2, 0, none⟩ (.int .i64 0)).setCell ⟨B + 3, 0, none⟩ (.string ⟨#[]⟩)
theorem fin_file {B N : Nat} {w W : World} {v0 v1 v2 v3 z0 z1 z2 z3 x y z : Value} (hF : W.heap[B]? = some (.cells #[z0, z1, z2, z3] 26 (0, 0))) (hE : W.heap[B + 1]? = some (.cells #[x] 34 (0, 0))) (hA : W.heap[B + 2]? = some (.cells #[y] 3 (0, 0))) (hS : W.heap[B + 3]? = some (.cells #[z] 9 (0, 0))) (hb : Below B w W) (hN : B + 4 ≤ N) {l l2 : List Tm} {cv s : Value} (hl : LiesP W (Own N W) l cv) (hl2 : LiesP W (Own N W) l2 s) :
    (finF W B v0 v1 v2 v3).heap[B]? = some (.cells #[v0, v1, v2, v3] 26 (0, 0)) ∧ (finF W B v0 v1 v2 v3).heap[B + 1]? = some (oE 0) ∧ (finF W B v0 v1 v2 v3).heap[B + 2]? = some (oA 0) ∧ (finF W B v0 v1 v2 v3).heap[B + 3]? = some (oS ⟨#[]⟩) ∧ Below B w (finF W B v0 v1 v2 v3) ∧ LiesP (finF W B v0 v1 v2 v3) (Own B (finF W B v0 v1 v2 v3)) l cv ∧ LiesP (finF W B v0 v1 v2 v3) (Own B (finF W B v0 v1 v2 v3)) l2 s := by
  have c4 : W.grownBy (four W B v0 v1 v2 v3) (some B) := (((setD_grown _ _ _ _).trans (setD_grown _ _ _ _)).trans (setD_grown _ _ _ _)).trans (setD_grown _ _ _ _)
  have k0 : (four W B v0 v1 v2 v3).heap[B]? = some (.cells #[v0, v1, v2, v3] 26 (0, 0)) := four_set hF
  have hsF := hltD hF
  have hsE := hltD hE
  have hsA := hltD hA
  have hsS := hltD hS
  have k1 := (c4.block (B + 1) hsE (fun e => by have := Option.some.inj e; omega)).trans hE
  have k2 := (c4.block (B + 2) hsA (fun e => by have := Option.some.inj e; omega)).trans hA
  have k3 := (c4.block (B + 3) hsS (fun e => by have := Option.some.inj e; omega)).trans hS
  have hb4 := hb.trans (belowD (B := B) (Nat.le_refl _) c4 (by omega))
  have hs4 := c4.size
  have hk4 : ∀ b, B + 4 ≤ b → b < W.heap.size → (four W B v0 v1 v2 v3).heap[b]? = W.heap[b]? := fun b h1 h2 => c4.block b h2 (fun e => by have := Option.some.inj e; omega)
  unfold finF
  generalize four W B v0 v1 v2 v3 = V at k0 k1 k2 k3 hb4 hs4 hk4 ⊢
  have m1 := setD_grown V (B + 1) 0 (.int .i64 0)
  have m2 := setD_grown (V.setCell ⟨B + 1, 0, none⟩ (.int .i64 0)) (B + 2) 0 (.int .i64 0)
  have m3 := setD_grown ((V.setCell ⟨B + 1, 0, none⟩ (.int .i64 0)).setCell ⟨B + 2, 0, none⟩ (.int .i64 0)) (B + 3) 0 (.string ⟨#[]⟩)
  have z1 : (V.setCell ⟨B + 1, 0, none⟩ (.int .i64 0)).heap.size = V.heap.size := by simp
  have z2 : ((V.setCell ⟨B + 1, 0, none⟩ (.int .i64 0)).setCell ⟨B + 2, 0, none⟩ (.int .i64 0)).heap.size = V.heap.size := by simp
  have hk : ∀ b, B + 4 ≤ b → b < W.heap.size → (((V.setCell ⟨B + 1, 0, none⟩ (.int .i64 0)).setCell ⟨B + 2, 0, none⟩ (.int .i64 0)).setCell ⟨B + 3, 0, none⟩ (.string ⟨#[]⟩)).heap[b]? = W.heap[b]? := fun b h1 h2 =>
    (((m3.block b (by omega) (fun e => by have := Option.some.inj e; omega)).trans (m2.block b (by omega) (fun e => by have := Option.some.inj e; omega))).trans (m1.block b (by omega) (fun e => by have := Option.some.inj e; omega))).trans (hk4 b h1 h2)
  refine ⟨?_, ?_, ?_, ?_, ?_, ?_, ?_⟩
  · exact (((m3.block B (by omega) (fun e => by have := Option.some.inj e; omega)).trans (m2.block B (by omega) (fun e => by have := Option.some.inj e; omega))).trans (m1.block B (by omega) (fun e => by have := Option.some.inj e; omega))).trans k0
  · exact ((m3.block (B + 1) (by omega) (fun e => by have := Option.some.inj e; omega)).trans (m2.block (B + 1) (by omega) (fun e => by have := Option.some.inj e; omega))).trans (heap_setCell_same _ _ _ _ _ _ k1)
  · exact (m3.block (B + 2) (by omega) (fun e => by have := Option.some.inj e; omega)).trans (heap_setCell_same _ _ _ _ _ _ ((m1.block (B + 2) (by omega) (fun e => by have := Option.some.inj e; omega)).trans k2))
  · exact heap_setCell_same _ _ _ _ _ _ (((m2.block (B + 3) (by omega) (fun e => by have := Option.some.inj e; omega)).trans (m1.block (B + 3) (by omega) (fun e => by have := Option.some.inj e; omega))).trans k3)
  · exact ((hb4.trans (belowD (by omega) m1 (by omega))).trans (belowD (by omega) m2 (by omega))).trans (belowD (by omega) m3 (by omega))
  · exact hl.keep (fun b hb hlt => hk b (by have := hb.1; omega) hlt) (fun b hb hlt => (hb.from (by omega)).same (hk b (by have := hb.1; omega) hlt))
  · exact hl2.keep (fun b hb hlt => hk b (by have := hb.1; omega) hlt) (fun b hb hlt => (hb.from (by omega)).same (hk b (by have := hb.1; omega) hlt))
theorem four_new (w : World) : Four w.heap.size ((((w.alloc zF).alloc (oE 0)).alloc (oA 0)).alloc (oS ⟨#[]⟩)) ∧ ((((w.alloc zF).alloc (oE 0)).alloc (oA 0)).alloc (oS ⟨#[]⟩)).heap.size = w.heap.size + 4 ∧ Below w.heap.size w ((((w.alloc zF).alloc (oE 0)).alloc (oA 0)).alloc (oS ⟨#[]⟩)) := by
  have b1 := (Below.refl w.heap.size w).alloc (Nat.le_refl _) zF
  have b2 := (Below.refl (w.alloc zF).heap.size (w.alloc zF)).alloc (Nat.le_refl _) (oE 0)
  have b3 := (Below.refl ((w.alloc zF).alloc (oE 0)).heap.size ((w.alloc zF).alloc (oE 0))).alloc (Nat.le_refl _) (oA 0)
  have b4 := (Below.refl (((w.alloc zF).alloc (oE 0)).alloc (oA 0)).heap.size (((w.alloc zF).alloc (oE 0)).alloc (oA 0))).alloc (Nat.le_refl _) (oS ⟨#[]⟩)
  have n1 := alloc_new w zF
  have n2 := alloc_new (w.alloc zF) (oE 0)
  have n3 := alloc_new ((w.alloc zF).alloc (oE 0)) (oA 0)
  have n4 := alloc_new (((w.alloc zF).alloc (oE 0)).alloc (oA 0)) (oS ⟨#[]⟩)
  simp only [World.size_alloc] at b1 b2 b3 b4 n1 n2 n3 n4
  have e1 : ((((w.alloc zF).alloc (oE 0)).alloc (oA 0)).alloc (oS ⟨#[]⟩)).heap[w.heap.size]? = some zF := by rw [b4.block _ (by omega), b3.block _ (by omega), b2.block _ (by omega)]; exact n1
  have e2 : ((((w.alloc zF).alloc (oE 0)).alloc (oA 0)).alloc (oS ⟨#[]⟩)).heap[w.heap.size + 1]? = some (oE 0) := by rw [b4.block _ (by omega), b3.block _ (by omega)]; exact n2
  have e3 : ((((w.alloc zF).alloc (oE 0)).alloc (oA 0)).alloc (oS ⟨#[]⟩)).heap[w.heap.size + 2]? = some (oA 0) := by rw [b4.block _ (by omega)]; exact n3
  exact ⟨⟨⟨_, _, _, _, e1⟩, ⟨_, e2⟩, ⟨_, e3⟩, ⟨_, n4⟩⟩, by simp, ((b1.trans (b2.mono (by omega))).trans (b3.mono (by omega))).trans (b4.mono (by omega))⟩
theorem Four.keep {B : Nat} {w w' : World} (h : Four B w) (hb : Below (B + 4) w w') : Four B w' := by
  obtain ⟨⟨v0, v1, v2, v3, h0⟩, ⟨x, h1⟩, ⟨y, h2⟩, ⟨z, h3⟩⟩ := h
  exact ⟨⟨v0, v1, v2, v3, (hb.block _ (by omega)).trans h0⟩, ⟨x, (hb.block _ (by omega)).trans h1⟩, ⟨y, (hb.block _ (by omega)).trans h2⟩, ⟨z, (hb.block _ (by omega)).trans h3⟩⟩
theorem Four.put {B : Nat} {w : World} (h : Four B w) (v0 v1 v2 v3 : Value) : Four B (four w B v0 v1 v2 v3) := by
  obtain ⟨⟨z0, z1, z2, z3, h0⟩, ⟨x, h1⟩, ⟨y, h2⟩, ⟨z, h3⟩⟩ := h
  have c4 : w.grownBy (four w B v0 v1 v2 v3) (some B) := (((setD_grown _ _ _ _).trans (setD_grown _ _ _ _)).trans (setD_grown _ _ _ _)).trans (setD_grown _ _ _ _)
  exact ⟨⟨_, _, _, _, four_set h0⟩, ⟨x, (c4.block _ (hltD h1) (fun e => by have := Option.some.inj e; omega)).trans h1⟩, ⟨y, (c4.block _ (hltD h2) (fun e => by have := Option.some.inj e; omega)).trans h2⟩, ⟨z, (c4.block _ (hltD h3) (fun e => by have := Option.some.inj e; omega)).trans h3⟩⟩
set_option maxHeartbeats 3000000 in
set_option maxRecDepth 20000 in
theorem parse_any (s : ByteArray) (deep nodes : Nat) (w : World) (hs : s.size ≤ 10000000) : Calls Tryd.prog 15 #[.string s, .float .f64 deep, .float .f64 nodes] w (ParseG w (parseB s.data.toList deep nodes)) := by
  have hmf : ∀ (fn : Fn) (first cap : Array Value) (w : World), (Instr.makeFunc fn first cap).run Tryd.prog w = .ok (.func fn first cap) w := fun _ _ _ _ => rfl
  have hsf : ∀ (a : Addr) (m : Mode) (w : World), (store a (.float .f64 deep) m).run Tryd.prog w = stored Tryd.prog w a (.float .f64 deep) m := fun a m w => run_store Tryd.prog w a _ m rfl
  have H4 := Lib.hid (four_new w)
  have hsl : s.data.toList.length = s.size := by simp
  have HSL := Lib.hid hsl
  clear hsl
  go_enter_defers Tryd.func15, Tryd.ntmps15
  go_upto_region 1 with fail
  obtain ⟨w4, hw4⟩ : ∃ w4, w4 = (((w.alloc zF).alloc (oE 0)).alloc (oA 0)).alloc (oS ⟨#[]⟩) := ⟨_, rfl⟩
  rw [← hw4]
  have HC := Lib.hid H4.out
  rw [← hw4] at HC
  have h4s : w.heap.size + 4 = w4.heap.size := HC.out.2.1.symm
  clear hw4 H4
  go_wp2_with fail
  refine (of_any s w4 hs).mono ?_
  intro e w1 hg
  obtain ⟨v, rfl, hlt, hSA, hTL, hB1⟩ := hg
  obtain ⟨S, hS⟩ : ∃ S, w1.heap.size - 1 = S := ⟨_, rfl⟩
  rw [hS] at hSA
  rw [hS]
  have hS1 : w1.heap.size = S + 1 := by omega
  have hSB : w.heap.size + 4 ≤ S := by omega
  have HSA := Lib.hid hSA
  have HTL := Lib.hid hTL
  have HB1 := Lib.hid hB1
  have HBD := Lib.hid (ofL_bound s.data.toList)
  have HS1 := Lib.hid hS1
  have hSB1 : w.heap.size + 4 ≤ w1.heap.size := by omega
  clear hSA hTL hB1 hS hlt hS1
  go_wp2_with fail
  refine (new_any nodes w1).mono ?_
  rintro e w' ⟨rfl, rfl⟩
  go_upto_region 2 with fail
  obtain ⟨W, hW⟩ : ∃ W, W = (w1.alloc (budObj nodes 0)).alloc (.cells #[.pointer (some ⟨S, 0, none⟩), .float .f64 deep, .pointer (some ⟨w1.heap.size, 0, none⟩)] 66) := ⟨_, rfl⟩
  rw [← hW]
  have hb1 := (Below.refl w1.heap.size w1).alloc (Nat.le_refl _) (budObj nodes 0)
  have hb2 := (Below.refl (w1.alloc (budObj nodes 0)).heap.size (w1.alloc (budObj nodes 0))).alloc (Nat.le_refl _) (.cells #[.pointer (some ⟨S, 0, none⟩), .float .f64 deep, .pointer (some ⟨w1.heap.size, 0, none⟩)] 66)
  have hbu := (hb2.block w1.heap.size (by simp)).trans (alloc_new w1 (budObj nodes 0))
  have hpa := alloc_new (w1.alloc (budObj nodes 0)) (.cells #[.pointer (some ⟨S, 0, none⟩), .float .f64 deep, .pointer (some ⟨w1.heap.size, 0, none⟩)] 66)
  have hbW := hb1.trans (hb2.mono hb1.size)
  rw [← hW] at hbu hpa hbW
  rw [World.size_alloc] at hpa
  have hWs : W.heap.size = w1.heap.size + 2 := by rw [hW]; simp
  have HWS := Lib.hid hWs
  have HP := Lib.hid (show PSt ⟨w.heap.size + 4, w1.heap.size + 1, S, w1.heap.size, deep, nodes, (ofL s.data.toList).2.1, (ofL s.data.toList).2.2⟩ 0 (ofL s.data.toList).1 W from
    ⟨hSB, by show w.heap.size + 4 ≤ w1.heap.size + 1; omega, by show w.heap.size + 4 ≤ w1.heap.size; omega, by show w.heap.size + 4 ≤ W.heap.size; omega, ⟨v, (hbW.block _ (hltD HSA.out)).trans HSA.out, HTL.out.keep fun g cs fz e => by rw [hbW.block _ (hltD e)]; exact e⟩, hpa, hbu, fun t ht => by have := (HBD.out.2.2 t ht).1; rw [HSL.out] at this; omega, by have := HBD.out.1; rw [HSL.out] at this; omega⟩)
  have HBW := Lib.hid ((HC.out.2.2.trans (HB1.out.mono (by omega))).trans (hbW.mono (by omega)))
  have H4W := Lib.hid ((HC.out.1.keep (HB1.out.mono (by omega))).keep (hbW.mono (by omega)))
  have HFL := Lib.hid (pfile_any ⟨w.heap.size + 4, w1.heap.size + 1, S, w1.heap.size, deep, nodes, (ofL s.data.toList).2.1, (ofL s.data.toList).2.2⟩ ((ofL s.data.toList).1.length + 1) _ (pderiv_any _ _) (derP_len _) (ofL s.data.toList).1 W (Nat.lt_succ_self _) HP.out)
  clear hW hb1 hb2 hbu hpa hbW hWs HSA HTL HB1 HP
  go_wp2_with fail
  refine HFL.out.mono ?_
  intro e w2 hg
  obtain ⟨X, hX⟩ : ∃ X, fileP (derP deep nodes (ofL s.data.toList).2.1 ((ofL s.data.toList).1.length + 1)) (ofL s.data.toList).2.1 ((ofL s.data.toList).1.length + 1) (ofL s.data.toList).1 = X := ⟨_, rfl⟩
  have hg' : FileG ⟨w.heap.size + 4, w1.heap.size + 1, S, w1.heap.size, deep, nodes, (ofL s.data.toList).2.1, (ofL s.data.toList).2.2⟩ W X e w2 := by rw [← hX]; exact hg
  clear hg HFL
  cases X with
  | error pe =>
    obtain ⟨rfl, hf⟩ := hg'
    have HX := Lib.hid (show parseB s.data.toList deep nodes = .error pe by unfold parseB; rw [hX])
    have hfb : Below (w.heap.size + 4) W w2 := hf.below
    have H42 := Lib.hid (H4W.out.keep hfb)
    have HB2 := Lib.hid (HBW.out.trans (hfb.mono (by omega)))
    clear hX hf hfb
    match pe with
    | (0, a) =>
      unfold leaveP
      go_wp2
      refine leaves_cons (f := 31) (args := #[.pointer (some ⟨w.heap.size, 0, none⟩), .pointer (some ⟨w.heap.size + 1, 0, none⟩), .pointer (some ⟨w.heap.size + 2, 0, none⟩), .pointer (some ⟨w.heap.size + 3, 0, none⟩)]) (by simp) (by simp [go_sem]) ?_
      refine (catch_fault w.heap.size a w2 H42.out).mono ?_
      rintro e u' w'' ⟨rfl, rfl, hC⟩
      show ∃ v, (results _ _).run _ _ = .ok v _ ∧ _
      refine ⟨_, parse_results _ w'' w.heap.size _ _ _ _ _ _ _ rfl rfl rfl rfl hC.1 hC.2.1 hC.2.2.1 hC.2.2.2.1, ?_⟩
      rw [HX.out]
      exact ⟨HB2.out.trans hC.2.2.2.2, rfl⟩
    | (1, a) =>
      unfold leaveP
      go_wp2
      refine leaves_cons (f := 31) (args := #[.pointer (some ⟨w.heap.size, 0, none⟩), .pointer (some ⟨w.heap.size + 1, 0, none⟩), .pointer (some ⟨w.heap.size + 2, 0, none⟩), .pointer (some ⟨w.heap.size + 3, 0, none⟩)]) (by simp) (by simp [go_sem]) ?_
      refine (catch_beyond w.heap.size a ⟨#[100, 101, 101, 112]⟩ w2 H42.out).mono ?_
      rintro e u' w'' ⟨rfl, rfl, hC⟩
      show ∃ v, (results _ _).run _ _ = .ok v _ ∧ _
      refine ⟨_, parse_results _ w'' w.heap.size _ _ _ _ _ _ _ rfl rfl rfl rfl hC.1 hC.2.1 hC.2.2.1 hC.2.2.2.1, ?_⟩
      rw [HX.out]
      exact ⟨HB2.out.trans hC.2.2.2.2, rfl⟩
    | (k + 2, a) =>
      unfold leaveP
      go_wp2
      refine leaves_cons (f := 31) (args := #[.pointer (some ⟨w.heap.size, 0, none⟩), .pointer (some ⟨w.heap.size + 1, 0, none⟩), .pointer (some ⟨w.heap.size + 2, 0, none⟩), .pointer (some ⟨w.heap.size + 3, 0, none⟩)]) (by simp) (by simp [go_sem]) ?_
      refine (catch_beyond w.heap.size a ⟨#[110, 111, 100, 101, 115]⟩ w2 H42.out).mono ?_
      rintro e u' w'' ⟨rfl, rfl, hC⟩
      show ∃ v, (results _ _).run _ _ = .ok v _ ∧ _
      refine ⟨_, parse_results _ w'' w.heap.size _ _ _ _ _ _ _ rfl rfl rfl rfl hC.1 hC.2.1 hC.2.2.1 hC.2.2.2.1, ?_⟩
      rw [HX.out]
      exact ⟨HB2.out.trans hC.2.2.2.2, rfl⟩
  | ok m =>
    obtain ⟨⟨l, t⟩, r⟩ := m
    obtain ⟨cv, sv, rfl, hl, hlt, hfi, ⟨u, hs2⟩, hf⟩ := hg'
    obtain ⟨ac, cc, rfl, -, -⟩ := hl.out
    obtain ⟨ak, ck, rfl, -, -⟩ := hlt.out
    have hfb : Below (w.heap.size + 4) W w2 := hf.below
    have H42 := Lib.hid (H4W.out.keep hfb)
    have HB2 := Lib.hid (HBW.out.trans (hfb.mono (by omega)))
    obtain ⟨⟨z0, z1, z2, z3, hz⟩, ⟨xe, he⟩, ⟨xa, ha⟩, ⟨xs, hss⟩⟩ := H42.out
    obtain ⟨p0, p1, p2, plt⟩ := hs2.cells
    obtain ⟨tv2, hSA2, hTL2⟩ := hs2.str
    have c4 : w2.grownBy (four w2 w.heap.size (.slice ac l.length cc) (.int .i64 t.k) (.int .i64 t.i) (.slice ak t.kids.length ck)) (some w.heap.size) := (((setD_grown _ _ _ _).trans (setD_grown _ _ _ _)).trans (setD_grown _ _ _ _)).trans (setD_grown _ _ _ _)
    have hSA3 : SAt (four w2 w.heap.size (.slice ac l.length cc) (.int .i64 t.k) (.int .i64 t.i) (.slice ak t.kids.length ck)) S tv2 (ofL s.data.toList).2.1 (ofL s.data.toList).2.2 := (c4.block S (hltD hSA2) (fun e => by have := Option.some.inj e; omega)).trans hSA2
    have hTL3 : TLies (four w2 w.heap.size (.slice ac l.length cc) (.int .i64 t.k) (.int .i64 t.i) (.slice ak t.kids.length ck)) r tv2 := hTL2.keep fun g cs fz e => by
      rw [c4.block g (hltD e) (fun e2 => by
        have e3 := Option.some.inj e2
        rw [e3] at e
        exact (by decide : (88 : TypeId) ≠ 26) (typeD e hz))]
      exact e
    have HZE := Lib.hid (show (four w2 w.heap.size (.slice ac l.length cc) (.int .i64 t.k) (.int .i64 t.i) (.slice ak t.kids.length ck)).heap[w.heap.size]? = some (.cells #[.slice ac l.length cc, .int .i64 t.k, .int .i64 t.i, .slice ak t.kids.length ck] 26 (0, 0)) from four_set hz)
    have hpp : (four w2 w.heap.size (.slice ac l.length cc) (.int .i64 t.k) (.int .i64 t.i) (.slice ak t.kids.length ck)).cell? ⟨w1.heap.size + 1, 0, none⟩ = some (.pointer (some ⟨S, 0, none⟩)) := by
      rw [World.cell?_of_block (a := ⟨w1.heap.size + 1, 0, none⟩) (c4.block (w1.heap.size + 1) plt (fun e => by have := Option.some.inj e; omega))]; exact p0
    have HEND := Lib.hid (end_any S tv2 (ofL s.data.toList).2.1 (ofL s.data.toList).2.2 r _ hSA3 hTL3)
    have H4E := Lib.hid (H42.out.put (.slice ac l.length cc) (.int .i64 t.k) (.int .i64 t.i) (.slice ak t.kids.length ck))
    have HBE := Lib.hid (HB2.out.trans (belowD (Nat.le_refl _) c4 (by have := hltD hz; omega)))
    have hk4 : ∀ b, w.heap.size + 4 ≤ b → b < w2.heap.size → (four w2 w.heap.size (.slice ac l.length cc) (.int .i64 t.k) (.int .i64 t.i) (.slice ak t.kids.length ck)).heap[b]? = w2.heap[b]? := fun b h1 h2 => c4.block b h2 (fun e => by have := Option.some.inj e; omega)
    have hWW := HWS.out
    have HLE := Lib.hid (hl.keep (w' := four w2 w.heap.size (.slice ac l.length cc) (.int .i64 t.k) (.int .i64 t.i) (.slice ak t.kids.length ck)) (Q := Own W.heap.size (four w2 w.heap.size (.slice ac l.length cc) (.int .i64 t.k) (.int .i64 t.i) (.slice ak t.kids.length ck))) (fun b hb hlt => hk4 b (by have := hb.1; omega) hlt) (fun b hb hlt => hb.same (hk4 b (by have := hb.1; omega) hlt)))
    have HKE := Lib.hid (hlt.keep (w' := four w2 w.heap.size (.slice ac l.length cc) (.int .i64 t.k) (.int .i64 t.i) (.slice ak t.kids.length ck)) (Q := Own W.heap.size (four w2 w.heap.size (.slice ac l.length cc) (.int .i64 t.k) (.int .i64 t.i) (.slice ak t.kids.length ck))) (fun b hb hlt => hk4 b (by have := hb.1; omega) hlt) (fun b hb hlt => hb.same (hk4 b (by have := hb.1; omega) hlt)))
    have HFI := Lib.hid hfi
    have HX1 := Lib.hid hX
    obtain ⟨y0, y1, y2, y3⟩ := four_cells hz
    obtain ⟨f0, f1, f2, f3⟩ := four_free hz
    have hne : ¬ w1.heap.size + 1 = w.heap.size := by omega
    clear hl hlt hfi hs2 hf hfb hSA2 hTL2 c4 hSA3 hTL3 hk4 he ha hss hz hX H42
    unfold fv
    go_upto_region 4 with fail
    obtain ⟨V, hV⟩ : ∃ V, V = (((w2.setCell ⟨w.heap.size, 0, none⟩ (.slice ac l.length cc)).setCell ⟨w.heap.size, 1, none⟩ (.int .i64 t.k)).setCell ⟨w.heap.size, 2, none⟩ (.int .i64 t.i)).setCell ⟨w.heap.size, 3, none⟩ (.slice ak t.kids.length ck) := ⟨_, rfl⟩
    have hV2 : V = four w2 w.heap.size (.slice ac l.length cc) (.int .i64 t.k) (.int .i64 t.i) (.slice ak t.kids.length ck) := hV
    rw [← hV2] at hpp HEND H4E HBE HLE HKE HZE
    rw [← hV]
    clear hV hV2 y0 y1 y2 y3 f0 f1 f2 f3 p0 p1 p2 plt
    go_wp2_with fail
    refine HEND.out.mono ?_
    intro e w5 hg
    obtain ⟨hww, hg⟩ := hg
    cases hy : endP (ofL s.data.toList).2.1 (ofL s.data.toList).2.2 r with
    | error ea =>
      rw [hy] at hg
      obtain rfl := hg
      have HX := Lib.hid (show parseB s.data.toList deep nodes = .error (0, ea) by unfold parseB; rw [HX1.out]; dsimp only; rw [hy])
      rw [← hww]
      clear hy hww HEND hpp
      unfold faultP
      go_wp2
      refine leaves_cons (f := 31) (args := #[.pointer (some ⟨w.heap.size, 0, none⟩), .pointer (some ⟨w.heap.size + 1, 0, none⟩), .pointer (some ⟨w.heap.size + 2, 0, none⟩), .pointer (some ⟨w.heap.size + 3, 0, none⟩)]) (by simp) (by simp [go_sem]) ?_
      refine (catch_fault w.heap.size ea V H4E.out).mono ?_
      rintro e u' w'' ⟨rfl, rfl, hC⟩
      show ∃ v, (results _ _).run _ _ = .ok v _ ∧ _
      refine ⟨_, parse_results _ w'' w.heap.size _ _ _ _ _ _ _ rfl rfl rfl rfl hC.1 hC.2.1 hC.2.2.1 hC.2.2.2.1, ?_⟩
      rw [HX.out]
      exact ⟨HBE.out.trans hC.2.2.2.2, rfl⟩
    | ok z =>
      rw [hy] at hg
      obtain rfl := hg
      have HX := Lib.hid (show parseB s.data.toList deep nodes = .ok (l, t) by unfold parseB; rw [HX1.out]; dsimp only; rw [hy])
      rw [← hww]
      clear hy hww HEND hpp
      obtain ⟨-, ⟨xe, he⟩, ⟨xa, ha⟩, ⟨xs, hss⟩⟩ := H4E.out
      have HFIN := Lib.hid (fin_file (B := w.heap.size) (N := W.heap.size) (v0 := .slice ac l.length cc) (v1 := .int .i64 t.k) (v2 := .int .i64 t.i) (v3 := .slice ak t.kids.length ck) HZE.out he ha hss HBE.out (by omega) HLE.out HKE.out)
      obtain ⟨y0, y1, y2, y3⟩ := four_cells HZE.out
      obtain ⟨f0, f1, f2, f3⟩ := four_free HZE.out
      have x5 : V.cell? ⟨w.heap.size + 1, 0, none⟩ = some xe := by rw [Lib.cell_of_heap he]; rfl
      have x6 : V.cell? ⟨w.heap.size + 2, 0, none⟩ = some xa := by rw [Lib.cell_of_heap ha]; rfl
      have x7 : V.cell? ⟨w.heap.size + 3, 0, none⟩ = some xs := by rw [Lib.cell_of_heap hss]; rfl
      have f5 : V.frozen? ⟨w.heap.size + 1, 0, none⟩ = false := Lib.frozen_of_heap he 0
      have f6 : V.frozen? ⟨w.heap.size + 2, 0, none⟩ = false := Lib.frozen_of_heap ha 0
      have f7 : V.frozen? ⟨w.heap.size + 3, 0, none⟩ = false := Lib.frozen_of_heap hss 0
      clear he ha hss
      go_wp2
      refine leaves_cons (f := 31) (args := #[.pointer (some ⟨w.heap.size, 0, none⟩), .pointer (some ⟨w.heap.size + 1, 0, none⟩), .pointer (some ⟨w.heap.size + 2, 0, none⟩), .pointer (some ⟨w.heap.size + 3, 0, none⟩)]) (by simp) (by simp [go_sem]) ?_
      refine (catch_idleF w.heap.size _).mono ?_
      rintro e u' w'' ⟨rfl, rfl, rfl⟩
      show ∃ v, (results _ _).run _ _ = .ok v _ ∧ _
      refine ⟨_, parse_results _ (finF V w.heap.size (.slice ac l.length cc) (.int .i64 t.k) (.int .i64 t.i) (.slice ak t.kids.length ck)) w.heap.size _ _ _ _ _ _ _ rfl rfl rfl rfl HFIN.out.1 HFIN.out.2.1 HFIN.out.2.2.1 HFIN.out.2.2.2.1, ?_⟩
      rw [HX.out]
      exact ⟨HFIN.out.2.2.2.2.1, _, _, rfl, HFIN.out.2.2.2.2.2.1, HFIN.out.2.2.2.2.2.2, HFI.out⟩
end Go.Proofs.YtdhfbphliejcdaaDoor.Dv

namespace Go.Proofs.YtdhfbphliejcdaaDoor.Dv
open Go.RowKit

mutual
def sameB : Tm → Tm → Bool
  | .mk k i l, .mk k' i' l' => (k == k') && ((i == i') && samesB l l')
def samesB : List Tm → List Tm → Bool
  | [], [] => true
  | x :: r, y :: s => sameB x y && samesB r s
  | [], _ :: _ => false
  | _ :: _, [] => false
end

theorem sameB_eq (a b : Tm) : sameB a b = ((a.k == b.k) && ((a.i == b.i) && samesB a.kids b.kids)) := by
  cases a; cases b; simp only [sameB]; rfl

theorem samesB_length : ∀ {l m : List Tm}, samesB l m = true → l.length = m.length
  | [], [], _ => rfl
  | x :: r, y :: s, h => by simp only [samesB, Bool.and_eq_true] at h; simp [samesB_length h.2]
  | [], _ :: _, h => by simp [samesB] at h
  | _ :: _, [], h => by simp [samesB] at h

theorem sameB_self (a : Tm) : sameB a a = true := by
  induction a using Tm.ind with
  | h a ih =>
    rw [sameB_eq]
    have key : ∀ (l : List Tm), (∀ x ∈ l, sameB x x = true) → samesB l l = true := by
      intro l
      induction l with
      | nil => intro _; simp [samesB]
      | cons x r ihl => intro hx; simp only [samesB, hx x List.mem_cons_self, Bool.true_and]; exact ihl (fun z hz => hx z (List.mem_cons_of_mem _ hz))
    simp [key a.kids ih]

theorem sames_take : ∀ (l m : List Tm) (k : Nat) (h : k < l.length) (h' : k < m.length), samesB (l.take (k + 1)) (m.take (k + 1)) = (samesB (l.take k) (m.take k) && sameB l[k] m[k])
  | x :: r, y :: s, 0, _, _ => by simp [samesB]
  | x :: r, y :: s, k + 1, h, h' => by
    simp only [List.take_succ_cons, samesB, List.getElem_cons_succ]
    rw [sames_take r s k (by simpa using h) (by simpa using h'), Bool.and_assoc]

theorem sames_of : ∀ (l m : List Tm) (k : Nat) (h : k < l.length) (h' : k < m.length), sameB l[k] m[k] = false → samesB l m = false
  | x :: r, y :: s, 0, _, _, hs => by simp only [List.getElem_cons_zero] at hs; simp [samesB, hs]
  | x :: r, y :: s, k + 1, h, h', hs => by
    simp only [List.getElem_cons_succ] at hs
    simp [samesB, sames_of r s k (by simpa using h) (by simpa using h') hs]

theorem sames_ne {l m : List Tm} (h : l.length ≠ m.length) : samesB l m = false := by
  cases hs : samesB l m with
  | false => rfl
  | true => exact absurd (samesB_length hs) h

/-- Two boxed terms, and what is new beside them. -/
def Held2 (w : World) (a : Tm) (s : Value) (b : Tm) (r : Value) (w' : World) : Prop := Below (w.heap.size + 2) ((w.alloc (boxOf a s)).alloc (boxOf b r)) w'

theorem held2_start (w : World) (a : Tm) (s : Value) (b : Tm) (r : Value) : Held2 w a s b r ((w.alloc (.cells #[.int .i64 a.k, .int .i64 a.i, s] 24)).alloc (.cells #[.int .i64 b.k, .int .i64 b.i, r] 24)) := Below.refl _ _
theorem held2_first {w w' : World} {a b : Tm} {s r : Value} (h : Held2 w a s b r w') : Held w a s w' := by
  unfold Held2 at h; unfold Held
  exact ((Below.refl _ _).alloc (by simp) _).trans (h.mono (by omega))
theorem held2_call {w w1 w2 : World} {a b : Tm} {s r : Value} (h : Held2 w a s b r w1) (hb : Below w1.heap.size w1 w2) : Held2 w a s b r w2 :=
  below_call h hb (by have := h.size; simpa using this)
theorem held2_below {w w1 : World} {a b : Tm} {s r : Value} (h : Held2 w a s b r w1) : Below w.heap.size w w1 := held_below (held2_first h)
theorem held2_lies {w w1 : World} {a b : Tm} {s r s' : Value} {l : List Tm} (h : Held2 w a s b r w1) (hl : Lies w l s') : Lies w1 l s' := hl.keep (held2_below h)
end Go.Proofs.YtdhfbphliejcdaaDoor.Dv

namespace Go.Proofs.YtdhfbphliejcdaaDoor.Dv
open Go.RowKit

set_option maxHeartbeats 1000000 in
theorem dterms_of (l : List Tm) (ih : ∀ x ∈ l, ∀ (y : Tm) (w : World) (s r : Value), Lies w x.kids s → Lies w y.kids r → Calls Tryd.prog 19 #[tv x s, tv y r] w fun e w' => e = .returned (.bool (sameB x y)) ∧ Below w.heap.size w w')
    (m : List Tm) (w : World) (s r : Value) (hl : Lies w l s) (hm : Lies w m r) : Calls Tryd.prog 34 #[s, r] w fun e w' => e = .returned (.bool (samesB l m)) ∧ Below w.heap.size w w' := by
  obtain ⟨a, cap, S, rfl, hc, hmx, -, hn, hk⟩ := hl.out
  obtain ⟨a2, cap2, S2, rfl, hc2, hmx2, -, hn2, hk2⟩ := hm.out
  unfold maxLen at hmx hmx2
  have IH := Lib.hid ih
  have HN := Lib.hid hn
  have HK := Lib.hid hk
  have HN2 := Lib.hid hn2
  have HK2 := Lib.hid hk2
  clear ih hn hk hn2 hk2 hl hm
  by_cases hlen : l.length = m.length
  rotate_left
  · have h1 : ((l.length : Int) == (m.length : Int)) = false := by simp; omega
    have h2 : ((l.length : Int) != (m.length : Int)) = true := by simp; omega
    have HS := Lib.hid (sames_ne hlen)
    clear hlen
    go_enter Tryd.func34, Tryd.ntmps34
    go_wp2
    go_ret
    exact ⟨ret_bool HS.out.symm, Below.refl _ _⟩
  have h1 : ((l.length : Int) == (m.length : Int)) = true := by simp; omega
  have h2 : ((l.length : Int) != (m.length : Int)) = false := by simp; omega
  have HL := Lib.hid hlen
  clear hlen
  go_enter Tryd.func34, Tryd.ntmps34
  go_wp2
  go_loopw [5] (fun iv wr => ∃ k : Nat, k ≤ l.length ∧ iv = .int .i64 k ∧ Hid (samesB (l.take k) (m.take k) = true) ∧ Below w.heap.size w wr) (fun iv _ => l.length - (intOf iv).toNat)
  case atStart => exact ⟨0, Nat.zero_le _, rfl, by simp [Hid, samesB], Below.refl _ _⟩
  case round =>
    obtain ⟨k, hk, rfl, hgood, hb⟩ := hrel
    by_cases hlt : k < l.length
    · have hlt2 : k < m.length := by have := HL.out; omega
      obtain ⟨b, o, rfl, hx⟩ := HN.out k hlt
      obtain ⟨b2, o2, rfl, hx2⟩ := HN2.out k hlt2
      obtain ⟨c0, c1, c2⟩ := hx.below hb hx.lt
      obtain ⟨e0, e1, e2⟩ := hx2.below hb hx2.lt
      have hq := (HK.out k hlt).keep hb
      have hq2 := (HK2.out k hlt2).keep hb
      obtain ⟨a', cap', S', hS, -⟩ := hq.out
      obtain ⟨a2', cap2', S2', hS2, -⟩ := hq2.out
      rw [hS] at c2 hq
      rw [hS2] at e2 hq2
      have HQ := Lib.hid hq
      have HQ2 := Lib.hid hq2
      have HM := Lib.hid (List.getElem_mem hlt)
      have HT := Lib.hid (sames_take l m k hlt hlt2)
      have HO := Lib.hid (sames_of l m k hlt hlt2)
      clear hS hS2 hq hq2
      go_wp2
      go_region_with (go_at_call 19; refine (IH.out _ HM.out _ _ _ _ (HQ.out.keep (Below.refl _ _).drew) (HQ2.out.keep (Below.refl _ _).drew)).mono ?_; rintro e wn ⟨rfl, hb'⟩; have HB3 := below_call hb.drew hb' hb.size; clear hb')
      all_goals
        cases hs : sameB l[k] m[k]
        · go_wp2
          go_ret
          exact ⟨ret_bool (HO.out hs).symm, HB3⟩
        · go_wp2
          go_roundw
          case rel => exact ⟨k + 1, by omega, by go_num, by show _ = true; rw [HT.out, hgood.out, hs]; rfl, HB3⟩
          case measure => simp [intOf]; omega
    · have : k = l.length := by omega
      subst this
      go_wp2
      go_ret
      exact ⟨ret_bool (by have hg := hgood.out; rw [List.take_length, HL.out, List.take_length] at hg; exact hg.symm), hb⟩

set_option maxHeartbeats 1000000 in
theorem dkeepsame_any (t : Tm) : ∀ (u : Tm) (w : World) (s r : Value), Lies w t.kids s → Lies w u.kids r → Calls Tryd.prog 19 #[tv t s, tv u r] w fun e w' => e = .returned (.bool (sameB t u)) ∧ Below w.heap.size w w' := by
  induction t using Tm.ind with
  | h t ih =>
    intro u w s r hl hm
    obtain ⟨a, cap, S, rfl, -⟩ := hl.out
    obtain ⟨a2, cap2, S2, rfl, -⟩ := hm.out
    have HTM := Lib.hid (dterms_of t.kids ih)
    have HE := Lib.hid (sameB_eq t u)
    have HL := Lib.hid hl
    have HM := Lib.hid hm
    have H0 := held2_start w t (.slice a t.kids.length cap) u (.slice a2 u.kids.length cap2)
    clear hl hm ih
    unfold tv
    cases ek : (t.k == u.k)
    · go_enter Tryd.func19, Tryd.ntmps19
      go_wp2
      go_ret
      exact ⟨ret_bool (by rw [HE.out]; simp only [ek, Bool.false_and]), held2_below H0⟩
    cases ei : (t.i == u.i)
    · go_enter Tryd.func19, Tryd.ntmps19
      go_wp2
      go_ret
      exact ⟨ret_bool (by rw [HE.out]; simp only [ek, ei, Bool.false_and, Bool.true_and]), held2_below H0⟩
    go_enter Tryd.func19, Tryd.ntmps19
    go_wp2_with fail
    refine (HTM.out u.kids _ _ _ (held2_lies H0 HL.out) (held2_lies H0 HM.out)).mono ?_
    rintro e wn ⟨rfl, hb'⟩
    have H1 := held2_call H0 hb'
    clear hb'
    go_wp2
    go_ret
    exact ⟨ret_bool (by rw [HE.out]; simp only [ek, ei, Bool.true_and]), held2_below H1⟩
end Go.Proofs.YtdhfbphliejcdaaDoor.Dv

namespace Go.Proofs.YtdhfbphliejcdaaDoor.Dv
open Go.RowKit

set_option maxHeartbeats 2000000 in
theorem drights_any (l : List Tm) (w : World) (s : Value) (hl : Lies w l s) : Calls Tryd.prog 13 #[s] w fun e w' => e = .returned (.bool (rights l)) ∧ Below w.heap.size w w' := by
  obtain ⟨a, cap, S, rfl, hc, hm, hf, hn, hk⟩ := hl.out
  unfold maxLen at hm
  have HN := Lib.hid hn
  have HK := Lib.hid hk
  clear hn hk hf hl
  go_enter Tryd.func13, Tryd.ntmps13
  go_wp2_with fail
  go_loopw [3] (fun iv wr => ∃ k : Nat, k ≤ l.length ∧ iv = .int .i64 k ∧ Hid (rights (l.take k) = true) ∧ Below w.heap.size w wr) (fun iv _ => l.length - (intOf iv).toNat)
  case atStart => exact ⟨0, Nat.zero_le _, rfl, rfl, Below.refl _ _⟩
  case round =>
    obtain ⟨k, hkl, rfl, hg, hb⟩ := hrel
    by_cases hlt : k < l.length
    · obtain ⟨b, o, rfl, hx⟩ := HN.out k hlt
      obtain ⟨c0, c1, c2⟩ := hx.below hb hx.lt
      have hq := (HK.out k hlt).keep hb
      obtain ⟨a', cap', S', hS, -⟩ := hq.out
      rw [hS] at c2 hq
      have HC := Lib.hid (drefright_any l[k] _ _ hq)
      have HTK := Lib.hid (rights_take l k hlt)
      have HO := Lib.hid (fun h => rights_of l k hlt h)
      generalize l[k] = x at c0 c1 c2 HC HTK HO
      clear hS hq hx
      go_wp2_with fail
      refine HC.out.mono ?_
      rintro e w2 ⟨rfl, hb2⟩
      have HB := Lib.hid (hb.trans (hb2.mono hb.size))
      clear hb hb2
      cases hr : x.rightB with
      | false =>
        have h0 := HO.out hr
        go_wp2
        go_ret
        exact ⟨by rw [h0]; rfl, HB.out⟩
      | true =>
        have hw1 : IntKind.i64.wrap ((k : Int) + 1) = (k : Int) + 1 := IntWalk.i64_in _ (by omega)
        go_wp2_with fail
        go_roundw
        case rel => exact ⟨k + 1, hlt, by go_num, by show _ = true; rw [HTK.out, hg.out, hr]; rfl, HB.out⟩
        case measure => simp [intOf]; omega
    · have hk2 : k = l.length := by omega
      have HGG := Lib.hid (show rights l = true by have := hg.out; rwa [hk2, List.take_length] at this)
      subst hk2
      go_wp2
      go_ret
      exact ⟨by rw [HGG.out]; rfl, hb⟩
/-- Two files that are the same, or not. -/
def fileB (l m : List Tm) (t u : Tm) : Bool := samesB l m && sameB t u
set_option maxHeartbeats 2000000 in
theorem keepfile_any (l m : List Tm) (t u : Tm) (w : World) (cv dv s r : Value) (hl : Lies w l cv) (hm : Lies w m dv) (ht : Lies w t.kids s) (hu : Lies w u.kids r) : Calls Tryd.prog 16 #[fv cv t s, fv dv u r] w fun e w' => e = .returned (.bool (fileB l m t u)) ∧ Below w.heap.size w w' := by
  obtain ⟨a1, c1, S1, rfl, -⟩ := hl.out
  obtain ⟨a2, c2, S2, rfl, -⟩ := hm.out
  obtain ⟨a3, c3, S3, rfl, -⟩ := ht.out
  obtain ⟨a4, c4, S4, rfl, -⟩ := hu.out
  have hb1 := (Below.refl w.heap.size w).alloc (Nat.le_refl _) (.cells #[.slice a1 l.length c1, .int .i64 t.k, .int .i64 t.i, .slice a3 t.kids.length c3] 26)
  have hb2 := (Below.refl (w.alloc (.cells #[.slice a1 l.length c1, .int .i64 t.k, .int .i64 t.i, .slice a3 t.kids.length c3] 26)).heap.size (w.alloc (.cells #[.slice a1 l.length c1, .int .i64 t.k, .int .i64 t.i, .slice a3 t.kids.length c3] 26))).alloc (Nat.le_refl _) (.cells #[.slice a2 m.length c2, .int .i64 u.k, .int .i64 u.i, .slice a4 u.kids.length c4] 26)
  have hb := hb1.trans (hb2.mono hb1.size)
  have HBB := Lib.hid hb
  have HD := Lib.hid (dterms_of l (fun x _ y w s r h1 h2 => dkeepsame_any x y w s r h1 h2) m _ _ _ (hl.keep hb) (hm.keep hb))
  have n1 := (hb2.block w.heap.size (by simp)).trans (alloc_new w (.cells #[.slice a1 l.length c1, .int .i64 t.k, .int .i64 t.i, .slice a3 t.kids.length c3] 26))
  have n2 := alloc_new (w.alloc (.cells #[.slice a1 l.length c1, .int .i64 t.k, .int .i64 t.i, .slice a3 t.kids.length c3] 26)) (.cells #[.slice a2 m.length c2, .int .i64 u.k, .int .i64 u.i, .slice a4 u.kids.length c4] 26)
  rw [World.size_alloc] at n2
  have HT := Lib.hid (ht.keep hb)
  have HU := Lib.hid (hu.keep hb)
  have hlt1 : w.heap.size + 1 < ((w.alloc (.cells #[.slice a1 l.length c1, .int .i64 t.k, .int .i64 t.i, .slice a3 t.kids.length c3] 26)).alloc (.cells #[.slice a2 m.length c2, .int .i64 u.k, .int .i64 u.i, .slice a4 u.kids.length c4] 26)).heap.size := by simp
  clear hb1 hb2 hb hl hm ht hu
  unfold fv
  go_enter Tryd.func16, Tryd.ntmps16
  go_upto_region 1 with fail
  obtain ⟨W, hW⟩ : ∃ W, W = (w.alloc (.cells #[.slice a1 l.length c1, .int .i64 t.k, .int .i64 t.i, .slice a3 t.kids.length c3] 26)).alloc (.cells #[.slice a2 m.length c2, .int .i64 u.k, .int .i64 u.i, .slice a4 u.kids.length c4] 26) := ⟨_, rfl⟩
  rw [← hW] at HBB HD n1 n2 HT HU hlt1
  rw [← hW]
  clear hW
  have HN1 := Lib.hid n1
  have HN2 := Lib.hid n2
  obtain ⟨y0, y1, y2, y3⟩ := four_cells n1
  obtain ⟨z0, z1, z2, z3⟩ := four_cells n2
  clear n1 n2
  go_wp2_with fail
  refine HD.out.mono ?_
  rintro e w2 ⟨rfl, hb2⟩
  have HB2 := Lib.hid (HBB.out.trans (hb2.mono HBB.out.size))
  have n1 := (hb2.block _ (by omega)).trans HN1.out
  have n2 := (hb2.block _ hlt1).trans HN2.out
  have HT2 := Lib.hid (HT.out.keep hb2)
  have HU2 := Lib.hid (HU.out.keep hb2)
  clear hb2 y0 y1 y2 y3 z0 z1 z2 z3
  obtain ⟨y0, y1, y2, y3⟩ := four_cells n1
  obtain ⟨z0, z1, z2, z3⟩ := four_cells n2
  clear n1 n2
  cases hs : samesB l m with
  | false =>
    go_wp2
    go_ret
    exact ⟨by unfold fileB; rw [hs]; rfl, HB2.out⟩
  | true =>
    go_wp2_with fail
    refine (dkeepsame_any t u _ _ _ HT2.out HU2.out).mono ?_
    rintro e w3 ⟨rfl, hb3⟩
    have HB3 := Lib.hid (HB2.out.trans (hb3.mono HB2.out.size))
    clear hb3
    go_wp2
    go_ret
    exact ⟨by unfold fileB; rw [hs]; rfl, HB3.out⟩
end Go.Proofs.YtdhfbphliejcdaaDoor.Dv

namespace Go.Proofs.YtdhfbphliejcdaaDoor.Dv
open Go.RowKit

def NotGreatF (c : List Tm) (t : Tm) (most : Int) (w : World) (e : Ending) (w' : World) : Prop :=
  ∃ g : Bool, e = .returned (.bool g) ∧ (g = false → (sizes c : Int) + t.size ≤ most) ∧ Below w.heap.size w w'
set_option maxHeartbeats 2000000 in
theorem greatfile_any (c : List Tm) (t : Tm) (M : Int) (w : World) (cv s : Value) (hc : Lies w c cv) (hl : Lies w t.kids s) (h0 : 0 ≤ M) (h1 : M ≤ 100000) :
    Calls Tryd.prog 7 #[fv cv t s, .int .i64 M] w (NotGreatF c t M w) := by
  obtain ⟨a1, c1, S1, rfl, hcc, hcm, -, hn, hk⟩ := hc.out
  obtain ⟨a2, c2, S2, rfl, -⟩ := hl.out
  have HH := Lib.hid (show HeldF w (.slice a1 c.length c1) t.k t.i (.slice a2 t.kids.length c2) (w.alloc (fileO (.slice a1 c.length c1) t.k t.i (.slice a2 t.kids.length c2))) from Below.refl _ _)
  have HL := Lib.hid (heldF_lies HH.out hl)
  have HN := Lib.hid hn
  have HK := Lib.hid hk
  unfold maxLen at hcm
  clear hl hc hn hk
  unfold fv
  go_enter Tryd.func7, Tryd.ntmps7
  go_upto_region 1 with fail
  obtain ⟨wB, hwB⟩ : ∃ wB, wB = w.alloc (fileO (.slice a1 c.length c1) t.k t.i (.slice a2 t.kids.length c2)) := ⟨_, rfl⟩
  rw [← hwB] at HH HL
  rw [← hwB]
  clear hwB
  obtain ⟨y0, y1, y2, y3⟩ := four_cells (heldF_at HH.out)
  by_cases hlen : M < (c.length : Int)
  · have e1 : decide (M < (c.length : Int)) = true := decide_eq_true hlen
    go_wp2
    go_ret
    exact ⟨true, rfl, (fun h => by cases h), heldF_below HH.out⟩
  have e1 : decide (M < (c.length : Int)) = false := decide_eq_false hlen
  go_wp2_with fail
  refine (dweigh_any t _ _ _ _ HL.out h0 h1 (by omega) (by omega)).mono ?_
  rintro e w1 ⟨r, rfl, hr1, hr2, hr3, hb1⟩
  have H1 := Lib.hid (heldF_call HH.out hb1)
  have HR1 := Lib.hid hr3
  clear hb1 y0 y1 y2 y3 HH HL e1 hr3
  go_wp2_with fail
  go_loopw [5, 6] (fun nv iv wr => ∃ (k : Nat) (n : Int), k ≤ c.length ∧ iv = .int .i64 k ∧ nv = .int .i64 n ∧ 1 ≤ n ∧ n ≤ M + 1 ∧ Hid (n ≤ M → n = ((t.size + sizes (c.take k) : Nat) : Int)) ∧ Hid (HeldF w (.slice a1 c.length c1) t.k t.i (.slice a2 t.kids.length c2) wr)) (fun _ i _ => c.length - (intOf i).toNat)
  case atStart => exact ⟨0, r, Nat.zero_le _, rfl, rfl, by omega, by omega, fun h => by have := (HR1.out h).1; simp [sizes]; omega, H1⟩
  case round =>
    obtain ⟨k, n, hk, rfl, rfl, hn1, hn2, hrel, hb⟩ := hrel
    have HV := Lib.hid hb.out
    clear hb H1
    obtain ⟨y0, y1, y2, y3⟩ := four_cells (heldF_at HV.out)
    by_cases hlt : k < c.length
    · by_cases hnm : n ≤ M
      · obtain ⟨b, o, rfl, hx⟩ := HN.out k hlt
        obtain ⟨e0, e1, e2⟩ := hx.below (heldF_below HV.out) hx.lt
        have hq := HK.out k hlt
        obtain ⟨a', cap', S', hS, -⟩ := hq.out
        rw [hS] at e2 hq
        have HQ := Lib.hid (heldF_lies HV.out hq)
        clear hS hq
        have HT := Lib.hid (sizes_take c k hlt)
        have hwk : IntKind.i64.wrap ((k : Int) + 1) = (k : Int) + 1 := IntWalk.i64_in _ (by omega)
        have hws : IntKind.i64.wrap (M - n) = M - n := IntWalk.i64_in _ (by omega)
        go_wp2_with fail
        refine (dweigh_any c[k] _ _ _ _ HQ.out (by omega) (by omega) (by omega) (by omega)).mono ?_
        rintro e w' ⟨r2, rfl, hr1, hr2, hr3, hb'⟩
        have HR3 := Lib.hid hr3
        have H8 := Lib.hid (heldF_call HV.out hb')
        clear hb' hr3 e0 e1 e2 y0 y1 y2 y3
        have hwn : IntKind.i64.wrap (n + r2) = n + r2 := IntWalk.i64_in _ (by omega)
        go_wp2
        go_roundw
        case rel =>
          refine ⟨k + 1, n + r2, by omega, by go_num, rfl, by omega, by omega, ?_, H8⟩
          intro hle
          have e1 := hrel.out hnm
          obtain ⟨e3, e4⟩ := HR3.out (by omega)
          rw [HT.out, e1, e3]
          simp; omega
        case measure => simp [intOf]; omega
      · go_wp2
        go_ret
        exact ⟨_, rfl, fun h => absurd h (by simp <;> omega), heldF_below HV.out⟩
    · have : k = c.length := by omega
      subst this
      go_wp2
      all_goals go_ret
      all_goals
        refine ⟨_, rfl, fun h => ?_, heldF_below HV.out⟩
        have hle : n ≤ M := by simpa using h
        have e1 := hrel.out hle
        rw [List.take_length] at e1
        omega
end Go.Proofs.YtdhfbphliejcdaaDoor.Dv

namespace Go.Proofs.YtdhfbphliejcdaaDoor.Dv
open Go.RowKit

theorem nil_lieS (w : World) : Lies w [] (.slice none 0 0) := .mk [] none 0 (fun _ => .nilIface) (Nat.le_refl _) (by decide) (fun _ h => by cases h) (fun _ h => absurd h (by simp)) (fun _ h => absurd h (by simp))
theorem one_lieS {w : World} {g : Nat} {k i : Int} (h : w.heap[g]? = some (.cells #[.int .i64 k, .int .i64 i, .slice none 0 0] 24)) (hf : (Tm.mk k i []).fine) : Lies w [.mk k i []] (.slice (some ⟨g, 0, none⟩) 1 1) := by
  obtain ⟨c0, c1, c2⟩ := five_cells h
  refine .mk [.mk k i []] (some ⟨g, 0, none⟩) 1 (fun _ => .slice none 0 0) (Nat.le_refl _) (by decide) (fun x hx => ?_) (fun j hj => ⟨g, 0, rfl, ?_⟩) (fun j hj => ?_)
  · rcases List.mem_cons.1 hx with rfl | hx
    · exact hf
    · cases hx
  · obtain rfl : j = 0 := by simpa using hj
    exact ⟨c0, c1, c2⟩
  · obtain rfl : j = 0 := by simpa using hj
    exact nil_lieS w
theorem wk14 : shownF [.mk 1 0 []] (.mk 2 0 []) = [40, 102, 105, 108, 101, 32, 40, 40, 115, 111, 114, 116, 32, 48, 41, 41, 32, 40, 118, 97, 114, 32, 48, 41, 41, 10] := by kernel_rfl
theorem wk14b : shownD (.mk 0 0 []) = [] := by kernel_rfl
set_option maxHeartbeats 2000000 in
set_option maxRecDepth 20000 in
theorem wakes14_any (w : World) (hT : Tab w) : Calls Tryd.prog 12 #[] w fun e w' => e = .returned (.bool true) ∧ Below w.heap.size w w' := by
  have hb1 := (Below.refl w.heap.size w).alloc (Nat.le_refl _) (.cells #[.int .i64 1, .int .i64 0, .slice none 0 0] 24)
  have hb2 := hb1.alloc hb1.size (.cells #[.slice (some ⟨w.heap.size, 0, none⟩) 1 1, .int .i64 2, .int .i64 0, .slice none 0 0] 26)
  have hg : ((w.alloc (.cells #[.int .i64 1, .int .i64 0, .slice none 0 0] 24)).alloc (.cells #[.slice (some ⟨w.heap.size, 0, none⟩) 1 1, .int .i64 2, .int .i64 0, .slice none 0 0] 26)).heap[w.heap.size]? = some (.cells #[.int .i64 1, .int .i64 0, .slice none 0 0] 24) := by rw [Lib.alloc_old _ _ _ (by simp)]; exact alloc_new _ _
  have hf : ((w.alloc (.cells #[.int .i64 1, .int .i64 0, .slice none 0 0] 24)).alloc (.cells #[.slice (some ⟨w.heap.size, 0, none⟩) 1 1, .int .i64 2, .int .i64 0, .slice none 0 0] 26)).heap[w.heap.size + 1]? = some (.cells #[.slice (some ⟨w.heap.size, 0, none⟩) 1 1, .int .i64 2, .int .i64 0, .slice none 0 0] 26) := by
    have h := alloc_new (w.alloc (.cells #[.int .i64 1, .int .i64 0, .slice none 0 0] 24)) (.cells #[.slice (some ⟨w.heap.size, 0, none⟩) 1 1, .int .i64 2, .int .i64 0, .slice none 0 0] 26)
    rwa [World.size_alloc] at h
  have HC := Lib.hid (one_lieS hg ⟨by show (-9223372036854775808 : Int) ≤ 1 ∧ (1 : Int) ≤ 9223372036854775807; decide, by show (-9223372036854775808 : Int) ≤ 0 ∧ (0 : Int) ≤ 9223372036854775807; decide⟩)
  have HB := Lib.hid hb2
  have HT := Lib.hid (tab_up hT hb2)
  obtain ⟨y0, y1, y2, y3⟩ := four_cells hf
  clear hb1 hb2 hg hf hT
  go_enter Tryd.func12, Tryd.ntmps12
  go_upto_region 2 with fail
  obtain ⟨W, hW⟩ : ∃ W, W = (w.alloc (.cells #[.int .i64 1, .int .i64 0, .slice none 0 0] 24)).alloc (.cells #[.slice (some ⟨w.heap.size, 0, none⟩) 1 1, .int .i64 2, .int .i64 0, .slice none 0 0] 26) := ⟨_, rfl⟩
  rw [← hW] at y0 y1 y2 y3 HC HB HT
  rw [← hW]
  clear hW
  go_wp2_with fail
  refine (sfile_any [.mk 1 0 []] (.mk 2 0 []) W _ _ HC.out (nil_lieS _) HT.out (by decide)).mono ?_
  rintro e w1 ⟨rfl, hb1⟩
  rw [wk14]
  have HB1 := Lib.hid (HB.out.trans (hb1.mono HB.out.size))
  have HT1 := Lib.hid (tab_up HT.out hb1)
  clear hb1 y0 y1 y2 y3
  go_wp2_with fail
  refine (sderiv_any (.mk 0 0 []) w1 _ (nil_lieS _) HT1.out (by decide)).mono ?_
  rintro e w2 ⟨rfl, hb2⟩
  rw [wk14b]
  have HB2 := Lib.hid (HB1.out.trans (hb2.mono HB1.out.size))
  clear hb2
  go_wp2
  go_ret
  exact ⟨rfl, HB2.out⟩
end Go.Proofs.YtdhfbphliejcdaaDoor.Dv

namespace Go.Proofs.YtdhfbphliejcdaaDoor.Dv
open Go.RowKit

theorem samesB_self (l : List Tm) : samesB l l = true := by
  have := sameB_self (.mk 0 0 l)
  rw [sameB_eq] at this
  simpa [Tm.kids] using this
theorem fileB_self (l : List Tm) (t : Tm) : fileB l l t t = true := by unfold fileB; rw [samesB_self, sameB_self]; rfl
end Go.Proofs.YtdhfbphliejcdaaDoor.Dv

namespace Go.Proofs.YtdhfbphliejcdaaDoor.Dv
open Go.RowKit

theorem big_or (n : Nat) : withinB (n : Nat) 4787326403894837248 = true ∨ 1000000 < n := by
  by_cases h : n ≤ 1000000
  · exact Or.inl (within_big (by omega) (by omega))
  · exact Or.inr (by omega)
theorem file_len {c : List Tm} {t : Tm} (hc : rights c = true) (ht : t.rightB = true) : (fileL c t).length ≤ 32 * (sizes c + t.size) + 12 := by
  have a := ctx_len hc
  have b := sh_len t ht
  rw [file_text]
  simp only [List.length_append, headF, List.length_cons, List.length_nil]; omega
set_option maxRecDepth 20000 in
set_option maxHeartbeats 4000000 in
theorem showBack_any (c : List Tm) (t : Tm) (w : World) (cv s : Value) (hc : Lies w c cv) (hl : Lies w t.kids s) (hT : Tab w) : Calls Tryd.prog 4 #[fv cv t s] w fun e w' => e = .returned (.bool true) ∧ Below w.heap.size w w' := by
  obtain ⟨a1, c1, S1, rfl, -⟩ := hc.out
  obtain ⟨a2, c2, S2, rfl, -⟩ := hl.out
  have HH := Lib.hid (show HeldF w (.slice a1 c.length c1) t.k t.i (.slice a2 t.kids.length c2) (w.alloc (fileO (.slice a1 c.length c1) t.k t.i (.slice a2 t.kids.length c2))) from Below.refl _ _)
  have HC0 := Lib.hid hc
  have HL0 := Lib.hid hl
  have HT0 := Lib.hid hT
  clear hl hT hc
  unfold fv
  go_enter Tryd.func4, Tryd.ntmps4
  go_upto_region 1 with fail
  obtain ⟨wB, hwB⟩ : ∃ wB, wB = w.alloc (fileO (.slice a1 c.length c1) t.k t.i (.slice a2 t.kids.length c2)) := ⟨_, rfl⟩
  rw [← hwB] at HH
  rw [← hwB]
  clear hwB
  obtain ⟨y0, y1, y2, y3⟩ := four_cells (heldF_at HH.out)
  have HG := Lib.hid (greatfile_any c t 600 wB _ _ (heldF_lies HH.out HC0.out) (heldF_lies HH.out HL0.out) (by omega) (by omega))
  go_wp2_with fail
  refine HG.out.mono ?_
  rintro e w1 ⟨g, rfl, hg, hb1⟩
  have H1 := Lib.hid (heldF_call HH.out hb1)
  have HGR := Lib.hid hg
  clear hb1 hg y0 y1 y2 y3 HG HH
  cases g with
  | true =>
    go_wp2
    all_goals go_ret
    all_goals exact ⟨rfl, heldF_below H1.out⟩
  | false =>
  have hz := HGR.out rfl
  clear HGR
  obtain ⟨y0, y1, y2, y3⟩ := four_cells (heldF_at H1.out)
  go_wp2_with fail
  refine (drights_any c w1 _ (heldF_lies H1.out HC0.out)).mono ?_
  rintro e w2 ⟨rfl, hb2⟩
  have H2 := Lib.hid (heldF_call H1.out hb2)
  clear hb2 y0 y1 y2 y3 H1
  obtain ⟨y0, y1, y2, y3⟩ := four_cells (heldF_at H2.out)
  cases hrc : rights c with
  | false =>
    go_wp2
    all_goals go_ret
    all_goals exact ⟨rfl, heldF_below H2.out⟩
  | true =>
  go_wp2_with fail
  refine (drefright_any t w2 _ (heldF_lies H2.out HL0.out)).mono ?_
  rintro e w3 ⟨rfl, hb3⟩
  have H3 := Lib.hid (heldF_call H2.out hb3)
  clear hb3 y0 y1 y2 y3 H2
  obtain ⟨y0, y1, y2, y3⟩ := four_cells (heldF_at H3.out)
  cases hrt : t.rightB with
  | false =>
    go_wp2
    all_goals go_ret
    all_goals exact ⟨rfl, heldF_below H3.out⟩
  | true =>
  have HPB := Lib.hid (parse_shown (deep := 4787326403894837248) (nodes := 4787326403894837248) big_or big_or hrc hrt (by omega))
  have HFL := Lib.hid (file_len hrc hrt)
  have HSF := Lib.hid (show shownF c t = fileL c t from if_pos ⟨hrc, hrt⟩)
  clear hrc hrt
  go_wp2_with fail
  refine (sfile_any c t w3 _ _ (heldF_lies H3.out HC0.out) (heldF_lies H3.out HL0.out) (tab_up HT0.out (heldF_below H3.out)) (by omega)).mono ?_
  rintro e w4 ⟨rfl, hb4⟩
  rw [HSF.out]
  have H4 := Lib.hid (heldF_call H3.out hb4)
  clear hb4 y0 y1 y2 y3 H3
  obtain ⟨X, hX⟩ : ∃ X, fileL c t = X := ⟨_, rfl⟩
  rw [hX] at HPB HFL
  rw [hX]
  clear hX
  go_wp2_with fail
  refine (parse_any ⟨X.toArray⟩ 4787326403894837248 4787326403894837248 w4 (by show X.toArray.size ≤ 10000000; have := HFL.out; rw [List.size_toArray]; omega)).mono ?_
  intro e w5 hg
  rw [show (⟨X.toArray⟩ : ByteArray).data.toList = X from rfl, HPB.out] at hg
  obtain ⟨hb5, cv5, sv5, rfl, hl5, hlt5, hfi⟩ := hg
  obtain ⟨a3, c3, rfl, -, -⟩ := hl5.out
  obtain ⟨a4, c4, rfl, -, -⟩ := hlt5.out
  have hba := (Below.refl w5.heap.size w5).alloc (Nat.le_refl _) (.cells #[.slice a3 c.length c3, .int .i64 t.k, .int .i64 t.i, .slice a4 t.kids.length c4] 26)
  have hn5 := alloc_new w5 (.cells #[.slice a3 c.length c3, .int .i64 t.k, .int .i64 t.i, .slice a4 t.kids.length c4] 26)
  have H5 := Lib.hid (heldF_call (heldF_call H4.out hb5) hba)
  have HL5 := Lib.hid (hl5.later hba).lies
  have HK5 := Lib.hid (hlt5.later hba).lies
  clear hb5 hl5 hlt5 hfi hba H4
  unfold fv
  go_upto_region 4 with fail
  obtain ⟨V, hV⟩ : ∃ V, V = w5.alloc (.cells #[.slice a3 c.length c3, .int .i64 t.k, .int .i64 t.i, .slice a4 t.kids.length c4] 26) := ⟨_, rfl⟩
  rw [← hV] at H5 HL5 HK5 hn5
  rw [← hV]
  clear hV
  obtain ⟨y0, y1, y2, y3⟩ := four_cells (heldF_at H5.out)
  obtain ⟨z0, z1, z2, z3⟩ := four_cells hn5
  clear hn5
  go_wp2_with fail
  refine (keepfile_any c c t t V _ _ _ _ (heldF_lies H5.out HC0.out) HL5.out (heldF_lies H5.out HL0.out) HK5.out).mono ?_
  rintro e w6 ⟨rfl, hb6⟩
  rw [fileB_self]
  have H6 := Lib.hid (heldF_call H5.out hb6)
  clear hb6 y0 y1 y2 y3 z0 z1 z2 z3
  go_wp2_with fail
  refine (wakes14_any w6 (tab_up HT0.out (heldF_below H6.out))).mono ?_
  rintro e w7 ⟨rfl, hb7⟩
  have H7 := Lib.hid (heldF_below (heldF_call H6.out hb7))
  clear hb7
  go_wp2
  go_ret
  exact ⟨rfl, H7.out⟩
end Go.Proofs.YtdhfbphliejcdaaDoor.Dv

namespace Go.Proofs.YtdhfbphliejcdaaDoor
open Go.ChangeShapes Go.WideShapes Go.ChangeAt Go.RowKit

theorem own : ownKnob Tryd.prog.godebug = none := by kernel_rfl
theorem cells_int : Tryd.prog.cellsOf 3 = 1 := by kernel_rfl
theorem laidOut : laidOutB Tryd.prog = true := by kernel_rfl

instance instOpenTm : Inhabited (Tm × Value) := ⟨(.mk 0 0 0 0 [], .nilIface)⟩

end Go.Proofs.YtdhfbphliejcdaaDoor

namespace Go.Proofs.YtdhfbphliejcdaaDoor.Dv
open Go.ChangeShapes Go.WideShapes Go.ChangeAt Go.RowKit

theorem cells_kids : Tryd.prog.cellsOf 22 = 1 := by kernel_rfl
theorem cells_term : Tryd.prog.cellsOf 24 = 3 := by kernel_rfl
instance instOpenTm : Inhabited (Tm × Value) := ⟨(.mk 0 0 [], .nilIface)⟩
theorem list3 {α : Type} {l : List α} (h : l.length = 3) : ∃ a b c, l = [a, b, c] := by
  match l, h with
  | [a, b, c], _ => exact ⟨a, b, c, rfl⟩

set_option maxRecDepth 100000 in
theorem open_term {H : Type} {enc : TypeId × Value → H} {w : World} {base : Nat} {sp : Nat → Bool} {hd : Bool} : ∀ (fuel : Nat) (cs : List Value) (x : DataW H × List MemPlace),
    DataW.trod enc Tryd.prog w base sp hd fuel 24 cs = some x → ∃ (t : Tm) (s : Value), cs = [.int .i64 t.k, .int .i64 t.i, s] ∧ t.fine ∧ Lies w t.kids s := by
  intro fuel
  induction fuel using Nat.strongRecOn with
  | _ fuel ih =>
    intro cs x h
    obtain ⟨xs, n, rfl, rfl, hl, hlen, hf⟩ := DataW.trod_struct Tryd.underlying24 h
    rw [cells_term] at hl
    obtain ⟨v0, v1, v2, rfl⟩ := list3 hl
    obtain ⟨y0, y1, y2, rfl⟩ := list3 hlen
    have g0 := hf 0 _ rfl
    have g1 := hf 1 _ rfl
    have g2 := hf 2 _ rfl
    simp [cells_int, cells_kids] at g0 g1 g2
    obtain ⟨k, e0, -, w0⟩ := DataW.trod_int Tryd.underlying3 g0
    obtain ⟨i, e1, -, w1⟩ := DataW.trod_int Tryd.underlying3 g1
    simp at e0 e1
    subst e0 e1
    rcases DataW.trod_slice Tryd.underlying22 g2 with ⟨e4, -⟩ | ⟨a, len, cap, elems, rest, n', rfl, e4, -, hb, hlc, hm, hlen', hel, -, -⟩
    · simp at e4
      subst e4
      exact ⟨.mk k i [], _, rfl, ⟨wf_I64 w0, wf_I64 w1⟩, .mk [] none 0 (fun _ => .nilIface) (Nat.le_refl _) (by decide) (fun _ h => by cases h) (fun _ h => by cases h) (fun _ h => by cases h)⟩
    · simp at e4
      subst e4
      have key : ∀ i, i < len → ∃ p : Tm × Value, p.1.fine ∧ Lies w p.1.kids p.2 ∧ ∃ b o, a = ⟨b, o, none⟩ ∧ Node w b (o + i * 3) p.1 p.2 := by
        intro i hi
        have h1 := hel i hi
        rw [cells_term, List.getElem?_eq_getElem (by omega)] at h1
        obtain ⟨cs', h2, h3⟩ := Option.bind_eq_some_iff.1 h1
        obtain ⟨t, s, rfl, hfine, hlies⟩ := ih n' (by omega) _ _ h3
        obtain ⟨-, -, hcell⟩ := World.cells?_some h2
        have hs0 : a.spot = none := by
          have h1 := hel 0 (by omega)
          rw [cells_term, List.getElem?_eq_getElem (by omega)] at h1
          obtain ⟨cs0, h2, -⟩ := Option.bind_eq_some_iff.1 h1
          obtain ⟨-, hl0, hc0⟩ := World.cells?_some h2
          have c0 := hc0 0 (by omega)
          rw [List.getElem?_eq_getElem (by omega)] at c0
          simpa [Addr.add] using World.cell?_spot c0
        obtain ⟨b, o, spot⟩ := a
        simp only at hs0
        subst hs0
        refine ⟨(t, s), hfine, hlies, b, o, rfl, ?_⟩
        have hc : ∀ q, q < 3 → w.cell? ⟨b, o + i * 3 + q, none⟩ = [Value.int .i64 t.k, .int .i64 t.i, s][q]? := fun q hq => by
          have := hcell q hq
          rwa [add_plain, add_plain] at this
        exact ⟨hc 0 (by omega), hc 1 (by omega), hc 2 (by omega)⟩
      obtain ⟨f, hf'⟩ := Go.Deep.choose_lt (α := Tm × Value) (p := fun i p => p.1.fine ∧ Lies w p.1.kids p.2 ∧ ∃ b o, a = ⟨b, o, none⟩ ∧ Node w b (o + i * 3) p.1 p.2) key
      have hl5 : ((List.range len).map fun i => (f i).1).length = len := by simp
      refine ⟨.mk k i ((List.range len).map fun i => (f i).1), _, rfl, ⟨wf_I64 w0, wf_I64 w1⟩, ?_⟩
      have := Lies.mk (w := w) ((List.range len).map fun i => (f i).1) (some a) cap (fun i => (f i).2) (by simpa using hlc) hm
        (fun x hx => by
          obtain ⟨i, hi, rfl⟩ := List.mem_map.1 hx
          exact (hf' i (List.mem_range.1 hi)).1)
        (fun i hi => by
          obtain ⟨b, o, ha, hn⟩ := (hf' i (by simpa using hi)).2.2
          exact ⟨b, o, by rw [ha], by simpa using hn⟩)
        (fun i hi => by simpa using (hf' i (by simpa using hi)).2.1)
      rwa [hl5] at this
end Go.Proofs.YtdhfbphliejcdaaDoor.Dv

namespace Go.Proofs.YtdhfbphliejcdaaDoor.Dv
open Go.ChangeShapes Go.WideShapes Go.ChangeAt Go.RowKit

theorem cells_fileF : Tryd.prog.cellsOf 26 = 4 := by kernel_rfl
theorem list4F {α : Type} {l : List α} (h : l.length = 4) : ∃ a b c d, l = [a, b, c, d] := by
  match l, h with
  | [a, b, c, d], _ => exact ⟨a, b, c, d, rfl⟩
theorem list2F {α : Type} {l : List α} (h : l.length = 2) : ∃ a b, l = [a, b] := by
  match l, h with
  | [a, b], _ => exact ⟨a, b, rfl⟩
set_option maxRecDepth 100000 in
theorem open_rowF {H : Type} {enc : TypeId × Value → H} {w : World} {base : Nat} {sp : Nat → Bool} {hd : Bool} (fuel : Nat) (v : Value) (x : DataW H × List MemPlace)
    (h : DataW.trod enc Tryd.prog w base sp hd fuel 22 [v] = some x) : ∃ l : List Tm, Lies w l v := by
  rcases DataW.trod_slice Tryd.underlying22 h with ⟨e4, -⟩ | ⟨a, len, cap, elems, rest, n', rfl, e4, -, hb, hlc, hm, hlen', hel, -, -⟩
  · simp at e4
    subst e4
    exact ⟨[], .mk [] none 0 (fun _ => .nilIface) (Nat.le_refl _) (by decide) (fun _ h => by cases h) (fun _ h => by cases h) (fun _ h => by cases h)⟩
  · simp at e4
    subst e4
    have key : ∀ i, i < len → ∃ p : Tm × Value, p.1.fine ∧ Lies w p.1.kids p.2 ∧ ∃ b o, a = ⟨b, o, none⟩ ∧ Node w b (o + i * 3) p.1 p.2 := by
      intro i hi
      have h1 := hel i hi
      rw [cells_term, List.getElem?_eq_getElem (by omega)] at h1
      obtain ⟨cs', h2, h3⟩ := Option.bind_eq_some_iff.1 h1
      obtain ⟨t, s, rfl, hfine, hlies⟩ := open_term n' _ _ h3
      obtain ⟨-, -, hcell⟩ := World.cells?_some h2
      have hs0 : a.spot = none := by
        have h1 := hel 0 (by omega)
        rw [cells_term, List.getElem?_eq_getElem (by omega)] at h1
        obtain ⟨cs0, h2, -⟩ := Option.bind_eq_some_iff.1 h1
        obtain ⟨-, hl0, hc0⟩ := World.cells?_some h2
        have c0 := hc0 0 (by omega)
        rw [List.getElem?_eq_getElem (by omega)] at c0
        simpa [Addr.add] using World.cell?_spot c0
      obtain ⟨b, o, spot⟩ := a
      simp only at hs0
      subst hs0
      refine ⟨(t, s), hfine, hlies, b, o, rfl, ?_⟩
      have hc : ∀ q, q < 3 → w.cell? ⟨b, o + i * 3 + q, none⟩ = [Value.int .i64 t.k, .int .i64 t.i, s][q]? := fun q hq => by
        have := hcell q hq
        rwa [add_plain, add_plain] at this
      exact ⟨hc 0 (by omega), hc 1 (by omega), hc 2 (by omega)⟩
    obtain ⟨f, hf'⟩ := Go.Deep.choose_lt (α := Tm × Value) (p := fun i p => p.1.fine ∧ Lies w p.1.kids p.2 ∧ ∃ b o, a = ⟨b, o, none⟩ ∧ Node w b (o + i * 3) p.1 p.2) key
    have hl5 : ((List.range len).map fun i => (f i).1).length = len := by simp
    refine ⟨(List.range len).map fun i => (f i).1, ?_⟩
    have := Lies.mk (w := w) ((List.range len).map fun i => (f i).1) (some a) cap (fun i => (f i).2) (by simpa using hlc) hm
      (fun x hx => by
        obtain ⟨i, hi, rfl⟩ := List.mem_map.1 hx
        exact (hf' i (List.mem_range.1 hi)).1)
      (fun i hi => by
        obtain ⟨b, o, ha, hn⟩ := (hf' i (by simpa using hi)).2.2
        exact ⟨b, o, by rw [ha], by simpa using hn⟩)
      (fun i hi => by simpa using (hf' i (by simpa using hi)).2.1)
    rwa [hl5] at this
set_option maxRecDepth 100000 in
theorem open_argF {H : Type} {enc : TypeId × Value → H} {W : World} {r : Reach} {b0 base : Nat} {sp : Nat → Bool} {hd : Bool} {v : Value} {d : DataW H} {p : List MemPlace} (hv : Value.okWide Tryd.prog W r b0 26 v)
    (h : DataW.Trod enc Tryd.prog W base sp hd 26 v d p) : ∃ (c : List Tm) (t : Tm) (cv s : Value), Lies W c cv ∧ Lies W t.kids s ∧ v = fv cv t s := by
  obtain ⟨cs, rfl, hsz⟩ := okWide_struct Tryd.underlying26 hv
  obtain ⟨fuel, hf⟩ := h
  obtain ⟨xs, n, rfl, hx, hl, hlen, hg⟩ := DataW.trod_struct Tryd.underlying26 hf
  rw [cells_fileF] at hl
  obtain ⟨v0, v1, v2, v3, hcs⟩ := list4F hl
  rw [hcs] at hg
  obtain ⟨y0, y1, rfl⟩ := list2F hlen
  have g0 := hg 0 _ rfl
  have g1 := hg 1 _ rfl
  simp [cells_kids, cells_term] at g0 g1
  obtain ⟨c, hc⟩ := open_rowF n _ _ g0
  obtain ⟨t, s, ht, -, hlt⟩ := open_term n _ _ g1
  simp at ht
  obtain ⟨rfl, rfl, rfl⟩ := ht
  refine ⟨c, t, v0, v3, hc, hlt, ?_⟩
  have : cs.toList = [v0, .int .i64 t.k, .int .i64 t.i, v3] := by simpa [Value.cells] using hcs
  rw [show cs = #[v0, .int .i64 t.k, .int .i64 t.i, v3] from by cases cs; simp_all]
end Go.Proofs.YtdhfbphliejcdaaDoor.Dv

namespace Go.Proofs.YtdhfbphliejcdaaDoor
open Go.ChangeShapes Go.WideShapes Go.ChangeAt Go.WideMaps Go.WideElems Go.RowKit

def laidT : List (String × DataW Unit) := Rows.showExactRow.laid
theorem door_met (os : Os) (args : Array Value) : laidMetH Tryd.prog laidT ((World.doorLaid Tryd.prog 400 os).forCall (fun _ _ => 0) ⟨#[], args, []⟩).memory :=
  laidMetH_of_parts3 (fuel := 8) (laidMet_of_run' 8 (by kernel_rfl) (by kernel_rfl)) (by kernel_rfl) (by kernel_rfl)
theorem tab_of_laid {W : World} (h : laidMetH Tryd.prog laidT W) : Lib.TabIs Tryd.prog W "internal/strconv.uint64pow10" .u64 Lib.pow10Tab := by
  have h2 := h.filter fun x => x.1 == "internal/strconv.uint64pow10"
  have e : (laidT.filter fun x => x.1 == "internal/strconv.uint64pow10") = [("internal/strconv.uint64pow10", Lib.tabData .u64 Lib.pow10Tab)] := by kernel_rfl
  rw [e] at h2
  rw [MakeChecks.laidMetH_plain _ _ _ (by kernel_rfl)] at h2
  exact Lib.tabIs_of_head (g := 0) (t := 111) (e := 95) (n := 20) (by kernel_rfl) (by kernel_rfl) Tryd.underlying111 Tryd.underlying95 (by kernel_rfl) (by kernel_rfl) h2
theorem tabS_of_laid {W : World} (h : laidMetH Tryd.prog laidT W) : Tab W := Lib.tabBelow_of_tabIs (tab_of_laid h)
end Go.Proofs.YtdhfbphliejcdaaDoor

namespace Go.Proofs.YtdhfbphliejcdaaDoor
open Go.ChangeShapes Go.WideShapes

def code (l : List Nat) : List Char := l.map Char.ofNat
def joinN : List (List Nat) → List Nat
  | [] => []
  | [a] => a
  | a :: b :: r => a ++ 32 :: joinN (b :: r)

theorem words_one : ∀ a : List Nat, (a.all fun n => Char.ofNat n != Char.ofNat 32) = true → wordsSigns (code a) = [code a]
  | [], _ => rfl
  | n :: a, h => by
    simp only [List.all_cons, Bool.and_eq_true, bne_iff_ne] at h
    have ih := words_one a h.2
    show wordsSigns (Char.ofNat n :: code a) = _
    rw [wordsSigns]
    · rw [ih]; rfl
    · exact h.1
theorem words_more : ∀ (a : List Nat) (r : List Char), (a.all fun n => Char.ofNat n != Char.ofNat 32) = true → wordsSigns (code a ++ Char.ofNat 32 :: r) = code a :: wordsSigns r
  | [], r, _ => by
    show wordsSigns (Char.ofNat 32 :: r) = _
    rw [show Char.ofNat 32 = _ from rfl, wordsSigns]; rfl
  | n :: a, r, h => by
    simp only [List.all_cons, Bool.and_eq_true, bne_iff_ne] at h
    have ih := words_more a r h.2
    show wordsSigns (Char.ofNat n :: (code a ++ Char.ofNat 32 :: r)) = _
    rw [wordsSigns]
    · rw [ih]; rfl
    · exact h.1
theorem words_join : ∀ ws : List (List Nat), ws ≠ [] → (ws.all fun w => w.all fun n => Char.ofNat n != Char.ofNat 32) = true → wordsSigns (code (joinN ws)) = ws.map code
  | [], h, _ => absurd rfl h
  | [a], _, h => by simp only [List.all_cons, List.all_nil, Bool.and_true] at h; exact words_one a h
  | a :: b :: r, _, h => by
    have h' := h
    rw [List.all_cons, Bool.and_eq_true] at h'
    have ih := words_join (b :: r) (by simp) h'.2
    show wordsSigns (code (a ++ 32 :: joinN (b :: r))) = _
    rw [show code (a ++ 32 :: joinN (b :: r)) = code a ++ Char.ofNat 32 :: code (joinN (b :: r)) from by simp [code], words_more a _ h'.1, ih]; rfl

def cutWords : List (List Nat) := [[104, 97, 114, 110, 101, 115, 115],
  [102, 55, 100, 52, 49, 49, 57, 57, 54, 99, 99, 57, 56, 50, 100, 98, 50, 53, 55, 99, 99, 52, 101, 51, 55, 99, 54, 100, 54, 52, 48, 101, 48, 100, 48, 56, 48, 53, 56, 49, 49, 101, 56, 49, 53, 52, 55, 49, 55, 53, 54, 51, 48, 57, 48, 102, 56, 50, 52, 101, 51, 50, 53, 101],
  [99, 117, 116],
  [97, 116],
  [116, 114, 97, 110, 115, 104, 105, 112, 47, 116, 114, 97, 110, 115, 104, 105, 112, 108, 97, 119, 49, 52, 46, 83, 104, 111, 119, 69, 120, 97, 99, 116],
  [116, 114, 97, 110, 115, 104, 105, 112, 47, 116, 114, 97, 110, 115, 104, 105, 112, 108, 97, 119, 49, 52, 46, 83, 104, 111, 119, 66, 97, 99, 107],
  [116, 114, 97, 110, 115, 104, 105, 112, 47, 116, 114, 97, 110, 115, 104, 105, 112, 108, 97, 119, 49, 52, 46, 83, 104, 111, 119, 70, 105, 120, 101, 100],
  [116, 114, 97, 110, 115, 104, 105, 112, 47, 116, 114, 97, 110, 115, 104, 105, 112, 108, 97, 119, 49, 52, 46, 83, 104, 111, 119, 85, 110, 108, 105, 107, 101]]

set_option maxRecDepth 100000 in
theorem cut_words : wordsSigns Tryd.prog.initOrder.toList = cutWords.map code := by
  have h : Tryd.prog.initOrder.toList = code (joinN cutWords) := by
    show (String.ofList (code (joinN cutWords))).toList = _
    exact String.toList_ofList
  rw [h]
  exact words_join cutWords (by simp [cutWords]) (by decide +kernel)

theorem cut_behind : behindMainWord (cutWords.map code) = code [99, 117, 116] :: cutWords.tail.tail.tail.map code := by kernel_rfl
theorem cut_lifts : stripLifts liftWords (code [99, 117, 116] :: cutWords.tail.tail.tail.map code) = ([], code [99, 117, 116] :: cutWords.tail.tail.tail.map code) := by kernel_rfl
theorem cut1 : (code [99, 117, 116] == "gc".toList) = false := by kernel_rfl
theorem cut2 : (code [99, 117, 116] == "spec".toList) = false := by kernel_rfl
theorem cut3 : (code [99, 117, 116] == "cut".toList) = true := by kernel_rfl
theorem cut_all : behindMainWord (wordsSigns Tryd.prog.initOrder.toList) = code [99, 117, 116] :: cutWords.tail.tail.tail.map code := by rw [cut_words, cut_behind]
theorem make_of (P : Program) {c : List Char} {rest : List (List Char)} (h : behindMainWord (wordsSigns P.initOrder.toList) = c :: rest) (h1 : (c == "gc".toList) = false) (h2 : (c == "spec".toList) = false) (h3 : (c == "cut".toList) = true) : P.make = some .cut := by
  unfold Program.make; rw [h]
  simp only [h1, h2, h3, Bool.or_self, Bool.false_eq_true, if_false, Bool.true_or, if_true]
theorem mayEnter_of (P : Program) {c : List Char} {rest : List (List Char)} (h : behindMainWord (wordsSigns P.initOrder.toList) = c :: rest) (h3 : ((stripLifts liftWords (c :: rest)).2.head? == some "cut".toList) = true)
    (h4 : (stripLifts liftWords (c :: rest)).1 = []) (h5 : P.laysLater = false) (h6 : P.bearsReflect = false) (h7 : P.doorFits [] = true) : P.mayEnter = true := by
  unfold Program.mayEnter; rw [h]
  refine Bool.or_eq_true_iff.2 (Or.inr ?_)
  rw [h3, h4, h5, h6, h7]; rfl
theorem row_make : Tryd.prog.make = some .cut := make_of Tryd.prog cut_all cut1 cut2 cut3
theorem row_mayEnter : Tryd.prog.mayEnter = true := mayEnter_of Tryd.prog cut_all (by rw [cut_lifts]; kernel_rfl) (by rw [cut_lifts]) (by kernel_rfl) (by kernel_rfl) (by kernel_rfl)
theorem row_lifts : Tryd.prog.liftsFinal = false := by unfold Program.liftsFinal Program.headLifts; rw [cut_all, cut_lifts]; kernel_rfl
end Go.Proofs.YtdhfbphliejcdaaDoor

namespace Go.Proofs.YtdhfbphliejcdaaDoor.lawShowBack
open Go.ChangeShapes Go.WideShapes Go.ChangeAt Go.RowKit Go.ChangeMaps

set_option maxRecDepth 100000 in
theorem lifted (os : Os) (started : os.Started) (H : Type) (enc : TypeId × Value → H) :
    ReturnsInHanded {} Tryd.checked os 4 .any (fun w args => (Rows.showBackSpec.pre enc Tryd.prog Tryd.f4 [] false w args ∧ laidMetH Tryd.prog laidT w) ∧ sizedMet enc Tryd.prog Tryd.f4 (OpenSpec.ofChange Rows.showBackSpec) false w args)
      (Rows.showBackSpec.post enc Tryd.prog Tryd.f4 false true false false) := by
  refine returnsInHanded_of_change_and (C := Tryd.checked) (X := fun w _ => laidMetH Tryd.prog laidT w) (fun _ _ _ hh h => h.of_heap hh) own started (by kernel_rfl) Tryd.func4
    (ChangeSpec.witness_shaped (enc := enc) (C := Tryd.checked) (os := os) (X := fun w _ => laidMetH Tryd.prog laidT w) false (World.doorLaid Tryd.prog 400 os) #[.agg #[.slice none 0 0, .int .i64 0, .int .i64 0, .slice none 0 0]] 8 rfl (World.shaped_of_RefB (by kernel_rfl) (by kernel_rfl)) (by kernel_rfl) (by kernel_rfl) (by kernel_rfl) (door_met os _)) ?_
  intro W base args ds gs before hval0 hW _ _ hL _
  have hval : ∀ (j : Nat) t v, Tryd.f4.params[j]? = some t → args[j]? = some v → Value.okWide Tryd.prog W .any base t v := hval0
  have hW' := hW
  obtain ⟨p, q, hA0, hV, rfl, hfz, hnd⟩ := hW
  have hA : DataW.TrodAll enc Tryd.prog W 0 (fun _ => true) true Tryd.f4.params.toList args.toList ds p := hA0
  rw [Tryd.params4] at hA hval
  obtain ⟨v0, vs0, d0, ds0, p0, q0, hargs0, rfl, rfl, h0, r0⟩ := trodAll_cons hA
  obtain ⟨rfl, rfl, rfl⟩ := trodAll_nil r0
  obtain rfl : args = #[v0] := by cases args; simp_all
  obtain ⟨rfl, rfl⟩ := trodVars_none hV
  have h0k := h0
  have hlt0 : ∀ x ∈ p0, x.block < W.heap.size := fun x hx => by have := hW'.lt x (by simp [hx]); simpa using this
  obtain ⟨c0, t0, cv0, s0, hc0, hl0, hv0⟩ := Dv.open_argF (hval 0 26 v0 rfl rfl) h0
  subst hv0
  clear hA0 hval0
  simp only [List.append_nil] at hW'
  have hT := tabS_of_laid hL
  refine (Dv.showBack_any c0 t0 W cv0 s0 hc0 hl0 hT).mono fun e W' ⟨he, hb⟩ => ?_
  subst he
  exact ⟨_, rfl, _, _, _, [], _, [], hW', trodAll_cons_mk (shut_bool Tryd.underlying4 _) trodAll_mk0, (trodAll_cons_mk (Below.trod laidOut (by kernel_rfl) (of_decide_eq_true (by kernel_rfl)) h0k hb hlt0) trodAll_mk0), rfl, hb.frame _, fun h => by cases h⟩

theorem closed : joinedFacts Tryd.prog 4 Tryd.f4 Rows.showBackSpec Rows.showBackRow = true := by
  unfold joinedFacts
  rw [row_mayEnter, row_lifts, row_make]
  kernel_rfl
theorem showBack_holds : Rows.ShowBackSaid :=
  OpenClaim.holds_of_wide 4 Tryd.f4 rfl rfl rfl rfl rfl rfl rfl ⟨rfl, rfl, rfl, rfl, rfl⟩ rfl rfl rfl rfl rfl (by kernel_rfl) Tryd.func4 closed
    (of_decide_eq_true (by kernel_rfl)) (by unfold Func.isWrapper; first | (rw [if_pos (by decide +kernel)]; kernel_rfl) | (rw [if_neg (by decide +kernel)]; exact ⟨rfl, rfl⟩))
    (fun os started H enc _ => lifted os started H enc)
theorem proved : Rows.ShowBackCardSaid :=
  Claim7.holds_tied_plain_at .later [] [.data, .data, .data] true Rows.showBackCard.stood.harness true
    showBack_holds (fun _ h => by cases h) (by kernel_rfl) (fun _ h => by cases h) showBack_row_tie rfl ⟨rfl, rfl⟩ (by kernel_rfl) rfl
    (fun f fn hf hfn => by
      obtain rfl : f = 4 := Option.some.inj ((show Tryd.prog.funcNamed "tranship/transhiplaw14.ShowBack" = some 4 by kernel_rfl).symm.trans hf) |>.symm
      obtain rfl : fn = Tryd.f4 := (Option.some.inj (Tryd.func4.symm.trans hfn)).symm
      exact ⟨by kernel_rfl, fun j t ht => by
        rw [Tryd.params4] at ht
        have hm : t ∈ [26] := by simpa using Array.mem_of_getElem? ht
        have hall : ([26].all fun u => !Tryd.prog.wantsStandIn u) = true := by kernel_rfl
        exact (show Tryd.prog.wantsStandIn t = false by simpa using List.all_eq_true.1 hall t hm)⟩)
    (by kernel_rfl)
#print axioms proved
end Go.Proofs.YtdhfbphliejcdaaDoor.lawShowBack
