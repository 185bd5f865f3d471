/-
  ShowFixed holds: for every input the call returns true, and the arguments read as before. No condition.
-/
import Derived.Lib.ItoaNum
import Derived.Lib.ItoaLen
import Derived.Test.YtdhfbphliejcdaaDoorRows
import Derived.WalkKit
import Derived.Lib.Hide
import Derived.ProofKit
import Derived.LoopTactic
import Derived.Below
import Derived.IntWalk
import Derived.Lib.Strings
import Derived.Laws.Strings2
import Derived.Deep.AppendLies
import Derived.Laws.Rows
import Derived.OwnWalk
import Derived.KernelRfl
import Derived.Deep.RegionHeld3
import Derived.Lib.Builder
import Derived.WalkSmall
import Derived.Maps.GroupsBeside
import Derived.Maps.StringElems
import Derived.Laws.OwnMore
import Derived.Deep.RegionLaw
import Derived.Maps.AppendAt
import Derived.Deep.Cut
import Derived.Deep.DeepCutAuto
import Derived.Maps.OwnOps
import Derived.Maps.OwnSet
import Derived.Lib.MinMax
import Derived.Laws.IdiomCopy
import Derived.Deep.Slices
import Derived.Lib.QuietBelow
import Derived.StillTailTactics
import Derived.BigQuiet
import Derived.Deep.RegionWith
import Derived.OrdersHeld
import Derived.Laws.StructEq
import GoSem.Core.Float
import Derived.Laws.Cover2
import Derived.Laws.FloatArith
import Derived.Laws.Externs
import Derived.Deep.QuietTactic
import Derived.Recover
import Derived.RegionTactic
import Derived.Defers
import Derived.Test.YtdhfbphliejcdaaDoorShelf
import Derived.Lib.AppendIntMem
import Derived.Lib.LaidTab
import Derived.Lib.AppendStr
import Derived.Lib.UnsafeStr
import Derived.Shelf.RegionOpenPlain
import Derived.Laws.AppendOwn
import Derived.Deep.CutBlock
import Derived.Deep.LoopGhost
import Derived.Laws.BytesArg
import Derived.Laws.AppendOwnNone
import Derived.OpenShut
import Derived.Carry
import Derived.LaidMore
import Derived.LaidSub
import Derived.LaidHandle
import Derived.Stop.Joined
import Derived.JoinedOf
import Derived.Test.YtdhfbphliejcdaaDoorCards
import Derived.Test.YtdhfbphliejcdaaDoorTie
import Derived.SevenTiedAt
import Derived.ChangeMaps5
import Derived.Test.YtdhfbphliejcdaaDoorShowFixedQ3
namespace Go.Proofs.YtdhfbphliejcdaaDoor.Dv
open Go.RowKit

/-- What a parsing that failed hands back. -/
def errV : PF → Value
  | (0, a) => .tuple #[.agg #[.slice none 0 0, .int .i64 0, .int .i64 0, .slice none 0 0], .int .i64 2, .int .i64 a, .string ⟨#[]⟩]
  | (1, a) => .tuple #[.agg #[.slice none 0 0, .int .i64 0, .int .i64 0, .slice none 0 0], .int .i64 4, .int .i64 a, .string ⟨#[100, 101, 101, 112]⟩]
  | (_ + 2, a) => .tuple #[.agg #[.slice none 0 0, .int .i64 0, .int .i64 0, .slice none 0 0], .int .i64 4, .int .i64 a, .string ⟨#[110, 111, 100, 101, 115]⟩]
def ParseG (w : World) (x : Except PF (List Tm × Tm)) (e : Ending) (w' : World) : Prop := Below w.heap.size w w' ∧ match x with
  | .error p => e = .returned (errV p)
  | .ok (l, t) => ∃ cv s, e = .returned (.tuple #[fv cv t s, .int .i64 0, .int .i64 0, .string ⟨#[]⟩]) ∧ LiesP w' (Own w.heap.size w') l cv ∧ LiesP w' (Own w.heap.size w') t.kids s ∧ t.fine
set_option maxRecDepth 20000 in
theorem parse_results (tmps : Array Value) (w : World) (n : Nat) (v0 v1 v2 v3 u1 u2 u3 : Value) (h8 : tmps.getD 6 undef = .pointer (some ⟨n, 0, none⟩)) (h9 : tmps.getD 7 undef = .pointer (some ⟨n + 1, 0, none⟩)) (h10 : tmps.getD 8 undef = .pointer (some ⟨n + 2, 0, none⟩)) (h11 : tmps.getD 9 undef = .pointer (some ⟨n + 3, 0, none⟩)) (k0 : w.heap[n]? = some (.cells #[v0, v1, v2, v3] 26 (0, 0))) (k1 : w.heap[n + 1]? = some (.cells #[u1] 34 (0, 0))) (k2 : w.heap[n + 2]? = some (.cells #[u2] 3 (0, 0))) (k3 : w.heap[n + 3]? = some (.cells #[u3] 9 (0, 0))) :
    (results Tryd.f15 tmps).run Tryd.prog w = .ok (.tuple #[.agg #[v0, v1, v2, v3], u1, u2, u3]) w := by
  have h8' : tmps[6]?.getD undef = .pointer (some ⟨n, 0, none⟩) := by simpa using h8
  have h9' : tmps[7]?.getD undef = .pointer (some ⟨n + 1, 0, none⟩) := by simpa using h9
  have h10' : tmps[8]?.getD undef = .pointer (some ⟨n + 2, 0, none⟩) := by simpa using h10
  have h11' : tmps[9]?.getD undef = .pointer (some ⟨n + 3, 0, none⟩) := by simpa using h11
  obtain ⟨y0, y1, y2, y3⟩ := four_cells k0
  have x1 : w.cell? ⟨n + 1, 0, none⟩ = some u1 := by rw [Lib.cell_of_heap k1]; rfl
  have x2 : w.cell? ⟨n + 2, 0, none⟩ = some u2 := by rw [Lib.cell_of_heap k2]; rfl
  have x3 : w.cell? ⟨n + 3, 0, none⟩ = some u3 := by rw [Lib.cell_of_heap k3]; rfl
  simp [results, Tryd.results15, h8', h9', h10', h11', asAddr, y0, y1, y2, y3, x1, x2, x3, go_sem]
/-- The four results behind the last stores. -/
def finF (W : World) (B : Nat) (v0 v1 v2 v3 : Value) : World := (((four W B v0 v1 v2 v3).setCell ⟨B + 1, 0, none⟩ (.int .i64 0)).setCell ⟨B + 2, 0, none⟩ (.int .i64 0)).setCell ⟨B + 3, 0, none⟩ (.string ⟨#[]⟩)
theorem fin_file {B N : Nat} {w W : World} {v0 v1 v2 v3 z0 z1 z2 z3 x y z : Value} (hF : W.heap[B]? = some (.cells #[z0, z1, z2, z3] 26 (0, 0))) (hE : W.heap[B + 1]? = some (.cells #[x] 34 (0, 0))) (hA : W.heap[B + 2]? = some (.cells #[y] 3 (0, 0))) (hS : W.heap[B + 3]? = some (.cells #[z] 9 (0, 0))) (hb : Below B w W) (hN : B + 4 ≤ N) {l l2 : List Tm} {cv s : Value} (hl : LiesP W (Own N W) l cv) (hl2 : LiesP W (Own N W) l2 s) :
    (finF W B v0 v1 v2 v3).heap[B]? = some (.cells #[v0, v1, v2, v3] 26 (0, 0)) ∧ (finF W B v0 v1 v2 v3).heap[B + 1]? = some (oE 0) ∧ (finF W B v0 v1 v2 v3).heap[B + 2]? = some (oA 0) ∧ (finF W B v0 v1 v2 v3).heap[B + 3]? = some (oS ⟨#[]⟩) ∧ Below B w (finF W B v0 v1 v2 v3) ∧ LiesP (finF W B v0 v1 v2 v3) (Own B (finF W B v0 v1 v2 v3)) l cv ∧ LiesP (finF W B v0 v1 v2 v3) (Own B (finF W B v0 v1 v2 v3)) l2 s := by
  have c4 : W.grownBy (four W B v0 v1 v2 v3) (some B) := (((setD_grown _ _ _ _).trans (setD_grown _ _ _ _)).trans (setD_grown _ _ _ _)).trans (setD_grown _ _ _ _)
  have k0 : (four W B v0 v1 v2 v3).heap[B]? = some (.cells #[v0, v1, v2, v3] 26 (0, 0)) := four_set hF
  have hsF := hltD hF
  have hsE := hltD hE
  have hsA := hltD hA
  have hsS := hltD hS
  have k1 := (c4.block (B + 1) hsE (fun e => by have := Option.some.inj e; omega)).trans hE
  have k2 := (c4.block (B + 2) hsA (fun e => by have := Option.some.inj e; omega)).trans hA
  have k3 := (c4.block (B + 3) hsS (fun e => by have := Option.some.inj e; omega)).trans hS
  have hb4 := hb.trans (belowD (B := B) (Nat.le_refl _) c4 (by omega))
  have hs4 := c4.size
  have hk4 : ∀ b, B + 4 ≤ b → b < W.heap.size → (four W B v0 v1 v2 v3).heap[b]? = W.heap[b]? := fun b h1 h2 => c4.block b h2 (fun e => by have := Option.some.inj e; omega)
  unfold finF
  generalize four W B v0 v1 v2 v3 = V at k0 k1 k2 k3 hb4 hs4 hk4 ⊢
  have m1 := setD_grown V (B + 1) 0 (.int .i64 0)
  have m2 := setD_grown (V.setCell ⟨B + 1, 0, none⟩ (.int .i64 0)) (B + 2) 0 (.int .i64 0)
  have m3 := setD_grown ((V.setCell ⟨B + 1, 0, none⟩ (.int .i64 0)).setCell ⟨B + 2, 0, none⟩ (.int .i64 0)) (B + 3) 0 (.string ⟨#[]⟩)
  have z1 : (V.setCell ⟨B + 1, 0, none⟩ (.int .i64 0)).heap.size = V.heap.size := by simp
  have z2 : ((V.setCell ⟨B + 1, 0, none⟩ (.int .i64 0)).setCell ⟨B + 2, 0, none⟩ (.int .i64 0)).heap.size = V.heap.size := by simp
  have hk : ∀ b, B + 4 ≤ b → b < W.heap.size → (((V.setCell ⟨B + 1, 0, none⟩ (.int .i64 0)).setCell ⟨B + 2, 0, none⟩ (.int .i64 0)).setCell ⟨B + 3, 0, none⟩ (.string ⟨#[]⟩)).heap[b]? = W.heap[b]? := fun b h1 h2 =>
    (((m3.block b (by omega) (fun e => by have := Option.some.inj e; omega)).trans (m2.block b (by omega) (fun e => by have := Option.some.inj e; omega))).trans (m1.block b (by omega) (fun e => by have := Option.some.inj e; omega))).trans (hk4 b h1 h2)
  refine ⟨?_, ?_, ?_, ?_, ?_, ?_, ?_⟩
  · exact (((m3.block B (by omega) (fun e => by have := Option.some.inj e; omega)).trans (m2.block B (by omega) (fun e => by have := Option.some.inj e; omega))).trans (m1.block B (by omega) (fun e => by have := Option.some.inj e; omega))).trans k0
  · exact ((m3.block (B + 1) (by omega) (fun e => by have := Option.some.inj e; omega)).trans (m2.block (B + 1) (by omega) (fun e => by have := Option.some.inj e; omega))).trans (heap_setCell_same _ _ _ _ _ _ k1)
  · exact (m3.block (B + 2) (by omega) (fun e => by have := Option.some.inj e; omega)).trans (heap_setCell_same _ _ _ _ _ _ ((m1.block (B + 2) (by omega) (fun e => by have := Option.some.inj e; omega)).trans k2))
  · exact heap_setCell_same _ _ _ _ _ _ (((m2.block (B + 3) (by omega) (fun e => by have := Option.some.inj e; omega)).trans (m1.block (B + 3) (by omega) (fun e => by have := Option.some.inj e; omega))).trans k3)
  · exact ((hb4.trans (belowD (by omega) m1 (by omega))).trans (belowD (by omega) m2 (by omega))).trans (belowD (by omega) m3 (by omega))
  · exact hl.keep (fun b hb hlt => hk b (by have := hb.1; omega) hlt) (fun b hb hlt => (hb.from (by omega)).same (hk b (by have := hb.1; omega) hlt))
  · exact hl2.keep (fun b hb hlt => hk b (by have := hb.1; omega) hlt) (fun b hb hlt => (hb.from (by omega)).same (hk b (by have := hb.1; omega) hlt))
theorem four_new (w : World) : Four w.heap.size ((((w.alloc zF).alloc (oE 0)).alloc (oA 0)).alloc (oS ⟨#[]⟩)) ∧ ((((w.alloc zF).alloc (oE 0)).alloc (oA 0)).alloc (oS ⟨#[]⟩)).heap.size = w.heap.size + 4 ∧ Below w.heap.size w ((((w.alloc zF).alloc (oE 0)).alloc (oA 0)).alloc (oS ⟨#[]⟩)) := by
  have b1 := (Below.refl w.heap.size w).alloc (Nat.le_refl _) zF
  have b2 := (Below.refl (w.alloc zF).heap.size (w.alloc zF)).alloc (Nat.le_refl _) (oE 0)
  have b3 := (Below.refl ((w.alloc zF).alloc (oE 0)).heap.size ((w.alloc zF).alloc (oE 0))).alloc (Nat.le_refl _) (oA 0)
  have b4 := (Below.refl (((w.alloc zF).alloc (oE 0)).alloc (oA 0)).heap.size (((w.alloc zF).alloc (oE 0)).alloc (oA 0))).alloc (Nat.le_refl _) (oS ⟨#[]⟩)
  have n1 := alloc_new w zF
  have n2 := alloc_new (w.alloc zF) (oE 0)
  have n3 := alloc_new ((w.alloc zF).alloc (oE 0)) (oA 0)
  have n4 := alloc_new (((w.alloc zF).alloc (oE 0)).alloc (oA 0)) (oS ⟨#[]⟩)
  simp only [World.size_alloc] at b1 b2 b3 b4 n1 n2 n3 n4
  have e1 : ((((w.alloc zF).alloc (oE 0)).alloc (oA 0)).alloc (oS ⟨#[]⟩)).heap[w.heap.size]? = some zF := by rw [b4.block _ (by omega), b3.block _ (by omega), b2.block _ (by omega)]; exact n1
  have e2 : ((((w.alloc zF).alloc (oE 0)).alloc (oA 0)).alloc (oS ⟨#[]⟩)).heap[w.heap.size + 1]? = some (oE 0) := by rw [b4.block _ (by omega), b3.block _ (by omega)]; exact n2
  have e3 : ((((w.alloc zF).alloc (oE 0)).alloc (oA 0)).alloc (oS ⟨#[]⟩)).heap[w.heap.size + 2]? = some (oA 0) := by rw [b4.block _ (by omega)]; exact n3
  exact ⟨⟨⟨_, _, _, _, e1⟩, ⟨_, e2⟩, ⟨_, e3⟩, ⟨_, n4⟩⟩, by simp, ((b1.trans (b2.mono (by omega))).trans (b3.mono (by omega))).trans (b4.mono (by omega))⟩
theorem Four.keep {B : Nat} {w w' : World} (h : Four B w) (hb : Below (B + 4) w w') : Four B w' := by
  obtain ⟨⟨v0, v1, v2, v3, h0⟩, ⟨x, h1⟩, ⟨y, h2⟩, ⟨z, h3⟩⟩ := h
  exact ⟨⟨v0, v1, v2, v3, (hb.block _ (by omega)).trans h0⟩, ⟨x, (hb.block _ (by omega)).trans h1⟩, ⟨y, (hb.block _ (by omega)).trans h2⟩, ⟨z, (hb.block _ (by omega)).trans h3⟩⟩
theorem Four.put {B : Nat} {w : World} (h : Four B w) (v0 v1 v2 v3 : Value) : Four B (four w B v0 v1 v2 v3) := by
  obtain ⟨⟨z0, z1, z2, z3, h0⟩, ⟨x, h1⟩, ⟨y, h2⟩, ⟨z, h3⟩⟩ := h
  have c4 : w.grownBy (four w B v0 v1 v2 v3) (some B) := (((setD_grown _ _ _ _).trans (setD_grown _ _ _ _)).trans (setD_grown _ _ _ _)).trans (setD_grown _ _ _ _)
  exact ⟨⟨_, _, _, _, four_set h0⟩, ⟨x, (c4.block _ (hltD h1) (fun e => by have := Option.some.inj e; omega)).trans h1⟩, ⟨y, (c4.block _ (hltD h2) (fun e => by have := Option.some.inj e; omega)).trans h2⟩, ⟨z, (c4.block _ (hltD h3) (fun e => by have := Option.some.inj e; omega)).trans h3⟩⟩
set_option maxHeartbeats 3000000 in
set_option maxRecDepth 20000 in
theorem parse_any (s : ByteArray) (deep nodes : Nat) (w : World) (hs : s.size ≤ 10000000) : Calls Tryd.prog 15 #[.string s, .float .f64 deep, .float .f64 nodes] w (ParseG w (parseB s.data.toList deep nodes)) := by
  have hmf : ∀ (fn : Fn) (first cap : Array Value) (w : World), (Instr.makeFunc fn first cap).run Tryd.prog w = .ok (.func fn first cap) w := fun _ _ _ _ => rfl
  have hsf : ∀ (a : Addr) (m : Mode) (w : World), (store a (.float .f64 deep) m).run Tryd.prog w = stored Tryd.prog w a (.float .f64 deep) m := fun a m w => run_store Tryd.prog w a _ m rfl
  have H4 := Lib.hid (four_new w)
  have hsl : s.data.toList.length = s.size := by simp
  have HSL := Lib.hid hsl
  clear hsl
  go_enter_defers Tryd.func15, Tryd.ntmps15
  go_upto_region 1 with fail
  obtain ⟨w4, hw4⟩ : ∃ w4, w4 = (((w.alloc zF).alloc (oE 0)).alloc (oA 0)).alloc (oS ⟨#[]⟩) := ⟨_, rfl⟩
  rw [← hw4]
  have HC := Lib.hid H4.out
  rw [← hw4] at HC
  have h4s : w.heap.size + 4 = w4.heap.size := HC.out.2.1.symm
  clear hw4 H4
  go_wp2_with fail
  refine (of_any s w4 hs).mono ?_
  intro e w1 hg
  obtain ⟨v, rfl, hlt, hSA, hTL, hB1⟩ := hg
  obtain ⟨S, hS⟩ : ∃ S, w1.heap.size - 1 = S := ⟨_, rfl⟩
  rw [hS] at hSA
  rw [hS]
  have hS1 : w1.heap.size = S + 1 := by omega
  have hSB : w.heap.size + 4 ≤ S := by omega
  have HSA := Lib.hid hSA
  have HTL := Lib.hid hTL
  have HB1 := Lib.hid hB1
  have HBD := Lib.hid (ofL_bound s.data.toList)
  have HS1 := Lib.hid hS1
  have hSB1 : w.heap.size + 4 ≤ w1.heap.size := by omega
  clear hSA hTL hB1 hS hlt hS1
  go_wp2_with fail
  refine (new_any nodes w1).mono ?_
  rintro e w' ⟨rfl, rfl⟩
  go_upto_region 2 with fail
  obtain ⟨W, hW⟩ : ∃ W, W = (w1.alloc (budObj nodes 0)).alloc (.cells #[.pointer (some ⟨S, 0, none⟩), .float .f64 deep, .pointer (some ⟨w1.heap.size, 0, none⟩)] 66) := ⟨_, rfl⟩
  rw [← hW]
  have hb1 := (Below.refl w1.heap.size w1).alloc (Nat.le_refl _) (budObj nodes 0)
  have hb2 := (Below.refl (w1.alloc (budObj nodes 0)).heap.size (w1.alloc (budObj nodes 0))).alloc (Nat.le_refl _) (.cells #[.pointer (some ⟨S, 0, none⟩), .float .f64 deep, .pointer (some ⟨w1.heap.size, 0, none⟩)] 66)
  have hbu := (hb2.block w1.heap.size (by simp)).trans (alloc_new w1 (budObj nodes 0))
  have hpa := alloc_new (w1.alloc (budObj nodes 0)) (.cells #[.pointer (some ⟨S, 0, none⟩), .float .f64 deep, .pointer (some ⟨w1.heap.size, 0, none⟩)] 66)
  have hbW := hb1.trans (hb2.mono hb1.size)
  rw [← hW] at hbu hpa hbW
  rw [World.size_alloc] at hpa
  have hWs : W.heap.size = w1.heap.size + 2 := by rw [hW]; simp
  have HWS := Lib.hid hWs
  have HP := Lib.hid (show PSt ⟨w.heap.size + 4, w1.heap.size + 1, S, w1.heap.size, deep, nodes, (ofL s.data.toList).2.1, (ofL s.data.toList).2.2⟩ 0 (ofL s.data.toList).1 W from
    ⟨hSB, by show w.heap.size + 4 ≤ w1.heap.size + 1; omega, by show w.heap.size + 4 ≤ w1.heap.size; omega, by show w.heap.size + 4 ≤ W.heap.size; omega, ⟨v, (hbW.block _ (hltD HSA.out)).trans HSA.out, HTL.out.keep fun g cs fz e => by rw [hbW.block _ (hltD e)]; exact e⟩, hpa, hbu, fun t ht => by have := (HBD.out.2.2 t ht).1; rw [HSL.out] at this; omega, by have := HBD.out.1; rw [HSL.out] at this; omega⟩)
  have HBW := Lib.hid ((HC.out.2.2.trans (HB1.out.mono (by omega))).trans (hbW.mono (by omega)))
  have H4W := Lib.hid ((HC.out.1.keep (HB1.out.mono (by omega))).keep (hbW.mono (by omega)))
  have HFL := Lib.hid (pfile_any ⟨w.heap.size + 4, w1.heap.size + 1, S, w1.heap.size, deep, nodes, (ofL s.data.toList).2.1, (ofL s.data.toList).2.2⟩ ((ofL s.data.toList).1.length + 1) _ (pderiv_any _ _) (derP_len _) (ofL s.data.toList).1 W (Nat.lt_succ_self _) HP.out)
  clear hW hb1 hb2 hbu hpa hbW hWs HSA HTL HB1 HP
  go_wp2_with fail
  refine HFL.out.mono ?_
  intro e w2 hg
  obtain ⟨X, hX⟩ : ∃ X, fileP (derP deep nodes (ofL s.data.toList).2.1 ((ofL s.data.toList).1.length + 1)) (ofL s.data.toList).2.1 ((ofL s.data.toList).1.length + 1) (ofL s.data.toList).1 = X := ⟨_, rfl⟩
  have hg' : FileG ⟨w.heap.size + 4, w1.heap.size + 1, S, w1.heap.size, deep, nodes, (ofL s.data.toList).2.1, (ofL s.data.toList).2.2⟩ W X e w2 := by rw [← hX]; exact hg
  clear hg HFL
  cases X with
  | error pe =>
    obtain ⟨rfl, hf⟩ := hg'
    have HX := Lib.hid (show parseB s.data.toList deep nodes = .error pe by unfold parseB; rw [hX])
    have hfb : Below (w.heap.size + 4) W w2 := hf.below
    have H42 := Lib.hid (H4W.out.keep hfb)
    have HB2 := Lib.hid (HBW.out.trans (hfb.mono (by omega)))
    clear hX hf hfb
    match pe with
    | (0, a) =>
      unfold leaveP
      go_wp2
      refine leaves_cons (f := 31) (args := #[.pointer (some ⟨w.heap.size, 0, none⟩), .pointer (some ⟨w.heap.size + 1, 0, none⟩), .pointer (some ⟨w.heap.size + 2, 0, none⟩), .pointer (some ⟨w.heap.size + 3, 0, none⟩)]) (by simp) (by simp [go_sem]) ?_
      refine (catch_fault w.heap.size a w2 H42.out).mono ?_
      rintro e u' w'' ⟨rfl, rfl, hC⟩
      show ∃ v, (results _ _).run _ _ = .ok v _ ∧ _
      refine ⟨_, parse_results _ w'' w.heap.size _ _ _ _ _ _ _ rfl rfl rfl rfl hC.1 hC.2.1 hC.2.2.1 hC.2.2.2.1, ?_⟩
      rw [HX.out]
      exact ⟨HB2.out.trans hC.2.2.2.2, rfl⟩
    | (1, a) =>
      unfold leaveP
      go_wp2
      refine leaves_cons (f := 31) (args := #[.pointer (some ⟨w.heap.size, 0, none⟩), .pointer (some ⟨w.heap.size + 1, 0, none⟩), .pointer (some ⟨w.heap.size + 2, 0, none⟩), .pointer (some ⟨w.heap.size + 3, 0, none⟩)]) (by simp) (by simp [go_sem]) ?_
      refine (catch_beyond w.heap.size a ⟨#[100, 101, 101, 112]⟩ w2 H42.out).mono ?_
      rintro e u' w'' ⟨rfl, rfl, hC⟩
      show ∃ v, (results _ _).run _ _ = .ok v _ ∧ _
      refine ⟨_, parse_results _ w'' w.heap.size _ _ _ _ _ _ _ rfl rfl rfl rfl hC.1 hC.2.1 hC.2.2.1 hC.2.2.2.1, ?_⟩
      rw [HX.out]
      exact ⟨HB2.out.trans hC.2.2.2.2, rfl⟩
    | (k + 2, a) =>
      unfold leaveP
      go_wp2
      refine leaves_cons (f := 31) (args := #[.pointer (some ⟨w.heap.size, 0, none⟩), .pointer (some ⟨w.heap.size + 1, 0, none⟩), .pointer (some ⟨w.heap.size + 2, 0, none⟩), .pointer (some ⟨w.heap.size + 3, 0, none⟩)]) (by simp) (by simp [go_sem]) ?_
      refine (catch_beyond w.heap.size a ⟨#[110, 111, 100, 101, 115]⟩ w2 H42.out).mono ?_
      rintro e u' w'' ⟨rfl, rfl, hC⟩
      show ∃ v, (results _ _).run _ _ = .ok v _ ∧ _
      refine ⟨_, parse_results _ w'' w.heap.size _ _ _ _ _ _ _ rfl rfl rfl rfl hC.1 hC.2.1 hC.2.2.1 hC.2.2.2.1, ?_⟩
      rw [HX.out]
      exact ⟨HB2.out.trans hC.2.2.2.2, rfl⟩
  | ok m =>
    obtain ⟨⟨l, t⟩, r⟩ := m
    obtain ⟨cv, sv, rfl, hl, hlt, hfi, ⟨u, hs2⟩, hf⟩ := hg'
    obtain ⟨ac, cc, rfl, -, -⟩ := hl.out
    obtain ⟨ak, ck, rfl, -, -⟩ := hlt.out
    have hfb : Below (w.heap.size + 4) W w2 := hf.below
    have H42 := Lib.hid (H4W.out.keep hfb)
    have HB2 := Lib.hid (HBW.out.trans (hfb.mono (by omega)))
    obtain ⟨⟨z0, z1, z2, z3, hz⟩, ⟨xe, he⟩, ⟨xa, ha⟩, ⟨xs, hss⟩⟩ := H42.out
    obtain ⟨p0, p1, p2, plt⟩ := hs2.cells
    obtain ⟨tv2, hSA2, hTL2⟩ := hs2.str
    have c4 : w2.grownBy (four w2 w.heap.size (.slice ac l.length cc) (.int .i64 t.k) (.int .i64 t.i) (.slice ak t.kids.length ck)) (some w.heap.size) := (((setD_grown _ _ _ _).trans (setD_grown _ _ _ _)).trans (setD_grown _ _ _ _)).trans (setD_grown _ _ _ _)
    have hSA3 : SAt (four w2 w.heap.size (.slice ac l.length cc) (.int .i64 t.k) (.int .i64 t.i) (.slice ak t.kids.length ck)) S tv2 (ofL s.data.toList).2.1 (ofL s.data.toList).2.2 := (c4.block S (hltD hSA2) (fun e => by have := Option.some.inj e; omega)).trans hSA2
    have hTL3 : TLies (four w2 w.heap.size (.slice ac l.length cc) (.int .i64 t.k) (.int .i64 t.i) (.slice ak t.kids.length ck)) r tv2 := hTL2.keep fun g cs fz e => by
      rw [c4.block g (hltD e) (fun e2 => by
        have e3 := Option.some.inj e2
        rw [e3] at e
        exact (by decide : (88 : TypeId) ≠ 26) (typeD e hz))]
      exact e
    have HZE := Lib.hid (show (four w2 w.heap.size (.slice ac l.length cc) (.int .i64 t.k) (.int .i64 t.i) (.slice ak t.kids.length ck)).heap[w.heap.size]? = some (.cells #[.slice ac l.length cc, .int .i64 t.k, .int .i64 t.i, .slice ak t.kids.length ck] 26 (0, 0)) from four_set hz)
    have hpp : (four w2 w.heap.size (.slice ac l.length cc) (.int .i64 t.k) (.int .i64 t.i) (.slice ak t.kids.length ck)).cell? ⟨w1.heap.size + 1, 0, none⟩ = some (.pointer (some ⟨S, 0, none⟩)) := by
      rw [World.cell?_of_block (a := ⟨w1.heap.size + 1, 0, none⟩) (c4.block (w1.heap.size + 1) plt (fun e => by have := Option.some.inj e; omega))]; exact p0
    have HEND := Lib.hid (end_any S tv2 (ofL s.data.toList).2.1 (ofL s.data.toList).2.2 r _ hSA3 hTL3)
    have H4E := Lib.hid (H42.out.put (.slice ac l.length cc) (.int .i64 t.k) (.int .i64 t.i) (.slice ak t.kids.length ck))
    have HBE := Lib.hid (HB2.out.trans (belowD (Nat.le_refl _) c4 (by have := hltD hz; omega)))
    have hk4 : ∀ b, w.heap.size + 4 ≤ b → b < w2.heap.size → (four w2 w.heap.size (.slice ac l.length cc) (.int .i64 t.k) (.int .i64 t.i) (.slice ak t.kids.length ck)).heap[b]? = w2.heap[b]? := fun b h1 h2 => c4.block b h2 (fun e => by have := Option.some.inj e; omega)
    have hWW := HWS.out
    have HLE := Lib.hid (hl.keep (w' := four w2 w.heap.size (.slice ac l.length cc) (.int .i64 t.k) (.int .i64 t.i) (.slice ak t.kids.length ck)) (Q := Own W.heap.size (four w2 w.heap.size (.slice ac l.length cc) (.int .i64 t.k) (.int .i64 t.i) (.slice ak t.kids.length ck))) (fun b hb hlt => hk4 b (by have := hb.1; omega) hlt) (fun b hb hlt => hb.same (hk4 b (by have := hb.1; omega) hlt)))
    have HKE := Lib.hid (hlt.keep (w' := four w2 w.heap.size (.slice ac l.length cc) (.int .i64 t.k) (.int .i64 t.i) (.slice ak t.kids.length ck)) (Q := Own W.heap.size (four w2 w.heap.size (.slice ac l.length cc) (.int .i64 t.k) (.int .i64 t.i) (.slice ak t.kids.length ck))) (fun b hb hlt => hk4 b (by have := hb.1; omega) hlt) (fun b hb hlt => hb.same (hk4 b (by have := hb.1; omega) hlt)))
    have HFI := Lib.hid hfi
    have HX1 := Lib.hid hX
    obtain ⟨y0, y1, y2, y3⟩ := four_cells hz
    obtain ⟨f0, f1, f2, f3⟩ := four_free hz
    have hne : ¬ w1.heap.size + 1 = w.heap.size := by omega
    clear hl hlt hfi hs2 hf hfb hSA2 hTL2 c4 hSA3 hTL3 hk4 he ha hss hz hX H42
    unfold fv
    go_upto_region 4 with fail
    obtain ⟨V, hV⟩ : ∃ V, V = (((w2.setCell ⟨w.heap.size, 0, none⟩ (.slice ac l.length cc)).setCell ⟨w.heap.size, 1, none⟩ (.int .i64 t.k)).setCell ⟨w.heap.size, 2, none⟩ (.int .i64 t.i)).setCell ⟨w.heap.size, 3, none⟩ (.slice ak t.kids.length ck) := ⟨_, rfl⟩
    have hV2 : V = four w2 w.heap.size (.slice ac l.length cc) (.int .i64 t.k) (.int .i64 t.i) (.slice ak t.kids.length ck) := hV
    rw [← hV2] at hpp HEND H4E HBE HLE HKE HZE
    rw [← hV]
    clear hV hV2 y0 y1 y2 y3 f0 f1 f2 f3 p0 p1 p2 plt
    go_wp2_with fail
    refine HEND.out.mono ?_
    intro e w5 hg
    obtain ⟨hww, hg⟩ := hg
    cases hy : endP (ofL s.data.toList).2.1 (ofL s.data.toList).2.2 r with
    | error ea =>
      rw [hy] at hg
      obtain rfl := hg
      have HX := Lib.hid (show parseB s.data.toList deep nodes = .error (0, ea) by unfold parseB; rw [HX1.out]; dsimp only; rw [hy])
      rw [← hww]
      clear hy hww HEND hpp
      unfold faultP
      go_wp2
      refine leaves_cons (f := 31) (args := #[.pointer (some ⟨w.heap.size, 0, none⟩), .pointer (some ⟨w.heap.size + 1, 0, none⟩), .pointer (some ⟨w.heap.size + 2, 0, none⟩), .pointer (some ⟨w.heap.size + 3, 0, none⟩)]) (by simp) (by simp [go_sem]) ?_
      refine (catch_fault w.heap.size ea V H4E.out).mono ?_
      rintro e u' w'' ⟨rfl, rfl, hC⟩
      show ∃ v, (results _ _).run _ _ = .ok v _ ∧ _
      refine ⟨_, parse_results _ w'' w.heap.size _ _ _ _ _ _ _ rfl rfl rfl rfl hC.1 hC.2.1 hC.2.2.1 hC.2.2.2.1, ?_⟩
      rw [HX.out]
      exact ⟨HBE.out.trans hC.2.2.2.2, rfl⟩
    | ok z =>
      rw [hy] at hg
      obtain rfl := hg
      have HX := Lib.hid (show parseB s.data.toList deep nodes = .ok (l, t) by unfold parseB; rw [HX1.out]; dsimp only; rw [hy])
      rw [← hww]
      clear hy hww HEND hpp
      obtain ⟨-, ⟨xe, he⟩, ⟨xa, ha⟩, ⟨xs, hss⟩⟩ := H4E.out
      have HFIN := Lib.hid (fin_file (B := w.heap.size) (N := W.heap.size) (v0 := .slice ac l.length cc) (v1 := .int .i64 t.k) (v2 := .int .i64 t.i) (v3 := .slice ak t.kids.length ck) HZE.out he ha hss HBE.out (by omega) HLE.out HKE.out)
      obtain ⟨y0, y1, y2, y3⟩ := four_cells HZE.out
      obtain ⟨f0, f1, f2, f3⟩ := four_free HZE.out
      have x5 : V.cell? ⟨w.heap.size + 1, 0, none⟩ = some xe := by rw [Lib.cell_of_heap he]; rfl
      have x6 : V.cell? ⟨w.heap.size + 2, 0, none⟩ = some xa := by rw [Lib.cell_of_heap ha]; rfl
      have x7 : V.cell? ⟨w.heap.size + 3, 0, none⟩ = some xs := by rw [Lib.cell_of_heap hss]; rfl
      have f5 : V.frozen? ⟨w.heap.size + 1, 0, none⟩ = false := Lib.frozen_of_heap he 0
      have f6 : V.frozen? ⟨w.heap.size + 2, 0, none⟩ = false := Lib.frozen_of_heap ha 0
      have f7 : V.frozen? ⟨w.heap.size + 3, 0, none⟩ = false := Lib.frozen_of_heap hss 0
      clear he ha hss
      go_wp2
      refine leaves_cons (f := 31) (args := #[.pointer (some ⟨w.heap.size, 0, none⟩), .pointer (some ⟨w.heap.size + 1, 0, none⟩), .pointer (some ⟨w.heap.size + 2, 0, none⟩), .pointer (some ⟨w.heap.size + 3, 0, none⟩)]) (by simp) (by simp [go_sem]) ?_
      refine (catch_idleF w.heap.size _).mono ?_
      rintro e u' w'' ⟨rfl, rfl, rfl⟩
      show ∃ v, (results _ _).run _ _ = .ok v _ ∧ _
      refine ⟨_, parse_results _ (finF V w.heap.size (.slice ac l.length cc) (.int .i64 t.k) (.int .i64 t.i) (.slice ak t.kids.length ck)) w.heap.size _ _ _ _ _ _ _ rfl rfl rfl rfl HFIN.out.1 HFIN.out.2.1 HFIN.out.2.2.1 HFIN.out.2.2.2.1, ?_⟩
      rw [HX.out]
      exact ⟨HFIN.out.2.2.2.2.1, _, _, rfl, HFIN.out.2.2.2.2.2.1, HFIN.out.2.2.2.2.2.2, HFI.out⟩
end Go.Proofs.YtdhfbphliejcdaaDoor.Dv

namespace Go.Proofs.YtdhfbphliejcdaaDoor.Dv
open Go.RowKit

theorem nil_lieS (w : World) : Lies w [] (.slice none 0 0) := .mk [] none 0 (fun _ => .nilIface) (Nat.le_refl _) (by decide) (fun _ h => by cases h) (fun _ h => absurd h (by simp)) (fun _ h => absurd h (by simp))
theorem one_lieS {w : World} {g : Nat} {k i : Int} (h : w.heap[g]? = some (.cells #[.int .i64 k, .int .i64 i, .slice none 0 0] 24)) (hf : (Tm.mk k i []).fine) : Lies w [.mk k i []] (.slice (some ⟨g, 0, none⟩) 1 1) := by
  obtain ⟨c0, c1, c2⟩ := five_cells h
  refine .mk [.mk k i []] (some ⟨g, 0, none⟩) 1 (fun _ => .slice none 0 0) (Nat.le_refl _) (by decide) (fun x hx => ?_) (fun j hj => ⟨g, 0, rfl, ?_⟩) (fun j hj => ?_)
  · rcases List.mem_cons.1 hx with rfl | hx
    · exact hf
    · cases hx
  · obtain rfl : j = 0 := by simpa using hj
    exact ⟨c0, c1, c2⟩
  · obtain rfl : j = 0 := by simpa using hj
    exact nil_lieS w
theorem wk14 : shownF [.mk 1 0 []] (.mk 2 0 []) = [40, 102, 105, 108, 101, 32, 40, 40, 115, 111, 114, 116, 32, 48, 41, 41, 32, 40, 118, 97, 114, 32, 48, 41, 41, 10] := by kernel_rfl
theorem wk14b : shownD (.mk 0 0 []) = [] := by kernel_rfl
set_option maxHeartbeats 2000000 in
set_option maxRecDepth 20000 in
theorem wakes14_any (w : World) (hT : Tab w) : Calls Tryd.prog 12 #[] w fun e w' => e = .returned (.bool true) ∧ Below w.heap.size w w' := by
  have hb1 := (Below.refl w.heap.size w).alloc (Nat.le_refl _) (.cells #[.int .i64 1, .int .i64 0, .slice none 0 0] 24)
  have hb2 := hb1.alloc hb1.size (.cells #[.slice (some ⟨w.heap.size, 0, none⟩) 1 1, .int .i64 2, .int .i64 0, .slice none 0 0] 26)
  have hg : ((w.alloc (.cells #[.int .i64 1, .int .i64 0, .slice none 0 0] 24)).alloc (.cells #[.slice (some ⟨w.heap.size, 0, none⟩) 1 1, .int .i64 2, .int .i64 0, .slice none 0 0] 26)).heap[w.heap.size]? = some (.cells #[.int .i64 1, .int .i64 0, .slice none 0 0] 24) := by rw [Lib.alloc_old _ _ _ (by simp)]; exact alloc_new _ _
  have hf : ((w.alloc (.cells #[.int .i64 1, .int .i64 0, .slice none 0 0] 24)).alloc (.cells #[.slice (some ⟨w.heap.size, 0, none⟩) 1 1, .int .i64 2, .int .i64 0, .slice none 0 0] 26)).heap[w.heap.size + 1]? = some (.cells #[.slice (some ⟨w.heap.size, 0, none⟩) 1 1, .int .i64 2, .int .i64 0, .slice none 0 0] 26) := by
    have h := alloc_new (w.alloc (.cells #[.int .i64 1, .int .i64 0, .slice none 0 0] 24)) (.cells #[.slice (some ⟨w.heap.size, 0, none⟩) 1 1, .int .i64 2, .int .i64 0, .slice none 0 0] 26)
    rwa [World.size_alloc] at h
  have HC := Lib.hid (one_lieS hg ⟨by show (-9223372036854775808 : Int) ≤ 1 ∧ (1 : Int) ≤ 9223372036854775807; decide, by show (-9223372036854775808 : Int) ≤ 0 ∧ (0 : Int) ≤ 9223372036854775807; decide⟩)
  have HB := Lib.hid hb2
  have HT := Lib.hid (tab_up hT hb2)
  obtain ⟨y0, y1, y2, y3⟩ := four_cells hf
  clear hb1 hb2 hg hf hT
  go_enter Tryd.func12, Tryd.ntmps12
  go_upto_region 2 with fail
  obtain ⟨W, hW⟩ : ∃ W, W = (w.alloc (.cells #[.int .i64 1, .int .i64 0, .slice none 0 0] 24)).alloc (.cells #[.slice (some ⟨w.heap.size, 0, none⟩) 1 1, .int .i64 2, .int .i64 0, .slice none 0 0] 26) := ⟨_, rfl⟩
  rw [← hW] at y0 y1 y2 y3 HC HB HT
  rw [← hW]
  clear hW
  go_wp2_with fail
  refine (sfile_any [.mk 1 0 []] (.mk 2 0 []) W _ _ HC.out (nil_lieS _) HT.out (by decide)).mono ?_
  rintro e w1 ⟨rfl, hb1⟩
  rw [wk14]
  have HB1 := Lib.hid (HB.out.trans (hb1.mono HB.out.size))
  have HT1 := Lib.hid (tab_up HT.out hb1)
  clear hb1 y0 y1 y2 y3
  go_wp2_with fail
  refine (sderiv_any (.mk 0 0 []) w1 _ (nil_lieS _) HT1.out (by decide)).mono ?_
  rintro e w2 ⟨rfl, hb2⟩
  rw [wk14b]
  have HB2 := Lib.hid (HB1.out.trans (hb2.mono HB1.out.size))
  clear hb2
  go_wp2
  go_ret
  exact ⟨rfl, HB2.out⟩
end Go.Proofs.YtdhfbphliejcdaaDoor.Dv

namespace Go.Proofs.YtdhfbphliejcdaaDoor.Dv
open Go.RowKit

theorem big_or (n : Nat) : withinB (n : Nat) 4787326403894837248 = true ∨ 1000000 < n := by
  by_cases h : n ≤ 1000000
  · exact Or.inl (within_big (by omega) (by omega))
  · exact Or.inr (by omega)
theorem file_len {c : List Tm} {t : Tm} (hc : rights c = true) (ht : t.rightB = true) : (fileL c t).length ≤ 32 * (sizes c + t.size) + 12 := by
  have a := ctx_len hc
  have b := sh_len t ht
  rw [file_text]
  simp only [List.length_append, headF, List.length_cons, List.length_nil]; omega
end Go.Proofs.YtdhfbphliejcdaaDoor.Dv

namespace Go.Proofs.YtdhfbphliejcdaaDoor

theorem runL_cutoff {p : UInt8 → Bool} : ∀ (X : List UInt8) (m : Nat), runL p (X.take m) = min (runL p X) m
  | [], m => by simp [runL]
  | c :: r, 0 => by simp [runL]
  | c :: r, m + 1 => by
    rw [List.take_succ_cons]
    cases h : p c with
    | true => rw [runL_yes h, runL_yes h, runL_cutoff r m]; omega
    | false => rw [runL_no h, runL_no h]; omega
theorem skipL_cutoff : ∀ (n : Nat) (X : List UInt8) (m : Nat), X.length ≤ n → skipL X ≤ m → skipL (X.take m) = skipL X
  | _, [], m, _, _ => by simp
  | 0, c :: r, m, h, _ => by simp at h
  | n + 1, c :: r, 0, h, h2 => by rw [List.take_zero, skipL_nil]; omega
  | n + 1, c :: r, m + 1, h, h2 => by
    rw [List.take_succ_cons]
    simp only [List.length_cons] at h
    by_cases hb : blankC c = true
    · rw [skipL_blank hb] at h2 ⊢
      rw [skipL_blank hb, skipL_cutoff n r m (by omega) (by omega)]
    · have hb' : blankC c = false := by simpa using hb
      by_cases h59 : c.toNat = 59
      · rw [skipL_note hb' h59] at h2 ⊢
        rw [skipL_note hb' h59, runL_cutoff, Nat.min_eq_left (by omega), List.drop_take, skipL_cutoff n _ _ (by rw [List.length_drop]; omega) (by omega)]
      · rw [skipL_stop hb' h59, skipL_stop hb' h59]
theorem nextL_cutoff {X : List UInt8} {k n m : Nat} (h : nextL X = some (k, n)) (hm : n ≤ m) : nextL (X.take m) = some (k, n) := by
  have hr := nextL_range h
  obtain ⟨m, rfl⟩ : ∃ q, m = q + 1 := ⟨m - 1, by omega⟩
  match X, h with
  | [], h => simp at hr; omega
  | c :: r, h =>
    by_cases c1 : c.toNat = 40
    · rw [next_open c1] at h; rw [List.take_succ_cons, next_open c1, h]
    by_cases c2 : c.toNat = 41
    · rw [next_close c2] at h; rw [List.take_succ_cons, next_close c2, h]
    cases c3 : letterC c with
    | true =>
      by_cases c4 : 20 < runL wordC (c :: r)
      · rw [next_long c1 c2 c3 c4] at h; cases h
      · rw [next_word c1 c2 c3 c4] at h
        cases h
        have hx := runL_cutoff (p := wordC) (c :: r) (m + 1)
        rw [Nat.min_eq_left hm, List.take_succ_cons] at hx
        rw [List.take_succ_cons, next_word c1 c2 c3 (by omega), hx]
    | false =>
      cases c5 : isd c with
      | true =>
        by_cases c6 : getB ((c :: r).take (runL isd (c :: r))) = none ∨ ((((c :: r).drop (runL isd (c :: r))).head?.map letterC).getD false) = true
        · rw [next_bad c1 c2 c3 c5 c6] at h; cases h
        · rw [next_num c1 c2 c3 c5 c6] at h
          cases h
          have hx := runL_cutoff (p := isd) (c :: r) (m + 1)
          rw [Nat.min_eq_left hm] at hx
          have ht : ((c :: r).take (m + 1)).take (runL isd (c :: r)) = (c :: r).take (runL isd (c :: r)) := by rw [List.take_take, Nat.min_eq_left hm]
          have hd : ((((c :: r).take (m + 1)).drop (runL isd (c :: r))).head?.map letterC).getD false = true → ((((c :: r).drop (runL isd (c :: r))).head?.map letterC).getD false) = true := by
            rw [List.drop_take]
            cases hq : m + 1 - runL isd (c :: r) with
            | zero => simp
            | succ q =>
              cases (c :: r).drop (runL isd (c :: r)) with
              | nil => simp
              | cons a b => simp
          rw [List.take_succ_cons] at hx ht hd ⊢
          rw [next_num c1 c2 c3 c5 (by
            rw [hx, ht]
            rintro (e | e)
            · exact c6 (Or.inl e)
            · exact c6 (Or.inr (hd e))), hx]
      | false => rw [next_other c1 c2 c3 c5] at h; cases h
theorem lexL_inv_fault {l : List UInt8} {q p : Nat} (h : lexL l q = ([], some p)) : q + skipL (l.drop q) = p ∧ p < l.length := by
  by_cases h1 : q + skipL (l.drop q) < l.length
  · cases hn : nextL (l.drop (q + skipL (l.drop q))) with
    | none =>
      rw [lexL_fault rfl h1 hn] at h
      simp only [Prod.mk.injEq, Option.some.injEq, true_and] at h
      exact ⟨h, by omega⟩
    | some x => obtain ⟨k, n⟩ := x; rw [lexL_next rfl h1 hn] at h; simp at h
  · rw [lexL_end h1] at h; simp at h
theorem lexL_cutoff {l : List UInt8} {p : Nat} : ∀ (ts : List Tok) (q : Nat), lexL l q = (ts, some p) → q ≤ p ∧ p < l.length ∧ lexL (l.take p) q = (ts, none)
  | [], q, h => by
    obtain ⟨h1, h2⟩ := lexL_inv_fault h
    refine ⟨by omega, h2, lexL_end ?_⟩
    rw [List.drop_take, skipL_cutoff _ _ _ (Nat.le_refl _) (by omega), List.length_take]
    omega
  | t :: r, q, h => by
    obtain ⟨q', k, n, h1, h2, h3, h4, h5⟩ := lexL_inv h
    obtain ⟨i1, i2, i3⟩ := lexL_cutoff r (q' + n) h5
    have hr := nextL_range h3
    refine ⟨by omega, i2, ?_⟩
    have e1 : q + skipL ((l.take p).drop q) = q' := by
      rw [List.drop_take, skipL_cutoff _ _ _ (Nat.le_refl _) (by omega), h1]
    have e2 : nextL ((l.take p).drop q') = some (k, n) := by
      rw [List.drop_take]; exact nextL_cutoff h3 (by omega)
    rw [lexL_next e1 (by rw [List.length_take]; omega) e2, i3, h4, List.drop_take, List.take_take, Nat.min_eq_left (by omega)]
/-- The tokens of a text, its end and whether a fault stands there, by one reading. -/
theorem ofL_eq (l : List UInt8) : ofL l = ((lexL l 0).1, (match (lexL l 0).2 with | none => l.length | some p => p), (lexL l 0).2.isSome) := by
  unfold ofL
  rcases hx : lexL l 0 with ⟨ts, o⟩
  cases o with
  | none => rfl
  | some p =>
    have h := (lexL_cutoff ts 0 hx).2.2
    simp only [h, toksO]
    rfl
end Go.Proofs.YtdhfbphliejcdaaDoor

namespace Go.Proofs.YtdhfbphliejcdaaDoor.Dv
open Go.Lib

theorem dec_back : ∀ (n : Nat) (l : List UInt8), l.length = n → l ≠ [] → digs l = true → (1 < l.length → l.head? ≠ some 48) → decDigits (val l) = l ∧ (l.head? ≠ some 48 → 1 ≤ val l)
  | 0, l, hn, hl, _, _ => absurd (List.eq_nil_of_length_eq_zero hn) hl
  | n + 1, l, hn, hl, hd, hh => by
    obtain ⟨l', c, rfl⟩ : ∃ l' c, l = l' ++ [c] := ⟨l.dropLast, l.getLast hl, (List.dropLast_concat_getLast hl).symm⟩
    rw [digs_snoc, Bool.and_eq_true] at hd
    obtain ⟨hd1, hd2⟩ := hd
    have hc : 48 ≤ c.toNat ∧ c.toNat ≤ 57 := by unfold isd at hd2; simpa using hd2
    have hcc : UInt8.ofNat (48 + (c.toNat - 48)) = c := by
      apply UInt8.toNat_inj.1
      rw [UInt8.toNat_ofNat']; omega
    have hone : decDigits (c.toNat - 48) = [c] := by
      rw [decDigits_one (by omega)]
      have : (48 + (c.toNat - 48)) = c.toNat := by omega
      first | rw [hcc] | (simp [this]) | (rw [show UInt8.ofNat (48 + (c.toNat - 48)) = c from hcc])
    rw [val_snoc]
    by_cases he : l' = []
    · subst he
      refine ⟨by simpa [val] using hone, fun h => ?_⟩
      have hne : c ≠ 48 := fun e => h (by rw [e]; rfl)
      have : c.toNat ≠ 48 := fun e => hne (UInt8.toNat_inj.1 (by rw [e]; rfl))
      simp [val]; omega
    · have hlen : 1 ≤ l'.length := by
        cases l' with
        | nil => exact absurd rfl he
        | cons x r => simp
      have hhd : l'.head? = (l' ++ [c]).head? := by
        cases l' with
        | nil => exact absurd rfl he
        | cons x r => rfl
      have hh' : l'.head? ≠ some 48 := by rw [hhd]; exact hh (by simp; omega)
      obtain ⟨h1, h2⟩ := dec_back n l' (by simp at hn; omega) he hd1 (fun _ => hh')
      have h3 := h2 hh'
      refine ⟨?_, fun _ => by omega⟩
      rw [dec_digit h3 (by omega), h1, hone]
theorem get_back {l : List UInt8} {n : Nat} (h : getB l = some n) : itoa (n : Int) = l := by
  unfold getB at h
  split at h
  · cases h
  · rename_i h1
    split at h
    · rename_i h2
      obtain rfl := Option.some.inj h
      have h3 : l ≠ [] := fun e => h1 (Or.inl e)
      have := (dec_back l.length l rfl h3 h2.1 (fun hl e => h1 (Or.inr ⟨hl, e⟩))).1
      unfold itoa
      rw [if_neg (by omega), Int.toNat_natCast, this]
    · cases h
theorem next_tok {l : List UInt8} {k : Nat} (h : nextL l = some (k, l.length)) : (k = 1 → l = [40]) ∧ (k = 2 → l = [41]) ∧ (k = 4 → ∃ n : Nat, getB l = some n) := by
  match l with
  | [] => cases h
  | c :: r =>
    have one : ∀ x : UInt8, c.toNat = x.toNat → (c :: r).length = 1 → c :: r = [x] := fun x e hl => by
      obtain rfl := UInt8.toNat_inj.1 e
      have : r = [] := List.eq_nil_of_length_eq_zero (by simpa using hl)
      rw [this]
    rw [nextL] at h
    by_cases c1 : c.toNat = 40
    · rw [if_pos c1] at h
      have h := Option.some.inj h
      simp only [Prod.mk.injEq] at h
      exact ⟨fun _ => one 40 c1 h.2.symm, fun e => by omega, fun e => by omega⟩
    rw [if_neg c1] at h
    by_cases c2 : c.toNat = 41
    · rw [if_pos c2] at h
      have h := Option.some.inj h
      simp only [Prod.mk.injEq] at h
      exact ⟨fun e => by omega, fun _ => one 41 c2 h.2.symm, fun e => by omega⟩
    rw [if_neg c2] at h
    by_cases c3 : letterC c = true
    · rw [if_pos c3] at h
      split at h
      · cases h
      · have h := Option.some.inj h
        simp only [Prod.mk.injEq] at h
        exact ⟨fun e => by omega, fun e => by omega, fun e => by omega⟩
    rw [if_neg c3] at h
    by_cases c5 : isd c = true
    · rw [if_pos c5] at h
      split at h
      · cases h
      · rename_i c6
        have h := Option.some.inj h
        simp only [Prod.mk.injEq] at h
        refine ⟨fun e => by omega, fun e => by omega, fun _ => ?_⟩
        rw [h.2, List.take_length] at c6
        cases e : getB (c :: r) with
        | none => exact absurd (Or.inl e) c6
        | some n => exact ⟨n, rfl⟩
    · rw [if_neg c5] at h; cases h
/-- Tokens as they are lexed. -/
def LxT (ts : List Tok) : Prop := ∀ t ∈ ts, (t.k = 1 → t.s = [40]) ∧ (t.k = 2 → t.s = [41]) ∧ (t.k = 4 → ∃ n : Nat, getB t.s = some n)
theorem LxT.tail {t : Tok} {r : List Tok} (h : LxT (t :: r)) : LxT r := fun x hx => h x (List.mem_cons_of_mem _ hx)
theorem lxT_of {l : List UInt8} {o : Option Nat} {ts : List Tok} {p : Nat} (h : lexL l p = (ts, o)) : LxT ts := fun t ht => by
  have h1 := (solid_all ts p h t ht [] stops_nil).1
  rw [List.append_nil] at h1
  exact next_tok h1
def ksT (ts : List Tok) : PS := ts.map fun t => (t.k, t.s)
theorem take_w {E k : Nat} {ts r : List Tok} {t : Tok} (hl : LxT ts) (h : takeT E k ts = .ok (t, r)) : ksT ts = (k, t.s) :: ksT r ∧ LxT r ∧ ((k = 1 → t.s = [40]) ∧ (k = 2 → t.s = [41]) ∧ (k = 4 → ∃ n : Nat, getB t.s = some n)) := by
  obtain ⟨e1, e2⟩ := takeT_eq h
  subst e1
  refine ⟨?_, hl.tail, ?_⟩
  · simp only [ksT, List.map_cons, e2]
  · have := hl t List.mem_cons_self
    rw [e2] at this
    exact this
def DpWd (dp : DP) : Prop := ∀ d u ts t u2 r, LxT ts → dp d u ts = .ok (t, u2, r) → ksT ts = t.sp ++ ksT r ∧ LxT r
theorem kidsD_w {dp : DP} (h : DpWd dp) {d : Nat} : ∀ {c u : Nat} {ts r : List Tok} {l : List Tm} {u2 : Nat}, LxT ts → kidsD dp d c u ts = .ok (l, u2, r) → ksT ts = sps l ++ ksT r ∧ LxT r
  | 0, u, ts, r, l, u2, hl, hx => by
    simp only [kidsD, Except.ok.injEq, Prod.mk.injEq] at hx
    obtain ⟨rfl, -, rfl⟩ := hx
    exact ⟨by simp [sps], hl⟩
  | c + 1, u, ts, r, l, u2, hl, hx => by
    unfold kidsD at hx
    split at hx
    · cases hx
    · rename_i t u1 q e
      obtain ⟨h1, h2⟩ := h _ _ _ _ _ _ hl e
      split at hx
      · cases hx
      · rename_i l2 u3 q2 e2
        obtain ⟨h3, h4⟩ := kidsD_w h h2 e2
        simp only [Except.ok.injEq, Prod.mk.injEq] at hx
        obtain ⟨rfl, -, rfl⟩ := hx
        exact ⟨by rw [h1, h3]; simp [sps], h4⟩
theorem numD_w {E : Nat} {k : Int} {ts r : List Tok} {n : Int} (hl : LxT ts) (h : numD E k ts = .ok (n, r)) : ksT ts = (if k = 1 ∨ k = 2 then [(4, itoa n)] else []) ++ ksT r ∧ LxT r := by
  unfold numD at h
  split at h
  · rename_i hk
    split at h
    · cases h
    · rename_i t q e
      obtain ⟨h1, h2, -, -, h5⟩ := take_w hl e
      simp only [Except.ok.injEq, Prod.mk.injEq] at h
      obtain ⟨rfl, rfl⟩ := h
      obtain ⟨m, hm⟩ := h5 rfl
      rw [if_pos hk, h1, hm]
      exact ⟨by simp [get_back hm], h2⟩
  · rename_i hk
    simp only [Except.ok.injEq, Prod.mk.injEq] at h
    obtain ⟨-, rfl⟩ := h
    rw [if_neg hk]
    exact ⟨rfl, hl⟩
theorem rule_word {s : List UInt8} (h : ruleN s ≠ 0) : wordL (ruleN s) = s := by
  rcases ruleN_is s with ⟨k, h1, h2, h3, -, h5⟩ | ⟨-, h0⟩
  · rw [h5]
    unfold wordL
    rw [h3]
  · exact absurd h0 h
theorem ruleD_w {dp : DP} (h : DpWd dp) {E d u : Nat} {ts r : List Tok} {t : Tm} {u2 : Nat} (hl : LxT ts) (hx : ruleD dp E d u ts = .ok (t, u2, r)) : (1, [40]) :: ksT ts = t.sp ++ ksT r ∧ LxT r := by
  unfold ruleD at hx
  split at hx; · cases hx
  rename_i w r1 e1
  obtain ⟨h1, l1, -⟩ := take_w hl e1
  split at hx; · cases hx
  rename_i h0
  split at hx; · cases hx
  rename_i n r2 e2
  obtain ⟨h2, l2⟩ := numD_w l1 e2
  split at hx; · cases hx
  rename_i l u3 r3 e3
  obtain ⟨h3, l3⟩ := kidsD_w h l2 e3
  split at hx; · cases hx
  rename_i z r4 e4
  obtain ⟨h4, l4, -, h5, -⟩ := take_w l3 e4
  simp only [Except.ok.injEq, Prod.mk.injEq] at hx
  obtain ⟨rfl, -, rfl⟩ := hx
  refine ⟨?_, l4⟩
  rw [Tm.sp_eq, h1, h2, h3, h4, h5 rfl]
  show _ = ((1, [40]) :: (3, wordL (ruleN w.s)) :: ((if ruleN w.s = 1 ∨ ruleN w.s = 2 then [(4, itoa n)] else []) ++ (sps l ++ [(2, [41])]))) ++ ksT r4
  rw [rule_word h0]
  simp
theorem derP_w {deep nodes E : Nat} : ∀ f, DpWd (derP deep nodes E f)
  | 0 => fun d u ts t u2 r _ hx => by cases hx
  | f + 1 => fun d u ts t u2 r hl hx => by
    unfold derP at hx
    split at hx; · cases hx
    rename_i o q e1
    obtain ⟨h1, l1, h2, -⟩ := take_w hl e1
    split at hx; · cases hx
    split at hx; · cases hx
    obtain ⟨h3, l3⟩ := ruleD_w (derP_w f) l1 hx
    refine ⟨?_, l3⟩
    rw [h1, h2 rfl]
    exact h3
theorem ctxD_w {dp : DP} (h : DpWd dp) {E : Nat} : ∀ {f u : Nat} {ts r : List Tok} {l : List Tm} {u2 : Nat}, LxT ts → ctxD dp E f u ts = .ok (l, u2, r) → ksT ts = sps l ++ ksT r ∧ LxT r
  | 0, u, ts, r, l, u2, _, hx => by cases hx
  | f + 1, u, ts, r, l, u2, hl, hx => by
    unfold ctxD at hx
    split at hx
    · simp only [Except.ok.injEq, Prod.mk.injEq] at hx
      obtain ⟨rfl, -, rfl⟩ := hx
      exact ⟨by simp [sps], hl⟩
    · split at hx
      · cases hx
      · rename_i t u1 q e
        obtain ⟨h1, h2⟩ := h _ _ _ _ _ _ hl e
        split at hx
        · cases hx
        · rename_i l2 u3 q2 e2
          obtain ⟨h3, h4⟩ := ctxD_w h h2 e2
          simp only [Except.ok.injEq, Prod.mk.injEq] at hx
          obtain ⟨rfl, -, rfl⟩ := hx
          exact ⟨by rw [h1, h3]; simp [sps], h4⟩
theorem fileP_w {dp : DP} (h : DpWd dp) {E f : Nat} {ts r : List Tok} {c : List Tm} {t : Tm} (hl : LxT ts) (hx : fileP dp E f ts = .ok ((c, t), r)) : ksT ts = filePs c t ++ ksT r := by
  unfold fileP at hx
  split at hx; · cases hx
  rename_i o1 r1 e1
  obtain ⟨h1, l1, g1, -⟩ := take_w hl e1
  split at hx; · cases hx
  rename_i w r2 e2
  obtain ⟨h2, l2, -⟩ := take_w l1 e2
  split at hx
  · rename_i hw
    split at hx; · cases hx
    rename_i o3 r3 e3
    obtain ⟨h3, l3, g3, -⟩ := take_w l2 e3
    split at hx; · cases hx
    rename_i c' u r4 e4
    obtain ⟨h4, l4⟩ := ctxD_w h l3 e4
    split at hx; · cases hx
    rename_i o5 r5 e5
    obtain ⟨h5, l5, -, g5, -⟩ := take_w l4 e5
    split at hx; · cases hx
    rename_i t' u' r6 e6
    obtain ⟨h6, l6⟩ := h _ _ _ _ _ _ l5 e6
    split at hx; · cases hx
    rename_i o7 r7 e7
    obtain ⟨h7, -, -, g7, -⟩ := take_w l6 e7
    simp only [Except.ok.injEq, Prod.mk.injEq] at hx
    obtain ⟨⟨rfl, rfl⟩, rfl⟩ := hx
    rw [h1, h2, h3, h4, h5, h6, h7, hw, g1 rfl, g3 rfl, g5 rfl, g7 rfl]
    simp [filePs]
  · cases hx
/-- A text that is read as a file has the words of the file's text. -/
theorem parse_words {s : List UInt8} {deep nodes : Nat} {c : List Tm} {t : Tm} (h : parseB s deep nodes = .ok (c, t)) : ∃ ts, lexL s 0 = (ts, none) ∧ ksT ts = filePs c t := by
  unfold parseB at h
  rw [ofL_eq] at h
  obtain ⟨ts, o, hx⟩ : ∃ ts o, lexL s 0 = (ts, o) := ⟨_, _, rfl⟩
  rw [hx] at h
  dsimp only at h
  split at h; · cases h
  rename_i x r e
  split at h; · cases h
  rename_i z e2
  have h2 := Except.ok.inj h
  subst h2
  have h3 := fileP_w (derP_w _) (lxT_of hx) e
  unfold endP at e2
  split at e2
  · rename_i hr
    obtain ⟨rfl, ho⟩ := hr
    cases o with
    | some p => cases ho
    | none => exact ⟨ts, hx, by rw [h3]; simp [ksT]⟩
  · cases e2
/-- The two texts' tokens are alike. -/
theorem shown_words {s : List UInt8} {deep nodes : Nat} {c : List Tm} {t : Tm} (h : parseB s deep nodes = .ok (c, t)) (hc : rights c = true) (ht : t.rightB = true) : ∃ ts us, lexL s 0 = (ts, none) ∧ lexL (fileL c t) 0 = (us, none) ∧ ts.length = us.length ∧ ∀ (i : Nat) (h1 : i < ts.length) (h2 : i < us.length), ts[i].k = us[i].k ∧ ts[i].s = us[i].s := by
  obtain ⟨ts, h1, h2⟩ := parse_words h
  obtain ⟨us, h3, h4⟩ := file_lx hc ht
  have h5 : ksT ts = ksT us := by rw [h2]; exact h4.symm
  have hl : ts.length = us.length := by
    have := congrArg List.length h5
    simpa [ksT] using this
  refine ⟨ts, us, h1, h3, hl, fun i i1 i2 => ?_⟩
  have := congrArg (fun l => l[i]?) h5
  simp only [ksT, List.getElem?_map, List.getElem?_eq_getElem i1, List.getElem?_eq_getElem i2, Option.map_some, Option.some.injEq, Prod.mk.injEq] at this
  exact this
end Go.Proofs.YtdhfbphliejcdaaDoor.Dv

namespace Go.Proofs.YtdhfbphliejcdaaDoor
open Go.RowKit

theorem info_ptok : (Tryd.prog.info? 43).map (fun i => (i.zero, i.size, i.bytes)) = some (some (.agg #[.int .i64 0, .string ⟨#[]⟩, .int .i64 0]), 3, 32) := by kernel_rfl
theorem slice_two {P : Program} {t : TypeId} (w : World) (s : ByteArray) (p q : Nat) (ht : P.underlying t = some .string) (h : p ≤ q) (h2 : q ≤ s.size) :
    (Instr.slice t (.string s) (some (.int .i64 (p : Int))) (some (.int .i64 (q : Int))) none).run P w = .ok (.string (s.extract p q)) w := by
  rw [run_slice_string w t s .i64 .i64 _ _ ht (by omega) (by omega) (by omega)]
  rfl
theorem lx_blank {s : ByteArray} {p : Nat} (h : p < s.size) (hb : blankC s[p] = true) : lexL s.data.toList p = lexL s.data.toList (p + 1) := lexL_same (by rw [drop_at s p h, skipL_blank hb]; omega)
theorem lx_note {s : ByteArray} {p : Nat} (h : p < s.size) (hb : s[p].toNat = 59) : lexL s.data.toList p = lexL s.data.toList (p + runL lineC (s.data.toList.drop p)) := by
  have hline : lineC s[p] = true := by unfold lineC; rw [hb]; rfl
  have hbl : blankC s[p] = false := by unfold blankC; rw [hb]; rfl
  have hrl : runL lineC (s.data.toList.drop p) = runL lineC (s.data.toList.drop (p + 1)) + 1 := by rw [drop_at s p h, runL_yes hline]
  refine lexL_same ?_
  have hd : skipL (s.data.toList.drop p) = runL lineC (s.data.toList.drop (p + 1)) + 1 + skipL ((s.data.toList.drop (p + 1)).drop (runL lineC (s.data.toList.drop (p + 1)))) := by
    conv => lhs; rw [drop_at s p h]
    rw [skipL_note hbl hb]
  rw [List.drop_drop] at hd
  rw [hd, hrl, show p + (runL lineC (s.data.toList.drop (p + 1)) + 1) = p + 1 + runL lineC (s.data.toList.drop (p + 1)) by omega]
  omega
theorem lx_skip {s : ByteArray} {p : Nat} (h : p < s.size) (hb : blankC s[p] = false) (h59 : s[p].toNat ≠ 59) : p + skipL (s.data.toList.drop p) = p := by rw [drop_at s p h, skipL_stop hb h59]; rfl
theorem lx_tok {s : ByteArray} {p k n : Nat} {ts : List Tok} {R : List Tok × Option Nat} (hR : lexTo ts (lexL s.data.toList p) = R) (h : p < s.size) (hq : p + skipL (s.data.toList.drop p) = p) (hn : nextL (s.data.toList.drop p) = some (k, n)) : lexTo (ts ++ [⟨k, (s.data.toList.drop p).take n, p⟩]) (lexL s.data.toList (p + n)) = R := by
  rw [← hR, lexL_next hq (by simpa using h) hn]
  exact (lexTo_next ts ⟨k, _, p⟩ _).symm
theorem lx_bad {s : ByteArray} {p : Nat} {ts : List Tok} {R : List Tok × Option Nat} (hR : lexTo ts (lexL s.data.toList p) = R) (h : p < s.size) (hq : p + skipL (s.data.toList.drop p) = p) (hn : nextL (s.data.toList.drop p) = none) : R = (ts, some p) := by
  rw [← hR, lexL_fault hq (by simpa using h) hn]; simp [lexTo]

/-- What the page's Lex hands back. -/
def plexGives (T : TypeId) (w : World) (R : List Tok × Option Nat) (e : Ending) (w' : World) : Prop :=
  Below w.heap.size w w' ∧ ∃ v, Toks T w.heap.size w' v R.1 ∧ e = .returned (.tuple #[v, .int .i64 (match R.2 with | none => -1 | some p => (p : Int))])

set_option maxRecDepth 20000 in
set_option maxHeartbeats 8000000 in
theorem plex_any (s : ByteArray) (w : World) (hs : s.size ≤ 1000000) :
    Calls Tryd.prog 17 #[.string s] w (plexGives 43 w (lexL s.data.toList 0)) := by
  have HPL := Lib.hid pletter_any
  have HPD := Lib.hid pdigit_any
  have HGET := Lib.hid fun t w (h : t.size ≤ maxLen) => refget_any t w h
  have hsl : s.data.toList.length = s.size := by simp
  have HSL := Lib.hid hsl
  obtain ⟨R, hR⟩ : ∃ R, lexL s.data.toList 0 = R := ⟨_, rfl⟩
  rw [hR]
  have HRR := Lib.hid hR
  obtain ⟨i0, hi, hz0, hz1, hz2⟩ := tok_parts info_ptok
  have HI := Lib.hid (And.intro hi (And.intro hz0 (And.intro hz1 hz2)))
  clear hR hsl hi hz0 hz1 hz2
  go_enter Tryd.func17, Tryd.ntmps17
  go_wp2_with fail
  go_loopw [4, 5] (fun v i wr => ∃ (p : Nat) (ts : List Tok), p ≤ s.size ∧ ts.length ≤ p ∧ i = .int .i64 p ∧ Hid (lexTo ts (lexL s.data.toList p) = R) ∧ Hid (Toks 43 w.heap.size wr v ts) ∧ Below w.heap.size w wr) (fun _ i _ => s.size - (intOf i).toNat)
  case atStart => exact ⟨0, [], Nat.zero_le _, Nat.zero_le _, rfl, by rw [Hid, HRR.out]; simp [lexTo], toks_nil _ _ _, Below.refl _ _⟩
  case round =>
    obtain ⟨p, ts, hp, htp, rfl, hR, hT, hB⟩ := hrel
    have HB := Lib.hid hB
    have hB2 := hB.size
    clear hB
    by_cases hlt : p < s.size
    · by_cases c32 : s[p].toNat = 32
      · have b32 : ((s[p].toNat : Int) == 32) = true := (u8_eq (n := 32)).trans (by rw [c32]; rfl)
        have HN := Lib.hid (show lexTo ts (lexL s.data.toList (p + 1)) = R by rw [← lx_blank hlt (by unfold blankC; rw [c32]; rfl)]; exact hR.out)
        clear c32 hR
        go_wp2_with fail
        go_roundw
        case rel => exact ⟨p + 1, ts, hlt, by omega, by go_num, HN.out, hT, HB.out⟩
        case measure => simp [intOf]; omega
      have b32 : ((s[p].toNat : Int) == 32) = false := (u8_eq (n := 32)).trans (beq_eq_false_iff_ne.2 c32)
      by_cases c9 : s[p].toNat = 9
      · have b9 : ((s[p].toNat : Int) == 9) = true := (u8_eq (n := 9)).trans (by rw [c9]; rfl)
        have HN := Lib.hid (show lexTo ts (lexL s.data.toList (p + 1)) = R by rw [← lx_blank hlt (by unfold blankC; rw [c9]; rfl)]; exact hR.out)
        clear c9 hR
        go_wp2_with fail
        go_roundw
        case rel => exact ⟨p + 1, ts, hlt, by omega, by go_num, HN.out, hT, HB.out⟩
        case measure => simp [intOf]; omega
      have b9 : ((s[p].toNat : Int) == 9) = false := (u8_eq (n := 9)).trans (beq_eq_false_iff_ne.2 c9)
      by_cases c10 : s[p].toNat = 10
      · have b10 : ((s[p].toNat : Int) == 10) = true := (u8_eq (n := 10)).trans (by rw [c10]; rfl)
        have HN := Lib.hid (show lexTo ts (lexL s.data.toList (p + 1)) = R by rw [← lx_blank hlt (by unfold blankC; rw [c10]; rfl)]; exact hR.out)
        clear c10 hR
        go_wp2_with fail
        go_roundw
        case rel => exact ⟨p + 1, ts, hlt, by omega, by go_num, HN.out, hT, HB.out⟩
        case measure => simp [intOf]; omega
      have b10 : ((s[p].toNat : Int) == 10) = false := (u8_eq (n := 10)).trans (beq_eq_false_iff_ne.2 c10)
      have hblank : blankC s[p] = false := by unfold blankC; rw [beq_eq_false_iff_ne.2 c32, beq_eq_false_iff_ne.2 c9, beq_eq_false_iff_ne.2 c10]; rfl
      clear c32 c9 c10
      by_cases c59 : s[p].toNat = 59
      · have b59 : ((s[p].toNat : Int) == 59) = true := (u8_eq (n := 59)).trans (by rw [c59]; rfl)
        have hle := runL_at lineC s p hp
        obtain ⟨E, hE⟩ : ∃ E, p + runL lineC (s.data.toList.drop p) = E := ⟨_, rfl⟩
        have HE := Lib.hid hE
        have HN := Lib.hid (show lexTo ts (lexL s.data.toList E) = R by rw [← hE, ← lx_note hlt c59]; exact hR.out)
        have hE1 : p < E := by
          rw [← hE, drop_at s p hlt, runL_yes (by unfold lineC; rw [c59]; rfl)]; omega
        rw [hE] at hle
        clear hE c59 hR hblank
        go_wp2_with fail
        go_loop [5] (fun i => ∃ k : Nat, k ≤ s.size ∧ i = .int .i64 k ∧ Hid (k + runL lineC (s.data.toList.drop k) = E)) (fun i => s.size - (intOf i).toNat)
        case atStart => exact ⟨p, hp, rfl, HE.out⟩
        case round =>
          obtain ⟨k, hk, rfl, hq⟩ := hrel
          by_cases hk2 : k < s.size
          · have hd := hq.out
            rw [drop_at s k hk2] at hd
            by_cases d10 : s[k].toNat = 10
            · have f10 : ((s[k].toNat : Int) == 10) = true := (u8_eq (n := 10)).trans (by rw [d10]; rfl)
              have e10 : ((s[k].toNat : Int) != 10) = false := by rw [bne, f10]; rfl
              rw [runL_no (by unfold lineC; rw [d10]; rfl)] at hd
              obtain rfl : k = E := by omega
              clear hd hq d10 HE
              go_wp2_with fail
              go_roundw
              case rel => exact ⟨k, ts, hk, by omega, rfl, HN.out, hT, HB.out⟩
              case measure => simp [intOf]; omega
            · have f10 : ((s[k].toNat : Int) == 10) = false := (u8_eq (n := 10)).trans (beq_eq_false_iff_ne.2 d10)
              have e10 : ((s[k].toNat : Int) != 10) = true := by rw [bne, f10]; rfl
              rw [runL_yes (by unfold lineC; rw [beq_eq_false_iff_ne.2 d10]; rfl)] at hd
              have HQ := Lib.hid (show k + 1 + runL lineC (s.data.toList.drop (k + 1)) = E by omega)
              clear hd hq d10
              go_wp2_with fail
              go_round
              case rel => exact ⟨k + 1, hk2, by go_num, HQ.out⟩
              case measure => simp [intOf]; omega
          · have hd := hq.out
            rw [List.drop_of_length_le (by rw [HSL.out]; omega)] at hd
            obtain rfl : k = E := by simpa [runL] using hd
            clear hd hq HE
            go_wp2_with fail
            go_roundw
            case rel => exact ⟨k, ts, hk, by omega, rfl, HN.out, hT, HB.out⟩
            case measure => simp [intOf]; omega
      have b59 : ((s[p].toNat : Int) == 59) = false := (u8_eq (n := 59)).trans (beq_eq_false_iff_ne.2 c59)
      have hsk := lx_skip hlt hblank c59
      have HSKP := Lib.hid hsk
      clear hblank c59 hsk
      by_cases c40 : s[p].toNat = 40
      · have b40 : ((s[p].toNat : Int) == 40) = true := (u8_eq (n := 40)).trans (by rw [c40]; rfl)
        have HN := Lib.hid (show lexTo (ts ++ [⟨1, [40], p⟩]) (lexL s.data.toList (p + 1)) = R by
          have h0 := lx_tok hR.out hlt (lx_skip hlt (by unfold blankC; rw [c40]; rfl) (by omega)) (by rw [drop_at s p hlt]; exact next_open c40)
          rw [drop_at s p hlt, List.take_succ_cons, List.take_zero, show s[p] = 40 from UInt8.toNat_inj.1 (by rw [c40]; rfl)] at h0
          exact h0)
        clear c40 hR
        go_wp2_with (at_builtin; refine wpList_append_lies _ rfl _ _ 39 rfl w.heap.size 43 i0 _ 3 32 (by kernel_rfl) HI.out.1 HI.out.2.1 HI.out.2.2.1 HI.out.2.2.2 rfl (by decide) _ ts.length (cells3 ts) rfl (toks_later hT.out ((Below.refl _ _).alloc (Nat.le_refl _) _)) _ 1 1 (cells3 [⟨1, [40], p⟩]) rfl rfl ?news ?one (by decide) ?max ?bytes ?base _ rfl ?next)
        case news => first | exact news_tok _ _ _ | (intro j u h; exact h)
        case one => intro v hv; simp [cells3] at hv; rcases hv with rfl | rfl | rfl <;> rfl
        case max => unfold maxLen; omega
        case bytes => omega
        case base => first | (simp; omega) | omega
        case next =>
          intro g cap3 w3 hown hgrow hat _
          have HT2 := Lib.hid (toks_step hown)
          have HB2 := Lib.hid ((HB.out.alloc hB2 _).grown hgrow (by first | (simp; omega) | omega) (toks_above hT.out))
          clear hown hgrow hat
          go_wp2_with fail
          go_roundw
          case rel => exact ⟨p + 1, ts ++ [⟨1, [40], p⟩], by omega, by simp; omega, by go_num, HN, HT2, HB2.out⟩
          case measure => simp [intOf]; omega
      have b40 : ((s[p].toNat : Int) == 40) = false := (u8_eq (n := 40)).trans (beq_eq_false_iff_ne.2 c40)
      by_cases c41 : s[p].toNat = 41
      · have b41 : ((s[p].toNat : Int) == 41) = true := (u8_eq (n := 41)).trans (by rw [c41]; rfl)
        have HN := Lib.hid (show lexTo (ts ++ [⟨2, [41], p⟩]) (lexL s.data.toList (p + 1)) = R by
          have h0 := lx_tok hR.out hlt (lx_skip hlt (by unfold blankC; rw [c41]; rfl) (by omega)) (by rw [drop_at s p hlt]; exact next_close c41)
          rw [drop_at s p hlt, List.take_succ_cons, List.take_zero, show s[p] = 41 from UInt8.toNat_inj.1 (by rw [c41]; rfl)] at h0
          exact h0)
        clear c41 hR
        go_wp2_with (at_builtin; refine wpList_append_lies _ rfl _ _ 39 rfl w.heap.size 43 i0 _ 3 32 (by kernel_rfl) HI.out.1 HI.out.2.1 HI.out.2.2.1 HI.out.2.2.2 rfl (by decide) _ ts.length (cells3 ts) rfl (toks_later hT.out ((Below.refl _ _).alloc (Nat.le_refl _) _)) _ 1 1 (cells3 [⟨2, [41], p⟩]) rfl rfl ?news ?one (by decide) ?max ?bytes ?base _ rfl ?next)
        case news => first | exact news_tok _ _ _ | (intro j u h; exact h)
        case one => intro v hv; simp [cells3] at hv; rcases hv with rfl | rfl | rfl <;> rfl
        case max => unfold maxLen; omega
        case bytes => omega
        case base => first | (simp; omega) | omega
        case next =>
          intro g cap3 w3 hown hgrow hat _
          have HT2 := Lib.hid (toks_step hown)
          have HB2 := Lib.hid ((HB.out.alloc hB2 _).grown hgrow (by first | (simp; omega) | omega) (toks_above hT.out))
          clear hown hgrow hat
          go_wp2_with fail
          go_roundw
          case rel => exact ⟨p + 1, ts ++ [⟨2, [41], p⟩], by omega, by simp; omega, by go_num, HN, HT2, HB2.out⟩
          case measure => simp [intOf]; omega
      have b41 : ((s[p].toNat : Int) == 41) = false := (u8_eq (n := 41)).trans (beq_eq_false_iff_ne.2 c41)
      have HLC := Lib.hid (HPL.out s[p])
      cases cl : letterC s[p] with
      | true =>
        rw [cl] at HLC
        obtain ⟨n, hn⟩ : ∃ n, runL wordC (s.data.toList.drop p) = n := ⟨_, rfl⟩
        have hle := runL_at wordC s p hp
        rw [hn] at hle
        have hn1 : 1 ≤ n := by rw [← hn, drop_at s p hlt, runL_yes (by unfold wordC; rw [cl]; rfl)]; omega
        obtain ⟨E, hE⟩ : ∃ E, p + n = E := ⟨_, rfl⟩
        obtain ⟨c, hc⟩ : ∃ c, (s.data.toList.drop p).take n = c := ⟨_, rfl⟩
        have HE := Lib.hid (show p + runL wordC (s.data.toList.drop p) = E by rw [hn]; exact hE)
        have hsub : IntKind.i64.wrap ((E : Int) - (p : Int)) = (n : Int) := by rw [← hE, show ((p + n : Nat) : Int) - (p : Int) = n by omega]; exact IntWalk.i64_in _ (by omega)
        have hsli : ∀ w', (Instr.slice 9 (.string s) (some (.int .i64 (p : Int))) (some (.int .i64 (E : Int))) none).run Tryd.prog w' = .ok (.string ⟨c.toArray⟩) w' := fun w' => by
          rw [slice_two w' s p E rfl (by omega) (by omega), Lib.extract_eq, ← hE, Nat.add_sub_cancel_left, hc]
        have HLONG := Lib.hid (show 20 < n → R = (ts, some p) from fun h => lx_bad hR.out hlt HSKP.out (by rw [drop_at s p hlt]; exact next_long c40 c41 cl (by rw [← drop_at s p hlt, hn]; exact h)))
        have HSHORT := Lib.hid (show ¬ 20 < n → lexTo (ts ++ [⟨3, c, p⟩]) (lexL s.data.toList E) = R from fun h => by
          have h0 := lx_tok hR.out hlt HSKP.out (k := 3) (n := n) (by rw [drop_at s p hlt, next_word c40 c41 cl (by rw [← drop_at s p hlt, hn]; exact h), ← drop_at s p hlt, hn])
          rw [hc, hE] at h0; exact h0)
        have hpE : p < E := by omega
        have hEs : E ≤ s.size := by omega
        clear hE hc hn hR c40 c41 cl hle
        go_wp2_with fail
        refine (HLC.out _).mono ?_
        rintro e w1 ⟨rfl, rfl⟩
        go_wp2_with fail
        go_loop [7] (fun i => ∃ k : Nat, k ≤ s.size ∧ i = .int .i64 k ∧ Hid (k + runL wordC (s.data.toList.drop k) = E)) (fun i => s.size - (intOf i).toNat)
        case atStart => exact ⟨p, hp, rfl, HE.out⟩
        case round =>
          obtain ⟨k, hk, rfl, hq⟩ := hrel
          by_cases hk2 : k < s.size
          · have hd := hq.out
            rw [drop_at s k hk2] at hd
            have HKL := Lib.hid (HPL.out s[k])
            have HKD := Lib.hid (HPD.out s[k])
            cases d1 : letterC s[k] with
            | true =>
              rw [d1] at HKL
              rw [runL_yes (by unfold wordC; rw [d1]; rfl)] at hd
              have HQ := Lib.hid (show k + 1 + runL wordC (s.data.toList.drop (k + 1)) = E by omega)
              clear hd hq d1 hsub hsli
              go_wp2_with fail
              refine (HKL.out _).mono ?_
              rintro e w1 ⟨rfl, rfl⟩
              go_wp2_with fail
              go_round
              case rel => exact ⟨k + 1, hk2, by go_num, HQ.out⟩
              case measure => simp [intOf]; omega
            | false =>
              rw [d1] at HKL
              cases d2 : isd s[k] with
              | true =>
                rw [d2] at HKD
                rw [runL_yes (by unfold wordC; rw [d1, d2]; rfl)] at hd
                have HQ := Lib.hid (show k + 1 + runL wordC (s.data.toList.drop (k + 1)) = E by omega)
                clear hd hq d1 d2 hsub hsli
                go_wp2_with fail
                refine (HKL.out _).mono ?_
                rintro e w1 ⟨rfl, rfl⟩
                go_wp2_with fail
                refine (HKD.out _).mono ?_
                rintro e w1 ⟨rfl, rfl⟩
                go_wp2_with fail
                go_round
                case rel => exact ⟨k + 1, hk2, by go_num, HQ.out⟩
                case measure => simp [intOf]; omega
              | false =>
                rw [d2] at HKD
                rw [runL_no (by unfold wordC; rw [d1, d2]; rfl)] at hd
                obtain rfl : k = E := by omega
                clear hd hq d1 d2 HE
                go_wp2_with fail
                refine (HKL.out _).mono ?_
                rintro e w1 ⟨rfl, rfl⟩
                go_wp2_with fail
                refine (HKD.out _).mono ?_
                rintro e w1 ⟨rfl, rfl⟩
                by_cases h20 : 20 < n
                · have h20' : 20 < (n : Int) := by omega
                  have HF := Lib.hid (HLONG.out h20)
                  go_wp2
                  go_ret2
                  exact ⟨HB.out, by rw [HF.out]; exact ⟨_, hT.out, rfl⟩⟩
                · have h20' : ¬ 20 < (n : Int) := by omega
                  have HF := Lib.hid (HSHORT.out h20)
                  go_wp2_with (at_builtin; refine wpList_append_lies _ rfl _ _ 39 rfl w.heap.size 43 i0 _ 3 32 (by kernel_rfl) HI.out.1 HI.out.2.1 HI.out.2.2.1 HI.out.2.2.2 rfl (by decide) _ ts.length (cells3 ts) rfl (toks_later hT.out ((Below.refl _ _).alloc (Nat.le_refl _) _)) _ 1 1 (cells3 [⟨3, c, p⟩]) rfl rfl ?news ?one (by decide) ?max ?bytes ?base _ rfl ?next)
                  case news => first | exact news_tok _ _ _ | (intro j u h; exact h)
                  case one => intro v hv; simp [cells3] at hv; rcases hv with rfl | rfl | rfl <;> rfl
                  case max => unfold maxLen; omega
                  case bytes => omega
                  case base => first | (simp; omega) | omega
                  case next =>
                    intro g cap3 w3 hown hgrow hat _
                    have HT2 := Lib.hid (toks_step hown)
                    have HB2 := Lib.hid ((HB.out.alloc hB2 _).grown hgrow (by first | (simp; omega) | omega) (toks_above hT.out))
                    clear hown hgrow hat
                    go_wp2_with fail
                    go_roundw
                    case rel => exact ⟨k, ts ++ [⟨3, c, p⟩], by omega, by simp; omega, rfl, HF, HT2, HB2.out⟩
                    case measure => simp [intOf]; omega
          · have hd := hq.out
            rw [List.drop_of_length_le (by rw [HSL.out]; omega)] at hd
            obtain rfl : k = E := by simpa [runL] using hd
            clear hd hq HE
            by_cases h20 : 20 < n
            · have h20' : 20 < (n : Int) := by omega
              have HF := Lib.hid (HLONG.out h20)
              go_wp2
              go_ret2
              exact ⟨HB.out, by rw [HF.out]; exact ⟨_, hT.out, rfl⟩⟩
            · have h20' : ¬ 20 < (n : Int) := by omega
              have HF := Lib.hid (HSHORT.out h20)
              go_wp2_with (at_builtin; refine wpList_append_lies _ rfl _ _ 39 rfl w.heap.size 43 i0 _ 3 32 (by kernel_rfl) HI.out.1 HI.out.2.1 HI.out.2.2.1 HI.out.2.2.2 rfl (by decide) _ ts.length (cells3 ts) rfl (toks_later hT.out ((Below.refl _ _).alloc (Nat.le_refl _) _)) _ 1 1 (cells3 [⟨3, c, p⟩]) rfl rfl ?news ?one (by decide) ?max ?bytes ?base _ rfl ?next)
              case news => first | exact news_tok _ _ _ | (intro j u h; exact h)
              case one => intro v hv; simp [cells3] at hv; rcases hv with rfl | rfl | rfl <;> rfl
              case max => unfold maxLen; omega
              case bytes => omega
              case base => first | (simp; omega) | omega
              case next =>
                intro g cap3 w3 hown hgrow hat _
                have HT2 := Lib.hid (toks_step hown)
                have HB2 := Lib.hid ((HB.out.alloc hB2 _).grown hgrow (by first | (simp; omega) | omega) (toks_above hT.out))
                clear hown hgrow hat
                go_wp2_with fail
                go_roundw
                case rel => exact ⟨k, ts ++ [⟨3, c, p⟩], by omega, by simp; omega, rfl, HF, HT2, HB2.out⟩
                case measure => simp [intOf]; omega
      | false =>
        rw [cl] at HLC
        have HDC := Lib.hid (HPD.out s[p])
        cases cd : isd s[p] with
        | true =>
          rw [cd] at HDC
          obtain ⟨n, hn⟩ : ∃ n, runL isd (s.data.toList.drop p) = n := ⟨_, rfl⟩
          have hle := runL_at isd s p hp
          rw [hn] at hle
          have hn1 : 1 ≤ n := by rw [← hn, drop_at s p hlt, runL_yes cd]; omega
          obtain ⟨E, hE⟩ : ∃ E, p + n = E := ⟨_, rfl⟩
          obtain ⟨c, hc⟩ : ∃ c, (s.data.toList.drop p).take n = c := ⟨_, rfl⟩
          have HE := Lib.hid (show p + runL isd (s.data.toList.drop p) = E by rw [hn]; exact hE)
          have hsli : ∀ w', (Instr.slice 9 (.string s) (some (.int .i64 (p : Int))) (some (.int .i64 (E : Int))) none).run Tryd.prog w' = .ok (.string ⟨c.toArray⟩) w' := fun w' => by
            rw [slice_two w' s p E rfl (by omega) (by omega), Lib.extract_eq, ← hE, Nat.add_sub_cancel_left, hc]
          have hcl : c.length ≤ s.size := by rw [← hc, List.length_take, List.length_drop, HSL.out]; omega
          have HG := Lib.hid (fun w => HGET.out ⟨c.toArray⟩ w (by show c.toArray.size ≤ maxLen; unfold maxLen; simp; omega))
          rw [show (ByteArray.mk c.toArray).data.toList = c from rfl] at HG
          have HBAD := Lib.hid (show (getB c = none ∨ (((s.data.toList.drop E).head?.map letterC).getD false) = true) → R = (ts, some p) from fun h => lx_bad hR.out hlt HSKP.out (by
            rw [drop_at s p hlt]; exact next_bad c40 c41 cl cd (by rw [← drop_at s p hlt, hn, hc, List.drop_drop, hE]; exact h)))
          have HGOOD := Lib.hid (show getB c ≠ none → (((s.data.toList.drop E).head?.map letterC).getD false) = false → lexTo (ts ++ [⟨4, c, p⟩]) (lexL s.data.toList E) = R from fun h h' => by
            have h0 := lx_tok hR.out hlt HSKP.out (k := 4) (n := n) (by
              rw [drop_at s p hlt, next_num c40 c41 cl cd (by rw [← drop_at s p hlt, hn, hc, List.drop_drop, hE]; rintro (h1 | h1); exact h h1; rw [h'] at h1; cases h1), ← drop_at s p hlt, hn])
            rw [hc, hE] at h0; exact h0)
          have hpE : p < E := by omega
          have hEs : E ≤ s.size := by omega
          clear hE hc hn hR c40 c41 cl cd hle hcl
          go_wp2_with fail
          refine (HLC.out _).mono ?_
          rintro e w1 ⟨rfl, rfl⟩
          go_wp2_with fail
          refine (HDC.out _).mono ?_
          rintro e w1 ⟨rfl, rfl⟩
          go_wp2_with fail
          go_loop [7] (fun i => ∃ k : Nat, k ≤ s.size ∧ i = .int .i64 k ∧ Hid (k + runL isd (s.data.toList.drop k) = E)) (fun i => s.size - (intOf i).toNat)
          case atStart => exact ⟨p, hp, rfl, HE.out⟩
          case round =>
            obtain ⟨k, hk, rfl, hq⟩ := hrel
            by_cases hk2 : k < s.size
            · have hd := hq.out
              rw [drop_at s k hk2] at hd
              have HKD := Lib.hid (HPD.out s[k])
              cases d2 : isd s[k] with
              | true =>
                rw [d2] at HKD
                rw [runL_yes d2] at hd
                have HQ := Lib.hid (show k + 1 + runL isd (s.data.toList.drop (k + 1)) = E by omega)
                clear hd hq d2 hsli
                go_wp2_with fail
                refine (HKD.out _).mono ?_
                rintro e w1 ⟨rfl, rfl⟩
                go_wp2_with fail
                go_round
                case rel => exact ⟨k + 1, hk2, by go_num, HQ.out⟩
                case measure => simp [intOf]; omega
              | false =>
                rw [d2] at HKD
                rw [runL_no d2] at hd
                obtain rfl : k = E := by omega
                clear hd hq d2 HE
                go_wp2_with fail
                refine (HKD.out _).mono ?_
                rintro e w1 ⟨rfl, rfl⟩
                cases hg : getB c with
                | none =>
                  have HF := Lib.hid (HBAD.out (Or.inl hg))
                  rw [getV_none hg] at HG
                  clear hg
                  go_wp2_with fail
                  refine (HG.out _).mono ?_
                  rintro e w1 ⟨rfl, rfl⟩
                  go_wp2
                  go_ret2
                  exact ⟨HB.out, by rw [HF.out]; exact ⟨_, hT.out, rfl⟩⟩
                | some v =>
                  rw [getV_some hg] at HG
                  have HKL := Lib.hid (HPL.out s[k])
                  cases d1 : letterC s[k] with
                  | true =>
                    rw [d1] at HKL
                    have HF := Lib.hid (HBAD.out (Or.inr (by rw [drop_at s k hk2]; exact d1)))
                    clear hg d1
                    go_wp2_with fail
                    refine (HG.out _).mono ?_
                    rintro e w1 ⟨rfl, rfl⟩
                    go_wp2_with fail
                    refine (HKL.out _).mono ?_
                    rintro e w1 ⟨rfl, rfl⟩
                    go_wp2
                    go_ret2
                    exact ⟨HB.out, by rw [HF.out]; exact ⟨_, hT.out, rfl⟩⟩
                  | false =>
                    rw [d1] at HKL
                    have HF := Lib.hid (HGOOD.out (by rw [hg]; simp) (by rw [drop_at s k hk2]; exact d1))
                    clear hg d1
                    go_wp2_with fail
                    refine (HG.out _).mono ?_
                    rintro e w1 ⟨rfl, rfl⟩
                    go_wp2_with fail
                    refine (HKL.out _).mono ?_
                    rintro e w1 ⟨rfl, rfl⟩
                    go_wp2_with (at_builtin; refine wpList_append_lies _ rfl _ _ 39 rfl w.heap.size 43 i0 _ 3 32 (by kernel_rfl) HI.out.1 HI.out.2.1 HI.out.2.2.1 HI.out.2.2.2 rfl (by decide) _ ts.length (cells3 ts) rfl (toks_later hT.out ((Below.refl _ _).alloc (Nat.le_refl _) _)) _ 1 1 (cells3 [⟨4, c, p⟩]) rfl rfl ?news ?one (by decide) ?max ?bytes ?base _ rfl ?next)
                    case news => first | exact news_tok _ _ _ | (intro j u h; exact h)
                    case one => intro v hv; simp [cells3] at hv; rcases hv with rfl | rfl | rfl <;> rfl
                    case max => unfold maxLen; omega
                    case bytes => omega
                    case base => first | (simp; omega) | omega
                    case next =>
                      intro g cap3 w3 hown hgrow hat _
                      have HT2 := Lib.hid (toks_step hown)
                      have HB2 := Lib.hid ((HB.out.alloc hB2 _).grown hgrow (by first | (simp; omega) | omega) (toks_above hT.out))
                      clear hown hgrow hat
                      go_wp2_with fail
                      go_roundw
                      case rel => exact ⟨k, ts ++ [⟨4, c, p⟩], by omega, by simp; omega, rfl, HF, HT2, HB2.out⟩
                      case measure => simp [intOf]; omega
            · have hd := hq.out
              rw [List.drop_of_length_le (by rw [HSL.out]; omega)] at hd
              obtain rfl : k = E := by simpa [runL] using hd
              clear hd hq HE
              cases hg : getB c with
              | none =>
                have HF := Lib.hid (HBAD.out (Or.inl hg))
                rw [getV_none hg] at HG
                clear hg
                go_wp2_with fail
                refine (HG.out _).mono ?_
                rintro e w1 ⟨rfl, rfl⟩
                go_wp2
                go_ret2
                exact ⟨HB.out, by rw [HF.out]; exact ⟨_, hT.out, rfl⟩⟩
              | some v =>
                rw [getV_some hg] at HG
                have HF := Lib.hid (HGOOD.out (by rw [hg]; simp) (by rw [List.drop_of_length_le (by rw [HSL.out]; omega)]; rfl))
                clear hg
                go_wp2_with fail
                refine (HG.out _).mono ?_
                rintro e w1 ⟨rfl, rfl⟩
                go_wp2_with (at_builtin; refine wpList_append_lies _ rfl _ _ 39 rfl w.heap.size 43 i0 _ 3 32 (by kernel_rfl) HI.out.1 HI.out.2.1 HI.out.2.2.1 HI.out.2.2.2 rfl (by decide) _ ts.length (cells3 ts) rfl (toks_later hT.out ((Below.refl _ _).alloc (Nat.le_refl _) _)) _ 1 1 (cells3 [⟨4, c, p⟩]) rfl rfl ?news ?one (by decide) ?max ?bytes ?base _ rfl ?next)
                case news => first | exact news_tok _ _ _ | (intro j u h; exact h)
                case one => intro v hv; simp [cells3] at hv; rcases hv with rfl | rfl | rfl <;> rfl
                case max => unfold maxLen; omega
                case bytes => omega
                case base => first | (simp; omega) | omega
                case next =>
                  intro g cap3 w3 hown hgrow hat _
                  have HT2 := Lib.hid (toks_step hown)
                  have HB2 := Lib.hid ((HB.out.alloc hB2 _).grown hgrow (by first | (simp; omega) | omega) (toks_above hT.out))
                  clear hown hgrow hat
                  go_wp2_with fail
                  go_roundw
                  case rel => exact ⟨k, ts ++ [⟨4, c, p⟩], by omega, by simp; omega, rfl, HF, HT2, HB2.out⟩
                  case measure => simp [intOf]; omega
        | false =>
          rw [cd] at HDC
          have HF := Lib.hid (lx_bad hR.out hlt HSKP.out (by rw [drop_at s p hlt]; exact next_other c40 c41 cl cd))
          clear hR c40 c41 cl cd
          go_wp2_with fail
          refine (HLC.out _).mono ?_
          rintro e w1 ⟨rfl, rfl⟩
          go_wp2_with fail
          refine (HDC.out _).mono ?_
          rintro e w1 ⟨rfl, rfl⟩
          go_wp2
          go_ret2
          exact ⟨HB.out, by rw [HF.out]; exact ⟨_, hT.out, rfl⟩⟩
    · have : p = s.size := by omega
      have hf := lexL_end (l := s.data.toList) (p := p) (by rw [HSL.out]; omega)
      have HF := Lib.hid (show R = (ts, none) by rw [← hR.out, hf]; simp [lexTo])
      clear hf hR
      subst this
      go_wp2
      go_ret2
      exact ⟨HB.out, by rw [HF.out]; exact ⟨_, hT.out, rfl⟩⟩
end Go.Proofs.YtdhfbphliejcdaaDoor

namespace Go.Proofs.YtdhfbphliejcdaaDoor.Dv
open Go.RowKit

theorem toks_cellF {T : TypeId} {B : Nat} {w : World} {v : Value} {ts : List Tok} (h : Toks T B w v ts) : ∃ a cap, v = .slice a ts.length cap ∧ ∀ i (hi : i < ts.length), ∃ g, a = some ⟨g, 0, none⟩ ∧ w.cell? ⟨g, i * 3, none⟩ = some (.int .i64 ts[i].k) ∧ w.cell? ⟨g, i * 3 + 1, none⟩ = some (.string ⟨ts[i].s.toArray⟩) := by
  have h' := h
  obtain ⟨-, ⟨rfl, hn⟩ | ⟨g, cap, cur, rfl, -⟩⟩ := h'
  · exact ⟨none, 0, by rw [hn], fun i hi => by omega⟩
  · refine ⟨_, cap, rfl, fun i hi => ⟨g, rfl, ?_, ?_⟩⟩
    · exact (World.ownsRow.cellAt h (i * 3 + 0) (by omega)).trans (cells3_get _ i hi 0 (by decide))
    · exact (World.ownsRow.cellAt h (i * 3 + 1) (by omega)).trans (cells3_get _ i hi 1 (by decide))
theorem below_drewF {B : Nat} {a w : World} (h : Below B a w) (k : Nat) : Below B a (w.drewN k) := ⟨h.os, h.tape, h.output, h.size, h.block⟩
set_option maxRecDepth 20000 in
set_option maxHeartbeats 4000000 in
theorem showFixed_any (s : ByteArray) (w : World) (hT : Tab w) : Calls Tryd.prog 5 #[.string s] w fun e w' => e = .returned (.bool true) ∧ Below w.heap.size w w' := by
  by_cases hbig : 3000 < s.size
  · have hbig' : 3000 < (s.size : Int) := by omega
    go_enter Tryd.func5, Tryd.ntmps5
    go_wp2
    go_ret
    exact ⟨rfl, Below.refl _ _⟩
  have hs' : ¬ 3000 < (s.size : Int) := by omega
  have hsl : s.data.toList.length = s.size := by simp
  have HP := Lib.hid (parse_any s 4787326403894837248 4787326403894837248 w (by omega))
  have HT := Lib.hid hT
  clear hT
  go_enter Tryd.func5, Tryd.ntmps5
  go_wp2_with fail
  refine HP.out.mono ?_
  intro e w1 hg
  cases hx : parseB s.data.toList 4787326403894837248 4787326403894837248 with
  | error p =>
    rw [hx] at hg
    obtain ⟨hb1, hg⟩ := hg
    have hp0 := parse_big (by omega) hx
    obtain ⟨k, a⟩ := p
    dsimp only at hp0
    subst hp0
    replace hg : e = .returned (.tuple #[.agg #[.slice none 0 0, .int .i64 0, .int .i64 0, .slice none 0 0], .int .i64 2, .int .i64 (a : Nat), .string ⟨#[]⟩]) := hg
    subst hg
    have hba := (Below.refl w1.heap.size w1).alloc (Nat.le_refl _) (.cells #[.slice none 0 0, .int .i64 0, .int .i64 0, .slice none 0 0] 26)
    have HB2 := Lib.hid (hb1.trans (hba.mono hb1.size))
    have HK := Lib.hid (wakes14_any (w1.alloc (.cells #[.slice none 0 0, .int .i64 0, .int .i64 0, .slice none 0 0] 26)) (tab_up HT.out HB2.out))
    clear hb1 hba hx HP
    go_wp2_with fail
    refine HK.out.mono ?_
    rintro e w3 ⟨rfl, hb3⟩
    have HB3 := Lib.hid (HB2.out.trans (hb3.mono HB2.out.size))
    clear hb3 HK
    go_wp2
    go_ret
    exact ⟨rfl, HB3.out⟩
  | ok p =>
  obtain ⟨c, t⟩ := p
  rw [hx] at hg
  obtain ⟨hb1, cv, sv, rfl, hl, hlt, hfi⟩ := hg
  obtain ⟨hrc, hrt⟩ := parseB_right hx
  have hsz := parseB_size hx
  obtain ⟨ts, us, hts, hus, hlen, hsame⟩ := shown_words hx hrc hrt
  have HPB := Lib.hid (parse_shown (deep := 4787326403894837248) (nodes := 4787326403894837248) big_or big_or hrc hrt (by omega))
  have HFL := Lib.hid (file_len hrc hrt)
  have HSF := Lib.hid (show shownF c t = fileL c t from if_pos ⟨hrc, hrt⟩)
  have HTS := Lib.hid hts
  have HUS := Lib.hid hus
  have HLE := Lib.hid hlen
  have HSA := Lib.hid hsame
  have HTL := Lib.hid (show ts.length ≤ 3000 from by
    have h := (lexL_bound (l := s.data.toList) s.data.toList.length 0 (by omega)).2.2
    rw [hts] at h
    dsimp only at h
    omega)
  obtain ⟨a1, c1, rfl, -, -⟩ := hl.out
  obtain ⟨a2, c2, rfl, -, -⟩ := hlt.out
  have hba := (Below.refl w1.heap.size w1).alloc (Nat.le_refl _) (.cells #[.slice a1 c.length c1, .int .i64 t.k, .int .i64 t.i, .slice a2 t.kids.length c2] 26)
  have hn1 := alloc_new w1 (.cells #[.slice a1 c.length c1, .int .i64 t.k, .int .i64 t.i, .slice a2 t.kids.length c2] 26)
  have HB2 := Lib.hid (hb1.trans (hba.mono hb1.size))
  have HC := Lib.hid (hl.later hba).lies
  have HL := Lib.hid (hlt.later hba).lies
  have hz : sizes c + t.size ≤ 3000 := by omega
  clear hl hlt hfi hb1 hba hx HP hrc hrt hts hus hlen hsame hsz
  unfold fv
  go_upto_region 4 with fail
  obtain ⟨W, hW⟩ : ∃ W, W = w1.alloc (.cells #[.slice a1 c.length c1, .int .i64 t.k, .int .i64 t.i, .slice a2 t.kids.length c2] 26) := ⟨_, rfl⟩
  rw [← hW] at HB2 hn1 HC HL
  rw [← hW]
  clear hW
  obtain ⟨y0, y1, y2, y3⟩ := four_cells hn1
  clear hn1
  go_wp2_with fail
  refine (sfile_any c t W _ _ HC.out HL.out (tab_up HT.out HB2.out) (by omega)).mono ?_
  rintro e w3 ⟨rfl, hb3⟩
  rw [HSF.out]
  have HB3 := Lib.hid (HB2.out.trans (hb3.mono HB2.out.size))
  clear hb3 y0 y1 y2 y3 HB2 HC HL
  obtain ⟨X, hX⟩ : ∃ X, fileL c t = X := ⟨_, rfl⟩
  have HXE := Lib.hid hX
  rw [hX] at HPB HFL HUS
  rw [hX]
  clear hX
  go_wp2_with fail
  refine (parse_any ⟨X.toArray⟩ 4787326403894837248 4787326403894837248 w3 (by show X.toArray.size ≤ 10000000; have := HFL.out; rw [List.size_toArray]; omega)).mono ?_
  intro e w5 hg
  rw [show (⟨X.toArray⟩ : ByteArray).data.toList = X from rfl, HPB.out] at hg
  obtain ⟨hb5, cv5, sv5, rfl, hl5, hlt5, hfi⟩ := hg
  obtain ⟨a3, c3, rfl, -, -⟩ := hl5.out
  obtain ⟨a4, c4, rfl, -, -⟩ := hlt5.out
  have hba := (Below.refl w5.heap.size w5).alloc (Nat.le_refl _) (.cells #[.slice a3 c.length c3, .int .i64 t.k, .int .i64 t.i, .slice a4 t.kids.length c4] 26)
  have HF5 := Lib.hid (alloc_new w5 (.cells #[.slice a3 c.length c3, .int .i64 t.k, .int .i64 t.i, .slice a4 t.kids.length c4] 26))
  have HB5 := Lib.hid (HB3.out.trans ((hb5.trans (hba.mono hb5.size)).mono HB3.out.size))
  have HC5 := Lib.hid (hl5.later hba).lies
  have HL5 := Lib.hid (hlt5.later hba).lies
  clear hb5 hl5 hlt5 hfi hba HB3
  unfold fv
  go_upto_region 8 with fail
  obtain ⟨V, hV⟩ : ∃ V, V = w5.alloc (.cells #[.slice a3 c.length c3, .int .i64 t.k, .int .i64 t.i, .slice a4 t.kids.length c4] 26) := ⟨_, rfl⟩
  rw [← hV] at HB5 HC5 HL5 HF5
  rw [← hV]
  clear hV
  go_wp2_with fail
  refine (plex_any s V (by omega)).mono ?_
  intro e w6 hg
  rw [HTS.out] at hg
  obtain ⟨hb6, v6, ht6, rfl⟩ := (show Below V.heap.size V w6 ∧ ∃ v, Toks 43 V.heap.size w6 v ts ∧ e = .returned (.tuple #[v, .int .i64 (-1)]) from hg)
  obtain ⟨a6, c6, rfl, -⟩ := toks_cellF ht6
  have HB6 := Lib.hid (HB5.out.trans (hb6.mono HB5.out.size))
  have HC6 := Lib.hid (HC5.out.keep hb6)
  have HL6 := Lib.hid (HL5.out.keep hb6)
  have HF6 := Lib.hid ((hb6.block _ (hltD HF5.out)).trans HF5.out)
  have HK6 := Lib.hid ht6
  clear hb6 ht6 hg HB5 HC5 HL5 HF5
  go_wp2_with fail
  refine (plex_any ⟨X.toArray⟩ w6 (by show X.toArray.size ≤ 1000000; have := HFL.out; rw [List.size_toArray]; omega)).mono ?_
  intro e w7 hg
  rw [show (⟨X.toArray⟩ : ByteArray).data.toList = X from rfl, HUS.out] at hg
  obtain ⟨hb7, v7, ht7, rfl⟩ := (show Below w6.heap.size w6 w7 ∧ ∃ v, Toks 43 w6.heap.size w7 v us ∧ e = .returned (.tuple #[v, .int .i64 (-1)]) from hg)
  obtain ⟨a7, c7, rfl, -⟩ := toks_cellF ht7
  have HB7 := Lib.hid (HB6.out.trans (hb7.mono HB6.out.size))
  have HC7 := Lib.hid (HC6.out.keep hb7)
  have HL7 := Lib.hid (HL6.out.keep hb7)
  have HK7 := Lib.hid (toks_later HK6.out hb7)
  have HU7 := Lib.hid ht7
  have hf7 := (hb7.block _ (hltD HF6.out)).trans HF6.out
  obtain ⟨y0, y1, y2, y3⟩ := four_cells hf7
  rw [← HLE.out] at HU7 ⊢
  clear hb7 ht7 hg hf7 HB6 HC6 HL6 HK6 HF6
  go_wp2_with fail
  refine (sfile_any c t w7 _ _ HC7.out HL7.out (tab_up HT.out HB7.out) (by omega)).mono ?_
  rintro e w8 ⟨rfl, hb8⟩
  rw [HSF.out, HXE.out]
  have HB8 := Lib.hid (HB7.out.trans (hb8.mono HB7.out.size))
  have HK8 := Lib.hid (toks_later HK7.out hb8)
  have HU8 := Lib.hid (toks_later HU7.out hb8)
  clear hb8 y0 y1 y2 y3 HB7 HC7 HL7 HK7 HU7
  go_wp2_with fail
  go_loopw [16] (fun i wr => ∃ j : Nat, j ≤ ts.length ∧ i = .int .i64 j ∧ Hid (Toks 43 V.heap.size wr (.slice a6 ts.length c6) ts) ∧ Hid (Toks 43 w6.heap.size wr (.slice a7 ts.length c7) us) ∧ Hid (Below w.heap.size w wr)) (fun i _ => ts.length - (intOf i).toNat)
  case atStart => exact ⟨0, Nat.zero_le _, rfl, HK8.out, HU8.out, HB8.out⟩
  case round =>
    clear HK8 HU8 HB8
    obtain ⟨j, hj, rfl, hV, hU, hB⟩ := hrel
    have hjt := HTL.out
    by_cases hlt : j < ts.length
    · have hlu : j < us.length := by have := HLE.out; omega
      obtain ⟨a', cap1, he, hcell⟩ := toks_cellF hV.out
      obtain ⟨g, hg, k0, k1⟩ := hcell j hlt
      cases he
      subst hg
      clear hcell
      obtain ⟨b', cap2, he, hcell⟩ := toks_cellF hU.out
      obtain ⟨g', hg, l0, l1⟩ := hcell j hlu
      rw [HLE.out] at he
      cases he
      subst hg
      clear hcell
      obtain ⟨q1, q2⟩ := HSA.out j hlt hlu
      rw [← q1] at l0
      rw [← q2] at l1
      generalize hk : (ts[j]).k = tk at k0 l0
      generalize hs : (ByteArray.mk (ts[j]).s.toArray) = tss at k1 l1
      clear hk hs q1 q2
      go_wp2_with fail
      go_quiet (fail)
      have HV2 := Lib.hid (toks_later hV.out (below_drewF (Below.refl _ _) nq))
      have HU2 := Lib.hid (toks_later hU.out (below_drewF (Below.refl _ _) nq))
      have HB2 := Lib.hid (below_drewF hB.out nq)
      clear hV hU hB k0 k1 l0 l1
      go_wp2_with fail
      have hw : IntKind.i64.wrap ((j : Int) + 1) = (j : Int) + 1 := IntWalk.i64_in _ (by omega)
      go_roundw
      case rel => exact ⟨j + 1, hlt, by go_num, HV2, HU2, HB2⟩
      case measure => simp [intOf]; omega
    · have HW := Lib.hid (wakes14_any wr (tab_up HT.out hB.out))
      have HB := Lib.hid hB.out
      clear hV hU hB
      go_wp2_with fail
      refine HW.out.mono ?_
      rintro e w9 ⟨rfl, hb9⟩
      have HB9 := Lib.hid (HB.out.trans (hb9.mono HB.out.size))
      clear hb9
      go_wp2
      go_ret
      exact ⟨rfl, HB9.out⟩
end Go.Proofs.YtdhfbphliejcdaaDoor.Dv

namespace Go.Proofs.YtdhfbphliejcdaaDoor
open Go.ChangeShapes Go.WideShapes Go.ChangeAt Go.RowKit

theorem own : ownKnob Tryd.prog.godebug = none := by kernel_rfl
instance instOpenTm : Inhabited (Tm × Value) := ⟨(.mk 0 0 0 0 [], .nilIface)⟩

end Go.Proofs.YtdhfbphliejcdaaDoor

namespace Go.Proofs.YtdhfbphliejcdaaDoor.Dv
open Go.ChangeShapes Go.WideShapes Go.ChangeAt Go.RowKit

instance instOpenTm : Inhabited (Tm × Value) := ⟨(.mk 0 0 [], .nilIface)⟩
end Go.Proofs.YtdhfbphliejcdaaDoor.Dv

namespace Go.Proofs.YtdhfbphliejcdaaDoor
open Go.ChangeShapes Go.WideShapes Go.ChangeAt Go.WideMaps Go.WideElems Go.RowKit

def laidT : List (String × DataW Unit) := Rows.showExactRow.laid
theorem door_met (os : Os) (args : Array Value) : laidMetH Tryd.prog laidT ((World.doorLaid Tryd.prog 400 os).forCall (fun _ _ => 0) ⟨#[], args, []⟩).memory :=
  laidMetH_of_parts3 (fuel := 8) (laidMet_of_run' 8 (by kernel_rfl) (by kernel_rfl)) (by kernel_rfl) (by kernel_rfl)
theorem tab_of_laid {W : World} (h : laidMetH Tryd.prog laidT W) : Lib.TabIs Tryd.prog W "internal/strconv.uint64pow10" .u64 Lib.pow10Tab := by
  have h2 := h.filter fun x => x.1 == "internal/strconv.uint64pow10"
  have e : (laidT.filter fun x => x.1 == "internal/strconv.uint64pow10") = [("internal/strconv.uint64pow10", Lib.tabData .u64 Lib.pow10Tab)] := by kernel_rfl
  rw [e] at h2
  rw [MakeChecks.laidMetH_plain _ _ _ (by kernel_rfl)] at h2
  exact Lib.tabIs_of_head (g := 0) (t := 111) (e := 95) (n := 20) (by kernel_rfl) (by kernel_rfl) Tryd.underlying111 Tryd.underlying95 (by kernel_rfl) (by kernel_rfl) h2
theorem tabS_of_laid {W : World} (h : laidMetH Tryd.prog laidT W) : Tab W := Lib.tabBelow_of_tabIs (tab_of_laid h)
end Go.Proofs.YtdhfbphliejcdaaDoor

namespace Go.Proofs.YtdhfbphliejcdaaDoor
open Go.ChangeShapes Go.WideShapes

def code (l : List Nat) : List Char := l.map Char.ofNat
def joinN : List (List Nat) → List Nat
  | [] => []
  | [a] => a
  | a :: b :: r => a ++ 32 :: joinN (b :: r)

theorem words_one : ∀ a : List Nat, (a.all fun n => Char.ofNat n != Char.ofNat 32) = true → wordsSigns (code a) = [code a]
  | [], _ => rfl
  | n :: a, h => by
    simp only [List.all_cons, Bool.and_eq_true, bne_iff_ne] at h
    have ih := words_one a h.2
    show wordsSigns (Char.ofNat n :: code a) = _
    rw [wordsSigns]
    · rw [ih]; rfl
    · exact h.1
theorem words_more : ∀ (a : List Nat) (r : List Char), (a.all fun n => Char.ofNat n != Char.ofNat 32) = true → wordsSigns (code a ++ Char.ofNat 32 :: r) = code a :: wordsSigns r
  | [], r, _ => by
    show wordsSigns (Char.ofNat 32 :: r) = _
    rw [show Char.ofNat 32 = _ from rfl, wordsSigns]; rfl
  | n :: a, r, h => by
    simp only [List.all_cons, Bool.and_eq_true, bne_iff_ne] at h
    have ih := words_more a r h.2
    show wordsSigns (Char.ofNat n :: (code a ++ Char.ofNat 32 :: r)) = _
    rw [wordsSigns]
    · rw [ih]; rfl
    · exact h.1
theorem words_join : ∀ ws : List (List Nat), ws ≠ [] → (ws.all fun w => w.all fun n => Char.ofNat n != Char.ofNat 32) = true → wordsSigns (code (joinN ws)) = ws.map code
  | [], h, _ => absurd rfl h
  | [a], _, h => by simp only [List.all_cons, List.all_nil, Bool.and_true] at h; exact words_one a h
  | a :: b :: r, _, h => by
    have h' := h
    rw [List.all_cons, Bool.and_eq_true] at h'
    have ih := words_join (b :: r) (by simp) h'.2
    show wordsSigns (code (a ++ 32 :: joinN (b :: r))) = _
    rw [show code (a ++ 32 :: joinN (b :: r)) = code a ++ Char.ofNat 32 :: code (joinN (b :: r)) from by simp [code], words_more a _ h'.1, ih]; rfl

def cutWords : List (List Nat) := [[104, 97, 114, 110, 101, 115, 115],
  [102, 55, 100, 52, 49, 49, 57, 57, 54, 99, 99, 57, 56, 50, 100, 98, 50, 53, 55, 99, 99, 52, 101, 51, 55, 99, 54, 100, 54, 52, 48, 101, 48, 100, 48, 56, 48, 53, 56, 49, 49, 101, 56, 49, 53, 52, 55, 49, 55, 53, 54, 51, 48, 57, 48, 102, 56, 50, 52, 101, 51, 50, 53, 101],
  [99, 117, 116],
  [97, 116],
  [116, 114, 97, 110, 115, 104, 105, 112, 47, 116, 114, 97, 110, 115, 104, 105, 112, 108, 97, 119, 49, 52, 46, 83, 104, 111, 119, 69, 120, 97, 99, 116],
  [116, 114, 97, 110, 115, 104, 105, 112, 47, 116, 114, 97, 110, 115, 104, 105, 112, 108, 97, 119, 49, 52, 46, 83, 104, 111, 119, 66, 97, 99, 107],
  [116, 114, 97, 110, 115, 104, 105, 112, 47, 116, 114, 97, 110, 115, 104, 105, 112, 108, 97, 119, 49, 52, 46, 83, 104, 111, 119, 70, 105, 120, 101, 100],
  [116, 114, 97, 110, 115, 104, 105, 112, 47, 116, 114, 97, 110, 115, 104, 105, 112, 108, 97, 119, 49, 52, 46, 83, 104, 111, 119, 85, 110, 108, 105, 107, 101]]

set_option maxRecDepth 100000 in
theorem cut_words : wordsSigns Tryd.prog.initOrder.toList = cutWords.map code := by
  have h : Tryd.prog.initOrder.toList = code (joinN cutWords) := by
    show (String.ofList (code (joinN cutWords))).toList = _
    exact String.toList_ofList
  rw [h]
  exact words_join cutWords (by simp [cutWords]) (by decide +kernel)

theorem cut_behind : behindMainWord (cutWords.map code) = code [99, 117, 116] :: cutWords.tail.tail.tail.map code := by kernel_rfl
theorem cut_lifts : stripLifts liftWords (code [99, 117, 116] :: cutWords.tail.tail.tail.map code) = ([], code [99, 117, 116] :: cutWords.tail.tail.tail.map code) := by kernel_rfl
theorem cut1 : (code [99, 117, 116] == "gc".toList) = false := by kernel_rfl
theorem cut2 : (code [99, 117, 116] == "spec".toList) = false := by kernel_rfl
theorem cut3 : (code [99, 117, 116] == "cut".toList) = true := by kernel_rfl
theorem cut_all : behindMainWord (wordsSigns Tryd.prog.initOrder.toList) = code [99, 117, 116] :: cutWords.tail.tail.tail.map code := by rw [cut_words, cut_behind]
theorem make_of (P : Program) {c : List Char} {rest : List (List Char)} (h : behindMainWord (wordsSigns P.initOrder.toList) = c :: rest) (h1 : (c == "gc".toList) = false) (h2 : (c == "spec".toList) = false) (h3 : (c == "cut".toList) = true) : P.make = some .cut := by
  unfold Program.make; rw [h]
  simp only [h1, h2, h3, Bool.or_self, Bool.false_eq_true, if_false, Bool.true_or, if_true]
theorem mayEnter_of (P : Program) {c : List Char} {rest : List (List Char)} (h : behindMainWord (wordsSigns P.initOrder.toList) = c :: rest) (h3 : ((stripLifts liftWords (c :: rest)).2.head? == some "cut".toList) = true)
    (h4 : (stripLifts liftWords (c :: rest)).1 = []) (h5 : P.laysLater = false) (h6 : P.bearsReflect = false) (h7 : P.doorFits [] = true) : P.mayEnter = true := by
  unfold Program.mayEnter; rw [h]
  refine Bool.or_eq_true_iff.2 (Or.inr ?_)
  rw [h3, h4, h5, h6, h7]; rfl
theorem row_make : Tryd.prog.make = some .cut := make_of Tryd.prog cut_all cut1 cut2 cut3
theorem row_mayEnter : Tryd.prog.mayEnter = true := mayEnter_of Tryd.prog cut_all (by rw [cut_lifts]; kernel_rfl) (by rw [cut_lifts]) (by kernel_rfl) (by kernel_rfl) (by kernel_rfl)
theorem row_lifts : Tryd.prog.liftsFinal = false := by unfold Program.liftsFinal Program.headLifts; rw [cut_all, cut_lifts]; kernel_rfl
end Go.Proofs.YtdhfbphliejcdaaDoor

namespace Go.Proofs.YtdhfbphliejcdaaDoor.lawShowFixed
open Go.ChangeShapes Go.WideShapes Go.ChangeAt Go.RowKit Go.ChangeMaps

set_option maxRecDepth 100000 in
theorem lifted (os : Os) (started : os.Started) (H : Type) (enc : TypeId × Value → H) :
    ReturnsInHanded {} Tryd.checked os 5 .any (fun w args => (Rows.showFixedSpec.pre enc Tryd.prog Tryd.f5 [] false w args ∧ laidMetH Tryd.prog laidT w) ∧ sizedMet enc Tryd.prog Tryd.f5 (OpenSpec.ofChange Rows.showFixedSpec) false w args)
      (Rows.showFixedSpec.post enc Tryd.prog Tryd.f5 false true false false) := by
  refine returnsInHanded_of_change_and (C := Tryd.checked) (X := fun w _ => laidMetH Tryd.prog laidT w) (fun _ _ _ hh h => h.of_heap hh) own started (by kernel_rfl) Tryd.func5
    (ChangeSpec.witness_shaped (enc := enc) (C := Tryd.checked) (os := os) (X := fun w _ => laidMetH Tryd.prog laidT w) false (World.doorLaid Tryd.prog 400 os) #[.string ⟨#[]⟩] 8 rfl (World.shaped_of_RefB (by kernel_rfl) (by kernel_rfl)) (by kernel_rfl) (by kernel_rfl) (by kernel_rfl) (door_met os _)) ?_
  intro W base args ds gs before hval0 hW _ _ hL _
  have hval : ∀ (j : Nat) t v, Tryd.f5.params[j]? = some t → args[j]? = some v → Value.okWide Tryd.prog W .any base t v := hval0
  have hW' := hW
  obtain ⟨p, q, hA0, hV, rfl, hfz, hnd⟩ := hW
  have hA : DataW.TrodAll enc Tryd.prog W 0 (fun _ => true) true Tryd.f5.params.toList args.toList ds p := hA0
  rw [Tryd.params5] at hA hval
  obtain ⟨v0, vs0, d0, ds0, p0, q0, hargs0, rfl, rfl, h0, r0⟩ := trodAll_cons hA
  obtain ⟨rfl, rfl, rfl⟩ := trodAll_nil r0
  obtain rfl : args = #[v0] := by cases args; simp_all
  obtain ⟨rfl, rfl⟩ := trodVars_none hV
  obtain ⟨a0, rfl, rfl, rfl, w0⟩ := open_string Tryd.underlying9 (hval 0 9 v0 rfl rfl) h0
  clear hA0 hval0
  simp only [List.append_nil] at hW'
  have hT := tabS_of_laid hL
  refine (Dv.showFixed_any a0 W hT).mono fun e W' ⟨he, hb⟩ => ?_
  subst he
  exact ⟨_, rfl, _, _, _, [], _, [], hW', trodAll_cons_mk (shut_bool Tryd.underlying4 _) trodAll_mk0, (trodAll_cons_mk (shut_string Tryd.underlying9 w0) trodAll_mk0), rfl, hb.frame _, fun h => by cases h⟩

theorem closed : joinedFacts Tryd.prog 5 Tryd.f5 Rows.showFixedSpec Rows.showFixedRow = true := by
  unfold joinedFacts
  rw [row_mayEnter, row_lifts, row_make]
  kernel_rfl
theorem showFixed_holds : Rows.ShowFixedSaid :=
  OpenClaim.holds_of_wide 5 Tryd.f5 rfl rfl rfl rfl rfl rfl rfl ⟨rfl, rfl, rfl, rfl, rfl⟩ rfl rfl rfl rfl rfl (by kernel_rfl) Tryd.func5 closed
    (of_decide_eq_true (by kernel_rfl)) (by unfold Func.isWrapper; first | (rw [if_pos (by decide +kernel)]; kernel_rfl) | (rw [if_neg (by decide +kernel)]; exact ⟨rfl, rfl⟩))
    (fun os started H enc _ => lifted os started H enc)
theorem proved : Rows.ShowFixedCardSaid :=
  Claim7.holds_tied_plain_at .later [] [.data, .data, .data] true Rows.showFixedCard.stood.harness true
    showFixed_holds (fun _ h => by cases h) (by kernel_rfl) (fun _ h => by cases h) showFixed_row_tie rfl ⟨rfl, rfl⟩ (by kernel_rfl) rfl
    (fun f fn hf hfn => by
      obtain rfl : f = 5 := Option.some.inj ((show Tryd.prog.funcNamed "tranship/transhiplaw14.ShowFixed" = some 5 by kernel_rfl).symm.trans hf) |>.symm
      obtain rfl : fn = Tryd.f5 := (Option.some.inj (Tryd.func5.symm.trans hfn)).symm
      exact ⟨by kernel_rfl, fun j t ht => by
        rw [Tryd.params5] at ht
        have hm : t ∈ [9] := by simpa using Array.mem_of_getElem? ht
        have hall : ([9].all fun u => !Tryd.prog.wantsStandIn u) = true := by kernel_rfl
        exact (show Tryd.prog.wantsStandIn t = false by simpa using List.all_eq_true.1 hall t hm)⟩)
    (by kernel_rfl)
#print axioms proved
end Go.Proofs.YtdhfbphliejcdaaDoor.lawShowFixed
