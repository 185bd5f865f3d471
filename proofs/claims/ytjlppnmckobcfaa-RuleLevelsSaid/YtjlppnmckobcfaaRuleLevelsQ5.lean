/-
  Facts and contracts that the proof of RuleLevels uses.
-/
import Derived.Test.YtjlppnmckobcfaaRows
import Derived.WalkKit
import Derived.Lib.Hide
import Derived.KernelRfl
import Derived.Deep.RegionWith
import Derived.Deep.RegionHeld3
import Derived.Deep.AppendLies
import Derived.Laws.Rows
import Derived.Laws.IdiomCopy
import Derived.Deep.Slices
import Derived.Deep.QuietTactic
import Derived.BigQuiet
import Derived.Lib.QuietBelow
import Derived.StillTailTactics
import Derived.IntWalk
import Derived.OwnWalk
import Derived.OrdersHeld
import Derived.Deep.DeepCutAuto
import Derived.Deep.RegionLaw
import Derived.Deep.LoopGhost
import Derived.Deep.MidRow
import Derived.Laws.Tables
import Derived.Laws.CopyOwn
import Derived.Laws.CopyRow
import Derived.Deep.RegionHeld
import Derived.ProofKit
import Derived.OpenShut
import Derived.Carry
import Derived.ChangeSlices
import Derived.JoinedOf
import Derived.Test.YtjlppnmckobcfaaRuleLevelsQ4
namespace Go.Proofs.Ytjlppnmckobcfaa
open Go.RowKit

/-- Does premise 1 make another type alike that of premise 0? -/
def cvB (i : Int) (x u2 x2 : Tm) (i2 : Int) : Bool := osB x2 i2 && ((x2.i == i) && sameB x u2)
/-- A judgment and a bool are handed back; where the bool is true, that judgment. -/
def GivesOn (P : Nat → Prop) (X : Jd) (w : World) (e : Ending) (w' : World) : Prop := ∃ (b : Bool) (J : Jd) (su sv sa : Value), e = .returned (.tuple #[jv J su sv sa, .bool b]) ∧ J.fine ∧ (LiesQ w' (fun b => P b ∨ w.heap.size ≤ b) J.u.kids su ∧ LiesQ w' (fun b => P b ∨ w.heap.size ≤ b) J.v.kids sv ∧ LiesQ w' (fun b => P b ∨ w.heap.size ≤ b) J.a.kids sa) ∧ (b = true → J = X) ∧ Kept w w'
def conv1Tr2_0 : Oper := { dst := some 12, op := Go.Op.move (Go.Operand.tmp 4), type := 4, pos := "terms.go:84", after := #[], guard := none }
def conv1Tr2_1 : Oper := { dst := some 13, op := Go.Op.move (Go.Operand.tmp 12), type := 4, pos := "terms.go:84", after := #[{ on := 0, ground := Go.Ground.data }], guard := none }
def conv1Tr2_2 : Oper := { dst := some 14, op := Go.Op.move (Go.Operand.tmp 3), type := 3, pos := "terms.go:84", after := #[{ on := 1, ground := Go.Ground.guard }], guard := some (1, true) }
def conv1Tr2_3 : Oper := { dst := some 15, op := Go.Op.move (Go.Operand.tmp 0), type := 23, pos := "terms.go:84", after := #[{ on := 1, ground := Go.Ground.guard }], guard := some (1, true) }
def conv1Tr2_4 : Oper := { dst := some 16, op := Go.Op.indexAddr 23 (Go.Operand.tmp 15) (Go.Operand.const (Go.Value.int Go.IntKind.i64 0)), type := 0, pos := "terms.go:84", after := #[{ on := 3, ground := Go.Ground.data }, { on := 1, ground := Go.Ground.guard }], guard := some (1, true) }
def conv1Tr2_5 : Oper := { dst := some 17, op := Go.Op.fieldAddr 34 (Go.Operand.tmp 16) 4, type := 0, pos := "terms.go:84", after := #[{ on := 4, ground := Go.Ground.data }, { on := 1, ground := Go.Ground.guard }], guard := some (1, true) }
def conv1Tr2_6 : Oper := { dst := some 18, op := Go.Op.load 3 (Go.Operand.tmp 17), type := 3, pos := "terms.go:84", after := #[{ on := 5, ground := Go.Ground.data }, { on := 1, ground := Go.Ground.guard }], guard := some (1, true) }
def conv1Tr2_7 : Oper := { dst := some 19, op := Go.Op.binOp Go.BinOp.eql 3 (Go.Operand.tmp 14) (Go.Operand.tmp 18) 3, type := 4, pos := "terms.go:84", after := #[{ on := 2, ground := Go.Ground.data }, { on := 6, ground := Go.Ground.data }, { on := 1, ground := Go.Ground.guard }], guard := some (1, true) }
def conv1Tr2_8 : Oper := { dst := some 20, op := Go.Op.pick (Go.Operand.tmp 13) (Go.Operand.tmp 19) (Go.Operand.const (Go.Value.bool false)), type := 4, pos := "terms.go:84", after := #[{ on := 1, ground := Go.Ground.data }, { on := 7, ground := Go.Ground.data }], guard := none }
def conv1Tr2_9 : Oper := { dst := some 21, op := Go.Op.move (Go.Operand.tmp 20), type := 4, pos := "terms.go:84", after := #[{ on := 8, ground := Go.Ground.data }, { on := 1, ground := Go.Ground.chain }], guard := none }
def conv1Tr2_10 : Oper := { dst := some 22, op := Go.Op.move (Go.Operand.tmp 0), type := 23, pos := "terms.go:84", after := #[{ on := 9, ground := Go.Ground.guard }], guard := some (9, true) }
def conv1Tr2_11 : Oper := { dst := some 23, op := Go.Op.indexAddr 23 (Go.Operand.tmp 22) (Go.Operand.const (Go.Value.int Go.IntKind.i64 0)), type := 0, pos := "terms.go:84", after := #[{ on := 10, ground := Go.Ground.data }, { on := 9, ground := Go.Ground.guard }], guard := some (9, true) }
def conv1Tr2_12 : Oper := { dst := some 24, op := Go.Op.fieldAddr 34 (Go.Operand.tmp 23) 3, type := 0, pos := "terms.go:84", after := #[{ on := 11, ground := Go.Ground.data }, { on := 9, ground := Go.Ground.guard }], guard := some (9, true) }
def conv1Tr2_13 : Oper := { dst := some 25, op := Go.Op.load 32 (Go.Operand.tmp 24), type := 32, pos := "terms.go:84", after := #[{ on := 12, ground := Go.Ground.data }, { on := 9, ground := Go.Ground.guard }], guard := some (9, true) }
def conv1Tr2_14 : Oper := { dst := some 26, op := Go.Op.move (Go.Operand.tmp 0), type := 23, pos := "terms.go:84", after := #[{ on := 9, ground := Go.Ground.guard }], guard := some (9, true) }
def conv1Tr2_15 : Oper := { dst := some 27, op := Go.Op.indexAddr 23 (Go.Operand.tmp 26) (Go.Operand.const (Go.Value.int Go.IntKind.i64 1)), type := 0, pos := "terms.go:84", after := #[{ on := 14, ground := Go.Ground.data }, { on := 9, ground := Go.Ground.guard }], guard := some (9, true) }
def conv1Tr2_16 : Oper := { dst := some 28, op := Go.Op.fieldAddr 34 (Go.Operand.tmp 27) 1, type := 0, pos := "terms.go:84", after := #[{ on := 15, ground := Go.Ground.data }, { on := 9, ground := Go.Ground.guard }], guard := some (9, true) }
def conv1Tr2_17 : Oper := { dst := some 29, op := Go.Op.load 32 (Go.Operand.tmp 28), type := 32, pos := "terms.go:84", after := #[{ on := 16, ground := Go.Ground.data }, { on := 9, ground := Go.Ground.guard }], guard := some (9, true) }
def conv1Tr2_18 : Oper := { dst := some 30, op := Go.Op.call { callee := Go.Callee.value (Go.Operand.func 45), args := #[Go.Operand.tmp 25, Go.Operand.tmp 29], argTypes := #[32, 32] }, type := 4, pos := "terms.go:84", after := #[{ on := 13, ground := Go.Ground.data }, { on := 17, ground := Go.Ground.data }, { on := 9, ground := Go.Ground.chain }, { on := 9, ground := Go.Ground.guard }], guard := some (9, true) }
def conv1Tr2_19 : Oper := { dst := some 31, op := Go.Op.pick (Go.Operand.tmp 21) (Go.Operand.tmp 30) (Go.Operand.const (Go.Value.bool false)), type := 4, pos := "terms.go:84", after := #[{ on := 9, ground := Go.Ground.data }, { on := 18, ground := Go.Ground.data }], guard := none }
def conv1Tr2_20 : Oper := { dst := some 2, op := Go.Op.assign (Go.Operand.tmp 31), type := 4, pos := "terms.go:84", after := #[{ on := 19, ground := Go.Ground.data }, { on := 18, ground := Go.Ground.chain }, { on := 0, ground := Go.Ground.phase }, { on := 1, ground := Go.Ground.phase }, { on := 2, ground := Go.Ground.phase }, { on := 3, ground := Go.Ground.phase }, { on := 4, ground := Go.Ground.phase }, { on := 5, ground := Go.Ground.phase }, { on := 6, ground := Go.Ground.phase }, { on := 7, ground := Go.Ground.phase }, { on := 8, ground := Go.Ground.phase }, { on := 9, ground := Go.Ground.phase }, { on := 10, ground := Go.Ground.phase }, { on := 11, ground := Go.Ground.phase }, { on := 12, ground := Go.Ground.phase }, { on := 13, ground := Go.Ground.phase }, { on := 14, ground := Go.Ground.phase }, { on := 15, ground := Go.Ground.phase }, { on := 16, ground := Go.Ground.phase }, { on := 17, ground := Go.Ground.phase }, { on := 18, ground := Go.Ground.phase }, { on := 19, ground := Go.Ground.phase }], guard := none }
set_option maxRecDepth 20000 in
set_option maxHeartbeats 4000000 in
theorem conv1T_any (i : Int) (i2 : Int) (u : Tm) (v : Tm) (x : Tm) (u2 : Tm) (v2 : Tm) (x2 : Tm) (P : Nat → Prop) (w : World) (bon oon capon : Nat) (Con : Array Value) (Ton : TypeId) (fron : Nat × Nat) (su : Value) (sv : Value) (sx : Value) (su2 : Value) (sv2 : Value) (sx2 : Value) (hfu : u.fine) (hlu : LiesQ w P u.kids su) (hfv : v.fine) (hlv : LiesQ w P v.kids sv) (hfx : x.fine) (hlx : LiesQ w P x.kids sx) (hri : I64 i) (hfu2 : u2.fine) (hlu2 : LiesQ w P u2.kids su2) (hfv2 : v2.fine) (hlv2 : LiesQ w P v2.kids sv2) (hfx2 : x2.fine) (hlx2 : LiesQ w P x2.kids sx2) (hri2 : I64 i2) (hbon : w.heap[bon]? = some (.cells Con Ton fron)) (hson0 : (Con.toList.drop oon).take 17 = [.bool false, .int .i64 u.k, .int .i64 u.i, .int .i64 u.j, .int .i64 u.n, su, .int .i64 v.k, .int .i64 v.i, .int .i64 v.j, .int .i64 v.n, sv, .int .i64 x.k, .int .i64 x.i, .int .i64 x.j, .int .i64 x.n, sx, .int .i64 i]) (hson1 : (Con.toList.drop (oon + 17)).take 17 = [.bool true, .int .i64 u2.k, .int .i64 u2.i, .int .i64 u2.j, .int .i64 u2.n, su2, .int .i64 v2.k, .int .i64 v2.i, .int .i64 v2.j, .int .i64 v2.n, sv2, .int .i64 x2.k, .int .i64 x2.i, .int .i64 x2.j, .int .i64 x2.n, sx2, .int .i64 i2]) (hx0 : 0 ≤ x2.i) (hx1 : x2.i ≤ 2147483647) (hxi : (x2.i == i) = true) : Calls Try.prog 64 #[.slice (some ⟨bon, oon, none⟩) 2 capon] w (fun e w' => e = .returned (.bool (cvB i x u2 x2 i2)) ∧ Kept w w') := by
  have Gu := Lib.hid hfu
  clear hfu
  obtain ⟨au, cu, Su, rfl, -⟩ := hlu.out
  have Gv := Lib.hid hfv
  clear hfv
  obtain ⟨av, cv, Sv, rfl, -⟩ := hlv.out
  have Gx := Lib.hid hfx
  clear hfx
  obtain ⟨ax, cx, Sx, rfl, -⟩ := hlx.out
  have Ri := Lib.hid hri
  clear hri
  have Gu2 := Lib.hid hfu2
  clear hfu2
  obtain ⟨au2, cu2, Su2, rfl, -⟩ := hlu2.out
  have Gv2 := Lib.hid hfv2
  clear hfv2
  obtain ⟨av2, cv2, Sv2, rfl, -⟩ := hlv2.out
  have Gx2 := Lib.hid hfx2
  clear hfx2
  obtain ⟨ax2, cx2, Sx2, rfl, -⟩ := hlx2.out
  have Ri2 := Lib.hid hri2
  clear hri2
  have HNon : Hid (bon < w.heap.size) := block_lt hbon
  have HBon := Lib.hid hbon
  have HSon0 := Lib.hid hson0
  have HSon1 := Lib.hid hson1
  clear hbon hson0 hson1
  have HX0 := Lib.hid hx0
  have HX1 := Lib.hid hx1
  clear hx0 hx1
  have EXI := Lib.hid hxi
  obtain ⟨dj, dj1, dj2⟩ := under_of 34 (by kernel_rfl)
  obtain ⟨du, hu1, hu2⟩ := under_term
  go_enter Try.func64, Try.ntmps64
  go_upto_region 1 with fail
  refine at_code (fun V0 hV0 => ?_)
  have k1 : Kept w V0 := by rw [← hV0]; exact kept_refl _
  have Z0 : Hid (V0.heap.size = w.heap.size + 0) := by show _ = _; rw [← hV0]; rfl
  clear hV0
  have Kk3 := Lib.hid k1
  clear k1
  have HLu : Hid (LiesQ V0 (Par w V0.heap.size [] P) u.kids _) := (par_in _ _ hlu).later Kk3.out
  clear hlu
  have HLv : Hid (LiesQ V0 (Par w V0.heap.size [] P) v.kids _) := (par_in _ _ hlv).later Kk3.out
  clear hlv
  have HLx : Hid (LiesQ V0 (Par w V0.heap.size [] P) x.kids _) := (par_in _ _ hlx).later Kk3.out
  clear hlx
  have HLu2 : Hid (LiesQ V0 (Par w V0.heap.size [] P) u2.kids _) := (par_in _ _ hlu2).later Kk3.out
  clear hlu2
  have HLv2 : Hid (LiesQ V0 (Par w V0.heap.size [] P) v2.kids _) := (par_in _ _ hlv2).later Kk3.out
  clear hlv2
  have HLx2 : Hid (LiesQ V0 (Par w V0.heap.size [] P) x2.kids _) := (par_in _ _ hlx2).later Kk3.out
  clear hlx2
  have HBon := Lib.hid (blk_at HBon.out Kk3.out)
  have ld4 := partN_cell (r := V0.heap.size) HBon.out trivial (oon) (.bool false) (row_cellW HSon0.out 0 (by decide))
  have ld5 := partN_cell (r := V0.heap.size) HBon.out trivial (oon + 16) (.int .i64 i) (row_cellW HSon0.out 16 (by decide))
  have ld6 := partN_cell (r := V0.heap.size) HBon.out trivial (oon + 17) (.bool true) (row_cellW HSon1.out 0 (by decide))
  have ld7 := partN_cell (r := V0.heap.size) HBon.out trivial (oon + 17 + 16) (.int .i64 i2) (row_cellW HSon1.out 16 (by decide))
  have kvV0 : SeesN V0 V0.heap.size V0 := seesN_kept _ (kept_refl _)
  go_wp2_with (refine stop_load 34 (.tmp 7) rfl ?_)
  intro _
  refine wpList_load_part (bon) (oon + 17) 34 (.tmp 7) #[.bool true, .int .i64 u2.k, .int .i64 u2.i, .int .i64 u2.j, .int .i64 u2.n, (.slice au2 u2.kids.length cu2), .int .i64 v2.k, .int .i64 v2.i, .int .i64 v2.j, .int .i64 v2.n, (.slice av2 v2.kids.length cv2), .int .i64 x2.k, .int .i64 x2.i, .int .i64 x2.j, .int .i64 x2.n, (.slice ax2 x2.kids.length cx2), .int .i64 i2] dj HBon.out (by rfl) rfl (by rfl) (row_subW HSon1.out 0 17 (by decide)) dj1 (by cases dj <;> first | rfl | exact dj2) (by kernel_rfl) ?_
  go_wp2_with fail
  clear kvV0
  refine (aretypes1_any i2 u2 v2 x2 (Par w V0.heap.size [] P) V0 ((.slice au2 u2.kids.length cu2)) ((.slice av2 v2.kids.length cv2)) ((.slice ax2 x2.kids.length cx2)) Gu2.out HLu2.out Gv2.out HLv2.out Gx2.out HLx2.out Ri2.out HX0.out HX1.out).mono ?_
  obtain ⟨rb11, hb10⟩ : ∃ qb, (osB x2 i2) = qb := ⟨_, rfl⟩
  rw [hb10]
  have Hhb10 := Lib.hid hb10
  clear hb10
  rintro e w8 ⟨rfl, k9⟩
  have Kk12 := Lib.hid k9
  clear k9
  cases rb11 with
  | false =>
    have kvV0 : SeesN V0 V0.heap.size w8 := seesN_kept _ Kk12.out
    go_wp2_with fail
    clear kvV0
    obtain ⟨W13, h14⟩ : ∃ x, World.drew w8 = x := ⟨_, rfl⟩
    have k15 : Kept w8 W13 := by rw [← h14]; exact kept_drew (kept_refl _)
    have Kk16 := Lib.hid k15
    clear k15
    refine wp_region_held_drew (S := SeesN W13 V0.heap.size) (by kernel_rfl) ?_ (fun hHeld => ?_)
    · (try dsimp only)
      rw [h14]
      exact seesN_kept _ (kept_refl _)
    rw [h14] at hHeld ⊢
    clear h14
    refine take_at 0 12 conv1Tr2_0 (v := ?_) (Or.inl ⟨by rfl, ?_⟩) ?_
    rotate_left 1
    · ((intro w hSw; (try dsimp only at hSw); unfold conv1Tr2_0; go_simp) <;> with_reducible rfl)
    (try simp only [Act.put, List.setIfInBounds_toArray, List.set_cons_zero, List.set_cons_succ])
    refine take_at 1 13 conv1Tr2_1 (v := ?_) (Or.inl ⟨by rfl, ?_⟩) ?_
    rotate_left 1
    · ((intro w hSw; (try dsimp only at hSw); unfold conv1Tr2_1; go_simp) <;> with_reducible rfl)
    (try simp only [Act.put, List.setIfInBounds_toArray, List.set_cons_zero, List.set_cons_succ])
    refine take_at 2 14 conv1Tr2_2 (v := undef) (Or.inr ⟨by rfl, rfl⟩) ?_
    (try simp only [Act.put, List.setIfInBounds_toArray, List.set_cons_zero, List.set_cons_succ])
    refine take_at 3 15 conv1Tr2_3 (v := undef) (Or.inr ⟨by rfl, rfl⟩) ?_
    (try simp only [Act.put, List.setIfInBounds_toArray, List.set_cons_zero, List.set_cons_succ])
    refine take_at 4 16 conv1Tr2_4 (v := undef) (Or.inr ⟨by rfl, rfl⟩) ?_
    (try simp only [Act.put, List.setIfInBounds_toArray, List.set_cons_zero, List.set_cons_succ])
    refine take_at 5 17 conv1Tr2_5 (v := undef) (Or.inr ⟨by rfl, rfl⟩) ?_
    (try simp only [Act.put, List.setIfInBounds_toArray, List.set_cons_zero, List.set_cons_succ])
    refine take_at 6 18 conv1Tr2_6 (v := undef) (Or.inr ⟨by rfl, rfl⟩) ?_
    (try simp only [Act.put, List.setIfInBounds_toArray, List.set_cons_zero, List.set_cons_succ])
    refine take_at 7 19 conv1Tr2_7 (v := undef) (Or.inr ⟨by rfl, rfl⟩) ?_
    (try simp only [Act.put, List.setIfInBounds_toArray, List.set_cons_zero, List.set_cons_succ])
    refine take_at 8 20 conv1Tr2_8 (v := ?_) (Or.inl ⟨by rfl, ?_⟩) ?_
    rotate_left 1
    · ((intro w hSw; (try dsimp only at hSw); unfold conv1Tr2_8; go_simp) <;> with_reducible rfl)
    (try simp only [Act.put, List.setIfInBounds_toArray, List.set_cons_zero, List.set_cons_succ])
    refine take_at 9 21 conv1Tr2_9 (v := ?_) (Or.inl ⟨by rfl, ?_⟩) ?_
    rotate_left 1
    · ((intro w hSw; (try dsimp only at hSw); unfold conv1Tr2_9; go_simp) <;> with_reducible rfl)
    (try simp only [Act.put, List.setIfInBounds_toArray, List.set_cons_zero, List.set_cons_succ])
    refine take_at 10 22 conv1Tr2_10 (v := undef) (Or.inr ⟨by rfl, rfl⟩) ?_
    (try simp only [Act.put, List.setIfInBounds_toArray, List.set_cons_zero, List.set_cons_succ])
    refine take_at 11 23 conv1Tr2_11 (v := undef) (Or.inr ⟨by rfl, rfl⟩) ?_
    (try simp only [Act.put, List.setIfInBounds_toArray, List.set_cons_zero, List.set_cons_succ])
    refine take_at 12 24 conv1Tr2_12 (v := undef) (Or.inr ⟨by rfl, rfl⟩) ?_
    (try simp only [Act.put, List.setIfInBounds_toArray, List.set_cons_zero, List.set_cons_succ])
    refine take_at 13 25 conv1Tr2_13 (v := undef) (Or.inr ⟨by rfl, rfl⟩) ?_
    (try simp only [Act.put, List.setIfInBounds_toArray, List.set_cons_zero, List.set_cons_succ])
    refine take_at 14 26 conv1Tr2_14 (v := undef) (Or.inr ⟨by rfl, rfl⟩) ?_
    (try simp only [Act.put, List.setIfInBounds_toArray, List.set_cons_zero, List.set_cons_succ])
    refine take_at 15 27 conv1Tr2_15 (v := undef) (Or.inr ⟨by rfl, rfl⟩) ?_
    (try simp only [Act.put, List.setIfInBounds_toArray, List.set_cons_zero, List.set_cons_succ])
    refine take_at 16 28 conv1Tr2_16 (v := undef) (Or.inr ⟨by rfl, rfl⟩) ?_
    (try simp only [Act.put, List.setIfInBounds_toArray, List.set_cons_zero, List.set_cons_succ])
    refine take_at 17 29 conv1Tr2_17 (v := undef) (Or.inr ⟨by rfl, rfl⟩) ?_
    (try simp only [Act.put, List.setIfInBounds_toArray, List.set_cons_zero, List.set_cons_succ])
    refine take_at 18 30 conv1Tr2_18 (v := undef) (Or.inr ⟨by rfl, rfl⟩) ?_
    (try simp only [Act.put, List.setIfInBounds_toArray, List.set_cons_zero, List.set_cons_succ])
    refine take_at 19 31 conv1Tr2_19 (v := ?_) (Or.inl ⟨by rfl, ?_⟩) ?_
    rotate_left 1
    · ((intro w hSw; (try dsimp only at hSw); unfold conv1Tr2_19; go_simp) <;> with_reducible rfl)
    (try simp only [Act.put, List.setIfInBounds_toArray, List.set_cons_zero, List.set_cons_succ])
    refine take_at 20 2 conv1Tr2_20 (v := ?_) (Or.inl ⟨by rfl, ?_⟩) ?_
    rotate_left 1
    · ((intro w hSw; (try dsimp only at hSw); unfold conv1Tr2_20; go_simp) <;> with_reducible rfl)
    (try simp only [Act.put, List.setIfInBounds_toArray, List.set_cons_zero, List.set_cons_succ])
    refine wpAnyH_done (by kernel_rfl) ?_ _
    clear hHeld
    have kvV0 : SeesN V0 V0.heap.size W13 := seesN_kept _ (kept_trans Kk12.out Kk16.out)
    go_wp2
    go_ret
    exact ⟨ret_bool (Eq.symm (show cvB i x u2 x2 i2 = false from by unfold cvB; rw [Hhb10.out, EXI.out]; rfl)), (kept_trans Kk3.out (kept_trans Kk12.out Kk16.out))⟩
  | true =>
    have kvV0 : SeesN V0 V0.heap.size w8 := seesN_kept _ Kk12.out
    go_wp2_with fail
    clear kvV0
    obtain ⟨W17, h18⟩ : ∃ x, World.drew w8 = x := ⟨_, rfl⟩
    have k19 : Kept w8 W17 := by rw [← h18]; exact kept_drew (kept_refl _)
    have Kk20 := Lib.hid k19
    clear k19
    refine wp_region_held_drew (S := SeesN W17 V0.heap.size) (by kernel_rfl) ?_ (fun hHeld => ?_)
    · (try dsimp only)
      rw [h18]
      exact seesN_kept _ (kept_refl _)
    rw [h18] at hHeld ⊢
    clear h18
    refine take_at 0 12 conv1Tr2_0 (v := ?_) (Or.inl ⟨by rfl, ?_⟩) ?_
    rotate_left 1
    · ((intro w hSw; (try dsimp only at hSw); unfold conv1Tr2_0; go_simp) <;> with_reducible rfl)
    (try simp only [Act.put, List.setIfInBounds_toArray, List.set_cons_zero, List.set_cons_succ])
    refine take_at 1 13 conv1Tr2_1 (v := ?_) (Or.inl ⟨by rfl, ?_⟩) ?_
    rotate_left 1
    · ((intro w hSw; (try dsimp only at hSw); unfold conv1Tr2_1; go_simp) <;> with_reducible rfl)
    (try simp only [Act.put, List.setIfInBounds_toArray, List.set_cons_zero, List.set_cons_succ])
    refine take_at 2 14 conv1Tr2_2 (v := ?_) (Or.inl ⟨by rfl, ?_⟩) ?_
    rotate_left 1
    · ((intro w hSw; (try dsimp only at hSw); unfold conv1Tr2_2; go_simp) <;> with_reducible rfl)
    (try simp only [Act.put, List.setIfInBounds_toArray, List.set_cons_zero, List.set_cons_succ])
    refine take_at 3 15 conv1Tr2_3 (v := ?_) (Or.inl ⟨by rfl, ?_⟩) ?_
    rotate_left 1
    · ((intro w hSw; (try dsimp only at hSw); unfold conv1Tr2_3; go_simp) <;> with_reducible rfl)
    (try simp only [Act.put, List.setIfInBounds_toArray, List.set_cons_zero, List.set_cons_succ])
    refine take_at 4 16 conv1Tr2_4 (v := ?_) (Or.inl ⟨by rfl, ?_⟩) ?_
    rotate_left 1
    · ((intro w hSw; (try dsimp only at hSw); unfold conv1Tr2_4; go_simp) <;> with_reducible rfl)
    (try simp only [Act.put, List.setIfInBounds_toArray, List.set_cons_zero, List.set_cons_succ])
    refine take_at 5 17 conv1Tr2_5 (v := ?_) (Or.inl ⟨by rfl, ?_⟩) ?_
    rotate_left 1
    · ((intro w hSw; (try dsimp only at hSw); unfold conv1Tr2_5; go_simp) <;> with_reducible rfl)
    (try simp only [Act.put, List.setIfInBounds_toArray, List.set_cons_zero, List.set_cons_succ])
    refine take_at 6 18 conv1Tr2_6 (v := ?_) (Or.inl ⟨by rfl, ?_⟩) ?_
    rotate_left 1
    · ((intro w hSw; (try dsimp only at hSw); have qV0 := seesN_of (kept_trans Kk12.out Kk20.out) hSw; unfold conv1Tr2_6; go_simp) <;> with_reducible rfl)
    (try simp only [Act.put, List.setIfInBounds_toArray, List.set_cons_zero, List.set_cons_succ])
    refine take_at 7 19 conv1Tr2_7 (v := ?_) (Or.inl ⟨by rfl, ?_⟩) ?_
    rotate_left 1
    · ((intro w hSw; (try dsimp only at hSw); unfold conv1Tr2_7; go_simp) <;> with_reducible rfl)
    (try simp only [Act.put, List.setIfInBounds_toArray, List.set_cons_zero, List.set_cons_succ])
    refine take_at 8 20 conv1Tr2_8 (v := ?_) (Or.inl ⟨by rfl, ?_⟩) ?_
    rotate_left 1
    · ((intro w hSw; (try dsimp only at hSw); unfold conv1Tr2_8; go_simp) <;> with_reducible rfl)
    (try simp only [Act.put, List.setIfInBounds_toArray, List.set_cons_zero, List.set_cons_succ])
    refine take_at 9 21 conv1Tr2_9 (v := ?_) (Or.inl ⟨by rfl, ?_⟩) ?_
    rotate_left 1
    · ((intro w hSw; (try dsimp only at hSw); unfold conv1Tr2_9; go_simp) <;> with_reducible rfl)
    (try simp only [Act.put, List.setIfInBounds_toArray, List.set_cons_zero, List.set_cons_succ])
    refine take_at 10 22 conv1Tr2_10 (v := ?_) (Or.inl ⟨by rfl, ?_⟩) ?_
    rotate_left 1
    · ((intro w hSw; (try dsimp only at hSw); unfold conv1Tr2_10; go_simp) <;> with_reducible rfl)
    (try simp only [Act.put, List.setIfInBounds_toArray, List.set_cons_zero, List.set_cons_succ])
    refine take_at 11 23 conv1Tr2_11 (v := ?_) (Or.inl ⟨by rfl, ?_⟩) ?_
    rotate_left 1
    · ((intro w hSw; (try dsimp only at hSw); unfold conv1Tr2_11; go_simp) <;> with_reducible rfl)
    (try simp only [Act.put, List.setIfInBounds_toArray, List.set_cons_zero, List.set_cons_succ])
    refine take_at 12 24 conv1Tr2_12 (v := ?_) (Or.inl ⟨by rfl, ?_⟩) ?_
    rotate_left 1
    · ((intro w hSw; (try dsimp only at hSw); unfold conv1Tr2_12; go_simp) <;> with_reducible rfl)
    (try simp only [Act.put, List.setIfInBounds_toArray, List.set_cons_zero, List.set_cons_succ])
    refine take_at 13 25 conv1Tr2_13 (yields_part (bon) (oon + 11) 32 (.tmp 24) #[.int .i64 x.k, .int .i64 x.i, .int .i64 x.j, .int .i64 x.n, (.slice ax x.kids.length cx)] du (fun _ h => seesN_blk HBon.out trivial (seesN_of (kept_trans Kk12.out Kk20.out) h)) (by rfl) rfl (by rfl) (row_subW HSon0.out 11 5 (by decide)) hu1 (by cases du <;> first | rfl | exact hu2) size_term) ?_
    (try simp only [Act.put, List.setIfInBounds_toArray, List.set_cons_zero, List.set_cons_succ])
    refine take_at 14 26 conv1Tr2_14 (v := ?_) (Or.inl ⟨by rfl, ?_⟩) ?_
    rotate_left 1
    · ((intro w hSw; (try dsimp only at hSw); unfold conv1Tr2_14; go_simp) <;> with_reducible rfl)
    (try simp only [Act.put, List.setIfInBounds_toArray, List.set_cons_zero, List.set_cons_succ])
    refine take_at 15 27 conv1Tr2_15 (v := ?_) (Or.inl ⟨by rfl, ?_⟩) ?_
    rotate_left 1
    · ((intro w hSw; (try dsimp only at hSw); unfold conv1Tr2_15; go_simp) <;> with_reducible rfl)
    (try simp only [Act.put, List.setIfInBounds_toArray, List.set_cons_zero, List.set_cons_succ])
    refine take_at 16 28 conv1Tr2_16 (v := ?_) (Or.inl ⟨by rfl, ?_⟩) ?_
    rotate_left 1
    · ((intro w hSw; (try dsimp only at hSw); unfold conv1Tr2_16; go_simp) <;> with_reducible rfl)
    (try simp only [Act.put, List.setIfInBounds_toArray, List.set_cons_zero, List.set_cons_succ])
    refine take_at 17 29 conv1Tr2_17 (yields_part (bon) (oon + 17 + 1) 32 (.tmp 28) #[.int .i64 u2.k, .int .i64 u2.i, .int .i64 u2.j, .int .i64 u2.n, (.slice au2 u2.kids.length cu2)] du (fun _ h => seesN_blk HBon.out trivial (seesN_of (kept_trans Kk12.out Kk20.out) h)) (by rfl) rfl (by rfl) (row_subW HSon1.out 1 5 (by decide)) hu1 (by cases du <;> first | rfl | exact hu2) size_term) ?_
    (try simp only [Act.put, List.setIfInBounds_toArray, List.set_cons_zero, List.set_cons_succ])
    refine wpAnyH_ready (rs := [18]) (by kernel_rfl) (by simp) ?_
    refine AllReadyH.cons (o := conv1Tr2_18) rfl (fun K hK => ?_) ?_
    · unfold conv1Tr2_18
      go_simp
      refine (same_any x u2 _ ((.slice ax x.kids.length cx)) ((.slice au2 u2.kids.length cu2)) (HLx.out.later (kept_trans Kk12.out Kk20.out)).lies (HLu2.out.later (kept_trans Kk12.out Kk20.out)).lies).mono ?_
      obtain ⟨rb24, hb23⟩ : ∃ qb, (sameB x u2) = qb := ⟨_, rfl⟩
      rw [hb23]
      have Hhb23 := Lib.hid hb23
      clear hb23
      rintro e w21 ⟨rfl, k22⟩
      have Kk25 := Lib.hid k22
      clear k22
      cases rb24 with
      | false =>
        clear hHeld
        refine hK.out _ _ (seesN_kept _ Kk25.out) (fun hHeld => ?_)
        clear hK K
        (try simp only [Act.put, List.setIfInBounds_toArray, List.set_cons_zero, List.set_cons_succ])
        refine take_at 19 31 conv1Tr2_19 (v := ?_) (Or.inl ⟨by rfl, ?_⟩) ?_
        rotate_left 1
        · ((intro w hSw; (try dsimp only at hSw); unfold conv1Tr2_19; go_simp) <;> with_reducible rfl)
        (try simp only [Act.put, List.setIfInBounds_toArray, List.set_cons_zero, List.set_cons_succ])
        refine take_at 20 2 conv1Tr2_20 (v := ?_) (Or.inl ⟨by rfl, ?_⟩) ?_
        rotate_left 1
        · ((intro w hSw; (try dsimp only at hSw); unfold conv1Tr2_20; go_simp) <;> with_reducible rfl)
        (try simp only [Act.put, List.setIfInBounds_toArray, List.set_cons_zero, List.set_cons_succ])
        refine wpAnyH_done (by kernel_rfl) ?_ _
        clear hHeld
        have kvV0 : SeesN V0 V0.heap.size w21 := seesN_kept _ (kept_trans Kk12.out (kept_trans Kk20.out Kk25.out))
        go_wp2
        go_ret
        exact ⟨ret_bool (Eq.symm (show cvB i x u2 x2 i2 = false from by unfold cvB; rw [Hhb10.out, EXI.out, Hhb23.out]; rfl)), (kept_trans Kk3.out (kept_trans Kk12.out (kept_trans Kk20.out Kk25.out)))⟩
      | true =>
        clear hHeld
        refine hK.out _ _ (seesN_kept _ Kk25.out) (fun hHeld => ?_)
        clear hK K
        (try simp only [Act.put, List.setIfInBounds_toArray, List.set_cons_zero, List.set_cons_succ])
        refine take_at 19 31 conv1Tr2_19 (v := ?_) (Or.inl ⟨by rfl, ?_⟩) ?_
        rotate_left 1
        · ((intro w hSw; (try dsimp only at hSw); unfold conv1Tr2_19; go_simp) <;> with_reducible rfl)
        (try simp only [Act.put, List.setIfInBounds_toArray, List.set_cons_zero, List.set_cons_succ])
        refine take_at 20 2 conv1Tr2_20 (v := ?_) (Or.inl ⟨by rfl, ?_⟩) ?_
        rotate_left 1
        · ((intro w hSw; (try dsimp only at hSw); unfold conv1Tr2_20; go_simp) <;> with_reducible rfl)
        (try simp only [Act.put, List.setIfInBounds_toArray, List.set_cons_zero, List.set_cons_succ])
        refine wpAnyH_done (by kernel_rfl) ?_ _
        clear hHeld
        have kvV0 : SeesN V0 V0.heap.size w21 := seesN_kept _ (kept_trans Kk12.out (kept_trans Kk20.out Kk25.out))
        go_wp2
        go_ret
        exact ⟨ret_bool (Eq.symm (show cvB i x u2 x2 i2 = true from by unfold cvB; rw [Hhb10.out, EXI.out, Hhb23.out]; rfl)), (kept_trans Kk3.out (kept_trans Kk12.out (kept_trans Kk20.out Kk25.out)))⟩
    exact AllReadyH.nil

def conv1Fr2_0 : Oper := { dst := some 12, op := Go.Op.move (Go.Operand.tmp 4), type := 4, pos := "terms.go:84", after := #[], guard := none }
def conv1Fr2_1 : Oper := { dst := some 13, op := Go.Op.move (Go.Operand.tmp 12), type := 4, pos := "terms.go:84", after := #[{ on := 0, ground := Go.Ground.data }], guard := none }
def conv1Fr2_2 : Oper := { dst := some 14, op := Go.Op.move (Go.Operand.tmp 3), type := 3, pos := "terms.go:84", after := #[{ on := 1, ground := Go.Ground.guard }], guard := some (1, true) }
def conv1Fr2_3 : Oper := { dst := some 15, op := Go.Op.move (Go.Operand.tmp 0), type := 23, pos := "terms.go:84", after := #[{ on := 1, ground := Go.Ground.guard }], guard := some (1, true) }
def conv1Fr2_4 : Oper := { dst := some 16, op := Go.Op.indexAddr 23 (Go.Operand.tmp 15) (Go.Operand.const (Go.Value.int Go.IntKind.i64 0)), type := 0, pos := "terms.go:84", after := #[{ on := 3, ground := Go.Ground.data }, { on := 1, ground := Go.Ground.guard }], guard := some (1, true) }
def conv1Fr2_5 : Oper := { dst := some 17, op := Go.Op.fieldAddr 34 (Go.Operand.tmp 16) 4, type := 0, pos := "terms.go:84", after := #[{ on := 4, ground := Go.Ground.data }, { on := 1, ground := Go.Ground.guard }], guard := some (1, true) }
def conv1Fr2_6 : Oper := { dst := some 18, op := Go.Op.load 3 (Go.Operand.tmp 17), type := 3, pos := "terms.go:84", after := #[{ on := 5, ground := Go.Ground.data }, { on := 1, ground := Go.Ground.guard }], guard := some (1, true) }
def conv1Fr2_7 : Oper := { dst := some 19, op := Go.Op.binOp Go.BinOp.eql 3 (Go.Operand.tmp 14) (Go.Operand.tmp 18) 3, type := 4, pos := "terms.go:84", after := #[{ on := 2, ground := Go.Ground.data }, { on := 6, ground := Go.Ground.data }, { on := 1, ground := Go.Ground.guard }], guard := some (1, true) }
def conv1Fr2_8 : Oper := { dst := some 20, op := Go.Op.pick (Go.Operand.tmp 13) (Go.Operand.tmp 19) (Go.Operand.const (Go.Value.bool false)), type := 4, pos := "terms.go:84", after := #[{ on := 1, ground := Go.Ground.data }, { on := 7, ground := Go.Ground.data }], guard := none }
def conv1Fr2_9 : Oper := { dst := some 21, op := Go.Op.move (Go.Operand.tmp 20), type := 4, pos := "terms.go:84", after := #[{ on := 8, ground := Go.Ground.data }, { on := 1, ground := Go.Ground.chain }], guard := none }
def conv1Fr2_10 : Oper := { dst := some 22, op := Go.Op.move (Go.Operand.tmp 0), type := 23, pos := "terms.go:84", after := #[{ on := 9, ground := Go.Ground.guard }], guard := some (9, true) }
def conv1Fr2_11 : Oper := { dst := some 23, op := Go.Op.indexAddr 23 (Go.Operand.tmp 22) (Go.Operand.const (Go.Value.int Go.IntKind.i64 0)), type := 0, pos := "terms.go:84", after := #[{ on := 10, ground := Go.Ground.data }, { on := 9, ground := Go.Ground.guard }], guard := some (9, true) }
def conv1Fr2_12 : Oper := { dst := some 24, op := Go.Op.fieldAddr 34 (Go.Operand.tmp 23) 3, type := 0, pos := "terms.go:84", after := #[{ on := 11, ground := Go.Ground.data }, { on := 9, ground := Go.Ground.guard }], guard := some (9, true) }
def conv1Fr2_13 : Oper := { dst := some 25, op := Go.Op.load 32 (Go.Operand.tmp 24), type := 32, pos := "terms.go:84", after := #[{ on := 12, ground := Go.Ground.data }, { on := 9, ground := Go.Ground.guard }], guard := some (9, true) }
def conv1Fr2_14 : Oper := { dst := some 26, op := Go.Op.move (Go.Operand.tmp 0), type := 23, pos := "terms.go:84", after := #[{ on := 9, ground := Go.Ground.guard }], guard := some (9, true) }
def conv1Fr2_15 : Oper := { dst := some 27, op := Go.Op.indexAddr 23 (Go.Operand.tmp 26) (Go.Operand.const (Go.Value.int Go.IntKind.i64 1)), type := 0, pos := "terms.go:84", after := #[{ on := 14, ground := Go.Ground.data }, { on := 9, ground := Go.Ground.guard }], guard := some (9, true) }
def conv1Fr2_16 : Oper := { dst := some 28, op := Go.Op.fieldAddr 34 (Go.Operand.tmp 27) 1, type := 0, pos := "terms.go:84", after := #[{ on := 15, ground := Go.Ground.data }, { on := 9, ground := Go.Ground.guard }], guard := some (9, true) }
def conv1Fr2_17 : Oper := { dst := some 29, op := Go.Op.load 32 (Go.Operand.tmp 28), type := 32, pos := "terms.go:84", after := #[{ on := 16, ground := Go.Ground.data }, { on := 9, ground := Go.Ground.guard }], guard := some (9, true) }
def conv1Fr2_18 : Oper := { dst := some 30, op := Go.Op.call { callee := Go.Callee.value (Go.Operand.func 45), args := #[Go.Operand.tmp 25, Go.Operand.tmp 29], argTypes := #[32, 32] }, type := 4, pos := "terms.go:84", after := #[{ on := 13, ground := Go.Ground.data }, { on := 17, ground := Go.Ground.data }, { on := 9, ground := Go.Ground.chain }, { on := 9, ground := Go.Ground.guard }], guard := some (9, true) }
def conv1Fr2_19 : Oper := { dst := some 31, op := Go.Op.pick (Go.Operand.tmp 21) (Go.Operand.tmp 30) (Go.Operand.const (Go.Value.bool false)), type := 4, pos := "terms.go:84", after := #[{ on := 9, ground := Go.Ground.data }, { on := 18, ground := Go.Ground.data }], guard := none }
def conv1Fr2_20 : Oper := { dst := some 2, op := Go.Op.assign (Go.Operand.tmp 31), type := 4, pos := "terms.go:84", after := #[{ on := 19, ground := Go.Ground.data }, { on := 18, ground := Go.Ground.chain }, { on := 0, ground := Go.Ground.phase }, { on := 1, ground := Go.Ground.phase }, { on := 2, ground := Go.Ground.phase }, { on := 3, ground := Go.Ground.phase }, { on := 4, ground := Go.Ground.phase }, { on := 5, ground := Go.Ground.phase }, { on := 6, ground := Go.Ground.phase }, { on := 7, ground := Go.Ground.phase }, { on := 8, ground := Go.Ground.phase }, { on := 9, ground := Go.Ground.phase }, { on := 10, ground := Go.Ground.phase }, { on := 11, ground := Go.Ground.phase }, { on := 12, ground := Go.Ground.phase }, { on := 13, ground := Go.Ground.phase }, { on := 14, ground := Go.Ground.phase }, { on := 15, ground := Go.Ground.phase }, { on := 16, ground := Go.Ground.phase }, { on := 17, ground := Go.Ground.phase }, { on := 18, ground := Go.Ground.phase }, { on := 19, ground := Go.Ground.phase }], guard := none }
set_option maxRecDepth 20000 in
set_option maxHeartbeats 4000000 in
theorem conv1F_any (i : Int) (i2 : Int) (u : Tm) (v : Tm) (x : Tm) (u2 : Tm) (v2 : Tm) (x2 : Tm) (P : Nat → Prop) (w : World) (bon oon capon : Nat) (Con : Array Value) (Ton : TypeId) (fron : Nat × Nat) (su : Value) (sv : Value) (sx : Value) (su2 : Value) (sv2 : Value) (sx2 : Value) (hfu : u.fine) (hlu : LiesQ w P u.kids su) (hfv : v.fine) (hlv : LiesQ w P v.kids sv) (hfx : x.fine) (hlx : LiesQ w P x.kids sx) (hri : I64 i) (hfu2 : u2.fine) (hlu2 : LiesQ w P u2.kids su2) (hfv2 : v2.fine) (hlv2 : LiesQ w P v2.kids sv2) (hfx2 : x2.fine) (hlx2 : LiesQ w P x2.kids sx2) (hri2 : I64 i2) (hbon : w.heap[bon]? = some (.cells Con Ton fron)) (hson0 : (Con.toList.drop oon).take 17 = [.bool false, .int .i64 u.k, .int .i64 u.i, .int .i64 u.j, .int .i64 u.n, su, .int .i64 v.k, .int .i64 v.i, .int .i64 v.j, .int .i64 v.n, sv, .int .i64 x.k, .int .i64 x.i, .int .i64 x.j, .int .i64 x.n, sx, .int .i64 i]) (hson1 : (Con.toList.drop (oon + 17)).take 17 = [.bool true, .int .i64 u2.k, .int .i64 u2.i, .int .i64 u2.j, .int .i64 u2.n, su2, .int .i64 v2.k, .int .i64 v2.i, .int .i64 v2.j, .int .i64 v2.n, sv2, .int .i64 x2.k, .int .i64 x2.i, .int .i64 x2.j, .int .i64 x2.n, sx2, .int .i64 i2]) (hx0 : 0 ≤ x2.i) (hx1 : x2.i ≤ 2147483647) (hxi : (x2.i == i) = false) : Calls Try.prog 64 #[.slice (some ⟨bon, oon, none⟩) 2 capon] w (fun e w' => e = .returned (.bool (cvB i x u2 x2 i2)) ∧ Kept w w') := by
  have Gu := Lib.hid hfu
  clear hfu
  obtain ⟨au, cu, Su, rfl, -⟩ := hlu.out
  have Gv := Lib.hid hfv
  clear hfv
  obtain ⟨av, cv, Sv, rfl, -⟩ := hlv.out
  have Gx := Lib.hid hfx
  clear hfx
  obtain ⟨ax, cx, Sx, rfl, -⟩ := hlx.out
  have Ri := Lib.hid hri
  clear hri
  have Gu2 := Lib.hid hfu2
  clear hfu2
  obtain ⟨au2, cu2, Su2, rfl, -⟩ := hlu2.out
  have Gv2 := Lib.hid hfv2
  clear hfv2
  obtain ⟨av2, cv2, Sv2, rfl, -⟩ := hlv2.out
  have Gx2 := Lib.hid hfx2
  clear hfx2
  obtain ⟨ax2, cx2, Sx2, rfl, -⟩ := hlx2.out
  have Ri2 := Lib.hid hri2
  clear hri2
  have HNon : Hid (bon < w.heap.size) := block_lt hbon
  have HBon := Lib.hid hbon
  have HSon0 := Lib.hid hson0
  have HSon1 := Lib.hid hson1
  clear hbon hson0 hson1
  have HX0 := Lib.hid hx0
  have HX1 := Lib.hid hx1
  clear hx0 hx1
  have EXI := Lib.hid hxi
  obtain ⟨dj, dj1, dj2⟩ := under_of 34 (by kernel_rfl)
  obtain ⟨du, hu1, hu2⟩ := under_term
  go_enter Try.func64, Try.ntmps64
  go_upto_region 1 with fail
  refine at_code (fun V0 hV0 => ?_)
  have k1 : Kept w V0 := by rw [← hV0]; exact kept_refl _
  have Z0 : Hid (V0.heap.size = w.heap.size + 0) := by show _ = _; rw [← hV0]; rfl
  clear hV0
  have Kk3 := Lib.hid k1
  clear k1
  have HLu : Hid (LiesQ V0 (Par w V0.heap.size [] P) u.kids _) := (par_in _ _ hlu).later Kk3.out
  clear hlu
  have HLv : Hid (LiesQ V0 (Par w V0.heap.size [] P) v.kids _) := (par_in _ _ hlv).later Kk3.out
  clear hlv
  have HLx : Hid (LiesQ V0 (Par w V0.heap.size [] P) x.kids _) := (par_in _ _ hlx).later Kk3.out
  clear hlx
  have HLu2 : Hid (LiesQ V0 (Par w V0.heap.size [] P) u2.kids _) := (par_in _ _ hlu2).later Kk3.out
  clear hlu2
  have HLv2 : Hid (LiesQ V0 (Par w V0.heap.size [] P) v2.kids _) := (par_in _ _ hlv2).later Kk3.out
  clear hlv2
  have HLx2 : Hid (LiesQ V0 (Par w V0.heap.size [] P) x2.kids _) := (par_in _ _ hlx2).later Kk3.out
  clear hlx2
  have HBon := Lib.hid (blk_at HBon.out Kk3.out)
  have ld4 := partN_cell (r := V0.heap.size) HBon.out trivial (oon) (.bool false) (row_cellW HSon0.out 0 (by decide))
  have ld5 := partN_cell (r := V0.heap.size) HBon.out trivial (oon + 16) (.int .i64 i) (row_cellW HSon0.out 16 (by decide))
  have ld6 := partN_cell (r := V0.heap.size) HBon.out trivial (oon + 17) (.bool true) (row_cellW HSon1.out 0 (by decide))
  have ld7 := partN_cell (r := V0.heap.size) HBon.out trivial (oon + 17 + 16) (.int .i64 i2) (row_cellW HSon1.out 16 (by decide))
  have kvV0 : SeesN V0 V0.heap.size V0 := seesN_kept _ (kept_refl _)
  go_wp2_with (refine stop_load 34 (.tmp 7) rfl ?_)
  intro _
  refine wpList_load_part (bon) (oon + 17) 34 (.tmp 7) #[.bool true, .int .i64 u2.k, .int .i64 u2.i, .int .i64 u2.j, .int .i64 u2.n, (.slice au2 u2.kids.length cu2), .int .i64 v2.k, .int .i64 v2.i, .int .i64 v2.j, .int .i64 v2.n, (.slice av2 v2.kids.length cv2), .int .i64 x2.k, .int .i64 x2.i, .int .i64 x2.j, .int .i64 x2.n, (.slice ax2 x2.kids.length cx2), .int .i64 i2] dj HBon.out (by rfl) rfl (by rfl) (row_subW HSon1.out 0 17 (by decide)) dj1 (by cases dj <;> first | rfl | exact dj2) (by kernel_rfl) ?_
  go_wp2_with fail
  clear kvV0
  refine (aretypes1_any i2 u2 v2 x2 (Par w V0.heap.size [] P) V0 ((.slice au2 u2.kids.length cu2)) ((.slice av2 v2.kids.length cv2)) ((.slice ax2 x2.kids.length cx2)) Gu2.out HLu2.out Gv2.out HLv2.out Gx2.out HLx2.out Ri2.out HX0.out HX1.out).mono ?_
  obtain ⟨rb11, hb10⟩ : ∃ qb, (osB x2 i2) = qb := ⟨_, rfl⟩
  rw [hb10]
  have Hhb10 := Lib.hid hb10
  clear hb10
  rintro e w8 ⟨rfl, k9⟩
  have Kk12 := Lib.hid k9
  clear k9
  cases rb11 with
  | false =>
    have kvV0 : SeesN V0 V0.heap.size w8 := seesN_kept _ Kk12.out
    go_wp2_with fail
    clear kvV0
    obtain ⟨W13, h14⟩ : ∃ x, World.drew w8 = x := ⟨_, rfl⟩
    have k15 : Kept w8 W13 := by rw [← h14]; exact kept_drew (kept_refl _)
    have Kk16 := Lib.hid k15
    clear k15
    refine wp_region_held_drew (S := SeesN W13 V0.heap.size) (by kernel_rfl) ?_ (fun hHeld => ?_)
    · (try dsimp only)
      rw [h14]
      exact seesN_kept _ (kept_refl _)
    rw [h14] at hHeld ⊢
    clear h14
    refine take_at 0 12 conv1Fr2_0 (v := ?_) (Or.inl ⟨by rfl, ?_⟩) ?_
    rotate_left 1
    · ((intro w hSw; (try dsimp only at hSw); unfold conv1Fr2_0; go_simp) <;> with_reducible rfl)
    (try simp only [Act.put, List.setIfInBounds_toArray, List.set_cons_zero, List.set_cons_succ])
    refine take_at 1 13 conv1Fr2_1 (v := ?_) (Or.inl ⟨by rfl, ?_⟩) ?_
    rotate_left 1
    · ((intro w hSw; (try dsimp only at hSw); unfold conv1Fr2_1; go_simp) <;> with_reducible rfl)
    (try simp only [Act.put, List.setIfInBounds_toArray, List.set_cons_zero, List.set_cons_succ])
    refine take_at 2 14 conv1Fr2_2 (v := undef) (Or.inr ⟨by rfl, rfl⟩) ?_
    (try simp only [Act.put, List.setIfInBounds_toArray, List.set_cons_zero, List.set_cons_succ])
    refine take_at 3 15 conv1Fr2_3 (v := undef) (Or.inr ⟨by rfl, rfl⟩) ?_
    (try simp only [Act.put, List.setIfInBounds_toArray, List.set_cons_zero, List.set_cons_succ])
    refine take_at 4 16 conv1Fr2_4 (v := undef) (Or.inr ⟨by rfl, rfl⟩) ?_
    (try simp only [Act.put, List.setIfInBounds_toArray, List.set_cons_zero, List.set_cons_succ])
    refine take_at 5 17 conv1Fr2_5 (v := undef) (Or.inr ⟨by rfl, rfl⟩) ?_
    (try simp only [Act.put, List.setIfInBounds_toArray, List.set_cons_zero, List.set_cons_succ])
    refine take_at 6 18 conv1Fr2_6 (v := undef) (Or.inr ⟨by rfl, rfl⟩) ?_
    (try simp only [Act.put, List.setIfInBounds_toArray, List.set_cons_zero, List.set_cons_succ])
    refine take_at 7 19 conv1Fr2_7 (v := undef) (Or.inr ⟨by rfl, rfl⟩) ?_
    (try simp only [Act.put, List.setIfInBounds_toArray, List.set_cons_zero, List.set_cons_succ])
    refine take_at 8 20 conv1Fr2_8 (v := ?_) (Or.inl ⟨by rfl, ?_⟩) ?_
    rotate_left 1
    · ((intro w hSw; (try dsimp only at hSw); unfold conv1Fr2_8; go_simp) <;> with_reducible rfl)
    (try simp only [Act.put, List.setIfInBounds_toArray, List.set_cons_zero, List.set_cons_succ])
    refine take_at 9 21 conv1Fr2_9 (v := ?_) (Or.inl ⟨by rfl, ?_⟩) ?_
    rotate_left 1
    · ((intro w hSw; (try dsimp only at hSw); unfold conv1Fr2_9; go_simp) <;> with_reducible rfl)
    (try simp only [Act.put, List.setIfInBounds_toArray, List.set_cons_zero, List.set_cons_succ])
    refine take_at 10 22 conv1Fr2_10 (v := undef) (Or.inr ⟨by rfl, rfl⟩) ?_
    (try simp only [Act.put, List.setIfInBounds_toArray, List.set_cons_zero, List.set_cons_succ])
    refine take_at 11 23 conv1Fr2_11 (v := undef) (Or.inr ⟨by rfl, rfl⟩) ?_
    (try simp only [Act.put, List.setIfInBounds_toArray, List.set_cons_zero, List.set_cons_succ])
    refine take_at 12 24 conv1Fr2_12 (v := undef) (Or.inr ⟨by rfl, rfl⟩) ?_
    (try simp only [Act.put, List.setIfInBounds_toArray, List.set_cons_zero, List.set_cons_succ])
    refine take_at 13 25 conv1Fr2_13 (v := undef) (Or.inr ⟨by rfl, rfl⟩) ?_
    (try simp only [Act.put, List.setIfInBounds_toArray, List.set_cons_zero, List.set_cons_succ])
    refine take_at 14 26 conv1Fr2_14 (v := undef) (Or.inr ⟨by rfl, rfl⟩) ?_
    (try simp only [Act.put, List.setIfInBounds_toArray, List.set_cons_zero, List.set_cons_succ])
    refine take_at 15 27 conv1Fr2_15 (v := undef) (Or.inr ⟨by rfl, rfl⟩) ?_
    (try simp only [Act.put, List.setIfInBounds_toArray, List.set_cons_zero, List.set_cons_succ])
    refine take_at 16 28 conv1Fr2_16 (v := undef) (Or.inr ⟨by rfl, rfl⟩) ?_
    (try simp only [Act.put, List.setIfInBounds_toArray, List.set_cons_zero, List.set_cons_succ])
    refine take_at 17 29 conv1Fr2_17 (v := undef) (Or.inr ⟨by rfl, rfl⟩) ?_
    (try simp only [Act.put, List.setIfInBounds_toArray, List.set_cons_zero, List.set_cons_succ])
    refine take_at 18 30 conv1Fr2_18 (v := undef) (Or.inr ⟨by rfl, rfl⟩) ?_
    (try simp only [Act.put, List.setIfInBounds_toArray, List.set_cons_zero, List.set_cons_succ])
    refine take_at 19 31 conv1Fr2_19 (v := ?_) (Or.inl ⟨by rfl, ?_⟩) ?_
    rotate_left 1
    · ((intro w hSw; (try dsimp only at hSw); unfold conv1Fr2_19; go_simp) <;> with_reducible rfl)
    (try simp only [Act.put, List.setIfInBounds_toArray, List.set_cons_zero, List.set_cons_succ])
    refine take_at 20 2 conv1Fr2_20 (v := ?_) (Or.inl ⟨by rfl, ?_⟩) ?_
    rotate_left 1
    · ((intro w hSw; (try dsimp only at hSw); unfold conv1Fr2_20; go_simp) <;> with_reducible rfl)
    (try simp only [Act.put, List.setIfInBounds_toArray, List.set_cons_zero, List.set_cons_succ])
    refine wpAnyH_done (by kernel_rfl) ?_ _
    clear hHeld
    have kvV0 : SeesN V0 V0.heap.size W13 := seesN_kept _ (kept_trans Kk12.out Kk16.out)
    go_wp2
    go_ret
    exact ⟨ret_bool (Eq.symm (show cvB i x u2 x2 i2 = false from by unfold cvB; rw [Hhb10.out, EXI.out]; rfl)), (kept_trans Kk3.out (kept_trans Kk12.out Kk16.out))⟩
  | true =>
    have kvV0 : SeesN V0 V0.heap.size w8 := seesN_kept _ Kk12.out
    go_wp2_with fail
    clear kvV0
    obtain ⟨W17, h18⟩ : ∃ x, World.drew w8 = x := ⟨_, rfl⟩
    have k19 : Kept w8 W17 := by rw [← h18]; exact kept_drew (kept_refl _)
    have Kk20 := Lib.hid k19
    clear k19
    refine wp_region_held_drew (S := SeesN W17 V0.heap.size) (by kernel_rfl) ?_ (fun hHeld => ?_)
    · (try dsimp only)
      rw [h18]
      exact seesN_kept _ (kept_refl _)
    rw [h18] at hHeld ⊢
    clear h18
    refine take_at 0 12 conv1Fr2_0 (v := ?_) (Or.inl ⟨by rfl, ?_⟩) ?_
    rotate_left 1
    · ((intro w hSw; (try dsimp only at hSw); unfold conv1Fr2_0; go_simp) <;> with_reducible rfl)
    (try simp only [Act.put, List.setIfInBounds_toArray, List.set_cons_zero, List.set_cons_succ])
    refine take_at 1 13 conv1Fr2_1 (v := ?_) (Or.inl ⟨by rfl, ?_⟩) ?_
    rotate_left 1
    · ((intro w hSw; (try dsimp only at hSw); unfold conv1Fr2_1; go_simp) <;> with_reducible rfl)
    (try simp only [Act.put, List.setIfInBounds_toArray, List.set_cons_zero, List.set_cons_succ])
    refine take_at 2 14 conv1Fr2_2 (v := ?_) (Or.inl ⟨by rfl, ?_⟩) ?_
    rotate_left 1
    · ((intro w hSw; (try dsimp only at hSw); unfold conv1Fr2_2; go_simp) <;> with_reducible rfl)
    (try simp only [Act.put, List.setIfInBounds_toArray, List.set_cons_zero, List.set_cons_succ])
    refine take_at 3 15 conv1Fr2_3 (v := ?_) (Or.inl ⟨by rfl, ?_⟩) ?_
    rotate_left 1
    · ((intro w hSw; (try dsimp only at hSw); unfold conv1Fr2_3; go_simp) <;> with_reducible rfl)
    (try simp only [Act.put, List.setIfInBounds_toArray, List.set_cons_zero, List.set_cons_succ])
    refine take_at 4 16 conv1Fr2_4 (v := ?_) (Or.inl ⟨by rfl, ?_⟩) ?_
    rotate_left 1
    · ((intro w hSw; (try dsimp only at hSw); unfold conv1Fr2_4; go_simp) <;> with_reducible rfl)
    (try simp only [Act.put, List.setIfInBounds_toArray, List.set_cons_zero, List.set_cons_succ])
    refine take_at 5 17 conv1Fr2_5 (v := ?_) (Or.inl ⟨by rfl, ?_⟩) ?_
    rotate_left 1
    · ((intro w hSw; (try dsimp only at hSw); unfold conv1Fr2_5; go_simp) <;> with_reducible rfl)
    (try simp only [Act.put, List.setIfInBounds_toArray, List.set_cons_zero, List.set_cons_succ])
    refine take_at 6 18 conv1Fr2_6 (v := ?_) (Or.inl ⟨by rfl, ?_⟩) ?_
    rotate_left 1
    · ((intro w hSw; (try dsimp only at hSw); have qV0 := seesN_of (kept_trans Kk12.out Kk20.out) hSw; unfold conv1Fr2_6; go_simp) <;> with_reducible rfl)
    (try simp only [Act.put, List.setIfInBounds_toArray, List.set_cons_zero, List.set_cons_succ])
    refine take_at 7 19 conv1Fr2_7 (v := ?_) (Or.inl ⟨by rfl, ?_⟩) ?_
    rotate_left 1
    · ((intro w hSw; (try dsimp only at hSw); unfold conv1Fr2_7; go_simp) <;> with_reducible rfl)
    (try simp only [Act.put, List.setIfInBounds_toArray, List.set_cons_zero, List.set_cons_succ])
    refine take_at 8 20 conv1Fr2_8 (v := ?_) (Or.inl ⟨by rfl, ?_⟩) ?_
    rotate_left 1
    · ((intro w hSw; (try dsimp only at hSw); unfold conv1Fr2_8; go_simp) <;> with_reducible rfl)
    (try simp only [Act.put, List.setIfInBounds_toArray, List.set_cons_zero, List.set_cons_succ])
    refine take_at 9 21 conv1Fr2_9 (v := ?_) (Or.inl ⟨by rfl, ?_⟩) ?_
    rotate_left 1
    · ((intro w hSw; (try dsimp only at hSw); unfold conv1Fr2_9; go_simp) <;> with_reducible rfl)
    (try simp only [Act.put, List.setIfInBounds_toArray, List.set_cons_zero, List.set_cons_succ])
    refine take_at 10 22 conv1Fr2_10 (v := undef) (Or.inr ⟨by rfl, rfl⟩) ?_
    (try simp only [Act.put, List.setIfInBounds_toArray, List.set_cons_zero, List.set_cons_succ])
    refine take_at 11 23 conv1Fr2_11 (v := undef) (Or.inr ⟨by rfl, rfl⟩) ?_
    (try simp only [Act.put, List.setIfInBounds_toArray, List.set_cons_zero, List.set_cons_succ])
    refine take_at 12 24 conv1Fr2_12 (v := undef) (Or.inr ⟨by rfl, rfl⟩) ?_
    (try simp only [Act.put, List.setIfInBounds_toArray, List.set_cons_zero, List.set_cons_succ])
    refine take_at 13 25 conv1Fr2_13 (v := undef) (Or.inr ⟨by rfl, rfl⟩) ?_
    (try simp only [Act.put, List.setIfInBounds_toArray, List.set_cons_zero, List.set_cons_succ])
    refine take_at 14 26 conv1Fr2_14 (v := undef) (Or.inr ⟨by rfl, rfl⟩) ?_
    (try simp only [Act.put, List.setIfInBounds_toArray, List.set_cons_zero, List.set_cons_succ])
    refine take_at 15 27 conv1Fr2_15 (v := undef) (Or.inr ⟨by rfl, rfl⟩) ?_
    (try simp only [Act.put, List.setIfInBounds_toArray, List.set_cons_zero, List.set_cons_succ])
    refine take_at 16 28 conv1Fr2_16 (v := undef) (Or.inr ⟨by rfl, rfl⟩) ?_
    (try simp only [Act.put, List.setIfInBounds_toArray, List.set_cons_zero, List.set_cons_succ])
    refine take_at 17 29 conv1Fr2_17 (v := undef) (Or.inr ⟨by rfl, rfl⟩) ?_
    (try simp only [Act.put, List.setIfInBounds_toArray, List.set_cons_zero, List.set_cons_succ])
    refine take_at 18 30 conv1Fr2_18 (v := undef) (Or.inr ⟨by rfl, rfl⟩) ?_
    (try simp only [Act.put, List.setIfInBounds_toArray, List.set_cons_zero, List.set_cons_succ])
    refine take_at 19 31 conv1Fr2_19 (v := ?_) (Or.inl ⟨by rfl, ?_⟩) ?_
    rotate_left 1
    · ((intro w hSw; (try dsimp only at hSw); unfold conv1Fr2_19; go_simp) <;> with_reducible rfl)
    (try simp only [Act.put, List.setIfInBounds_toArray, List.set_cons_zero, List.set_cons_succ])
    refine take_at 20 2 conv1Fr2_20 (v := ?_) (Or.inl ⟨by rfl, ?_⟩) ?_
    rotate_left 1
    · ((intro w hSw; (try dsimp only at hSw); unfold conv1Fr2_20; go_simp) <;> with_reducible rfl)
    (try simp only [Act.put, List.setIfInBounds_toArray, List.set_cons_zero, List.set_cons_succ])
    refine wpAnyH_done (by kernel_rfl) ?_ _
    clear hHeld
    have kvV0 : SeesN V0 V0.heap.size W17 := seesN_kept _ (kept_trans Kk12.out Kk20.out)
    go_wp2
    go_ret
    exact ⟨ret_bool (Eq.symm (show cvB i x u2 x2 i2 = false from by unfold cvB; rw [Hhb10.out, EXI.out]; rfl)), (kept_trans Kk3.out (kept_trans Kk12.out Kk20.out))⟩

theorem conv1_any (i i2 : Int) (u v x u2 v2 x2 : Tm) (P : Nat → Prop) (w : World) (b o cap : Nat) (C : Array Value) (T : TypeId) (fr : Nat × Nat) (su sv sx su2 sv2 sx2 : Value) (hfu : u.fine) (hlu : LiesQ w P u.kids su) (hfv : v.fine) (hlv : LiesQ w P v.kids sv) (hfx : x.fine) (hlx : LiesQ w P x.kids sx) (hri : I64 i) (hfu2 : u2.fine) (hlu2 : LiesQ w P u2.kids su2) (hfv2 : v2.fine) (hlv2 : LiesQ w P v2.kids sv2) (hfx2 : x2.fine) (hlx2 : LiesQ w P x2.kids sx2) (hri2 : I64 i2) (hb : w.heap[b]? = some (.cells C T fr)) (h0 : (C.toList.drop o).take 17 = [.bool false, .int .i64 u.k, .int .i64 u.i, .int .i64 u.j, .int .i64 u.n, su, .int .i64 v.k, .int .i64 v.i, .int .i64 v.j, .int .i64 v.n, sv, .int .i64 x.k, .int .i64 x.i, .int .i64 x.j, .int .i64 x.n, sx, .int .i64 i]) (h1 : (C.toList.drop (o + 17)).take 17 = [.bool true, .int .i64 u2.k, .int .i64 u2.i, .int .i64 u2.j, .int .i64 u2.n, su2, .int .i64 v2.k, .int .i64 v2.i, .int .i64 v2.j, .int .i64 v2.n, sv2, .int .i64 x2.k, .int .i64 x2.i, .int .i64 x2.j, .int .i64 x2.n, sx2, .int .i64 i2]) (hx0 : 0 ≤ x2.i) (hx1 : x2.i ≤ 2147483647) : Calls Try.prog 64 #[.slice (some ⟨b, o, none⟩) 2 cap] w (fun e w' => e = .returned (.bool (cvB i x u2 x2 i2)) ∧ Kept w w') := by
  cases h : (x2.i == i) with
  | true => exact conv1T_any i i2 u v x u2 v2 x2 P w b o cap C T fr su sv sx su2 sv2 sx2 hfu hlu hfv hlv hfx hlx hri hfu2 hlu2 hfv2 hlv2 hfx2 hlx2 hri2 hb h0 h1 hx0 hx1 h
  | false => exact conv1F_any i i2 u v x u2 v2 x2 P w b o cap C T fr su sv sx su2 sv2 sx2 hfu hlu hfv hlv hfx hlx hri hfu2 hlu2 hfv2 hlv2 hfx2 hlx2 hri2 hb h0 h1 hx0 hx1 h

def conv0r2_0 : Oper := { dst := some 12, op := Go.Op.move (Go.Operand.tmp 4), type := 4, pos := "terms.go:84", after := #[], guard := none }
def conv0r2_1 : Oper := { dst := some 13, op := Go.Op.move (Go.Operand.tmp 12), type := 4, pos := "terms.go:84", after := #[{ on := 0, ground := Go.Ground.data }], guard := none }
def conv0r2_2 : Oper := { dst := some 14, op := Go.Op.move (Go.Operand.tmp 3), type := 3, pos := "terms.go:84", after := #[{ on := 1, ground := Go.Ground.guard }], guard := some (1, true) }
def conv0r2_3 : Oper := { dst := some 15, op := Go.Op.move (Go.Operand.tmp 0), type := 23, pos := "terms.go:84", after := #[{ on := 1, ground := Go.Ground.guard }], guard := some (1, true) }
def conv0r2_4 : Oper := { dst := some 16, op := Go.Op.indexAddr 23 (Go.Operand.tmp 15) (Go.Operand.const (Go.Value.int Go.IntKind.i64 0)), type := 0, pos := "terms.go:84", after := #[{ on := 3, ground := Go.Ground.data }, { on := 1, ground := Go.Ground.guard }], guard := some (1, true) }
def conv0r2_5 : Oper := { dst := some 17, op := Go.Op.fieldAddr 34 (Go.Operand.tmp 16) 4, type := 0, pos := "terms.go:84", after := #[{ on := 4, ground := Go.Ground.data }, { on := 1, ground := Go.Ground.guard }], guard := some (1, true) }
def conv0r2_6 : Oper := { dst := some 18, op := Go.Op.load 3 (Go.Operand.tmp 17), type := 3, pos := "terms.go:84", after := #[{ on := 5, ground := Go.Ground.data }, { on := 1, ground := Go.Ground.guard }], guard := some (1, true) }
def conv0r2_7 : Oper := { dst := some 19, op := Go.Op.binOp Go.BinOp.eql 3 (Go.Operand.tmp 14) (Go.Operand.tmp 18) 3, type := 4, pos := "terms.go:84", after := #[{ on := 2, ground := Go.Ground.data }, { on := 6, ground := Go.Ground.data }, { on := 1, ground := Go.Ground.guard }], guard := some (1, true) }
def conv0r2_8 : Oper := { dst := some 20, op := Go.Op.pick (Go.Operand.tmp 13) (Go.Operand.tmp 19) (Go.Operand.const (Go.Value.bool false)), type := 4, pos := "terms.go:84", after := #[{ on := 1, ground := Go.Ground.data }, { on := 7, ground := Go.Ground.data }], guard := none }
def conv0r2_9 : Oper := { dst := some 21, op := Go.Op.move (Go.Operand.tmp 20), type := 4, pos := "terms.go:84", after := #[{ on := 8, ground := Go.Ground.data }, { on := 1, ground := Go.Ground.chain }], guard := none }
def conv0r2_10 : Oper := { dst := some 22, op := Go.Op.move (Go.Operand.tmp 0), type := 23, pos := "terms.go:84", after := #[{ on := 9, ground := Go.Ground.guard }], guard := some (9, true) }
def conv0r2_11 : Oper := { dst := some 23, op := Go.Op.indexAddr 23 (Go.Operand.tmp 22) (Go.Operand.const (Go.Value.int Go.IntKind.i64 0)), type := 0, pos := "terms.go:84", after := #[{ on := 10, ground := Go.Ground.data }, { on := 9, ground := Go.Ground.guard }], guard := some (9, true) }
def conv0r2_12 : Oper := { dst := some 24, op := Go.Op.fieldAddr 34 (Go.Operand.tmp 23) 3, type := 0, pos := "terms.go:84", after := #[{ on := 11, ground := Go.Ground.data }, { on := 9, ground := Go.Ground.guard }], guard := some (9, true) }
def conv0r2_13 : Oper := { dst := some 25, op := Go.Op.load 32 (Go.Operand.tmp 24), type := 32, pos := "terms.go:84", after := #[{ on := 12, ground := Go.Ground.data }, { on := 9, ground := Go.Ground.guard }], guard := some (9, true) }
def conv0r2_14 : Oper := { dst := some 26, op := Go.Op.move (Go.Operand.tmp 0), type := 23, pos := "terms.go:84", after := #[{ on := 9, ground := Go.Ground.guard }], guard := some (9, true) }
def conv0r2_15 : Oper := { dst := some 27, op := Go.Op.indexAddr 23 (Go.Operand.tmp 26) (Go.Operand.const (Go.Value.int Go.IntKind.i64 1)), type := 0, pos := "terms.go:84", after := #[{ on := 14, ground := Go.Ground.data }, { on := 9, ground := Go.Ground.guard }], guard := some (9, true) }
def conv0r2_16 : Oper := { dst := some 28, op := Go.Op.fieldAddr 34 (Go.Operand.tmp 27) 1, type := 0, pos := "terms.go:84", after := #[{ on := 15, ground := Go.Ground.data }, { on := 9, ground := Go.Ground.guard }], guard := some (9, true) }
def conv0r2_17 : Oper := { dst := some 29, op := Go.Op.load 32 (Go.Operand.tmp 28), type := 32, pos := "terms.go:84", after := #[{ on := 16, ground := Go.Ground.data }, { on := 9, ground := Go.Ground.guard }], guard := some (9, true) }
def conv0r2_18 : Oper := { dst := some 30, op := Go.Op.call { callee := Go.Callee.value (Go.Operand.func 45), args := #[Go.Operand.tmp 25, Go.Operand.tmp 29], argTypes := #[32, 32] }, type := 4, pos := "terms.go:84", after := #[{ on := 13, ground := Go.Ground.data }, { on := 17, ground := Go.Ground.data }, { on := 9, ground := Go.Ground.chain }, { on := 9, ground := Go.Ground.guard }], guard := some (9, true) }
def conv0r2_19 : Oper := { dst := some 31, op := Go.Op.pick (Go.Operand.tmp 21) (Go.Operand.tmp 30) (Go.Operand.const (Go.Value.bool false)), type := 4, pos := "terms.go:84", after := #[{ on := 9, ground := Go.Ground.data }, { on := 18, ground := Go.Ground.data }], guard := none }
def conv0r2_20 : Oper := { dst := some 2, op := Go.Op.assign (Go.Operand.tmp 31), type := 4, pos := "terms.go:84", after := #[{ on := 19, ground := Go.Ground.data }, { on := 18, ground := Go.Ground.chain }, { on := 0, ground := Go.Ground.phase }, { on := 1, ground := Go.Ground.phase }, { on := 2, ground := Go.Ground.phase }, { on := 3, ground := Go.Ground.phase }, { on := 4, ground := Go.Ground.phase }, { on := 5, ground := Go.Ground.phase }, { on := 6, ground := Go.Ground.phase }, { on := 7, ground := Go.Ground.phase }, { on := 8, ground := Go.Ground.phase }, { on := 9, ground := Go.Ground.phase }, { on := 10, ground := Go.Ground.phase }, { on := 11, ground := Go.Ground.phase }, { on := 12, ground := Go.Ground.phase }, { on := 13, ground := Go.Ground.phase }, { on := 14, ground := Go.Ground.phase }, { on := 15, ground := Go.Ground.phase }, { on := 16, ground := Go.Ground.phase }, { on := 17, ground := Go.Ground.phase }, { on := 18, ground := Go.Ground.phase }, { on := 19, ground := Go.Ground.phase }], guard := none }
set_option maxRecDepth 20000 in
set_option maxHeartbeats 4000000 in
theorem conv0_any (i : Int) (i2 : Int) (u : Tm) (v : Tm) (x : Tm) (u2 : Tm) (v2 : Tm) (x2 : Tm) (P : Nat → Prop) (w : World) (bon oon capon : Nat) (Con : Array Value) (Ton : TypeId) (fron : Nat × Nat) (su : Value) (sv : Value) (sx : Value) (su2 : Value) (sv2 : Value) (sx2 : Value) (hfu : u.fine) (hlu : LiesQ w P u.kids su) (hfv : v.fine) (hlv : LiesQ w P v.kids sv) (hfx : x.fine) (hlx : LiesQ w P x.kids sx) (hri : I64 i) (hfu2 : u2.fine) (hlu2 : LiesQ w P u2.kids su2) (hfv2 : v2.fine) (hlv2 : LiesQ w P v2.kids sv2) (hfx2 : x2.fine) (hlx2 : LiesQ w P x2.kids sx2) (hri2 : I64 i2) (hbon : w.heap[bon]? = some (.cells Con Ton fron)) (hson0 : (Con.toList.drop oon).take 17 = [.bool false, .int .i64 u.k, .int .i64 u.i, .int .i64 u.j, .int .i64 u.n, su, .int .i64 v.k, .int .i64 v.i, .int .i64 v.j, .int .i64 v.n, sv, .int .i64 x.k, .int .i64 x.i, .int .i64 x.j, .int .i64 x.n, sx, .int .i64 i]) (hson1 : (Con.toList.drop (oon + 17)).take 17 = [.bool false, .int .i64 u2.k, .int .i64 u2.i, .int .i64 u2.j, .int .i64 u2.n, su2, .int .i64 v2.k, .int .i64 v2.i, .int .i64 v2.j, .int .i64 v2.n, sv2, .int .i64 x2.k, .int .i64 x2.i, .int .i64 x2.j, .int .i64 x2.n, sx2, .int .i64 i2]) (hx0 : 0 ≤ x2.i) (hx1 : x2.i ≤ 2147483647) : Calls Try.prog 64 #[.slice (some ⟨bon, oon, none⟩) 2 capon] w fun e w' => e = .returned (.bool false) ∧ Kept w w' := by
  have Gu := Lib.hid hfu
  clear hfu
  obtain ⟨au, cu, Su, rfl, -⟩ := hlu.out
  have Gv := Lib.hid hfv
  clear hfv
  obtain ⟨av, cv, Sv, rfl, -⟩ := hlv.out
  have Gx := Lib.hid hfx
  clear hfx
  obtain ⟨ax, cx, Sx, rfl, -⟩ := hlx.out
  have Ri := Lib.hid hri
  clear hri
  have Gu2 := Lib.hid hfu2
  clear hfu2
  obtain ⟨au2, cu2, Su2, rfl, -⟩ := hlu2.out
  have Gv2 := Lib.hid hfv2
  clear hfv2
  obtain ⟨av2, cv2, Sv2, rfl, -⟩ := hlv2.out
  have Gx2 := Lib.hid hfx2
  clear hfx2
  obtain ⟨ax2, cx2, Sx2, rfl, -⟩ := hlx2.out
  have Ri2 := Lib.hid hri2
  clear hri2
  have HNon : Hid (bon < w.heap.size) := block_lt hbon
  have HBon := Lib.hid hbon
  have HSon0 := Lib.hid hson0
  have HSon1 := Lib.hid hson1
  clear hbon hson0 hson1
  have HX0 := Lib.hid hx0
  have HX1 := Lib.hid hx1
  clear hx0 hx1
  obtain ⟨dj, dj1, dj2⟩ := under_of 34 (by kernel_rfl)
  obtain ⟨du, hu1, hu2⟩ := under_term
  go_enter Try.func64, Try.ntmps64
  go_upto_region 1 with fail
  refine at_code (fun V0 hV0 => ?_)
  have k1 : Kept w V0 := by rw [← hV0]; exact kept_refl _
  have Z0 : Hid (V0.heap.size = w.heap.size + 0) := by show _ = _; rw [← hV0]; rfl
  clear hV0
  have Kk3 := Lib.hid k1
  clear k1
  have HLu : Hid (LiesQ V0 (Par w V0.heap.size [] P) u.kids _) := (par_in _ _ hlu).later Kk3.out
  clear hlu
  have HLv : Hid (LiesQ V0 (Par w V0.heap.size [] P) v.kids _) := (par_in _ _ hlv).later Kk3.out
  clear hlv
  have HLx : Hid (LiesQ V0 (Par w V0.heap.size [] P) x.kids _) := (par_in _ _ hlx).later Kk3.out
  clear hlx
  have HLu2 : Hid (LiesQ V0 (Par w V0.heap.size [] P) u2.kids _) := (par_in _ _ hlu2).later Kk3.out
  clear hlu2
  have HLv2 : Hid (LiesQ V0 (Par w V0.heap.size [] P) v2.kids _) := (par_in _ _ hlv2).later Kk3.out
  clear hlv2
  have HLx2 : Hid (LiesQ V0 (Par w V0.heap.size [] P) x2.kids _) := (par_in _ _ hlx2).later Kk3.out
  clear hlx2
  have HBon := Lib.hid (blk_at HBon.out Kk3.out)
  have ld4 := partN_cell (r := V0.heap.size) HBon.out trivial (oon) (.bool false) (row_cellW HSon0.out 0 (by decide))
  have ld5 := partN_cell (r := V0.heap.size) HBon.out trivial (oon + 16) (.int .i64 i) (row_cellW HSon0.out 16 (by decide))
  have ld6 := partN_cell (r := V0.heap.size) HBon.out trivial (oon + 17) (.bool false) (row_cellW HSon1.out 0 (by decide))
  have ld7 := partN_cell (r := V0.heap.size) HBon.out trivial (oon + 17 + 16) (.int .i64 i2) (row_cellW HSon1.out 16 (by decide))
  have kvV0 : SeesN V0 V0.heap.size V0 := seesN_kept _ (kept_refl _)
  go_wp2_with (refine stop_load 34 (.tmp 7) rfl ?_)
  intro _
  refine wpList_load_part (bon) (oon + 17) 34 (.tmp 7) #[.bool false, .int .i64 u2.k, .int .i64 u2.i, .int .i64 u2.j, .int .i64 u2.n, (.slice au2 u2.kids.length cu2), .int .i64 v2.k, .int .i64 v2.i, .int .i64 v2.j, .int .i64 v2.n, (.slice av2 v2.kids.length cv2), .int .i64 x2.k, .int .i64 x2.i, .int .i64 x2.j, .int .i64 x2.n, (.slice ax2 x2.kids.length cx2), .int .i64 i2] dj HBon.out (by rfl) rfl (by rfl) (row_subW HSon1.out 0 17 (by decide)) dj1 (by cases dj <;> first | rfl | exact dj2) (by kernel_rfl) ?_
  go_wp2_with fail
  clear kvV0
  refine (aretypes0_any i2 u2 v2 x2 (Par w V0.heap.size [] P) V0 ((.slice au2 u2.kids.length cu2)) ((.slice av2 v2.kids.length cv2)) ((.slice ax2 x2.kids.length cx2)) Gu2.out HLu2.out Gv2.out HLv2.out Gx2.out HLx2.out Ri2.out HX0.out HX1.out).mono ?_
  rintro e w8 ⟨rfl, k9⟩
  have Kk10 := Lib.hid k9
  clear k9
  have kvV0 : SeesN V0 V0.heap.size w8 := seesN_kept _ Kk10.out
  go_wp2_with fail
  clear kvV0
  obtain ⟨W11, h12⟩ : ∃ x, World.drew w8 = x := ⟨_, rfl⟩
  have k13 : Kept w8 W11 := by rw [← h12]; exact kept_drew (kept_refl _)
  have Kk14 := Lib.hid k13
  clear k13
  refine wp_region_held_drew (S := SeesN W11 V0.heap.size) (by kernel_rfl) ?_ (fun hHeld => ?_)
  · (try dsimp only)
    rw [h12]
    exact seesN_kept _ (kept_refl _)
  rw [h12] at hHeld ⊢
  clear h12
  refine take_at 0 12 conv0r2_0 (v := ?_) (Or.inl ⟨by rfl, ?_⟩) ?_
  rotate_left 1
  · ((intro w hSw; (try dsimp only at hSw); unfold conv0r2_0; go_simp) <;> with_reducible rfl)
  (try simp only [Act.put, List.setIfInBounds_toArray, List.set_cons_zero, List.set_cons_succ])
  refine take_at 1 13 conv0r2_1 (v := ?_) (Or.inl ⟨by rfl, ?_⟩) ?_
  rotate_left 1
  · ((intro w hSw; (try dsimp only at hSw); unfold conv0r2_1; go_simp) <;> with_reducible rfl)
  (try simp only [Act.put, List.setIfInBounds_toArray, List.set_cons_zero, List.set_cons_succ])
  refine take_at 2 14 conv0r2_2 (v := undef) (Or.inr ⟨by rfl, rfl⟩) ?_
  (try simp only [Act.put, List.setIfInBounds_toArray, List.set_cons_zero, List.set_cons_succ])
  refine take_at 3 15 conv0r2_3 (v := undef) (Or.inr ⟨by rfl, rfl⟩) ?_
  (try simp only [Act.put, List.setIfInBounds_toArray, List.set_cons_zero, List.set_cons_succ])
  refine take_at 4 16 conv0r2_4 (v := undef) (Or.inr ⟨by rfl, rfl⟩) ?_
  (try simp only [Act.put, List.setIfInBounds_toArray, List.set_cons_zero, List.set_cons_succ])
  refine take_at 5 17 conv0r2_5 (v := undef) (Or.inr ⟨by rfl, rfl⟩) ?_
  (try simp only [Act.put, List.setIfInBounds_toArray, List.set_cons_zero, List.set_cons_succ])
  refine take_at 6 18 conv0r2_6 (v := undef) (Or.inr ⟨by rfl, rfl⟩) ?_
  (try simp only [Act.put, List.setIfInBounds_toArray, List.set_cons_zero, List.set_cons_succ])
  refine take_at 7 19 conv0r2_7 (v := undef) (Or.inr ⟨by rfl, rfl⟩) ?_
  (try simp only [Act.put, List.setIfInBounds_toArray, List.set_cons_zero, List.set_cons_succ])
  refine take_at 8 20 conv0r2_8 (v := ?_) (Or.inl ⟨by rfl, ?_⟩) ?_
  rotate_left 1
  · ((intro w hSw; (try dsimp only at hSw); unfold conv0r2_8; go_simp) <;> with_reducible rfl)
  (try simp only [Act.put, List.setIfInBounds_toArray, List.set_cons_zero, List.set_cons_succ])
  refine take_at 9 21 conv0r2_9 (v := ?_) (Or.inl ⟨by rfl, ?_⟩) ?_
  rotate_left 1
  · ((intro w hSw; (try dsimp only at hSw); unfold conv0r2_9; go_simp) <;> with_reducible rfl)
  (try simp only [Act.put, List.setIfInBounds_toArray, List.set_cons_zero, List.set_cons_succ])
  refine take_at 10 22 conv0r2_10 (v := undef) (Or.inr ⟨by rfl, rfl⟩) ?_
  (try simp only [Act.put, List.setIfInBounds_toArray, List.set_cons_zero, List.set_cons_succ])
  refine take_at 11 23 conv0r2_11 (v := undef) (Or.inr ⟨by rfl, rfl⟩) ?_
  (try simp only [Act.put, List.setIfInBounds_toArray, List.set_cons_zero, List.set_cons_succ])
  refine take_at 12 24 conv0r2_12 (v := undef) (Or.inr ⟨by rfl, rfl⟩) ?_
  (try simp only [Act.put, List.setIfInBounds_toArray, List.set_cons_zero, List.set_cons_succ])
  refine take_at 13 25 conv0r2_13 (v := undef) (Or.inr ⟨by rfl, rfl⟩) ?_
  (try simp only [Act.put, List.setIfInBounds_toArray, List.set_cons_zero, List.set_cons_succ])
  refine take_at 14 26 conv0r2_14 (v := undef) (Or.inr ⟨by rfl, rfl⟩) ?_
  (try simp only [Act.put, List.setIfInBounds_toArray, List.set_cons_zero, List.set_cons_succ])
  refine take_at 15 27 conv0r2_15 (v := undef) (Or.inr ⟨by rfl, rfl⟩) ?_
  (try simp only [Act.put, List.setIfInBounds_toArray, List.set_cons_zero, List.set_cons_succ])
  refine take_at 16 28 conv0r2_16 (v := undef) (Or.inr ⟨by rfl, rfl⟩) ?_
  (try simp only [Act.put, List.setIfInBounds_toArray, List.set_cons_zero, List.set_cons_succ])
  refine take_at 17 29 conv0r2_17 (v := undef) (Or.inr ⟨by rfl, rfl⟩) ?_
  (try simp only [Act.put, List.setIfInBounds_toArray, List.set_cons_zero, List.set_cons_succ])
  refine take_at 18 30 conv0r2_18 (v := undef) (Or.inr ⟨by rfl, rfl⟩) ?_
  (try simp only [Act.put, List.setIfInBounds_toArray, List.set_cons_zero, List.set_cons_succ])
  refine take_at 19 31 conv0r2_19 (v := ?_) (Or.inl ⟨by rfl, ?_⟩) ?_
  rotate_left 1
  · ((intro w hSw; (try dsimp only at hSw); unfold conv0r2_19; go_simp) <;> with_reducible rfl)
  (try simp only [Act.put, List.setIfInBounds_toArray, List.set_cons_zero, List.set_cons_succ])
  refine take_at 20 2 conv0r2_20 (v := ?_) (Or.inl ⟨by rfl, ?_⟩) ?_
  rotate_left 1
  · ((intro w hSw; (try dsimp only at hSw); unfold conv0r2_20; go_simp) <;> with_reducible rfl)
  (try simp only [Act.put, List.setIfInBounds_toArray, List.set_cons_zero, List.set_cons_succ])
  refine wpAnyH_done (by kernel_rfl) ?_ _
  clear hHeld
  have kvV0 : SeesN V0 V0.heap.size W11 := seesN_kept _ (kept_trans Kk10.out Kk14.out)
  go_wp2
  go_ret
  exact ⟨rfl, (kept_trans Kk3.out (kept_trans Kk10.out Kk14.out))⟩

def con12ffr34_0 : Oper := { dst := some 238, op := Go.Op.move (Go.Operand.tmp 3), type := 23, pos := "terms.go:45", after := #[], guard := none }
def con12ffr34_1 : Oper := { dst := some 239, op := Go.Op.indexAddr 23 (Go.Operand.tmp 238) (Go.Operand.const (Go.Value.int Go.IntKind.i64 0)), type := 0, pos := "terms.go:45", after := #[{ on := 0, ground := Go.Ground.data }], guard := none }
def con12ffr34_2 : Oper := { dst := some 240, op := Go.Op.fieldAddr 34 (Go.Operand.tmp 239) 1, type := 0, pos := "terms.go:45", after := #[{ on := 1, ground := Go.Ground.data }], guard := none }
def con12ffr34_3 : Oper := { dst := some 241, op := Go.Op.load 32 (Go.Operand.tmp 240), type := 32, pos := "terms.go:45", after := #[{ on := 2, ground := Go.Ground.data }], guard := none }
def con12ffr34_4 : Oper := { dst := some 242, op := Go.Op.move (Go.Operand.tmp 3), type := 23, pos := "terms.go:45", after := #[], guard := none }
def con12ffr34_5 : Oper := { dst := some 243, op := Go.Op.indexAddr 23 (Go.Operand.tmp 242) (Go.Operand.const (Go.Value.int Go.IntKind.i64 1)), type := 0, pos := "terms.go:45", after := #[{ on := 4, ground := Go.Ground.data }], guard := none }
def con12ffr34_6 : Oper := { dst := some 244, op := Go.Op.fieldAddr 34 (Go.Operand.tmp 243) 2, type := 0, pos := "terms.go:45", after := #[{ on := 5, ground := Go.Ground.data }], guard := none }
def con12ffr34_7 : Oper := { dst := some 245, op := Go.Op.load 32 (Go.Operand.tmp 244), type := 32, pos := "terms.go:45", after := #[{ on := 6, ground := Go.Ground.data }], guard := none }
def con12ffr34_8 : Oper := { dst := some 246, op := Go.Op.move (Go.Operand.tmp 3), type := 23, pos := "terms.go:45", after := #[], guard := none }
def con12ffr34_9 : Oper := { dst := some 247, op := Go.Op.indexAddr 23 (Go.Operand.tmp 246) (Go.Operand.const (Go.Value.int Go.IntKind.i64 0)), type := 0, pos := "terms.go:45", after := #[{ on := 8, ground := Go.Ground.data }], guard := none }
def con12ffr34_10 : Oper := { dst := some 248, op := Go.Op.fieldAddr 34 (Go.Operand.tmp 247) 4, type := 0, pos := "terms.go:45", after := #[{ on := 9, ground := Go.Ground.data }], guard := none }
def con12ffr34_11 : Oper := { dst := some 249, op := Go.Op.load 3 (Go.Operand.tmp 248), type := 3, pos := "terms.go:45", after := #[{ on := 10, ground := Go.Ground.data }], guard := none }
def con12ffr34_12 : Oper := { dst := some 250, op := Go.Op.call { callee := Go.Callee.value (Go.Operand.func 52), args := #[Go.Operand.tmp 241, Go.Operand.tmp 245, Go.Operand.tmp 249], argTypes := #[32, 32, 3] }, type := 34, pos := "terms.go:45", after := #[{ on := 3, ground := Go.Ground.data }, { on := 7, ground := Go.Ground.data }, { on := 11, ground := Go.Ground.data }], guard := none }
def con12ffr34_13 : Oper := { dst := some 251, op := Go.Op.move (Go.Operand.tmp 3), type := 23, pos := "terms.go:45", after := #[], guard := none }
def con12ffr34_14 : Oper := { dst := some 252, op := Go.Op.indexAddr 23 (Go.Operand.tmp 251) (Go.Operand.const (Go.Value.int Go.IntKind.i64 0)), type := 0, pos := "terms.go:45", after := #[{ on := 13, ground := Go.Ground.data }], guard := none }
def con12ffr34_15 : Oper := { dst := some 253, op := Go.Op.fieldAddr 34 (Go.Operand.tmp 252) 0, type := 0, pos := "terms.go:45", after := #[{ on := 14, ground := Go.Ground.data }], guard := none }
def con12ffr34_16 : Oper := { dst := some 254, op := Go.Op.load 4 (Go.Operand.tmp 253), type := 4, pos := "terms.go:45", after := #[{ on := 15, ground := Go.Ground.data }], guard := none }
def con12ffr34_17 : Oper := { dst := some 255, op := Go.Op.unOp Go.UnOp.not 4 (Go.Operand.tmp 254), type := 4, pos := "terms.go:45", after := #[{ on := 16, ground := Go.Ground.data }], guard := none }
def con12ffr34_18 : Oper := { dst := some 256, op := Go.Op.move (Go.Operand.tmp 255), type := 4, pos := "terms.go:45", after := #[{ on := 17, ground := Go.Ground.data }, { on := 12, ground := Go.Ground.chain }], guard := none }
def con12ffr34_19 : Oper := { dst := some 257, op := Go.Op.move (Go.Operand.tmp 3), type := 23, pos := "terms.go:45", after := #[{ on := 18, ground := Go.Ground.guard }], guard := some (18, true) }
def con12ffr34_20 : Oper := { dst := some 258, op := Go.Op.call { callee := Go.Callee.value (Go.Operand.func 64), args := #[Go.Operand.tmp 257], argTypes := #[23] }, type := 4, pos := "terms.go:45", after := #[{ on := 19, ground := Go.Ground.data }, { on := 18, ground := Go.Ground.chain }, { on := 18, ground := Go.Ground.guard }], guard := some (18, true) }
def con12ffr34_21 : Oper := { dst := some 259, op := Go.Op.pick (Go.Operand.tmp 256) (Go.Operand.tmp 258) (Go.Operand.const (Go.Value.bool false)), type := 4, pos := "terms.go:45", after := #[{ on := 18, ground := Go.Ground.data }, { on := 20, ground := Go.Ground.data }, { on := 22, ground := Go.Ground.gcOnly Go.Departure.lateStores }], guard := none }
def con12ffr34_22 : Oper := { dst := none, op := Go.Op.store 34 (Go.Operand.tmp 8) (Go.Operand.tmp 250), type := 0, pos := "terms.go:45", after := #[{ on := 12, ground := Go.Ground.data }, { on := 20, ground := Go.Ground.chain }, { on := 0, ground := Go.Ground.phase }, { on := 1, ground := Go.Ground.phase }, { on := 2, ground := Go.Ground.phase }, { on := 3, ground := Go.Ground.phase }, { on := 4, ground := Go.Ground.phase }, { on := 5, ground := Go.Ground.phase }, { on := 6, ground := Go.Ground.phase }, { on := 7, ground := Go.Ground.phase }, { on := 8, ground := Go.Ground.phase }, { on := 9, ground := Go.Ground.phase }, { on := 10, ground := Go.Ground.phase }, { on := 11, ground := Go.Ground.phase }, { on := 12, ground := Go.Ground.phase }, { on := 13, ground := Go.Ground.textOnly Go.Departure.lateStores }, { on := 14, ground := Go.Ground.textOnly Go.Departure.lateStores }, { on := 15, ground := Go.Ground.textOnly Go.Departure.lateStores }, { on := 16, ground := Go.Ground.textOnly Go.Departure.lateStores }, { on := 17, ground := Go.Ground.textOnly Go.Departure.lateStores }, { on := 18, ground := Go.Ground.textOnly Go.Departure.lateStores }, { on := 19, ground := Go.Ground.textOnly Go.Departure.lateStores }, { on := 20, ground := Go.Ground.textOnly Go.Departure.lateStoresUnsure }, { on := 21, ground := Go.Ground.textOnly Go.Departure.lateStores }], guard := none }
def con12ffr34_23 : Oper := { dst := some 9, op := Go.Op.assign (Go.Operand.tmp 259), type := 4, pos := "terms.go:45", after := #[{ on := 21, ground := Go.Ground.data }, { on := 22, ground := Go.Ground.chain }, { on := 0, ground := Go.Ground.phase }, { on := 1, ground := Go.Ground.phase }, { on := 2, ground := Go.Ground.phase }, { on := 3, ground := Go.Ground.phase }, { on := 4, ground := Go.Ground.phase }, { on := 5, ground := Go.Ground.phase }, { on := 6, ground := Go.Ground.phase }, { on := 7, ground := Go.Ground.phase }, { on := 8, ground := Go.Ground.phase }, { on := 9, ground := Go.Ground.phase }, { on := 10, ground := Go.Ground.phase }, { on := 11, ground := Go.Ground.phase }, { on := 12, ground := Go.Ground.phase }, { on := 13, ground := Go.Ground.phase }, { on := 14, ground := Go.Ground.phase }, { on := 15, ground := Go.Ground.phase }, { on := 16, ground := Go.Ground.phase }, { on := 17, ground := Go.Ground.phase }, { on := 18, ground := Go.Ground.phase }, { on := 19, ground := Go.Ground.phase }, { on := 20, ground := Go.Ground.phase }, { on := 21, ground := Go.Ground.phase }, { on := 22, ground := Go.Ground.phase }], guard := none }
set_option maxRecDepth 20000 in
set_option maxHeartbeats 4000000 in
theorem con12ff_any (i : Int) (i2 : Int) (c : List En) (u : Tm) (v : Tm) (x : Tm) (u2 : Tm) (v2 : Tm) (x2 : Tm) (P : Nat → Prop) (w : World) (sc : Value) (bon oon capon : Nat) (Con : Array Value) (Ton : TypeId) (fron : Nat × Nat) (su : Value) (sv : Value) (sx : Value) (su2 : Value) (sv2 : Value) (sx2 : Value) (hlc : LiesE w c sc) (hfu : u.fine) (hlu : LiesQ w P u.kids su) (hfv : v.fine) (hlv : LiesQ w P v.kids sv) (hfx : x.fine) (hlx : LiesQ w P x.kids sx) (hri : I64 i) (hfu2 : u2.fine) (hlu2 : LiesQ w P u2.kids su2) (hfv2 : v2.fine) (hlv2 : LiesQ w P v2.kids sv2) (hfx2 : x2.fine) (hlx2 : LiesQ w P x2.kids sx2) (hri2 : I64 i2) (hbon : w.heap[bon]? = some (.cells Con Ton fron)) (hson0 : (Con.toList.drop oon).take 17 = [.bool false, .int .i64 u.k, .int .i64 u.i, .int .i64 u.j, .int .i64 u.n, su, .int .i64 v.k, .int .i64 v.i, .int .i64 v.j, .int .i64 v.n, sv, .int .i64 x.k, .int .i64 x.i, .int .i64 x.j, .int .i64 x.n, sx, .int .i64 i]) (hson1 : (Con.toList.drop (oon + 17)).take 17 = [.bool false, .int .i64 u2.k, .int .i64 u2.i, .int .i64 u2.j, .int .i64 u2.n, su2, .int .i64 v2.k, .int .i64 v2.i, .int .i64 v2.j, .int .i64 v2.n, sv2, .int .i64 x2.k, .int .i64 x2.i, .int .i64 x2.j, .int .i64 x2.n, sx2, .int .i64 i2]) (hx0 : 0 ≤ x2.i) (hx1 : x2.i ≤ 2147483647) : Calls Try.prog 34 #[sc, .int .i64 12, .int .i64 0, .slice (some ⟨bon, oon, none⟩) 2 capon] w (GivesJT P ⟨false, u, .zero, v2, i⟩ false w) := by
  have HEc := Lib.hid hlc
  obtain ⟨ac, cc, Sc, rfl, -⟩ := hlc.out
  clear hlc
  have Gu := Lib.hid hfu
  clear hfu
  obtain ⟨au, cu, Su, rfl, -⟩ := hlu.out
  have Gv := Lib.hid hfv
  clear hfv
  obtain ⟨av, cv, Sv, rfl, -⟩ := hlv.out
  have Gx := Lib.hid hfx
  clear hfx
  obtain ⟨ax, cx, Sx, rfl, -⟩ := hlx.out
  have Ri := Lib.hid hri
  clear hri
  have Gu2 := Lib.hid hfu2
  clear hfu2
  obtain ⟨au2, cu2, Su2, rfl, -⟩ := hlu2.out
  have Gv2 := Lib.hid hfv2
  clear hfv2
  obtain ⟨av2, cv2, Sv2, rfl, -⟩ := hlv2.out
  have Gx2 := Lib.hid hfx2
  clear hfx2
  obtain ⟨ax2, cx2, Sx2, rfl, -⟩ := hlx2.out
  have Ri2 := Lib.hid hri2
  clear hri2
  have HNon : Hid (bon < w.heap.size) := block_lt hbon
  have HBon := Lib.hid hbon
  have HSon0 := Lib.hid hson0
  have HSon1 := Lib.hid hson1
  clear hbon hson0 hson1
  have HX0 := Lib.hid hx0
  have HX1 := Lib.hid hx1
  clear hx0 hx1
  obtain ⟨dj, dj1, dj2⟩ := under_of 34 (by kernel_rfl)
  obtain ⟨du, hu1, hu2⟩ := under_term
  go_enter Try.func34, Try.ntmps34
  go_upto_region 1 with fail
  refine at_code (fun V0 hV0 => ?_)
  obtain ⟨k2, x1, z3⟩ := alloc1 hV0
  have Kk4 := Lib.hid k2
  clear k2
  have Hx1 := Lib.hid x1
  have Z0 := Lib.hid z3
  clear z3 x1 hV0
  have HLu : Hid (LiesQ V0 (Par w V0.heap.size [] P) u.kids _) := (par_in _ _ hlu).later Kk4.out
  clear hlu
  have HLv : Hid (LiesQ V0 (Par w V0.heap.size [] P) v.kids _) := (par_in _ _ hlv).later Kk4.out
  clear hlv
  have HLx : Hid (LiesQ V0 (Par w V0.heap.size [] P) x.kids _) := (par_in _ _ hlx).later Kk4.out
  clear hlx
  have HLu2 : Hid (LiesQ V0 (Par w V0.heap.size [] P) u2.kids _) := (par_in _ _ hlu2).later Kk4.out
  clear hlu2
  have HLv2 : Hid (LiesQ V0 (Par w V0.heap.size [] P) v2.kids _) := (par_in _ _ hlv2).later Kk4.out
  clear hlv2
  have HLx2 : Hid (LiesQ V0 (Par w V0.heap.size [] P) x2.kids _) := (par_in _ _ hlx2).later Kk4.out
  clear hlx2
  have HBon := Lib.hid (blk_at HBon.out Kk4.out)
  have ld5 := part_cell (r := (w.heap.size)) HBon.out (by have := HNon.out; have := Z0.out; omega) (oon) (.bool false) (row_cellW HSon0.out 0 (by decide))
  have ld6 := part_cell (r := (w.heap.size)) HBon.out (by have := HNon.out; have := Z0.out; omega) (oon + 16) (.int .i64 i) (row_cellW HSon0.out 16 (by decide))
  have ld7 := part_cell (r := (w.heap.size)) HBon.out (by have := HNon.out; have := Z0.out; omega) (oon + 17) (.bool false) (row_cellW HSon1.out 0 (by decide))
  have ld8 := part_cell (r := (w.heap.size)) HBon.out (by have := HNon.out; have := Z0.out; omega) (oon + 17 + 16) (.int .i64 i2) (row_cellW HSon1.out 16 (by decide))
  have kvV0 : Sees V0 (w.heap.size) V0 := sees_kept _ (kept_refl _)
  go_wp2_with fail
  clear kvV0
  obtain ⟨W9, h10⟩ : ∃ x, World.drew V0 = x := ⟨_, rfl⟩
  have k11 : Kept V0 W9 := by rw [← h10]; exact kept_drew (kept_refl _)
  have Kk12 := Lib.hid k11
  clear k11
  refine wp_region_held_drew (S := Sees W9 (w.heap.size)) (by kernel_rfl) ?_ (fun hHeld => ?_)
  · (try dsimp only)
    rw [h10]
    exact sees_kept _ (kept_refl _)
  rw [h10] at hHeld ⊢
  clear h10
  refine take_at 0 238 con12ffr34_0 (v := ?_) (Or.inl ⟨by rfl, ?_⟩) ?_
  rotate_left 1
  · ((intro w hSw; (try dsimp only at hSw); unfold con12ffr34_0; go_simp) <;> with_reducible rfl)
  (try simp only [Act.put, List.setIfInBounds_toArray, List.set_cons_zero, List.set_cons_succ])
  refine take_at 1 239 con12ffr34_1 (v := ?_) (Or.inl ⟨by rfl, ?_⟩) ?_
  rotate_left 1
  · ((intro w hSw; (try dsimp only at hSw); unfold con12ffr34_1; go_simp) <;> with_reducible rfl)
  (try simp only [Act.put, List.setIfInBounds_toArray, List.set_cons_zero, List.set_cons_succ])
  refine take_at 2 240 con12ffr34_2 (v := ?_) (Or.inl ⟨by rfl, ?_⟩) ?_
  rotate_left 1
  · ((intro w hSw; (try dsimp only at hSw); unfold con12ffr34_2; go_simp) <;> with_reducible rfl)
  (try simp only [Act.put, List.setIfInBounds_toArray, List.set_cons_zero, List.set_cons_succ])
  refine take_at 3 241 con12ffr34_3 (yields_part (bon) (oon + 1) 32 (.tmp 240) #[.int .i64 u.k, .int .i64 u.i, .int .i64 u.j, .int .i64 u.n, (.slice au u.kids.length cu)] du (fun _ h => sees_blk HBon.out (by have := HNon.out; have := Z0.out; omega) (sees_of Kk12.out h)) (by rfl) rfl (by rfl) (row_subW HSon0.out 1 5 (by decide)) hu1 (by cases du <;> first | rfl | exact hu2) size_term) ?_
  (try simp only [Act.put, List.setIfInBounds_toArray, List.set_cons_zero, List.set_cons_succ])
  refine take_at 4 242 con12ffr34_4 (v := ?_) (Or.inl ⟨by rfl, ?_⟩) ?_
  rotate_left 1
  · ((intro w hSw; (try dsimp only at hSw); unfold con12ffr34_4; go_simp) <;> with_reducible rfl)
  (try simp only [Act.put, List.setIfInBounds_toArray, List.set_cons_zero, List.set_cons_succ])
  refine take_at 5 243 con12ffr34_5 (v := ?_) (Or.inl ⟨by rfl, ?_⟩) ?_
  rotate_left 1
  · ((intro w hSw; (try dsimp only at hSw); unfold con12ffr34_5; go_simp) <;> with_reducible rfl)
  (try simp only [Act.put, List.setIfInBounds_toArray, List.set_cons_zero, List.set_cons_succ])
  refine take_at 6 244 con12ffr34_6 (v := ?_) (Or.inl ⟨by rfl, ?_⟩) ?_
  rotate_left 1
  · ((intro w hSw; (try dsimp only at hSw); unfold con12ffr34_6; go_simp) <;> with_reducible rfl)
  (try simp only [Act.put, List.setIfInBounds_toArray, List.set_cons_zero, List.set_cons_succ])
  refine take_at 7 245 con12ffr34_7 (yields_part (bon) (oon + 17 + 6) 32 (.tmp 244) #[.int .i64 v2.k, .int .i64 v2.i, .int .i64 v2.j, .int .i64 v2.n, (.slice av2 v2.kids.length cv2)] du (fun _ h => sees_blk HBon.out (by have := HNon.out; have := Z0.out; omega) (sees_of Kk12.out h)) (by rfl) rfl (by rfl) (row_subW HSon1.out 6 5 (by decide)) hu1 (by cases du <;> first | rfl | exact hu2) size_term) ?_
  (try simp only [Act.put, List.setIfInBounds_toArray, List.set_cons_zero, List.set_cons_succ])
  refine take_at 8 246 con12ffr34_8 (v := ?_) (Or.inl ⟨by rfl, ?_⟩) ?_
  rotate_left 1
  · ((intro w hSw; (try dsimp only at hSw); unfold con12ffr34_8; go_simp) <;> with_reducible rfl)
  (try simp only [Act.put, List.setIfInBounds_toArray, List.set_cons_zero, List.set_cons_succ])
  refine take_at 9 247 con12ffr34_9 (v := ?_) (Or.inl ⟨by rfl, ?_⟩) ?_
  rotate_left 1
  · ((intro w hSw; (try dsimp only at hSw); unfold con12ffr34_9; go_simp) <;> with_reducible rfl)
  (try simp only [Act.put, List.setIfInBounds_toArray, List.set_cons_zero, List.set_cons_succ])
  refine take_at 10 248 con12ffr34_10 (v := ?_) (Or.inl ⟨by rfl, ?_⟩) ?_
  rotate_left 1
  · ((intro w hSw; (try dsimp only at hSw); unfold con12ffr34_10; go_simp) <;> with_reducible rfl)
  (try simp only [Act.put, List.setIfInBounds_toArray, List.set_cons_zero, List.set_cons_succ])
  refine take_at 11 249 con12ffr34_11 (v := ?_) (Or.inl ⟨by rfl, ?_⟩) ?_
  rotate_left 1
  · ((intro w hSw; (try dsimp only at hSw); have qV0 := sees_of Kk12.out hSw; unfold con12ffr34_11; go_simp) <;> with_reducible rfl)
  (try simp only [Act.put, List.setIfInBounds_toArray, List.set_cons_zero, List.set_cons_succ])
  refine take_at 13 251 con12ffr34_13 (v := ?_) (Or.inl ⟨by rfl, ?_⟩) ?_
  rotate_left 1
  · ((intro w hSw; (try dsimp only at hSw); unfold con12ffr34_13; go_simp) <;> with_reducible rfl)
  (try simp only [Act.put, List.setIfInBounds_toArray, List.set_cons_zero, List.set_cons_succ])
  refine take_at 14 252 con12ffr34_14 (v := ?_) (Or.inl ⟨by rfl, ?_⟩) ?_
  rotate_left 1
  · ((intro w hSw; (try dsimp only at hSw); unfold con12ffr34_14; go_simp) <;> with_reducible rfl)
  (try simp only [Act.put, List.setIfInBounds_toArray, List.set_cons_zero, List.set_cons_succ])
  refine take_at 15 253 con12ffr34_15 (v := ?_) (Or.inl ⟨by rfl, ?_⟩) ?_
  rotate_left 1
  · ((intro w hSw; (try dsimp only at hSw); unfold con12ffr34_15; go_simp) <;> with_reducible rfl)
  (try simp only [Act.put, List.setIfInBounds_toArray, List.set_cons_zero, List.set_cons_succ])
  refine take_at 16 254 con12ffr34_16 (v := ?_) (Or.inl ⟨by rfl, ?_⟩) ?_
  rotate_left 1
  · ((intro w hSw; (try dsimp only at hSw); have qV0 := sees_of Kk12.out hSw; unfold con12ffr34_16; go_simp) <;> with_reducible rfl)
  (try simp only [Act.put, List.setIfInBounds_toArray, List.set_cons_zero, List.set_cons_succ])
  refine take_at 17 255 con12ffr34_17 (v := ?_) (Or.inl ⟨by rfl, ?_⟩) ?_
  rotate_left 1
  · ((intro w hSw; (try dsimp only at hSw); unfold con12ffr34_17; go_simp) <;> with_reducible rfl)
  (try simp only [Act.put, List.setIfInBounds_toArray, List.set_cons_zero, List.set_cons_succ])
  refine wpAnyH_ready (rs := [12]) (by kernel_rfl) (by simp) ?_
  refine AllReadyH.cons (o := con12ffr34_12) rfl (fun K hK => ?_) ?_
  · unfold con12ffr34_12
    go_simp
    refine (rof_any i u v2 (Par w V0.heap.size [] P) _ ((.slice au u.kids.length cu)) ((.slice av2 v2.kids.length cv2)) Gu.out (HLu.out.later Kk12.out) Gv2.out (HLv2.out.later Kk12.out) Ri.out).mono ?_
    rintro e w13 ⟨s15, s16, s17, rfl, ⟨hl18, hl19, hl20⟩, k14⟩
    obtain ⟨a21, c22, S23, rfl, -⟩ := hl18.out
    obtain ⟨a24, c25, S26, rfl, -⟩ := hl19.out
    obtain ⟨a27, c28, S29, rfl, -⟩ := hl20.out
    have Kk30 := Lib.hid k14
    clear k14
    have Hhl18 : Hid (LiesQ w13 (Par w V0.heap.size [] P) u.kids _) := par_give hl18 (Below.size Kk12.out) (xlt_nil _)
    have Hhl19 : Hid (LiesQ w13 (Par w V0.heap.size [] P) Tm.zero.kids _) := par_give hl19 (Below.size Kk12.out) (xlt_nil _)
    have Hhl20 : Hid (LiesQ w13 (Par w V0.heap.size [] P) v2.kids _) := par_give hl20 (Below.size Kk12.out) (xlt_nil _)
    clear hl18 hl19 hl20
    clear hHeld
    refine hK.out _ _ (sees_kept _ Kk30.out) (fun hHeld => ?_)
    clear hK K
    (try simp only [])
    refine take_at 18 256 con12ffr34_18 (v := ?_) (Or.inl ⟨by rfl, ?_⟩) ?_
    rotate_left 1
    · ((intro w hSw; (try dsimp only at hSw); unfold con12ffr34_18; go_simp) <;> with_reducible rfl)
    (try simp only [Act.put, List.setIfInBounds_toArray, List.set_cons_zero, List.set_cons_succ])
    refine take_at 19 257 con12ffr34_19 (v := ?_) (Or.inl ⟨by rfl, ?_⟩) ?_
    rotate_left 1
    · ((intro w hSw; (try dsimp only at hSw); unfold con12ffr34_19; go_simp) <;> with_reducible rfl)
    (try simp only [Act.put, List.setIfInBounds_toArray, List.set_cons_zero, List.set_cons_succ])
    refine wpAnyH_ready (rs := [20]) (by kernel_rfl) (by simp) ?_
    refine AllReadyH.cons (o := con12ffr34_20) rfl (fun K hK => ?_) ?_
    · unfold con12ffr34_20
      go_simp
      refine (conv0_any i i2 u v x u2 v2 x2 (Par w V0.heap.size [] P) w13 bon oon capon _ _ _ ((.slice au u.kids.length cu)) ((.slice av v.kids.length cv)) ((.slice ax x.kids.length cx)) ((.slice au2 u2.kids.length cu2)) ((.slice av2 v2.kids.length cv2)) ((.slice ax2 x2.kids.length cx2)) Gu.out (HLu.out.later (kept_trans Kk12.out Kk30.out)) Gv.out (HLv.out.later (kept_trans Kk12.out Kk30.out)) Gx.out (HLx.out.later (kept_trans Kk12.out Kk30.out)) Ri.out Gu2.out (HLu2.out.later (kept_trans Kk12.out Kk30.out)) Gv2.out (HLv2.out.later (kept_trans Kk12.out Kk30.out)) Gx2.out (HLx2.out.later (kept_trans Kk12.out Kk30.out)) Ri2.out (blk_at HBon.out (kept_trans Kk12.out Kk30.out)) HSon0.out HSon1.out HX0.out HX1.out).mono ?_
      rintro e w31 ⟨rfl, k32⟩
      have Kk33 := Lib.hid k32
      clear k32
      clear hHeld
      refine hK.out _ _ (sees_kept _ (kept_trans Kk30.out Kk33.out)) (fun hHeld => ?_)
      clear hK K
      (try simp only [Act.put, List.setIfInBounds_toArray, List.set_cons_zero, List.set_cons_succ])
      refine take_at 21 259 con12ffr34_21 (v := ?_) (Or.inl ⟨by rfl, ?_⟩) ?_
      rotate_left 1
      · ((intro w hSw; (try dsimp only at hSw); unfold con12ffr34_21; go_simp) <;> with_reducible rfl)
      (try simp only [])
      refine wpAnyH_ready (rs := [22]) (by kernel_rfl) (by simp) ?_
      refine AllReadyH.cons (o := con12ffr34_22) rfl (fun K hK => ?_) ?_
      · unfold con12ffr34_22
        refine step_store_part rfl 34 (.tmp 8) (.tmp 250) rfl (w.heap.size) 0 #[.bool false, .int .i64 u.k, .int .i64 u.i, .int .i64 u.j, .int .i64 u.n, (.slice a21 u.kids.length c22), .int .i64 Tm.zero.k, .int .i64 Tm.zero.i, .int .i64 Tm.zero.j, .int .i64 Tm.zero.n, (.slice a24 Tm.zero.kids.length c25), .int .i64 v2.k, .int .i64 v2.i, .int .i64 v2.j, .int .i64 v2.n, (.slice a27 v2.kids.length c28), .int .i64 i] rfl rfl 34 (by kernel_rfl) (row_ok rfl) _ #[.bool false, .int .i64 u.k, .int .i64 u.i, .int .i64 u.j, .int .i64 u.n, (.slice a21 u.kids.length c22), .int .i64 Tm.zero.k, .int .i64 Tm.zero.i, .int .i64 Tm.zero.j, .int .i64 Tm.zero.n, (.slice a24 Tm.zero.kids.length c25), .int .i64 v2.k, .int .i64 v2.i, .int .i64 v2.j, .int .i64 v2.n, (.slice a27 v2.kids.length c28), .int .i64 i] (blk_at Hx1.out (kept_trans Kk12.out (kept_trans Kk30.out Kk33.out))) rfl (Nat.le_of_ble_eq_true rfl) ?_
        intro W34 hW34
        clear hHeld
        refine hK.out _ _ (sees_set (kept_trans Kk30.out Kk33.out) hW34) (fun hHeld => ?_)
        clear hK K
        (try simp only [Act.put])
        refine take_at 23 9 con12ffr34_23 (v := ?_) (Or.inl ⟨by rfl, ?_⟩) ?_
        rotate_left 1
        · ((intro w hSw; (try dsimp only at hSw); unfold con12ffr34_23; go_simp) <;> with_reducible rfl)
        (try simp only [Act.put, List.setIfInBounds_toArray, List.set_cons_zero, List.set_cons_succ])
        refine wpAnyH_done (by kernel_rfl) ?_ _
        clear hHeld
        go_wp2_with fail
        (try simp only [Exit.inBlock, Exit.then])
        refine bodyPost_ret (results_cell_tmp rfl _ _ (w.heap.size) 34 _ _ dj rfl (blk_same (blk_at Hx1.out (kept_trans Kk12.out (kept_trans Kk30.out Kk33.out))) hW34) dj1 (by cases dj <;> first | rfl | exact dj2) (by kernel_rfl)) rfl ?_
        have jz38 := Z0.out
        have jq35 := par_end (par_row' (Hhl18.out.later Kk33.out) hW34 (by omega) (by omega)) (by omega)
        have jq36 := par_end (par_row' (Hhl19.out.later Kk33.out) hW34 (by omega) (by omega)) (by omega)
        have jq37 := par_end (par_row' (Hhl20.out.later Kk33.out) hW34 (by omega) (by omega)) (by omega)
        exact ⟨_, _, _, rfl, ⟨jq35, jq36, jq37⟩, kept_set (kept_trans Kk4.out (kept_trans Kk12.out (kept_trans Kk30.out Kk33.out))) hW34 (by omega)⟩
      exact AllReadyH.nil
    exact AllReadyH.nil
  exact AllReadyH.nil

def con12ftr34_0 : Oper := { dst := some 238, op := Go.Op.move (Go.Operand.tmp 3), type := 23, pos := "terms.go:45", after := #[], guard := none }
def con12ftr34_1 : Oper := { dst := some 239, op := Go.Op.indexAddr 23 (Go.Operand.tmp 238) (Go.Operand.const (Go.Value.int Go.IntKind.i64 0)), type := 0, pos := "terms.go:45", after := #[{ on := 0, ground := Go.Ground.data }], guard := none }
def con12ftr34_2 : Oper := { dst := some 240, op := Go.Op.fieldAddr 34 (Go.Operand.tmp 239) 1, type := 0, pos := "terms.go:45", after := #[{ on := 1, ground := Go.Ground.data }], guard := none }
def con12ftr34_3 : Oper := { dst := some 241, op := Go.Op.load 32 (Go.Operand.tmp 240), type := 32, pos := "terms.go:45", after := #[{ on := 2, ground := Go.Ground.data }], guard := none }
def con12ftr34_4 : Oper := { dst := some 242, op := Go.Op.move (Go.Operand.tmp 3), type := 23, pos := "terms.go:45", after := #[], guard := none }
def con12ftr34_5 : Oper := { dst := some 243, op := Go.Op.indexAddr 23 (Go.Operand.tmp 242) (Go.Operand.const (Go.Value.int Go.IntKind.i64 1)), type := 0, pos := "terms.go:45", after := #[{ on := 4, ground := Go.Ground.data }], guard := none }
def con12ftr34_6 : Oper := { dst := some 244, op := Go.Op.fieldAddr 34 (Go.Operand.tmp 243) 2, type := 0, pos := "terms.go:45", after := #[{ on := 5, ground := Go.Ground.data }], guard := none }
def con12ftr34_7 : Oper := { dst := some 245, op := Go.Op.load 32 (Go.Operand.tmp 244), type := 32, pos := "terms.go:45", after := #[{ on := 6, ground := Go.Ground.data }], guard := none }
def con12ftr34_8 : Oper := { dst := some 246, op := Go.Op.move (Go.Operand.tmp 3), type := 23, pos := "terms.go:45", after := #[], guard := none }
def con12ftr34_9 : Oper := { dst := some 247, op := Go.Op.indexAddr 23 (Go.Operand.tmp 246) (Go.Operand.const (Go.Value.int Go.IntKind.i64 0)), type := 0, pos := "terms.go:45", after := #[{ on := 8, ground := Go.Ground.data }], guard := none }
def con12ftr34_10 : Oper := { dst := some 248, op := Go.Op.fieldAddr 34 (Go.Operand.tmp 247) 4, type := 0, pos := "terms.go:45", after := #[{ on := 9, ground := Go.Ground.data }], guard := none }
def con12ftr34_11 : Oper := { dst := some 249, op := Go.Op.load 3 (Go.Operand.tmp 248), type := 3, pos := "terms.go:45", after := #[{ on := 10, ground := Go.Ground.data }], guard := none }
def con12ftr34_12 : Oper := { dst := some 250, op := Go.Op.call { callee := Go.Callee.value (Go.Operand.func 52), args := #[Go.Operand.tmp 241, Go.Operand.tmp 245, Go.Operand.tmp 249], argTypes := #[32, 32, 3] }, type := 34, pos := "terms.go:45", after := #[{ on := 3, ground := Go.Ground.data }, { on := 7, ground := Go.Ground.data }, { on := 11, ground := Go.Ground.data }], guard := none }
def con12ftr34_13 : Oper := { dst := some 251, op := Go.Op.move (Go.Operand.tmp 3), type := 23, pos := "terms.go:45", after := #[], guard := none }
def con12ftr34_14 : Oper := { dst := some 252, op := Go.Op.indexAddr 23 (Go.Operand.tmp 251) (Go.Operand.const (Go.Value.int Go.IntKind.i64 0)), type := 0, pos := "terms.go:45", after := #[{ on := 13, ground := Go.Ground.data }], guard := none }
def con12ftr34_15 : Oper := { dst := some 253, op := Go.Op.fieldAddr 34 (Go.Operand.tmp 252) 0, type := 0, pos := "terms.go:45", after := #[{ on := 14, ground := Go.Ground.data }], guard := none }
def con12ftr34_16 : Oper := { dst := some 254, op := Go.Op.load 4 (Go.Operand.tmp 253), type := 4, pos := "terms.go:45", after := #[{ on := 15, ground := Go.Ground.data }], guard := none }
def con12ftr34_17 : Oper := { dst := some 255, op := Go.Op.unOp Go.UnOp.not 4 (Go.Operand.tmp 254), type := 4, pos := "terms.go:45", after := #[{ on := 16, ground := Go.Ground.data }], guard := none }
def con12ftr34_18 : Oper := { dst := some 256, op := Go.Op.move (Go.Operand.tmp 255), type := 4, pos := "terms.go:45", after := #[{ on := 17, ground := Go.Ground.data }, { on := 12, ground := Go.Ground.chain }], guard := none }
def con12ftr34_19 : Oper := { dst := some 257, op := Go.Op.move (Go.Operand.tmp 3), type := 23, pos := "terms.go:45", after := #[{ on := 18, ground := Go.Ground.guard }], guard := some (18, true) }
def con12ftr34_20 : Oper := { dst := some 258, op := Go.Op.call { callee := Go.Callee.value (Go.Operand.func 64), args := #[Go.Operand.tmp 257], argTypes := #[23] }, type := 4, pos := "terms.go:45", after := #[{ on := 19, ground := Go.Ground.data }, { on := 18, ground := Go.Ground.chain }, { on := 18, ground := Go.Ground.guard }], guard := some (18, true) }
def con12ftr34_21 : Oper := { dst := some 259, op := Go.Op.pick (Go.Operand.tmp 256) (Go.Operand.tmp 258) (Go.Operand.const (Go.Value.bool false)), type := 4, pos := "terms.go:45", after := #[{ on := 18, ground := Go.Ground.data }, { on := 20, ground := Go.Ground.data }, { on := 22, ground := Go.Ground.gcOnly Go.Departure.lateStores }], guard := none }
def con12ftr34_22 : Oper := { dst := none, op := Go.Op.store 34 (Go.Operand.tmp 8) (Go.Operand.tmp 250), type := 0, pos := "terms.go:45", after := #[{ on := 12, ground := Go.Ground.data }, { on := 20, ground := Go.Ground.chain }, { on := 0, ground := Go.Ground.phase }, { on := 1, ground := Go.Ground.phase }, { on := 2, ground := Go.Ground.phase }, { on := 3, ground := Go.Ground.phase }, { on := 4, ground := Go.Ground.phase }, { on := 5, ground := Go.Ground.phase }, { on := 6, ground := Go.Ground.phase }, { on := 7, ground := Go.Ground.phase }, { on := 8, ground := Go.Ground.phase }, { on := 9, ground := Go.Ground.phase }, { on := 10, ground := Go.Ground.phase }, { on := 11, ground := Go.Ground.phase }, { on := 12, ground := Go.Ground.phase }, { on := 13, ground := Go.Ground.textOnly Go.Departure.lateStores }, { on := 14, ground := Go.Ground.textOnly Go.Departure.lateStores }, { on := 15, ground := Go.Ground.textOnly Go.Departure.lateStores }, { on := 16, ground := Go.Ground.textOnly Go.Departure.lateStores }, { on := 17, ground := Go.Ground.textOnly Go.Departure.lateStores }, { on := 18, ground := Go.Ground.textOnly Go.Departure.lateStores }, { on := 19, ground := Go.Ground.textOnly Go.Departure.lateStores }, { on := 20, ground := Go.Ground.textOnly Go.Departure.lateStoresUnsure }, { on := 21, ground := Go.Ground.textOnly Go.Departure.lateStores }], guard := none }
def con12ftr34_23 : Oper := { dst := some 9, op := Go.Op.assign (Go.Operand.tmp 259), type := 4, pos := "terms.go:45", after := #[{ on := 21, ground := Go.Ground.data }, { on := 22, ground := Go.Ground.chain }, { on := 0, ground := Go.Ground.phase }, { on := 1, ground := Go.Ground.phase }, { on := 2, ground := Go.Ground.phase }, { on := 3, ground := Go.Ground.phase }, { on := 4, ground := Go.Ground.phase }, { on := 5, ground := Go.Ground.phase }, { on := 6, ground := Go.Ground.phase }, { on := 7, ground := Go.Ground.phase }, { on := 8, ground := Go.Ground.phase }, { on := 9, ground := Go.Ground.phase }, { on := 10, ground := Go.Ground.phase }, { on := 11, ground := Go.Ground.phase }, { on := 12, ground := Go.Ground.phase }, { on := 13, ground := Go.Ground.phase }, { on := 14, ground := Go.Ground.phase }, { on := 15, ground := Go.Ground.phase }, { on := 16, ground := Go.Ground.phase }, { on := 17, ground := Go.Ground.phase }, { on := 18, ground := Go.Ground.phase }, { on := 19, ground := Go.Ground.phase }, { on := 20, ground := Go.Ground.phase }, { on := 21, ground := Go.Ground.phase }, { on := 22, ground := Go.Ground.phase }], guard := none }
set_option maxRecDepth 20000 in
set_option maxHeartbeats 4000000 in
theorem con12ft_any (i : Int) (i2 : Int) (c : List En) (u : Tm) (v : Tm) (x : Tm) (u2 : Tm) (v2 : Tm) (x2 : Tm) (P : Nat → Prop) (w : World) (sc : Value) (bon oon capon : Nat) (Con : Array Value) (Ton : TypeId) (fron : Nat × Nat) (su : Value) (sv : Value) (sx : Value) (su2 : Value) (sv2 : Value) (sx2 : Value) (hlc : LiesE w c sc) (hfu : u.fine) (hlu : LiesQ w P u.kids su) (hfv : v.fine) (hlv : LiesQ w P v.kids sv) (hfx : x.fine) (hlx : LiesQ w P x.kids sx) (hri : I64 i) (hfu2 : u2.fine) (hlu2 : LiesQ w P u2.kids su2) (hfv2 : v2.fine) (hlv2 : LiesQ w P v2.kids sv2) (hfx2 : x2.fine) (hlx2 : LiesQ w P x2.kids sx2) (hri2 : I64 i2) (hbon : w.heap[bon]? = some (.cells Con Ton fron)) (hson0 : (Con.toList.drop oon).take 17 = [.bool false, .int .i64 u.k, .int .i64 u.i, .int .i64 u.j, .int .i64 u.n, su, .int .i64 v.k, .int .i64 v.i, .int .i64 v.j, .int .i64 v.n, sv, .int .i64 x.k, .int .i64 x.i, .int .i64 x.j, .int .i64 x.n, sx, .int .i64 i]) (hson1 : (Con.toList.drop (oon + 17)).take 17 = [.bool true, .int .i64 u2.k, .int .i64 u2.i, .int .i64 u2.j, .int .i64 u2.n, su2, .int .i64 v2.k, .int .i64 v2.i, .int .i64 v2.j, .int .i64 v2.n, sv2, .int .i64 x2.k, .int .i64 x2.i, .int .i64 x2.j, .int .i64 x2.n, sx2, .int .i64 i2]) (hx0 : 0 ≤ x2.i) (hx1 : x2.i ≤ 2147483647) : Calls Try.prog 34 #[sc, .int .i64 12, .int .i64 0, .slice (some ⟨bon, oon, none⟩) 2 capon] w (GivesJT P ⟨false, u, .zero, v2, i⟩ (cvB i x u2 x2 i2) w) := by
  have HEc := Lib.hid hlc
  obtain ⟨ac, cc, Sc, rfl, -⟩ := hlc.out
  clear hlc
  have Gu := Lib.hid hfu
  clear hfu
  obtain ⟨au, cu, Su, rfl, -⟩ := hlu.out
  have Gv := Lib.hid hfv
  clear hfv
  obtain ⟨av, cv, Sv, rfl, -⟩ := hlv.out
  have Gx := Lib.hid hfx
  clear hfx
  obtain ⟨ax, cx, Sx, rfl, -⟩ := hlx.out
  have Ri := Lib.hid hri
  clear hri
  have Gu2 := Lib.hid hfu2
  clear hfu2
  obtain ⟨au2, cu2, Su2, rfl, -⟩ := hlu2.out
  have Gv2 := Lib.hid hfv2
  clear hfv2
  obtain ⟨av2, cv2, Sv2, rfl, -⟩ := hlv2.out
  have Gx2 := Lib.hid hfx2
  clear hfx2
  obtain ⟨ax2, cx2, Sx2, rfl, -⟩ := hlx2.out
  have Ri2 := Lib.hid hri2
  clear hri2
  have HNon : Hid (bon < w.heap.size) := block_lt hbon
  have HBon := Lib.hid hbon
  have HSon0 := Lib.hid hson0
  have HSon1 := Lib.hid hson1
  clear hbon hson0 hson1
  have HX0 := Lib.hid hx0
  have HX1 := Lib.hid hx1
  clear hx0 hx1
  obtain ⟨dj, dj1, dj2⟩ := under_of 34 (by kernel_rfl)
  obtain ⟨du, hu1, hu2⟩ := under_term
  go_enter Try.func34, Try.ntmps34
  go_upto_region 1 with fail
  refine at_code (fun V0 hV0 => ?_)
  obtain ⟨k2, x1, z3⟩ := alloc1 hV0
  have Kk4 := Lib.hid k2
  clear k2
  have Hx1 := Lib.hid x1
  have Z0 := Lib.hid z3
  clear z3 x1 hV0
  have HLu : Hid (LiesQ V0 (Par w V0.heap.size [] P) u.kids _) := (par_in _ _ hlu).later Kk4.out
  clear hlu
  have HLv : Hid (LiesQ V0 (Par w V0.heap.size [] P) v.kids _) := (par_in _ _ hlv).later Kk4.out
  clear hlv
  have HLx : Hid (LiesQ V0 (Par w V0.heap.size [] P) x.kids _) := (par_in _ _ hlx).later Kk4.out
  clear hlx
  have HLu2 : Hid (LiesQ V0 (Par w V0.heap.size [] P) u2.kids _) := (par_in _ _ hlu2).later Kk4.out
  clear hlu2
  have HLv2 : Hid (LiesQ V0 (Par w V0.heap.size [] P) v2.kids _) := (par_in _ _ hlv2).later Kk4.out
  clear hlv2
  have HLx2 : Hid (LiesQ V0 (Par w V0.heap.size [] P) x2.kids _) := (par_in _ _ hlx2).later Kk4.out
  clear hlx2
  have HBon := Lib.hid (blk_at HBon.out Kk4.out)
  have ld5 := part_cell (r := (w.heap.size)) HBon.out (by have := HNon.out; have := Z0.out; omega) (oon) (.bool false) (row_cellW HSon0.out 0 (by decide))
  have ld6 := part_cell (r := (w.heap.size)) HBon.out (by have := HNon.out; have := Z0.out; omega) (oon + 16) (.int .i64 i) (row_cellW HSon0.out 16 (by decide))
  have ld7 := part_cell (r := (w.heap.size)) HBon.out (by have := HNon.out; have := Z0.out; omega) (oon + 17) (.bool true) (row_cellW HSon1.out 0 (by decide))
  have ld8 := part_cell (r := (w.heap.size)) HBon.out (by have := HNon.out; have := Z0.out; omega) (oon + 17 + 16) (.int .i64 i2) (row_cellW HSon1.out 16 (by decide))
  have kvV0 : Sees V0 (w.heap.size) V0 := sees_kept _ (kept_refl _)
  go_wp2_with fail
  clear kvV0
  obtain ⟨W9, h10⟩ : ∃ x, World.drew V0 = x := ⟨_, rfl⟩
  have k11 : Kept V0 W9 := by rw [← h10]; exact kept_drew (kept_refl _)
  have Kk12 := Lib.hid k11
  clear k11
  refine wp_region_held_drew (S := Sees W9 (w.heap.size)) (by kernel_rfl) ?_ (fun hHeld => ?_)
  · (try dsimp only)
    rw [h10]
    exact sees_kept _ (kept_refl _)
  rw [h10] at hHeld ⊢
  clear h10
  refine take_at 0 238 con12ftr34_0 (v := ?_) (Or.inl ⟨by rfl, ?_⟩) ?_
  rotate_left 1
  · ((intro w hSw; (try dsimp only at hSw); unfold con12ftr34_0; go_simp) <;> with_reducible rfl)
  (try simp only [Act.put, List.setIfInBounds_toArray, List.set_cons_zero, List.set_cons_succ])
  refine take_at 1 239 con12ftr34_1 (v := ?_) (Or.inl ⟨by rfl, ?_⟩) ?_
  rotate_left 1
  · ((intro w hSw; (try dsimp only at hSw); unfold con12ftr34_1; go_simp) <;> with_reducible rfl)
  (try simp only [Act.put, List.setIfInBounds_toArray, List.set_cons_zero, List.set_cons_succ])
  refine take_at 2 240 con12ftr34_2 (v := ?_) (Or.inl ⟨by rfl, ?_⟩) ?_
  rotate_left 1
  · ((intro w hSw; (try dsimp only at hSw); unfold con12ftr34_2; go_simp) <;> with_reducible rfl)
  (try simp only [Act.put, List.setIfInBounds_toArray, List.set_cons_zero, List.set_cons_succ])
  refine take_at 3 241 con12ftr34_3 (yields_part (bon) (oon + 1) 32 (.tmp 240) #[.int .i64 u.k, .int .i64 u.i, .int .i64 u.j, .int .i64 u.n, (.slice au u.kids.length cu)] du (fun _ h => sees_blk HBon.out (by have := HNon.out; have := Z0.out; omega) (sees_of Kk12.out h)) (by rfl) rfl (by rfl) (row_subW HSon0.out 1 5 (by decide)) hu1 (by cases du <;> first | rfl | exact hu2) size_term) ?_
  (try simp only [Act.put, List.setIfInBounds_toArray, List.set_cons_zero, List.set_cons_succ])
  refine take_at 4 242 con12ftr34_4 (v := ?_) (Or.inl ⟨by rfl, ?_⟩) ?_
  rotate_left 1
  · ((intro w hSw; (try dsimp only at hSw); unfold con12ftr34_4; go_simp) <;> with_reducible rfl)
  (try simp only [Act.put, List.setIfInBounds_toArray, List.set_cons_zero, List.set_cons_succ])
  refine take_at 5 243 con12ftr34_5 (v := ?_) (Or.inl ⟨by rfl, ?_⟩) ?_
  rotate_left 1
  · ((intro w hSw; (try dsimp only at hSw); unfold con12ftr34_5; go_simp) <;> with_reducible rfl)
  (try simp only [Act.put, List.setIfInBounds_toArray, List.set_cons_zero, List.set_cons_succ])
  refine take_at 6 244 con12ftr34_6 (v := ?_) (Or.inl ⟨by rfl, ?_⟩) ?_
  rotate_left 1
  · ((intro w hSw; (try dsimp only at hSw); unfold con12ftr34_6; go_simp) <;> with_reducible rfl)
  (try simp only [Act.put, List.setIfInBounds_toArray, List.set_cons_zero, List.set_cons_succ])
  refine take_at 7 245 con12ftr34_7 (yields_part (bon) (oon + 17 + 6) 32 (.tmp 244) #[.int .i64 v2.k, .int .i64 v2.i, .int .i64 v2.j, .int .i64 v2.n, (.slice av2 v2.kids.length cv2)] du (fun _ h => sees_blk HBon.out (by have := HNon.out; have := Z0.out; omega) (sees_of Kk12.out h)) (by rfl) rfl (by rfl) (row_subW HSon1.out 6 5 (by decide)) hu1 (by cases du <;> first | rfl | exact hu2) size_term) ?_
  (try simp only [Act.put, List.setIfInBounds_toArray, List.set_cons_zero, List.set_cons_succ])
  refine take_at 8 246 con12ftr34_8 (v := ?_) (Or.inl ⟨by rfl, ?_⟩) ?_
  rotate_left 1
  · ((intro w hSw; (try dsimp only at hSw); unfold con12ftr34_8; go_simp) <;> with_reducible rfl)
  (try simp only [Act.put, List.setIfInBounds_toArray, List.set_cons_zero, List.set_cons_succ])
  refine take_at 9 247 con12ftr34_9 (v := ?_) (Or.inl ⟨by rfl, ?_⟩) ?_
  rotate_left 1
  · ((intro w hSw; (try dsimp only at hSw); unfold con12ftr34_9; go_simp) <;> with_reducible rfl)
  (try simp only [Act.put, List.setIfInBounds_toArray, List.set_cons_zero, List.set_cons_succ])
  refine take_at 10 248 con12ftr34_10 (v := ?_) (Or.inl ⟨by rfl, ?_⟩) ?_
  rotate_left 1
  · ((intro w hSw; (try dsimp only at hSw); unfold con12ftr34_10; go_simp) <;> with_reducible rfl)
  (try simp only [Act.put, List.setIfInBounds_toArray, List.set_cons_zero, List.set_cons_succ])
  refine take_at 11 249 con12ftr34_11 (v := ?_) (Or.inl ⟨by rfl, ?_⟩) ?_
  rotate_left 1
  · ((intro w hSw; (try dsimp only at hSw); have qV0 := sees_of Kk12.out hSw; unfold con12ftr34_11; go_simp) <;> with_reducible rfl)
  (try simp only [Act.put, List.setIfInBounds_toArray, List.set_cons_zero, List.set_cons_succ])
  refine take_at 13 251 con12ftr34_13 (v := ?_) (Or.inl ⟨by rfl, ?_⟩) ?_
  rotate_left 1
  · ((intro w hSw; (try dsimp only at hSw); unfold con12ftr34_13; go_simp) <;> with_reducible rfl)
  (try simp only [Act.put, List.setIfInBounds_toArray, List.set_cons_zero, List.set_cons_succ])
  refine take_at 14 252 con12ftr34_14 (v := ?_) (Or.inl ⟨by rfl, ?_⟩) ?_
  rotate_left 1
  · ((intro w hSw; (try dsimp only at hSw); unfold con12ftr34_14; go_simp) <;> with_reducible rfl)
  (try simp only [Act.put, List.setIfInBounds_toArray, List.set_cons_zero, List.set_cons_succ])
  refine take_at 15 253 con12ftr34_15 (v := ?_) (Or.inl ⟨by rfl, ?_⟩) ?_
  rotate_left 1
  · ((intro w hSw; (try dsimp only at hSw); unfold con12ftr34_15; go_simp) <;> with_reducible rfl)
  (try simp only [Act.put, List.setIfInBounds_toArray, List.set_cons_zero, List.set_cons_succ])
  refine take_at 16 254 con12ftr34_16 (v := ?_) (Or.inl ⟨by rfl, ?_⟩) ?_
  rotate_left 1
  · ((intro w hSw; (try dsimp only at hSw); have qV0 := sees_of Kk12.out hSw; unfold con12ftr34_16; go_simp) <;> with_reducible rfl)
  (try simp only [Act.put, List.setIfInBounds_toArray, List.set_cons_zero, List.set_cons_succ])
  refine take_at 17 255 con12ftr34_17 (v := ?_) (Or.inl ⟨by rfl, ?_⟩) ?_
  rotate_left 1
  · ((intro w hSw; (try dsimp only at hSw); unfold con12ftr34_17; go_simp) <;> with_reducible rfl)
  (try simp only [Act.put, List.setIfInBounds_toArray, List.set_cons_zero, List.set_cons_succ])
  refine wpAnyH_ready (rs := [12]) (by kernel_rfl) (by simp) ?_
  refine AllReadyH.cons (o := con12ftr34_12) rfl (fun K hK => ?_) ?_
  · unfold con12ftr34_12
    go_simp
    refine (rof_any i u v2 (Par w V0.heap.size [] P) _ ((.slice au u.kids.length cu)) ((.slice av2 v2.kids.length cv2)) Gu.out (HLu.out.later Kk12.out) Gv2.out (HLv2.out.later Kk12.out) Ri.out).mono ?_
    rintro e w13 ⟨s15, s16, s17, rfl, ⟨hl18, hl19, hl20⟩, k14⟩
    obtain ⟨a21, c22, S23, rfl, -⟩ := hl18.out
    obtain ⟨a24, c25, S26, rfl, -⟩ := hl19.out
    obtain ⟨a27, c28, S29, rfl, -⟩ := hl20.out
    have Kk30 := Lib.hid k14
    clear k14
    have Hhl18 : Hid (LiesQ w13 (Par w V0.heap.size [] P) u.kids _) := par_give hl18 (Below.size Kk12.out) (xlt_nil _)
    have Hhl19 : Hid (LiesQ w13 (Par w V0.heap.size [] P) Tm.zero.kids _) := par_give hl19 (Below.size Kk12.out) (xlt_nil _)
    have Hhl20 : Hid (LiesQ w13 (Par w V0.heap.size [] P) v2.kids _) := par_give hl20 (Below.size Kk12.out) (xlt_nil _)
    clear hl18 hl19 hl20
    clear hHeld
    refine hK.out _ _ (sees_kept _ Kk30.out) (fun hHeld => ?_)
    clear hK K
    (try simp only [])
    refine take_at 18 256 con12ftr34_18 (v := ?_) (Or.inl ⟨by rfl, ?_⟩) ?_
    rotate_left 1
    · ((intro w hSw; (try dsimp only at hSw); unfold con12ftr34_18; go_simp) <;> with_reducible rfl)
    (try simp only [Act.put, List.setIfInBounds_toArray, List.set_cons_zero, List.set_cons_succ])
    refine take_at 19 257 con12ftr34_19 (v := ?_) (Or.inl ⟨by rfl, ?_⟩) ?_
    rotate_left 1
    · ((intro w hSw; (try dsimp only at hSw); unfold con12ftr34_19; go_simp) <;> with_reducible rfl)
    (try simp only [Act.put, List.setIfInBounds_toArray, List.set_cons_zero, List.set_cons_succ])
    refine wpAnyH_ready (rs := [20]) (by kernel_rfl) (by simp) ?_
    refine AllReadyH.cons (o := con12ftr34_20) rfl (fun K hK => ?_) ?_
    · unfold con12ftr34_20
      go_simp
      refine (conv1_any i i2 u v x u2 v2 x2 (Par w V0.heap.size [] P) w13 bon oon capon _ _ _ ((.slice au u.kids.length cu)) ((.slice av v.kids.length cv)) ((.slice ax x.kids.length cx)) ((.slice au2 u2.kids.length cu2)) ((.slice av2 v2.kids.length cv2)) ((.slice ax2 x2.kids.length cx2)) Gu.out (HLu.out.later (kept_trans Kk12.out Kk30.out)) Gv.out (HLv.out.later (kept_trans Kk12.out Kk30.out)) Gx.out (HLx.out.later (kept_trans Kk12.out Kk30.out)) Ri.out Gu2.out (HLu2.out.later (kept_trans Kk12.out Kk30.out)) Gv2.out (HLv2.out.later (kept_trans Kk12.out Kk30.out)) Gx2.out (HLx2.out.later (kept_trans Kk12.out Kk30.out)) Ri2.out (blk_at HBon.out (kept_trans Kk12.out Kk30.out)) HSon0.out HSon1.out HX0.out HX1.out).mono ?_
      rintro e w31 ⟨rfl, k32⟩
      have Kk33 := Lib.hid k32
      clear k32
      clear hHeld
      refine hK.out _ _ (sees_kept _ (kept_trans Kk30.out Kk33.out)) (fun hHeld => ?_)
      clear hK K
      (try simp only [Act.put, List.setIfInBounds_toArray, List.set_cons_zero, List.set_cons_succ])
      refine take_at 21 259 con12ftr34_21 (v := ?_) (Or.inl ⟨by rfl, ?_⟩) ?_
      rotate_left 1
      · ((intro w hSw; (try dsimp only at hSw); unfold con12ftr34_21; go_simp) <;> with_reducible rfl)
      (try simp only [])
      refine wpAnyH_ready (rs := [22]) (by kernel_rfl) (by simp) ?_
      refine AllReadyH.cons (o := con12ftr34_22) rfl (fun K hK => ?_) ?_
      · unfold con12ftr34_22
        refine step_store_part rfl 34 (.tmp 8) (.tmp 250) rfl (w.heap.size) 0 #[.bool false, .int .i64 u.k, .int .i64 u.i, .int .i64 u.j, .int .i64 u.n, (.slice a21 u.kids.length c22), .int .i64 Tm.zero.k, .int .i64 Tm.zero.i, .int .i64 Tm.zero.j, .int .i64 Tm.zero.n, (.slice a24 Tm.zero.kids.length c25), .int .i64 v2.k, .int .i64 v2.i, .int .i64 v2.j, .int .i64 v2.n, (.slice a27 v2.kids.length c28), .int .i64 i] rfl rfl 34 (by kernel_rfl) (row_ok rfl) _ #[.bool false, .int .i64 u.k, .int .i64 u.i, .int .i64 u.j, .int .i64 u.n, (.slice a21 u.kids.length c22), .int .i64 Tm.zero.k, .int .i64 Tm.zero.i, .int .i64 Tm.zero.j, .int .i64 Tm.zero.n, (.slice a24 Tm.zero.kids.length c25), .int .i64 v2.k, .int .i64 v2.i, .int .i64 v2.j, .int .i64 v2.n, (.slice a27 v2.kids.length c28), .int .i64 i] (blk_at Hx1.out (kept_trans Kk12.out (kept_trans Kk30.out Kk33.out))) rfl (Nat.le_of_ble_eq_true rfl) ?_
        intro W34 hW34
        clear hHeld
        refine hK.out _ _ (sees_set (kept_trans Kk30.out Kk33.out) hW34) (fun hHeld => ?_)
        clear hK K
        (try simp only [Act.put])
        refine take_at 23 9 con12ftr34_23 (v := ?_) (Or.inl ⟨by rfl, ?_⟩) ?_
        rotate_left 1
        · ((intro w hSw; (try dsimp only at hSw); unfold con12ftr34_23; go_simp) <;> with_reducible rfl)
        (try simp only [Act.put, List.setIfInBounds_toArray, List.set_cons_zero, List.set_cons_succ])
        refine wpAnyH_done (by kernel_rfl) ?_ _
        clear hHeld
        go_wp2_with fail
        (try simp only [Exit.inBlock, Exit.then])
        refine bodyPost_ret (results_cell_tmp rfl _ _ (w.heap.size) 34 _ _ dj rfl (blk_same (blk_at Hx1.out (kept_trans Kk12.out (kept_trans Kk30.out Kk33.out))) hW34) dj1 (by cases dj <;> first | rfl | exact dj2) (by kernel_rfl)) rfl ?_
        have jz38 := Z0.out
        have jq35 := par_end (par_row' (Hhl18.out.later Kk33.out) hW34 (by omega) (by omega)) (by omega)
        have jq36 := par_end (par_row' (Hhl19.out.later Kk33.out) hW34 (by omega) (by omega)) (by omega)
        have jq37 := par_end (par_row' (Hhl20.out.later Kk33.out) hW34 (by omega) (by omega)) (by omega)
        exact ⟨_, _, _, rfl, ⟨jq35, jq36, jq37⟩, kept_set (kept_trans Kk4.out (kept_trans Kk12.out (kept_trans Kk30.out Kk33.out))) hW34 (by omega)⟩
      exact AllReadyH.nil
    exact AllReadyH.nil
  exact AllReadyH.nil

def con12tfr34_0 : Oper := { dst := some 238, op := Go.Op.move (Go.Operand.tmp 3), type := 23, pos := "terms.go:45", after := #[], guard := none }
def con12tfr34_1 : Oper := { dst := some 239, op := Go.Op.indexAddr 23 (Go.Operand.tmp 238) (Go.Operand.const (Go.Value.int Go.IntKind.i64 0)), type := 0, pos := "terms.go:45", after := #[{ on := 0, ground := Go.Ground.data }], guard := none }
def con12tfr34_2 : Oper := { dst := some 240, op := Go.Op.fieldAddr 34 (Go.Operand.tmp 239) 1, type := 0, pos := "terms.go:45", after := #[{ on := 1, ground := Go.Ground.data }], guard := none }
def con12tfr34_3 : Oper := { dst := some 241, op := Go.Op.load 32 (Go.Operand.tmp 240), type := 32, pos := "terms.go:45", after := #[{ on := 2, ground := Go.Ground.data }], guard := none }
def con12tfr34_4 : Oper := { dst := some 242, op := Go.Op.move (Go.Operand.tmp 3), type := 23, pos := "terms.go:45", after := #[], guard := none }
def con12tfr34_5 : Oper := { dst := some 243, op := Go.Op.indexAddr 23 (Go.Operand.tmp 242) (Go.Operand.const (Go.Value.int Go.IntKind.i64 1)), type := 0, pos := "terms.go:45", after := #[{ on := 4, ground := Go.Ground.data }], guard := none }
def con12tfr34_6 : Oper := { dst := some 244, op := Go.Op.fieldAddr 34 (Go.Operand.tmp 243) 2, type := 0, pos := "terms.go:45", after := #[{ on := 5, ground := Go.Ground.data }], guard := none }
def con12tfr34_7 : Oper := { dst := some 245, op := Go.Op.load 32 (Go.Operand.tmp 244), type := 32, pos := "terms.go:45", after := #[{ on := 6, ground := Go.Ground.data }], guard := none }
def con12tfr34_8 : Oper := { dst := some 246, op := Go.Op.move (Go.Operand.tmp 3), type := 23, pos := "terms.go:45", after := #[], guard := none }
def con12tfr34_9 : Oper := { dst := some 247, op := Go.Op.indexAddr 23 (Go.Operand.tmp 246) (Go.Operand.const (Go.Value.int Go.IntKind.i64 0)), type := 0, pos := "terms.go:45", after := #[{ on := 8, ground := Go.Ground.data }], guard := none }
def con12tfr34_10 : Oper := { dst := some 248, op := Go.Op.fieldAddr 34 (Go.Operand.tmp 247) 4, type := 0, pos := "terms.go:45", after := #[{ on := 9, ground := Go.Ground.data }], guard := none }
def con12tfr34_11 : Oper := { dst := some 249, op := Go.Op.load 3 (Go.Operand.tmp 248), type := 3, pos := "terms.go:45", after := #[{ on := 10, ground := Go.Ground.data }], guard := none }
def con12tfr34_12 : Oper := { dst := some 250, op := Go.Op.call { callee := Go.Callee.value (Go.Operand.func 52), args := #[Go.Operand.tmp 241, Go.Operand.tmp 245, Go.Operand.tmp 249], argTypes := #[32, 32, 3] }, type := 34, pos := "terms.go:45", after := #[{ on := 3, ground := Go.Ground.data }, { on := 7, ground := Go.Ground.data }, { on := 11, ground := Go.Ground.data }], guard := none }
def con12tfr34_13 : Oper := { dst := some 251, op := Go.Op.move (Go.Operand.tmp 3), type := 23, pos := "terms.go:45", after := #[], guard := none }
def con12tfr34_14 : Oper := { dst := some 252, op := Go.Op.indexAddr 23 (Go.Operand.tmp 251) (Go.Operand.const (Go.Value.int Go.IntKind.i64 0)), type := 0, pos := "terms.go:45", after := #[{ on := 13, ground := Go.Ground.data }], guard := none }
def con12tfr34_15 : Oper := { dst := some 253, op := Go.Op.fieldAddr 34 (Go.Operand.tmp 252) 0, type := 0, pos := "terms.go:45", after := #[{ on := 14, ground := Go.Ground.data }], guard := none }
def con12tfr34_16 : Oper := { dst := some 254, op := Go.Op.load 4 (Go.Operand.tmp 253), type := 4, pos := "terms.go:45", after := #[{ on := 15, ground := Go.Ground.data }], guard := none }
def con12tfr34_17 : Oper := { dst := some 255, op := Go.Op.unOp Go.UnOp.not 4 (Go.Operand.tmp 254), type := 4, pos := "terms.go:45", after := #[{ on := 16, ground := Go.Ground.data }], guard := none }
def con12tfr34_18 : Oper := { dst := some 256, op := Go.Op.move (Go.Operand.tmp 255), type := 4, pos := "terms.go:45", after := #[{ on := 17, ground := Go.Ground.data }, { on := 12, ground := Go.Ground.chain }], guard := none }
def con12tfr34_19 : Oper := { dst := some 257, op := Go.Op.move (Go.Operand.tmp 3), type := 23, pos := "terms.go:45", after := #[{ on := 18, ground := Go.Ground.guard }], guard := some (18, true) }
def con12tfr34_20 : Oper := { dst := some 258, op := Go.Op.call { callee := Go.Callee.value (Go.Operand.func 64), args := #[Go.Operand.tmp 257], argTypes := #[23] }, type := 4, pos := "terms.go:45", after := #[{ on := 19, ground := Go.Ground.data }, { on := 18, ground := Go.Ground.chain }, { on := 18, ground := Go.Ground.guard }], guard := some (18, true) }
def con12tfr34_21 : Oper := { dst := some 259, op := Go.Op.pick (Go.Operand.tmp 256) (Go.Operand.tmp 258) (Go.Operand.const (Go.Value.bool false)), type := 4, pos := "terms.go:45", after := #[{ on := 18, ground := Go.Ground.data }, { on := 20, ground := Go.Ground.data }, { on := 22, ground := Go.Ground.gcOnly Go.Departure.lateStores }], guard := none }
def con12tfr34_22 : Oper := { dst := none, op := Go.Op.store 34 (Go.Operand.tmp 8) (Go.Operand.tmp 250), type := 0, pos := "terms.go:45", after := #[{ on := 12, ground := Go.Ground.data }, { on := 20, ground := Go.Ground.chain }, { on := 0, ground := Go.Ground.phase }, { on := 1, ground := Go.Ground.phase }, { on := 2, ground := Go.Ground.phase }, { on := 3, ground := Go.Ground.phase }, { on := 4, ground := Go.Ground.phase }, { on := 5, ground := Go.Ground.phase }, { on := 6, ground := Go.Ground.phase }, { on := 7, ground := Go.Ground.phase }, { on := 8, ground := Go.Ground.phase }, { on := 9, ground := Go.Ground.phase }, { on := 10, ground := Go.Ground.phase }, { on := 11, ground := Go.Ground.phase }, { on := 12, ground := Go.Ground.phase }, { on := 13, ground := Go.Ground.textOnly Go.Departure.lateStores }, { on := 14, ground := Go.Ground.textOnly Go.Departure.lateStores }, { on := 15, ground := Go.Ground.textOnly Go.Departure.lateStores }, { on := 16, ground := Go.Ground.textOnly Go.Departure.lateStores }, { on := 17, ground := Go.Ground.textOnly Go.Departure.lateStores }, { on := 18, ground := Go.Ground.textOnly Go.Departure.lateStores }, { on := 19, ground := Go.Ground.textOnly Go.Departure.lateStores }, { on := 20, ground := Go.Ground.textOnly Go.Departure.lateStoresUnsure }, { on := 21, ground := Go.Ground.textOnly Go.Departure.lateStores }], guard := none }
def con12tfr34_23 : Oper := { dst := some 9, op := Go.Op.assign (Go.Operand.tmp 259), type := 4, pos := "terms.go:45", after := #[{ on := 21, ground := Go.Ground.data }, { on := 22, ground := Go.Ground.chain }, { on := 0, ground := Go.Ground.phase }, { on := 1, ground := Go.Ground.phase }, { on := 2, ground := Go.Ground.phase }, { on := 3, ground := Go.Ground.phase }, { on := 4, ground := Go.Ground.phase }, { on := 5, ground := Go.Ground.phase }, { on := 6, ground := Go.Ground.phase }, { on := 7, ground := Go.Ground.phase }, { on := 8, ground := Go.Ground.phase }, { on := 9, ground := Go.Ground.phase }, { on := 10, ground := Go.Ground.phase }, { on := 11, ground := Go.Ground.phase }, { on := 12, ground := Go.Ground.phase }, { on := 13, ground := Go.Ground.phase }, { on := 14, ground := Go.Ground.phase }, { on := 15, ground := Go.Ground.phase }, { on := 16, ground := Go.Ground.phase }, { on := 17, ground := Go.Ground.phase }, { on := 18, ground := Go.Ground.phase }, { on := 19, ground := Go.Ground.phase }, { on := 20, ground := Go.Ground.phase }, { on := 21, ground := Go.Ground.phase }, { on := 22, ground := Go.Ground.phase }], guard := none }
set_option maxRecDepth 20000 in
set_option maxHeartbeats 4000000 in
theorem con12tf_any (i : Int) (i2 : Int) (c : List En) (u : Tm) (v : Tm) (x : Tm) (u2 : Tm) (v2 : Tm) (x2 : Tm) (P : Nat → Prop) (w : World) (sc : Value) (bon oon capon : Nat) (Con : Array Value) (Ton : TypeId) (fron : Nat × Nat) (su : Value) (sv : Value) (sx : Value) (su2 : Value) (sv2 : Value) (sx2 : Value) (hlc : LiesE w c sc) (hfu : u.fine) (hlu : LiesQ w P u.kids su) (hfv : v.fine) (hlv : LiesQ w P v.kids sv) (hfx : x.fine) (hlx : LiesQ w P x.kids sx) (hri : I64 i) (hfu2 : u2.fine) (hlu2 : LiesQ w P u2.kids su2) (hfv2 : v2.fine) (hlv2 : LiesQ w P v2.kids sv2) (hfx2 : x2.fine) (hlx2 : LiesQ w P x2.kids sx2) (hri2 : I64 i2) (hbon : w.heap[bon]? = some (.cells Con Ton fron)) (hson0 : (Con.toList.drop oon).take 17 = [.bool true, .int .i64 u.k, .int .i64 u.i, .int .i64 u.j, .int .i64 u.n, su, .int .i64 v.k, .int .i64 v.i, .int .i64 v.j, .int .i64 v.n, sv, .int .i64 x.k, .int .i64 x.i, .int .i64 x.j, .int .i64 x.n, sx, .int .i64 i]) (hson1 : (Con.toList.drop (oon + 17)).take 17 = [.bool false, .int .i64 u2.k, .int .i64 u2.i, .int .i64 u2.j, .int .i64 u2.n, su2, .int .i64 v2.k, .int .i64 v2.i, .int .i64 v2.j, .int .i64 v2.n, sv2, .int .i64 x2.k, .int .i64 x2.i, .int .i64 x2.j, .int .i64 x2.n, sx2, .int .i64 i2]) (hx0 : 0 ≤ x2.i) (hx1 : x2.i ≤ 2147483647) : Calls Try.prog 34 #[sc, .int .i64 12, .int .i64 0, .slice (some ⟨bon, oon, none⟩) 2 capon] w (GivesJT P ⟨false, u, .zero, v2, i⟩ false w) := by
  have HEc := Lib.hid hlc
  obtain ⟨ac, cc, Sc, rfl, -⟩ := hlc.out
  clear hlc
  have Gu := Lib.hid hfu
  clear hfu
  obtain ⟨au, cu, Su, rfl, -⟩ := hlu.out
  have Gv := Lib.hid hfv
  clear hfv
  obtain ⟨av, cv, Sv, rfl, -⟩ := hlv.out
  have Gx := Lib.hid hfx
  clear hfx
  obtain ⟨ax, cx, Sx, rfl, -⟩ := hlx.out
  have Ri := Lib.hid hri
  clear hri
  have Gu2 := Lib.hid hfu2
  clear hfu2
  obtain ⟨au2, cu2, Su2, rfl, -⟩ := hlu2.out
  have Gv2 := Lib.hid hfv2
  clear hfv2
  obtain ⟨av2, cv2, Sv2, rfl, -⟩ := hlv2.out
  have Gx2 := Lib.hid hfx2
  clear hfx2
  obtain ⟨ax2, cx2, Sx2, rfl, -⟩ := hlx2.out
  have Ri2 := Lib.hid hri2
  clear hri2
  have HNon : Hid (bon < w.heap.size) := block_lt hbon
  have HBon := Lib.hid hbon
  have HSon0 := Lib.hid hson0
  have HSon1 := Lib.hid hson1
  clear hbon hson0 hson1
  have HX0 := Lib.hid hx0
  have HX1 := Lib.hid hx1
  clear hx0 hx1
  obtain ⟨dj, dj1, dj2⟩ := under_of 34 (by kernel_rfl)
  obtain ⟨du, hu1, hu2⟩ := under_term
  go_enter Try.func34, Try.ntmps34
  go_upto_region 1 with fail
  refine at_code (fun V0 hV0 => ?_)
  obtain ⟨k2, x1, z3⟩ := alloc1 hV0
  have Kk4 := Lib.hid k2
  clear k2
  have Hx1 := Lib.hid x1
  have Z0 := Lib.hid z3
  clear z3 x1 hV0
  have HLu : Hid (LiesQ V0 (Par w V0.heap.size [] P) u.kids _) := (par_in _ _ hlu).later Kk4.out
  clear hlu
  have HLv : Hid (LiesQ V0 (Par w V0.heap.size [] P) v.kids _) := (par_in _ _ hlv).later Kk4.out
  clear hlv
  have HLx : Hid (LiesQ V0 (Par w V0.heap.size [] P) x.kids _) := (par_in _ _ hlx).later Kk4.out
  clear hlx
  have HLu2 : Hid (LiesQ V0 (Par w V0.heap.size [] P) u2.kids _) := (par_in _ _ hlu2).later Kk4.out
  clear hlu2
  have HLv2 : Hid (LiesQ V0 (Par w V0.heap.size [] P) v2.kids _) := (par_in _ _ hlv2).later Kk4.out
  clear hlv2
  have HLx2 : Hid (LiesQ V0 (Par w V0.heap.size [] P) x2.kids _) := (par_in _ _ hlx2).later Kk4.out
  clear hlx2
  have HBon := Lib.hid (blk_at HBon.out Kk4.out)
  have ld5 := part_cell (r := (w.heap.size)) HBon.out (by have := HNon.out; have := Z0.out; omega) (oon) (.bool true) (row_cellW HSon0.out 0 (by decide))
  have ld6 := part_cell (r := (w.heap.size)) HBon.out (by have := HNon.out; have := Z0.out; omega) (oon + 16) (.int .i64 i) (row_cellW HSon0.out 16 (by decide))
  have ld7 := part_cell (r := (w.heap.size)) HBon.out (by have := HNon.out; have := Z0.out; omega) (oon + 17) (.bool false) (row_cellW HSon1.out 0 (by decide))
  have ld8 := part_cell (r := (w.heap.size)) HBon.out (by have := HNon.out; have := Z0.out; omega) (oon + 17 + 16) (.int .i64 i2) (row_cellW HSon1.out 16 (by decide))
  have kvV0 : Sees V0 (w.heap.size) V0 := sees_kept _ (kept_refl _)
  go_wp2_with fail
  clear kvV0
  obtain ⟨W9, h10⟩ : ∃ x, World.drew V0 = x := ⟨_, rfl⟩
  have k11 : Kept V0 W9 := by rw [← h10]; exact kept_drew (kept_refl _)
  have Kk12 := Lib.hid k11
  clear k11
  refine wp_region_held_drew (S := Sees W9 (w.heap.size)) (by kernel_rfl) ?_ (fun hHeld => ?_)
  · (try dsimp only)
    rw [h10]
    exact sees_kept _ (kept_refl _)
  rw [h10] at hHeld ⊢
  clear h10
  refine take_at 0 238 con12tfr34_0 (v := ?_) (Or.inl ⟨by rfl, ?_⟩) ?_
  rotate_left 1
  · ((intro w hSw; (try dsimp only at hSw); unfold con12tfr34_0; go_simp) <;> with_reducible rfl)
  (try simp only [Act.put, List.setIfInBounds_toArray, List.set_cons_zero, List.set_cons_succ])
  refine take_at 1 239 con12tfr34_1 (v := ?_) (Or.inl ⟨by rfl, ?_⟩) ?_
  rotate_left 1
  · ((intro w hSw; (try dsimp only at hSw); unfold con12tfr34_1; go_simp) <;> with_reducible rfl)
  (try simp only [Act.put, List.setIfInBounds_toArray, List.set_cons_zero, List.set_cons_succ])
  refine take_at 2 240 con12tfr34_2 (v := ?_) (Or.inl ⟨by rfl, ?_⟩) ?_
  rotate_left 1
  · ((intro w hSw; (try dsimp only at hSw); unfold con12tfr34_2; go_simp) <;> with_reducible rfl)
  (try simp only [Act.put, List.setIfInBounds_toArray, List.set_cons_zero, List.set_cons_succ])
  refine take_at 3 241 con12tfr34_3 (yields_part (bon) (oon + 1) 32 (.tmp 240) #[.int .i64 u.k, .int .i64 u.i, .int .i64 u.j, .int .i64 u.n, (.slice au u.kids.length cu)] du (fun _ h => sees_blk HBon.out (by have := HNon.out; have := Z0.out; omega) (sees_of Kk12.out h)) (by rfl) rfl (by rfl) (row_subW HSon0.out 1 5 (by decide)) hu1 (by cases du <;> first | rfl | exact hu2) size_term) ?_
  (try simp only [Act.put, List.setIfInBounds_toArray, List.set_cons_zero, List.set_cons_succ])
  refine take_at 4 242 con12tfr34_4 (v := ?_) (Or.inl ⟨by rfl, ?_⟩) ?_
  rotate_left 1
  · ((intro w hSw; (try dsimp only at hSw); unfold con12tfr34_4; go_simp) <;> with_reducible rfl)
  (try simp only [Act.put, List.setIfInBounds_toArray, List.set_cons_zero, List.set_cons_succ])
  refine take_at 5 243 con12tfr34_5 (v := ?_) (Or.inl ⟨by rfl, ?_⟩) ?_
  rotate_left 1
  · ((intro w hSw; (try dsimp only at hSw); unfold con12tfr34_5; go_simp) <;> with_reducible rfl)
  (try simp only [Act.put, List.setIfInBounds_toArray, List.set_cons_zero, List.set_cons_succ])
  refine take_at 6 244 con12tfr34_6 (v := ?_) (Or.inl ⟨by rfl, ?_⟩) ?_
  rotate_left 1
  · ((intro w hSw; (try dsimp only at hSw); unfold con12tfr34_6; go_simp) <;> with_reducible rfl)
  (try simp only [Act.put, List.setIfInBounds_toArray, List.set_cons_zero, List.set_cons_succ])
  refine take_at 7 245 con12tfr34_7 (yields_part (bon) (oon + 17 + 6) 32 (.tmp 244) #[.int .i64 v2.k, .int .i64 v2.i, .int .i64 v2.j, .int .i64 v2.n, (.slice av2 v2.kids.length cv2)] du (fun _ h => sees_blk HBon.out (by have := HNon.out; have := Z0.out; omega) (sees_of Kk12.out h)) (by rfl) rfl (by rfl) (row_subW HSon1.out 6 5 (by decide)) hu1 (by cases du <;> first | rfl | exact hu2) size_term) ?_
  (try simp only [Act.put, List.setIfInBounds_toArray, List.set_cons_zero, List.set_cons_succ])
  refine take_at 8 246 con12tfr34_8 (v := ?_) (Or.inl ⟨by rfl, ?_⟩) ?_
  rotate_left 1
  · ((intro w hSw; (try dsimp only at hSw); unfold con12tfr34_8; go_simp) <;> with_reducible rfl)
  (try simp only [Act.put, List.setIfInBounds_toArray, List.set_cons_zero, List.set_cons_succ])
  refine take_at 9 247 con12tfr34_9 (v := ?_) (Or.inl ⟨by rfl, ?_⟩) ?_
  rotate_left 1
  · ((intro w hSw; (try dsimp only at hSw); unfold con12tfr34_9; go_simp) <;> with_reducible rfl)
  (try simp only [Act.put, List.setIfInBounds_toArray, List.set_cons_zero, List.set_cons_succ])
  refine take_at 10 248 con12tfr34_10 (v := ?_) (Or.inl ⟨by rfl, ?_⟩) ?_
  rotate_left 1
  · ((intro w hSw; (try dsimp only at hSw); unfold con12tfr34_10; go_simp) <;> with_reducible rfl)
  (try simp only [Act.put, List.setIfInBounds_toArray, List.set_cons_zero, List.set_cons_succ])
  refine take_at 11 249 con12tfr34_11 (v := ?_) (Or.inl ⟨by rfl, ?_⟩) ?_
  rotate_left 1
  · ((intro w hSw; (try dsimp only at hSw); have qV0 := sees_of Kk12.out hSw; unfold con12tfr34_11; go_simp) <;> with_reducible rfl)
  (try simp only [Act.put, List.setIfInBounds_toArray, List.set_cons_zero, List.set_cons_succ])
  refine take_at 13 251 con12tfr34_13 (v := ?_) (Or.inl ⟨by rfl, ?_⟩) ?_
  rotate_left 1
  · ((intro w hSw; (try dsimp only at hSw); unfold con12tfr34_13; go_simp) <;> with_reducible rfl)
  (try simp only [Act.put, List.setIfInBounds_toArray, List.set_cons_zero, List.set_cons_succ])
  refine take_at 14 252 con12tfr34_14 (v := ?_) (Or.inl ⟨by rfl, ?_⟩) ?_
  rotate_left 1
  · ((intro w hSw; (try dsimp only at hSw); unfold con12tfr34_14; go_simp) <;> with_reducible rfl)
  (try simp only [Act.put, List.setIfInBounds_toArray, List.set_cons_zero, List.set_cons_succ])
  refine take_at 15 253 con12tfr34_15 (v := ?_) (Or.inl ⟨by rfl, ?_⟩) ?_
  rotate_left 1
  · ((intro w hSw; (try dsimp only at hSw); unfold con12tfr34_15; go_simp) <;> with_reducible rfl)
  (try simp only [Act.put, List.setIfInBounds_toArray, List.set_cons_zero, List.set_cons_succ])
  refine take_at 16 254 con12tfr34_16 (v := ?_) (Or.inl ⟨by rfl, ?_⟩) ?_
  rotate_left 1
  · ((intro w hSw; (try dsimp only at hSw); have qV0 := sees_of Kk12.out hSw; unfold con12tfr34_16; go_simp) <;> with_reducible rfl)
  (try simp only [Act.put, List.setIfInBounds_toArray, List.set_cons_zero, List.set_cons_succ])
  refine take_at 17 255 con12tfr34_17 (v := ?_) (Or.inl ⟨by rfl, ?_⟩) ?_
  rotate_left 1
  · ((intro w hSw; (try dsimp only at hSw); unfold con12tfr34_17; go_simp) <;> with_reducible rfl)
  (try simp only [Act.put, List.setIfInBounds_toArray, List.set_cons_zero, List.set_cons_succ])
  refine wpAnyH_ready (rs := [12]) (by kernel_rfl) (by simp) ?_
  refine AllReadyH.cons (o := con12tfr34_12) rfl (fun K hK => ?_) ?_
  · unfold con12tfr34_12
    go_simp
    refine (rof_any i u v2 (Par w V0.heap.size [] P) _ ((.slice au u.kids.length cu)) ((.slice av2 v2.kids.length cv2)) Gu.out (HLu.out.later Kk12.out) Gv2.out (HLv2.out.later Kk12.out) Ri.out).mono ?_
    rintro e w13 ⟨s15, s16, s17, rfl, ⟨hl18, hl19, hl20⟩, k14⟩
    obtain ⟨a21, c22, S23, rfl, -⟩ := hl18.out
    obtain ⟨a24, c25, S26, rfl, -⟩ := hl19.out
    obtain ⟨a27, c28, S29, rfl, -⟩ := hl20.out
    have Kk30 := Lib.hid k14
    clear k14
    have Hhl18 : Hid (LiesQ w13 (Par w V0.heap.size [] P) u.kids _) := par_give hl18 (Below.size Kk12.out) (xlt_nil _)
    have Hhl19 : Hid (LiesQ w13 (Par w V0.heap.size [] P) Tm.zero.kids _) := par_give hl19 (Below.size Kk12.out) (xlt_nil _)
    have Hhl20 : Hid (LiesQ w13 (Par w V0.heap.size [] P) v2.kids _) := par_give hl20 (Below.size Kk12.out) (xlt_nil _)
    clear hl18 hl19 hl20
    clear hHeld
    refine hK.out _ _ (sees_kept _ Kk30.out) (fun hHeld => ?_)
    clear hK K
    (try simp only [])
    refine take_at 18 256 con12tfr34_18 (v := ?_) (Or.inl ⟨by rfl, ?_⟩) ?_
    rotate_left 1
    · ((intro w hSw; (try dsimp only at hSw); unfold con12tfr34_18; go_simp) <;> with_reducible rfl)
    (try simp only [Act.put, List.setIfInBounds_toArray, List.set_cons_zero, List.set_cons_succ])
    refine take_at 19 257 con12tfr34_19 (v := undef) (Or.inr ⟨by rfl, rfl⟩) ?_
    (try simp only [Act.put, List.setIfInBounds_toArray, List.set_cons_zero, List.set_cons_succ])
    refine take_at 20 258 con12tfr34_20 (v := undef) (Or.inr ⟨by rfl, rfl⟩) ?_
    (try simp only [Act.put, List.setIfInBounds_toArray, List.set_cons_zero, List.set_cons_succ])
    refine take_at 21 259 con12tfr34_21 (v := ?_) (Or.inl ⟨by rfl, ?_⟩) ?_
    rotate_left 1
    · ((intro w hSw; (try dsimp only at hSw); unfold con12tfr34_21; go_simp) <;> with_reducible rfl)
    (try simp only [])
    refine wpAnyH_ready (rs := [22]) (by kernel_rfl) (by simp) ?_
    refine AllReadyH.cons (o := con12tfr34_22) rfl (fun K hK => ?_) ?_
    · unfold con12tfr34_22
      refine step_store_part rfl 34 (.tmp 8) (.tmp 250) rfl (w.heap.size) 0 #[.bool false, .int .i64 u.k, .int .i64 u.i, .int .i64 u.j, .int .i64 u.n, (.slice a21 u.kids.length c22), .int .i64 Tm.zero.k, .int .i64 Tm.zero.i, .int .i64 Tm.zero.j, .int .i64 Tm.zero.n, (.slice a24 Tm.zero.kids.length c25), .int .i64 v2.k, .int .i64 v2.i, .int .i64 v2.j, .int .i64 v2.n, (.slice a27 v2.kids.length c28), .int .i64 i] rfl rfl 34 (by kernel_rfl) (row_ok rfl) _ #[.bool false, .int .i64 u.k, .int .i64 u.i, .int .i64 u.j, .int .i64 u.n, (.slice a21 u.kids.length c22), .int .i64 Tm.zero.k, .int .i64 Tm.zero.i, .int .i64 Tm.zero.j, .int .i64 Tm.zero.n, (.slice a24 Tm.zero.kids.length c25), .int .i64 v2.k, .int .i64 v2.i, .int .i64 v2.j, .int .i64 v2.n, (.slice a27 v2.kids.length c28), .int .i64 i] (blk_at Hx1.out (kept_trans Kk12.out Kk30.out)) rfl (Nat.le_of_ble_eq_true rfl) ?_
      intro W31 hW31
      clear hHeld
      refine hK.out _ _ (sees_set Kk30.out hW31) (fun hHeld => ?_)
      clear hK K
      (try simp only [Act.put])
      refine take_at 23 9 con12tfr34_23 (v := ?_) (Or.inl ⟨by rfl, ?_⟩) ?_
      rotate_left 1
      · ((intro w hSw; (try dsimp only at hSw); unfold con12tfr34_23; go_simp) <;> with_reducible rfl)
      (try simp only [Act.put, List.setIfInBounds_toArray, List.set_cons_zero, List.set_cons_succ])
      refine wpAnyH_done (by kernel_rfl) ?_ _
      clear hHeld
      go_wp2_with fail
      (try simp only [Exit.inBlock, Exit.then])
      refine bodyPost_ret (results_cell_tmp rfl _ _ (w.heap.size) 34 _ _ dj rfl (blk_same (blk_at Hx1.out (kept_trans Kk12.out Kk30.out)) hW31) dj1 (by cases dj <;> first | rfl | exact dj2) (by kernel_rfl)) rfl ?_
      have jz35 := Z0.out
      have jq32 := par_end (par_row' Hhl18.out hW31 (by omega) (by omega)) (by omega)
      have jq33 := par_end (par_row' Hhl19.out hW31 (by omega) (by omega)) (by omega)
      have jq34 := par_end (par_row' Hhl20.out hW31 (by omega) (by omega)) (by omega)
      exact ⟨_, _, _, rfl, ⟨jq32, jq33, jq34⟩, kept_set (kept_trans Kk4.out (kept_trans Kk12.out Kk30.out)) hW31 (by omega)⟩
    exact AllReadyH.nil
  exact AllReadyH.nil

def con12ttr34_0 : Oper := { dst := some 238, op := Go.Op.move (Go.Operand.tmp 3), type := 23, pos := "terms.go:45", after := #[], guard := none }
def con12ttr34_1 : Oper := { dst := some 239, op := Go.Op.indexAddr 23 (Go.Operand.tmp 238) (Go.Operand.const (Go.Value.int Go.IntKind.i64 0)), type := 0, pos := "terms.go:45", after := #[{ on := 0, ground := Go.Ground.data }], guard := none }
def con12ttr34_2 : Oper := { dst := some 240, op := Go.Op.fieldAddr 34 (Go.Operand.tmp 239) 1, type := 0, pos := "terms.go:45", after := #[{ on := 1, ground := Go.Ground.data }], guard := none }
def con12ttr34_3 : Oper := { dst := some 241, op := Go.Op.load 32 (Go.Operand.tmp 240), type := 32, pos := "terms.go:45", after := #[{ on := 2, ground := Go.Ground.data }], guard := none }
def con12ttr34_4 : Oper := { dst := some 242, op := Go.Op.move (Go.Operand.tmp 3), type := 23, pos := "terms.go:45", after := #[], guard := none }
def con12ttr34_5 : Oper := { dst := some 243, op := Go.Op.indexAddr 23 (Go.Operand.tmp 242) (Go.Operand.const (Go.Value.int Go.IntKind.i64 1)), type := 0, pos := "terms.go:45", after := #[{ on := 4, ground := Go.Ground.data }], guard := none }
def con12ttr34_6 : Oper := { dst := some 244, op := Go.Op.fieldAddr 34 (Go.Operand.tmp 243) 2, type := 0, pos := "terms.go:45", after := #[{ on := 5, ground := Go.Ground.data }], guard := none }
def con12ttr34_7 : Oper := { dst := some 245, op := Go.Op.load 32 (Go.Operand.tmp 244), type := 32, pos := "terms.go:45", after := #[{ on := 6, ground := Go.Ground.data }], guard := none }
def con12ttr34_8 : Oper := { dst := some 246, op := Go.Op.move (Go.Operand.tmp 3), type := 23, pos := "terms.go:45", after := #[], guard := none }
def con12ttr34_9 : Oper := { dst := some 247, op := Go.Op.indexAddr 23 (Go.Operand.tmp 246) (Go.Operand.const (Go.Value.int Go.IntKind.i64 0)), type := 0, pos := "terms.go:45", after := #[{ on := 8, ground := Go.Ground.data }], guard := none }
def con12ttr34_10 : Oper := { dst := some 248, op := Go.Op.fieldAddr 34 (Go.Operand.tmp 247) 4, type := 0, pos := "terms.go:45", after := #[{ on := 9, ground := Go.Ground.data }], guard := none }
def con12ttr34_11 : Oper := { dst := some 249, op := Go.Op.load 3 (Go.Operand.tmp 248), type := 3, pos := "terms.go:45", after := #[{ on := 10, ground := Go.Ground.data }], guard := none }
def con12ttr34_12 : Oper := { dst := some 250, op := Go.Op.call { callee := Go.Callee.value (Go.Operand.func 52), args := #[Go.Operand.tmp 241, Go.Operand.tmp 245, Go.Operand.tmp 249], argTypes := #[32, 32, 3] }, type := 34, pos := "terms.go:45", after := #[{ on := 3, ground := Go.Ground.data }, { on := 7, ground := Go.Ground.data }, { on := 11, ground := Go.Ground.data }], guard := none }
def con12ttr34_13 : Oper := { dst := some 251, op := Go.Op.move (Go.Operand.tmp 3), type := 23, pos := "terms.go:45", after := #[], guard := none }
def con12ttr34_14 : Oper := { dst := some 252, op := Go.Op.indexAddr 23 (Go.Operand.tmp 251) (Go.Operand.const (Go.Value.int Go.IntKind.i64 0)), type := 0, pos := "terms.go:45", after := #[{ on := 13, ground := Go.Ground.data }], guard := none }
def con12ttr34_15 : Oper := { dst := some 253, op := Go.Op.fieldAddr 34 (Go.Operand.tmp 252) 0, type := 0, pos := "terms.go:45", after := #[{ on := 14, ground := Go.Ground.data }], guard := none }
def con12ttr34_16 : Oper := { dst := some 254, op := Go.Op.load 4 (Go.Operand.tmp 253), type := 4, pos := "terms.go:45", after := #[{ on := 15, ground := Go.Ground.data }], guard := none }
def con12ttr34_17 : Oper := { dst := some 255, op := Go.Op.unOp Go.UnOp.not 4 (Go.Operand.tmp 254), type := 4, pos := "terms.go:45", after := #[{ on := 16, ground := Go.Ground.data }], guard := none }
def con12ttr34_18 : Oper := { dst := some 256, op := Go.Op.move (Go.Operand.tmp 255), type := 4, pos := "terms.go:45", after := #[{ on := 17, ground := Go.Ground.data }, { on := 12, ground := Go.Ground.chain }], guard := none }
def con12ttr34_19 : Oper := { dst := some 257, op := Go.Op.move (Go.Operand.tmp 3), type := 23, pos := "terms.go:45", after := #[{ on := 18, ground := Go.Ground.guard }], guard := some (18, true) }
def con12ttr34_20 : Oper := { dst := some 258, op := Go.Op.call { callee := Go.Callee.value (Go.Operand.func 64), args := #[Go.Operand.tmp 257], argTypes := #[23] }, type := 4, pos := "terms.go:45", after := #[{ on := 19, ground := Go.Ground.data }, { on := 18, ground := Go.Ground.chain }, { on := 18, ground := Go.Ground.guard }], guard := some (18, true) }
def con12ttr34_21 : Oper := { dst := some 259, op := Go.Op.pick (Go.Operand.tmp 256) (Go.Operand.tmp 258) (Go.Operand.const (Go.Value.bool false)), type := 4, pos := "terms.go:45", after := #[{ on := 18, ground := Go.Ground.data }, { on := 20, ground := Go.Ground.data }, { on := 22, ground := Go.Ground.gcOnly Go.Departure.lateStores }], guard := none }
def con12ttr34_22 : Oper := { dst := none, op := Go.Op.store 34 (Go.Operand.tmp 8) (Go.Operand.tmp 250), type := 0, pos := "terms.go:45", after := #[{ on := 12, ground := Go.Ground.data }, { on := 20, ground := Go.Ground.chain }, { on := 0, ground := Go.Ground.phase }, { on := 1, ground := Go.Ground.phase }, { on := 2, ground := Go.Ground.phase }, { on := 3, ground := Go.Ground.phase }, { on := 4, ground := Go.Ground.phase }, { on := 5, ground := Go.Ground.phase }, { on := 6, ground := Go.Ground.phase }, { on := 7, ground := Go.Ground.phase }, { on := 8, ground := Go.Ground.phase }, { on := 9, ground := Go.Ground.phase }, { on := 10, ground := Go.Ground.phase }, { on := 11, ground := Go.Ground.phase }, { on := 12, ground := Go.Ground.phase }, { on := 13, ground := Go.Ground.textOnly Go.Departure.lateStores }, { on := 14, ground := Go.Ground.textOnly Go.Departure.lateStores }, { on := 15, ground := Go.Ground.textOnly Go.Departure.lateStores }, { on := 16, ground := Go.Ground.textOnly Go.Departure.lateStores }, { on := 17, ground := Go.Ground.textOnly Go.Departure.lateStores }, { on := 18, ground := Go.Ground.textOnly Go.Departure.lateStores }, { on := 19, ground := Go.Ground.textOnly Go.Departure.lateStores }, { on := 20, ground := Go.Ground.textOnly Go.Departure.lateStoresUnsure }, { on := 21, ground := Go.Ground.textOnly Go.Departure.lateStores }], guard := none }
def con12ttr34_23 : Oper := { dst := some 9, op := Go.Op.assign (Go.Operand.tmp 259), type := 4, pos := "terms.go:45", after := #[{ on := 21, ground := Go.Ground.data }, { on := 22, ground := Go.Ground.chain }, { on := 0, ground := Go.Ground.phase }, { on := 1, ground := Go.Ground.phase }, { on := 2, ground := Go.Ground.phase }, { on := 3, ground := Go.Ground.phase }, { on := 4, ground := Go.Ground.phase }, { on := 5, ground := Go.Ground.phase }, { on := 6, ground := Go.Ground.phase }, { on := 7, ground := Go.Ground.phase }, { on := 8, ground := Go.Ground.phase }, { on := 9, ground := Go.Ground.phase }, { on := 10, ground := Go.Ground.phase }, { on := 11, ground := Go.Ground.phase }, { on := 12, ground := Go.Ground.phase }, { on := 13, ground := Go.Ground.phase }, { on := 14, ground := Go.Ground.phase }, { on := 15, ground := Go.Ground.phase }, { on := 16, ground := Go.Ground.phase }, { on := 17, ground := Go.Ground.phase }, { on := 18, ground := Go.Ground.phase }, { on := 19, ground := Go.Ground.phase }, { on := 20, ground := Go.Ground.phase }, { on := 21, ground := Go.Ground.phase }, { on := 22, ground := Go.Ground.phase }], guard := none }
end Go.Proofs.Ytjlppnmckobcfaa
