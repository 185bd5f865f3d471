/-
  RuleRight holds: for every input the call returns true, and the arguments read as before. No condition.
-/
import Derived.OrdersHeld
import Derived.Below
import Derived.Laws.Rows
import Derived.Laws.CopyRow
import Derived.KernelRfl
import Derived.WalkKit
import Derived.Lib.Hide
import Derived.Lib.MinMax
import Derived.Deep.RegionHeld3
import Derived.Test.YtmicgbdcbjajiaaRows
import Derived.Deep.RegionWith
import Derived.Deep.AppendLies
import Derived.Laws.IdiomCopy
import Derived.Deep.Slices
import Derived.Deep.QuietTactic
import Derived.BigQuiet
import Derived.Lib.QuietBelow
import Derived.StillTailTactics
import Derived.IntWalk
import Derived.OwnWalk
import Derived.Deep.DeepCutAuto
import Derived.Deep.RegionLaw
import Derived.Deep.LoopGhost
import Derived.Deep.MidRow
import Derived.Laws.Tables
import Derived.Laws.CopyOwn
import Derived.Deep.RegionHeld
import Derived.Deep.Upon
import Derived.ArgAppend
import Derived.Laws.EntriesVeiled
import Derived.ProofKit
import Derived.OpenShut
import Derived.Carry
import Derived.ChangeSlices
import Derived.JoinedOf
import Derived.Test.YtmicgbdcbjajiaaRuleRightQ6
namespace Go.Proofs.Ytmicgbdcbjajiaa
open Go.RowKit
theorem zz : sameB Tm.zero Tm.zero = true := sameB_self Tm.zero
theorem zv {v : Tm} (h : v = Tm.zero) : sameB v Tm.zero = true := by rw [h]; exact zz
theorem equalR_t (r : Int) (w : World) (h : true = Dv.equalB r) : Calls Try.prog 8 #[.int .i64 r] w fun e w' => e = .returned (.bool true) ∧ Kept w w' := (Dv.refequal_any r w).mono fun _ _ he => ⟨by rw [h]; exact he.1, by rw [he.2]; exact kept_refl _⟩
theorem equalR_f (r : Int) (w : World) (h : false = Dv.equalB r) : Calls Try.prog 8 #[.int .i64 r] w fun e w' => e = .returned (.bool false) ∧ Kept w w' := (Dv.refequal_any r w).mono fun _ _ he => ⟨by rw [h]; exact he.1, by rw [he.2]; exact kept_refl _⟩
theorem ofR_any (c : List En) (on : List Jd) (r n : Int) (w0 : World) (P : Nat → Prop) (hP : ∀ b, b < w0.heap.size → P b) (w : World) (hk : Kept w0 w) (sc sj : Value) (hc : LiesE w0 c sc) (hj : LiesJ w0 on sj) (hr : I64 r) (hn : I64 n) (hs : Se.Sml c on) :
  Calls Try.prog 5 #[sc, .int .i64 r, .int .i64 n, sj] w fun e w' => GivesJT P ((Se.ofB c r n on).getD Se.zJ) (Se.ofB c r n on).isSome w e w' := by
 have h1 := Se.liesEQ_keep (w' := w) (Q := fun b => b < w0.heap.size) (Se.liesE_q hc) (fun b _ hb => hk.block b hb) (fun b h _ => h)
 have h2 := Se.liesJQ_keep (w' := w) (Q := fun b => b < w0.heap.size) (Se.liesJ_q hj) (fun b _ hb => hk.block b hb) (fun b h _ => h)
 refine (Se.of_all c r n on hs (A := fun b => b < w0.heap.size) (vs := [sc, .int .i64 r, .int .i64 n, sj]) ⟨⟨_, rfl, h1⟩, ⟨_, rfl, rfl, hr⟩, ⟨_, rfl, rfl, hn⟩, ⟨_, rfl, h2⟩, trivial⟩).mono ?_
 rintro e w' ⟨v, rfl, ⟨us, rfl, hu⟩, hb⟩
 obtain ⟨x, y, rfl, h3, h4⟩ := Se.F2.two hu
 obtain ⟨su, sv, sa, rfl, -, l1, l2, l3⟩ := Se.jd_den h3 (Se.jdOf_F _)
 obtain ⟨l, hl, h4⟩ := h4
 cases hl
 obtain rfl : y = _ := h4
 have hw : ∀ {b : Nat}, (b < w0.heap.size ∨ w.heap.size ≤ b) → (P b ∨ w.heap.size ≤ b) := fun h => h.imp (hP _) id
 exact ⟨su, sv, sa, rfl, ⟨l1.wide (fun b h => hw h), l2.wide (fun b h => hw h), l3.wide (fun b h => hw h)⟩, hb⟩
theorem ofR_none (c : List En) (on : List Jd) (r n : Int) (w0 : World) (P : Nat → Prop) (hP : ∀ b, b < w0.heap.size → P b) (w : World) (hk : Kept w0 w) (sc sj : Value) (hc : LiesE w0 c sc) (hj : LiesJ w0 on sj) (hr : I64 r) (hn : I64 n) (hs : Se.Sml c on) (ho : Se.ofB c r n on = none) :
  Calls Try.prog 5 #[sc, .int .i64 r, .int .i64 n, sj] w (GivesJT P ⟨false, .zero, .zero, .zero, 0⟩ false w) := by
 have h := ofR_any c on r n w0 P hP w hk sc sj hc hj hr hn hs
 rw [ho] at h
 exact h
theorem ofR_some (c : List En) (on : List Jd) (r n : Int) (w0 : World) (P : Nat → Prop) (hP : ∀ b, b < w0.heap.size → P b) (w : World) (hk : Kept w0 w) (sc sj : Value) (hc : LiesE w0 c sc) (hj : LiesJ w0 on sj) (hr : I64 r) (hn : I64 n) (hs : Se.Sml c on) {j : Jd} (ho : Se.ofB c r n on = some j) :
  Calls Try.prog 5 #[sc, .int .i64 r, .int .i64 n, sj] w (GivesJT P j true w) := by
 have h := ofR_any c on r n w0 P hP w hk sc sj hc hj hr hn hs
 rw [ho] at h
 exact h
set_option maxRecDepth 20000 in
set_option maxHeartbeats 4000000 in
theorem rightnone_any (r : Int) (n : Int) (c : List En) (on : List Jd) (w : World) (sc : Value) (son : Value) (hlc : LiesE w c sc) (hrr : I64 r) (hrn : I64 n) (hlon : LiesJ w on son) (ho : Se.ofB c r n on = none) : Calls Try.prog 3 #[sc, .int .i64 r, .int .i64 n, son] w fun e w' => e = .returned (.bool true) ∧ Kept w w' := by
 have HEc := Lib.hid hlc
 obtain ⟨ac, cc, Sc, rfl, -⟩ := hlc.out
 clear hlc
 have Rr := Lib.hid hrr
 clear hrr
 have Rn := Lib.hid hrn
 clear hrn
 have HEon := Lib.hid hlon
 obtain ⟨aon, con, Son, rfl, -⟩ := hlon.out
 clear hlon
 have HO := Lib.hid ho
 clear ho
 obtain ⟨dj, dj1, dj2⟩ := under_of 29 (by kernel_rfl)
 obtain ⟨du, hu1, hu2⟩ := under_term
 go_enter Try.func3, Try.ntmps3
 go_upto_region 1 with fail
 refine at_code (fun V0 hV0 => ?_)
 have k1 : Kept w V0 := by rw [← hV0]; exact kept_refl _
 have Z0 : Hid (V0.heap.size = w.heap.size + 0) := by show _ = _; rw [← hV0]; rfl
 clear hV0
 have Kk3 := Lib.hid k1
 clear k1
 have kvV0 : SeesN V0 V0.heap.size V0 := seesN_kept _ (kept_refl _)
 go_wp2_with fail
 clear kvV0
 refine (lheavy15_any c on _ ((.slice ac c.length cc)) ((.slice aon on.length con)) (HEc.out.keep Kk3.out) (HEon.out.keep Kk3.out)).mono ?_
 rintro e w4 ⟨gb6, rfl, hg7, k5⟩
 have Hhg7 := Lib.hid hg7
 clear hg7
 have Kk8 := Lib.hid k5
 clear k5
 cases gb6 with
 | false =>
  have HIhg7 := Lib.hid (Hhg7.out rfl)
  have HS0 : Hid (Se.Sml0 c on) := Lib.hid ⟨HIhg7.out.1.1, HIhg7.out.1.2, HIhg7.out.2.2⟩
  have HS : Hid (Se.Sml c on) := Lib.hid HS0.out.wide
  have kvV0 : SeesN V0 V0.heap.size w4 := seesN_kept _ Kk8.out
  go_wp2_with fail
  clear kvV0
  refine (ofR_none c on r n w (Par w V0.heap.size [] (fun _ => True)) (fun b h => Or.inl ⟨trivial, h⟩) w4 (kept_trans Kk3.out Kk8.out) ((.slice ac c.length cc)) ((.slice aon on.length con)) HEc.out HEon.out Rr.out Rn.out HS.out HO.out).mono ?_
  rintro e w9 ⟨s11, s12, s13, rfl, ⟨hl14, hl15, hl16⟩, k10⟩
  obtain ⟨a17, c18, S19, rfl, -⟩ := hl14.out
  obtain ⟨a20, c21, S22, rfl, -⟩ := hl15.out
  obtain ⟨a23, c24, S25, rfl, -⟩ := hl16.out
  have Kk26 := Lib.hid k10
  clear k10
  have Hhl14 : Hid (LiesQ w9 (Par w V0.heap.size [] (fun _ => True)) Tm.zero.kids _) := par_give hl14 (Below.size Kk8.out) (xlt_nil _)
  have Hhl15 : Hid (LiesQ w9 (Par w V0.heap.size [] (fun _ => True)) Tm.zero.kids _) := par_give hl15 (Below.size Kk8.out) (xlt_nil _)
  have Hhl16 : Hid (LiesQ w9 (Par w V0.heap.size [] (fun _ => True)) Tm.zero.kids _) := par_give hl16 (Below.size Kk8.out) (xlt_nil _)
  clear hl14 hl15 hl16
  have kvV0 : SeesN V0 V0.heap.size w9 := seesN_kept _ (kept_trans Kk8.out Kk26.out)
  go_wp2_with (refine stop_store 29 (.tmp 9) (.tmp 21) rfl ?_)
  intro _
  refine wpList_store_part_n (by rfl) 29 (.tmp 9) (.tmp 21) rfl (w9.heap.size) 0 #[.bool false, .int .i64 Tm.zero.k, .int .i64 Tm.zero.i, .int .i64 Tm.zero.j, .int .i64 Tm.zero.n, (.slice a17 Tm.zero.kids.length c18), .int .i64 Tm.zero.k, .int .i64 Tm.zero.i, .int .i64 Tm.zero.j, .int .i64 Tm.zero.n, (.slice a20 Tm.zero.kids.length c21), .int .i64 Tm.zero.k, .int .i64 Tm.zero.i, .int .i64 Tm.zero.j, .int .i64 Tm.zero.n, (.slice a23 Tm.zero.kids.length c24), .int .i64 0] (by rfl) (by rfl) 29 (by kernel_rfl) (row_ok rfl) ?_
  intro W27 hW27
  clear kvV0
  obtain ⟨k30, x29, z31⟩ := alloc1 hW27
  have Kk32 := Lib.hid k30
  clear k30
  have Hx29 := Lib.hid x29
  have Hz31 := Lib.hid z31
  clear x29 z31 hW27
  have HG33 : Hid (V0.heap.size ≤ w9.heap.size) := (Below.size (kept_trans Kk8.out Kk26.out))
  have XL34 : Hid (XLt (w9.heap.size :: []) W27) := (xlt_more (xlt_nil _) Kk32.out (by have := Hz31.out; omega))
  refine ⟨_, #[.bool false, .int .i64 Tm.zero.k, .int .i64 Tm.zero.i, .int .i64 Tm.zero.j, .int .i64 Tm.zero.n, (.slice a17 Tm.zero.kids.length c18), .int .i64 Tm.zero.k, .int .i64 Tm.zero.i, .int .i64 Tm.zero.j, .int .i64 Tm.zero.n, (.slice a20 Tm.zero.kids.length c21), .int .i64 Tm.zero.k, .int .i64 Tm.zero.i, .int .i64 Tm.zero.j, .int .i64 Tm.zero.n, (.slice a23 Tm.zero.kids.length c24), .int .i64 0], Hx29.out, rfl, Nat.le_of_ble_eq_true rfl, ?_⟩
  intro W28 hW28
  have KB35 := Lib.hid (kept_set (kept_trans Kk3.out (kept_trans Kk8.out (kept_trans Kk26.out Kk32.out))) hW28 (by have := HG33.out; have := Z0.out; omega))
  have KB36 := Lib.hid (kept_set (kept_trans Kk8.out (kept_trans Kk26.out Kk32.out)) hW28 HG33.out)
  have HL37 : Hid (LiesQ W28 (Par w V0.heap.size (w9.heap.size :: []) (fun _ => True)) Tm.zero.kids _) := par_set (par_grow Hhl14.out Kk32.out (List.forall_mem_cons.2 ⟨(Or.inr (Nat.le_refl w9.heap.size)), (fun _ h => nomatch h)⟩)) hW28 (List.mem_cons_self ..) (by have := HG33.out; have := Z0.out; omega)
  have HL38 : Hid (LiesQ W28 (Par w V0.heap.size (w9.heap.size :: []) (fun _ => True)) Tm.zero.kids _) := par_set (par_grow Hhl15.out Kk32.out (List.forall_mem_cons.2 ⟨(Or.inr (Nat.le_refl w9.heap.size)), (fun _ h => nomatch h)⟩)) hW28 (List.mem_cons_self ..) (by have := HG33.out; have := Z0.out; omega)
  have HL39 : Hid (LiesQ W28 (Par w V0.heap.size (w9.heap.size :: []) (fun _ => True)) Tm.zero.kids _) := par_set (par_grow Hhl16.out Kk32.out (List.forall_mem_cons.2 ⟨(Or.inr (Nat.le_refl w9.heap.size)), (fun _ h => nomatch h)⟩)) hW28 (List.mem_cons_self ..) (by have := HG33.out; have := Z0.out; omega)
  have XL40 := Lib.hid (xlt_set XL34.out hW28)
  have HX41 := Lib.hid (blk_same Hx29.out hW28)
  clear hW28
  have ld42 := partN_cell (r := V0.heap.size) HX41.out trivial 0 (.bool false) rfl
  have ld43 := partN_cell (r := V0.heap.size) HX41.out trivial 16 (.int .i64 0) rfl
  have kvV0 : SeesN V0 V0.heap.size W28 := seesN_kept _ KB36.out
  have kvW28 : SeesN W28 V0.heap.size W28 := seesN_kept _ (kept_refl _)
  go_wp2_with (refine stop_load 27 (.tmp 25) rfl ?_)
  intro _
  refine wpList_load_part (w9.heap.size) (1) 27 (.tmp 25) #[.int .i64 Tm.zero.k, .int .i64 Tm.zero.i, .int .i64 Tm.zero.j, .int .i64 Tm.zero.n, (.slice a17 Tm.zero.kids.length c18)] du HX41.out (by rfl) rfl (by rfl) (by rfl) hu1 (by cases du <;> first | rfl | exact hu2) size_term ?_
  go_wp2_with fail
  clear kvV0
  clear kvW28
  have hq46 := keepzero_any Tm.zero _ ((.slice a17 Tm.zero.kids.length c18)) HL37.out.lies
  rw [zz] at hq46
  refine hq46.mono ?_
  clear hq46
  rintro e w44 ⟨rfl, k45⟩
  have Kk47 := Lib.hid k45
  clear k45
  have kvV0 : SeesN V0 V0.heap.size w44 := seesN_kept _ (kept_trans KB36.out Kk47.out)
  have kvW28 : SeesN W28 V0.heap.size w44 := seesN_kept _ Kk47.out
  go_wp2_with (refine stop_load 27 (.tmp 29) rfl ?_)
  intro _
  refine wpList_load_part (w9.heap.size) (6) 27 (.tmp 29) #[.int .i64 Tm.zero.k, .int .i64 Tm.zero.i, .int .i64 Tm.zero.j, .int .i64 Tm.zero.n, (.slice a20 Tm.zero.kids.length c21)] du (blk_at HX41.out Kk47.out) (by rfl) rfl (by rfl) (by rfl) hu1 (by cases du <;> first | rfl | exact hu2) size_term ?_
  go_wp2_with fail
  clear kvV0
  clear kvW28
  have hq50 := keepzero_any Tm.zero _ ((.slice a20 Tm.zero.kids.length c21)) (HL38.out.later Kk47.out).lies
  rw [zz] at hq50
  refine hq50.mono ?_
  clear hq50
  rintro e w48 ⟨rfl, k49⟩
  have Kk51 := Lib.hid k49
  clear k49
  have kvV0 : SeesN V0 V0.heap.size w48 := seesN_kept _ (kept_trans KB36.out (kept_trans Kk47.out Kk51.out))
  have kvW28 : SeesN W28 V0.heap.size w48 := seesN_kept _ (kept_trans Kk47.out Kk51.out)
  go_wp2_with (refine stop_load 27 (.tmp 34) rfl ?_)
  intro _
  refine wpList_load_part (w9.heap.size) (11) 27 (.tmp 34) #[.int .i64 Tm.zero.k, .int .i64 Tm.zero.i, .int .i64 Tm.zero.j, .int .i64 Tm.zero.n, (.slice a23 Tm.zero.kids.length c24)] du (blk_at HX41.out (kept_trans Kk47.out Kk51.out)) (by rfl) rfl (by rfl) (by rfl) hu1 (by cases du <;> first | rfl | exact hu2) size_term ?_
  go_wp2_with fail
  clear kvV0
  clear kvW28
  have hq54 := keepzero_any Tm.zero _ ((.slice a23 Tm.zero.kids.length c24)) (HL39.out.later (kept_trans Kk47.out Kk51.out)).lies
  rw [zz] at hq54
  refine hq54.mono ?_
  clear hq54
  rintro e w52 ⟨rfl, k53⟩
  have Kk55 := Lib.hid k53
  clear k53
  have kvV0 : SeesN V0 V0.heap.size w52 := seesN_kept _ (kept_trans KB36.out (kept_trans Kk47.out (kept_trans Kk51.out Kk55.out)))
  have kvW28 : SeesN W28 V0.heap.size w52 := seesN_kept _ (kept_trans Kk47.out (kept_trans Kk51.out Kk55.out))
  go_wp2_with fail
  clear kvV0
  clear kvW28
  refine (wakes15W_any _).mono ?_
  rintro e w56 ⟨rfl, k57⟩
  have Kk58 := Lib.hid k57
  clear k57
  have kvV0 : SeesN V0 V0.heap.size w56 := seesN_kept _ (kept_trans KB36.out (kept_trans Kk47.out (kept_trans Kk51.out (kept_trans Kk55.out Kk58.out))))
  have kvW28 : SeesN W28 V0.heap.size w56 := seesN_kept _ (kept_trans Kk47.out (kept_trans Kk51.out (kept_trans Kk55.out Kk58.out)))
  go_wp2
  go_ret
  exact ⟨rfl, (kept_trans KB35.out (kept_trans Kk47.out (kept_trans Kk51.out (kept_trans Kk55.out Kk58.out))))⟩
 | true =>
  have kvV0 : SeesN V0 V0.heap.size w4 := seesN_kept _ Kk8.out
  go_wp2
  go_ret
  exact ⟨rfl, (kept_trans Kk3.out Kk8.out)⟩
def rightr7_0 : Oper := { dst := some 53, op := Go.Op.fieldAddr 29 (Go.Operand.tmp 9) 0, type := 0, pos := "law.go:69", after := #[], guard := none }
def rightr7_1 : Oper := { dst := some 54, op := Go.Op.load 4 (Go.Operand.tmp 53), type := 4, pos := "law.go:69", after := #[{ on := 0, ground := Go.Ground.data }], guard := none }
def rightr7_2 : Oper := { dst := some 55, op := Go.Op.move (Go.Operand.tmp 1), type := 3, pos := "law.go:69", after := #[], guard := none }
def rightr7_3 : Oper := { dst := some 56, op := Go.Op.call { callee := Go.Callee.value (Go.Operand.func 8), args := #[Go.Operand.tmp 55], argTypes := #[3] }, type := 4, pos := "law.go:69", after := #[{ on := 2, ground := Go.Ground.data }], guard := none }
def rightr7_4 : Oper := { dst := some 57, op := Go.Op.binOp Go.BinOp.neq 4 (Go.Operand.tmp 54) (Go.Operand.tmp 56) 4, type := 4, pos := "law.go:69", after := #[{ on := 1, ground := Go.Ground.data }, { on := 3, ground := Go.Ground.data }], guard := none }
def rightr7_5 : Oper := { dst := some 58, op := Go.Op.move (Go.Operand.tmp 57), type := 4, pos := "law.go:69", after := #[{ on := 4, ground := Go.Ground.data }, { on := 3, ground := Go.Ground.chain }], guard := none }
def rightr7_6 : Oper := { dst := some 59, op := Go.Op.fieldAddr 29 (Go.Operand.tmp 9) 4, type := 0, pos := "law.go:69", after := #[{ on := 5, ground := Go.Ground.guard }], guard := some (5, false) }
def rightr7_7 : Oper := { dst := some 60, op := Go.Op.load 3 (Go.Operand.tmp 59), type := 3, pos := "law.go:69", after := #[{ on := 6, ground := Go.Ground.data }, { on := 5, ground := Go.Ground.guard }], guard := some (5, false) }
def rightr7_8 : Oper := { dst := some 61, op := Go.Op.binOp Go.BinOp.lss 3 (Go.Operand.tmp 60) (Go.Operand.const (Go.Value.int Go.IntKind.i64 0)) 3, type := 4, pos := "law.go:69", after := #[{ on := 7, ground := Go.Ground.data }, { on := 5, ground := Go.Ground.guard }], guard := some (5, false) }
def rightr7_9 : Oper := { dst := some 62, op := Go.Op.pick (Go.Operand.tmp 58) (Go.Operand.const (Go.Value.bool true)) (Go.Operand.tmp 61), type := 4, pos := "law.go:69", after := #[{ on := 5, ground := Go.Ground.data }, { on := 8, ground := Go.Ground.data }], guard := none }
def rightr7_10 : Oper := { dst := some 63, op := Go.Op.move (Go.Operand.tmp 62), type := 4, pos := "law.go:69", after := #[{ on := 9, ground := Go.Ground.data }, { on := 5, ground := Go.Ground.chain }], guard := none }
def rightr7_11 : Oper := { dst := some 64, op := Go.Op.fieldAddr 29 (Go.Operand.tmp 9) 4, type := 0, pos := "law.go:69", after := #[{ on := 10, ground := Go.Ground.guard }], guard := some (10, false) }
def rightr7_12 : Oper := { dst := some 65, op := Go.Op.load 3 (Go.Operand.tmp 64), type := 3, pos := "law.go:69", after := #[{ on := 11, ground := Go.Ground.data }, { on := 10, ground := Go.Ground.guard }], guard := some (10, false) }
def rightr7_13 : Oper := { dst := some 66, op := Go.Op.binOp Go.BinOp.gtr 3 (Go.Operand.tmp 65) (Go.Operand.const (Go.Value.int Go.IntKind.i64 1000)) 3, type := 4, pos := "law.go:69", after := #[{ on := 12, ground := Go.Ground.data }, { on := 10, ground := Go.Ground.guard }], guard := some (10, false) }
def rightr7_14 : Oper := { dst := some 67, op := Go.Op.pick (Go.Operand.tmp 63) (Go.Operand.const (Go.Value.bool true)) (Go.Operand.tmp 66), type := 4, pos := "law.go:69", after := #[{ on := 10, ground := Go.Ground.data }, { on := 13, ground := Go.Ground.data }], guard := none }
def rightr7_15 : Oper := { dst := some 68, op := Go.Op.move (Go.Operand.tmp 67), type := 4, pos := "law.go:69", after := #[{ on := 14, ground := Go.Ground.data }, { on := 10, ground := Go.Ground.chain }], guard := none }
def rightr7_16 : Oper := { dst := some 69, op := Go.Op.fieldAddr 29 (Go.Operand.tmp 9) 1, type := 0, pos := "law.go:69", after := #[{ on := 15, ground := Go.Ground.guard }], guard := some (15, false) }
def rightr7_17 : Oper := { dst := some 70, op := Go.Op.load 27 (Go.Operand.tmp 69), type := 27, pos := "law.go:69", after := #[{ on := 16, ground := Go.Ground.data }, { on := 15, ground := Go.Ground.guard }], guard := some (15, false) }
def rightr7_18 : Oper := { dst := some 71, op := Go.Op.call { callee := Go.Callee.value (Go.Operand.func 9), args := #[Go.Operand.tmp 70], argTypes := #[27] }, type := 4, pos := "law.go:69", after := #[{ on := 17, ground := Go.Ground.data }, { on := 15, ground := Go.Ground.chain }, { on := 15, ground := Go.Ground.guard }], guard := some (15, false) }
def rightr7_19 : Oper := { dst := some 72, op := Go.Op.unOp Go.UnOp.not 4 (Go.Operand.tmp 71), type := 4, pos := "law.go:69", after := #[{ on := 18, ground := Go.Ground.data }, { on := 15, ground := Go.Ground.guard }], guard := some (15, false) }
def rightr7_20 : Oper := { dst := some 73, op := Go.Op.pick (Go.Operand.tmp 68) (Go.Operand.const (Go.Value.bool true)) (Go.Operand.tmp 72), type := 4, pos := "law.go:69", after := #[{ on := 15, ground := Go.Ground.data }, { on := 19, ground := Go.Ground.data }], guard := none }
def rightr7_21 : Oper := { dst := some 74, op := Go.Op.move (Go.Operand.tmp 73), type := 4, pos := "law.go:69", after := #[{ on := 20, ground := Go.Ground.data }, { on := 18, ground := Go.Ground.chain }], guard := none }
def rightr7_22 : Oper := { dst := some 75, op := Go.Op.fieldAddr 29 (Go.Operand.tmp 9) 3, type := 0, pos := "law.go:69", after := #[{ on := 21, ground := Go.Ground.guard }], guard := some (21, false) }
def rightr7_23 : Oper := { dst := some 76, op := Go.Op.load 27 (Go.Operand.tmp 75), type := 27, pos := "law.go:69", after := #[{ on := 22, ground := Go.Ground.data }, { on := 21, ground := Go.Ground.guard }], guard := some (21, false) }
def rightr7_24 : Oper := { dst := some 77, op := Go.Op.call { callee := Go.Callee.value (Go.Operand.func 9), args := #[Go.Operand.tmp 76], argTypes := #[27] }, type := 4, pos := "law.go:69", after := #[{ on := 23, ground := Go.Ground.data }, { on := 21, ground := Go.Ground.chain }, { on := 21, ground := Go.Ground.guard }], guard := some (21, false) }
def rightr7_25 : Oper := { dst := some 78, op := Go.Op.unOp Go.UnOp.not 4 (Go.Operand.tmp 77), type := 4, pos := "law.go:69", after := #[{ on := 24, ground := Go.Ground.data }, { on := 21, ground := Go.Ground.guard }], guard := some (21, false) }
def rightr7_26 : Oper := { dst := some 79, op := Go.Op.pick (Go.Operand.tmp 74) (Go.Operand.const (Go.Value.bool true)) (Go.Operand.tmp 78), type := 4, pos := "law.go:69", after := #[{ on := 21, ground := Go.Ground.data }, { on := 25, ground := Go.Ground.data }], guard := none }
def rightr7_27 : Oper := { dst := some 80, op := Go.Op.move (Go.Operand.tmp 79), type := 4, pos := "law.go:69", after := #[{ on := 26, ground := Go.Ground.data }, { on := 24, ground := Go.Ground.chain }], guard := none }
def rightr7_28 : Oper := { dst := some 81, op := Go.Op.fieldAddr 29 (Go.Operand.tmp 9) 1, type := 0, pos := "law.go:69", after := #[{ on := 27, ground := Go.Ground.guard }], guard := some (27, false) }
def rightr7_29 : Oper := { dst := some 82, op := Go.Op.load 27 (Go.Operand.tmp 81), type := 27, pos := "law.go:69", after := #[{ on := 28, ground := Go.Ground.data }, { on := 27, ground := Go.Ground.guard }], guard := some (27, false) }
def rightr7_30 : Oper := { dst := some 83, op := Go.Op.call { callee := Go.Callee.value (Go.Operand.func 10), args := #[Go.Operand.tmp 82], argTypes := #[27] }, type := 3, pos := "law.go:69", after := #[{ on := 29, ground := Go.Ground.data }, { on := 27, ground := Go.Ground.chain }, { on := 27, ground := Go.Ground.guard }], guard := some (27, false) }
def rightr7_31 : Oper := { dst := some 84, op := Go.Op.move (Go.Operand.tmp 11), type := 3, pos := "law.go:69", after := #[{ on := 27, ground := Go.Ground.guard }], guard := some (27, false) }
def rightr7_32 : Oper := { dst := some 85, op := Go.Op.binOp Go.BinOp.gtr 3 (Go.Operand.tmp 83) (Go.Operand.tmp 84) 3, type := 4, pos := "law.go:69", after := #[{ on := 30, ground := Go.Ground.data }, { on := 31, ground := Go.Ground.data }, { on := 27, ground := Go.Ground.guard }], guard := some (27, false) }
def rightr7_33 : Oper := { dst := some 86, op := Go.Op.pick (Go.Operand.tmp 80) (Go.Operand.const (Go.Value.bool true)) (Go.Operand.tmp 85), type := 4, pos := "law.go:69", after := #[{ on := 27, ground := Go.Ground.data }, { on := 32, ground := Go.Ground.data }], guard := none }
def rightr7_34 : Oper := { dst := some 87, op := Go.Op.move (Go.Operand.tmp 86), type := 4, pos := "law.go:69", after := #[{ on := 33, ground := Go.Ground.data }, { on := 30, ground := Go.Ground.chain }], guard := none }
def rightr7_35 : Oper := { dst := some 88, op := Go.Op.fieldAddr 29 (Go.Operand.tmp 9) 3, type := 0, pos := "law.go:69", after := #[{ on := 34, ground := Go.Ground.guard }], guard := some (34, false) }
def rightr7_36 : Oper := { dst := some 89, op := Go.Op.load 27 (Go.Operand.tmp 88), type := 27, pos := "law.go:69", after := #[{ on := 35, ground := Go.Ground.data }, { on := 34, ground := Go.Ground.guard }], guard := some (34, false) }
def rightr7_37 : Oper := { dst := some 90, op := Go.Op.call { callee := Go.Callee.value (Go.Operand.func 10), args := #[Go.Operand.tmp 89], argTypes := #[27] }, type := 3, pos := "law.go:69", after := #[{ on := 36, ground := Go.Ground.data }, { on := 34, ground := Go.Ground.chain }, { on := 34, ground := Go.Ground.guard }], guard := some (34, false) }
def rightr7_38 : Oper := { dst := some 91, op := Go.Op.move (Go.Operand.tmp 11), type := 3, pos := "law.go:69", after := #[{ on := 34, ground := Go.Ground.guard }], guard := some (34, false) }
def rightr7_39 : Oper := { dst := some 92, op := Go.Op.binOp Go.BinOp.gtr 3 (Go.Operand.tmp 90) (Go.Operand.tmp 91) 3, type := 4, pos := "law.go:69", after := #[{ on := 37, ground := Go.Ground.data }, { on := 38, ground := Go.Ground.data }, { on := 34, ground := Go.Ground.guard }], guard := some (34, false) }
def rightr7_40 : Oper := { dst := some 93, op := Go.Op.pick (Go.Operand.tmp 87) (Go.Operand.const (Go.Value.bool true)) (Go.Operand.tmp 92), type := 4, pos := "law.go:69", after := #[{ on := 34, ground := Go.Ground.data }, { on := 39, ground := Go.Ground.data }], guard := none }
set_option maxRecDepth 20000 in
set_option maxHeartbeats 4000000 in
theorem rightt_any (r : Int) (n : Int) (c : List En) (on : List Jd) (w : World) (sc : Value) (son : Value) (hlc : LiesE w c sc) (hrr : I64 r) (hrn : I64 n) (hlon : LiesJ w on son) (u v x : Tm) (m : Int) (ho : Se.ofB c r n on = some ⟨true, u, v, x, m⟩) : Calls Try.prog 3 #[sc, .int .i64 r, .int .i64 n, son] w fun e w' => e = .returned (.bool true) ∧ Kept w w' := by
 have HEc := Lib.hid hlc
 obtain ⟨ac, cc, Sc, rfl, -⟩ := hlc.out
 clear hlc
 have Rr := Lib.hid hrr
 clear hrr
 have Rn := Lib.hid hrn
 clear hrn
 have HEon := Lib.hid hlon
 obtain ⟨aon, con, Son, rfl, -⟩ := hlon.out
 clear hlon
 have HO := Lib.hid ho
 clear ho
 obtain ⟨dj, dj1, dj2⟩ := under_of 29 (by kernel_rfl)
 obtain ⟨du, hu1, hu2⟩ := under_term
 go_enter Try.func3, Try.ntmps3
 go_upto_region 1 with fail
 refine at_code (fun V0 hV0 => ?_)
 have k1 : Kept w V0 := by rw [← hV0]; exact kept_refl _
 have Z0 : Hid (V0.heap.size = w.heap.size + 0) := by show _ = _; rw [← hV0]; rfl
 clear hV0
 have Kk3 := Lib.hid k1
 clear k1
 have kvV0 : SeesN V0 V0.heap.size V0 := seesN_kept _ (kept_refl _)
 go_wp2_with fail
 clear kvV0
 refine (lheavy15_any c on _ ((.slice ac c.length cc)) ((.slice aon on.length con)) (HEc.out.keep Kk3.out) (HEon.out.keep Kk3.out)).mono ?_
 rintro e w4 ⟨gb6, rfl, hg7, k5⟩
 have Hhg7 := Lib.hid hg7
 clear hg7
 have Kk8 := Lib.hid k5
 clear k5
 cases gb6 with
 | false =>
  have HIhg7 := Lib.hid (Hhg7.out rfl)
  have HS0 : Hid (Se.Sml0 c on) := Lib.hid ⟨HIhg7.out.1.1, HIhg7.out.1.2, HIhg7.out.2.2⟩
  have HS : Hid (Se.Sml c on) := Lib.hid HS0.out.wide
  have HG := Lib.hid (Se.ofB_good HS.out HO.out)
  have HN := Lib.hid (Se.ofB_small HS0.out HO.out)
  have GU : Hid (u.fine) := Lib.hid (right_fine (Se.pure_right HG.out.1.u.p))
  have GX : Hid (x.fine) := Lib.hid (right_fine (Se.pure_right HG.out.1.a.p))
  have GV : Hid (v.fine) := Lib.hid (right_fine (Se.pure_right (HG.out.1.v rfl).p))
  have GM : Hid (I64 m) := Lib.hid (by have h1 : 0 ≤ m := HG.out.1.i; have h2 : m ≤ 1000 := HG.out.2; unfold I64; omega)
  have eq1 : decide (m < 0) = false := decide_eq_false (by have h1 : 0 ≤ m := HG.out.1.i; omega)
  have eq2 : decide (1000 < m) = false := decide_eq_false (by have h2 : m ≤ 1000 := HG.out.2; omega)
  have ew0 : decide ((c.length : Int) < u.freeB) = false := decide_eq_false (by rw [free_of (Se.pure_right HG.out.1.u.p)]; have h1 := HG.out.1.u.f; exact Int.not_lt.2 h1)
  have ev0 : decide (u.freeB ≤ (c.length : Int)) = true := decide_eq_true (by rw [free_of (Se.pure_right HG.out.1.u.p)]; exact HG.out.1.u.f)
  have ew1 : decide ((c.length : Int) < x.freeB) = false := decide_eq_false (by rw [free_of (Se.pure_right HG.out.1.a.p)]; have h1 := HG.out.1.a.f; exact Int.not_lt.2 h1)
  have ev1 : decide (x.freeB ≤ (c.length : Int)) = true := decide_eq_true (by rw [free_of (Se.pure_right HG.out.1.a.p)]; exact HG.out.1.a.f)
  have ew2 : decide ((c.length : Int) < v.freeB) = false := decide_eq_false (by rw [free_of (Se.pure_right (HG.out.1.v rfl).p)]; have h1 := (HG.out.1.v rfl).f; exact Int.not_lt.2 h1)
  have ev2 : decide (v.freeB ≤ (c.length : Int)) = true := decide_eq_true (by rw [free_of (Se.pure_right (HG.out.1.v rfl).p)]; exact (HG.out.1.v rfl).f)
  have kvV0 : SeesN V0 V0.heap.size w4 := seesN_kept _ Kk8.out
  go_wp2_with fail
  clear kvV0
  refine (ofR_some c on r n w (Par w V0.heap.size [] (fun _ => True)) (fun b h => Or.inl ⟨trivial, h⟩) w4 (kept_trans Kk3.out Kk8.out) ((.slice ac c.length cc)) ((.slice aon on.length con)) HEc.out HEon.out Rr.out Rn.out HS.out HO.out).mono ?_
  rintro e w9 ⟨s11, s12, s13, rfl, ⟨hl14, hl15, hl16⟩, k10⟩
  obtain ⟨a17, c18, S19, rfl, -⟩ := hl14.out
  obtain ⟨a20, c21, S22, rfl, -⟩ := hl15.out
  obtain ⟨a23, c24, S25, rfl, -⟩ := hl16.out
  have Kk26 := Lib.hid k10
  clear k10
  have Hhl14 : Hid (LiesQ w9 (Par w V0.heap.size [] (fun _ => True)) u.kids _) := par_give hl14 (Below.size Kk8.out) (xlt_nil _)
  have Hhl15 : Hid (LiesQ w9 (Par w V0.heap.size [] (fun _ => True)) v.kids _) := par_give hl15 (Below.size Kk8.out) (xlt_nil _)
  have Hhl16 : Hid (LiesQ w9 (Par w V0.heap.size [] (fun _ => True)) x.kids _) := par_give hl16 (Below.size Kk8.out) (xlt_nil _)
  clear hl14 hl15 hl16
  have kvV0 : SeesN V0 V0.heap.size w9 := seesN_kept _ (kept_trans Kk8.out Kk26.out)
  go_wp2_with (refine stop_store 29 (.tmp 9) (.tmp 21) rfl ?_)
  intro _
  refine wpList_store_part_n (by rfl) 29 (.tmp 9) (.tmp 21) rfl (w9.heap.size) 0 #[.bool true, .int .i64 u.k, .int .i64 u.i, .int .i64 u.j, .int .i64 u.n, (.slice a17 u.kids.length c18), .int .i64 v.k, .int .i64 v.i, .int .i64 v.j, .int .i64 v.n, (.slice a20 v.kids.length c21), .int .i64 x.k, .int .i64 x.i, .int .i64 x.j, .int .i64 x.n, (.slice a23 x.kids.length c24), .int .i64 m] (by rfl) (by rfl) 29 (by kernel_rfl) (row_ok rfl) ?_
  intro W27 hW27
  clear kvV0
  obtain ⟨k30, x29, z31⟩ := alloc1 hW27
  have Kk32 := Lib.hid k30
  clear k30
  have Hx29 := Lib.hid x29
  have Hz31 := Lib.hid z31
  clear x29 z31 hW27
  have HG33 : Hid (V0.heap.size ≤ w9.heap.size) := (Below.size (kept_trans Kk8.out Kk26.out))
  have XL34 : Hid (XLt (w9.heap.size :: []) W27) := (xlt_more (xlt_nil _) Kk32.out (by have := Hz31.out; omega))
  refine ⟨_, #[.bool true, .int .i64 u.k, .int .i64 u.i, .int .i64 u.j, .int .i64 u.n, (.slice a17 u.kids.length c18), .int .i64 v.k, .int .i64 v.i, .int .i64 v.j, .int .i64 v.n, (.slice a20 v.kids.length c21), .int .i64 x.k, .int .i64 x.i, .int .i64 x.j, .int .i64 x.n, (.slice a23 x.kids.length c24), .int .i64 m], Hx29.out, rfl, Nat.le_of_ble_eq_true rfl, ?_⟩
  intro W28 hW28
  have KB35 := Lib.hid (kept_set (kept_trans Kk3.out (kept_trans Kk8.out (kept_trans Kk26.out Kk32.out))) hW28 (by have := HG33.out; have := Z0.out; omega))
  have KB36 := Lib.hid (kept_set (kept_trans Kk8.out (kept_trans Kk26.out Kk32.out)) hW28 HG33.out)
  have HL37 : Hid (LiesQ W28 (Par w V0.heap.size (w9.heap.size :: []) (fun _ => True)) u.kids _) := par_set (par_grow Hhl14.out Kk32.out (List.forall_mem_cons.2 ⟨(Or.inr (Nat.le_refl w9.heap.size)), (fun _ h => nomatch h)⟩)) hW28 (List.mem_cons_self ..) (by have := HG33.out; have := Z0.out; omega)
  have HL38 : Hid (LiesQ W28 (Par w V0.heap.size (w9.heap.size :: []) (fun _ => True)) v.kids _) := par_set (par_grow Hhl15.out Kk32.out (List.forall_mem_cons.2 ⟨(Or.inr (Nat.le_refl w9.heap.size)), (fun _ h => nomatch h)⟩)) hW28 (List.mem_cons_self ..) (by have := HG33.out; have := Z0.out; omega)
  have HL39 : Hid (LiesQ W28 (Par w V0.heap.size (w9.heap.size :: []) (fun _ => True)) x.kids _) := par_set (par_grow Hhl16.out Kk32.out (List.forall_mem_cons.2 ⟨(Or.inr (Nat.le_refl w9.heap.size)), (fun _ h => nomatch h)⟩)) hW28 (List.mem_cons_self ..) (by have := HG33.out; have := Z0.out; omega)
  have XL40 := Lib.hid (xlt_set XL34.out hW28)
  have HX41 := Lib.hid (blk_same Hx29.out hW28)
  clear hW28
  have ld42 := partN_cell (r := V0.heap.size) HX41.out trivial 0 (.bool true) rfl
  have ld43 := partN_cell (r := V0.heap.size) HX41.out trivial 16 (.int .i64 m) rfl
  have kvV0 : SeesN V0 V0.heap.size W28 := seesN_kept _ KB36.out
  have kvW28 : SeesN W28 V0.heap.size W28 := seesN_kept _ (kept_refl _)
  go_wp2_with fail
  clear kvV0
  clear kvW28
  obtain ⟨W44, h45⟩ : ∃ x, World.drew W28 = x := ⟨_, rfl⟩
  have k46 : Kept W28 W44 := by rw [← h45]; exact kept_drew (kept_refl _)
  have Kk47 := Lib.hid k46
  clear k46
  refine wp_region_held_drew (S := SeesN W44 V0.heap.size) (by kernel_rfl) ?_ (fun hHeld => ?_)
  ·(try dsimp only)
   rw [h45]
   exact seesN_kept _ (kept_refl _)
  rw [h45] at hHeld ⊢
  clear h45
  refine take_at 0 53 rightr7_0 (v := ?_) (Or.inl ⟨by rfl, ?_⟩) ?_
  rotate_left 1
  ·((intro w hSw; (try dsimp only at hSw); unfold rightr7_0; go_simp) <;> with_reducible rfl)
  (try simp only [Act.put, List.setIfInBounds_toArray, List.set_cons_zero, List.set_cons_succ])
  refine take_at 1 54 rightr7_1 (v := ?_) (Or.inl ⟨by rfl, ?_⟩) ?_
  rotate_left 1
  ·((intro w hSw; (try dsimp only at hSw); have qV0 := seesN_of (kept_trans KB36.out Kk47.out) hSw; have qW28 := seesN_of Kk47.out hSw; unfold rightr7_1; go_simp) <;> with_reducible rfl)
  (try simp only [Act.put, List.setIfInBounds_toArray, List.set_cons_zero, List.set_cons_succ])
  refine take_at 2 55 rightr7_2 (v := ?_) (Or.inl ⟨by rfl, ?_⟩) ?_
  rotate_left 1
  ·((intro w hSw; (try dsimp only at hSw); unfold rightr7_2; go_simp) <;> with_reducible rfl)
  (try simp only [Act.put, List.setIfInBounds_toArray, List.set_cons_zero, List.set_cons_succ])
  refine wpAnyH_ready (rs := [3]) (by kernel_rfl) (by simp) ?_
  refine AllReadyH.cons (o := rightr7_3) rfl (fun K hK => ?_) ?_
  ·unfold rightr7_3
   go_simp
   refine (equalR_t r _ HG.out.1.e).mono ?_
   rintro e w48 ⟨rfl, k49⟩
   have Kk50 := Lib.hid k49
   clear k49
   clear hHeld
   refine hK.out _ _ (seesN_kept _ Kk50.out) (fun hHeld => ?_)
   clear hK K
   (try simp only [Act.put, List.setIfInBounds_toArray, List.set_cons_zero, List.set_cons_succ])
   refine take_at 4 57 rightr7_4 (v := ?_) (Or.inl ⟨by rfl, ?_⟩) ?_
   rotate_left 1
   ·((intro w hSw; (try dsimp only at hSw); unfold rightr7_4; go_simp) <;> with_reducible rfl)
   (try simp only [Act.put, List.setIfInBounds_toArray, List.set_cons_zero, List.set_cons_succ])
   refine take_at 5 58 rightr7_5 (v := ?_) (Or.inl ⟨by rfl, ?_⟩) ?_
   rotate_left 1
   ·((intro w hSw; (try dsimp only at hSw); unfold rightr7_5; go_simp) <;> with_reducible rfl)
   (try simp only [Act.put, List.setIfInBounds_toArray, List.set_cons_zero, List.set_cons_succ])
   refine take_at 6 59 rightr7_6 (v := ?_) (Or.inl ⟨by rfl, ?_⟩) ?_
   rotate_left 1
   ·((intro w hSw; (try dsimp only at hSw); unfold rightr7_6; go_simp) <;> with_reducible rfl)
   (try simp only [Act.put, List.setIfInBounds_toArray, List.set_cons_zero, List.set_cons_succ])
   refine take_at 7 60 rightr7_7 (v := ?_) (Or.inl ⟨by rfl, ?_⟩) ?_
   rotate_left 1
   ·((intro w hSw; (try dsimp only at hSw); have qV0 := seesN_of (kept_trans KB36.out Kk47.out) hSw; have qW28 := seesN_of Kk47.out hSw; unfold rightr7_7; go_simp) <;> with_reducible rfl)
   (try simp only [Act.put, List.setIfInBounds_toArray, List.set_cons_zero, List.set_cons_succ])
   refine take_at 8 61 rightr7_8 (v := ?_) (Or.inl ⟨by rfl, ?_⟩) ?_
   rotate_left 1
   ·((intro w hSw; (try dsimp only at hSw); unfold rightr7_8; go_simp) <;> with_reducible rfl)
   (try simp only [Act.put, List.setIfInBounds_toArray, List.set_cons_zero, List.set_cons_succ])
   refine take_at 9 62 rightr7_9 (v := ?_) (Or.inl ⟨by rfl, ?_⟩) ?_
   rotate_left 1
   ·((intro w hSw; (try dsimp only at hSw); unfold rightr7_9; go_simp) <;> with_reducible rfl)
   (try simp only [Act.put, List.setIfInBounds_toArray, List.set_cons_zero, List.set_cons_succ])
   refine take_at 10 63 rightr7_10 (v := ?_) (Or.inl ⟨by rfl, ?_⟩) ?_
   rotate_left 1
   ·((intro w hSw; (try dsimp only at hSw); unfold rightr7_10; go_simp) <;> with_reducible rfl)
   (try simp only [Act.put, List.setIfInBounds_toArray, List.set_cons_zero, List.set_cons_succ])
   refine take_at 11 64 rightr7_11 (v := ?_) (Or.inl ⟨by rfl, ?_⟩) ?_
   rotate_left 1
   ·((intro w hSw; (try dsimp only at hSw); unfold rightr7_11; go_simp) <;> with_reducible rfl)
   (try simp only [Act.put, List.setIfInBounds_toArray, List.set_cons_zero, List.set_cons_succ])
   refine take_at 12 65 rightr7_12 (v := ?_) (Or.inl ⟨by rfl, ?_⟩) ?_
   rotate_left 1
   ·((intro w hSw; (try dsimp only at hSw); have qV0 := seesN_of (kept_trans KB36.out Kk47.out) hSw; have qW28 := seesN_of Kk47.out hSw; unfold rightr7_12; go_simp) <;> with_reducible rfl)
   (try simp only [Act.put, List.setIfInBounds_toArray, List.set_cons_zero, List.set_cons_succ])
   refine take_at 13 66 rightr7_13 (v := ?_) (Or.inl ⟨by rfl, ?_⟩) ?_
   rotate_left 1
   ·((intro w hSw; (try dsimp only at hSw); unfold rightr7_13; go_simp) <;> with_reducible rfl)
   (try simp only [Act.put, List.setIfInBounds_toArray, List.set_cons_zero, List.set_cons_succ])
   refine take_at 14 67 rightr7_14 (v := ?_) (Or.inl ⟨by rfl, ?_⟩) ?_
   rotate_left 1
   ·((intro w hSw; (try dsimp only at hSw); unfold rightr7_14; go_simp) <;> with_reducible rfl)
   (try simp only [Act.put, List.setIfInBounds_toArray, List.set_cons_zero, List.set_cons_succ])
   refine take_at 15 68 rightr7_15 (v := ?_) (Or.inl ⟨by rfl, ?_⟩) ?_
   rotate_left 1
   ·((intro w hSw; (try dsimp only at hSw); unfold rightr7_15; go_simp) <;> with_reducible rfl)
   (try simp only [Act.put, List.setIfInBounds_toArray, List.set_cons_zero, List.set_cons_succ])
   refine take_at 16 69 rightr7_16 (v := ?_) (Or.inl ⟨by rfl, ?_⟩) ?_
   rotate_left 1
   ·((intro w hSw; (try dsimp only at hSw); unfold rightr7_16; go_simp) <;> with_reducible rfl)
   (try simp only [Act.put, List.setIfInBounds_toArray, List.set_cons_zero, List.set_cons_succ])
   refine take_at 17 70 rightr7_17 (yields_part (w9.heap.size) (1) 27 (.tmp 69) #[.int .i64 u.k, .int .i64 u.i, .int .i64 u.j, .int .i64 u.n, (.slice a17 u.kids.length c18)] du (fun _ h => seesN_blk HX41.out trivial (seesN_of Kk47.out h)) (by rfl) rfl (by rfl) (by rfl) hu1 (by cases du <;> first | rfl | exact hu2) size_term) ?_
   (try simp only [Act.put, List.setIfInBounds_toArray, List.set_cons_zero, List.set_cons_succ])
   refine wpAnyH_ready (rs := [18]) (by kernel_rfl) (by simp) ?_
   refine AllReadyH.cons (o := rightr7_18) rfl (fun K hK => ?_) ?_
   ·unfold rightr7_18
    go_simp
    have hq53 := refpure_any u _ ((.slice a17 u.kids.length c18)) (HL37.out.later (kept_trans Kk47.out Kk50.out)).lies (Nat.le_trans HN.out.u (by decide))
    rw [HG.out.1.u.p] at hq53
    refine hq53.mono ?_
    clear hq53
    rintro e w51 ⟨rfl, k52⟩
    have Kk54 := Lib.hid k52
    clear k52
    clear hHeld
    refine hK.out _ _ (seesN_kept _ (kept_trans Kk50.out Kk54.out)) (fun hHeld => ?_)
    clear hK K
    (try simp only [Act.put, List.setIfInBounds_toArray, List.set_cons_zero, List.set_cons_succ])
    refine take_at 19 72 rightr7_19 (v := ?_) (Or.inl ⟨by rfl, ?_⟩) ?_
    rotate_left 1
    ·((intro w hSw; (try dsimp only at hSw); unfold rightr7_19; go_simp) <;> with_reducible rfl)
    (try simp only [Act.put, List.setIfInBounds_toArray, List.set_cons_zero, List.set_cons_succ])
    refine take_at 20 73 rightr7_20 (v := ?_) (Or.inl ⟨by rfl, ?_⟩) ?_
    rotate_left 1
    ·((intro w hSw; (try dsimp only at hSw); unfold rightr7_20; go_simp) <;> with_reducible rfl)
    (try simp only [Act.put, List.setIfInBounds_toArray, List.set_cons_zero, List.set_cons_succ])
    refine take_at 21 74 rightr7_21 (v := ?_) (Or.inl ⟨by rfl, ?_⟩) ?_
    rotate_left 1
    ·((intro w hSw; (try dsimp only at hSw); unfold rightr7_21; go_simp) <;> with_reducible rfl)
    (try simp only [Act.put, List.setIfInBounds_toArray, List.set_cons_zero, List.set_cons_succ])
    refine take_at 22 75 rightr7_22 (v := ?_) (Or.inl ⟨by rfl, ?_⟩) ?_
    rotate_left 1
    ·((intro w hSw; (try dsimp only at hSw); unfold rightr7_22; go_simp) <;> with_reducible rfl)
    (try simp only [Act.put, List.setIfInBounds_toArray, List.set_cons_zero, List.set_cons_succ])
    refine take_at 23 76 rightr7_23 (yields_part (w9.heap.size) (11) 27 (.tmp 75) #[.int .i64 x.k, .int .i64 x.i, .int .i64 x.j, .int .i64 x.n, (.slice a23 x.kids.length c24)] du (fun _ h => seesN_blk HX41.out trivial (seesN_of Kk47.out h)) (by rfl) rfl (by rfl) (by rfl) hu1 (by cases du <;> first | rfl | exact hu2) size_term) ?_
    (try simp only [Act.put, List.setIfInBounds_toArray, List.set_cons_zero, List.set_cons_succ])
    refine wpAnyH_ready (rs := [24]) (by kernel_rfl) (by simp) ?_
    refine AllReadyH.cons (o := rightr7_24) rfl (fun K hK => ?_) ?_
    ·unfold rightr7_24
     go_simp
     have hq57 := refpure_any x _ ((.slice a23 x.kids.length c24)) (HL39.out.later (kept_trans Kk47.out (kept_trans Kk50.out Kk54.out))).lies (Nat.le_trans HN.out.a (by decide))
     rw [HG.out.1.a.p] at hq57
     refine hq57.mono ?_
     clear hq57
     rintro e w55 ⟨rfl, k56⟩
     have Kk58 := Lib.hid k56
     clear k56
     clear hHeld
     refine hK.out _ _ (seesN_kept _ (kept_trans Kk50.out (kept_trans Kk54.out Kk58.out))) (fun hHeld => ?_)
     clear hK K
     (try simp only [Act.put, List.setIfInBounds_toArray, List.set_cons_zero, List.set_cons_succ])
     refine take_at 25 78 rightr7_25 (v := ?_) (Or.inl ⟨by rfl, ?_⟩) ?_
     rotate_left 1
     ·((intro w hSw; (try dsimp only at hSw); unfold rightr7_25; go_simp) <;> with_reducible rfl)
     (try simp only [Act.put, List.setIfInBounds_toArray, List.set_cons_zero, List.set_cons_succ])
     refine take_at 26 79 rightr7_26 (v := ?_) (Or.inl ⟨by rfl, ?_⟩) ?_
     rotate_left 1
     ·((intro w hSw; (try dsimp only at hSw); unfold rightr7_26; go_simp) <;> with_reducible rfl)
     (try simp only [Act.put, List.setIfInBounds_toArray, List.set_cons_zero, List.set_cons_succ])
     refine take_at 27 80 rightr7_27 (v := ?_) (Or.inl ⟨by rfl, ?_⟩) ?_
     rotate_left 1
     ·((intro w hSw; (try dsimp only at hSw); unfold rightr7_27; go_simp) <;> with_reducible rfl)
     (try simp only [Act.put, List.setIfInBounds_toArray, List.set_cons_zero, List.set_cons_succ])
     refine take_at 28 81 rightr7_28 (v := ?_) (Or.inl ⟨by rfl, ?_⟩) ?_
     rotate_left 1
     ·((intro w hSw; (try dsimp only at hSw); unfold rightr7_28; go_simp) <;> with_reducible rfl)
     (try simp only [Act.put, List.setIfInBounds_toArray, List.set_cons_zero, List.set_cons_succ])
     refine take_at 29 82 rightr7_29 (yields_part (w9.heap.size) (1) 27 (.tmp 81) #[.int .i64 u.k, .int .i64 u.i, .int .i64 u.j, .int .i64 u.n, (.slice a17 u.kids.length c18)] du (fun _ h => seesN_blk HX41.out trivial (seesN_of Kk47.out h)) (by rfl) rfl (by rfl) (by rfl) hu1 (by cases du <;> first | rfl | exact hu2) size_term) ?_
     (try simp only [Act.put, List.setIfInBounds_toArray, List.set_cons_zero, List.set_cons_succ])
     refine take_at 31 84 rightr7_31 (v := ?_) (Or.inl ⟨by rfl, ?_⟩) ?_
     rotate_left 1
     ·((intro w hSw; (try dsimp only at hSw); unfold rightr7_31; go_simp) <;> with_reducible rfl)
     (try simp only [Act.put, List.setIfInBounds_toArray, List.set_cons_zero, List.set_cons_succ])
     refine wpAnyH_ready (rs := [30]) (by kernel_rfl) (by simp) ?_
     refine AllReadyH.cons (o := rightr7_30) rfl (fun K hK => ?_) ?_
     ·unfold rightr7_30
      go_simp
      refine (refFree_any u _ ((.slice a17 u.kids.length c18)) (HL37.out.later (kept_trans Kk47.out (kept_trans Kk50.out (kept_trans Kk54.out Kk58.out)))).lies).mono ?_
      rintro e w59 ⟨rfl, k60⟩
      have Kk61 := Lib.hid k60
      clear k60
      clear hHeld
      refine hK.out _ _ (seesN_kept _ (kept_trans Kk50.out (kept_trans Kk54.out (kept_trans Kk58.out Kk61.out)))) (fun hHeld => ?_)
      clear hK K
      (try simp only [Act.put, List.setIfInBounds_toArray, List.set_cons_zero, List.set_cons_succ])
      refine take_at 32 85 rightr7_32 (v := ?_) (Or.inl ⟨by rfl, ?_⟩) ?_
      rotate_left 1
      ·((intro w hSw; (try dsimp only at hSw); unfold rightr7_32; go_simp) <;> with_reducible rfl)
      (try simp only [Act.put, List.setIfInBounds_toArray, List.set_cons_zero, List.set_cons_succ])
      refine take_at 33 86 rightr7_33 (v := ?_) (Or.inl ⟨by rfl, ?_⟩) ?_
      rotate_left 1
      ·((intro w hSw; (try dsimp only at hSw); unfold rightr7_33; go_simp) <;> with_reducible rfl)
      (try simp only [Act.put, List.setIfInBounds_toArray, List.set_cons_zero, List.set_cons_succ])
      refine take_at 34 87 rightr7_34 (v := ?_) (Or.inl ⟨by rfl, ?_⟩) ?_
      rotate_left 1
      ·((intro w hSw; (try dsimp only at hSw); unfold rightr7_34; go_simp) <;> with_reducible rfl)
      (try simp only [Act.put, List.setIfInBounds_toArray, List.set_cons_zero, List.set_cons_succ])
      refine take_at 35 88 rightr7_35 (v := ?_) (Or.inl ⟨by rfl, ?_⟩) ?_
      rotate_left 1
      ·((intro w hSw; (try dsimp only at hSw); unfold rightr7_35; go_simp) <;> with_reducible rfl)
      (try simp only [Act.put, List.setIfInBounds_toArray, List.set_cons_zero, List.set_cons_succ])
      refine take_at 36 89 rightr7_36 (yields_part (w9.heap.size) (11) 27 (.tmp 88) #[.int .i64 x.k, .int .i64 x.i, .int .i64 x.j, .int .i64 x.n, (.slice a23 x.kids.length c24)] du (fun _ h => seesN_blk HX41.out trivial (seesN_of Kk47.out h)) (by rfl) rfl (by rfl) (by rfl) hu1 (by cases du <;> first | rfl | exact hu2) size_term) ?_
      (try simp only [Act.put, List.setIfInBounds_toArray, List.set_cons_zero, List.set_cons_succ])
      refine take_at 38 91 rightr7_38 (v := ?_) (Or.inl ⟨by rfl, ?_⟩) ?_
      rotate_left 1
      ·((intro w hSw; (try dsimp only at hSw); unfold rightr7_38; go_simp) <;> with_reducible rfl)
      (try simp only [Act.put, List.setIfInBounds_toArray, List.set_cons_zero, List.set_cons_succ])
      refine wpAnyH_ready (rs := [37]) (by kernel_rfl) (by simp) ?_
      refine AllReadyH.cons (o := rightr7_37) rfl (fun K hK => ?_) ?_
      ·unfold rightr7_37
       go_simp
       refine (refFree_any x _ ((.slice a23 x.kids.length c24)) (HL39.out.later (kept_trans Kk47.out (kept_trans Kk50.out (kept_trans Kk54.out (kept_trans Kk58.out Kk61.out))))).lies).mono ?_
       rintro e w62 ⟨rfl, k63⟩
       have Kk64 := Lib.hid k63
       clear k63
       clear hHeld
       refine hK.out _ _ (seesN_kept _ (kept_trans Kk50.out (kept_trans Kk54.out (kept_trans Kk58.out (kept_trans Kk61.out Kk64.out))))) (fun hHeld => ?_)
       clear hK K
       (try simp only [Act.put, List.setIfInBounds_toArray, List.set_cons_zero, List.set_cons_succ])
       refine take_at 39 92 rightr7_39 (v := ?_) (Or.inl ⟨by rfl, ?_⟩) ?_
       rotate_left 1
       ·((intro w hSw; (try dsimp only at hSw); unfold rightr7_39; go_simp) <;> with_reducible rfl)
       (try simp only [Act.put, List.setIfInBounds_toArray, List.set_cons_zero, List.set_cons_succ])
       refine take_at 40 93 rightr7_40 (v := ?_) (Or.inl ⟨by rfl, ?_⟩) ?_
       rotate_left 1
       ·((intro w hSw; (try dsimp only at hSw); unfold rightr7_40; go_simp) <;> with_reducible rfl)
       (try simp only [Act.put, List.setIfInBounds_toArray, List.set_cons_zero, List.set_cons_succ])
       refine wpAnyH_done (by kernel_rfl) ?_ _
       clear hHeld
       have kvV0 : SeesN V0 V0.heap.size w62 := seesN_kept _ (kept_trans KB36.out (kept_trans Kk47.out (kept_trans Kk50.out (kept_trans Kk54.out (kept_trans Kk58.out (kept_trans Kk61.out Kk64.out))))))
       have kvW28 : SeesN W28 V0.heap.size w62 := seesN_kept _ (kept_trans Kk47.out (kept_trans Kk50.out (kept_trans Kk54.out (kept_trans Kk58.out (kept_trans Kk61.out Kk64.out)))))
       go_wp2_with (refine stop_load 27 (.tmp 103) rfl ?_)
       intro _
       refine wpList_load_part (w9.heap.size) (6) 27 (.tmp 103) #[.int .i64 v.k, .int .i64 v.i, .int .i64 v.j, .int .i64 v.n, (.slice a20 v.kids.length c21)] du (blk_at HX41.out (kept_trans Kk47.out (kept_trans Kk50.out (kept_trans Kk54.out (kept_trans Kk58.out (kept_trans Kk61.out Kk64.out)))))) (by rfl) rfl (by rfl) (by rfl) hu1 (by cases du <;> first | rfl | exact hu2) size_term ?_
       go_wp2_with fail
       clear kvV0
       clear kvW28
       have hq67 := refpure_any v _ ((.slice a20 v.kids.length c21)) (HL38.out.later (kept_trans Kk47.out (kept_trans Kk50.out (kept_trans Kk54.out (kept_trans Kk58.out (kept_trans Kk61.out Kk64.out)))))).lies (Nat.le_trans HN.out.v (by decide))
       rw [(HG.out.1.v rfl).p] at hq67
       refine hq67.mono ?_
       clear hq67
       rintro e w65 ⟨rfl, k66⟩
       have Kk68 := Lib.hid k66
       clear k66
       have kvV0 : SeesN V0 V0.heap.size w65 := seesN_kept _ (kept_trans KB36.out (kept_trans Kk47.out (kept_trans Kk50.out (kept_trans Kk54.out (kept_trans Kk58.out (kept_trans Kk61.out (kept_trans Kk64.out Kk68.out)))))))
       have kvW28 : SeesN W28 V0.heap.size w65 := seesN_kept _ (kept_trans Kk47.out (kept_trans Kk50.out (kept_trans Kk54.out (kept_trans Kk58.out (kept_trans Kk61.out (kept_trans Kk64.out Kk68.out))))))
       go_wp2_with (refine stop_load 27 (.tmp 107) rfl ?_)
       intro _
       refine wpList_load_part (w9.heap.size) (6) 27 (.tmp 107) #[.int .i64 v.k, .int .i64 v.i, .int .i64 v.j, .int .i64 v.n, (.slice a20 v.kids.length c21)] du (blk_at HX41.out (kept_trans Kk47.out (kept_trans Kk50.out (kept_trans Kk54.out (kept_trans Kk58.out (kept_trans Kk61.out (kept_trans Kk64.out Kk68.out))))))) (by rfl) rfl (by rfl) (by rfl) hu1 (by cases du <;> first | rfl | exact hu2) size_term ?_
       go_wp2_with fail
       clear kvV0
       clear kvW28
       refine (refFree_any v _ ((.slice a20 v.kids.length c21)) (HL38.out.later (kept_trans Kk47.out (kept_trans Kk50.out (kept_trans Kk54.out (kept_trans Kk58.out (kept_trans Kk61.out (kept_trans Kk64.out Kk68.out))))))).lies).mono ?_
       rintro e w69 ⟨rfl, k70⟩
       have Kk71 := Lib.hid k70
       clear k70
       have kvV0 : SeesN V0 V0.heap.size w69 := seesN_kept _ (kept_trans KB36.out (kept_trans Kk47.out (kept_trans Kk50.out (kept_trans Kk54.out (kept_trans Kk58.out (kept_trans Kk61.out (kept_trans Kk64.out (kept_trans Kk68.out Kk71.out))))))))
       have kvW28 : SeesN W28 V0.heap.size w69 := seesN_kept _ (kept_trans Kk47.out (kept_trans Kk50.out (kept_trans Kk54.out (kept_trans Kk58.out (kept_trans Kk61.out (kept_trans Kk64.out (kept_trans Kk68.out Kk71.out)))))))
       go_wp2_with fail
       clear kvV0
       clear kvW28
       refine (wakes15W_any _).mono ?_
       rintro e w72 ⟨rfl, k73⟩
       have Kk74 := Lib.hid k73
       clear k73
       have kvV0 : SeesN V0 V0.heap.size w72 := seesN_kept _ (kept_trans KB36.out (kept_trans Kk47.out (kept_trans Kk50.out (kept_trans Kk54.out (kept_trans Kk58.out (kept_trans Kk61.out (kept_trans Kk64.out (kept_trans Kk68.out (kept_trans Kk71.out Kk74.out)))))))))
       have kvW28 : SeesN W28 V0.heap.size w72 := seesN_kept _ (kept_trans Kk47.out (kept_trans Kk50.out (kept_trans Kk54.out (kept_trans Kk58.out (kept_trans Kk61.out (kept_trans Kk64.out (kept_trans Kk68.out (kept_trans Kk71.out Kk74.out))))))))
       go_wp2
       go_ret
       exact ⟨rfl, (kept_trans KB35.out (kept_trans Kk47.out (kept_trans Kk50.out (kept_trans Kk54.out (kept_trans Kk58.out (kept_trans Kk61.out (kept_trans Kk64.out (kept_trans Kk68.out (kept_trans Kk71.out Kk74.out)))))))))⟩
      exact AllReadyH.nil
     exact AllReadyH.nil
    exact AllReadyH.nil
   exact AllReadyH.nil
  exact AllReadyH.nil
 | true =>
  have kvV0 : SeesN V0 V0.heap.size w4 := seesN_kept _ Kk8.out
  go_wp2
  go_ret
  exact ⟨rfl, (kept_trans Kk3.out Kk8.out)⟩
set_option maxRecDepth 20000 in
set_option maxHeartbeats 4000000 in
theorem rightf_any (r : Int) (n : Int) (c : List En) (on : List Jd) (w : World) (sc : Value) (son : Value) (hlc : LiesE w c sc) (hrr : I64 r) (hrn : I64 n) (hlon : LiesJ w on son) (u v x : Tm) (m : Int) (ho : Se.ofB c r n on = some ⟨false, u, v, x, m⟩) : Calls Try.prog 3 #[sc, .int .i64 r, .int .i64 n, son] w fun e w' => e = .returned (.bool true) ∧ Kept w w' := by
 have HEc := Lib.hid hlc
 obtain ⟨ac, cc, Sc, rfl, -⟩ := hlc.out
 clear hlc
 have Rr := Lib.hid hrr
 clear hrr
 have Rn := Lib.hid hrn
 clear hrn
 have HEon := Lib.hid hlon
 obtain ⟨aon, con, Son, rfl, -⟩ := hlon.out
 clear hlon
 have HO := Lib.hid ho
 clear ho
 obtain ⟨dj, dj1, dj2⟩ := under_of 29 (by kernel_rfl)
 obtain ⟨du, hu1, hu2⟩ := under_term
 go_enter Try.func3, Try.ntmps3
 go_upto_region 1 with fail
 refine at_code (fun V0 hV0 => ?_)
 have k1 : Kept w V0 := by rw [← hV0]; exact kept_refl _
 have Z0 : Hid (V0.heap.size = w.heap.size + 0) := by show _ = _; rw [← hV0]; rfl
 clear hV0
 have Kk3 := Lib.hid k1
 clear k1
 have kvV0 : SeesN V0 V0.heap.size V0 := seesN_kept _ (kept_refl _)
 go_wp2_with fail
 clear kvV0
 refine (lheavy15_any c on _ ((.slice ac c.length cc)) ((.slice aon on.length con)) (HEc.out.keep Kk3.out) (HEon.out.keep Kk3.out)).mono ?_
 rintro e w4 ⟨gb6, rfl, hg7, k5⟩
 have Hhg7 := Lib.hid hg7
 clear hg7
 have Kk8 := Lib.hid k5
 clear k5
 cases gb6 with
 | false =>
  have HIhg7 := Lib.hid (Hhg7.out rfl)
  have HS0 : Hid (Se.Sml0 c on) := Lib.hid ⟨HIhg7.out.1.1, HIhg7.out.1.2, HIhg7.out.2.2⟩
  have HS : Hid (Se.Sml c on) := Lib.hid HS0.out.wide
  have HG := Lib.hid (Se.ofB_good HS.out HO.out)
  have HN := Lib.hid (Se.ofB_small HS0.out HO.out)
  have GU : Hid (u.fine) := Lib.hid (right_fine (Se.pure_right HG.out.1.u.p))
  have GX : Hid (x.fine) := Lib.hid (right_fine (Se.pure_right HG.out.1.a.p))
  have HZV : Hid (v = Tm.zero) := Lib.hid (HG.out.1.z rfl)
  have GV : Hid (v.fine) := Lib.hid (by rw [HZV.out]; exact zero_fine)
  have GM : Hid (I64 m) := Lib.hid (by have h1 : 0 ≤ m := HG.out.1.i; have h2 : m ≤ 1000 := HG.out.2; unfold I64; omega)
  have eq1 : decide (m < 0) = false := decide_eq_false (by have h1 : 0 ≤ m := HG.out.1.i; omega)
  have eq2 : decide (1000 < m) = false := decide_eq_false (by have h2 : m ≤ 1000 := HG.out.2; omega)
  have ew0 : decide ((c.length : Int) < u.freeB) = false := decide_eq_false (by rw [free_of (Se.pure_right HG.out.1.u.p)]; have h1 := HG.out.1.u.f; exact Int.not_lt.2 h1)
  have ev0 : decide (u.freeB ≤ (c.length : Int)) = true := decide_eq_true (by rw [free_of (Se.pure_right HG.out.1.u.p)]; exact HG.out.1.u.f)
  have ew1 : decide ((c.length : Int) < x.freeB) = false := decide_eq_false (by rw [free_of (Se.pure_right HG.out.1.a.p)]; have h1 := HG.out.1.a.f; exact Int.not_lt.2 h1)
  have ev1 : decide (x.freeB ≤ (c.length : Int)) = true := decide_eq_true (by rw [free_of (Se.pure_right HG.out.1.a.p)]; exact HG.out.1.a.f)
  have kvV0 : SeesN V0 V0.heap.size w4 := seesN_kept _ Kk8.out
  go_wp2_with fail
  clear kvV0
  refine (ofR_some c on r n w (Par w V0.heap.size [] (fun _ => True)) (fun b h => Or.inl ⟨trivial, h⟩) w4 (kept_trans Kk3.out Kk8.out) ((.slice ac c.length cc)) ((.slice aon on.length con)) HEc.out HEon.out Rr.out Rn.out HS.out HO.out).mono ?_
  rintro e w9 ⟨s11, s12, s13, rfl, ⟨hl14, hl15, hl16⟩, k10⟩
  obtain ⟨a17, c18, S19, rfl, -⟩ := hl14.out
  obtain ⟨a20, c21, S22, rfl, -⟩ := hl15.out
  obtain ⟨a23, c24, S25, rfl, -⟩ := hl16.out
  have Kk26 := Lib.hid k10
  clear k10
  have Hhl14 : Hid (LiesQ w9 (Par w V0.heap.size [] (fun _ => True)) u.kids _) := par_give hl14 (Below.size Kk8.out) (xlt_nil _)
  have Hhl15 : Hid (LiesQ w9 (Par w V0.heap.size [] (fun _ => True)) v.kids _) := par_give hl15 (Below.size Kk8.out) (xlt_nil _)
  have Hhl16 : Hid (LiesQ w9 (Par w V0.heap.size [] (fun _ => True)) x.kids _) := par_give hl16 (Below.size Kk8.out) (xlt_nil _)
  clear hl14 hl15 hl16
  have kvV0 : SeesN V0 V0.heap.size w9 := seesN_kept _ (kept_trans Kk8.out Kk26.out)
  go_wp2_with (refine stop_store 29 (.tmp 9) (.tmp 21) rfl ?_)
  intro _
  refine wpList_store_part_n (by rfl) 29 (.tmp 9) (.tmp 21) rfl (w9.heap.size) 0 #[.bool false, .int .i64 u.k, .int .i64 u.i, .int .i64 u.j, .int .i64 u.n, (.slice a17 u.kids.length c18), .int .i64 v.k, .int .i64 v.i, .int .i64 v.j, .int .i64 v.n, (.slice a20 v.kids.length c21), .int .i64 x.k, .int .i64 x.i, .int .i64 x.j, .int .i64 x.n, (.slice a23 x.kids.length c24), .int .i64 m] (by rfl) (by rfl) 29 (by kernel_rfl) (row_ok rfl) ?_
  intro W27 hW27
  clear kvV0
  obtain ⟨k30, x29, z31⟩ := alloc1 hW27
  have Kk32 := Lib.hid k30
  clear k30
  have Hx29 := Lib.hid x29
  have Hz31 := Lib.hid z31
  clear x29 z31 hW27
  have HG33 : Hid (V0.heap.size ≤ w9.heap.size) := (Below.size (kept_trans Kk8.out Kk26.out))
  have XL34 : Hid (XLt (w9.heap.size :: []) W27) := (xlt_more (xlt_nil _) Kk32.out (by have := Hz31.out; omega))
  refine ⟨_, #[.bool false, .int .i64 u.k, .int .i64 u.i, .int .i64 u.j, .int .i64 u.n, (.slice a17 u.kids.length c18), .int .i64 v.k, .int .i64 v.i, .int .i64 v.j, .int .i64 v.n, (.slice a20 v.kids.length c21), .int .i64 x.k, .int .i64 x.i, .int .i64 x.j, .int .i64 x.n, (.slice a23 x.kids.length c24), .int .i64 m], Hx29.out, rfl, Nat.le_of_ble_eq_true rfl, ?_⟩
  intro W28 hW28
  have KB35 := Lib.hid (kept_set (kept_trans Kk3.out (kept_trans Kk8.out (kept_trans Kk26.out Kk32.out))) hW28 (by have := HG33.out; have := Z0.out; omega))
  have KB36 := Lib.hid (kept_set (kept_trans Kk8.out (kept_trans Kk26.out Kk32.out)) hW28 HG33.out)
  have HL37 : Hid (LiesQ W28 (Par w V0.heap.size (w9.heap.size :: []) (fun _ => True)) u.kids _) := par_set (par_grow Hhl14.out Kk32.out (List.forall_mem_cons.2 ⟨(Or.inr (Nat.le_refl w9.heap.size)), (fun _ h => nomatch h)⟩)) hW28 (List.mem_cons_self ..) (by have := HG33.out; have := Z0.out; omega)
  have HL38 : Hid (LiesQ W28 (Par w V0.heap.size (w9.heap.size :: []) (fun _ => True)) v.kids _) := par_set (par_grow Hhl15.out Kk32.out (List.forall_mem_cons.2 ⟨(Or.inr (Nat.le_refl w9.heap.size)), (fun _ h => nomatch h)⟩)) hW28 (List.mem_cons_self ..) (by have := HG33.out; have := Z0.out; omega)
  have HL39 : Hid (LiesQ W28 (Par w V0.heap.size (w9.heap.size :: []) (fun _ => True)) x.kids _) := par_set (par_grow Hhl16.out Kk32.out (List.forall_mem_cons.2 ⟨(Or.inr (Nat.le_refl w9.heap.size)), (fun _ h => nomatch h)⟩)) hW28 (List.mem_cons_self ..) (by have := HG33.out; have := Z0.out; omega)
  have XL40 := Lib.hid (xlt_set XL34.out hW28)
  have HX41 := Lib.hid (blk_same Hx29.out hW28)
  clear hW28
  have ld42 := partN_cell (r := V0.heap.size) HX41.out trivial 0 (.bool false) rfl
  have ld43 := partN_cell (r := V0.heap.size) HX41.out trivial 16 (.int .i64 m) rfl
  have kvV0 : SeesN V0 V0.heap.size W28 := seesN_kept _ KB36.out
  have kvW28 : SeesN W28 V0.heap.size W28 := seesN_kept _ (kept_refl _)
  go_wp2_with fail
  clear kvV0
  clear kvW28
  obtain ⟨W44, h45⟩ : ∃ x, World.drew W28 = x := ⟨_, rfl⟩
  have k46 : Kept W28 W44 := by rw [← h45]; exact kept_drew (kept_refl _)
  have Kk47 := Lib.hid k46
  clear k46
  refine wp_region_held_drew (S := SeesN W44 V0.heap.size) (by kernel_rfl) ?_ (fun hHeld => ?_)
  ·(try dsimp only)
   rw [h45]
   exact seesN_kept _ (kept_refl _)
  rw [h45] at hHeld ⊢
  clear h45
  refine take_at 0 53 rightr7_0 (v := ?_) (Or.inl ⟨by rfl, ?_⟩) ?_
  rotate_left 1
  ·((intro w hSw; (try dsimp only at hSw); unfold rightr7_0; go_simp) <;> with_reducible rfl)
  (try simp only [Act.put, List.setIfInBounds_toArray, List.set_cons_zero, List.set_cons_succ])
  refine take_at 1 54 rightr7_1 (v := ?_) (Or.inl ⟨by rfl, ?_⟩) ?_
  rotate_left 1
  ·((intro w hSw; (try dsimp only at hSw); have qV0 := seesN_of (kept_trans KB36.out Kk47.out) hSw; have qW28 := seesN_of Kk47.out hSw; unfold rightr7_1; go_simp) <;> with_reducible rfl)
  (try simp only [Act.put, List.setIfInBounds_toArray, List.set_cons_zero, List.set_cons_succ])
  refine take_at 2 55 rightr7_2 (v := ?_) (Or.inl ⟨by rfl, ?_⟩) ?_
  rotate_left 1
  ·((intro w hSw; (try dsimp only at hSw); unfold rightr7_2; go_simp) <;> with_reducible rfl)
  (try simp only [Act.put, List.setIfInBounds_toArray, List.set_cons_zero, List.set_cons_succ])
  refine wpAnyH_ready (rs := [3]) (by kernel_rfl) (by simp) ?_
  refine AllReadyH.cons (o := rightr7_3) rfl (fun K hK => ?_) ?_
  ·unfold rightr7_3
   go_simp
   refine (equalR_f r _ HG.out.1.e).mono ?_
   rintro e w48 ⟨rfl, k49⟩
   have Kk50 := Lib.hid k49
   clear k49
   clear hHeld
   refine hK.out _ _ (seesN_kept _ Kk50.out) (fun hHeld => ?_)
   clear hK K
   (try simp only [Act.put, List.setIfInBounds_toArray, List.set_cons_zero, List.set_cons_succ])
   refine take_at 4 57 rightr7_4 (v := ?_) (Or.inl ⟨by rfl, ?_⟩) ?_
   rotate_left 1
   ·((intro w hSw; (try dsimp only at hSw); unfold rightr7_4; go_simp) <;> with_reducible rfl)
   (try simp only [Act.put, List.setIfInBounds_toArray, List.set_cons_zero, List.set_cons_succ])
   refine take_at 5 58 rightr7_5 (v := ?_) (Or.inl ⟨by rfl, ?_⟩) ?_
   rotate_left 1
   ·((intro w hSw; (try dsimp only at hSw); unfold rightr7_5; go_simp) <;> with_reducible rfl)
   (try simp only [Act.put, List.setIfInBounds_toArray, List.set_cons_zero, List.set_cons_succ])
   refine take_at 6 59 rightr7_6 (v := ?_) (Or.inl ⟨by rfl, ?_⟩) ?_
   rotate_left 1
   ·((intro w hSw; (try dsimp only at hSw); unfold rightr7_6; go_simp) <;> with_reducible rfl)
   (try simp only [Act.put, List.setIfInBounds_toArray, List.set_cons_zero, List.set_cons_succ])
   refine take_at 7 60 rightr7_7 (v := ?_) (Or.inl ⟨by rfl, ?_⟩) ?_
   rotate_left 1
   ·((intro w hSw; (try dsimp only at hSw); have qV0 := seesN_of (kept_trans KB36.out Kk47.out) hSw; have qW28 := seesN_of Kk47.out hSw; unfold rightr7_7; go_simp) <;> with_reducible rfl)
   (try simp only [Act.put, List.setIfInBounds_toArray, List.set_cons_zero, List.set_cons_succ])
   refine take_at 8 61 rightr7_8 (v := ?_) (Or.inl ⟨by rfl, ?_⟩) ?_
   rotate_left 1
   ·((intro w hSw; (try dsimp only at hSw); unfold rightr7_8; go_simp) <;> with_reducible rfl)
   (try simp only [Act.put, List.setIfInBounds_toArray, List.set_cons_zero, List.set_cons_succ])
   refine take_at 9 62 rightr7_9 (v := ?_) (Or.inl ⟨by rfl, ?_⟩) ?_
   rotate_left 1
   ·((intro w hSw; (try dsimp only at hSw); unfold rightr7_9; go_simp) <;> with_reducible rfl)
   (try simp only [Act.put, List.setIfInBounds_toArray, List.set_cons_zero, List.set_cons_succ])
   refine take_at 10 63 rightr7_10 (v := ?_) (Or.inl ⟨by rfl, ?_⟩) ?_
   rotate_left 1
   ·((intro w hSw; (try dsimp only at hSw); unfold rightr7_10; go_simp) <;> with_reducible rfl)
   (try simp only [Act.put, List.setIfInBounds_toArray, List.set_cons_zero, List.set_cons_succ])
   refine take_at 11 64 rightr7_11 (v := ?_) (Or.inl ⟨by rfl, ?_⟩) ?_
   rotate_left 1
   ·((intro w hSw; (try dsimp only at hSw); unfold rightr7_11; go_simp) <;> with_reducible rfl)
   (try simp only [Act.put, List.setIfInBounds_toArray, List.set_cons_zero, List.set_cons_succ])
   refine take_at 12 65 rightr7_12 (v := ?_) (Or.inl ⟨by rfl, ?_⟩) ?_
   rotate_left 1
   ·((intro w hSw; (try dsimp only at hSw); have qV0 := seesN_of (kept_trans KB36.out Kk47.out) hSw; have qW28 := seesN_of Kk47.out hSw; unfold rightr7_12; go_simp) <;> with_reducible rfl)
   (try simp only [Act.put, List.setIfInBounds_toArray, List.set_cons_zero, List.set_cons_succ])
   refine take_at 13 66 rightr7_13 (v := ?_) (Or.inl ⟨by rfl, ?_⟩) ?_
   rotate_left 1
   ·((intro w hSw; (try dsimp only at hSw); unfold rightr7_13; go_simp) <;> with_reducible rfl)
   (try simp only [Act.put, List.setIfInBounds_toArray, List.set_cons_zero, List.set_cons_succ])
   refine take_at 14 67 rightr7_14 (v := ?_) (Or.inl ⟨by rfl, ?_⟩) ?_
   rotate_left 1
   ·((intro w hSw; (try dsimp only at hSw); unfold rightr7_14; go_simp) <;> with_reducible rfl)
   (try simp only [Act.put, List.setIfInBounds_toArray, List.set_cons_zero, List.set_cons_succ])
   refine take_at 15 68 rightr7_15 (v := ?_) (Or.inl ⟨by rfl, ?_⟩) ?_
   rotate_left 1
   ·((intro w hSw; (try dsimp only at hSw); unfold rightr7_15; go_simp) <;> with_reducible rfl)
   (try simp only [Act.put, List.setIfInBounds_toArray, List.set_cons_zero, List.set_cons_succ])
   refine take_at 16 69 rightr7_16 (v := ?_) (Or.inl ⟨by rfl, ?_⟩) ?_
   rotate_left 1
   ·((intro w hSw; (try dsimp only at hSw); unfold rightr7_16; go_simp) <;> with_reducible rfl)
   (try simp only [Act.put, List.setIfInBounds_toArray, List.set_cons_zero, List.set_cons_succ])
   refine take_at 17 70 rightr7_17 (yields_part (w9.heap.size) (1) 27 (.tmp 69) #[.int .i64 u.k, .int .i64 u.i, .int .i64 u.j, .int .i64 u.n, (.slice a17 u.kids.length c18)] du (fun _ h => seesN_blk HX41.out trivial (seesN_of Kk47.out h)) (by rfl) rfl (by rfl) (by rfl) hu1 (by cases du <;> first | rfl | exact hu2) size_term) ?_
   (try simp only [Act.put, List.setIfInBounds_toArray, List.set_cons_zero, List.set_cons_succ])
   refine wpAnyH_ready (rs := [18]) (by kernel_rfl) (by simp) ?_
   refine AllReadyH.cons (o := rightr7_18) rfl (fun K hK => ?_) ?_
   ·unfold rightr7_18
    go_simp
    have hq53 := refpure_any u _ ((.slice a17 u.kids.length c18)) (HL37.out.later (kept_trans Kk47.out Kk50.out)).lies (Nat.le_trans HN.out.u (by decide))
    rw [HG.out.1.u.p] at hq53
    refine hq53.mono ?_
    clear hq53
    rintro e w51 ⟨rfl, k52⟩
    have Kk54 := Lib.hid k52
    clear k52
    clear hHeld
    refine hK.out _ _ (seesN_kept _ (kept_trans Kk50.out Kk54.out)) (fun hHeld => ?_)
    clear hK K
    (try simp only [Act.put, List.setIfInBounds_toArray, List.set_cons_zero, List.set_cons_succ])
    refine take_at 19 72 rightr7_19 (v := ?_) (Or.inl ⟨by rfl, ?_⟩) ?_
    rotate_left 1
    ·((intro w hSw; (try dsimp only at hSw); unfold rightr7_19; go_simp) <;> with_reducible rfl)
    (try simp only [Act.put, List.setIfInBounds_toArray, List.set_cons_zero, List.set_cons_succ])
    refine take_at 20 73 rightr7_20 (v := ?_) (Or.inl ⟨by rfl, ?_⟩) ?_
    rotate_left 1
    ·((intro w hSw; (try dsimp only at hSw); unfold rightr7_20; go_simp) <;> with_reducible rfl)
    (try simp only [Act.put, List.setIfInBounds_toArray, List.set_cons_zero, List.set_cons_succ])
    refine take_at 21 74 rightr7_21 (v := ?_) (Or.inl ⟨by rfl, ?_⟩) ?_
    rotate_left 1
    ·((intro w hSw; (try dsimp only at hSw); unfold rightr7_21; go_simp) <;> with_reducible rfl)
    (try simp only [Act.put, List.setIfInBounds_toArray, List.set_cons_zero, List.set_cons_succ])
    refine take_at 22 75 rightr7_22 (v := ?_) (Or.inl ⟨by rfl, ?_⟩) ?_
    rotate_left 1
    ·((intro w hSw; (try dsimp only at hSw); unfold rightr7_22; go_simp) <;> with_reducible rfl)
    (try simp only [Act.put, List.setIfInBounds_toArray, List.set_cons_zero, List.set_cons_succ])
    refine take_at 23 76 rightr7_23 (yields_part (w9.heap.size) (11) 27 (.tmp 75) #[.int .i64 x.k, .int .i64 x.i, .int .i64 x.j, .int .i64 x.n, (.slice a23 x.kids.length c24)] du (fun _ h => seesN_blk HX41.out trivial (seesN_of Kk47.out h)) (by rfl) rfl (by rfl) (by rfl) hu1 (by cases du <;> first | rfl | exact hu2) size_term) ?_
    (try simp only [Act.put, List.setIfInBounds_toArray, List.set_cons_zero, List.set_cons_succ])
    refine wpAnyH_ready (rs := [24]) (by kernel_rfl) (by simp) ?_
    refine AllReadyH.cons (o := rightr7_24) rfl (fun K hK => ?_) ?_
    ·unfold rightr7_24
     go_simp
     have hq57 := refpure_any x _ ((.slice a23 x.kids.length c24)) (HL39.out.later (kept_trans Kk47.out (kept_trans Kk50.out Kk54.out))).lies (Nat.le_trans HN.out.a (by decide))
     rw [HG.out.1.a.p] at hq57
     refine hq57.mono ?_
     clear hq57
     rintro e w55 ⟨rfl, k56⟩
     have Kk58 := Lib.hid k56
     clear k56
     clear hHeld
     refine hK.out _ _ (seesN_kept _ (kept_trans Kk50.out (kept_trans Kk54.out Kk58.out))) (fun hHeld => ?_)
     clear hK K
     (try simp only [Act.put, List.setIfInBounds_toArray, List.set_cons_zero, List.set_cons_succ])
     refine take_at 25 78 rightr7_25 (v := ?_) (Or.inl ⟨by rfl, ?_⟩) ?_
     rotate_left 1
     ·((intro w hSw; (try dsimp only at hSw); unfold rightr7_25; go_simp) <;> with_reducible rfl)
     (try simp only [Act.put, List.setIfInBounds_toArray, List.set_cons_zero, List.set_cons_succ])
     refine take_at 26 79 rightr7_26 (v := ?_) (Or.inl ⟨by rfl, ?_⟩) ?_
     rotate_left 1
     ·((intro w hSw; (try dsimp only at hSw); unfold rightr7_26; go_simp) <;> with_reducible rfl)
     (try simp only [Act.put, List.setIfInBounds_toArray, List.set_cons_zero, List.set_cons_succ])
     refine take_at 27 80 rightr7_27 (v := ?_) (Or.inl ⟨by rfl, ?_⟩) ?_
     rotate_left 1
     ·((intro w hSw; (try dsimp only at hSw); unfold rightr7_27; go_simp) <;> with_reducible rfl)
     (try simp only [Act.put, List.setIfInBounds_toArray, List.set_cons_zero, List.set_cons_succ])
     refine take_at 28 81 rightr7_28 (v := ?_) (Or.inl ⟨by rfl, ?_⟩) ?_
     rotate_left 1
     ·((intro w hSw; (try dsimp only at hSw); unfold rightr7_28; go_simp) <;> with_reducible rfl)
     (try simp only [Act.put, List.setIfInBounds_toArray, List.set_cons_zero, List.set_cons_succ])
     refine take_at 29 82 rightr7_29 (yields_part (w9.heap.size) (1) 27 (.tmp 81) #[.int .i64 u.k, .int .i64 u.i, .int .i64 u.j, .int .i64 u.n, (.slice a17 u.kids.length c18)] du (fun _ h => seesN_blk HX41.out trivial (seesN_of Kk47.out h)) (by rfl) rfl (by rfl) (by rfl) hu1 (by cases du <;> first | rfl | exact hu2) size_term) ?_
     (try simp only [Act.put, List.setIfInBounds_toArray, List.set_cons_zero, List.set_cons_succ])
     refine take_at 31 84 rightr7_31 (v := ?_) (Or.inl ⟨by rfl, ?_⟩) ?_
     rotate_left 1
     ·((intro w hSw; (try dsimp only at hSw); unfold rightr7_31; go_simp) <;> with_reducible rfl)
     (try simp only [Act.put, List.setIfInBounds_toArray, List.set_cons_zero, List.set_cons_succ])
     refine wpAnyH_ready (rs := [30]) (by kernel_rfl) (by simp) ?_
     refine AllReadyH.cons (o := rightr7_30) rfl (fun K hK => ?_) ?_
     ·unfold rightr7_30
      go_simp
      refine (refFree_any u _ ((.slice a17 u.kids.length c18)) (HL37.out.later (kept_trans Kk47.out (kept_trans Kk50.out (kept_trans Kk54.out Kk58.out)))).lies).mono ?_
      rintro e w59 ⟨rfl, k60⟩
      have Kk61 := Lib.hid k60
      clear k60
      clear hHeld
      refine hK.out _ _ (seesN_kept _ (kept_trans Kk50.out (kept_trans Kk54.out (kept_trans Kk58.out Kk61.out)))) (fun hHeld => ?_)
      clear hK K
      (try simp only [Act.put, List.setIfInBounds_toArray, List.set_cons_zero, List.set_cons_succ])
      refine take_at 32 85 rightr7_32 (v := ?_) (Or.inl ⟨by rfl, ?_⟩) ?_
      rotate_left 1
      ·((intro w hSw; (try dsimp only at hSw); unfold rightr7_32; go_simp) <;> with_reducible rfl)
      (try simp only [Act.put, List.setIfInBounds_toArray, List.set_cons_zero, List.set_cons_succ])
      refine take_at 33 86 rightr7_33 (v := ?_) (Or.inl ⟨by rfl, ?_⟩) ?_
      rotate_left 1
      ·((intro w hSw; (try dsimp only at hSw); unfold rightr7_33; go_simp) <;> with_reducible rfl)
      (try simp only [Act.put, List.setIfInBounds_toArray, List.set_cons_zero, List.set_cons_succ])
      refine take_at 34 87 rightr7_34 (v := ?_) (Or.inl ⟨by rfl, ?_⟩) ?_
      rotate_left 1
      ·((intro w hSw; (try dsimp only at hSw); unfold rightr7_34; go_simp) <;> with_reducible rfl)
      (try simp only [Act.put, List.setIfInBounds_toArray, List.set_cons_zero, List.set_cons_succ])
      refine take_at 35 88 rightr7_35 (v := ?_) (Or.inl ⟨by rfl, ?_⟩) ?_
      rotate_left 1
      ·((intro w hSw; (try dsimp only at hSw); unfold rightr7_35; go_simp) <;> with_reducible rfl)
      (try simp only [Act.put, List.setIfInBounds_toArray, List.set_cons_zero, List.set_cons_succ])
      refine take_at 36 89 rightr7_36 (yields_part (w9.heap.size) (11) 27 (.tmp 88) #[.int .i64 x.k, .int .i64 x.i, .int .i64 x.j, .int .i64 x.n, (.slice a23 x.kids.length c24)] du (fun _ h => seesN_blk HX41.out trivial (seesN_of Kk47.out h)) (by rfl) rfl (by rfl) (by rfl) hu1 (by cases du <;> first | rfl | exact hu2) size_term) ?_
      (try simp only [Act.put, List.setIfInBounds_toArray, List.set_cons_zero, List.set_cons_succ])
      refine take_at 38 91 rightr7_38 (v := ?_) (Or.inl ⟨by rfl, ?_⟩) ?_
      rotate_left 1
      ·((intro w hSw; (try dsimp only at hSw); unfold rightr7_38; go_simp) <;> with_reducible rfl)
      (try simp only [Act.put, List.setIfInBounds_toArray, List.set_cons_zero, List.set_cons_succ])
      refine wpAnyH_ready (rs := [37]) (by kernel_rfl) (by simp) ?_
      refine AllReadyH.cons (o := rightr7_37) rfl (fun K hK => ?_) ?_
      ·unfold rightr7_37
       go_simp
       refine (refFree_any x _ ((.slice a23 x.kids.length c24)) (HL39.out.later (kept_trans Kk47.out (kept_trans Kk50.out (kept_trans Kk54.out (kept_trans Kk58.out Kk61.out))))).lies).mono ?_
       rintro e w62 ⟨rfl, k63⟩
       have Kk64 := Lib.hid k63
       clear k63
       clear hHeld
       refine hK.out _ _ (seesN_kept _ (kept_trans Kk50.out (kept_trans Kk54.out (kept_trans Kk58.out (kept_trans Kk61.out Kk64.out))))) (fun hHeld => ?_)
       clear hK K
       (try simp only [Act.put, List.setIfInBounds_toArray, List.set_cons_zero, List.set_cons_succ])
       refine take_at 39 92 rightr7_39 (v := ?_) (Or.inl ⟨by rfl, ?_⟩) ?_
       rotate_left 1
       ·((intro w hSw; (try dsimp only at hSw); unfold rightr7_39; go_simp) <;> with_reducible rfl)
       (try simp only [Act.put, List.setIfInBounds_toArray, List.set_cons_zero, List.set_cons_succ])
       refine take_at 40 93 rightr7_40 (v := ?_) (Or.inl ⟨by rfl, ?_⟩) ?_
       rotate_left 1
       ·((intro w hSw; (try dsimp only at hSw); unfold rightr7_40; go_simp) <;> with_reducible rfl)
       (try simp only [Act.put, List.setIfInBounds_toArray, List.set_cons_zero, List.set_cons_succ])
       refine wpAnyH_done (by kernel_rfl) ?_ _
       clear hHeld
       have kvV0 : SeesN V0 V0.heap.size w62 := seesN_kept _ (kept_trans KB36.out (kept_trans Kk47.out (kept_trans Kk50.out (kept_trans Kk54.out (kept_trans Kk58.out (kept_trans Kk61.out Kk64.out))))))
       have kvW28 : SeesN W28 V0.heap.size w62 := seesN_kept _ (kept_trans Kk47.out (kept_trans Kk50.out (kept_trans Kk54.out (kept_trans Kk58.out (kept_trans Kk61.out Kk64.out)))))
       go_wp2_with (refine stop_load 27 (.tmp 97) rfl ?_)
       intro _
       refine wpList_load_part (w9.heap.size) (6) 27 (.tmp 97) #[.int .i64 v.k, .int .i64 v.i, .int .i64 v.j, .int .i64 v.n, (.slice a20 v.kids.length c21)] du (blk_at HX41.out (kept_trans Kk47.out (kept_trans Kk50.out (kept_trans Kk54.out (kept_trans Kk58.out (kept_trans Kk61.out Kk64.out)))))) (by rfl) rfl (by rfl) (by rfl) hu1 (by cases du <;> first | rfl | exact hu2) size_term ?_
       go_wp2_with fail
       clear kvV0
       clear kvW28
       have hq67 := keepzero_any v _ ((.slice a20 v.kids.length c21)) (HL38.out.later (kept_trans Kk47.out (kept_trans Kk50.out (kept_trans Kk54.out (kept_trans Kk58.out (kept_trans Kk61.out Kk64.out)))))).lies
       rw [zv HZV.out] at hq67
       refine hq67.mono ?_
       clear hq67
       rintro e w65 ⟨rfl, k66⟩
       have Kk68 := Lib.hid k66
       clear k66
       have kvV0 : SeesN V0 V0.heap.size w65 := seesN_kept _ (kept_trans KB36.out (kept_trans Kk47.out (kept_trans Kk50.out (kept_trans Kk54.out (kept_trans Kk58.out (kept_trans Kk61.out (kept_trans Kk64.out Kk68.out)))))))
       have kvW28 : SeesN W28 V0.heap.size w65 := seesN_kept _ (kept_trans Kk47.out (kept_trans Kk50.out (kept_trans Kk54.out (kept_trans Kk58.out (kept_trans Kk61.out (kept_trans Kk64.out Kk68.out))))))
       go_wp2_with fail
       clear kvV0
       clear kvW28
       refine (wakes15W_any _).mono ?_
       rintro e w69 ⟨rfl, k70⟩
       have Kk71 := Lib.hid k70
       clear k70
       have kvV0 : SeesN V0 V0.heap.size w69 := seesN_kept _ (kept_trans KB36.out (kept_trans Kk47.out (kept_trans Kk50.out (kept_trans Kk54.out (kept_trans Kk58.out (kept_trans Kk61.out (kept_trans Kk64.out (kept_trans Kk68.out Kk71.out))))))))
       have kvW28 : SeesN W28 V0.heap.size w69 := seesN_kept _ (kept_trans Kk47.out (kept_trans Kk50.out (kept_trans Kk54.out (kept_trans Kk58.out (kept_trans Kk61.out (kept_trans Kk64.out (kept_trans Kk68.out Kk71.out)))))))
       go_wp2
       go_ret
       exact ⟨rfl, (kept_trans KB35.out (kept_trans Kk47.out (kept_trans Kk50.out (kept_trans Kk54.out (kept_trans Kk58.out (kept_trans Kk61.out (kept_trans Kk64.out (kept_trans Kk68.out Kk71.out))))))))⟩
      exact AllReadyH.nil
     exact AllReadyH.nil
    exact AllReadyH.nil
   exact AllReadyH.nil
  exact AllReadyH.nil
 | true =>
  have kvV0 : SeesN V0 V0.heap.size w4 := seesN_kept _ Kk8.out
  go_wp2
  go_ret
  exact ⟨rfl, (kept_trans Kk3.out Kk8.out)⟩
theorem ruleRight_any (c : List En) (r n : Int) (on : List Jd) (w : World) (sc sj : Value) (hl : LiesE w c sc) (hr : I64 r) (hn : I64 n) (hj : LiesJ w on sj) : Calls Try.prog 3 #[sc, .int .i64 r, .int .i64 n, sj] w fun e w' => e = .returned (.bool true) ∧ Kept w w' := by
 cases ho : Se.ofB c r n on with
 | none => exact rightnone_any r n c on w sc sj hl hr hn hj ho
 | some j =>
  obtain ⟨e, u, v, x, m⟩ := j
  cases e with
  | true => exact rightt_any r n c on w sc sj hl hr hn hj u v x m ho
  | false => exact rightf_any r n c on w sc sj hl hr hn hj u v x m ho
end Go.Proofs.Ytmicgbdcbjajiaa
namespace Go.Proofs.Ytmicgbdcbjajiaa
open Go.ChangeShapes Go.WideShapes Go.ChangeAt Go.RowKit
theorem own : ownKnob Try.prog.godebug = none := by kernel_rfl
theorem cells_int : Try.prog.cellsOf 3 = 1 := by kernel_rfl
theorem cells_kids : Try.prog.cellsOf 25 = 1 := by kernel_rfl
theorem cells_term : Try.prog.cellsOf 27 = 5 := by kernel_rfl
theorem laidOut : laidOutB Try.prog = true := by kernel_rfl
instance instOpenTm : Inhabited (Tm × Value) := ⟨(.mk 0 0 0 0 [], .nilIface)⟩
theorem list5 {α : Type} {l : List α} (h : l.length = 5) : ∃ a b c d e, l = [a, b, c, d, e] := by
  match l, h with
  | [a, b, c, d, e], _ => exact ⟨a, b, c, d, e, rfl⟩
theorem wf_I64 {x : Int} (h : (Lit.int .i64 x).wf = true) : I64 x := by
  simp [Lit.wf] at h
  have hm : IntKind.i64.min = -9223372036854775808 := by decide
  rw [hm] at h
  exact h
set_option maxRecDepth 100000 in
theorem open_term {H : Type} {enc : TypeId × Value → H} {w : World} {base : Nat} {sp : Nat → Bool} {hd : Bool} : ∀ (fuel : Nat) (cs : List Value) (x : DataW H × List MemPlace),
    DataW.trod enc Try.prog w base sp hd fuel 27 cs = some x → ∃ (t : Tm) (s : Value), cs = [.int .i64 t.k, .int .i64 t.i, .int .i64 t.j, .int .i64 t.n, s] ∧ t.fine ∧ Lies w t.kids s := by
  intro fuel
  induction fuel using Nat.strongRecOn with
  | _ fuel ih =>
    intro cs x h
    obtain ⟨xs, n, rfl, rfl, hl, hlen, hf⟩ := DataW.trod_struct Try.underlying27 h
    rw [cells_term] at hl
    obtain ⟨v0, v1, v2, v3, v4, rfl⟩ := list5 hl
    obtain ⟨y0, y1, y2, y3, y4, rfl⟩ := list5 hlen
    have g0 := hf 0 _ rfl
    have g1 := hf 1 _ rfl
    have g2 := hf 2 _ rfl
    have g3 := hf 3 _ rfl
    have g4 := hf 4 _ rfl
    simp [cells_int, cells_kids] at g0 g1 g2 g3 g4
    obtain ⟨k, e0, -, w0⟩ := DataW.trod_int Try.underlying3 g0
    obtain ⟨i, e1, -, w1⟩ := DataW.trod_int Try.underlying3 g1
    obtain ⟨j, e2, -, w2⟩ := DataW.trod_int Try.underlying3 g2
    obtain ⟨m, e3, -, w3⟩ := DataW.trod_int Try.underlying3 g3
    simp at e0 e1 e2 e3
    subst e0 e1 e2 e3
    rcases DataW.trod_slice Try.underlying25 g4 with ⟨e4, -⟩ | ⟨a, len, cap, elems, rest, n', rfl, e4, -, hb, hlc, hm, hlen', hel, -, -⟩
    · simp at e4
      subst e4
      exact ⟨.mk k i j m [], _, rfl, ⟨wf_I64 w0, wf_I64 w1, wf_I64 w2, wf_I64 w3⟩, .mk [] none 0 (fun _ => .nilIface) (Nat.le_refl _) (by decide) (fun _ h => by cases h) (fun _ h => by cases h) (fun _ h => by cases h)⟩
    · simp at e4
      subst e4
      have key : ∀ i, i < len → ∃ p : Tm × Value, p.1.fine ∧ Lies w p.1.kids p.2 ∧ ∃ b o, a = ⟨b, o, none⟩ ∧ Node w b (o + i * 5) p.1 p.2 := by
        intro i hi
        have h1 := hel i hi
        rw [cells_term, List.getElem?_eq_getElem (by omega)] at h1
        obtain ⟨cs', h2, h3⟩ := Option.bind_eq_some_iff.1 h1
        obtain ⟨t, s, rfl, hfine, hlies⟩ := ih n' (by omega) _ _ h3
        obtain ⟨-, -, hcell⟩ := World.cells?_some h2
        have hs0 : a.spot = none := by
          have h1 := hel 0 (by omega)
          rw [cells_term, List.getElem?_eq_getElem (by omega)] at h1
          obtain ⟨cs0, h2, -⟩ := Option.bind_eq_some_iff.1 h1
          obtain ⟨-, hl0, hc0⟩ := World.cells?_some h2
          have c0 := hc0 0 (by omega)
          rw [List.getElem?_eq_getElem (by omega)] at c0
          simpa [Addr.add] using World.cell?_spot c0
        obtain ⟨b, o, spot⟩ := a
        simp only at hs0
        subst hs0
        refine ⟨(t, s), hfine, hlies, b, o, rfl, ?_⟩
        have hc : ∀ q, q < 5 → w.cell? ⟨b, o + i * 5 + q, none⟩ = [Value.int .i64 t.k, .int .i64 t.i, .int .i64 t.j, .int .i64 t.n, s][q]? := fun q hq => by
          have := hcell q hq
          rwa [add_plain, add_plain] at this
        exact ⟨hc 0 (by omega), hc 1 (by omega), hc 2 (by omega), hc 3 (by omega), hc 4 (by omega)⟩
      obtain ⟨f, hf'⟩ := Go.Deep.choose_lt (α := Tm × Value) (p := fun i p => p.1.fine ∧ Lies w p.1.kids p.2 ∧ ∃ b o, a = ⟨b, o, none⟩ ∧ Node w b (o + i * 5) p.1 p.2) key
      have hl5 : ((List.range len).map fun i => (f i).1).length = len := by simp
      refine ⟨.mk k i j m ((List.range len).map fun i => (f i).1), _, rfl, ⟨wf_I64 w0, wf_I64 w1, wf_I64 w2, wf_I64 w3⟩, ?_⟩
      have := Lies.mk (w := w) ((List.range len).map fun i => (f i).1) (some a) cap (fun i => (f i).2) (by simpa using hlc) hm
        (fun x hx => by
          obtain ⟨i, hi, rfl⟩ := List.mem_map.1 hx
          exact (hf' i (List.mem_range.1 hi)).1)
        (fun i hi => by
          obtain ⟨b, o, ha, hn⟩ := (hf' i (by simpa using hi)).2.2
          exact ⟨b, o, by rw [ha], by simpa using hn⟩)
        (fun i hi => by simpa using (hf' i (by simpa using hi)).2.1)
      rwa [hl5] at this
end Go.Proofs.Ytmicgbdcbjajiaa
namespace Go.Proofs.Ytmicgbdcbjajiaa
open Go.ChangeShapes Go.WideShapes Go.ChangeAt Go.RowKit
theorem cells_entry : Try.prog.cellsOf 47 = 6 := by kernel_rfl
instance instOpenEn : Inhabited (En × Value) := ⟨(⟨.mk 0 0 0 0 [], 0⟩, .nilIface)⟩
theorem list6 {α : Type} {l : List α} (h : l.length = 6) : ∃ a b c d e f, l = [a, b, c, d, e, f] := by
  match l, h with
  | [a, b, c, d, e, f], _ => exact ⟨a, b, c, d, e, f, rfl⟩
theorem list2 {α : Type} {l : List α} (h : l.length = 2) : ∃ a b, l = [a, b] := by
  match l, h with
  | [a, b], _ => exact ⟨a, b, rfl⟩
set_option maxRecDepth 100000 in
theorem open_entry {H : Type} {enc : TypeId × Value → H} {w : World} {base : Nat} {sp : Nat → Bool} {hd : Bool} (fuel : Nat) (cs : List Value) (x : DataW H × List MemPlace)
    (h : DataW.trod enc Try.prog w base sp hd fuel 47 cs = some x) : ∃ (e : En) (s : Value), cs = [.int .i64 e.a.k, .int .i64 e.a.i, .int .i64 e.a.j, .int .i64 e.a.n, s, .int .i64 e.i] ∧ e.fine ∧ Lies w e.a.kids s := by
  obtain ⟨xs, n, rfl, rfl, hl, hlen, hf⟩ := DataW.trod_struct Try.underlying47 h
  rw [cells_entry] at hl
  obtain ⟨v0, v1, v2, v3, v4, v5, rfl⟩ := list6 hl
  obtain ⟨y0, y1, rfl⟩ := list2 hlen
  have g0 := hf 0 _ rfl
  have g1 := hf 1 _ rfl
  simp [cells_int, cells_term] at g0 g1
  obtain ⟨t, s, hcs, hfine, hlies⟩ := open_term n _ _ g0
  obtain ⟨i, e1, -, w1⟩ := DataW.trod_int Try.underlying3 g1
  simp at e1 hcs
  subst e1
  obtain ⟨rfl, rfl, rfl, rfl, rfl⟩ := hcs
  exact ⟨⟨t, i⟩, v4, rfl, ⟨hfine, wf_I64 w1⟩, hlies⟩
set_option maxRecDepth 100000 in
theorem open_argE {H : Type} {enc : TypeId × Value → H} {w : World} {r : Reach} {b0 base : Nat} {sp : Nat → Bool} {hd : Bool} {v : Value} {d : DataW H} {p : List MemPlace} (hv : Value.okWide Try.prog w r b0 22 v)
    (h : DataW.Trod enc Try.prog w base sp hd 22 v d p) : ∃ l : List En, LiesE w l v := by
  obtain ⟨a0, len0, cap0, rfl⟩ := okWide_slice Try.underlying22 hv
  obtain ⟨fuel, hf⟩ := h
  rcases DataW.trod_slice Try.underlying22 hf with ⟨e4, -⟩ | ⟨a, len, cap, elems, rest, n', rfl, e4, -, hb, hlc, hm, hlen', hel, -, -⟩
  · simp [Value.cells] at e4
    obtain ⟨rfl, rfl, rfl⟩ := e4
    exact ⟨[], liesE_nil _⟩
  · simp [Value.cells] at e4
    obtain ⟨rfl, rfl, rfl⟩ := e4
    have key : ∀ i, i < len0 → ∃ p : En × Value, p.1.fine ∧ Lies w p.1.a.kids p.2 ∧ ∃ b o, a = ⟨b, o, none⟩ ∧ ENode w b (o + i * 6) p.1 p.2 := by
      intro i hi
      have h1 := hel i hi
      rw [cells_entry, List.getElem?_eq_getElem (by omega)] at h1
      obtain ⟨cs', h2, h3⟩ := Option.bind_eq_some_iff.1 h1
      obtain ⟨t, s, rfl, hfine, hlies⟩ := open_entry n' _ _ h3
      obtain ⟨-, -, hcell⟩ := World.cells?_some h2
      have hs0 : a.spot = none := by
        have h1 := hel 0 (by omega)
        rw [cells_entry, List.getElem?_eq_getElem (by omega)] at h1
        obtain ⟨cs0, h2, -⟩ := Option.bind_eq_some_iff.1 h1
        obtain ⟨-, hl0, hc0⟩ := World.cells?_some h2
        have c0 := hc0 0 (by omega)
        rw [List.getElem?_eq_getElem (by omega)] at c0
        simpa [Addr.add] using World.cell?_spot c0
      obtain ⟨b, o, spot⟩ := a
      simp only at hs0
      subst hs0
      refine ⟨(t, s), hfine, hlies, b, o, rfl, ?_⟩
      have hc : ∀ q, q < 6 → w.cell? ⟨b, o + i * 6 + q, none⟩ = [Value.int .i64 t.a.k, .int .i64 t.a.i, .int .i64 t.a.j, .int .i64 t.a.n, s, .int .i64 t.i][q]? := fun q hq => by
        have := hcell q hq
        rwa [add_plain, add_plain] at this
      exact ⟨hc 0 (by omega), hc 1 (by omega), hc 2 (by omega), hc 3 (by omega), hc 4 (by omega), hc 5 (by omega)⟩
    obtain ⟨f, hf'⟩ := Go.Deep.choose_lt (α := En × Value) (p := fun i p => p.1.fine ∧ Lies w p.1.a.kids p.2 ∧ ∃ b o, a = ⟨b, o, none⟩ ∧ ENode w b (o + i * 6) p.1 p.2) key
    have hl5 : ((List.range len0).map fun i => (f i).1).length = len0 := by simp
    refine ⟨(List.range len0).map fun i => (f i).1, some a, cap0, (fun i => (f i).2), by rw [hl5], by simpa using hlc, hm, ?_, ?_, ?_⟩
    · intro x hx
      obtain ⟨i, hi, rfl⟩ := List.mem_map.1 hx
      exact (hf' i (List.mem_range.1 hi)).1
    · intro i hi
      obtain ⟨b, o, ha, hn⟩ := (hf' i (by simpa using hi)).2.2
      exact ⟨b, o, by rw [ha], by simpa using hn⟩
    · intro i hi
      simpa using (hf' i (by simpa using hi)).2.1
end Go.Proofs.Ytmicgbdcbjajiaa
namespace Go.Proofs.Ytmicgbdcbjajiaa
open Go.ChangeShapes Go.WideShapes Go.ChangeAt Go.RowKit
theorem cells_judg : Try.prog.cellsOf 29 = 17 := by kernel_rfl
theorem cells_bool : Try.prog.cellsOf 4 = 1 := by kernel_rfl
theorem list17 {α : Type} {l : List α} (h : l.length = 17) : ∃ v0 v1 v2 v3 v4 v5 v6 v7 v8 v9 v10 v11 v12 v13 v14 v15 v16, l = [v0, v1, v2, v3, v4, v5, v6, v7, v8, v9, v10, v11, v12, v13, v14, v15, v16] := by
  match l, h with
  | [v0, v1, v2, v3, v4, v5, v6, v7, v8, v9, v10, v11, v12, v13, v14, v15, v16], _ => exact ⟨v0, v1, v2, v3, v4, v5, v6, v7, v8, v9, v10, v11, v12, v13, v14, v15, v16, rfl⟩
set_option maxRecDepth 100000 in
theorem open_judg {H : Type} {enc : TypeId × Value → H} {w : World} {base : Nat} {sp : Nat → Bool} {hd : Bool} (fuel : Nat) (cs : List Value) (x : DataW H × List MemPlace)
    (h : DataW.trod enc Try.prog w base sp hd fuel 29 cs = some x) : ∃ (j : Jd) (su sv sa : Value), cs = [.bool j.eq, .int .i64 j.u.k, .int .i64 j.u.i, .int .i64 j.u.j, .int .i64 j.u.n, su, .int .i64 j.v.k, .int .i64 j.v.i, .int .i64 j.v.j, .int .i64 j.v.n, sv, .int .i64 j.a.k, .int .i64 j.a.i, .int .i64 j.a.j, .int .i64 j.a.n, sa, .int .i64 j.i] ∧ j.fine ∧ JLies w j su sv sa := by
  obtain ⟨xs, n, rfl, rfl, hl, hlen, hf⟩ := DataW.trod_struct Try.underlying29 h
  rw [cells_judg] at hl
  obtain ⟨v0, v1, v2, v3, v4, v5, v6, v7, v8, v9, v10, v11, v12, v13, v14, v15, v16, rfl⟩ := list17 hl
  obtain ⟨y0, y1, y2, y3, y4, rfl⟩ := list5 hlen
  have g0 := hf 0 _ rfl
  have g1 := hf 1 _ rfl
  have g2 := hf 2 _ rfl
  have g3 := hf 3 _ rfl
  have g4 := hf 4 _ rfl
  simp [cells_int, cells_term, cells_bool] at g0 g1 g2 g3 g4
  obtain ⟨e, he, -⟩ := DataW.trod_bool Try.underlying4 g0
  obtain ⟨tu, su, hcu, hfu, hlu⟩ := open_term n _ _ g1
  obtain ⟨tv, sv, hcv, hfv, hlv⟩ := open_term n _ _ g2
  obtain ⟨ta, sa, hca, hfa, hla⟩ := open_term n _ _ g3
  obtain ⟨i, ei, -, wi⟩ := DataW.trod_int Try.underlying3 g4
  simp at he ei hcu hcv hca
  subst he ei
  obtain ⟨rfl, rfl, rfl, rfl, rfl⟩ := hcu
  obtain ⟨rfl, rfl, rfl, rfl, rfl⟩ := hcv
  obtain ⟨rfl, rfl, rfl, rfl, rfl⟩ := hca
  exact ⟨⟨e, tu, tv, ta, i⟩, _, _, _, rfl, ⟨hfu, hfv, hfa, wf_I64 wi⟩, hlu, hlv, hla⟩
end Go.Proofs.Ytmicgbdcbjajiaa
namespace Go.Proofs.Ytmicgbdcbjajiaa
open Go.ChangeShapes Go.WideShapes Go.ChangeAt Go.RowKit
instance instOpenJd : Inhabited (Jd × (Value × Value × Value)) := ⟨(⟨false, .mk 0 0 0 0 [], .mk 0 0 0 0 [], .mk 0 0 0 0 [], 0⟩, (.nilIface, .nilIface, .nilIface))⟩
theorem liesJ_nil (w : World) : LiesJ w [] (.slice none 0 0) := ⟨none, 0, fun _ => (.nilIface, .nilIface, .nilIface), rfl, Nat.le_refl _, by decide, (fun _ h => by cases h), (fun _ h => by cases h), (fun _ h => by cases h)⟩
set_option maxRecDepth 100000 in
theorem open_argJs {H : Type} {enc : TypeId × Value → H} {w : World} {r : Reach} {b0 base : Nat} {sp : Nat → Bool} {hd : Bool} {v : Value} {d : DataW H} {p : List MemPlace} (hv : Value.okWide Try.prog w r b0 23 v)
    (h : DataW.Trod enc Try.prog w base sp hd 23 v d p) : ∃ l : List Jd, LiesJ w l v := by
  obtain ⟨a0, len0, cap0, rfl⟩ := okWide_slice Try.underlying23 hv
  obtain ⟨fuel, hf⟩ := h
  rcases DataW.trod_slice Try.underlying23 hf with ⟨e4, -⟩ | ⟨a, len, cap, elems, rest, n', rfl, e4, -, hb, hlc, hm, hlen', hel, -, -⟩
  · simp [Value.cells] at e4
    obtain ⟨rfl, rfl, rfl⟩ := e4
    exact ⟨[], liesJ_nil _⟩
  · simp [Value.cells] at e4
    obtain ⟨rfl, rfl, rfl⟩ := e4
    have key : ∀ i, i < len0 → ∃ p : Jd × (Value × Value × Value), p.1.fine ∧ JLies w p.1 p.2.1 p.2.2.1 p.2.2.2 ∧ ∃ b o, a = ⟨b, o, none⟩ ∧ JNode w b (o + i * 17) p.1 p.2.1 p.2.2.1 p.2.2.2 := by
      intro i hi
      have h1 := hel i hi
      rw [cells_judg, List.getElem?_eq_getElem (by omega)] at h1
      obtain ⟨cs', h2, h3⟩ := Option.bind_eq_some_iff.1 h1
      obtain ⟨t, su, sv, sa, rfl, hfine, hlies⟩ := open_judg n' _ _ h3
      obtain ⟨-, -, hcell⟩ := World.cells?_some h2
      have hs0 : a.spot = none := by
        have h1 := hel 0 (by omega)
        rw [cells_judg, List.getElem?_eq_getElem (by omega)] at h1
        obtain ⟨cs0, h2, -⟩ := Option.bind_eq_some_iff.1 h1
        obtain ⟨-, hl0, hc0⟩ := World.cells?_some h2
        have c0 := hc0 0 (by omega)
        rw [List.getElem?_eq_getElem (by omega)] at c0
        simpa [Addr.add] using World.cell?_spot c0
      obtain ⟨b, o, spot⟩ := a
      simp only at hs0
      subst hs0
      refine ⟨(t, (su, sv, sa)), hfine, hlies, b, o, rfl, ?_⟩
      have hc : ∀ q, q < 17 → w.cell? ⟨b, o + i * 17 + q, none⟩ = [Value.bool t.eq, .int .i64 t.u.k, .int .i64 t.u.i, .int .i64 t.u.j, .int .i64 t.u.n, su, .int .i64 t.v.k, .int .i64 t.v.i, .int .i64 t.v.j, .int .i64 t.v.n, sv, .int .i64 t.a.k, .int .i64 t.a.i, .int .i64 t.a.j, .int .i64 t.a.n, sa, .int .i64 t.i][q]? := fun q hq => by
        have := hcell q hq
        rwa [add_plain, add_plain] at this
      exact ⟨hc 0 (by omega), hc 1 (by omega), hc 2 (by omega), hc 3 (by omega), hc 4 (by omega), hc 5 (by omega), hc 6 (by omega), hc 7 (by omega), hc 8 (by omega), hc 9 (by omega), hc 10 (by omega), hc 11 (by omega), hc 12 (by omega), hc 13 (by omega), hc 14 (by omega), hc 15 (by omega), hc 16 (by omega)⟩
    obtain ⟨f, hf'⟩ := Go.Deep.choose_lt (α := Jd × (Value × Value × Value)) (p := fun i p => p.1.fine ∧ JLies w p.1 p.2.1 p.2.2.1 p.2.2.2 ∧ ∃ b o, a = ⟨b, o, none⟩ ∧ JNode w b (o + i * 17) p.1 p.2.1 p.2.2.1 p.2.2.2) key
    have hl5 : ((List.range len0).map fun i => (f i).1).length = len0 := by simp
    refine ⟨(List.range len0).map fun i => (f i).1, some a, cap0, (fun i => (f i).2), by rw [hl5], by simpa using hlc, hm, ?_, ?_, ?_⟩
    · intro x hx
      obtain ⟨i, hi, rfl⟩ := List.mem_map.1 hx
      exact (hf' i (List.mem_range.1 hi)).1
    · intro i hi
      obtain ⟨b, o, ha, hn⟩ := (hf' i (by simpa using hi)).2.2
      exact ⟨b, o, by rw [ha], by simpa using hn⟩
    · intro i hi
      simpa using (hf' i (by simpa using hi)).2.1
end Go.Proofs.Ytmicgbdcbjajiaa
namespace Go.Proofs.Ytmicgbdcbjajiaa
open Go.ChangeShapes Go.WideShapes
def code (l : List Nat) : List Char := l.map Char.ofNat
def joinN : List (List Nat) → List Nat
  | [] => []
  | [a] => a
  | a :: b :: r => a ++ 32 :: joinN (b :: r)
theorem words_one : ∀ a : List Nat, (a.all fun n => Char.ofNat n != Char.ofNat 32) = true → wordsSigns (code a) = [code a]
  | [], _ => rfl
  | n :: a, h => by
    simp only [List.all_cons, Bool.and_eq_true, bne_iff_ne] at h
    have ih := words_one a h.2
    show wordsSigns (Char.ofNat n :: code a) = _
    rw [wordsSigns]
    · rw [ih]; rfl
    · exact h.1
theorem words_more : ∀ (a : List Nat) (r : List Char), (a.all fun n => Char.ofNat n != Char.ofNat 32) = true → wordsSigns (code a ++ Char.ofNat 32 :: r) = code a :: wordsSigns r
  | [], r, _ => by
    show wordsSigns (Char.ofNat 32 :: r) = _
    rw [show Char.ofNat 32 = _ from rfl, wordsSigns]; rfl
  | n :: a, r, h => by
    simp only [List.all_cons, Bool.and_eq_true, bne_iff_ne] at h
    have ih := words_more a r h.2
    show wordsSigns (Char.ofNat n :: (code a ++ Char.ofNat 32 :: r)) = _
    rw [wordsSigns]
    · rw [ih]; rfl
    · exact h.1
theorem words_join : ∀ ws : List (List Nat), ws ≠ [] → (ws.all fun w => w.all fun n => Char.ofNat n != Char.ofNat 32) = true → wordsSigns (code (joinN ws)) = ws.map code
  | [], h, _ => absurd rfl h
  | [a], _, h => by simp only [List.all_cons, List.all_nil, Bool.and_true] at h; exact words_one a h
  | a :: b :: r, _, h => by
    have h' := h
    rw [List.all_cons, Bool.and_eq_true] at h'
    have ih := words_join (b :: r) (by simp) h'.2
    show wordsSigns (code (a ++ 32 :: joinN (b :: r))) = _
    rw [show code (a ++ 32 :: joinN (b :: r)) = code a ++ Char.ofNat 32 :: code (joinN (b :: r)) from by simp [code], words_more a _ h'.1, ih]; rfl
def cutWords : List (List Nat) := [[104, 97, 114, 110, 101, 115, 115],
  [51, 51, 99, 49, 54, 55, 100, 98, 54, 55, 48, 102, 49, 97, 56, 52, 57, 57, 98, 57, 49, 100, 100, 101, 99, 51, 97, 52, 49, 49, 55, 102, 98, 54, 100, 99, 54, 102, 97, 52, 102, 57, 99, 48, 98, 48, 48, 51, 57, 54, 102, 99, 97, 100, 101, 98, 50, 48, 101, 48, 55, 52, 102, 55],
  [99, 117, 116],
  [97, 116],
  [116, 114, 97, 110, 115, 104, 105, 112, 47, 116, 114, 97, 110, 115, 104, 105, 112, 108, 97, 119, 49, 53, 46, 82, 117, 108, 101, 82, 105, 103, 104, 116]]
set_option maxRecDepth 100000 in
theorem cut_words : wordsSigns Try.prog.initOrder.toList = cutWords.map code := by
  have h : Try.prog.initOrder.toList = code (joinN cutWords) := by
    show (String.ofList (code (joinN cutWords))).toList = _
    exact String.toList_ofList
  rw [h]
  exact words_join cutWords (by simp [cutWords]) (by decide +kernel)
theorem cut_behind : behindMainWord (cutWords.map code) = code [99, 117, 116] :: cutWords.tail.tail.tail.map code := by kernel_rfl
theorem cut_lifts : stripLifts liftWords (code [99, 117, 116] :: cutWords.tail.tail.tail.map code) = ([], code [99, 117, 116] :: cutWords.tail.tail.tail.map code) := by kernel_rfl
theorem cut1 : (code [99, 117, 116] == "gc".toList) = false := by kernel_rfl
theorem cut2 : (code [99, 117, 116] == "spec".toList) = false := by kernel_rfl
theorem cut3 : (code [99, 117, 116] == "cut".toList) = true := by kernel_rfl
theorem cut_all : behindMainWord (wordsSigns Try.prog.initOrder.toList) = code [99, 117, 116] :: cutWords.tail.tail.tail.map code := by rw [cut_words, cut_behind]
theorem make_of (P : Program) {c : List Char} {rest : List (List Char)} (h : behindMainWord (wordsSigns P.initOrder.toList) = c :: rest) (h1 : (c == "gc".toList) = false) (h2 : (c == "spec".toList) = false) (h3 : (c == "cut".toList) = true) : P.make = some .cut := by
  unfold Program.make; rw [h]
  simp only [h1, h2, h3, Bool.or_self, Bool.false_eq_true, if_false, Bool.true_or, if_true]
theorem mayEnter_of (P : Program) {c : List Char} {rest : List (List Char)} (h : behindMainWord (wordsSigns P.initOrder.toList) = c :: rest) (h3 : ((stripLifts liftWords (c :: rest)).2.head? == some "cut".toList) = true)
    (h4 : (stripLifts liftWords (c :: rest)).1 = []) (h5 : P.laysLater = false) (h6 : P.bearsReflect = false) (h7 : P.doorFits [] = true) : P.mayEnter = true := by
  unfold Program.mayEnter; rw [h]
  refine Bool.or_eq_true_iff.2 (Or.inr ?_)
  rw [h3, h4, h5, h6, h7]; rfl
theorem row_make : Try.prog.make = some .cut := make_of Try.prog cut_all cut1 cut2 cut3
theorem row_mayEnter : Try.prog.mayEnter = true := mayEnter_of Try.prog cut_all (by rw [cut_lifts]; kernel_rfl) (by rw [cut_lifts]) (by kernel_rfl) (by kernel_rfl) (by kernel_rfl)
theorem row_lifts : Try.prog.liftsFinal = false := by unfold Program.liftsFinal Program.headLifts; rw [cut_all, cut_lifts]; kernel_rfl
end Go.Proofs.Ytmicgbdcbjajiaa
namespace Go.Proofs.Ytmicgbdcbjajiaa.lawRuleRight
open Go.ChangeShapes Go.WideShapes Go.ChangeAt Go.RowKit
set_option maxRecDepth 100000 in
theorem lifted (os : Os) (started : os.Started) (H : Type) (enc : TypeId × Value → H) :
    ReturnsInHanded {} Try.checked os 3 .any (Rows.ruleRightSpec.pre6 enc Try.prog Try.f3 Rows.ruleRightRow.domain false) (Rows.ruleRightSpec.post enc Try.prog Try.f3 false true false false) := by
  refine returnsInHanded_of_change (C := Try.checked) own started (by kernel_rfl) Try.func3
    (ChangeSpec.witness6 (enc := enc) (C := Try.checked) false ⟨#[], #[.slice none 0 0, .int .i64 0, .int .i64 0, .slice none 0 0], []⟩ 8 (by kernel_rfl) (by kernel_rfl) (by kernel_rfl) (by kernel_rfl)) ?_
  intro W base args ds gs before hval0 hW hcnd _
  have hval : ∀ (j : Nat) t v, Try.f3.params[j]? = some t → args[j]? = some v → Value.okWide Try.prog W .any base t v := hval0
  have hW' := hW
  obtain ⟨p, q, hA0, hV, rfl, hfz, hnd⟩ := hW
  have hA : DataW.TrodAll enc Try.prog W 0 (fun _ => true) true Try.f3.params.toList args.toList ds p := hA0
  rw [Try.params3] at hA hval
  obtain ⟨v0, vs0, d0, ds0, p0, q0, hargs0, rfl, rfl, h0, r0⟩ := trodAll_cons hA
  obtain ⟨v1, vs1, d1, ds1, p1, q1, hargs1, rfl, rfl, h1, r1⟩ := trodAll_cons r0
  obtain ⟨v2, vs2, d2, ds2, p2, q2, hargs2, rfl, rfl, h2, r2⟩ := trodAll_cons r1
  obtain ⟨v3, vs3, d3, ds3, p3, q3, hargs3, rfl, rfl, h3, r3⟩ := trodAll_cons r2
  obtain ⟨rfl, rfl, rfl⟩ := trodAll_nil r3
  obtain rfl : args = #[v0, v1, v2, v3] := by cases args; simp_all
  obtain ⟨rfl, rfl⟩ := trodVars_none hV
  have h0k := h0
  have hlt0 : ∀ x ∈ p0, x.block < W.heap.size := fun x hx => by have := hW'.lt x (by simp [hx]); simpa using this
  obtain ⟨l0, hl0⟩ := open_argE (hval 0 22 v0 rfl rfl) h0
  obtain ⟨a1, rfl, rfl, rfl, w1⟩ := open_int Try.underlying3 (hval 1 3 v1 rfl rfl) h1
  obtain ⟨a2, rfl, rfl, rfl, w2⟩ := open_int Try.underlying3 (hval 2 3 v2 rfl rfl) h2
  have h3k := h3
  have hlt3 : ∀ x ∈ p3, x.block < W.heap.size := fun x hx => by have := hW'.lt x (by simp [hx]); simpa using this
  obtain ⟨l3, hl3⟩ := open_argJs (hval 3 23 v3 rfl rfl) h3
  clear hA0 hval0
  simp only [List.append_nil] at hW'
  refine (ruleRight_any l0 a1 a2 l3 W _ _ hl0 (wf_I64 w1) (wf_I64 w2) hl3).mono fun e W' ⟨he, hb⟩ => ?_
  subst he
  exact ⟨_, rfl, _, _, _, [], _, [], hW', trodAll_cons_mk (shut_bool Try.underlying4 _) trodAll_mk0, (trodAll_cons_mk (Below.trod laidOut (by kernel_rfl) (of_decide_eq_true (by kernel_rfl)) h0k hb hlt0) (trodAll_cons_mk (shut_int Try.underlying3 w1) (trodAll_cons_mk (shut_int Try.underlying3 w2) (trodAll_cons_mk (Below.trod laidOut (by kernel_rfl) (of_decide_eq_true (by kernel_rfl)) h3k hb hlt3) trodAll_mk0)))), rfl, hb.frame _, fun h => by cases h⟩
theorem closed : joinedFacts Try.prog 3 Try.f3 Rows.ruleRightSpec Rows.ruleRightRow = true := by
  unfold joinedFacts
  rw [row_mayEnter, row_lifts, row_make]
  kernel_rfl
theorem proved : Rows.RuleRightSaid :=
  OpenClaim.holds_of_wide 3 Try.f3 rfl rfl rfl rfl rfl rfl rfl ⟨rfl, rfl, rfl, rfl, rfl⟩ rfl rfl rfl rfl rfl (by kernel_rfl) Try.func3 closed
    (of_decide_eq_true (by kernel_rfl)) (by unfold Func.isWrapper; first | (rw [if_pos (by decide +kernel)]; kernel_rfl) | (rw [if_neg (by decide +kernel)]; exact ⟨rfl, rfl⟩))
    (fun os started H enc _ => lifted os started H enc)
#print axioms proved
end Go.Proofs.Ytmicgbdcbjajiaa.lawRuleRight