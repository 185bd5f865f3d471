/-
  Facts and contracts that the proof of RuleTurned uses.
-/
import Derived.Test.YtjlppnmckobcfaaRows
import Derived.WalkKit
import Derived.Lib.Hide
import Derived.KernelRfl
import Derived.Deep.RegionWith
import Derived.Deep.RegionHeld3
import Derived.Deep.AppendLies
import Derived.Laws.Rows
import Derived.Laws.IdiomCopy
import Derived.Deep.Slices
import Derived.Deep.QuietTactic
import Derived.BigQuiet
import Derived.Lib.QuietBelow
import Derived.StillTailTactics
import Derived.IntWalk
import Derived.OwnWalk
import Derived.OrdersHeld
import Derived.Deep.DeepCutAuto
import Derived.Deep.RegionLaw
import Derived.Deep.LoopGhost
import Derived.Deep.MidRow
import Derived.Laws.Tables
import Derived.Laws.CopyOwn
import Derived.Laws.CopyRow
import Derived.Deep.RegionHeld
import Derived.ProofKit
import Derived.OpenShut
import Derived.Carry
import Derived.ChangeSlices
import Derived.JoinedOf
import Derived.Test.YtjlppnmckobcfaaRuleTurnedQ4
namespace Go.Proofs.Ytjlppnmckobcfaa
open Go.RowKit

theorem kind_not {t : Tm} (h : t.pureB = true) : (t.k == 0) = false := by
  have h1 := pure_marked h
  rw [Tm.markedB_eq, Bool.and_eq_true, Bool.and_eq_true] at h1
  have := of_decide_eq_true h1.1.1
  exact beq_eq_false_iff_ne.2 (by omega)
theorem rightJ_u {j : Jd} {n : Int} (h : rightJ j n = true) : j.u.pureB = true := by
  unfold rightJ jfitB at h
  simp only [Bool.and_eq_true] at h
  exact h.2.1.1.1
theorem rightJ_v {j : Jd} {n : Int} (h : rightJ j n = true) (he : j.eq = true := by rfl) : j.v.pureB = true := by
  unfold rightJ jfitB at h
  rw [if_pos he] at h
  simp only [Bool.and_eq_true] at h
  exact h.2.2.1
theorem rightJ_iT {j : Jd} {n : Int} (h : rightJ j n = true) : j.i ≤ 1000 := by
  unfold rightJ at h
  simp only [Bool.and_eq_true, decide_eq_true_eq] at h
  exact h.1.2
theorem rightJ_turn {u v x : Tm} {i n : Int} (h : rightJ ⟨true, u, v, x, i⟩ n = true) : rightJ ⟨true, v, u, x, i⟩ n = true := by
  unfold rightJ at h ⊢
  simp only [Bool.and_eq_true, if_true, decide_eq_true_eq] at h ⊢
  exact ⟨h.1, ⟨h.2.2, h.2.1.2⟩, h.2.1.1⟩

def ceq14Tr6_0 : Oper := { dst := some 29, op := Go.Op.fieldAddr 34 (Go.Operand.tmp 6) 2, type := 0, pos := "equals.go:17", after := #[], guard := none }
def ceq14Tr6_1 : Oper := { dst := some 30, op := Go.Op.load 32 (Go.Operand.tmp 29), type := 32, pos := "equals.go:17", after := #[{ on := 0, ground := Go.Ground.data }], guard := none }
def ceq14Tr6_2 : Oper := { dst := some 31, op := Go.Op.fieldAddr 34 (Go.Operand.tmp 6) 1, type := 0, pos := "equals.go:17", after := #[], guard := none }
def ceq14Tr6_3 : Oper := { dst := some 32, op := Go.Op.load 32 (Go.Operand.tmp 31), type := 32, pos := "equals.go:17", after := #[{ on := 2, ground := Go.Ground.data }], guard := none }
def ceq14Tr6_4 : Oper := { dst := some 33, op := Go.Op.fieldAddr 34 (Go.Operand.tmp 6) 3, type := 0, pos := "equals.go:17", after := #[], guard := none }
def ceq14Tr6_5 : Oper := { dst := some 34, op := Go.Op.load 32 (Go.Operand.tmp 33), type := 32, pos := "equals.go:17", after := #[{ on := 4, ground := Go.Ground.data }], guard := none }
def ceq14Tr6_6 : Oper := { dst := some 35, op := Go.Op.fieldAddr 34 (Go.Operand.tmp 6) 4, type := 0, pos := "equals.go:17", after := #[], guard := none }
def ceq14Tr6_7 : Oper := { dst := some 36, op := Go.Op.load 3 (Go.Operand.tmp 35), type := 3, pos := "equals.go:17", after := #[{ on := 6, ground := Go.Ground.data }], guard := none }
def ceq14Tr6_8 : Oper := { dst := some 37, op := Go.Op.call { callee := Go.Callee.value (Go.Operand.func 82), args := #[Go.Operand.tmp 30, Go.Operand.tmp 32, Go.Operand.tmp 34, Go.Operand.tmp 36], argTypes := #[32, 32, 32, 3] }, type := 34, pos := "equals.go:17", after := #[{ on := 1, ground := Go.Ground.data }, { on := 3, ground := Go.Ground.data }, { on := 5, ground := Go.Ground.data }, { on := 7, ground := Go.Ground.data }], guard := none }
def ceq14Tr6_9 : Oper := { dst := some 38, op := Go.Op.fieldAddr 34 (Go.Operand.tmp 6) 0, type := 0, pos := "equals.go:17", after := #[{ on := 11, ground := Go.Ground.gcOnly Go.Departure.lateStores }], guard := none }
def ceq14Tr6_10 : Oper := { dst := some 39, op := Go.Op.load 4 (Go.Operand.tmp 38), type := 4, pos := "equals.go:17", after := #[{ on := 9, ground := Go.Ground.data }, { on := 11, ground := Go.Ground.gcOnly Go.Departure.lateStores }], guard := none }
def ceq14Tr6_11 : Oper := { dst := none, op := Go.Op.store 34 (Go.Operand.tmp 4) (Go.Operand.tmp 37), type := 0, pos := "equals.go:17", after := #[{ on := 8, ground := Go.Ground.data }, { on := 8, ground := Go.Ground.chain }, { on := 0, ground := Go.Ground.phase }, { on := 1, ground := Go.Ground.phase }, { on := 2, ground := Go.Ground.phase }, { on := 3, ground := Go.Ground.phase }, { on := 4, ground := Go.Ground.phase }, { on := 5, ground := Go.Ground.phase }, { on := 6, ground := Go.Ground.phase }, { on := 7, ground := Go.Ground.phase }, { on := 8, ground := Go.Ground.phase }, { on := 9, ground := Go.Ground.textOnly Go.Departure.lateStores }, { on := 10, ground := Go.Ground.textOnly Go.Departure.lateStores }], guard := none }
def ceq14Tr6_12 : Oper := { dst := some 5, op := Go.Op.assign (Go.Operand.tmp 39), type := 4, pos := "equals.go:17", after := #[{ on := 10, ground := Go.Ground.data }, { on := 11, ground := Go.Ground.chain }, { on := 0, ground := Go.Ground.phase }, { on := 1, ground := Go.Ground.phase }, { on := 2, ground := Go.Ground.phase }, { on := 3, ground := Go.Ground.phase }, { on := 4, ground := Go.Ground.phase }, { on := 5, ground := Go.Ground.phase }, { on := 6, ground := Go.Ground.phase }, { on := 7, ground := Go.Ground.phase }, { on := 8, ground := Go.Ground.phase }, { on := 9, ground := Go.Ground.phase }, { on := 10, ground := Go.Ground.phase }, { on := 11, ground := Go.Ground.phase }], guard := none }
set_option maxRecDepth 20000 in
set_option maxHeartbeats 4000000 in
theorem ceq14T_any (i : Int) (u : Tm) (v : Tm) (x : Tm) (P : Nat → Prop) (w : World) (b0 : Nat) (su : Value) (sv : Value) (sx : Value) (hfu : u.fine) (hlu : LiesQ w P u.kids su) (hfv : v.fine) (hlv : LiesQ w P v.kids sv) (hfx : x.fine) (hlx : LiesQ w P x.kids sx) (hri : I64 i) (hb0 : w.heap[b0]? = some (.cells #[.bool true, .int .i64 u.k, .int .i64 u.i, .int .i64 u.j, .int .i64 u.n, su, .int .i64 v.k, .int .i64 v.i, .int .i64 v.j, .int .i64 v.n, sv, .int .i64 x.k, .int .i64 x.i, .int .i64 x.j, .int .i64 x.n, sx, .int .i64 i] 34 (0, 0))) : Calls Try.prog 65 #[.int .i64 14, .slice (some ⟨b0, 0, none⟩) 1 1] w (GivesJT P ⟨true, v, u, x, i⟩ true w) := by
  have Gu := Lib.hid hfu
  clear hfu
  obtain ⟨au, cu, Su, rfl, -⟩ := hlu.out
  have Gv := Lib.hid hfv
  clear hfv
  obtain ⟨av, cv, Sv, rfl, -⟩ := hlv.out
  have Gx := Lib.hid hfx
  clear hfx
  obtain ⟨ax, cx, Sx, rfl, -⟩ := hlx.out
  have Ri := Lib.hid hri
  clear hri
  have HB0 := Lib.hid hb0
  clear hb0
  obtain ⟨dj, dj1, dj2⟩ := under_of 34 (by kernel_rfl)
  obtain ⟨du, hu1, hu2⟩ := under_term
  go_enter Try.func65, Try.ntmps65
  go_upto_region 1 with fail
  refine at_code (fun V0 hV0 => ?_)
  obtain ⟨k2, x1, z3⟩ := alloc1 hV0
  have Kk4 := Lib.hid k2
  clear k2
  have Hx1 := Lib.hid x1
  have Z0 := Lib.hid z3
  clear z3 x1 hV0
  have HLu : Hid (LiesQ V0 (Par w V0.heap.size [] P) u.kids _) := (par_in _ _ hlu).later Kk4.out
  clear hlu
  have HLv : Hid (LiesQ V0 (Par w V0.heap.size [] P) v.kids _) := (par_in _ _ hlv).later Kk4.out
  clear hlv
  have HLx : Hid (LiesQ V0 (Par w V0.heap.size [] P) x.kids _) := (par_in _ _ hlx).later Kk4.out
  clear hlx
  have kvV0 : Sees V0 (w.heap.size) V0 := sees_kept _ (kept_refl _)
  go_wp2_with (refine stop_load 34 (.tmp 10) rfl ?_)
  intro _
  refine wpList_load_part (b0) (0) 34 (.tmp 10) #[.bool true, .int .i64 u.k, .int .i64 u.i, .int .i64 u.j, .int .i64 u.n, (.slice au u.kids.length cu), .int .i64 v.k, .int .i64 v.i, .int .i64 v.j, .int .i64 v.n, (.slice av v.kids.length cv), .int .i64 x.k, .int .i64 x.i, .int .i64 x.j, .int .i64 x.n, (.slice ax x.kids.length cx), .int .i64 i] dj (blk_at HB0.out Kk4.out) (by rfl) rfl (by rfl) (by rfl) dj1 (by cases dj <;> first | rfl | exact dj2) (by kernel_rfl) ?_
  go_wp2_with (refine stop_store 34 (.tmp 6) (.tmp 11) rfl ?_)
  intro _
  refine wpList_store_part_n (by rfl) 34 (.tmp 6) (.tmp 11) rfl (V0.heap.size) 0 #[.bool true, .int .i64 u.k, .int .i64 u.i, .int .i64 u.j, .int .i64 u.n, (.slice au u.kids.length cu), .int .i64 v.k, .int .i64 v.i, .int .i64 v.j, .int .i64 v.n, (.slice av v.kids.length cv), .int .i64 x.k, .int .i64 x.i, .int .i64 x.j, .int .i64 x.n, (.slice ax x.kids.length cx), .int .i64 i] (by rfl) (by rfl) 34 (by kernel_rfl) (row_ok rfl) ?_
  intro W5 hW5
  clear kvV0
  obtain ⟨k8, x7, z9⟩ := alloc1 hW5
  have Kk10 := Lib.hid k8
  clear k8
  have Hx7 := Lib.hid x7
  have Hz9 := Lib.hid z9
  clear x7 z9 hW5
  have HG11 : Hid (V0.heap.size ≤ V0.heap.size) := (Nat.le_refl _)
  have XL12 : Hid (XLt (V0.heap.size :: []) W5) := (xlt_more (xlt_nil _) Kk10.out (by have := Hz9.out; omega))
  refine ⟨_, #[.bool true, .int .i64 u.k, .int .i64 u.i, .int .i64 u.j, .int .i64 u.n, (.slice au u.kids.length cu), .int .i64 v.k, .int .i64 v.i, .int .i64 v.j, .int .i64 v.n, (.slice av v.kids.length cv), .int .i64 x.k, .int .i64 x.i, .int .i64 x.j, .int .i64 x.n, (.slice ax x.kids.length cx), .int .i64 i], Hx7.out, rfl, Nat.le_of_ble_eq_true rfl, ?_⟩
  intro W6 hW6
  have KB13 := Lib.hid (kept_set (kept_trans Kk4.out Kk10.out) hW6 (by have := HG11.out; have := Z0.out; omega))
  have KB14 := Lib.hid (kept_set Kk10.out hW6 HG11.out)
  have HL15 : Hid (LiesQ W6 (Par w V0.heap.size (V0.heap.size :: []) P) u.kids _) := par_set (par_grow HLu.out Kk10.out (List.forall_mem_cons.2 ⟨(Or.inr (Nat.le_refl V0.heap.size)), (fun _ h => nomatch h)⟩)) hW6 (List.mem_cons_self ..) (by have := HG11.out; have := Z0.out; omega)
  have HL16 : Hid (LiesQ W6 (Par w V0.heap.size (V0.heap.size :: []) P) v.kids _) := par_set (par_grow HLv.out Kk10.out (List.forall_mem_cons.2 ⟨(Or.inr (Nat.le_refl V0.heap.size)), (fun _ h => nomatch h)⟩)) hW6 (List.mem_cons_self ..) (by have := HG11.out; have := Z0.out; omega)
  have HL17 : Hid (LiesQ W6 (Par w V0.heap.size (V0.heap.size :: []) P) x.kids _) := par_set (par_grow HLx.out Kk10.out (List.forall_mem_cons.2 ⟨(Or.inr (Nat.le_refl V0.heap.size)), (fun _ h => nomatch h)⟩)) hW6 (List.mem_cons_self ..) (by have := HG11.out; have := Z0.out; omega)
  have XL18 := Lib.hid (xlt_set XL12.out hW6)
  have HX19 := Lib.hid (blk_same Hx7.out hW6)
  clear hW6
  have ld20 := part_cell (r := (w.heap.size)) HX19.out (by have := HG11.out; have := Z0.out; omega) 0 (.bool true) rfl
  have ld21 := part_cell (r := (w.heap.size)) HX19.out (by have := HG11.out; have := Z0.out; omega) 15 ((.slice ax x.kids.length cx)) rfl
  have ld22 := part_cell (r := (w.heap.size)) HX19.out (by have := HG11.out; have := Z0.out; omega) 16 (.int .i64 i) rfl
  have kvV0 : Sees V0 (w.heap.size) W6 := sees_kept _ KB14.out
  have kvW6 : Sees W6 (w.heap.size) W6 := sees_kept _ (kept_refl _)
  go_wp2_with fail
  clear kvV0
  clear kvW6
  obtain ⟨W23, h24⟩ : ∃ x, World.drew W6 = x := ⟨_, rfl⟩
  have k25 : Kept W6 W23 := by rw [← h24]; exact kept_drew (kept_refl _)
  have Kk26 := Lib.hid k25
  clear k25
  refine wp_region_held_drew (S := Sees W23 (w.heap.size)) (by kernel_rfl) ?_ (fun hHeld => ?_)
  · (try dsimp only)
    rw [h24]
    exact sees_kept _ (kept_refl _)
  rw [h24] at hHeld ⊢
  clear h24
  refine take_at 0 29 ceq14Tr6_0 (v := ?_) (Or.inl ⟨by rfl, ?_⟩) ?_
  rotate_left 1
  · ((intro w hSw; (try dsimp only at hSw); unfold ceq14Tr6_0; go_simp) <;> with_reducible rfl)
  (try simp only [Act.put, List.setIfInBounds_toArray, List.set_cons_zero, List.set_cons_succ])
  refine take_at 1 30 ceq14Tr6_1 (yields_part (V0.heap.size) (6) 32 (.tmp 29) #[.int .i64 v.k, .int .i64 v.i, .int .i64 v.j, .int .i64 v.n, (.slice av v.kids.length cv)] du (fun _ h => sees_blk HX19.out (by have := HG11.out; have := Z0.out; omega) (sees_of Kk26.out h)) (by rfl) rfl (by rfl) (by rfl) hu1 (by cases du <;> first | rfl | exact hu2) size_term) ?_
  (try simp only [Act.put, List.setIfInBounds_toArray, List.set_cons_zero, List.set_cons_succ])
  refine take_at 2 31 ceq14Tr6_2 (v := ?_) (Or.inl ⟨by rfl, ?_⟩) ?_
  rotate_left 1
  · ((intro w hSw; (try dsimp only at hSw); unfold ceq14Tr6_2; go_simp) <;> with_reducible rfl)
  (try simp only [Act.put, List.setIfInBounds_toArray, List.set_cons_zero, List.set_cons_succ])
  refine take_at 3 32 ceq14Tr6_3 (yields_part (V0.heap.size) (1) 32 (.tmp 31) #[.int .i64 u.k, .int .i64 u.i, .int .i64 u.j, .int .i64 u.n, (.slice au u.kids.length cu)] du (fun _ h => sees_blk HX19.out (by have := HG11.out; have := Z0.out; omega) (sees_of Kk26.out h)) (by rfl) rfl (by rfl) (by rfl) hu1 (by cases du <;> first | rfl | exact hu2) size_term) ?_
  (try simp only [Act.put, List.setIfInBounds_toArray, List.set_cons_zero, List.set_cons_succ])
  refine take_at 4 33 ceq14Tr6_4 (v := ?_) (Or.inl ⟨by rfl, ?_⟩) ?_
  rotate_left 1
  · ((intro w hSw; (try dsimp only at hSw); unfold ceq14Tr6_4; go_simp) <;> with_reducible rfl)
  (try simp only [Act.put, List.setIfInBounds_toArray, List.set_cons_zero, List.set_cons_succ])
  refine take_at 5 34 ceq14Tr6_5 (yields_part (V0.heap.size) (11) 32 (.tmp 33) #[.int .i64 x.k, .int .i64 x.i, .int .i64 x.j, .int .i64 x.n, (.slice ax x.kids.length cx)] du (fun _ h => sees_blk HX19.out (by have := HG11.out; have := Z0.out; omega) (sees_of Kk26.out h)) (by rfl) rfl (by rfl) (by rfl) hu1 (by cases du <;> first | rfl | exact hu2) size_term) ?_
  (try simp only [Act.put, List.setIfInBounds_toArray, List.set_cons_zero, List.set_cons_succ])
  refine take_at 6 35 ceq14Tr6_6 (v := ?_) (Or.inl ⟨by rfl, ?_⟩) ?_
  rotate_left 1
  · ((intro w hSw; (try dsimp only at hSw); unfold ceq14Tr6_6; go_simp) <;> with_reducible rfl)
  (try simp only [Act.put, List.setIfInBounds_toArray, List.set_cons_zero, List.set_cons_succ])
  refine take_at 7 36 ceq14Tr6_7 (v := ?_) (Or.inl ⟨by rfl, ?_⟩) ?_
  rotate_left 1
  · ((intro w hSw; (try dsimp only at hSw); have qV0 := sees_of (kept_trans KB14.out Kk26.out) hSw; have qW6 := sees_of Kk26.out hSw; unfold ceq14Tr6_7; go_simp) <;> with_reducible rfl)
  (try simp only [Act.put, List.setIfInBounds_toArray, List.set_cons_zero, List.set_cons_succ])
  refine take_at 9 38 ceq14Tr6_9 (v := ?_) (Or.inl ⟨by rfl, ?_⟩) ?_
  rotate_left 1
  · ((intro w hSw; (try dsimp only at hSw); unfold ceq14Tr6_9; go_simp) <;> with_reducible rfl)
  (try simp only [Act.put, List.setIfInBounds_toArray, List.set_cons_zero, List.set_cons_succ])
  refine take_at 10 39 ceq14Tr6_10 (v := ?_) (Or.inl ⟨by rfl, ?_⟩) ?_
  rotate_left 1
  · ((intro w hSw; (try dsimp only at hSw); have qV0 := sees_of (kept_trans KB14.out Kk26.out) hSw; have qW6 := sees_of Kk26.out hSw; unfold ceq14Tr6_10; go_simp) <;> with_reducible rfl)
  (try simp only [Act.put, List.setIfInBounds_toArray, List.set_cons_zero, List.set_cons_succ])
  refine wpAnyH_ready (rs := [8]) (by kernel_rfl) (by simp) ?_
  refine AllReadyH.cons (o := ceq14Tr6_8) rfl (fun K hK => ?_) ?_
  · unfold ceq14Tr6_8
    go_simp
    refine (requal_any i v u x (Par w V0.heap.size (V0.heap.size :: []) P) W23 ((.slice av v.kids.length cv)) ((.slice au u.kids.length cu)) ((.slice ax x.kids.length cx)) Gv.out (HL16.out.later Kk26.out) Gu.out (HL15.out.later Kk26.out) Gx.out (HL17.out.later Kk26.out) Ri.out).mono ?_
    rintro e w27 ⟨s29, s30, s31, rfl, ⟨hl32, hl33, hl34⟩, k28⟩
    obtain ⟨a35, c36, S37, rfl, -⟩ := hl32.out
    obtain ⟨a38, c39, S40, rfl, -⟩ := hl33.out
    obtain ⟨a41, c42, S43, rfl, -⟩ := hl34.out
    have Kk44 := Lib.hid k28
    clear k28
    have Hhl32 : Hid (LiesQ w27 (Par w V0.heap.size (V0.heap.size :: []) P) v.kids _) := par_give hl32 (Below.size (kept_trans KB14.out Kk26.out)) (xlt_later XL18.out Kk26.out)
    have Hhl33 : Hid (LiesQ w27 (Par w V0.heap.size (V0.heap.size :: []) P) u.kids _) := par_give hl33 (Below.size (kept_trans KB14.out Kk26.out)) (xlt_later XL18.out Kk26.out)
    have Hhl34 : Hid (LiesQ w27 (Par w V0.heap.size (V0.heap.size :: []) P) x.kids _) := par_give hl34 (Below.size (kept_trans KB14.out Kk26.out)) (xlt_later XL18.out Kk26.out)
    clear hl32 hl33 hl34
    clear hHeld
    refine hK.out _ _ (sees_kept _ Kk44.out) (fun hHeld => ?_)
    clear hK K
    (try simp only [])
    refine wpAnyH_ready (rs := [11]) (by kernel_rfl) (by simp) ?_
    refine AllReadyH.cons (o := ceq14Tr6_11) rfl (fun K hK => ?_) ?_
    · unfold ceq14Tr6_11
      refine step_store_part rfl 34 (.tmp 4) (.tmp 37) rfl (w.heap.size) 0 #[.bool true, .int .i64 v.k, .int .i64 v.i, .int .i64 v.j, .int .i64 v.n, (.slice a35 v.kids.length c36), .int .i64 u.k, .int .i64 u.i, .int .i64 u.j, .int .i64 u.n, (.slice a38 u.kids.length c39), .int .i64 x.k, .int .i64 x.i, .int .i64 x.j, .int .i64 x.n, (.slice a41 x.kids.length c42), .int .i64 i] rfl rfl 34 (by kernel_rfl) (row_ok rfl) _ #[.bool true, .int .i64 v.k, .int .i64 v.i, .int .i64 v.j, .int .i64 v.n, (.slice a35 v.kids.length c36), .int .i64 u.k, .int .i64 u.i, .int .i64 u.j, .int .i64 u.n, (.slice a38 u.kids.length c39), .int .i64 x.k, .int .i64 x.i, .int .i64 x.j, .int .i64 x.n, (.slice a41 x.kids.length c42), .int .i64 i] (blk_at Hx1.out (kept_trans KB14.out (kept_trans Kk26.out Kk44.out))) rfl (Nat.le_of_ble_eq_true rfl) ?_
      intro W45 hW45
      clear hHeld
      refine hK.out _ _ (sees_set Kk44.out hW45) (fun hHeld => ?_)
      clear hK K
      (try simp only [Act.put])
      refine take_at 12 5 ceq14Tr6_12 (v := ?_) (Or.inl ⟨by rfl, ?_⟩) ?_
      rotate_left 1
      · ((intro w hSw; (try dsimp only at hSw); unfold ceq14Tr6_12; go_simp) <;> with_reducible rfl)
      (try simp only [Act.put, List.setIfInBounds_toArray, List.set_cons_zero, List.set_cons_succ])
      refine wpAnyH_done (by kernel_rfl) ?_ _
      clear hHeld
      go_wp2_with fail
      (try simp only [Exit.inBlock, Exit.then])
      refine bodyPost_ret (results_cell_tmp rfl _ _ (w.heap.size) 34 _ _ dj rfl (blk_same (blk_at Hx1.out (kept_trans KB14.out (kept_trans Kk26.out Kk44.out))) hW45) dj1 (by cases dj <;> first | rfl | exact dj2) (by kernel_rfl)) rfl ?_
      have jz49 := Z0.out
      have jq46 := par_end (par_row' Hhl32.out hW45 (by omega) (by omega)) (by omega)
      have jq47 := par_end (par_row' Hhl33.out hW45 (by omega) (by omega)) (by omega)
      have jq48 := par_end (par_row' Hhl34.out hW45 (by omega) (by omega)) (by omega)
      exact ⟨_, _, _, rfl, ⟨jq46, jq47, jq48⟩, kept_set (kept_trans KB13.out (kept_trans Kk26.out Kk44.out)) hW45 (by omega)⟩
    exact AllReadyH.nil
  exact AllReadyH.nil

set_option maxRecDepth 20000 in
set_option maxHeartbeats 4000000 in
theorem con14T_any (i : Int) (c : List En) (u : Tm) (v : Tm) (x : Tm) (P : Nat → Prop) (w : World) (sc : Value) (b0 : Nat) (su : Value) (sv : Value) (sx : Value) (hlc : LiesE w c sc) (hfu : u.fine) (hlu : LiesQ w P u.kids su) (hfv : v.fine) (hlv : LiesQ w P v.kids sv) (hfx : x.fine) (hlx : LiesQ w P x.kids sx) (hri : I64 i) (hb0 : w.heap[b0]? = some (.cells #[.bool true, .int .i64 u.k, .int .i64 u.i, .int .i64 u.j, .int .i64 u.n, su, .int .i64 v.k, .int .i64 v.i, .int .i64 v.j, .int .i64 v.n, sv, .int .i64 x.k, .int .i64 x.i, .int .i64 x.j, .int .i64 x.n, sx, .int .i64 i] 34 (0, 0))) : Calls Try.prog 34 #[sc, .int .i64 14, .int .i64 0, .slice (some ⟨b0, 0, none⟩) 1 1] w (GivesJT P ⟨true, v, u, x, i⟩ true w) := by
  have HEc := Lib.hid hlc
  obtain ⟨ac, cc, Sc, rfl, -⟩ := hlc.out
  clear hlc
  have Gu := Lib.hid hfu
  clear hfu
  obtain ⟨au, cu, Su, rfl, -⟩ := hlu.out
  have Gv := Lib.hid hfv
  clear hfv
  obtain ⟨av, cv, Sv, rfl, -⟩ := hlv.out
  have Gx := Lib.hid hfx
  clear hfx
  obtain ⟨ax, cx, Sx, rfl, -⟩ := hlx.out
  have Ri := Lib.hid hri
  clear hri
  have HB0 := Lib.hid hb0
  clear hb0
  obtain ⟨dj, dj1, dj2⟩ := under_of 34 (by kernel_rfl)
  obtain ⟨du, hu1, hu2⟩ := under_term
  go_enter Try.func34, Try.ntmps34
  go_upto_region 1 with fail
  refine at_code (fun V0 hV0 => ?_)
  obtain ⟨k2, x1, z3⟩ := alloc1 hV0
  have Kk4 := Lib.hid k2
  clear k2
  have Hx1 := Lib.hid x1
  have Z0 := Lib.hid z3
  clear z3 x1 hV0
  have HLu : Hid (LiesQ V0 (Par w V0.heap.size [] P) u.kids _) := (par_in _ _ hlu).later Kk4.out
  clear hlu
  have HLv : Hid (LiesQ V0 (Par w V0.heap.size [] P) v.kids _) := (par_in _ _ hlv).later Kk4.out
  clear hlv
  have HLx : Hid (LiesQ V0 (Par w V0.heap.size [] P) x.kids _) := (par_in _ _ hlx).later Kk4.out
  clear hlx
  have kvV0 : Sees V0 (w.heap.size) V0 := sees_kept _ (kept_refl _)
  go_wp2_with fail
  clear kvV0
  refine (ceq14T_any i u v x (Par w V0.heap.size [] P) V0 b0 ((.slice au u.kids.length cu)) ((.slice av v.kids.length cv)) ((.slice ax x.kids.length cx)) Gu.out HLu.out Gv.out HLv.out Gx.out HLx.out Ri.out (blk_at HB0.out Kk4.out)).mono ?_
  rintro e w5 ⟨s7, s8, s9, rfl, ⟨hl10, hl11, hl12⟩, k6⟩
  obtain ⟨a13, c14, S15, rfl, -⟩ := hl10.out
  obtain ⟨a16, c17, S18, rfl, -⟩ := hl11.out
  obtain ⟨a19, c20, S21, rfl, -⟩ := hl12.out
  have Kk22 := Lib.hid k6
  clear k6
  have Hhl10 : Hid (LiesQ w5 (Par w V0.heap.size [] P) v.kids _) := par_give hl10 (Nat.le_refl _) (xlt_nil _)
  have Hhl11 : Hid (LiesQ w5 (Par w V0.heap.size [] P) u.kids _) := par_give hl11 (Nat.le_refl _) (xlt_nil _)
  have Hhl12 : Hid (LiesQ w5 (Par w V0.heap.size [] P) x.kids _) := par_give hl12 (Nat.le_refl _) (xlt_nil _)
  clear hl10 hl11 hl12
  have kvV0 : Sees V0 (w.heap.size) w5 := sees_kept _ Kk22.out
  go_wp2_with (refine stop_store 34 (.tmp 8) (.tmp 263) rfl ?_)
  intro _
  refine wpList_store_part_n (by rfl) 34 (.tmp 8) (.tmp 263) rfl (w.heap.size) 0 #[.bool true, .int .i64 v.k, .int .i64 v.i, .int .i64 v.j, .int .i64 v.n, (.slice a13 v.kids.length c14), .int .i64 u.k, .int .i64 u.i, .int .i64 u.j, .int .i64 u.n, (.slice a16 u.kids.length c17), .int .i64 x.k, .int .i64 x.i, .int .i64 x.j, .int .i64 x.n, (.slice a19 x.kids.length c20), .int .i64 i] (by rfl) (by rfl) 34 (by kernel_rfl) (row_ok rfl) ?_
  intro W23 hW23
  clear kvV0
  subst hW23
  refine ⟨_, #[.bool true, .int .i64 v.k, .int .i64 v.i, .int .i64 v.j, .int .i64 v.n, (.slice a13 v.kids.length c14), .int .i64 u.k, .int .i64 u.i, .int .i64 u.j, .int .i64 u.n, (.slice a16 u.kids.length c17), .int .i64 x.k, .int .i64 x.i, .int .i64 x.j, .int .i64 x.n, (.slice a19 x.kids.length c20), .int .i64 i], (blk_at Hx1.out Kk22.out), rfl, Nat.le_of_ble_eq_true rfl, ?_⟩
  intro W24 hW24
  go_wp2_with fail
  (try simp only [Exit.inBlock, Exit.then])
  refine bodyPost_ret (results_cell_tmp rfl _ _ (w.heap.size) 34 _ _ dj rfl (blk_same (blk_at Hx1.out Kk22.out) hW24) dj1 (by cases dj <;> first | rfl | exact dj2) (by kernel_rfl)) rfl ?_
  have jz28 := Z0.out
  have jq25 := par_end (par_row' Hhl10.out hW24 (by omega) (by omega)) (by omega)
  have jq26 := par_end (par_row' Hhl11.out hW24 (by omega) (by omega)) (by omega)
  have jq27 := par_end (par_row' Hhl12.out hW24 (by omega) (by omega)) (by omega)
  exact ⟨_, _, _, rfl, ⟨jq25, jq26, jq27⟩, kept_set (kept_trans Kk4.out Kk22.out) hW24 (by omega)⟩

def ceq14Nr6_0 : Oper := { dst := some 29, op := Go.Op.fieldAddr 34 (Go.Operand.tmp 6) 2, type := 0, pos := "equals.go:17", after := #[], guard := none }
def ceq14Nr6_1 : Oper := { dst := some 30, op := Go.Op.load 32 (Go.Operand.tmp 29), type := 32, pos := "equals.go:17", after := #[{ on := 0, ground := Go.Ground.data }], guard := none }
def ceq14Nr6_2 : Oper := { dst := some 31, op := Go.Op.fieldAddr 34 (Go.Operand.tmp 6) 1, type := 0, pos := "equals.go:17", after := #[], guard := none }
def ceq14Nr6_3 : Oper := { dst := some 32, op := Go.Op.load 32 (Go.Operand.tmp 31), type := 32, pos := "equals.go:17", after := #[{ on := 2, ground := Go.Ground.data }], guard := none }
def ceq14Nr6_4 : Oper := { dst := some 33, op := Go.Op.fieldAddr 34 (Go.Operand.tmp 6) 3, type := 0, pos := "equals.go:17", after := #[], guard := none }
def ceq14Nr6_5 : Oper := { dst := some 34, op := Go.Op.load 32 (Go.Operand.tmp 33), type := 32, pos := "equals.go:17", after := #[{ on := 4, ground := Go.Ground.data }], guard := none }
def ceq14Nr6_6 : Oper := { dst := some 35, op := Go.Op.fieldAddr 34 (Go.Operand.tmp 6) 4, type := 0, pos := "equals.go:17", after := #[], guard := none }
def ceq14Nr6_7 : Oper := { dst := some 36, op := Go.Op.load 3 (Go.Operand.tmp 35), type := 3, pos := "equals.go:17", after := #[{ on := 6, ground := Go.Ground.data }], guard := none }
def ceq14Nr6_8 : Oper := { dst := some 37, op := Go.Op.call { callee := Go.Callee.value (Go.Operand.func 82), args := #[Go.Operand.tmp 30, Go.Operand.tmp 32, Go.Operand.tmp 34, Go.Operand.tmp 36], argTypes := #[32, 32, 32, 3] }, type := 34, pos := "equals.go:17", after := #[{ on := 1, ground := Go.Ground.data }, { on := 3, ground := Go.Ground.data }, { on := 5, ground := Go.Ground.data }, { on := 7, ground := Go.Ground.data }], guard := none }
def ceq14Nr6_9 : Oper := { dst := some 38, op := Go.Op.fieldAddr 34 (Go.Operand.tmp 6) 0, type := 0, pos := "equals.go:17", after := #[{ on := 11, ground := Go.Ground.gcOnly Go.Departure.lateStores }], guard := none }
def ceq14Nr6_10 : Oper := { dst := some 39, op := Go.Op.load 4 (Go.Operand.tmp 38), type := 4, pos := "equals.go:17", after := #[{ on := 9, ground := Go.Ground.data }, { on := 11, ground := Go.Ground.gcOnly Go.Departure.lateStores }], guard := none }
def ceq14Nr6_11 : Oper := { dst := none, op := Go.Op.store 34 (Go.Operand.tmp 4) (Go.Operand.tmp 37), type := 0, pos := "equals.go:17", after := #[{ on := 8, ground := Go.Ground.data }, { on := 8, ground := Go.Ground.chain }, { on := 0, ground := Go.Ground.phase }, { on := 1, ground := Go.Ground.phase }, { on := 2, ground := Go.Ground.phase }, { on := 3, ground := Go.Ground.phase }, { on := 4, ground := Go.Ground.phase }, { on := 5, ground := Go.Ground.phase }, { on := 6, ground := Go.Ground.phase }, { on := 7, ground := Go.Ground.phase }, { on := 8, ground := Go.Ground.phase }, { on := 9, ground := Go.Ground.textOnly Go.Departure.lateStores }, { on := 10, ground := Go.Ground.textOnly Go.Departure.lateStores }], guard := none }
def ceq14Nr6_12 : Oper := { dst := some 5, op := Go.Op.assign (Go.Operand.tmp 39), type := 4, pos := "equals.go:17", after := #[{ on := 10, ground := Go.Ground.data }, { on := 11, ground := Go.Ground.chain }, { on := 0, ground := Go.Ground.phase }, { on := 1, ground := Go.Ground.phase }, { on := 2, ground := Go.Ground.phase }, { on := 3, ground := Go.Ground.phase }, { on := 4, ground := Go.Ground.phase }, { on := 5, ground := Go.Ground.phase }, { on := 6, ground := Go.Ground.phase }, { on := 7, ground := Go.Ground.phase }, { on := 8, ground := Go.Ground.phase }, { on := 9, ground := Go.Ground.phase }, { on := 10, ground := Go.Ground.phase }, { on := 11, ground := Go.Ground.phase }], guard := none }
set_option maxRecDepth 20000 in
set_option maxHeartbeats 4000000 in
theorem ceq14N_any (i : Int) (u : Tm) (v : Tm) (x : Tm) (P : Nat → Prop) (w : World) (b0 : Nat) (su : Value) (sv : Value) (sx : Value) (hfu : u.fine) (hlu : LiesQ w P u.kids su) (hfv : v.fine) (hlv : LiesQ w P v.kids sv) (hfx : x.fine) (hlx : LiesQ w P x.kids sx) (hri : I64 i) (hb0 : w.heap[b0]? = some (.cells #[.bool false, .int .i64 u.k, .int .i64 u.i, .int .i64 u.j, .int .i64 u.n, su, .int .i64 v.k, .int .i64 v.i, .int .i64 v.j, .int .i64 v.n, sv, .int .i64 x.k, .int .i64 x.i, .int .i64 x.j, .int .i64 x.n, sx, .int .i64 i] 34 (0, 0))) : Calls Try.prog 65 #[.int .i64 14, .slice (some ⟨b0, 0, none⟩) 1 1] w (GivesJT P ⟨true, v, u, x, i⟩ false w) := by
  have Gu := Lib.hid hfu
  clear hfu
  obtain ⟨au, cu, Su, rfl, -⟩ := hlu.out
  have Gv := Lib.hid hfv
  clear hfv
  obtain ⟨av, cv, Sv, rfl, -⟩ := hlv.out
  have Gx := Lib.hid hfx
  clear hfx
  obtain ⟨ax, cx, Sx, rfl, -⟩ := hlx.out
  have Ri := Lib.hid hri
  clear hri
  have HB0 := Lib.hid hb0
  clear hb0
  obtain ⟨dj, dj1, dj2⟩ := under_of 34 (by kernel_rfl)
  obtain ⟨du, hu1, hu2⟩ := under_term
  go_enter Try.func65, Try.ntmps65
  go_upto_region 1 with fail
  refine at_code (fun V0 hV0 => ?_)
  obtain ⟨k2, x1, z3⟩ := alloc1 hV0
  have Kk4 := Lib.hid k2
  clear k2
  have Hx1 := Lib.hid x1
  have Z0 := Lib.hid z3
  clear z3 x1 hV0
  have HLu : Hid (LiesQ V0 (Par w V0.heap.size [] P) u.kids _) := (par_in _ _ hlu).later Kk4.out
  clear hlu
  have HLv : Hid (LiesQ V0 (Par w V0.heap.size [] P) v.kids _) := (par_in _ _ hlv).later Kk4.out
  clear hlv
  have HLx : Hid (LiesQ V0 (Par w V0.heap.size [] P) x.kids _) := (par_in _ _ hlx).later Kk4.out
  clear hlx
  have kvV0 : Sees V0 (w.heap.size) V0 := sees_kept _ (kept_refl _)
  go_wp2_with (refine stop_load 34 (.tmp 10) rfl ?_)
  intro _
  refine wpList_load_part (b0) (0) 34 (.tmp 10) #[.bool false, .int .i64 u.k, .int .i64 u.i, .int .i64 u.j, .int .i64 u.n, (.slice au u.kids.length cu), .int .i64 v.k, .int .i64 v.i, .int .i64 v.j, .int .i64 v.n, (.slice av v.kids.length cv), .int .i64 x.k, .int .i64 x.i, .int .i64 x.j, .int .i64 x.n, (.slice ax x.kids.length cx), .int .i64 i] dj (blk_at HB0.out Kk4.out) (by rfl) rfl (by rfl) (by rfl) dj1 (by cases dj <;> first | rfl | exact dj2) (by kernel_rfl) ?_
  go_wp2_with (refine stop_store 34 (.tmp 6) (.tmp 11) rfl ?_)
  intro _
  refine wpList_store_part_n (by rfl) 34 (.tmp 6) (.tmp 11) rfl (V0.heap.size) 0 #[.bool false, .int .i64 u.k, .int .i64 u.i, .int .i64 u.j, .int .i64 u.n, (.slice au u.kids.length cu), .int .i64 v.k, .int .i64 v.i, .int .i64 v.j, .int .i64 v.n, (.slice av v.kids.length cv), .int .i64 x.k, .int .i64 x.i, .int .i64 x.j, .int .i64 x.n, (.slice ax x.kids.length cx), .int .i64 i] (by rfl) (by rfl) 34 (by kernel_rfl) (row_ok rfl) ?_
  intro W5 hW5
  clear kvV0
  obtain ⟨k8, x7, z9⟩ := alloc1 hW5
  have Kk10 := Lib.hid k8
  clear k8
  have Hx7 := Lib.hid x7
  have Hz9 := Lib.hid z9
  clear x7 z9 hW5
  have HG11 : Hid (V0.heap.size ≤ V0.heap.size) := (Nat.le_refl _)
  have XL12 : Hid (XLt (V0.heap.size :: []) W5) := (xlt_more (xlt_nil _) Kk10.out (by have := Hz9.out; omega))
  refine ⟨_, #[.bool false, .int .i64 u.k, .int .i64 u.i, .int .i64 u.j, .int .i64 u.n, (.slice au u.kids.length cu), .int .i64 v.k, .int .i64 v.i, .int .i64 v.j, .int .i64 v.n, (.slice av v.kids.length cv), .int .i64 x.k, .int .i64 x.i, .int .i64 x.j, .int .i64 x.n, (.slice ax x.kids.length cx), .int .i64 i], Hx7.out, rfl, Nat.le_of_ble_eq_true rfl, ?_⟩
  intro W6 hW6
  have KB13 := Lib.hid (kept_set (kept_trans Kk4.out Kk10.out) hW6 (by have := HG11.out; have := Z0.out; omega))
  have KB14 := Lib.hid (kept_set Kk10.out hW6 HG11.out)
  have HL15 : Hid (LiesQ W6 (Par w V0.heap.size (V0.heap.size :: []) P) u.kids _) := par_set (par_grow HLu.out Kk10.out (List.forall_mem_cons.2 ⟨(Or.inr (Nat.le_refl V0.heap.size)), (fun _ h => nomatch h)⟩)) hW6 (List.mem_cons_self ..) (by have := HG11.out; have := Z0.out; omega)
  have HL16 : Hid (LiesQ W6 (Par w V0.heap.size (V0.heap.size :: []) P) v.kids _) := par_set (par_grow HLv.out Kk10.out (List.forall_mem_cons.2 ⟨(Or.inr (Nat.le_refl V0.heap.size)), (fun _ h => nomatch h)⟩)) hW6 (List.mem_cons_self ..) (by have := HG11.out; have := Z0.out; omega)
  have HL17 : Hid (LiesQ W6 (Par w V0.heap.size (V0.heap.size :: []) P) x.kids _) := par_set (par_grow HLx.out Kk10.out (List.forall_mem_cons.2 ⟨(Or.inr (Nat.le_refl V0.heap.size)), (fun _ h => nomatch h)⟩)) hW6 (List.mem_cons_self ..) (by have := HG11.out; have := Z0.out; omega)
  have XL18 := Lib.hid (xlt_set XL12.out hW6)
  have HX19 := Lib.hid (blk_same Hx7.out hW6)
  clear hW6
  have ld20 := part_cell (r := (w.heap.size)) HX19.out (by have := HG11.out; have := Z0.out; omega) 0 (.bool false) rfl
  have ld21 := part_cell (r := (w.heap.size)) HX19.out (by have := HG11.out; have := Z0.out; omega) 15 ((.slice ax x.kids.length cx)) rfl
  have ld22 := part_cell (r := (w.heap.size)) HX19.out (by have := HG11.out; have := Z0.out; omega) 16 (.int .i64 i) rfl
  have kvV0 : Sees V0 (w.heap.size) W6 := sees_kept _ KB14.out
  have kvW6 : Sees W6 (w.heap.size) W6 := sees_kept _ (kept_refl _)
  go_wp2_with fail
  clear kvV0
  clear kvW6
  obtain ⟨W23, h24⟩ : ∃ x, World.drew W6 = x := ⟨_, rfl⟩
  have k25 : Kept W6 W23 := by rw [← h24]; exact kept_drew (kept_refl _)
  have Kk26 := Lib.hid k25
  clear k25
  refine wp_region_held_drew (S := Sees W23 (w.heap.size)) (by kernel_rfl) ?_ (fun hHeld => ?_)
  · (try dsimp only)
    rw [h24]
    exact sees_kept _ (kept_refl _)
  rw [h24] at hHeld ⊢
  clear h24
  refine take_at 0 29 ceq14Nr6_0 (v := ?_) (Or.inl ⟨by rfl, ?_⟩) ?_
  rotate_left 1
  · ((intro w hSw; (try dsimp only at hSw); unfold ceq14Nr6_0; go_simp) <;> with_reducible rfl)
  (try simp only [Act.put, List.setIfInBounds_toArray, List.set_cons_zero, List.set_cons_succ])
  refine take_at 1 30 ceq14Nr6_1 (yields_part (V0.heap.size) (6) 32 (.tmp 29) #[.int .i64 v.k, .int .i64 v.i, .int .i64 v.j, .int .i64 v.n, (.slice av v.kids.length cv)] du (fun _ h => sees_blk HX19.out (by have := HG11.out; have := Z0.out; omega) (sees_of Kk26.out h)) (by rfl) rfl (by rfl) (by rfl) hu1 (by cases du <;> first | rfl | exact hu2) size_term) ?_
  (try simp only [Act.put, List.setIfInBounds_toArray, List.set_cons_zero, List.set_cons_succ])
  refine take_at 2 31 ceq14Nr6_2 (v := ?_) (Or.inl ⟨by rfl, ?_⟩) ?_
  rotate_left 1
  · ((intro w hSw; (try dsimp only at hSw); unfold ceq14Nr6_2; go_simp) <;> with_reducible rfl)
  (try simp only [Act.put, List.setIfInBounds_toArray, List.set_cons_zero, List.set_cons_succ])
  refine take_at 3 32 ceq14Nr6_3 (yields_part (V0.heap.size) (1) 32 (.tmp 31) #[.int .i64 u.k, .int .i64 u.i, .int .i64 u.j, .int .i64 u.n, (.slice au u.kids.length cu)] du (fun _ h => sees_blk HX19.out (by have := HG11.out; have := Z0.out; omega) (sees_of Kk26.out h)) (by rfl) rfl (by rfl) (by rfl) hu1 (by cases du <;> first | rfl | exact hu2) size_term) ?_
  (try simp only [Act.put, List.setIfInBounds_toArray, List.set_cons_zero, List.set_cons_succ])
  refine take_at 4 33 ceq14Nr6_4 (v := ?_) (Or.inl ⟨by rfl, ?_⟩) ?_
  rotate_left 1
  · ((intro w hSw; (try dsimp only at hSw); unfold ceq14Nr6_4; go_simp) <;> with_reducible rfl)
  (try simp only [Act.put, List.setIfInBounds_toArray, List.set_cons_zero, List.set_cons_succ])
  refine take_at 5 34 ceq14Nr6_5 (yields_part (V0.heap.size) (11) 32 (.tmp 33) #[.int .i64 x.k, .int .i64 x.i, .int .i64 x.j, .int .i64 x.n, (.slice ax x.kids.length cx)] du (fun _ h => sees_blk HX19.out (by have := HG11.out; have := Z0.out; omega) (sees_of Kk26.out h)) (by rfl) rfl (by rfl) (by rfl) hu1 (by cases du <;> first | rfl | exact hu2) size_term) ?_
  (try simp only [Act.put, List.setIfInBounds_toArray, List.set_cons_zero, List.set_cons_succ])
  refine take_at 6 35 ceq14Nr6_6 (v := ?_) (Or.inl ⟨by rfl, ?_⟩) ?_
  rotate_left 1
  · ((intro w hSw; (try dsimp only at hSw); unfold ceq14Nr6_6; go_simp) <;> with_reducible rfl)
  (try simp only [Act.put, List.setIfInBounds_toArray, List.set_cons_zero, List.set_cons_succ])
  refine take_at 7 36 ceq14Nr6_7 (v := ?_) (Or.inl ⟨by rfl, ?_⟩) ?_
  rotate_left 1
  · ((intro w hSw; (try dsimp only at hSw); have qV0 := sees_of (kept_trans KB14.out Kk26.out) hSw; have qW6 := sees_of Kk26.out hSw; unfold ceq14Nr6_7; go_simp) <;> with_reducible rfl)
  (try simp only [Act.put, List.setIfInBounds_toArray, List.set_cons_zero, List.set_cons_succ])
  refine take_at 9 38 ceq14Nr6_9 (v := ?_) (Or.inl ⟨by rfl, ?_⟩) ?_
  rotate_left 1
  · ((intro w hSw; (try dsimp only at hSw); unfold ceq14Nr6_9; go_simp) <;> with_reducible rfl)
  (try simp only [Act.put, List.setIfInBounds_toArray, List.set_cons_zero, List.set_cons_succ])
  refine take_at 10 39 ceq14Nr6_10 (v := ?_) (Or.inl ⟨by rfl, ?_⟩) ?_
  rotate_left 1
  · ((intro w hSw; (try dsimp only at hSw); have qV0 := sees_of (kept_trans KB14.out Kk26.out) hSw; have qW6 := sees_of Kk26.out hSw; unfold ceq14Nr6_10; go_simp) <;> with_reducible rfl)
  (try simp only [Act.put, List.setIfInBounds_toArray, List.set_cons_zero, List.set_cons_succ])
  refine wpAnyH_ready (rs := [8]) (by kernel_rfl) (by simp) ?_
  refine AllReadyH.cons (o := ceq14Nr6_8) rfl (fun K hK => ?_) ?_
  · unfold ceq14Nr6_8
    go_simp
    refine (requal_any i v u x (Par w V0.heap.size (V0.heap.size :: []) P) W23 ((.slice av v.kids.length cv)) ((.slice au u.kids.length cu)) ((.slice ax x.kids.length cx)) Gv.out (HL16.out.later Kk26.out) Gu.out (HL15.out.later Kk26.out) Gx.out (HL17.out.later Kk26.out) Ri.out).mono ?_
    rintro e w27 ⟨s29, s30, s31, rfl, ⟨hl32, hl33, hl34⟩, k28⟩
    obtain ⟨a35, c36, S37, rfl, -⟩ := hl32.out
    obtain ⟨a38, c39, S40, rfl, -⟩ := hl33.out
    obtain ⟨a41, c42, S43, rfl, -⟩ := hl34.out
    have Kk44 := Lib.hid k28
    clear k28
    have Hhl32 : Hid (LiesQ w27 (Par w V0.heap.size (V0.heap.size :: []) P) v.kids _) := par_give hl32 (Below.size (kept_trans KB14.out Kk26.out)) (xlt_later XL18.out Kk26.out)
    have Hhl33 : Hid (LiesQ w27 (Par w V0.heap.size (V0.heap.size :: []) P) u.kids _) := par_give hl33 (Below.size (kept_trans KB14.out Kk26.out)) (xlt_later XL18.out Kk26.out)
    have Hhl34 : Hid (LiesQ w27 (Par w V0.heap.size (V0.heap.size :: []) P) x.kids _) := par_give hl34 (Below.size (kept_trans KB14.out Kk26.out)) (xlt_later XL18.out Kk26.out)
    clear hl32 hl33 hl34
    clear hHeld
    refine hK.out _ _ (sees_kept _ Kk44.out) (fun hHeld => ?_)
    clear hK K
    (try simp only [])
    refine wpAnyH_ready (rs := [11]) (by kernel_rfl) (by simp) ?_
    refine AllReadyH.cons (o := ceq14Nr6_11) rfl (fun K hK => ?_) ?_
    · unfold ceq14Nr6_11
      refine step_store_part rfl 34 (.tmp 4) (.tmp 37) rfl (w.heap.size) 0 #[.bool true, .int .i64 v.k, .int .i64 v.i, .int .i64 v.j, .int .i64 v.n, (.slice a35 v.kids.length c36), .int .i64 u.k, .int .i64 u.i, .int .i64 u.j, .int .i64 u.n, (.slice a38 u.kids.length c39), .int .i64 x.k, .int .i64 x.i, .int .i64 x.j, .int .i64 x.n, (.slice a41 x.kids.length c42), .int .i64 i] rfl rfl 34 (by kernel_rfl) (row_ok rfl) _ #[.bool true, .int .i64 v.k, .int .i64 v.i, .int .i64 v.j, .int .i64 v.n, (.slice a35 v.kids.length c36), .int .i64 u.k, .int .i64 u.i, .int .i64 u.j, .int .i64 u.n, (.slice a38 u.kids.length c39), .int .i64 x.k, .int .i64 x.i, .int .i64 x.j, .int .i64 x.n, (.slice a41 x.kids.length c42), .int .i64 i] (blk_at Hx1.out (kept_trans KB14.out (kept_trans Kk26.out Kk44.out))) rfl (Nat.le_of_ble_eq_true rfl) ?_
      intro W45 hW45
      clear hHeld
      refine hK.out _ _ (sees_set Kk44.out hW45) (fun hHeld => ?_)
      clear hK K
      (try simp only [Act.put])
      refine take_at 12 5 ceq14Nr6_12 (v := ?_) (Or.inl ⟨by rfl, ?_⟩) ?_
      rotate_left 1
      · ((intro w hSw; (try dsimp only at hSw); unfold ceq14Nr6_12; go_simp) <;> with_reducible rfl)
      (try simp only [Act.put, List.setIfInBounds_toArray, List.set_cons_zero, List.set_cons_succ])
      refine wpAnyH_done (by kernel_rfl) ?_ _
      clear hHeld
      go_wp2_with fail
      (try simp only [Exit.inBlock, Exit.then])
      refine bodyPost_ret (results_cell_tmp rfl _ _ (w.heap.size) 34 _ _ dj rfl (blk_same (blk_at Hx1.out (kept_trans KB14.out (kept_trans Kk26.out Kk44.out))) hW45) dj1 (by cases dj <;> first | rfl | exact dj2) (by kernel_rfl)) rfl ?_
      have jz49 := Z0.out
      have jq46 := par_end (par_row' Hhl32.out hW45 (by omega) (by omega)) (by omega)
      have jq47 := par_end (par_row' Hhl33.out hW45 (by omega) (by omega)) (by omega)
      have jq48 := par_end (par_row' Hhl34.out hW45 (by omega) (by omega)) (by omega)
      exact ⟨_, _, _, rfl, ⟨jq46, jq47, jq48⟩, kept_set (kept_trans KB13.out (kept_trans Kk26.out Kk44.out)) hW45 (by omega)⟩
    exact AllReadyH.nil
  exact AllReadyH.nil

set_option maxRecDepth 20000 in
set_option maxHeartbeats 4000000 in
theorem con14N_any (i : Int) (c : List En) (u : Tm) (v : Tm) (x : Tm) (P : Nat → Prop) (w : World) (sc : Value) (b0 : Nat) (su : Value) (sv : Value) (sx : Value) (hlc : LiesE w c sc) (hfu : u.fine) (hlu : LiesQ w P u.kids su) (hfv : v.fine) (hlv : LiesQ w P v.kids sv) (hfx : x.fine) (hlx : LiesQ w P x.kids sx) (hri : I64 i) (hb0 : w.heap[b0]? = some (.cells #[.bool false, .int .i64 u.k, .int .i64 u.i, .int .i64 u.j, .int .i64 u.n, su, .int .i64 v.k, .int .i64 v.i, .int .i64 v.j, .int .i64 v.n, sv, .int .i64 x.k, .int .i64 x.i, .int .i64 x.j, .int .i64 x.n, sx, .int .i64 i] 34 (0, 0))) : Calls Try.prog 34 #[sc, .int .i64 14, .int .i64 0, .slice (some ⟨b0, 0, none⟩) 1 1] w (GivesJT P ⟨true, v, u, x, i⟩ false w) := by
  have HEc := Lib.hid hlc
  obtain ⟨ac, cc, Sc, rfl, -⟩ := hlc.out
  clear hlc
  have Gu := Lib.hid hfu
  clear hfu
  obtain ⟨au, cu, Su, rfl, -⟩ := hlu.out
  have Gv := Lib.hid hfv
  clear hfv
  obtain ⟨av, cv, Sv, rfl, -⟩ := hlv.out
  have Gx := Lib.hid hfx
  clear hfx
  obtain ⟨ax, cx, Sx, rfl, -⟩ := hlx.out
  have Ri := Lib.hid hri
  clear hri
  have HB0 := Lib.hid hb0
  clear hb0
  obtain ⟨dj, dj1, dj2⟩ := under_of 34 (by kernel_rfl)
  obtain ⟨du, hu1, hu2⟩ := under_term
  go_enter Try.func34, Try.ntmps34
  go_upto_region 1 with fail
  refine at_code (fun V0 hV0 => ?_)
  obtain ⟨k2, x1, z3⟩ := alloc1 hV0
  have Kk4 := Lib.hid k2
  clear k2
  have Hx1 := Lib.hid x1
  have Z0 := Lib.hid z3
  clear z3 x1 hV0
  have HLu : Hid (LiesQ V0 (Par w V0.heap.size [] P) u.kids _) := (par_in _ _ hlu).later Kk4.out
  clear hlu
  have HLv : Hid (LiesQ V0 (Par w V0.heap.size [] P) v.kids _) := (par_in _ _ hlv).later Kk4.out
  clear hlv
  have HLx : Hid (LiesQ V0 (Par w V0.heap.size [] P) x.kids _) := (par_in _ _ hlx).later Kk4.out
  clear hlx
  have kvV0 : Sees V0 (w.heap.size) V0 := sees_kept _ (kept_refl _)
  go_wp2_with fail
  clear kvV0
  refine (ceq14N_any i u v x (Par w V0.heap.size [] P) V0 b0 ((.slice au u.kids.length cu)) ((.slice av v.kids.length cv)) ((.slice ax x.kids.length cx)) Gu.out HLu.out Gv.out HLv.out Gx.out HLx.out Ri.out (blk_at HB0.out Kk4.out)).mono ?_
  rintro e w5 ⟨s7, s8, s9, rfl, ⟨hl10, hl11, hl12⟩, k6⟩
  obtain ⟨a13, c14, S15, rfl, -⟩ := hl10.out
  obtain ⟨a16, c17, S18, rfl, -⟩ := hl11.out
  obtain ⟨a19, c20, S21, rfl, -⟩ := hl12.out
  have Kk22 := Lib.hid k6
  clear k6
  have Hhl10 : Hid (LiesQ w5 (Par w V0.heap.size [] P) v.kids _) := par_give hl10 (Nat.le_refl _) (xlt_nil _)
  have Hhl11 : Hid (LiesQ w5 (Par w V0.heap.size [] P) u.kids _) := par_give hl11 (Nat.le_refl _) (xlt_nil _)
  have Hhl12 : Hid (LiesQ w5 (Par w V0.heap.size [] P) x.kids _) := par_give hl12 (Nat.le_refl _) (xlt_nil _)
  clear hl10 hl11 hl12
  have kvV0 : Sees V0 (w.heap.size) w5 := sees_kept _ Kk22.out
  go_wp2_with (refine stop_store 34 (.tmp 8) (.tmp 263) rfl ?_)
  intro _
  refine wpList_store_part_n (by rfl) 34 (.tmp 8) (.tmp 263) rfl (w.heap.size) 0 #[.bool true, .int .i64 v.k, .int .i64 v.i, .int .i64 v.j, .int .i64 v.n, (.slice a13 v.kids.length c14), .int .i64 u.k, .int .i64 u.i, .int .i64 u.j, .int .i64 u.n, (.slice a16 u.kids.length c17), .int .i64 x.k, .int .i64 x.i, .int .i64 x.j, .int .i64 x.n, (.slice a19 x.kids.length c20), .int .i64 i] (by rfl) (by rfl) 34 (by kernel_rfl) (row_ok rfl) ?_
  intro W23 hW23
  clear kvV0
  subst hW23
  refine ⟨_, #[.bool true, .int .i64 v.k, .int .i64 v.i, .int .i64 v.j, .int .i64 v.n, (.slice a13 v.kids.length c14), .int .i64 u.k, .int .i64 u.i, .int .i64 u.j, .int .i64 u.n, (.slice a16 u.kids.length c17), .int .i64 x.k, .int .i64 x.i, .int .i64 x.j, .int .i64 x.n, (.slice a19 x.kids.length c20), .int .i64 i], (blk_at Hx1.out Kk22.out), rfl, Nat.le_of_ble_eq_true rfl, ?_⟩
  intro W24 hW24
  go_wp2_with fail
  (try simp only [Exit.inBlock, Exit.then])
  refine bodyPost_ret (results_cell_tmp rfl _ _ (w.heap.size) 34 _ _ dj rfl (blk_same (blk_at Hx1.out Kk22.out) hW24) dj1 (by cases dj <;> first | rfl | exact dj2) (by kernel_rfl)) rfl ?_
  have jz28 := Z0.out
  have jq25 := par_end (par_row' Hhl10.out hW24 (by omega) (by omega)) (by omega)
  have jq26 := par_end (par_row' Hhl11.out hW24 (by omega) (by omega)) (by omega)
  have jq27 := par_end (par_row' Hhl12.out hW24 (by omega) (by omega)) (by omega)
  exact ⟨_, _, _, rfl, ⟨jq25, jq26, jq27⟩, kept_set (kept_trans Kk4.out Kk22.out) hW24 (by omega)⟩

def ceq15r9_0 : Oper := { dst := some 45, op := Go.Op.fieldAddr 34 (Go.Operand.tmp 6) 1, type := 0, pos := "equals.go:20", after := #[], guard := none }
def ceq15r9_1 : Oper := { dst := some 46, op := Go.Op.load 32 (Go.Operand.tmp 45), type := 32, pos := "equals.go:20", after := #[{ on := 0, ground := Go.Ground.data }], guard := none }
def ceq15r9_2 : Oper := { dst := some 47, op := Go.Op.fieldAddr 34 (Go.Operand.tmp 7) 2, type := 0, pos := "equals.go:20", after := #[], guard := none }
def ceq15r9_3 : Oper := { dst := some 48, op := Go.Op.load 32 (Go.Operand.tmp 47), type := 32, pos := "equals.go:20", after := #[{ on := 2, ground := Go.Ground.data }], guard := none }
def ceq15r9_4 : Oper := { dst := some 49, op := Go.Op.fieldAddr 34 (Go.Operand.tmp 6) 3, type := 0, pos := "equals.go:20", after := #[], guard := none }
def ceq15r9_5 : Oper := { dst := some 50, op := Go.Op.load 32 (Go.Operand.tmp 49), type := 32, pos := "equals.go:20", after := #[{ on := 4, ground := Go.Ground.data }], guard := none }
def ceq15r9_6 : Oper := { dst := some 51, op := Go.Op.fieldAddr 34 (Go.Operand.tmp 6) 4, type := 0, pos := "equals.go:20", after := #[], guard := none }
def ceq15r9_7 : Oper := { dst := some 52, op := Go.Op.load 3 (Go.Operand.tmp 51), type := 3, pos := "equals.go:20", after := #[{ on := 6, ground := Go.Ground.data }], guard := none }
def ceq15r9_8 : Oper := { dst := some 53, op := Go.Op.call { callee := Go.Callee.value (Go.Operand.func 82), args := #[Go.Operand.tmp 46, Go.Operand.tmp 48, Go.Operand.tmp 50, Go.Operand.tmp 52], argTypes := #[32, 32, 32, 3] }, type := 34, pos := "equals.go:20", after := #[{ on := 1, ground := Go.Ground.data }, { on := 3, ground := Go.Ground.data }, { on := 5, ground := Go.Ground.data }, { on := 7, ground := Go.Ground.data }], guard := none }
def ceq15r9_9 : Oper := { dst := some 54, op := Go.Op.fieldAddr 34 (Go.Operand.tmp 6) 0, type := 0, pos := "equals.go:20", after := #[], guard := none }
def ceq15r9_10 : Oper := { dst := some 55, op := Go.Op.load 4 (Go.Operand.tmp 54), type := 4, pos := "equals.go:20", after := #[{ on := 9, ground := Go.Ground.data }], guard := none }
def ceq15r9_11 : Oper := { dst := some 56, op := Go.Op.move (Go.Operand.tmp 55), type := 4, pos := "equals.go:20", after := #[{ on := 10, ground := Go.Ground.data }, { on := 8, ground := Go.Ground.chain }], guard := none }
def ceq15r9_12 : Oper := { dst := some 57, op := Go.Op.fieldAddr 34 (Go.Operand.tmp 7) 0, type := 0, pos := "equals.go:20", after := #[{ on := 11, ground := Go.Ground.guard }], guard := some (11, true) }
def ceq15r9_13 : Oper := { dst := some 58, op := Go.Op.load 4 (Go.Operand.tmp 57), type := 4, pos := "equals.go:20", after := #[{ on := 12, ground := Go.Ground.data }, { on := 11, ground := Go.Ground.guard }], guard := some (11, true) }
def ceq15r9_14 : Oper := { dst := some 59, op := Go.Op.pick (Go.Operand.tmp 56) (Go.Operand.tmp 58) (Go.Operand.const (Go.Value.bool false)), type := 4, pos := "equals.go:20", after := #[{ on := 11, ground := Go.Ground.data }, { on := 13, ground := Go.Ground.data }], guard := none }
def ceq15r9_15 : Oper := { dst := some 60, op := Go.Op.move (Go.Operand.tmp 59), type := 4, pos := "equals.go:20", after := #[{ on := 14, ground := Go.Ground.data }, { on := 11, ground := Go.Ground.chain }], guard := none }
def ceq15r9_16 : Oper := { dst := some 61, op := Go.Op.fieldAddr 34 (Go.Operand.tmp 6) 4, type := 0, pos := "equals.go:20", after := #[{ on := 15, ground := Go.Ground.guard }], guard := some (15, true) }
def ceq15r9_17 : Oper := { dst := some 62, op := Go.Op.load 3 (Go.Operand.tmp 61), type := 3, pos := "equals.go:20", after := #[{ on := 16, ground := Go.Ground.data }, { on := 15, ground := Go.Ground.guard }], guard := some (15, true) }
def ceq15r9_18 : Oper := { dst := some 63, op := Go.Op.fieldAddr 34 (Go.Operand.tmp 7) 4, type := 0, pos := "equals.go:20", after := #[{ on := 15, ground := Go.Ground.guard }], guard := some (15, true) }
def ceq15r9_19 : Oper := { dst := some 64, op := Go.Op.load 3 (Go.Operand.tmp 63), type := 3, pos := "equals.go:20", after := #[{ on := 18, ground := Go.Ground.data }, { on := 15, ground := Go.Ground.guard }], guard := some (15, true) }
def ceq15r9_20 : Oper := { dst := some 65, op := Go.Op.binOp Go.BinOp.eql 3 (Go.Operand.tmp 62) (Go.Operand.tmp 64) 3, type := 4, pos := "equals.go:20", after := #[{ on := 17, ground := Go.Ground.data }, { on := 19, ground := Go.Ground.data }, { on := 15, ground := Go.Ground.guard }], guard := some (15, true) }
def ceq15r9_21 : Oper := { dst := some 66, op := Go.Op.pick (Go.Operand.tmp 60) (Go.Operand.tmp 65) (Go.Operand.const (Go.Value.bool false)), type := 4, pos := "equals.go:20", after := #[{ on := 15, ground := Go.Ground.data }, { on := 20, ground := Go.Ground.data }], guard := none }
def ceq15r9_22 : Oper := { dst := some 67, op := Go.Op.move (Go.Operand.tmp 66), type := 4, pos := "equals.go:20", after := #[{ on := 21, ground := Go.Ground.data }, { on := 15, ground := Go.Ground.chain }], guard := none }
def ceq15r9_23 : Oper := { dst := some 68, op := Go.Op.fieldAddr 34 (Go.Operand.tmp 6) 2, type := 0, pos := "equals.go:20", after := #[{ on := 22, ground := Go.Ground.guard }], guard := some (22, true) }
def ceq15r9_24 : Oper := { dst := some 69, op := Go.Op.load 32 (Go.Operand.tmp 68), type := 32, pos := "equals.go:20", after := #[{ on := 23, ground := Go.Ground.data }, { on := 22, ground := Go.Ground.guard }], guard := some (22, true) }
def ceq15r9_25 : Oper := { dst := some 70, op := Go.Op.fieldAddr 34 (Go.Operand.tmp 7) 1, type := 0, pos := "equals.go:20", after := #[{ on := 22, ground := Go.Ground.guard }], guard := some (22, true) }
def ceq15r9_26 : Oper := { dst := some 71, op := Go.Op.load 32 (Go.Operand.tmp 70), type := 32, pos := "equals.go:20", after := #[{ on := 25, ground := Go.Ground.data }, { on := 22, ground := Go.Ground.guard }], guard := some (22, true) }
def ceq15r9_27 : Oper := { dst := some 72, op := Go.Op.call { callee := Go.Callee.value (Go.Operand.func 45), args := #[Go.Operand.tmp 69, Go.Operand.tmp 71], argTypes := #[32, 32] }, type := 4, pos := "equals.go:20", after := #[{ on := 24, ground := Go.Ground.data }, { on := 26, ground := Go.Ground.data }, { on := 22, ground := Go.Ground.chain }, { on := 22, ground := Go.Ground.guard }], guard := some (22, true) }
def ceq15r9_28 : Oper := { dst := some 73, op := Go.Op.pick (Go.Operand.tmp 67) (Go.Operand.tmp 72) (Go.Operand.const (Go.Value.bool false)), type := 4, pos := "equals.go:20", after := #[{ on := 22, ground := Go.Ground.data }, { on := 27, ground := Go.Ground.data }], guard := none }
def ceq15r9_29 : Oper := { dst := some 74, op := Go.Op.move (Go.Operand.tmp 73), type := 4, pos := "equals.go:20", after := #[{ on := 28, ground := Go.Ground.data }, { on := 27, ground := Go.Ground.chain }], guard := none }
def ceq15r9_30 : Oper := { dst := some 75, op := Go.Op.fieldAddr 34 (Go.Operand.tmp 6) 3, type := 0, pos := "equals.go:20", after := #[{ on := 29, ground := Go.Ground.guard }], guard := some (29, true) }
def ceq15r9_31 : Oper := { dst := some 76, op := Go.Op.load 32 (Go.Operand.tmp 75), type := 32, pos := "equals.go:20", after := #[{ on := 30, ground := Go.Ground.data }, { on := 29, ground := Go.Ground.guard }], guard := some (29, true) }
def ceq15r9_32 : Oper := { dst := some 77, op := Go.Op.fieldAddr 34 (Go.Operand.tmp 7) 3, type := 0, pos := "equals.go:20", after := #[{ on := 29, ground := Go.Ground.guard }], guard := some (29, true) }
def ceq15r9_33 : Oper := { dst := some 78, op := Go.Op.load 32 (Go.Operand.tmp 77), type := 32, pos := "equals.go:20", after := #[{ on := 32, ground := Go.Ground.data }, { on := 29, ground := Go.Ground.guard }], guard := some (29, true) }
def ceq15r9_34 : Oper := { dst := some 79, op := Go.Op.call { callee := Go.Callee.value (Go.Operand.func 45), args := #[Go.Operand.tmp 76, Go.Operand.tmp 78], argTypes := #[32, 32] }, type := 4, pos := "equals.go:20", after := #[{ on := 31, ground := Go.Ground.data }, { on := 33, ground := Go.Ground.data }, { on := 29, ground := Go.Ground.chain }, { on := 29, ground := Go.Ground.guard }], guard := some (29, true) }
def ceq15r9_35 : Oper := { dst := some 80, op := Go.Op.pick (Go.Operand.tmp 74) (Go.Operand.tmp 79) (Go.Operand.const (Go.Value.bool false)), type := 4, pos := "equals.go:20", after := #[{ on := 29, ground := Go.Ground.data }, { on := 34, ground := Go.Ground.data }, { on := 36, ground := Go.Ground.gcOnly Go.Departure.lateStores }], guard := none }
def ceq15r9_36 : Oper := { dst := none, op := Go.Op.store 34 (Go.Operand.tmp 4) (Go.Operand.tmp 53), type := 0, pos := "equals.go:20", after := #[{ on := 8, ground := Go.Ground.data }, { on := 34, ground := Go.Ground.chain }, { on := 0, ground := Go.Ground.phase }, { on := 1, ground := Go.Ground.phase }, { on := 2, ground := Go.Ground.phase }, { on := 3, ground := Go.Ground.phase }, { on := 4, ground := Go.Ground.phase }, { on := 5, ground := Go.Ground.phase }, { on := 6, ground := Go.Ground.phase }, { on := 7, ground := Go.Ground.phase }, { on := 8, ground := Go.Ground.phase }, { on := 9, ground := Go.Ground.textOnly Go.Departure.lateStores }, { on := 10, ground := Go.Ground.textOnly Go.Departure.lateStores }, { on := 11, ground := Go.Ground.textOnly Go.Departure.lateStores }, { on := 12, ground := Go.Ground.textOnly Go.Departure.lateStores }, { on := 13, ground := Go.Ground.textOnly Go.Departure.lateStores }, { on := 14, ground := Go.Ground.textOnly Go.Departure.lateStores }, { on := 15, ground := Go.Ground.textOnly Go.Departure.lateStores }, { on := 16, ground := Go.Ground.textOnly Go.Departure.lateStores }, { on := 17, ground := Go.Ground.textOnly Go.Departure.lateStores }, { on := 18, ground := Go.Ground.textOnly Go.Departure.lateStores }, { on := 19, ground := Go.Ground.textOnly Go.Departure.lateStores }, { on := 20, ground := Go.Ground.textOnly Go.Departure.lateStores }, { on := 21, ground := Go.Ground.textOnly Go.Departure.lateStores }, { on := 22, ground := Go.Ground.textOnly Go.Departure.lateStores }, { on := 23, ground := Go.Ground.textOnly Go.Departure.lateStores }, { on := 24, ground := Go.Ground.textOnly Go.Departure.lateStores }, { on := 25, ground := Go.Ground.textOnly Go.Departure.lateStores }, { on := 26, ground := Go.Ground.textOnly Go.Departure.lateStores }, { on := 27, ground := Go.Ground.textOnly Go.Departure.lateStoresUnsure }, { on := 28, ground := Go.Ground.textOnly Go.Departure.lateStores }, { on := 29, ground := Go.Ground.textOnly Go.Departure.lateStores }, { on := 30, ground := Go.Ground.textOnly Go.Departure.lateStores }, { on := 31, ground := Go.Ground.textOnly Go.Departure.lateStores }, { on := 32, ground := Go.Ground.textOnly Go.Departure.lateStores }, { on := 33, ground := Go.Ground.textOnly Go.Departure.lateStores }, { on := 34, ground := Go.Ground.textOnly Go.Departure.lateStoresUnsure }, { on := 35, ground := Go.Ground.textOnly Go.Departure.lateStores }], guard := none }
def ceq15r9_37 : Oper := { dst := some 5, op := Go.Op.assign (Go.Operand.tmp 80), type := 4, pos := "equals.go:20", after := #[{ on := 35, ground := Go.Ground.data }, { on := 36, ground := Go.Ground.chain }, { on := 0, ground := Go.Ground.phase }, { on := 1, ground := Go.Ground.phase }, { on := 2, ground := Go.Ground.phase }, { on := 3, ground := Go.Ground.phase }, { on := 4, ground := Go.Ground.phase }, { on := 5, ground := Go.Ground.phase }, { on := 6, ground := Go.Ground.phase }, { on := 7, ground := Go.Ground.phase }, { on := 8, ground := Go.Ground.phase }, { on := 9, ground := Go.Ground.phase }, { on := 10, ground := Go.Ground.phase }, { on := 11, ground := Go.Ground.phase }, { on := 12, ground := Go.Ground.phase }, { on := 13, ground := Go.Ground.phase }, { on := 14, ground := Go.Ground.phase }, { on := 15, ground := Go.Ground.phase }, { on := 16, ground := Go.Ground.phase }, { on := 17, ground := Go.Ground.phase }, { on := 18, ground := Go.Ground.phase }, { on := 19, ground := Go.Ground.phase }, { on := 20, ground := Go.Ground.phase }, { on := 21, ground := Go.Ground.phase }, { on := 22, ground := Go.Ground.phase }, { on := 23, ground := Go.Ground.phase }, { on := 24, ground := Go.Ground.phase }, { on := 25, ground := Go.Ground.phase }, { on := 26, ground := Go.Ground.phase }, { on := 27, ground := Go.Ground.phase }, { on := 28, ground := Go.Ground.phase }, { on := 29, ground := Go.Ground.phase }, { on := 30, ground := Go.Ground.phase }, { on := 31, ground := Go.Ground.phase }, { on := 32, ground := Go.Ground.phase }, { on := 33, ground := Go.Ground.phase }, { on := 34, ground := Go.Ground.phase }, { on := 35, ground := Go.Ground.phase }, { on := 36, ground := Go.Ground.phase }], guard := none }
set_option maxRecDepth 20000 in
set_option maxHeartbeats 4000000 in
theorem ceq15_any (i : Int) (u : Tm) (v : Tm) (x : Tm) (P : Nat → Prop) (w : World) (b0 : Nat) (su : Value) (sv : Value) (sx : Value) (su2 : Value) (sv2 : Value) (sx2 : Value) (hfu : u.fine) (hlu : LiesQ w P u.kids su) (hfv : v.fine) (hlv : LiesQ w P v.kids sv) (hfx : x.fine) (hlx : LiesQ w P x.kids sx) (hri : I64 i) (hlu2 : LiesQ w P v.kids su2) (hlv2 : LiesQ w P u.kids sv2) (hlx2 : LiesQ w P x.kids sx2) (hb0 : w.heap[b0]? = some (.cells #[.bool true, .int .i64 u.k, .int .i64 u.i, .int .i64 u.j, .int .i64 u.n, su, .int .i64 v.k, .int .i64 v.i, .int .i64 v.j, .int .i64 v.n, sv, .int .i64 x.k, .int .i64 x.i, .int .i64 x.j, .int .i64 x.n, sx, .int .i64 i, .bool true, .int .i64 v.k, .int .i64 v.i, .int .i64 v.j, .int .i64 v.n, su2, .int .i64 u.k, .int .i64 u.i, .int .i64 u.j, .int .i64 u.n, sv2, .int .i64 x.k, .int .i64 x.i, .int .i64 x.j, .int .i64 x.n, sx2, .int .i64 i] 34 (0, 0))) : Calls Try.prog 65 #[.int .i64 15, .slice (some ⟨b0, 0, none⟩) 2 2] w (GivesJT P ⟨true, u, u, x, i⟩ true w) := by
  have Gu := Lib.hid hfu
  clear hfu
  obtain ⟨au, cu, Su, rfl, -⟩ := hlu.out
  have Gv := Lib.hid hfv
  clear hfv
  obtain ⟨av, cv, Sv, rfl, -⟩ := hlv.out
  have Gx := Lib.hid hfx
  clear hfx
  obtain ⟨ax, cx, Sx, rfl, -⟩ := hlx.out
  have Ri := Lib.hid hri
  clear hri
  obtain ⟨au2, cu2, Su2, rfl, -⟩ := hlu2.out
  obtain ⟨av2, cv2, Sv2, rfl, -⟩ := hlv2.out
  obtain ⟨ax2, cx2, Sx2, rfl, -⟩ := hlx2.out
  have HB0 := Lib.hid hb0
  clear hb0
  obtain ⟨dj, dj1, dj2⟩ := under_of 34 (by kernel_rfl)
  obtain ⟨du, hu1, hu2⟩ := under_term
  go_enter Try.func65, Try.ntmps65
  go_upto_region 1 with fail
  refine at_code (fun V0 hV0 => ?_)
  obtain ⟨k2, x1, z3⟩ := alloc1 hV0
  have Kk4 := Lib.hid k2
  clear k2
  have Hx1 := Lib.hid x1
  have Z0 := Lib.hid z3
  clear z3 x1 hV0
  have HLu : Hid (LiesQ V0 (Par w V0.heap.size [] P) u.kids _) := (par_in _ _ hlu).later Kk4.out
  clear hlu
  have HLv : Hid (LiesQ V0 (Par w V0.heap.size [] P) v.kids _) := (par_in _ _ hlv).later Kk4.out
  clear hlv
  have HLx : Hid (LiesQ V0 (Par w V0.heap.size [] P) x.kids _) := (par_in _ _ hlx).later Kk4.out
  clear hlx
  have HLu2 : Hid (LiesQ V0 (Par w V0.heap.size [] P) v.kids _) := (par_in _ _ hlu2).later Kk4.out
  clear hlu2
  have HLv2 : Hid (LiesQ V0 (Par w V0.heap.size [] P) u.kids _) := (par_in _ _ hlv2).later Kk4.out
  clear hlv2
  have HLx2 : Hid (LiesQ V0 (Par w V0.heap.size [] P) x.kids _) := (par_in _ _ hlx2).later Kk4.out
  clear hlx2
  have kvV0 : Sees V0 (w.heap.size) V0 := sees_kept _ (kept_refl _)
  go_wp2_with (refine stop_load 34 (.tmp 10) rfl ?_)
  intro _
  refine wpList_load_part (b0) (0) 34 (.tmp 10) #[.bool true, .int .i64 u.k, .int .i64 u.i, .int .i64 u.j, .int .i64 u.n, (.slice au u.kids.length cu), .int .i64 v.k, .int .i64 v.i, .int .i64 v.j, .int .i64 v.n, (.slice av v.kids.length cv), .int .i64 x.k, .int .i64 x.i, .int .i64 x.j, .int .i64 x.n, (.slice ax x.kids.length cx), .int .i64 i] dj (blk_at HB0.out Kk4.out) (by rfl) rfl (by rfl) (by rfl) dj1 (by cases dj <;> first | rfl | exact dj2) (by kernel_rfl) ?_
  go_wp2_with (refine stop_store 34 (.tmp 6) (.tmp 11) rfl ?_)
  intro _
  refine wpList_store_part_n (by rfl) 34 (.tmp 6) (.tmp 11) rfl (V0.heap.size) 0 #[.bool true, .int .i64 u.k, .int .i64 u.i, .int .i64 u.j, .int .i64 u.n, (.slice au u.kids.length cu), .int .i64 v.k, .int .i64 v.i, .int .i64 v.j, .int .i64 v.n, (.slice av v.kids.length cv), .int .i64 x.k, .int .i64 x.i, .int .i64 x.j, .int .i64 x.n, (.slice ax x.kids.length cx), .int .i64 i] (by rfl) (by rfl) 34 (by kernel_rfl) (row_ok rfl) ?_
  intro W5 hW5
  clear kvV0
  obtain ⟨k8, x7, z9⟩ := alloc1 hW5
  have Kk10 := Lib.hid k8
  clear k8
  have Hx7 := Lib.hid x7
  have Hz9 := Lib.hid z9
  clear x7 z9 hW5
  have HG11 : Hid (V0.heap.size ≤ V0.heap.size) := (Nat.le_refl _)
  have XL12 : Hid (XLt (V0.heap.size :: []) W5) := (xlt_more (xlt_nil _) Kk10.out (by have := Hz9.out; omega))
  refine ⟨_, #[.bool true, .int .i64 u.k, .int .i64 u.i, .int .i64 u.j, .int .i64 u.n, (.slice au u.kids.length cu), .int .i64 v.k, .int .i64 v.i, .int .i64 v.j, .int .i64 v.n, (.slice av v.kids.length cv), .int .i64 x.k, .int .i64 x.i, .int .i64 x.j, .int .i64 x.n, (.slice ax x.kids.length cx), .int .i64 i], Hx7.out, rfl, Nat.le_of_ble_eq_true rfl, ?_⟩
  intro W6 hW6
  have KB13 := Lib.hid (kept_set (kept_trans Kk4.out Kk10.out) hW6 (by have := HG11.out; have := Z0.out; omega))
  have KB14 := Lib.hid (kept_set Kk10.out hW6 HG11.out)
  have HL15 : Hid (LiesQ W6 (Par w V0.heap.size (V0.heap.size :: []) P) u.kids _) := par_set (par_grow HLu.out Kk10.out (List.forall_mem_cons.2 ⟨(Or.inr (Nat.le_refl V0.heap.size)), (fun _ h => nomatch h)⟩)) hW6 (List.mem_cons_self ..) (by have := HG11.out; have := Z0.out; omega)
  have HL16 : Hid (LiesQ W6 (Par w V0.heap.size (V0.heap.size :: []) P) v.kids _) := par_set (par_grow HLv.out Kk10.out (List.forall_mem_cons.2 ⟨(Or.inr (Nat.le_refl V0.heap.size)), (fun _ h => nomatch h)⟩)) hW6 (List.mem_cons_self ..) (by have := HG11.out; have := Z0.out; omega)
  have HL17 : Hid (LiesQ W6 (Par w V0.heap.size (V0.heap.size :: []) P) x.kids _) := par_set (par_grow HLx.out Kk10.out (List.forall_mem_cons.2 ⟨(Or.inr (Nat.le_refl V0.heap.size)), (fun _ h => nomatch h)⟩)) hW6 (List.mem_cons_self ..) (by have := HG11.out; have := Z0.out; omega)
  have HL18 : Hid (LiesQ W6 (Par w V0.heap.size (V0.heap.size :: []) P) v.kids _) := par_set (par_grow HLu2.out Kk10.out (List.forall_mem_cons.2 ⟨(Or.inr (Nat.le_refl V0.heap.size)), (fun _ h => nomatch h)⟩)) hW6 (List.mem_cons_self ..) (by have := HG11.out; have := Z0.out; omega)
  have HL19 : Hid (LiesQ W6 (Par w V0.heap.size (V0.heap.size :: []) P) u.kids _) := par_set (par_grow HLv2.out Kk10.out (List.forall_mem_cons.2 ⟨(Or.inr (Nat.le_refl V0.heap.size)), (fun _ h => nomatch h)⟩)) hW6 (List.mem_cons_self ..) (by have := HG11.out; have := Z0.out; omega)
  have HL20 : Hid (LiesQ W6 (Par w V0.heap.size (V0.heap.size :: []) P) x.kids _) := par_set (par_grow HLx2.out Kk10.out (List.forall_mem_cons.2 ⟨(Or.inr (Nat.le_refl V0.heap.size)), (fun _ h => nomatch h)⟩)) hW6 (List.mem_cons_self ..) (by have := HG11.out; have := Z0.out; omega)
  have XL21 := Lib.hid (xlt_set XL12.out hW6)
  have HX22 := Lib.hid (blk_same Hx7.out hW6)
  clear hW6
  have ld23 := part_cell (r := (w.heap.size)) HX22.out (by have := HG11.out; have := Z0.out; omega) 0 (.bool true) rfl
  have ld24 := part_cell (r := (w.heap.size)) HX22.out (by have := HG11.out; have := Z0.out; omega) 15 ((.slice ax x.kids.length cx)) rfl
  have ld25 := part_cell (r := (w.heap.size)) HX22.out (by have := HG11.out; have := Z0.out; omega) 16 (.int .i64 i) rfl
  have kvV0 : Sees V0 (w.heap.size) W6 := sees_kept _ KB14.out
  have kvW6 : Sees W6 (w.heap.size) W6 := sees_kept _ (kept_refl _)
  go_wp2_with (refine stop_load 34 (.tmp 43) rfl ?_)
  intro _
  refine wpList_load_part (b0) (17) 34 (.tmp 43) #[.bool true, .int .i64 v.k, .int .i64 v.i, .int .i64 v.j, .int .i64 v.n, (.slice au2 v.kids.length cu2), .int .i64 u.k, .int .i64 u.i, .int .i64 u.j, .int .i64 u.n, (.slice av2 u.kids.length cv2), .int .i64 x.k, .int .i64 x.i, .int .i64 x.j, .int .i64 x.n, (.slice ax2 x.kids.length cx2), .int .i64 i] dj (blk_at HB0.out KB13.out) (by rfl) rfl (by rfl) (by rfl) dj1 (by cases dj <;> first | rfl | exact dj2) (by kernel_rfl) ?_
  go_wp2_with (refine stop_store 34 (.tmp 7) (.tmp 44) rfl ?_)
  intro _
  refine wpList_store_part_n (by rfl) 34 (.tmp 7) (.tmp 44) rfl (W6.heap.size) 0 #[.bool true, .int .i64 v.k, .int .i64 v.i, .int .i64 v.j, .int .i64 v.n, (.slice au2 v.kids.length cu2), .int .i64 u.k, .int .i64 u.i, .int .i64 u.j, .int .i64 u.n, (.slice av2 u.kids.length cv2), .int .i64 x.k, .int .i64 x.i, .int .i64 x.j, .int .i64 x.n, (.slice ax2 x.kids.length cx2), .int .i64 i] (by rfl) (by rfl) 34 (by kernel_rfl) (row_ok rfl) ?_
  intro W26 hW26
  clear kvV0
  clear kvW6
  obtain ⟨k29, x28, z30⟩ := alloc1 hW26
  have Kk31 := Lib.hid k29
  clear k29
  have Hx28 := Lib.hid x28
  have Hz30 := Lib.hid z30
  clear x28 z30 hW26
  have HG32 : Hid (V0.heap.size ≤ W6.heap.size) := (Below.size KB14.out)
  have AP33 : Hid (V0.heap.size < W6.heap.size) := block_lt HX22.out
  have XL34 : Hid (XLt (W6.heap.size :: (V0.heap.size :: [])) W26) := (xlt_more XL21.out Kk31.out (by have := Hz30.out; omega))
  refine ⟨_, #[.bool true, .int .i64 v.k, .int .i64 v.i, .int .i64 v.j, .int .i64 v.n, (.slice au2 v.kids.length cu2), .int .i64 u.k, .int .i64 u.i, .int .i64 u.j, .int .i64 u.n, (.slice av2 u.kids.length cv2), .int .i64 x.k, .int .i64 x.i, .int .i64 x.j, .int .i64 x.n, (.slice ax2 x.kids.length cx2), .int .i64 i], Hx28.out, rfl, Nat.le_of_ble_eq_true rfl, ?_⟩
  intro W27 hW27
  have KB35 := Lib.hid (kept_set (kept_trans KB13.out Kk31.out) hW27 (by have := HG32.out; have := Z0.out; omega))
  have KB36 := Lib.hid (kept_set (kept_trans KB14.out Kk31.out) hW27 HG32.out)
  have HL37 : Hid (LiesQ W27 (Par w V0.heap.size (W6.heap.size :: (V0.heap.size :: [])) P) u.kids _) := par_set (par_grow HL15.out Kk31.out (List.forall_mem_cons.2 ⟨(Or.inr (Nat.le_refl W6.heap.size)), (List.forall_mem_cons.2 ⟨(Or.inl (List.mem_cons_self ..)), (fun _ h => nomatch h)⟩)⟩)) hW27 (List.mem_cons_self ..) (by have := HG32.out; have := Z0.out; omega)
  have HL38 : Hid (LiesQ W27 (Par w V0.heap.size (W6.heap.size :: (V0.heap.size :: [])) P) v.kids _) := par_set (par_grow HL16.out Kk31.out (List.forall_mem_cons.2 ⟨(Or.inr (Nat.le_refl W6.heap.size)), (List.forall_mem_cons.2 ⟨(Or.inl (List.mem_cons_self ..)), (fun _ h => nomatch h)⟩)⟩)) hW27 (List.mem_cons_self ..) (by have := HG32.out; have := Z0.out; omega)
  have HL39 : Hid (LiesQ W27 (Par w V0.heap.size (W6.heap.size :: (V0.heap.size :: [])) P) x.kids _) := par_set (par_grow HL17.out Kk31.out (List.forall_mem_cons.2 ⟨(Or.inr (Nat.le_refl W6.heap.size)), (List.forall_mem_cons.2 ⟨(Or.inl (List.mem_cons_self ..)), (fun _ h => nomatch h)⟩)⟩)) hW27 (List.mem_cons_self ..) (by have := HG32.out; have := Z0.out; omega)
  have HL40 : Hid (LiesQ W27 (Par w V0.heap.size (W6.heap.size :: (V0.heap.size :: [])) P) v.kids _) := par_set (par_grow HL18.out Kk31.out (List.forall_mem_cons.2 ⟨(Or.inr (Nat.le_refl W6.heap.size)), (List.forall_mem_cons.2 ⟨(Or.inl (List.mem_cons_self ..)), (fun _ h => nomatch h)⟩)⟩)) hW27 (List.mem_cons_self ..) (by have := HG32.out; have := Z0.out; omega)
  have HL41 : Hid (LiesQ W27 (Par w V0.heap.size (W6.heap.size :: (V0.heap.size :: [])) P) u.kids _) := par_set (par_grow HL19.out Kk31.out (List.forall_mem_cons.2 ⟨(Or.inr (Nat.le_refl W6.heap.size)), (List.forall_mem_cons.2 ⟨(Or.inl (List.mem_cons_self ..)), (fun _ h => nomatch h)⟩)⟩)) hW27 (List.mem_cons_self ..) (by have := HG32.out; have := Z0.out; omega)
  have HL42 : Hid (LiesQ W27 (Par w V0.heap.size (W6.heap.size :: (V0.heap.size :: [])) P) x.kids _) := par_set (par_grow HL20.out Kk31.out (List.forall_mem_cons.2 ⟨(Or.inr (Nat.le_refl W6.heap.size)), (List.forall_mem_cons.2 ⟨(Or.inl (List.mem_cons_self ..)), (fun _ h => nomatch h)⟩)⟩)) hW27 (List.mem_cons_self ..) (by have := HG32.out; have := Z0.out; omega)
  have XL43 := Lib.hid (xlt_set XL34.out hW27)
  have HX44 := Lib.hid (blk_other (blk_at HX22.out Kk31.out) hW27 (by have := AP33.out; omega))
  have HX45 := Lib.hid (blk_same Hx28.out hW27)
  (try clear ld23)
  (try clear ld24)
  (try clear ld25)
  clear hW27
  have ld46 := part_cell (r := (w.heap.size)) HX44.out (by have := HG11.out; have := Z0.out; omega) 0 (.bool true) rfl
  have ld47 := part_cell (r := (w.heap.size)) HX44.out (by have := HG11.out; have := Z0.out; omega) 15 ((.slice ax x.kids.length cx)) rfl
  have ld48 := part_cell (r := (w.heap.size)) HX44.out (by have := HG11.out; have := Z0.out; omega) 16 (.int .i64 i) rfl
  have ld49 := part_cell (r := (w.heap.size)) HX45.out (by have := HG32.out; have := Z0.out; omega) 0 (.bool true) rfl
  have ld50 := part_cell (r := (w.heap.size)) HX45.out (by have := HG32.out; have := Z0.out; omega) 16 (.int .i64 i) rfl
  have kvV0 : Sees V0 (w.heap.size) W27 := sees_kept _ KB36.out
  have kvW27 : Sees W27 (w.heap.size) W27 := sees_kept _ (kept_refl _)
  go_wp2_with fail
  clear kvV0
  clear kvW27
  obtain ⟨W51, h52⟩ : ∃ x, World.drew W27 = x := ⟨_, rfl⟩
  have k53 : Kept W27 W51 := by rw [← h52]; exact kept_drew (kept_refl _)
  have Kk54 := Lib.hid k53
  clear k53
  refine wp_region_held_drew (S := Sees W51 (w.heap.size)) (by kernel_rfl) ?_ (fun hHeld => ?_)
  · (try dsimp only)
    rw [h52]
    exact sees_kept _ (kept_refl _)
  rw [h52] at hHeld ⊢
  clear h52
  refine take_at 0 45 ceq15r9_0 (v := ?_) (Or.inl ⟨by rfl, ?_⟩) ?_
  rotate_left 1
  · ((intro w hSw; (try dsimp only at hSw); unfold ceq15r9_0; go_simp) <;> with_reducible rfl)
  (try simp only [Act.put, List.setIfInBounds_toArray, List.set_cons_zero, List.set_cons_succ])
  refine take_at 1 46 ceq15r9_1 (yields_part (V0.heap.size) (1) 32 (.tmp 45) #[.int .i64 u.k, .int .i64 u.i, .int .i64 u.j, .int .i64 u.n, (.slice au u.kids.length cu)] du (fun _ h => sees_blk HX44.out (by have := HG11.out; have := Z0.out; omega) (sees_of Kk54.out h)) (by rfl) rfl (by rfl) (by rfl) hu1 (by cases du <;> first | rfl | exact hu2) size_term) ?_
  (try simp only [Act.put, List.setIfInBounds_toArray, List.set_cons_zero, List.set_cons_succ])
  refine take_at 2 47 ceq15r9_2 (v := ?_) (Or.inl ⟨by rfl, ?_⟩) ?_
  rotate_left 1
  · ((intro w hSw; (try dsimp only at hSw); unfold ceq15r9_2; go_simp) <;> with_reducible rfl)
  (try simp only [Act.put, List.setIfInBounds_toArray, List.set_cons_zero, List.set_cons_succ])
  refine take_at 3 48 ceq15r9_3 (yields_part (W6.heap.size) (6) 32 (.tmp 47) #[.int .i64 u.k, .int .i64 u.i, .int .i64 u.j, .int .i64 u.n, (.slice av2 u.kids.length cv2)] du (fun _ h => sees_blk HX45.out (by have := HG32.out; have := Z0.out; omega) (sees_of Kk54.out h)) (by rfl) rfl (by rfl) (by rfl) hu1 (by cases du <;> first | rfl | exact hu2) size_term) ?_
  (try simp only [Act.put, List.setIfInBounds_toArray, List.set_cons_zero, List.set_cons_succ])
  refine take_at 4 49 ceq15r9_4 (v := ?_) (Or.inl ⟨by rfl, ?_⟩) ?_
  rotate_left 1
  · ((intro w hSw; (try dsimp only at hSw); unfold ceq15r9_4; go_simp) <;> with_reducible rfl)
  (try simp only [Act.put, List.setIfInBounds_toArray, List.set_cons_zero, List.set_cons_succ])
  refine take_at 5 50 ceq15r9_5 (yields_part (V0.heap.size) (11) 32 (.tmp 49) #[.int .i64 x.k, .int .i64 x.i, .int .i64 x.j, .int .i64 x.n, (.slice ax x.kids.length cx)] du (fun _ h => sees_blk HX44.out (by have := HG11.out; have := Z0.out; omega) (sees_of Kk54.out h)) (by rfl) rfl (by rfl) (by rfl) hu1 (by cases du <;> first | rfl | exact hu2) size_term) ?_
  (try simp only [Act.put, List.setIfInBounds_toArray, List.set_cons_zero, List.set_cons_succ])
  refine take_at 6 51 ceq15r9_6 (v := ?_) (Or.inl ⟨by rfl, ?_⟩) ?_
  rotate_left 1
  · ((intro w hSw; (try dsimp only at hSw); unfold ceq15r9_6; go_simp) <;> with_reducible rfl)
  (try simp only [Act.put, List.setIfInBounds_toArray, List.set_cons_zero, List.set_cons_succ])
  refine take_at 7 52 ceq15r9_7 (v := ?_) (Or.inl ⟨by rfl, ?_⟩) ?_
  rotate_left 1
  · ((intro w hSw; (try dsimp only at hSw); have qV0 := sees_of (kept_trans KB36.out Kk54.out) hSw; have qW27 := sees_of Kk54.out hSw; unfold ceq15r9_7; go_simp) <;> with_reducible rfl)
  (try simp only [Act.put, List.setIfInBounds_toArray, List.set_cons_zero, List.set_cons_succ])
  refine take_at 9 54 ceq15r9_9 (v := ?_) (Or.inl ⟨by rfl, ?_⟩) ?_
  rotate_left 1
  · ((intro w hSw; (try dsimp only at hSw); unfold ceq15r9_9; go_simp) <;> with_reducible rfl)
  (try simp only [Act.put, List.setIfInBounds_toArray, List.set_cons_zero, List.set_cons_succ])
  refine take_at 10 55 ceq15r9_10 (v := ?_) (Or.inl ⟨by rfl, ?_⟩) ?_
  rotate_left 1
  · ((intro w hSw; (try dsimp only at hSw); have qV0 := sees_of (kept_trans KB36.out Kk54.out) hSw; have qW27 := sees_of Kk54.out hSw; unfold ceq15r9_10; go_simp) <;> with_reducible rfl)
  (try simp only [Act.put, List.setIfInBounds_toArray, List.set_cons_zero, List.set_cons_succ])
  refine wpAnyH_ready (rs := [8]) (by kernel_rfl) (by simp) ?_
  refine AllReadyH.cons (o := ceq15r9_8) rfl (fun K hK => ?_) ?_
  · unfold ceq15r9_8
    go_simp
    refine (requal_any i u u x (Par w V0.heap.size (W6.heap.size :: (V0.heap.size :: [])) P) W51 ((.slice au u.kids.length cu)) ((.slice av2 u.kids.length cv2)) ((.slice ax x.kids.length cx)) Gu.out (HL37.out.later Kk54.out) Gu.out (HL41.out.later Kk54.out) Gx.out (HL39.out.later Kk54.out) Ri.out).mono ?_
    rintro e w55 ⟨s57, s58, s59, rfl, ⟨hl60, hl61, hl62⟩, k56⟩
    obtain ⟨a63, c64, S65, rfl, -⟩ := hl60.out
    obtain ⟨a66, c67, S68, rfl, -⟩ := hl61.out
    obtain ⟨a69, c70, S71, rfl, -⟩ := hl62.out
    have Kk72 := Lib.hid k56
    clear k56
    have Hhl60 : Hid (LiesQ w55 (Par w V0.heap.size (W6.heap.size :: (V0.heap.size :: [])) P) u.kids _) := par_give hl60 (Below.size (kept_trans KB36.out Kk54.out)) (xlt_later XL43.out Kk54.out)
    have Hhl61 : Hid (LiesQ w55 (Par w V0.heap.size (W6.heap.size :: (V0.heap.size :: [])) P) u.kids _) := par_give hl61 (Below.size (kept_trans KB36.out Kk54.out)) (xlt_later XL43.out Kk54.out)
    have Hhl62 : Hid (LiesQ w55 (Par w V0.heap.size (W6.heap.size :: (V0.heap.size :: [])) P) x.kids _) := par_give hl62 (Below.size (kept_trans KB36.out Kk54.out)) (xlt_later XL43.out Kk54.out)
    clear hl60 hl61 hl62
    clear hHeld
    refine hK.out _ _ (sees_kept _ Kk72.out) (fun hHeld => ?_)
    clear hK K
    (try simp only [])
    refine take_at 11 56 ceq15r9_11 (v := ?_) (Or.inl ⟨by rfl, ?_⟩) ?_
    rotate_left 1
    · ((intro w hSw; (try dsimp only at hSw); unfold ceq15r9_11; go_simp) <;> with_reducible rfl)
    (try simp only [Act.put, List.setIfInBounds_toArray, List.set_cons_zero, List.set_cons_succ])
    refine take_at 12 57 ceq15r9_12 (v := ?_) (Or.inl ⟨by rfl, ?_⟩) ?_
    rotate_left 1
    · ((intro w hSw; (try dsimp only at hSw); unfold ceq15r9_12; go_simp) <;> with_reducible rfl)
    (try simp only [Act.put, List.setIfInBounds_toArray, List.set_cons_zero, List.set_cons_succ])
    refine take_at 13 58 ceq15r9_13 (v := ?_) (Or.inl ⟨by rfl, ?_⟩) ?_
    rotate_left 1
    · ((intro w hSw; (try dsimp only at hSw); have qV0 := sees_of (kept_trans KB36.out Kk54.out) hSw; have qW27 := sees_of Kk54.out hSw; unfold ceq15r9_13; go_simp) <;> with_reducible rfl)
    (try simp only [Act.put, List.setIfInBounds_toArray, List.set_cons_zero, List.set_cons_succ])
    refine take_at 14 59 ceq15r9_14 (v := ?_) (Or.inl ⟨by rfl, ?_⟩) ?_
    rotate_left 1
    · ((intro w hSw; (try dsimp only at hSw); unfold ceq15r9_14; go_simp) <;> with_reducible rfl)
    (try simp only [Act.put, List.setIfInBounds_toArray, List.set_cons_zero, List.set_cons_succ])
    refine take_at 15 60 ceq15r9_15 (v := ?_) (Or.inl ⟨by rfl, ?_⟩) ?_
    rotate_left 1
    · ((intro w hSw; (try dsimp only at hSw); unfold ceq15r9_15; go_simp) <;> with_reducible rfl)
    (try simp only [Act.put, List.setIfInBounds_toArray, List.set_cons_zero, List.set_cons_succ])
    refine take_at 16 61 ceq15r9_16 (v := ?_) (Or.inl ⟨by rfl, ?_⟩) ?_
    rotate_left 1
    · ((intro w hSw; (try dsimp only at hSw); unfold ceq15r9_16; go_simp) <;> with_reducible rfl)
    (try simp only [Act.put, List.setIfInBounds_toArray, List.set_cons_zero, List.set_cons_succ])
    refine take_at 17 62 ceq15r9_17 (v := ?_) (Or.inl ⟨by rfl, ?_⟩) ?_
    rotate_left 1
    · ((intro w hSw; (try dsimp only at hSw); have qV0 := sees_of (kept_trans KB36.out Kk54.out) hSw; have qW27 := sees_of Kk54.out hSw; unfold ceq15r9_17; go_simp) <;> with_reducible rfl)
    (try simp only [Act.put, List.setIfInBounds_toArray, List.set_cons_zero, List.set_cons_succ])
    refine take_at 18 63 ceq15r9_18 (v := ?_) (Or.inl ⟨by rfl, ?_⟩) ?_
    rotate_left 1
    · ((intro w hSw; (try dsimp only at hSw); unfold ceq15r9_18; go_simp) <;> with_reducible rfl)
    (try simp only [Act.put, List.setIfInBounds_toArray, List.set_cons_zero, List.set_cons_succ])
    refine take_at 19 64 ceq15r9_19 (v := ?_) (Or.inl ⟨by rfl, ?_⟩) ?_
    rotate_left 1
    · ((intro w hSw; (try dsimp only at hSw); have qV0 := sees_of (kept_trans KB36.out Kk54.out) hSw; have qW27 := sees_of Kk54.out hSw; unfold ceq15r9_19; go_simp) <;> with_reducible rfl)
    (try simp only [Act.put, List.setIfInBounds_toArray, List.set_cons_zero, List.set_cons_succ])
    refine take_at 20 65 ceq15r9_20 (v := ?_) (Or.inl ⟨by rfl, ?_⟩) ?_
    rotate_left 1
    · ((intro w hSw; (try dsimp only at hSw); unfold ceq15r9_20; go_simp) <;> with_reducible rfl)
    (try simp only [Act.put, List.setIfInBounds_toArray, List.set_cons_zero, List.set_cons_succ])
    refine take_at 21 66 ceq15r9_21 (v := ?_) (Or.inl ⟨by rfl, ?_⟩) ?_
    rotate_left 1
    · ((intro w hSw; (try dsimp only at hSw); unfold ceq15r9_21; go_simp) <;> with_reducible rfl)
    (try simp only [Act.put, List.setIfInBounds_toArray, List.set_cons_zero, List.set_cons_succ])
    refine take_at 22 67 ceq15r9_22 (v := ?_) (Or.inl ⟨by rfl, ?_⟩) ?_
    rotate_left 1
    · ((intro w hSw; (try dsimp only at hSw); unfold ceq15r9_22; go_simp) <;> with_reducible rfl)
    (try simp only [Act.put, List.setIfInBounds_toArray, List.set_cons_zero, List.set_cons_succ])
    refine take_at 23 68 ceq15r9_23 (v := ?_) (Or.inl ⟨by rfl, ?_⟩) ?_
    rotate_left 1
    · ((intro w hSw; (try dsimp only at hSw); unfold ceq15r9_23; go_simp) <;> with_reducible rfl)
    (try simp only [Act.put, List.setIfInBounds_toArray, List.set_cons_zero, List.set_cons_succ])
    refine take_at 24 69 ceq15r9_24 (yields_part (V0.heap.size) (6) 32 (.tmp 68) #[.int .i64 v.k, .int .i64 v.i, .int .i64 v.j, .int .i64 v.n, (.slice av v.kids.length cv)] du (fun _ h => sees_blk HX44.out (by have := HG11.out; have := Z0.out; omega) (sees_of Kk54.out h)) (by rfl) rfl (by rfl) (by rfl) hu1 (by cases du <;> first | rfl | exact hu2) size_term) ?_
    (try simp only [Act.put, List.setIfInBounds_toArray, List.set_cons_zero, List.set_cons_succ])
    refine take_at 25 70 ceq15r9_25 (v := ?_) (Or.inl ⟨by rfl, ?_⟩) ?_
    rotate_left 1
    · ((intro w hSw; (try dsimp only at hSw); unfold ceq15r9_25; go_simp) <;> with_reducible rfl)
    (try simp only [Act.put, List.setIfInBounds_toArray, List.set_cons_zero, List.set_cons_succ])
    refine take_at 26 71 ceq15r9_26 (yields_part (W6.heap.size) (1) 32 (.tmp 70) #[.int .i64 v.k, .int .i64 v.i, .int .i64 v.j, .int .i64 v.n, (.slice au2 v.kids.length cu2)] du (fun _ h => sees_blk HX45.out (by have := HG32.out; have := Z0.out; omega) (sees_of Kk54.out h)) (by rfl) rfl (by rfl) (by rfl) hu1 (by cases du <;> first | rfl | exact hu2) size_term) ?_
    (try simp only [Act.put, List.setIfInBounds_toArray, List.set_cons_zero, List.set_cons_succ])
    refine wpAnyH_ready (rs := [27]) (by kernel_rfl) (by simp) ?_
    refine AllReadyH.cons (o := ceq15r9_27) rfl (fun K hK => ?_) ?_
    · unfold ceq15r9_27
      go_simp
      have hq75 := same_any v v w55 ((.slice av v.kids.length cv)) ((.slice au2 v.kids.length cu2)) (HL38.out.later (kept_trans Kk54.out Kk72.out)).lies (HL40.out.later (kept_trans Kk54.out Kk72.out)).lies
      rw [sameB_self v] at hq75
      refine hq75.mono ?_
      clear hq75
      rintro e w73 ⟨rfl, k74⟩
      have Kk76 := Lib.hid k74
      clear k74
      clear hHeld
      refine hK.out _ _ (sees_kept _ (kept_trans Kk72.out Kk76.out)) (fun hHeld => ?_)
      clear hK K
      (try simp only [Act.put, List.setIfInBounds_toArray, List.set_cons_zero, List.set_cons_succ])
      refine take_at 28 73 ceq15r9_28 (v := ?_) (Or.inl ⟨by rfl, ?_⟩) ?_
      rotate_left 1
      · ((intro w hSw; (try dsimp only at hSw); unfold ceq15r9_28; go_simp) <;> with_reducible rfl)
      (try simp only [Act.put, List.setIfInBounds_toArray, List.set_cons_zero, List.set_cons_succ])
      refine take_at 29 74 ceq15r9_29 (v := ?_) (Or.inl ⟨by rfl, ?_⟩) ?_
      rotate_left 1
      · ((intro w hSw; (try dsimp only at hSw); unfold ceq15r9_29; go_simp) <;> with_reducible rfl)
      (try simp only [Act.put, List.setIfInBounds_toArray, List.set_cons_zero, List.set_cons_succ])
      refine take_at 30 75 ceq15r9_30 (v := ?_) (Or.inl ⟨by rfl, ?_⟩) ?_
      rotate_left 1
      · ((intro w hSw; (try dsimp only at hSw); unfold ceq15r9_30; go_simp) <;> with_reducible rfl)
      (try simp only [Act.put, List.setIfInBounds_toArray, List.set_cons_zero, List.set_cons_succ])
      refine take_at 31 76 ceq15r9_31 (yields_part (V0.heap.size) (11) 32 (.tmp 75) #[.int .i64 x.k, .int .i64 x.i, .int .i64 x.j, .int .i64 x.n, (.slice ax x.kids.length cx)] du (fun _ h => sees_blk HX44.out (by have := HG11.out; have := Z0.out; omega) (sees_of Kk54.out h)) (by rfl) rfl (by rfl) (by rfl) hu1 (by cases du <;> first | rfl | exact hu2) size_term) ?_
      (try simp only [Act.put, List.setIfInBounds_toArray, List.set_cons_zero, List.set_cons_succ])
      refine take_at 32 77 ceq15r9_32 (v := ?_) (Or.inl ⟨by rfl, ?_⟩) ?_
      rotate_left 1
      · ((intro w hSw; (try dsimp only at hSw); unfold ceq15r9_32; go_simp) <;> with_reducible rfl)
      (try simp only [Act.put, List.setIfInBounds_toArray, List.set_cons_zero, List.set_cons_succ])
      refine take_at 33 78 ceq15r9_33 (yields_part (W6.heap.size) (11) 32 (.tmp 77) #[.int .i64 x.k, .int .i64 x.i, .int .i64 x.j, .int .i64 x.n, (.slice ax2 x.kids.length cx2)] du (fun _ h => sees_blk HX45.out (by have := HG32.out; have := Z0.out; omega) (sees_of Kk54.out h)) (by rfl) rfl (by rfl) (by rfl) hu1 (by cases du <;> first | rfl | exact hu2) size_term) ?_
      (try simp only [Act.put, List.setIfInBounds_toArray, List.set_cons_zero, List.set_cons_succ])
      refine wpAnyH_ready (rs := [34]) (by kernel_rfl) (by simp) ?_
      refine AllReadyH.cons (o := ceq15r9_34) rfl (fun K hK => ?_) ?_
      · unfold ceq15r9_34
        go_simp
        have hq79 := same_any x x w73 ((.slice ax x.kids.length cx)) ((.slice ax2 x.kids.length cx2)) (HL39.out.later (kept_trans Kk54.out (kept_trans Kk72.out Kk76.out))).lies (HL42.out.later (kept_trans Kk54.out (kept_trans Kk72.out Kk76.out))).lies
        rw [sameB_self x] at hq79
        refine hq79.mono ?_
        clear hq79
        rintro e w77 ⟨rfl, k78⟩
        have Kk80 := Lib.hid k78
        clear k78
        clear hHeld
        refine hK.out _ _ (sees_kept _ (kept_trans Kk72.out (kept_trans Kk76.out Kk80.out))) (fun hHeld => ?_)
        clear hK K
        (try simp only [Act.put, List.setIfInBounds_toArray, List.set_cons_zero, List.set_cons_succ])
        refine take_at 35 80 ceq15r9_35 (v := ?_) (Or.inl ⟨by rfl, ?_⟩) ?_
        rotate_left 1
        · ((intro w hSw; (try dsimp only at hSw); unfold ceq15r9_35; go_simp) <;> with_reducible rfl)
        (try simp only [Act.put, List.setIfInBounds_toArray, List.set_cons_zero, List.set_cons_succ])
        refine wpAnyH_ready (rs := [36]) (by kernel_rfl) (by simp) ?_
        refine AllReadyH.cons (o := ceq15r9_36) rfl (fun K hK => ?_) ?_
        · unfold ceq15r9_36
          refine step_store_part rfl 34 (.tmp 4) (.tmp 53) rfl (w.heap.size) 0 #[.bool true, .int .i64 u.k, .int .i64 u.i, .int .i64 u.j, .int .i64 u.n, (.slice a63 u.kids.length c64), .int .i64 u.k, .int .i64 u.i, .int .i64 u.j, .int .i64 u.n, (.slice a66 u.kids.length c67), .int .i64 x.k, .int .i64 x.i, .int .i64 x.j, .int .i64 x.n, (.slice a69 x.kids.length c70), .int .i64 i] rfl rfl 34 (by kernel_rfl) (row_ok rfl) _ #[.bool true, .int .i64 u.k, .int .i64 u.i, .int .i64 u.j, .int .i64 u.n, (.slice a63 u.kids.length c64), .int .i64 u.k, .int .i64 u.i, .int .i64 u.j, .int .i64 u.n, (.slice a66 u.kids.length c67), .int .i64 x.k, .int .i64 x.i, .int .i64 x.j, .int .i64 x.n, (.slice a69 x.kids.length c70), .int .i64 i] (blk_at Hx1.out (kept_trans KB36.out (kept_trans Kk54.out (kept_trans Kk72.out (kept_trans Kk76.out Kk80.out))))) rfl (Nat.le_of_ble_eq_true rfl) ?_
          intro W81 hW81
          clear hHeld
          refine hK.out _ _ (sees_set (kept_trans Kk72.out (kept_trans Kk76.out Kk80.out)) hW81) (fun hHeld => ?_)
          clear hK K
          (try simp only [Act.put])
          refine take_at 37 5 ceq15r9_37 (v := ?_) (Or.inl ⟨by rfl, ?_⟩) ?_
          rotate_left 1
          · ((intro w hSw; (try dsimp only at hSw); unfold ceq15r9_37; go_simp) <;> with_reducible rfl)
          (try simp only [Act.put, List.setIfInBounds_toArray, List.set_cons_zero, List.set_cons_succ])
          refine wpAnyH_done (by kernel_rfl) ?_ _
          clear hHeld
          go_wp2_with fail
          (try simp only [Exit.inBlock, Exit.then])
          refine bodyPost_ret (results_cell_tmp rfl _ _ (w.heap.size) 34 _ _ dj rfl (blk_same (blk_at Hx1.out (kept_trans KB36.out (kept_trans Kk54.out (kept_trans Kk72.out (kept_trans Kk76.out Kk80.out))))) hW81) dj1 (by cases dj <;> first | rfl | exact dj2) (by kernel_rfl)) rfl ?_
          have jz85 := Z0.out
          have jq82 := par_end (par_row' (Hhl60.out.later (kept_trans Kk76.out Kk80.out)) hW81 (by omega) (by omega)) (by omega)
          have jq83 := par_end (par_row' (Hhl61.out.later (kept_trans Kk76.out Kk80.out)) hW81 (by omega) (by omega)) (by omega)
          have jq84 := par_end (par_row' (Hhl62.out.later (kept_trans Kk76.out Kk80.out)) hW81 (by omega) (by omega)) (by omega)
          exact ⟨_, _, _, rfl, ⟨jq82, jq83, jq84⟩, kept_set (kept_trans KB35.out (kept_trans Kk54.out (kept_trans Kk72.out (kept_trans Kk76.out Kk80.out)))) hW81 (by omega)⟩
        exact AllReadyH.nil
      exact AllReadyH.nil
    exact AllReadyH.nil
  exact AllReadyH.nil

set_option maxRecDepth 20000 in
set_option maxHeartbeats 4000000 in
theorem con15_any (i : Int) (c : List En) (u : Tm) (v : Tm) (x : Tm) (P : Nat → Prop) (w : World) (sc : Value) (b0 : Nat) (su : Value) (sv : Value) (sx : Value) (su2 : Value) (sv2 : Value) (sx2 : Value) (hlc : LiesE w c sc) (hfu : u.fine) (hlu : LiesQ w P u.kids su) (hfv : v.fine) (hlv : LiesQ w P v.kids sv) (hfx : x.fine) (hlx : LiesQ w P x.kids sx) (hri : I64 i) (hlu2 : LiesQ w P v.kids su2) (hlv2 : LiesQ w P u.kids sv2) (hlx2 : LiesQ w P x.kids sx2) (hb0 : w.heap[b0]? = some (.cells #[.bool true, .int .i64 u.k, .int .i64 u.i, .int .i64 u.j, .int .i64 u.n, su, .int .i64 v.k, .int .i64 v.i, .int .i64 v.j, .int .i64 v.n, sv, .int .i64 x.k, .int .i64 x.i, .int .i64 x.j, .int .i64 x.n, sx, .int .i64 i, .bool true, .int .i64 v.k, .int .i64 v.i, .int .i64 v.j, .int .i64 v.n, su2, .int .i64 u.k, .int .i64 u.i, .int .i64 u.j, .int .i64 u.n, sv2, .int .i64 x.k, .int .i64 x.i, .int .i64 x.j, .int .i64 x.n, sx2, .int .i64 i] 34 (0, 0))) : Calls Try.prog 34 #[sc, .int .i64 15, .int .i64 0, .slice (some ⟨b0, 0, none⟩) 2 2] w (GivesJT P ⟨true, u, u, x, i⟩ true w) := by
  have HEc := Lib.hid hlc
  obtain ⟨ac, cc, Sc, rfl, -⟩ := hlc.out
  clear hlc
  have Gu := Lib.hid hfu
  clear hfu
  obtain ⟨au, cu, Su, rfl, -⟩ := hlu.out
  have Gv := Lib.hid hfv
  clear hfv
  obtain ⟨av, cv, Sv, rfl, -⟩ := hlv.out
  have Gx := Lib.hid hfx
  clear hfx
  obtain ⟨ax, cx, Sx, rfl, -⟩ := hlx.out
  have Ri := Lib.hid hri
  clear hri
  obtain ⟨au2, cu2, Su2, rfl, -⟩ := hlu2.out
  obtain ⟨av2, cv2, Sv2, rfl, -⟩ := hlv2.out
  obtain ⟨ax2, cx2, Sx2, rfl, -⟩ := hlx2.out
  have HB0 := Lib.hid hb0
  clear hb0
  obtain ⟨dj, dj1, dj2⟩ := under_of 34 (by kernel_rfl)
  obtain ⟨du, hu1, hu2⟩ := under_term
  go_enter Try.func34, Try.ntmps34
  go_upto_region 1 with fail
  refine at_code (fun V0 hV0 => ?_)
  obtain ⟨k2, x1, z3⟩ := alloc1 hV0
  have Kk4 := Lib.hid k2
  clear k2
  have Hx1 := Lib.hid x1
  have Z0 := Lib.hid z3
  clear z3 x1 hV0
  have HLu : Hid (LiesQ V0 (Par w V0.heap.size [] P) u.kids _) := (par_in _ _ hlu).later Kk4.out
  clear hlu
  have HLv : Hid (LiesQ V0 (Par w V0.heap.size [] P) v.kids _) := (par_in _ _ hlv).later Kk4.out
  clear hlv
  have HLx : Hid (LiesQ V0 (Par w V0.heap.size [] P) x.kids _) := (par_in _ _ hlx).later Kk4.out
  clear hlx
  have HLu2 : Hid (LiesQ V0 (Par w V0.heap.size [] P) v.kids _) := (par_in _ _ hlu2).later Kk4.out
  clear hlu2
  have HLv2 : Hid (LiesQ V0 (Par w V0.heap.size [] P) u.kids _) := (par_in _ _ hlv2).later Kk4.out
  clear hlv2
  have HLx2 : Hid (LiesQ V0 (Par w V0.heap.size [] P) x.kids _) := (par_in _ _ hlx2).later Kk4.out
  clear hlx2
  have kvV0 : Sees V0 (w.heap.size) V0 := sees_kept _ (kept_refl _)
  go_wp2_with fail
  clear kvV0
  refine (ceq15_any i u v x (Par w V0.heap.size [] P) V0 b0 ((.slice au u.kids.length cu)) ((.slice av v.kids.length cv)) ((.slice ax x.kids.length cx)) ((.slice au2 v.kids.length cu2)) ((.slice av2 u.kids.length cv2)) ((.slice ax2 x.kids.length cx2)) Gu.out HLu.out Gv.out HLv.out Gx.out HLx.out Ri.out HLu2.out HLv2.out HLx2.out (blk_at HB0.out Kk4.out)).mono ?_
  rintro e w5 ⟨s7, s8, s9, rfl, ⟨hl10, hl11, hl12⟩, k6⟩
  obtain ⟨a13, c14, S15, rfl, -⟩ := hl10.out
  obtain ⟨a16, c17, S18, rfl, -⟩ := hl11.out
  obtain ⟨a19, c20, S21, rfl, -⟩ := hl12.out
  have Kk22 := Lib.hid k6
  clear k6
  have Hhl10 : Hid (LiesQ w5 (Par w V0.heap.size [] P) u.kids _) := par_give hl10 (Nat.le_refl _) (xlt_nil _)
  have Hhl11 : Hid (LiesQ w5 (Par w V0.heap.size [] P) u.kids _) := par_give hl11 (Nat.le_refl _) (xlt_nil _)
  have Hhl12 : Hid (LiesQ w5 (Par w V0.heap.size [] P) x.kids _) := par_give hl12 (Nat.le_refl _) (xlt_nil _)
  clear hl10 hl11 hl12
  have kvV0 : Sees V0 (w.heap.size) w5 := sees_kept _ Kk22.out
  go_wp2_with (refine stop_store 34 (.tmp 8) (.tmp 263) rfl ?_)
  intro _
  refine wpList_store_part_n (by rfl) 34 (.tmp 8) (.tmp 263) rfl (w.heap.size) 0 #[.bool true, .int .i64 u.k, .int .i64 u.i, .int .i64 u.j, .int .i64 u.n, (.slice a13 u.kids.length c14), .int .i64 u.k, .int .i64 u.i, .int .i64 u.j, .int .i64 u.n, (.slice a16 u.kids.length c17), .int .i64 x.k, .int .i64 x.i, .int .i64 x.j, .int .i64 x.n, (.slice a19 x.kids.length c20), .int .i64 i] (by rfl) (by rfl) 34 (by kernel_rfl) (row_ok rfl) ?_
  intro W23 hW23
  clear kvV0
  subst hW23
  refine ⟨_, #[.bool true, .int .i64 u.k, .int .i64 u.i, .int .i64 u.j, .int .i64 u.n, (.slice a13 u.kids.length c14), .int .i64 u.k, .int .i64 u.i, .int .i64 u.j, .int .i64 u.n, (.slice a16 u.kids.length c17), .int .i64 x.k, .int .i64 x.i, .int .i64 x.j, .int .i64 x.n, (.slice a19 x.kids.length c20), .int .i64 i], (blk_at Hx1.out Kk22.out), rfl, Nat.le_of_ble_eq_true rfl, ?_⟩
  intro W24 hW24
  go_wp2_with fail
  (try simp only [Exit.inBlock, Exit.then])
  refine bodyPost_ret (results_cell_tmp rfl _ _ (w.heap.size) 34 _ _ dj rfl (blk_same (blk_at Hx1.out Kk22.out) hW24) dj1 (by cases dj <;> first | rfl | exact dj2) (by kernel_rfl)) rfl ?_
  have jz28 := Z0.out
  have jq25 := par_end (par_row' Hhl10.out hW24 (by omega) (by omega)) (by omega)
  have jq26 := par_end (par_row' Hhl11.out hW24 (by omega) (by omega)) (by omega)
  have jq27 := par_end (par_row' Hhl12.out hW24 (by omega) (by omega)) (by omega)
  exact ⟨_, _, _, rfl, ⟨jq25, jq26, jq27⟩, kept_set (kept_trans Kk4.out Kk22.out) hW24 (by omega)⟩

def of14Tokr15_0 : Oper := { dst := some 84, op := Go.Op.fieldAddr 34 (Go.Operand.tmp 13) 1, type := 0, pos := "rule.go:48", after := #[], guard := none }
def of14Tokr15_1 : Oper := { dst := some 85, op := Go.Op.load 32 (Go.Operand.tmp 84), type := 32, pos := "rule.go:48", after := #[{ on := 0, ground := Go.Ground.data }], guard := none }
def of14Tokr15_2 : Oper := { dst := some 86, op := Go.Op.call { callee := Go.Callee.value (Go.Operand.func 35), args := #[Go.Operand.tmp 85], argTypes := #[32] }, type := 32, pos := "rule.go:48", after := #[{ on := 1, ground := Go.Ground.data }], guard := none }
def of14Tokr15_3 : Oper := { dst := some 87, op := Go.Op.fieldAddr 34 (Go.Operand.tmp 13) 2, type := 0, pos := "rule.go:48", after := #[], guard := none }
def of14Tokr15_4 : Oper := { dst := some 88, op := Go.Op.load 32 (Go.Operand.tmp 87), type := 32, pos := "rule.go:48", after := #[{ on := 3, ground := Go.Ground.data }], guard := none }
def of14Tokr15_5 : Oper := { dst := some 89, op := Go.Op.call { callee := Go.Callee.value (Go.Operand.func 35), args := #[Go.Operand.tmp 88], argTypes := #[32] }, type := 32, pos := "rule.go:48", after := #[{ on := 4, ground := Go.Ground.data }, { on := 2, ground := Go.Ground.chain }], guard := none }
def of14Tokr15_6 : Oper := { dst := some 90, op := Go.Op.fieldAddr 34 (Go.Operand.tmp 13) 3, type := 0, pos := "rule.go:48", after := #[], guard := none }
def of14Tokr15_7 : Oper := { dst := some 91, op := Go.Op.load 32 (Go.Operand.tmp 90), type := 32, pos := "rule.go:48", after := #[{ on := 6, ground := Go.Ground.data }], guard := none }
def of14Tokr15_8 : Oper := { dst := some 92, op := Go.Op.call { callee := Go.Callee.value (Go.Operand.func 35), args := #[Go.Operand.tmp 91], argTypes := #[32] }, type := 32, pos := "rule.go:48", after := #[{ on := 7, ground := Go.Ground.data }, { on := 5, ground := Go.Ground.chain }], guard := none }
def of14Tokr15_9 : Oper := { dst := some 93, op := Go.Op.fieldAddr 34 (Go.Operand.tmp 13) 1, type := 0, pos := "rule.go:48", after := #[{ on := 0, ground := Go.Ground.phase }, { on := 1, ground := Go.Ground.phase }, { on := 2, ground := Go.Ground.phase }, { on := 3, ground := Go.Ground.phase }, { on := 4, ground := Go.Ground.phase }, { on := 5, ground := Go.Ground.textOnly Go.Departure.lateStoresUnsure }, { on := 6, ground := Go.Ground.phase }, { on := 7, ground := Go.Ground.phase }, { on := 8, ground := Go.Ground.textOnly Go.Departure.lateStoresUnsure }], guard := none }
def of14Tokr15_10 : Oper := { dst := none, op := Go.Op.store 32 (Go.Operand.tmp 93) (Go.Operand.tmp 86), type := 0, pos := "rule.go:48", after := #[{ on := 9, ground := Go.Ground.data }, { on := 2, ground := Go.Ground.data }, { on := 8, ground := Go.Ground.chain }, { on := 0, ground := Go.Ground.phase }, { on := 1, ground := Go.Ground.phase }, { on := 2, ground := Go.Ground.phase }, { on := 3, ground := Go.Ground.phase }, { on := 4, ground := Go.Ground.phase }, { on := 5, ground := Go.Ground.textOnly Go.Departure.lateStoresUnsure }, { on := 6, ground := Go.Ground.phase }, { on := 7, ground := Go.Ground.phase }, { on := 8, ground := Go.Ground.textOnly Go.Departure.lateStoresUnsure }], guard := none }
def of14Tokr15_11 : Oper := { dst := some 94, op := Go.Op.fieldAddr 34 (Go.Operand.tmp 13) 2, type := 0, pos := "rule.go:48", after := #[{ on := 0, ground := Go.Ground.phase }, { on := 1, ground := Go.Ground.phase }, { on := 2, ground := Go.Ground.phase }, { on := 3, ground := Go.Ground.phase }, { on := 4, ground := Go.Ground.phase }, { on := 5, ground := Go.Ground.phase }, { on := 6, ground := Go.Ground.phase }, { on := 7, ground := Go.Ground.phase }, { on := 8, ground := Go.Ground.textOnly Go.Departure.lateStoresUnsure }, { on := 9, ground := Go.Ground.phase }, { on := 10, ground := Go.Ground.phase }], guard := none }
def of14Tokr15_12 : Oper := { dst := none, op := Go.Op.store 32 (Go.Operand.tmp 94) (Go.Operand.tmp 89), type := 0, pos := "rule.go:48", after := #[{ on := 11, ground := Go.Ground.data }, { on := 5, ground := Go.Ground.data }, { on := 10, ground := Go.Ground.chain }, { on := 0, ground := Go.Ground.phase }, { on := 1, ground := Go.Ground.phase }, { on := 2, ground := Go.Ground.phase }, { on := 3, ground := Go.Ground.phase }, { on := 4, ground := Go.Ground.phase }, { on := 5, ground := Go.Ground.phase }, { on := 6, ground := Go.Ground.phase }, { on := 7, ground := Go.Ground.phase }, { on := 8, ground := Go.Ground.textOnly Go.Departure.lateStoresUnsure }, { on := 9, ground := Go.Ground.phase }, { on := 10, ground := Go.Ground.phase }], guard := none }
def of14Tokr15_13 : Oper := { dst := some 95, op := Go.Op.fieldAddr 34 (Go.Operand.tmp 13) 3, type := 0, pos := "rule.go:48", after := #[{ on := 0, ground := Go.Ground.phase }, { on := 1, ground := Go.Ground.phase }, { on := 2, ground := Go.Ground.phase }, { on := 3, ground := Go.Ground.phase }, { on := 4, ground := Go.Ground.phase }, { on := 5, ground := Go.Ground.phase }, { on := 6, ground := Go.Ground.phase }, { on := 7, ground := Go.Ground.phase }, { on := 8, ground := Go.Ground.phase }, { on := 9, ground := Go.Ground.phase }, { on := 10, ground := Go.Ground.phase }, { on := 11, ground := Go.Ground.phase }, { on := 12, ground := Go.Ground.phase }], guard := none }
def of14Tokr15_14 : Oper := { dst := none, op := Go.Op.store 32 (Go.Operand.tmp 95) (Go.Operand.tmp 92), type := 0, pos := "rule.go:48", after := #[{ on := 13, ground := Go.Ground.data }, { on := 8, ground := Go.Ground.data }, { on := 12, ground := Go.Ground.chain }, { on := 0, ground := Go.Ground.phase }, { on := 1, ground := Go.Ground.phase }, { on := 2, ground := Go.Ground.phase }, { on := 3, ground := Go.Ground.phase }, { on := 4, ground := Go.Ground.phase }, { on := 5, ground := Go.Ground.phase }, { on := 6, ground := Go.Ground.phase }, { on := 7, ground := Go.Ground.phase }, { on := 8, ground := Go.Ground.phase }, { on := 9, ground := Go.Ground.phase }, { on := 10, ground := Go.Ground.phase }, { on := 11, ground := Go.Ground.phase }, { on := 12, ground := Go.Ground.phase }], guard := none }
set_option maxRecDepth 20000 in
set_option maxHeartbeats 4000000 in
theorem of14Tok_any (i : Int) (c : List En) (u : Tm) (v : Tm) (x : Tm) (P : Nat → Prop) (w : World) (sc : Value) (b0 : Nat) (su : Value) (sv : Value) (sx : Value) (hlc : LiesE w c sc) (hfu : u.fine) (hlu : LiesQ w P u.kids su) (hfv : v.fine) (hlv : LiesQ w P v.kids sv) (hfx : x.fine) (hlx : LiesQ w P x.kids sx) (hri : I64 i) (hb0 : w.heap[b0]? = some (.cells #[.bool true, .int .i64 u.k, .int .i64 u.i, .int .i64 u.j, .int .i64 u.n, su, .int .i64 v.k, .int .i64 v.i, .int .i64 v.j, .int .i64 v.n, sv, .int .i64 x.k, .int .i64 x.i, .int .i64 x.j, .int .i64 x.n, sx, .int .i64 i] 34 (0, 0))) (hlen : c.length ≤ 100000) (hzu : u.size ≤ 1000000) (hzv : v.size ≤ 1000000) (hzx : x.size ≤ 1000000) (hpc : purC c = true) (hrj : rightJ (⟨true, u, v, x, i⟩ : Jd) (c.length : Int) = true) : Calls Try.prog 12 #[sc, .int .i64 14, .int .i64 0, .slice (some ⟨b0, 0, none⟩) 1 1] w (GivesJT P ⟨true, v, u, x, i⟩ true w) := by
  have HEc := Lib.hid hlc
  obtain ⟨ac, cc, Sc, rfl, -⟩ := hlc.out
  clear hlc
  have Gu := Lib.hid hfu
  clear hfu
  obtain ⟨au, cu, Su, rfl, -⟩ := hlu.out
  have Gv := Lib.hid hfv
  clear hfv
  obtain ⟨av, cv, Sv, rfl, -⟩ := hlv.out
  have Gx := Lib.hid hfx
  clear hfx
  obtain ⟨ax, cx, Sx, rfl, -⟩ := hlx.out
  have Ri := Lib.hid hri
  clear hri
  have HB0 := Lib.hid hb0
  clear hb0
  have HRN := Lib.hid (show I64 (c.length : Int) by unfold I64; omega)
  have HZU := Lib.hid hzu
  have HZV := Lib.hid hzv
  have HZX := Lib.hid hzx
  clear hzu hzv hzx
  have HPC := Lib.hid hpc
  clear hpc
  have HRJ := Lib.hid hrj
  clear hrj
  have hxi := rightJ_iT HRJ.out
  have fk1 : (u.k == 0) = false := kind_not (rightJ_u HRJ.out)
  have fk2 : (x.k == 0) = false := kind_not (rightJ_pure HRJ.out)
  have fk4 : decide (1000 < i) = false := decide_eq_false (by have : i ≤ 1000 := hxi; omega)
  clear hxi
  have fk3 : (v.k == 0) = false := kind_not (rightJ_v HRJ.out)
  obtain ⟨dj, dj1, dj2⟩ := under_of 34 (by kernel_rfl)
  obtain ⟨du, hu1, hu2⟩ := under_term
  go_enter Try.func12, Try.ntmps12
  go_upto_region 1 with fail
  refine at_code (fun V0 hV0 => ?_)
  obtain ⟨k2, x1, z3⟩ := alloc1 hV0
  have Kk4 := Lib.hid k2
  clear k2
  have Hx1 := Lib.hid x1
  have Z0 := Lib.hid z3
  clear z3 x1 hV0
  have HLu : Hid (LiesQ V0 (Par w V0.heap.size [] P) u.kids _) := (par_in _ _ hlu).later Kk4.out
  clear hlu
  have HLv : Hid (LiesQ V0 (Par w V0.heap.size [] P) v.kids _) := (par_in _ _ hlv).later Kk4.out
  clear hlv
  have HLx : Hid (LiesQ V0 (Par w V0.heap.size [] P) x.kids _) := (par_in _ _ hlx).later Kk4.out
  clear hlx
  have kvV0 : Sees V0 (w.heap.size) V0 := sees_kept _ (kept_refl _)
  go_wp2_with fail
  clear kvV0
  have hq7 := kidsK 14 V0
  rw [show Dv.dkidsN 14 = 1 from by decide] at hq7
  refine hq7.mono ?_
  clear hq7
  rintro e w5 ⟨rfl, k6⟩
  have Kk8 := Lib.hid k6
  clear k6
  have kvV0 : Sees V0 (w.heap.size) w5 := sees_kept _ Kk8.out
  go_wp2_with fail
  clear kvV0
  have hq11 := rulepure_any c w5 _ (HEc.out.keep (kept_trans Kk4.out Kk8.out))
  rw [HPC.out] at hq11
  refine hq11.mono ?_
  clear hq11
  rintro e w9 ⟨rfl, k10⟩
  have Kk12 := Lib.hid k10
  clear k10
  have kvV0 : Sees V0 (w.heap.size) w9 := sees_kept _ (kept_trans Kk8.out Kk12.out)
  go_wp2_with fail
  clear kvV0
  go_loopw [28] (fun iv wr => ∃ i : Int, 0 ≤ i ∧ i ≤ 1 ∧ iv = .int .i64 i ∧ Hid (True) ∧ Kept w9 wr) (fun iv _ => 1 - (intOf iv).toNat)
  case atStart => exact ⟨0, by decide, by decide, rfl, trivial, kept_refl _⟩
  case round =>
    obtain ⟨i, hi0, hi1, rfl, hv14, k13⟩ := hrel
    have Kk15 := Lib.hid k13
    clear k13
    have HVhv14 := Lib.hid hv14.out
    clear hv14
    obtain rfl | rfl : i = 0 ∨ i = 1 := by omega
    · clear hi0 hi1
      have kvV0 : Sees V0 (w.heap.size) wr := sees_kept _ (kept_trans Kk8.out (kept_trans Kk12.out Kk15.out))
      go_wp2_with (refine stop_load 34 (.tmp 31) rfl ?_)
      intro _
      refine wpList_load_part (b0) (0) 34 (.tmp 31) #[.bool true, .int .i64 u.k, .int .i64 u.i, .int .i64 u.j, .int .i64 u.n, (.slice au u.kids.length cu), .int .i64 v.k, .int .i64 v.i, .int .i64 v.j, .int .i64 v.n, (.slice av v.kids.length cv), .int .i64 x.k, .int .i64 x.i, .int .i64 x.j, .int .i64 x.n, (.slice ax x.kids.length cx), .int .i64 i] dj (blk_at HB0.out (kept_trans Kk4.out (kept_trans Kk8.out (kept_trans Kk12.out Kk15.out)))) (by rfl) rfl (by rfl) (by rfl) dj1 (by cases dj <;> first | rfl | exact dj2) (by kernel_rfl) ?_
      go_wp2_with (refine stop_store 34 (.tmp 11) (.tmp 32) rfl ?_)
      intro _
      refine wpList_store_part_n (by rfl) 34 (.tmp 11) (.tmp 32) rfl (wr.heap.size) 0 #[.bool true, .int .i64 u.k, .int .i64 u.i, .int .i64 u.j, .int .i64 u.n, (.slice au u.kids.length cu), .int .i64 v.k, .int .i64 v.i, .int .i64 v.j, .int .i64 v.n, (.slice av v.kids.length cv), .int .i64 x.k, .int .i64 x.i, .int .i64 x.j, .int .i64 x.n, (.slice ax x.kids.length cx), .int .i64 i] (by rfl) (by rfl) 34 (by kernel_rfl) (row_ok rfl) ?_
      intro W16 hW16
      clear kvV0
      obtain ⟨k19, x18, z20⟩ := alloc1 hW16
      have Kk21 := Lib.hid k19
      clear k19
      have Hx18 := Lib.hid x18
      have Hz20 := Lib.hid z20
      clear x18 z20 hW16
      have HG22 : Hid (V0.heap.size ≤ wr.heap.size) := (Below.size (kept_trans Kk8.out (kept_trans Kk12.out Kk15.out)))
      have XL23 : Hid (XLt (wr.heap.size :: []) W16) := (xlt_more (xlt_nil _) Kk21.out (by have := Hz20.out; omega))
      have HD24 : Hid (wr.heap.size ≤ wr.heap.size) := Below.size (kept_refl _)
      refine ⟨_, #[.bool true, .int .i64 u.k, .int .i64 u.i, .int .i64 u.j, .int .i64 u.n, (.slice au u.kids.length cu), .int .i64 v.k, .int .i64 v.i, .int .i64 v.j, .int .i64 v.n, (.slice av v.kids.length cv), .int .i64 x.k, .int .i64 x.i, .int .i64 x.j, .int .i64 x.n, (.slice ax x.kids.length cx), .int .i64 i], Hx18.out, rfl, Nat.le_of_ble_eq_true rfl, ?_⟩
      intro W17 hW17
      have KB25 := Lib.hid (kept_set (kept_trans Kk4.out (kept_trans Kk8.out (kept_trans Kk12.out (kept_trans Kk15.out Kk21.out)))) hW17 (by have := HG22.out; have := Z0.out; omega))
      have KB26 := Lib.hid (kept_set (kept_trans Kk8.out (kept_trans Kk12.out (kept_trans Kk15.out Kk21.out))) hW17 HG22.out)
      have KB27 := Lib.hid (kept_set Kk21.out hW17 HD24.out)
      have HL28 : Hid (LiesQ W17 (Par w V0.heap.size (wr.heap.size :: []) P) u.kids _) := par_set (par_grow HLu.out (kept_trans Kk8.out (kept_trans Kk12.out (kept_trans Kk15.out Kk21.out))) (List.forall_mem_cons.2 ⟨(Or.inr (Nat.le_trans (Below.size (kept_trans Kk8.out (kept_trans Kk12.out Kk15.out))) (Nat.le_refl wr.heap.size))), (fun _ h => nomatch h)⟩)) hW17 (List.mem_cons_self ..) (by have := HG22.out; have := Z0.out; omega)
      have HL29 : Hid (LiesQ W17 (Par w V0.heap.size (wr.heap.size :: []) P) v.kids _) := par_set (par_grow HLv.out (kept_trans Kk8.out (kept_trans Kk12.out (kept_trans Kk15.out Kk21.out))) (List.forall_mem_cons.2 ⟨(Or.inr (Nat.le_trans (Below.size (kept_trans Kk8.out (kept_trans Kk12.out Kk15.out))) (Nat.le_refl wr.heap.size))), (fun _ h => nomatch h)⟩)) hW17 (List.mem_cons_self ..) (by have := HG22.out; have := Z0.out; omega)
      have HL30 : Hid (LiesQ W17 (Par w V0.heap.size (wr.heap.size :: []) P) x.kids _) := par_set (par_grow HLx.out (kept_trans Kk8.out (kept_trans Kk12.out (kept_trans Kk15.out Kk21.out))) (List.forall_mem_cons.2 ⟨(Or.inr (Nat.le_trans (Below.size (kept_trans Kk8.out (kept_trans Kk12.out Kk15.out))) (Nat.le_refl wr.heap.size))), (fun _ h => nomatch h)⟩)) hW17 (List.mem_cons_self ..) (by have := HG22.out; have := Z0.out; omega)
      have XL31 := Lib.hid (xlt_set XL23.out hW17)
      have HX32 := Lib.hid (blk_same Hx18.out hW17)
      clear hW17
      have kvV0 : Sees V0 (w.heap.size) W17 := sees_kept _ KB26.out
      have kvW17 : Sees W17 (w.heap.size) W17 := sees_kept _ (kept_refl _)
      go_wp2_with fail
      clear kvV0
      clear kvW17
      have hq35 := innerK 14 0 W17
      rw [show Dv.innerB 14 0 = false from by decide] at hq35
      refine hq35.mono ?_
      clear hq35
      rintro e w33 ⟨rfl, k34⟩
      have Kk36 := Lib.hid k34
      clear k34
      have kvV0 : Sees V0 (w.heap.size) w33 := sees_kept _ (kept_trans KB26.out Kk36.out)
      have kvW17 : Sees W17 (w.heap.size) w33 := sees_kept _ Kk36.out
      go_wp2_with (refine stop_load 34 (.tmp 11) rfl ?_)
      intro _
      refine wpList_load_part (wr.heap.size) (0) 34 (.tmp 11) #[.bool true, .int .i64 u.k, .int .i64 u.i, .int .i64 u.j, .int .i64 u.n, (.slice au u.kids.length cu), .int .i64 v.k, .int .i64 v.i, .int .i64 v.j, .int .i64 v.n, (.slice av v.kids.length cv), .int .i64 x.k, .int .i64 x.i, .int .i64 x.j, .int .i64 x.n, (.slice ax x.kids.length cx), .int .i64 i] dj (blk_at HX32.out Kk36.out) (by rfl) rfl (by rfl) (by rfl) dj1 (by cases dj <;> first | rfl | exact dj2) (by kernel_rfl) ?_
      go_wp2_with fail
      clear kvV0
      clear kvW17
      have hq39 := rright1_any (c.length : Int) i u v x (Par w V0.heap.size (wr.heap.size :: []) P) w33 ((.slice au u.kids.length cu)) ((.slice av v.kids.length cv)) ((.slice ax x.kids.length cx)) Gu.out (HL28.out.later Kk36.out) Gv.out (HL29.out.later Kk36.out) Gx.out (HL30.out.later Kk36.out) Ri.out HRN.out
      rw [HRJ.out] at hq39
      refine hq39.mono ?_
      clear hq39
      rintro e w37 ⟨rfl, k38⟩
      have Kk40 := Lib.hid k38
      clear k38
      have kvV0 : Sees V0 (w.heap.size) w37 := sees_kept _ (kept_trans KB26.out (kept_trans Kk36.out Kk40.out))
      have kvW17 : Sees W17 (w.heap.size) w37 := sees_kept _ (kept_trans Kk36.out Kk40.out)
      go_wp2
      go_roundw
      case rel => exact ⟨1, by decide, by decide, by go_num, trivial, (kept_trans Kk15.out (kept_trans KB27.out (kept_trans Kk36.out Kk40.out)))⟩
      case measure => simp [intOf]
    · clear hi0 hi1
      have kvV0 : Sees V0 (w.heap.size) wr := sees_kept _ (kept_trans Kk8.out (kept_trans Kk12.out Kk15.out))
      go_wp2_with fail
      clear kvV0
      refine (con14T_any i c u v x (Par w V0.heap.size [] P) wr ((.slice ac c.length cc)) b0 ((.slice au u.kids.length cu)) ((.slice av v.kids.length cv)) ((.slice ax x.kids.length cx)) (HEc.out.keep (kept_trans Kk4.out (kept_trans Kk8.out (kept_trans Kk12.out Kk15.out)))) Gu.out (HLu.out.later (kept_trans Kk8.out (kept_trans Kk12.out Kk15.out))) Gv.out (HLv.out.later (kept_trans Kk8.out (kept_trans Kk12.out Kk15.out))) Gx.out (HLx.out.later (kept_trans Kk8.out (kept_trans Kk12.out Kk15.out))) Ri.out (blk_at HB0.out (kept_trans Kk4.out (kept_trans Kk8.out (kept_trans Kk12.out Kk15.out))))).mono ?_
      rintro e w41 ⟨s43, s44, s45, rfl, ⟨hl46, hl47, hl48⟩, k42⟩
      obtain ⟨a49, c50, S51, rfl, -⟩ := hl46.out
      obtain ⟨a52, c53, S54, rfl, -⟩ := hl47.out
      obtain ⟨a55, c56, S57, rfl, -⟩ := hl48.out
      have Kk58 := Lib.hid k42
      clear k42
      have Hhl46 : Hid (LiesQ w41 (Par w V0.heap.size [] P) v.kids _) := par_give hl46 (Below.size (kept_trans Kk8.out (kept_trans Kk12.out Kk15.out))) (xlt_nil _)
      have Hhl47 : Hid (LiesQ w41 (Par w V0.heap.size [] P) u.kids _) := par_give hl47 (Below.size (kept_trans Kk8.out (kept_trans Kk12.out Kk15.out))) (xlt_nil _)
      have Hhl48 : Hid (LiesQ w41 (Par w V0.heap.size [] P) x.kids _) := par_give hl48 (Below.size (kept_trans Kk8.out (kept_trans Kk12.out Kk15.out))) (xlt_nil _)
      clear hl46 hl47 hl48
      have kvV0 : Sees V0 (w.heap.size) w41 := sees_kept _ (kept_trans Kk8.out (kept_trans Kk12.out (kept_trans Kk15.out Kk58.out)))
      go_wp2_with (refine stop_store 34 (.tmp 13) (.tmp 52) rfl ?_)
      intro _
      refine wpList_store_part_n (by rfl) 34 (.tmp 13) (.tmp 52) rfl (w41.heap.size) 0 #[.bool true, .int .i64 v.k, .int .i64 v.i, .int .i64 v.j, .int .i64 v.n, (.slice a49 v.kids.length c50), .int .i64 u.k, .int .i64 u.i, .int .i64 u.j, .int .i64 u.n, (.slice a52 u.kids.length c53), .int .i64 x.k, .int .i64 x.i, .int .i64 x.j, .int .i64 x.n, (.slice a55 x.kids.length c56), .int .i64 i] (by rfl) (by rfl) 34 (by kernel_rfl) (row_ok rfl) ?_
      intro W59 hW59
      clear kvV0
      obtain ⟨k62, x61, z63⟩ := alloc1 hW59
      have Kk64 := Lib.hid k62
      clear k62
      have Hx61 := Lib.hid x61
      have Hz63 := Lib.hid z63
      clear x61 z63 hW59
      have HG65 : Hid (V0.heap.size ≤ w41.heap.size) := (Below.size (kept_trans Kk8.out (kept_trans Kk12.out (kept_trans Kk15.out Kk58.out))))
      have XL66 : Hid (XLt (w41.heap.size :: []) W59) := (xlt_more (xlt_nil _) Kk64.out (by have := Hz63.out; omega))
      have HD67 : Hid (wr.heap.size ≤ w41.heap.size) := Below.size Kk58.out
      refine ⟨_, #[.bool true, .int .i64 v.k, .int .i64 v.i, .int .i64 v.j, .int .i64 v.n, (.slice a49 v.kids.length c50), .int .i64 u.k, .int .i64 u.i, .int .i64 u.j, .int .i64 u.n, (.slice a52 u.kids.length c53), .int .i64 x.k, .int .i64 x.i, .int .i64 x.j, .int .i64 x.n, (.slice a55 x.kids.length c56), .int .i64 i], Hx61.out, rfl, Nat.le_of_ble_eq_true rfl, ?_⟩
      intro W60 hW60
      have KB68 := Lib.hid (kept_set (kept_trans Kk4.out (kept_trans Kk8.out (kept_trans Kk12.out (kept_trans Kk15.out (kept_trans Kk58.out Kk64.out))))) hW60 (by have := HG65.out; have := Z0.out; omega))
      have KB69 := Lib.hid (kept_set (kept_trans Kk8.out (kept_trans Kk12.out (kept_trans Kk15.out (kept_trans Kk58.out Kk64.out)))) hW60 HG65.out)
      have KB70 := Lib.hid (kept_set (kept_trans Kk58.out Kk64.out) hW60 HD67.out)
      have HL71 : Hid (LiesQ W60 (Par w V0.heap.size (w41.heap.size :: []) P) v.kids _) := par_set (par_grow Hhl46.out Kk64.out (List.forall_mem_cons.2 ⟨(Or.inr (Nat.le_refl w41.heap.size)), (fun _ h => nomatch h)⟩)) hW60 (List.mem_cons_self ..) (by have := HG65.out; have := Z0.out; omega)
      have HL72 : Hid (LiesQ W60 (Par w V0.heap.size (w41.heap.size :: []) P) u.kids _) := par_set (par_grow Hhl47.out Kk64.out (List.forall_mem_cons.2 ⟨(Or.inr (Nat.le_refl w41.heap.size)), (fun _ h => nomatch h)⟩)) hW60 (List.mem_cons_self ..) (by have := HG65.out; have := Z0.out; omega)
      have HL73 : Hid (LiesQ W60 (Par w V0.heap.size (w41.heap.size :: []) P) x.kids _) := par_set (par_grow Hhl48.out Kk64.out (List.forall_mem_cons.2 ⟨(Or.inr (Nat.le_refl w41.heap.size)), (fun _ h => nomatch h)⟩)) hW60 (List.mem_cons_self ..) (by have := HG65.out; have := Z0.out; omega)
      have HL74 : Hid (LiesQ W60 (Par w V0.heap.size (w41.heap.size :: []) P) u.kids _) := par_set (par_grow HLu.out (kept_trans Kk8.out (kept_trans Kk12.out (kept_trans Kk15.out (kept_trans Kk58.out Kk64.out)))) (List.forall_mem_cons.2 ⟨(Or.inr (Nat.le_trans (Below.size (kept_trans Kk8.out (kept_trans Kk12.out (kept_trans Kk15.out Kk58.out)))) (Nat.le_refl w41.heap.size))), (fun _ h => nomatch h)⟩)) hW60 (List.mem_cons_self ..) (by have := HG65.out; have := Z0.out; omega)
      have HL75 : Hid (LiesQ W60 (Par w V0.heap.size (w41.heap.size :: []) P) v.kids _) := par_set (par_grow HLv.out (kept_trans Kk8.out (kept_trans Kk12.out (kept_trans Kk15.out (kept_trans Kk58.out Kk64.out)))) (List.forall_mem_cons.2 ⟨(Or.inr (Nat.le_trans (Below.size (kept_trans Kk8.out (kept_trans Kk12.out (kept_trans Kk15.out Kk58.out)))) (Nat.le_refl w41.heap.size))), (fun _ h => nomatch h)⟩)) hW60 (List.mem_cons_self ..) (by have := HG65.out; have := Z0.out; omega)
      have HL76 : Hid (LiesQ W60 (Par w V0.heap.size (w41.heap.size :: []) P) x.kids _) := par_set (par_grow HLx.out (kept_trans Kk8.out (kept_trans Kk12.out (kept_trans Kk15.out (kept_trans Kk58.out Kk64.out)))) (List.forall_mem_cons.2 ⟨(Or.inr (Nat.le_trans (Below.size (kept_trans Kk8.out (kept_trans Kk12.out (kept_trans Kk15.out Kk58.out)))) (Nat.le_refl w41.heap.size))), (fun _ h => nomatch h)⟩)) hW60 (List.mem_cons_self ..) (by have := HG65.out; have := Z0.out; omega)
      have XL77 := Lib.hid (xlt_set XL66.out hW60)
      have HX78 := Lib.hid (blk_same Hx61.out hW60)
      clear hW60
      have ld79 := part_cell (r := (w.heap.size)) HX78.out (by have := HG65.out; have := Z0.out; omega) 0 (.bool true) rfl
      have ld80 := part_cell (r := (w.heap.size)) HX78.out (by have := HG65.out; have := Z0.out; omega) 1 (.int .i64 v.k) rfl
      have ld81 := part_cell (r := (w.heap.size)) HX78.out (by have := HG65.out; have := Z0.out; omega) 6 (.int .i64 u.k) rfl
      have ld82 := part_cell (r := (w.heap.size)) HX78.out (by have := HG65.out; have := Z0.out; omega) 11 (.int .i64 x.k) rfl
      have ld83 := part_cell (r := (w.heap.size)) HX78.out (by have := HG65.out; have := Z0.out; omega) 16 (.int .i64 i) rfl
      have kvV0 : Sees V0 (w.heap.size) W60 := sees_kept _ KB69.out
      have kvW60 : Sees W60 (w.heap.size) W60 := sees_kept _ (kept_refl _)
      go_wp2_with fail
      clear kvV0
      clear kvW60
      obtain ⟨W84, h85⟩ : ∃ x, World.drew W60 = x := ⟨_, rfl⟩
      have k86 : Kept W60 W84 := by rw [← h85]; exact kept_drew (kept_refl _)
      have Kk87 := Lib.hid k86
      clear k86
      refine wp_region_X (S := Sees W84 (w.heap.size)) 10 (by kernel_rfl) ?_ (fun hHeld => ?_)
      · (try dsimp only)
        rw [h85]
        exact sees_kept _ (kept_refl _)
      rw [h85] at hHeld ⊢
      clear h85
      refine takeX_any 0 84 of14Tokr15_0 (v := ?_) (Or.inl ⟨by rfl, ?_⟩) ?_ (fun _ => hHeld)
      rotate_left 1
      · ((intro w hSw; (try dsimp only at hSw); unfold of14Tokr15_0; go_simp) <;> with_reducible rfl)
      (try simp only [Act.put, List.setIfInBounds_toArray, List.set_cons_zero, List.set_cons_succ])
      refine takeX_at 1 85 of14Tokr15_1 (yields_part (w41.heap.size) (1) 32 (.tmp 84) #[.int .i64 v.k, .int .i64 v.i, .int .i64 v.j, .int .i64 v.n, (.slice a49 v.kids.length c50)] du (fun _ h => sees_blk HX78.out (by have := HG65.out; have := Z0.out; omega) (sees_of Kk87.out h)) (by rfl) rfl (by rfl) (by rfl) hu1 (by cases du <;> first | rfl | exact hu2) size_term) ?_
      (try simp only [Act.put, List.setIfInBounds_toArray, List.set_cons_zero, List.set_cons_succ])
      refine takeX_any 3 87 of14Tokr15_3 (v := ?_) (Or.inl ⟨by rfl, ?_⟩) ?_ (fun _ => hHeld)
      rotate_left 1
      · ((intro w hSw; (try dsimp only at hSw); unfold of14Tokr15_3; go_simp) <;> with_reducible rfl)
      (try simp only [Act.put, List.setIfInBounds_toArray, List.set_cons_zero, List.set_cons_succ])
      refine takeX_at 4 88 of14Tokr15_4 (yields_part (w41.heap.size) (6) 32 (.tmp 87) #[.int .i64 u.k, .int .i64 u.i, .int .i64 u.j, .int .i64 u.n, (.slice a52 u.kids.length c53)] du (fun _ h => sees_blk HX78.out (by have := HG65.out; have := Z0.out; omega) (sees_of Kk87.out h)) (by rfl) rfl (by rfl) (by rfl) hu1 (by cases du <;> first | rfl | exact hu2) size_term) ?_
      (try simp only [Act.put, List.setIfInBounds_toArray, List.set_cons_zero, List.set_cons_succ])
      refine takeX_any 6 90 of14Tokr15_6 (v := ?_) (Or.inl ⟨by rfl, ?_⟩) ?_ (fun _ => hHeld)
      rotate_left 1
      · ((intro w hSw; (try dsimp only at hSw); unfold of14Tokr15_6; go_simp) <;> with_reducible rfl)
      (try simp only [Act.put, List.setIfInBounds_toArray, List.set_cons_zero, List.set_cons_succ])
      refine takeX_at 7 91 of14Tokr15_7 (yields_part (w41.heap.size) (11) 32 (.tmp 90) #[.int .i64 x.k, .int .i64 x.i, .int .i64 x.j, .int .i64 x.n, (.slice a55 x.kids.length c56)] du (fun _ h => sees_blk HX78.out (by have := HG65.out; have := Z0.out; omega) (sees_of Kk87.out h)) (by rfl) rfl (by rfl) (by rfl) hu1 (by cases du <;> first | rfl | exact hu2) size_term) ?_
      (try simp only [Act.put, List.setIfInBounds_toArray, List.set_cons_zero, List.set_cons_succ])
      refine wpAnyX_ready (rs := [2]) (by kernel_rfl) (by simp) ?_
      refine AllReadyX.cons (o := of14Tokr15_2) rfl (fun K hK => ?_) ?_
      · unfold of14Tokr15_2
        go_simp
        refine ((copy_any v _ ((.slice a49 v.kids.length c50)) (HL71.out.later Kk87.out).lies HZV.out).mono (fun _ _ h => h.givesP (P := (Par w V0.heap.size (w41.heap.size :: []) P)))).mono ?_
        rintro e w88 ⟨s90, rfl, hl91, k89⟩
        obtain ⟨a92, c93, S94, rfl, -⟩ := hl91.out
        have Kk95 := Lib.hid k89
        clear k89
        have Hhl91 : Hid (LiesQ w88 (Par w V0.heap.size (w41.heap.size :: []) P) v.kids _) := par_give hl91 (Below.size (kept_trans KB69.out Kk87.out)) (xlt_later XL77.out Kk87.out)
        clear hl91
        clear hHeld
        refine hK.out _ _ (fun _ => sees_kept _ Kk95.out) (fun hHeld => ?_)
        replace hHeld := hHeld (by kernel_rfl)
        clear hK K
        (try simp only [Act.put, List.setIfInBounds_toArray, List.set_cons_zero, List.set_cons_succ])
        refine takeX_any 9 93 of14Tokr15_9 (v := ?_) (Or.inl ⟨by rfl, ?_⟩) ?_ (fun _ => hHeld)
        rotate_left 1
        · ((intro w hSw; (try dsimp only at hSw); unfold of14Tokr15_9; go_simp) <;> with_reducible rfl)
        (try simp only [Act.put, List.setIfInBounds_toArray, List.set_cons_zero, List.set_cons_succ])
        refine wpAnyX_ready (rs := [5]) (by kernel_rfl) (by simp) ?_
        refine AllReadyX.cons (o := of14Tokr15_5) rfl (fun K hK => ?_) ?_
        · unfold of14Tokr15_5
          go_simp
          refine ((copy_any u _ ((.slice a52 u.kids.length c53)) (HL72.out.later (kept_trans Kk87.out Kk95.out)).lies HZU.out).mono (fun _ _ h => h.givesP (P := (Par w V0.heap.size (w41.heap.size :: []) P)))).mono ?_
          rintro e w96 ⟨s98, rfl, hl99, k97⟩
          obtain ⟨a100, c101, S102, rfl, -⟩ := hl99.out
          have Kk103 := Lib.hid k97
          clear k97
          have Hhl99 : Hid (LiesQ w96 (Par w V0.heap.size (w41.heap.size :: []) P) u.kids _) := par_give hl99 (Below.size (kept_trans KB69.out (kept_trans Kk87.out Kk95.out))) (xlt_later XL77.out (kept_trans Kk87.out Kk95.out))
          clear hl99
          clear hHeld
          refine hK.out _ _ (fun _ => sees_kept _ (kept_trans Kk95.out Kk103.out)) (fun hHeld => ?_)
          replace hHeld := hHeld (by kernel_rfl)
          clear hK K
          (try simp only [Act.put, List.setIfInBounds_toArray, List.set_cons_zero, List.set_cons_succ])
          refine wpAnyX_ready (rs := [8]) (by kernel_rfl) (by simp) ?_
          refine AllReadyX.cons (o := of14Tokr15_8) rfl (fun K hK => ?_) ?_
          · unfold of14Tokr15_8
            go_simp
            refine ((copy_any x _ ((.slice a55 x.kids.length c56)) (HL73.out.later (kept_trans Kk87.out (kept_trans Kk95.out Kk103.out))).lies HZX.out).mono (fun _ _ h => h.givesP (P := (Par w V0.heap.size (w41.heap.size :: []) P)))).mono ?_
            rintro e w104 ⟨s106, rfl, hl107, k105⟩
            obtain ⟨a108, c109, S110, rfl, -⟩ := hl107.out
            have Kk111 := Lib.hid k105
            clear k105
            have Hhl107 : Hid (LiesQ w104 (Par w V0.heap.size (w41.heap.size :: []) P) x.kids _) := par_give hl107 (Below.size (kept_trans KB69.out (kept_trans Kk87.out (kept_trans Kk95.out Kk103.out)))) (xlt_later XL77.out (kept_trans Kk87.out (kept_trans Kk95.out Kk103.out)))
            clear hl107
            clear hHeld
            refine hK.out _ _ (fun _ => sees_kept _ (kept_trans Kk95.out (kept_trans Kk103.out Kk111.out))) (fun hHeld => ?_)
            replace hHeld := hHeld (by kernel_rfl)
            clear hK K
            (try simp only [Act.put, List.setIfInBounds_toArray, List.set_cons_zero, List.set_cons_succ])
            refine wpAnyX_ready (rs := [10]) (by kernel_rfl) (by simp) ?_
            refine AllReadyX.cons (o := of14Tokr15_10) rfl (fun K hK => ?_) ?_
            · unfold of14Tokr15_10
              refine step_store_part rfl 32 (.tmp 93) (.tmp 86) rfl (w41.heap.size) 1 #[.int .i64 v.k, .int .i64 v.i, .int .i64 v.j, .int .i64 v.n, (.slice a92 v.kids.length c93)] rfl rfl 34 size_term (row_ok rfl) _ #[.bool true, .int .i64 v.k, .int .i64 v.i, .int .i64 v.j, .int .i64 v.n, (.slice a92 v.kids.length c93), .int .i64 u.k, .int .i64 u.i, .int .i64 u.j, .int .i64 u.n, (.slice a52 u.kids.length c53), .int .i64 x.k, .int .i64 x.i, .int .i64 x.j, .int .i64 x.n, (.slice a55 x.kids.length c56), .int .i64 i] (blk_at HX78.out (kept_trans Kk87.out (kept_trans Kk95.out (kept_trans Kk103.out Kk111.out)))) rfl (Nat.le_of_ble_eq_true rfl) ?_
              intro W112 hW112
              have KB113 := Lib.hid (kept_set (kept_trans KB68.out (kept_trans Kk87.out (kept_trans Kk95.out (kept_trans Kk103.out Kk111.out)))) hW112 (by have := HG65.out; have := Z0.out; omega))
              have KB114 := Lib.hid (kept_set (kept_trans KB69.out (kept_trans Kk87.out (kept_trans Kk95.out (kept_trans Kk103.out Kk111.out)))) hW112 HG65.out)
              have HL115 : Hid (LiesQ W112 (Par w V0.heap.size (w41.heap.size :: []) P) v.kids _) := par_set (HL71.out.later (kept_trans Kk87.out (kept_trans Kk95.out (kept_trans Kk103.out Kk111.out)))) hW112 (List.mem_cons_self ..) (by have := HG65.out; have := Z0.out; omega)
              have HL116 : Hid (LiesQ W112 (Par w V0.heap.size (w41.heap.size :: []) P) u.kids _) := par_set (HL72.out.later (kept_trans Kk87.out (kept_trans Kk95.out (kept_trans Kk103.out Kk111.out)))) hW112 (List.mem_cons_self ..) (by have := HG65.out; have := Z0.out; omega)
              have HL117 : Hid (LiesQ W112 (Par w V0.heap.size (w41.heap.size :: []) P) x.kids _) := par_set (HL73.out.later (kept_trans Kk87.out (kept_trans Kk95.out (kept_trans Kk103.out Kk111.out)))) hW112 (List.mem_cons_self ..) (by have := HG65.out; have := Z0.out; omega)
              have HL118 : Hid (LiesQ W112 (Par w V0.heap.size (w41.heap.size :: []) P) v.kids _) := par_set (Hhl91.out.later (kept_trans Kk103.out Kk111.out)) hW112 (List.mem_cons_self ..) (by have := HG65.out; have := Z0.out; omega)
              have HL119 : Hid (LiesQ W112 (Par w V0.heap.size (w41.heap.size :: []) P) u.kids _) := par_set (Hhl99.out.later Kk111.out) hW112 (List.mem_cons_self ..) (by have := HG65.out; have := Z0.out; omega)
              have HL120 : Hid (LiesQ W112 (Par w V0.heap.size (w41.heap.size :: []) P) x.kids _) := par_set Hhl107.out hW112 (List.mem_cons_self ..) (by have := HG65.out; have := Z0.out; omega)
              have HL121 : Hid (LiesQ W112 (Par w V0.heap.size (w41.heap.size :: []) P) u.kids _) := par_set (HL74.out.later (kept_trans Kk87.out (kept_trans Kk95.out (kept_trans Kk103.out Kk111.out)))) hW112 (List.mem_cons_self ..) (by have := HG65.out; have := Z0.out; omega)
              have HL122 : Hid (LiesQ W112 (Par w V0.heap.size (w41.heap.size :: []) P) v.kids _) := par_set (HL75.out.later (kept_trans Kk87.out (kept_trans Kk95.out (kept_trans Kk103.out Kk111.out)))) hW112 (List.mem_cons_self ..) (by have := HG65.out; have := Z0.out; omega)
              have HL123 : Hid (LiesQ W112 (Par w V0.heap.size (w41.heap.size :: []) P) x.kids _) := par_set (HL76.out.later (kept_trans Kk87.out (kept_trans Kk95.out (kept_trans Kk103.out Kk111.out)))) hW112 (List.mem_cons_self ..) (by have := HG65.out; have := Z0.out; omega)
              have XL124 := Lib.hid (xlt_set (xlt_later XL77.out (kept_trans Kk87.out (kept_trans Kk95.out (kept_trans Kk103.out Kk111.out)))) hW112)
              have HX125 := Lib.hid (blk_same (blk_at HX78.out (kept_trans Kk87.out (kept_trans Kk95.out (kept_trans Kk103.out Kk111.out)))) hW112)
              (try clear ld79)
              (try clear ld80)
              (try clear ld81)
              (try clear ld82)
              (try clear ld83)
              clear hW112
              have ld126 := part_cell (r := (w.heap.size)) HX125.out (by have := HG65.out; have := Z0.out; omega) 0 (.bool true) rfl
              have ld127 := part_cell (r := (w.heap.size)) HX125.out (by have := HG65.out; have := Z0.out; omega) 1 (.int .i64 v.k) rfl
              have ld128 := part_cell (r := (w.heap.size)) HX125.out (by have := HG65.out; have := Z0.out; omega) 6 (.int .i64 u.k) rfl
              have ld129 := part_cell (r := (w.heap.size)) HX125.out (by have := HG65.out; have := Z0.out; omega) 11 (.int .i64 x.k) rfl
              have ld130 := part_cell (r := (w.heap.size)) HX125.out (by have := HG65.out; have := Z0.out; omega) 16 (.int .i64 i) rfl
              clear hHeld
              refine hK.out _ _ (fun h => Bool.noConfusion (show true = false from h)) (fun _ => ?_)
              clear hK K
              (try simp only [Act.put])
              refine takeX_any 11 94 of14Tokr15_11 (v := ?_) (Or.inl ⟨by rfl, ?_⟩) ?_ (fun h => Bool.noConfusion (show true = false from h))
              rotate_left 1
              · ((intro w hSw; (try dsimp only at hSw); unfold of14Tokr15_11; go_simp) <;> with_reducible rfl)
              (try simp only [Act.put, List.setIfInBounds_toArray, List.set_cons_zero, List.set_cons_succ])
              refine wpAnyX_ready (rs := [12]) (by kernel_rfl) (by simp) ?_
              refine AllReadyX.cons (o := of14Tokr15_12) rfl (fun K hK => ?_) ?_
              · unfold of14Tokr15_12
                refine step_store_part rfl 32 (.tmp 94) (.tmp 89) rfl (w41.heap.size) 6 #[.int .i64 u.k, .int .i64 u.i, .int .i64 u.j, .int .i64 u.n, (.slice a100 u.kids.length c101)] rfl rfl 34 size_term (row_ok rfl) _ #[.bool true, .int .i64 v.k, .int .i64 v.i, .int .i64 v.j, .int .i64 v.n, (.slice a92 v.kids.length c93), .int .i64 u.k, .int .i64 u.i, .int .i64 u.j, .int .i64 u.n, (.slice a100 u.kids.length c101), .int .i64 x.k, .int .i64 x.i, .int .i64 x.j, .int .i64 x.n, (.slice a55 x.kids.length c56), .int .i64 i] HX125.out rfl (Nat.le_of_ble_eq_true rfl) ?_
                intro W131 hW131
                have KB132 := Lib.hid (kept_set KB113.out hW131 (by have := HG65.out; have := Z0.out; omega))
                have KB133 := Lib.hid (kept_set KB114.out hW131 HG65.out)
                have HL134 : Hid (LiesQ W131 (Par w V0.heap.size (w41.heap.size :: []) P) v.kids _) := par_set HL115.out hW131 (List.mem_cons_self ..) (by have := HG65.out; have := Z0.out; omega)
                have HL135 : Hid (LiesQ W131 (Par w V0.heap.size (w41.heap.size :: []) P) u.kids _) := par_set HL116.out hW131 (List.mem_cons_self ..) (by have := HG65.out; have := Z0.out; omega)
                have HL136 : Hid (LiesQ W131 (Par w V0.heap.size (w41.heap.size :: []) P) x.kids _) := par_set HL117.out hW131 (List.mem_cons_self ..) (by have := HG65.out; have := Z0.out; omega)
                have HL137 : Hid (LiesQ W131 (Par w V0.heap.size (w41.heap.size :: []) P) v.kids _) := par_set HL118.out hW131 (List.mem_cons_self ..) (by have := HG65.out; have := Z0.out; omega)
                have HL138 : Hid (LiesQ W131 (Par w V0.heap.size (w41.heap.size :: []) P) u.kids _) := par_set HL119.out hW131 (List.mem_cons_self ..) (by have := HG65.out; have := Z0.out; omega)
                have HL139 : Hid (LiesQ W131 (Par w V0.heap.size (w41.heap.size :: []) P) x.kids _) := par_set HL120.out hW131 (List.mem_cons_self ..) (by have := HG65.out; have := Z0.out; omega)
                have HL140 : Hid (LiesQ W131 (Par w V0.heap.size (w41.heap.size :: []) P) u.kids _) := par_set HL121.out hW131 (List.mem_cons_self ..) (by have := HG65.out; have := Z0.out; omega)
                have HL141 : Hid (LiesQ W131 (Par w V0.heap.size (w41.heap.size :: []) P) v.kids _) := par_set HL122.out hW131 (List.mem_cons_self ..) (by have := HG65.out; have := Z0.out; omega)
                have HL142 : Hid (LiesQ W131 (Par w V0.heap.size (w41.heap.size :: []) P) x.kids _) := par_set HL123.out hW131 (List.mem_cons_self ..) (by have := HG65.out; have := Z0.out; omega)
                have XL143 := Lib.hid (xlt_set XL124.out hW131)
                have HX144 := Lib.hid (blk_same HX125.out hW131)
                (try clear ld126)
                (try clear ld127)
                (try clear ld128)
                (try clear ld129)
                (try clear ld130)
                clear hW131
                have ld145 := part_cell (r := (w.heap.size)) HX144.out (by have := HG65.out; have := Z0.out; omega) 0 (.bool true) rfl
                have ld146 := part_cell (r := (w.heap.size)) HX144.out (by have := HG65.out; have := Z0.out; omega) 1 (.int .i64 v.k) rfl
                have ld147 := part_cell (r := (w.heap.size)) HX144.out (by have := HG65.out; have := Z0.out; omega) 6 (.int .i64 u.k) rfl
                have ld148 := part_cell (r := (w.heap.size)) HX144.out (by have := HG65.out; have := Z0.out; omega) 11 (.int .i64 x.k) rfl
                have ld149 := part_cell (r := (w.heap.size)) HX144.out (by have := HG65.out; have := Z0.out; omega) 16 (.int .i64 i) rfl
                refine hK.out _ _ (fun h => Bool.noConfusion (show true = false from h)) (fun _ => ?_)
                clear hK K
                (try simp only [Act.put])
                refine takeX_any 13 95 of14Tokr15_13 (v := ?_) (Or.inl ⟨by rfl, ?_⟩) ?_ (fun h => Bool.noConfusion (show true = false from h))
                rotate_left 1
                · ((intro w hSw; (try dsimp only at hSw); unfold of14Tokr15_13; go_simp) <;> with_reducible rfl)
                (try simp only [Act.put, List.setIfInBounds_toArray, List.set_cons_zero, List.set_cons_succ])
                refine wpAnyX_ready (rs := [14]) (by kernel_rfl) (by simp) ?_
                refine AllReadyX.cons (o := of14Tokr15_14) rfl (fun K hK => ?_) ?_
                · unfold of14Tokr15_14
                  refine step_store_part rfl 32 (.tmp 95) (.tmp 92) rfl (w41.heap.size) 11 #[.int .i64 x.k, .int .i64 x.i, .int .i64 x.j, .int .i64 x.n, (.slice a108 x.kids.length c109)] rfl rfl 34 size_term (row_ok rfl) _ #[.bool true, .int .i64 v.k, .int .i64 v.i, .int .i64 v.j, .int .i64 v.n, (.slice a92 v.kids.length c93), .int .i64 u.k, .int .i64 u.i, .int .i64 u.j, .int .i64 u.n, (.slice a100 u.kids.length c101), .int .i64 x.k, .int .i64 x.i, .int .i64 x.j, .int .i64 x.n, (.slice a108 x.kids.length c109), .int .i64 i] HX144.out rfl (Nat.le_of_ble_eq_true rfl) ?_
                  intro W150 hW150
                  have KB151 := Lib.hid (kept_set KB132.out hW150 (by have := HG65.out; have := Z0.out; omega))
                  have KB152 := Lib.hid (kept_set KB133.out hW150 HG65.out)
                  have HL153 : Hid (LiesQ W150 (Par w V0.heap.size (w41.heap.size :: []) P) v.kids _) := par_set HL134.out hW150 (List.mem_cons_self ..) (by have := HG65.out; have := Z0.out; omega)
                  have HL154 : Hid (LiesQ W150 (Par w V0.heap.size (w41.heap.size :: []) P) u.kids _) := par_set HL135.out hW150 (List.mem_cons_self ..) (by have := HG65.out; have := Z0.out; omega)
                  have HL155 : Hid (LiesQ W150 (Par w V0.heap.size (w41.heap.size :: []) P) x.kids _) := par_set HL136.out hW150 (List.mem_cons_self ..) (by have := HG65.out; have := Z0.out; omega)
                  have HL156 : Hid (LiesQ W150 (Par w V0.heap.size (w41.heap.size :: []) P) v.kids _) := par_set HL137.out hW150 (List.mem_cons_self ..) (by have := HG65.out; have := Z0.out; omega)
                  have HL157 : Hid (LiesQ W150 (Par w V0.heap.size (w41.heap.size :: []) P) u.kids _) := par_set HL138.out hW150 (List.mem_cons_self ..) (by have := HG65.out; have := Z0.out; omega)
                  have HL158 : Hid (LiesQ W150 (Par w V0.heap.size (w41.heap.size :: []) P) x.kids _) := par_set HL139.out hW150 (List.mem_cons_self ..) (by have := HG65.out; have := Z0.out; omega)
                  have HL159 : Hid (LiesQ W150 (Par w V0.heap.size (w41.heap.size :: []) P) u.kids _) := par_set HL140.out hW150 (List.mem_cons_self ..) (by have := HG65.out; have := Z0.out; omega)
                  have HL160 : Hid (LiesQ W150 (Par w V0.heap.size (w41.heap.size :: []) P) v.kids _) := par_set HL141.out hW150 (List.mem_cons_self ..) (by have := HG65.out; have := Z0.out; omega)
                  have HL161 : Hid (LiesQ W150 (Par w V0.heap.size (w41.heap.size :: []) P) x.kids _) := par_set HL142.out hW150 (List.mem_cons_self ..) (by have := HG65.out; have := Z0.out; omega)
                  have XL162 := Lib.hid (xlt_set XL143.out hW150)
                  have HX163 := Lib.hid (blk_same HX144.out hW150)
                  (try clear ld145)
                  (try clear ld146)
                  (try clear ld147)
                  (try clear ld148)
                  (try clear ld149)
                  clear hW150
                  have ld164 := part_cell (r := (w.heap.size)) HX163.out (by have := HG65.out; have := Z0.out; omega) 0 (.bool true) rfl
                  have ld165 := part_cell (r := (w.heap.size)) HX163.out (by have := HG65.out; have := Z0.out; omega) 1 (.int .i64 v.k) rfl
                  have ld166 := part_cell (r := (w.heap.size)) HX163.out (by have := HG65.out; have := Z0.out; omega) 6 (.int .i64 u.k) rfl
                  have ld167 := part_cell (r := (w.heap.size)) HX163.out (by have := HG65.out; have := Z0.out; omega) 11 (.int .i64 x.k) rfl
                  have ld168 := part_cell (r := (w.heap.size)) HX163.out (by have := HG65.out; have := Z0.out; omega) 16 (.int .i64 i) rfl
                  refine hK.out _ _ (fun h => Bool.noConfusion (show true = false from h)) (fun _ => ?_)
                  clear hK K
                  (try simp only [Act.put])
                  refine wpAnyX_done (by kernel_rfl) ?_ _
                  have kvV0 : Sees V0 (w.heap.size) W150 := sees_kept _ KB152.out
                  have kvW150 : Sees W150 (w.heap.size) W150 := sees_kept _ (kept_refl _)
                  go_wp2_with (refine stop_load 34 (.tmp 13) rfl ?_)
                  intro _
                  refine wpList_load_part (w41.heap.size) (0) 34 (.tmp 13) #[.bool true, .int .i64 v.k, .int .i64 v.i, .int .i64 v.j, .int .i64 v.n, (.slice a92 v.kids.length c93), .int .i64 u.k, .int .i64 u.i, .int .i64 u.j, .int .i64 u.n, (.slice a100 u.kids.length c101), .int .i64 x.k, .int .i64 x.i, .int .i64 x.j, .int .i64 x.n, (.slice a108 x.kids.length c109), .int .i64 i] dj HX163.out (by rfl) rfl (by rfl) (by rfl) dj1 (by cases dj <;> first | rfl | exact dj2) (by kernel_rfl) ?_
                  go_wp2_with (refine stop_store 34 (.tmp 8) (.tmp 96) rfl ?_)
                  intro _
                  refine wpList_store_part_n (by rfl) 34 (.tmp 8) (.tmp 96) rfl (w.heap.size) 0 #[.bool true, .int .i64 v.k, .int .i64 v.i, .int .i64 v.j, .int .i64 v.n, (.slice a92 v.kids.length c93), .int .i64 u.k, .int .i64 u.i, .int .i64 u.j, .int .i64 u.n, (.slice a100 u.kids.length c101), .int .i64 x.k, .int .i64 x.i, .int .i64 x.j, .int .i64 x.n, (.slice a108 x.kids.length c109), .int .i64 i] (by rfl) (by rfl) 34 (by kernel_rfl) (row_ok rfl) ?_
                  intro W169 hW169
                  clear kvV0
                  clear kvW150
                  subst hW169
                  refine ⟨_, #[.bool true, .int .i64 v.k, .int .i64 v.i, .int .i64 v.j, .int .i64 v.n, (.slice a92 v.kids.length c93), .int .i64 u.k, .int .i64 u.i, .int .i64 u.j, .int .i64 u.n, (.slice a100 u.kids.length c101), .int .i64 x.k, .int .i64 x.i, .int .i64 x.j, .int .i64 x.n, (.slice a108 x.kids.length c109), .int .i64 i], (blk_at Hx1.out KB152.out), rfl, Nat.le_of_ble_eq_true rfl, ?_⟩
                  intro W170 hW170
                  go_wp2_with fail
                  (try simp only [Exit.inBlock, Exit.then])
                  refine bodyPost_ret (results_cell_tmp rfl _ _ (w.heap.size) 34 _ _ dj rfl (blk_same (blk_at Hx1.out KB152.out) hW170) dj1 (by cases dj <;> first | rfl | exact dj2) (by kernel_rfl)) rfl ?_
                  have jz174 := Z0.out
                  have jq171 := par_end (par_row' HL156.out hW170 (by omega) (by omega)) (by omega)
                  have jq172 := par_end (par_row' HL157.out hW170 (by omega) (by omega)) (by omega)
                  have jq173 := par_end (par_row' HL158.out hW170 (by omega) (by omega)) (by omega)
                  exact ⟨_, _, _, rfl, ⟨jq171, jq172, jq173⟩, kept_set KB151.out hW170 (by omega)⟩
                exact AllReadyX.nil
              exact AllReadyX.nil
            exact AllReadyX.nil
          exact AllReadyX.nil
        exact AllReadyX.nil
      exact AllReadyX.nil

set_option maxRecDepth 20000 in
set_option maxHeartbeats 4000000 in
theorem of14Tpf_any (i : Int) (c : List En) (u : Tm) (v : Tm) (x : Tm) (P : Nat → Prop) (w : World) (sc : Value) (b0 : Nat) (su : Value) (sv : Value) (sx : Value) (hlc : LiesE w c sc) (hfu : u.fine) (hlu : LiesQ w P u.kids su) (hfv : v.fine) (hlv : LiesQ w P v.kids sv) (hfx : x.fine) (hlx : LiesQ w P x.kids sx) (hri : I64 i) (hb0 : w.heap[b0]? = some (.cells #[.bool true, .int .i64 u.k, .int .i64 u.i, .int .i64 u.j, .int .i64 u.n, su, .int .i64 v.k, .int .i64 v.i, .int .i64 v.j, .int .i64 v.n, sv, .int .i64 x.k, .int .i64 x.i, .int .i64 x.j, .int .i64 x.n, sx, .int .i64 i] 34 (0, 0))) (hlen : c.length ≤ 100000) (hzu : u.size ≤ 1000000) (hzv : v.size ≤ 1000000) (hzx : x.size ≤ 1000000) (hpc : purC c = false) : Calls Try.prog 12 #[sc, .int .i64 14, .int .i64 0, .slice (some ⟨b0, 0, none⟩) 1 1] w (GivesJT P ⟨false, .zero, .zero, .zero, 0⟩ false w) := by
  have HEc := Lib.hid hlc
  obtain ⟨ac, cc, Sc, rfl, -⟩ := hlc.out
  clear hlc
  have Gu := Lib.hid hfu
  clear hfu
  obtain ⟨au, cu, Su, rfl, -⟩ := hlu.out
  have Gv := Lib.hid hfv
  clear hfv
  obtain ⟨av, cv, Sv, rfl, -⟩ := hlv.out
  have Gx := Lib.hid hfx
  clear hfx
  obtain ⟨ax, cx, Sx, rfl, -⟩ := hlx.out
  have Ri := Lib.hid hri
  clear hri
  have HB0 := Lib.hid hb0
  clear hb0
  have HRN := Lib.hid (show I64 (c.length : Int) by unfold I64; omega)
  have HZU := Lib.hid hzu
  have HZV := Lib.hid hzv
  have HZX := Lib.hid hzx
  clear hzu hzv hzx
  have HPC := Lib.hid hpc
  clear hpc
  obtain ⟨dj, dj1, dj2⟩ := under_of 34 (by kernel_rfl)
  obtain ⟨du, hu1, hu2⟩ := under_term
  go_enter Try.func12, Try.ntmps12
  go_upto_region 1 with fail
  refine at_code (fun V0 hV0 => ?_)
  obtain ⟨k2, x1, z3⟩ := alloc1 hV0
  have Kk4 := Lib.hid k2
  clear k2
  have Hx1 := Lib.hid x1
  have Z0 := Lib.hid z3
  clear z3 x1 hV0
  have HLu : Hid (LiesQ V0 (Par w V0.heap.size [] P) u.kids _) := (par_in _ _ hlu).later Kk4.out
  clear hlu
  have HLv : Hid (LiesQ V0 (Par w V0.heap.size [] P) v.kids _) := (par_in _ _ hlv).later Kk4.out
  clear hlv
  have HLx : Hid (LiesQ V0 (Par w V0.heap.size [] P) x.kids _) := (par_in _ _ hlx).later Kk4.out
  clear hlx
  have kvV0 : Sees V0 (w.heap.size) V0 := sees_kept _ (kept_refl _)
  go_wp2_with fail
  clear kvV0
  have hq7 := kidsK 14 V0
  rw [show Dv.dkidsN 14 = 1 from by decide] at hq7
  refine hq7.mono ?_
  clear hq7
  rintro e w5 ⟨rfl, k6⟩
  have Kk8 := Lib.hid k6
  clear k6
  have kvV0 : Sees V0 (w.heap.size) w5 := sees_kept _ Kk8.out
  go_wp2_with fail
  clear kvV0
  have hq11 := rulepure_any c w5 _ (HEc.out.keep (kept_trans Kk4.out Kk8.out))
  rw [HPC.out] at hq11
  refine hq11.mono ?_
  clear hq11
  rintro e w9 ⟨rfl, k10⟩
  have Kk12 := Lib.hid k10
  clear k10
  have kvV0 : Sees V0 (w.heap.size) w9 := sees_kept _ (kept_trans Kk8.out Kk12.out)
  go_upto_region 2 with fail
  go_wp2_with (refine stop_store 34 (.tmp 8) (.tmp 25) rfl ?_)
  intro _
  refine wpList_store_part_n (by rfl) 34 (.tmp 8) (.tmp 25) rfl (w.heap.size) 0 #[.bool false, .int .i64 0, .int .i64 0, .int .i64 0, .int .i64 0, .slice none 0 0, .int .i64 0, .int .i64 0, .int .i64 0, .int .i64 0, .slice none 0 0, .int .i64 0, .int .i64 0, .int .i64 0, .int .i64 0, .slice none 0 0, .int .i64 0] (by rfl) (by rfl) 34 (by kernel_rfl) (row_ok rfl) ?_
  intro W13 hW13
  clear kvV0
  subst hW13
  refine ⟨_, #[.bool false, .int .i64 0, .int .i64 0, .int .i64 0, .int .i64 0, .slice none 0 0, .int .i64 0, .int .i64 0, .int .i64 0, .int .i64 0, .slice none 0 0, .int .i64 0, .int .i64 0, .int .i64 0, .int .i64 0, .slice none 0 0, .int .i64 0], (blk_at Hx1.out (kept_trans Kk8.out Kk12.out)), rfl, Nat.le_of_ble_eq_true rfl, ?_⟩
  intro W14 hW14
  go_wp2_with fail
  (try simp only [Exit.inBlock, Exit.then])
  refine bodyPost_ret (results_cell_tmp rfl _ _ (w.heap.size) 34 _ _ dj rfl (blk_same (blk_at Hx1.out (kept_trans Kk8.out Kk12.out)) hW14) dj1 (by cases dj <;> first | rfl | exact dj2) (by kernel_rfl)) rfl ?_
  have jz18 := Z0.out
  have jq15 := par_end (par_row' (liesQ_nil w9 (Par w V0.heap.size [] P)) hW14 (by omega) (by omega)) (by omega)
  have jq16 := par_end (par_row' (liesQ_nil w9 (Par w V0.heap.size [] P)) hW14 (by omega) (by omega)) (by omega)
  have jq17 := par_end (par_row' (liesQ_nil w9 (Par w V0.heap.size [] P)) hW14 (by omega) (by omega)) (by omega)
  exact ⟨_, _, _, rfl, ⟨jq15, jq16, jq17⟩, kept_set (kept_trans Kk4.out (kept_trans Kk8.out Kk12.out)) hW14 (by omega)⟩

end Go.Proofs.Ytjlppnmckobcfaa
