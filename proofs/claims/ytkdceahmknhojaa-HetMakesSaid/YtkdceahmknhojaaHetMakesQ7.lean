/-
  Facts and contracts that the proof of HetMakes uses.
-/
import Derived.Test.YtkdceahmknhojaaRows
import Derived.WalkKit
import Derived.Lib.Hide
import Derived.KernelRfl
import Derived.Deep.RegionWith
import Derived.Deep.RegionHeld3
import Derived.Deep.AppendLies
import Derived.Laws.Rows
import Derived.Laws.IdiomCopy
import Derived.Deep.Slices
import Derived.Lib.QuietBelow
import Derived.StillTailTactics
import Derived.BigQuiet
import Derived.IntWalk
import Derived.OwnWalk
import Derived.Deep.RegionLaw
import Derived.Deep.QuietTactic
import Derived.Deep.LoopGhost
import Derived.Deep.DeepCutAuto
import Derived.Deep.MidRow
import Derived.OrdersHeld
import Derived.Laws.Tables
import Derived.Laws.CopyOwn
import Derived.Laws.CopyRow
import Derived.Deep.RegionHeld
import Derived.ProofKit
import Derived.OpenShut
import Derived.Carry
import Derived.ChangeSlices
import Derived.JoinedOf
import Derived.Test.YtkdceahmknhojaaHetMakesQ6
namespace Go.Proofs.Ytkdceahmknhojaa
open Go.RowKit

def hofr3_0 : Oper := { dst := some 20, op := Go.Op.move (Go.Operand.tmp 0), type := 3, pos := "het.go:95", after := #[], guard := none }
def hofr3_1 : Oper := { dst := some 21, op := Go.Op.load 32 (Go.Operand.tmp 6), type := 32, pos := "het.go:95", after := #[], guard := none }
def hofr3_2 : Oper := { dst := some 22, op := Go.Op.load 32 (Go.Operand.tmp 6), type := 32, pos := "het.go:95", after := #[], guard := none }
def hofr3_3 : Oper := { dst := some 23, op := Go.Op.load 32 (Go.Operand.tmp 7), type := 32, pos := "het.go:95", after := #[], guard := none }
def hofr3_4 : Oper := { dst := some 24, op := Go.Op.load 32 (Go.Operand.tmp 8), type := 32, pos := "het.go:95", after := #[], guard := none }
def hofr3_5 : Oper := { dst := some 25, op := Go.Op.move (Go.Operand.tmp 0), type := 3, pos := "het.go:95", after := #[], guard := none }
def hofr3_6 : Oper := { dst := some 26, op := Go.Op.load 32 (Go.Operand.tmp 6), type := 32, pos := "het.go:95", after := #[], guard := none }
def hofr3_7 : Oper := { dst := some 27, op := Go.Op.load 32 (Go.Operand.tmp 7), type := 32, pos := "het.go:95", after := #[], guard := none }
def hofr3_8 : Oper := { dst := some 28, op := Go.Op.load 32 (Go.Operand.tmp 8), type := 32, pos := "het.go:95", after := #[], guard := none }
def hofr3_9 : Oper := { dst := some 29, op := Go.Op.load 32 (Go.Operand.tmp 9), type := 32, pos := "het.go:95", after := #[], guard := none }
def hofr3_10 : Oper := { dst := some 30, op := Go.Op.buildSlice 30 4 #[(0, Go.Operand.tmp 26), (1, Go.Operand.tmp 27), (2, Go.Operand.tmp 28), (3, Go.Operand.tmp 29)], type := 30, pos := "het.go:95", after := #[{ on := 6, ground := Go.Ground.data }, { on := 7, ground := Go.Ground.data }, { on := 8, ground := Go.Ground.data }, { on := 9, ground := Go.Ground.data }], guard := none }
def hofr3_11 : Oper := { dst := some 31, op := Go.Op.call { callee := Go.Callee.value (Go.Operand.func 108), args := #[Go.Operand.const (Go.Value.int Go.IntKind.i64 11), Go.Operand.tmp 25, Go.Operand.tmp 30], argTypes := #[3, 3, 30] }, type := 32, pos := "het.go:95", after := #[{ on := 5, ground := Go.Ground.data }, { on := 10, ground := Go.Ground.data }], guard := none }
def hofr3_12 : Oper := { dst := some 32, op := Go.Op.build 51 #[(0, Go.Operand.tmp 20), (1, Go.Operand.tmp 21), (2, Go.Operand.tmp 22), (3, Go.Operand.tmp 23), (4, Go.Operand.tmp 24), (5, Go.Operand.tmp 31)], type := 51, pos := "het.go:95", after := #[{ on := 0, ground := Go.Ground.data }, { on := 1, ground := Go.Ground.data }, { on := 2, ground := Go.Ground.data }, { on := 3, ground := Go.Ground.data }, { on := 4, ground := Go.Ground.data }, { on := 11, ground := Go.Ground.data }], guard := none }
def hofr3_13 : Oper := { dst := some 33, op := Go.Op.call { callee := Go.Callee.value (Go.Operand.func 111), args := #[Go.Operand.tmp 32], argTypes := #[51] }, type := 51, pos := "het.go:95", after := #[{ on := 12, ground := Go.Ground.data }, { on := 11, ground := Go.Ground.chain }], guard := none }
def hofr3_14 : Oper := { dst := none, op := Go.Op.store 51 (Go.Operand.tmp 10) (Go.Operand.tmp 33), type := 0, pos := "het.go:95", after := #[{ on := 13, ground := Go.Ground.data }, { on := 13, ground := Go.Ground.chain }, { on := 0, ground := Go.Ground.phase }, { on := 1, ground := Go.Ground.phase }, { on := 2, ground := Go.Ground.phase }, { on := 3, ground := Go.Ground.phase }, { on := 4, ground := Go.Ground.phase }, { on := 5, ground := Go.Ground.phase }, { on := 6, ground := Go.Ground.phase }, { on := 7, ground := Go.Ground.phase }, { on := 8, ground := Go.Ground.phase }, { on := 9, ground := Go.Ground.phase }, { on := 10, ground := Go.Ground.phase }, { on := 11, ground := Go.Ground.phase }, { on := 12, ground := Go.Ground.phase }, { on := 13, ground := Go.Ground.phase }], guard := none }
set_option maxRecDepth 20000 in
set_option maxHeartbeats 4000000 in
theorem hof_any (i : Int) (a : Tm) (x : Tm) (y : Tm) (e : Tm) (P : Nat → Prop) (w : World) (sa : Value) (sx : Value) (sy : Value) (se : Value) (hri : I64 i) (hfa : a.fine) (hla : LiesQ w P a.kids sa) (hfx : x.fine) (hlx : LiesQ w P x.kids sx) (hfy : y.fine) (hly : LiesQ w P y.kids sy) (hfe : e.fine) (hle : LiesQ w P e.kids se) : Calls Try.prog 45 #[.int .i64 i, tv a sa, tv x sx, tv y sy, tv e se] w (GivesHP P (heOf i a x y e) w) := by
  have Ri := Lib.hid hri
  clear hri
  have Ga := Lib.hid hfa
  clear hfa
  obtain ⟨aa, ca, Sa, rfl, -⟩ := hla.out
  have Gx := Lib.hid hfx
  clear hfx
  obtain ⟨ax, cx, Sx, rfl, -⟩ := hlx.out
  have Gy := Lib.hid hfy
  clear hfy
  obtain ⟨ay, cy, Sy, rfl, -⟩ := hly.out
  have Ge := Lib.hid hfe
  clear hfe
  obtain ⟨ae, ce, Se, rfl, -⟩ := hle.out
  obtain ⟨du, hu1, hu2⟩ := under_term
  obtain ⟨dh, dh1, dh2⟩ := under_of 51 (by kernel_rfl)
  unfold tv
  go_enter Try.func45, Try.ntmps45
  go_upto_region 1 with fail
  refine at_code (fun V0 hV0 => ?_)
  obtain ⟨k6, x1, x2, x3, x4, x5, z7⟩ := alloc5 hV0
  have Kk8 := Lib.hid k6
  clear k6
  have Hx1 := Lib.hid x1
  have Hx2 := Lib.hid x2
  have Hx3 := Lib.hid x3
  have Hx4 := Lib.hid x4
  have Hx5 := Lib.hid x5
  have Z0 := Lib.hid z7
  clear z7 x1 x2 x3 x4 x5 hV0
  have HLa : Hid (LiesQ V0 (Par w V0.heap.size [] P) a.kids _) := (par_in _ _ hla).later Kk8.out
  clear hla
  have HLx : Hid (LiesQ V0 (Par w V0.heap.size [] P) x.kids _) := (par_in _ _ hlx).later Kk8.out
  clear hlx
  have HLy : Hid (LiesQ V0 (Par w V0.heap.size [] P) y.kids _) := (par_in _ _ hly).later Kk8.out
  clear hly
  have HLe : Hid (LiesQ V0 (Par w V0.heap.size [] P) e.kids _) := (par_in _ _ hle).later Kk8.out
  clear hle
  have kvV0 : Sees V0 (w.heap.size + 4) V0 := sees_kept _ (kept_refl _)
  go_wp2_with (refine stop_load 32 (.tmp 6) rfl ?_)
  intro _
  refine wpList_load_part (w.heap.size) 0 32 (.tmp 6) #[.int .i64 a.k, .int .i64 a.i, .int .i64 a.j, .int .i64 a.n, (.slice aa a.kids.length ca)] du Hx1.out (by rfl) rfl (by rfl) (by rfl) hu1 (by cases du <;> first | rfl | exact hu2) size_term ?_
  go_wp2_with (refine stop_load 32 (.tmp 7) rfl ?_)
  intro _
  refine wpList_load_part (w.heap.size + 1) 0 32 (.tmp 7) #[.int .i64 x.k, .int .i64 x.i, .int .i64 x.j, .int .i64 x.n, (.slice ax x.kids.length cx)] du Hx2.out (by rfl) rfl (by rfl) (by rfl) hu1 (by cases du <;> first | rfl | exact hu2) size_term ?_
  go_wp2_with (refine stop_load 32 (.tmp 8) rfl ?_)
  intro _
  refine wpList_load_part (w.heap.size + 2) 0 32 (.tmp 8) #[.int .i64 y.k, .int .i64 y.i, .int .i64 y.j, .int .i64 y.n, (.slice ay y.kids.length cy)] du Hx3.out (by rfl) rfl (by rfl) (by rfl) hu1 (by cases du <;> first | rfl | exact hu2) size_term ?_
  go_wp2_with (refine stop_load 32 (.tmp 9) rfl ?_)
  intro _
  refine wpList_load_part (w.heap.size + 3) 0 32 (.tmp 9) #[.int .i64 e.k, .int .i64 e.i, .int .i64 e.j, .int .i64 e.n, (.slice ae e.kids.length ce)] du Hx4.out (by rfl) rfl (by rfl) (by rfl) hu1 (by cases du <;> first | rfl | exact hu2) size_term ?_
  go_wp2_with fail
  refine at_world (fun W10 hW10 => ?_)
  clear kvV0
  obtain ⟨k12, x11, z13⟩ := alloc1 hW10
  have Kk14 := Lib.hid k12
  clear k12
  have Hx11 := Lib.hid x11
  have Hz13 := Lib.hid z13
  clear x11 z13 hW10
  have HR15 : Hid (LiesQ W10 (Par w V0.heap.size [] P) [a, x, y, e] (.slice (some ⟨V0.heap.size, 0, none⟩) 4 4)) := q_row [(a, (.slice aa a.kids.length ca)), (x, (.slice ax x.kids.length cx)), (y, (.slice ay y.kids.length cy)), (e, (.slice ae e.kids.length ce))] _ rfl Hx11.out (par_new (Nat.le_refl _) (xlt_nil _) (Nat.le_refl _)) (fun p hp => by
    simp only [List.mem_cons, List.not_mem_nil, or_false] at hp
    rcases hp with rfl | rfl | rfl | rfl
    · exact ⟨Ga.out, (HLa.out.later Kk14.out)⟩
    · exact ⟨Gx.out, (HLx.out.later Kk14.out)⟩
    · exact ⟨Gy.out, (HLy.out.later Kk14.out)⟩
    · exact ⟨Ge.out, (HLe.out.later Kk14.out)⟩) (Nat.le_of_ble_eq_true rfl)
  refine (hright_any i [a, x, y, e] _ _ HR15.out.lies).mono ?_
  obtain ⟨rb19, hb18⟩ : ∃ qb, heR2 i [a, x, y, e] = qb := ⟨_, rfl⟩
  rw [hb18]
  have Hhb18 := Lib.hid hb18
  clear hb18
  rintro e w16 ⟨rfl, k17⟩
  have Kk20 := Lib.hid k17
  clear k17
  cases rb19 with
  | false =>
    have kvV0 : Sees V0 (w.heap.size + 4) w16 := sees_kept _ (kept_trans Kk14.out Kk20.out)
    go_wp2_with (refine stop_store 51 (.tmp 10) (.tmp 19) rfl ?_)
    intro _
    refine wpList_store_part_n (by rfl) 51 (.tmp 10) (.tmp 19) rfl (w.heap.size + 4) 0 #[.int .i64 0, .int .i64 0, .int .i64 0, .int .i64 0, .int .i64 0, .slice none 0 0, .int .i64 0, .int .i64 0, .int .i64 0, .int .i64 0, .slice none 0 0, .int .i64 0, .int .i64 0, .int .i64 0, .int .i64 0, .slice none 0 0, .int .i64 0, .int .i64 0, .int .i64 0, .int .i64 0, .slice none 0 0, .int .i64 0, .int .i64 0, .int .i64 0, .int .i64 0, .slice none 0 0] (by rfl) (by rfl) 51 (by kernel_rfl) (row_ok rfl) ?_
    intro W21 hW21
    clear kvV0
    subst hW21
    refine ⟨_, #[.int .i64 0, .int .i64 0, .int .i64 0, .int .i64 0, .int .i64 0, .slice none 0 0, .int .i64 0, .int .i64 0, .int .i64 0, .int .i64 0, .slice none 0 0, .int .i64 0, .int .i64 0, .int .i64 0, .int .i64 0, .slice none 0 0, .int .i64 0, .int .i64 0, .int .i64 0, .int .i64 0, .slice none 0 0, .int .i64 0, .int .i64 0, .int .i64 0, .int .i64 0, .slice none 0 0], (blk_at Hx5.out (kept_trans Kk14.out Kk20.out)), rfl, Nat.le_of_ble_eq_true rfl, ?_⟩
    intro W22 hW22
    go_wp2_with fail
    refine bodyPost_ret (results_cell_row rfl _ _ (w.heap.size + 4) 51 _ _ dh rfl (blk_same (blk_at Hx5.out (kept_trans Kk14.out Kk20.out)) hW22) dh1 (by cases dh <;> first | rfl | exact dh2) (by kernel_rfl)) rfl ?_
    rw [show heOf i a x y e = (⟨0, (.mk 0 0 0 0 []), (.mk 0 0 0 0 []), (.mk 0 0 0 0 []), (.mk 0 0 0 0 []), (.mk 0 0 0 0 [])⟩ : He) from by unfold heOf; rw [Hhb18.out]; (try rfl)]
    exact ⟨_, _, _, _, _, rfl, ⟨par_end (par_row' (liesQ_nil w16 (Par w V0.heap.size [] P)) hW22 (by omega) (by have := Z0.out; omega)) (by have := Z0.out; omega), par_end (par_row' (liesQ_nil w16 (Par w V0.heap.size [] P)) hW22 (by omega) (by have := Z0.out; omega)) (by have := Z0.out; omega), par_end (par_row' (liesQ_nil w16 (Par w V0.heap.size [] P)) hW22 (by omega) (by have := Z0.out; omega)) (by have := Z0.out; omega), par_end (par_row' (liesQ_nil w16 (Par w V0.heap.size [] P)) hW22 (by omega) (by have := Z0.out; omega)) (by have := Z0.out; omega), par_end (par_row' (liesQ_nil w16 (Par w V0.heap.size [] P)) hW22 (by omega) (by have := Z0.out; omega)) (by have := Z0.out; omega)⟩, kept_set (kept_trans Kk8.out (kept_trans Kk14.out Kk20.out)) hW22 (by omega)⟩
  | true =>
    have ew23 : IntKind.i64.wrap (i + 1) = i + 1 := IntWalk.i64_in _ (by have := levN_true (heR2_lev Hhb18.out); omega)
    have kvV0 : Sees V0 (w.heap.size + 4) w16 := sees_kept _ (kept_trans Kk14.out Kk20.out)
    go_wp2_with fail
    clear kvV0
    obtain ⟨W24, h25⟩ : ∃ x, World.drew w16 = x := ⟨_, rfl⟩
    have k26 : Kept w16 W24 := by rw [← h25]; exact kept_drew (kept_refl _)
    have Kk27 := Lib.hid k26
    clear k26
    refine wp_region_held_drew (S := Sees W24 (w.heap.size + 4)) (by kernel_rfl) ?_ (fun hHeld => ?_)
    · (try dsimp only)
      rw [h25]
      exact sees_kept _ (kept_refl _)
    rw [h25] at hHeld ⊢
    clear h25
    refine take_at 0 20 hofr3_0 (v := ?_) (Or.inl ⟨by rfl, ?_⟩) ?_
    rotate_left 1
    · ((intro w hSw; (try dsimp only at hSw); unfold hofr3_0; go_simp) <;> with_reducible rfl)
    (try simp only [Act.put, List.setIfInBounds_toArray, List.set_cons_zero, List.set_cons_succ])
    refine take_at 1 21 hofr3_1 (yields_part (w.heap.size) 0 32 (.tmp 6) #[.int .i64 a.k, .int .i64 a.i, .int .i64 a.j, .int .i64 a.n, (.slice aa a.kids.length ca)] du (fun _ h => sees_blk Hx1.out (by have := Z0.out; omega) (sees_of (kept_trans Kk14.out (kept_trans Kk20.out Kk27.out)) h)) (by rfl) rfl (by rfl) (by rfl) hu1 (by cases du <;> first | rfl | exact hu2) size_term) ?_
    (try simp only [Act.put, List.setIfInBounds_toArray, List.set_cons_zero, List.set_cons_succ])
    refine take_at 2 22 hofr3_2 (yields_part (w.heap.size) 0 32 (.tmp 6) #[.int .i64 a.k, .int .i64 a.i, .int .i64 a.j, .int .i64 a.n, (.slice aa a.kids.length ca)] du (fun _ h => sees_blk Hx1.out (by have := Z0.out; omega) (sees_of (kept_trans Kk14.out (kept_trans Kk20.out Kk27.out)) h)) (by rfl) rfl (by rfl) (by rfl) hu1 (by cases du <;> first | rfl | exact hu2) size_term) ?_
    (try simp only [Act.put, List.setIfInBounds_toArray, List.set_cons_zero, List.set_cons_succ])
    refine take_at 3 23 hofr3_3 (yields_part (w.heap.size + 1) 0 32 (.tmp 7) #[.int .i64 x.k, .int .i64 x.i, .int .i64 x.j, .int .i64 x.n, (.slice ax x.kids.length cx)] du (fun _ h => sees_blk Hx2.out (by have := Z0.out; omega) (sees_of (kept_trans Kk14.out (kept_trans Kk20.out Kk27.out)) h)) (by rfl) rfl (by rfl) (by rfl) hu1 (by cases du <;> first | rfl | exact hu2) size_term) ?_
    (try simp only [Act.put, List.setIfInBounds_toArray, List.set_cons_zero, List.set_cons_succ])
    refine take_at 4 24 hofr3_4 (yields_part (w.heap.size + 2) 0 32 (.tmp 8) #[.int .i64 y.k, .int .i64 y.i, .int .i64 y.j, .int .i64 y.n, (.slice ay y.kids.length cy)] du (fun _ h => sees_blk Hx3.out (by have := Z0.out; omega) (sees_of (kept_trans Kk14.out (kept_trans Kk20.out Kk27.out)) h)) (by rfl) rfl (by rfl) (by rfl) hu1 (by cases du <;> first | rfl | exact hu2) size_term) ?_
    (try simp only [Act.put, List.setIfInBounds_toArray, List.set_cons_zero, List.set_cons_succ])
    refine take_at 5 25 hofr3_5 (v := ?_) (Or.inl ⟨by rfl, ?_⟩) ?_
    rotate_left 1
    · ((intro w hSw; (try dsimp only at hSw); unfold hofr3_5; go_simp) <;> with_reducible rfl)
    (try simp only [Act.put, List.setIfInBounds_toArray, List.set_cons_zero, List.set_cons_succ])
    refine take_at 6 26 hofr3_6 (yields_part (w.heap.size) 0 32 (.tmp 6) #[.int .i64 a.k, .int .i64 a.i, .int .i64 a.j, .int .i64 a.n, (.slice aa a.kids.length ca)] du (fun _ h => sees_blk Hx1.out (by have := Z0.out; omega) (sees_of (kept_trans Kk14.out (kept_trans Kk20.out Kk27.out)) h)) (by rfl) rfl (by rfl) (by rfl) hu1 (by cases du <;> first | rfl | exact hu2) size_term) ?_
    (try simp only [Act.put, List.setIfInBounds_toArray, List.set_cons_zero, List.set_cons_succ])
    refine take_at 7 27 hofr3_7 (yields_part (w.heap.size + 1) 0 32 (.tmp 7) #[.int .i64 x.k, .int .i64 x.i, .int .i64 x.j, .int .i64 x.n, (.slice ax x.kids.length cx)] du (fun _ h => sees_blk Hx2.out (by have := Z0.out; omega) (sees_of (kept_trans Kk14.out (kept_trans Kk20.out Kk27.out)) h)) (by rfl) rfl (by rfl) (by rfl) hu1 (by cases du <;> first | rfl | exact hu2) size_term) ?_
    (try simp only [Act.put, List.setIfInBounds_toArray, List.set_cons_zero, List.set_cons_succ])
    refine take_at 8 28 hofr3_8 (yields_part (w.heap.size + 2) 0 32 (.tmp 8) #[.int .i64 y.k, .int .i64 y.i, .int .i64 y.j, .int .i64 y.n, (.slice ay y.kids.length cy)] du (fun _ h => sees_blk Hx3.out (by have := Z0.out; omega) (sees_of (kept_trans Kk14.out (kept_trans Kk20.out Kk27.out)) h)) (by rfl) rfl (by rfl) (by rfl) hu1 (by cases du <;> first | rfl | exact hu2) size_term) ?_
    (try simp only [Act.put, List.setIfInBounds_toArray, List.set_cons_zero, List.set_cons_succ])
    refine take_at 9 29 hofr3_9 (yields_part (w.heap.size + 3) 0 32 (.tmp 9) #[.int .i64 e.k, .int .i64 e.i, .int .i64 e.j, .int .i64 e.n, (.slice ae e.kids.length ce)] du (fun _ h => sees_blk Hx4.out (by have := Z0.out; omega) (sees_of (kept_trans Kk14.out (kept_trans Kk20.out Kk27.out)) h)) (by rfl) rfl (by rfl) (by rfl) hu1 (by cases du <;> first | rfl | exact hu2) size_term) ?_
    (try simp only [Act.put, List.setIfInBounds_toArray, List.set_cons_zero, List.set_cons_succ])
    refine wpAnyH_ready (rs := [10]) (by kernel_rfl) (by simp) ?_
    refine AllReadyH.cons (o := hofr3_10) rfl (fun K hK => ?_) ?_
    · unfold hofr3_10
      go_simp
      refine at_K (fun W29 hW29 => ?_)
      obtain ⟨k31, x30, z32⟩ := alloc1 hW29
      have Kk33 := Lib.hid k31
      clear k31
      have Hx30 := Lib.hid x30
      have Hz32 := Lib.hid z32
      clear x30 z32 hW29
      have HR34 : Hid (LiesQ W29 (Par w V0.heap.size [] P) [a, x, y, e] (.slice (some ⟨W24.heap.size, 0, none⟩) 4 4)) := q_row [(a, (.slice aa a.kids.length ca)), (x, (.slice ax x.kids.length cx)), (y, (.slice ay y.kids.length cy)), (e, (.slice ae e.kids.length ce))] _ rfl Hx30.out (par_new (Below.size (kept_trans Kk14.out (kept_trans Kk20.out Kk27.out))) (xlt_nil _) (Nat.le_refl _)) (fun p hp => by
        simp only [List.mem_cons, List.not_mem_nil, or_false] at hp
        rcases hp with rfl | rfl | rfl | rfl
        · exact ⟨Ga.out, (HLa.out.later (kept_trans Kk14.out (kept_trans Kk20.out (kept_trans Kk27.out Kk33.out))))⟩
        · exact ⟨Gx.out, (HLx.out.later (kept_trans Kk14.out (kept_trans Kk20.out (kept_trans Kk27.out Kk33.out))))⟩
        · exact ⟨Gy.out, (HLy.out.later (kept_trans Kk14.out (kept_trans Kk20.out (kept_trans Kk27.out Kk33.out))))⟩
        · exact ⟨Ge.out, (HLe.out.later (kept_trans Kk14.out (kept_trans Kk20.out (kept_trans Kk27.out Kk33.out))))⟩) (Nat.le_of_ble_eq_true rfl)
      clear hHeld
      refine hK.out _ _ ?_ (fun hHeld => ?_)
      · (try dsimp only)
        exact sees_kept _ Kk33.out
      clear hK K
      (try simp only [Act.put, List.setIfInBounds_toArray, List.set_cons_zero, List.set_cons_succ])
      refine wpAnyH_ready (rs := [11]) (by kernel_rfl) (by simp) ?_
      refine AllReadyH.cons (o := hofr3_11) rfl (fun K hK => ?_) ?_
      · unfold hofr3_11
        go_simp
        refine (huse_any 11 i [a, x, y, e] (Par w V0.heap.size [] P) _ _ (show I64 11 from by unfold I64; decide) Ri.out HR34.out (fun x hx => by
          simp only [List.mem_cons, List.not_mem_nil, or_false] at hx
          rcases hx with rfl | rfl | rfl | rfl
          · exact (heR2_pl Hhb18.out _ (by simp))
          · exact (heR2_pl Hhb18.out _ (by simp))
          · exact (heR2_pl Hhb18.out _ (by simp))
          · exact (heR2_pl Hhb18.out _ (by simp))) (Nat.le_of_ble_eq_true rfl)).mono ?_
        obtain ⟨U42, hU42⟩ : ∃ qu, useT 11 i 0 [a, x, y, e] = qu := ⟨_, rfl⟩
        rw [hU42]
        have HU42 := Lib.hid hU42
        clear hU42
        rintro e w35 ⟨s37, rfl, hl38, k36⟩
        obtain ⟨a39, c40, S41, rfl, -⟩ := hl38.out
        have Kk43 := Lib.hid k36
        clear k36
        have Hhl38 : Hid (LiesQ w35 (Par w V0.heap.size [] P) U42.kids _) := par_give hl38 (Below.size (kept_trans Kk14.out (kept_trans Kk20.out (kept_trans Kk27.out Kk33.out)))) (xlt_nil _)
        clear hl38
        clear hHeld
        refine hK.out _ _ ?_ (fun hHeld => ?_)
        · (try dsimp only)
          exact sees_kept _ (kept_trans Kk33.out Kk43.out)
        clear hK K
        (try simp only [Act.put, List.setIfInBounds_toArray, List.set_cons_zero, List.set_cons_succ])
        refine take_at 12 32 hofr3_12 (v := ?_) (Or.inl ⟨by rfl, ?_⟩) ?_
        rotate_left 1
        · ((intro w hSw; (try dsimp only at hSw); unfold hofr3_12; go_simp) <;> with_reducible rfl)
        (try simp only [Act.put, List.setIfInBounds_toArray, List.set_cons_zero, List.set_cons_succ])
        refine wpAnyH_ready (rs := [13]) (by kernel_rfl) (by simp) ?_
        refine AllReadyH.cons (o := hofr3_13) rfl (fun K hK => ?_) ?_
        · unfold hofr3_13
          go_simp
          refine (hfresh_any (⟨i, a, a, x, y, U42⟩ : He) (Par w V0.heap.size [] P) _ (.slice aa a.kids.length ca) (.slice aa a.kids.length ca) (.slice ax x.kids.length cx) (.slice ay y.kids.length cy) (.slice a39 U42.kids.length c40) ⟨Ri.out, Ga.out, Ga.out, Gx.out, Gy.out, (by rw [← HU42.out]; exact (use_fine (show I64 11 from by unfold I64; decide) Ri.out (by unfold I64; decide)))⟩ ⟨(HLa.out.later (kept_trans Kk14.out (kept_trans Kk20.out (kept_trans Kk27.out (kept_trans Kk33.out Kk43.out))))), (HLa.out.later (kept_trans Kk14.out (kept_trans Kk20.out (kept_trans Kk27.out (kept_trans Kk33.out Kk43.out))))), (HLx.out.later (kept_trans Kk14.out (kept_trans Kk20.out (kept_trans Kk27.out (kept_trans Kk33.out Kk43.out))))), (HLy.out.later (kept_trans Kk14.out (kept_trans Kk20.out (kept_trans Kk27.out (kept_trans Kk33.out Kk43.out))))), Hhl38.out⟩ (heR2_pl Hhb18.out _ (by simp)) (heR2_pl Hhb18.out _ (by simp)) (heR2_pl Hhb18.out _ (by simp)) (heR2_pl Hhb18.out _ (by simp))).mono ?_
          obtain ⟨U46, hU46⟩ : ∃ qu, (⟨i, a, a, x, y, U42⟩ : He) = qu := ⟨_, rfl⟩
          rw [hU46]
          have HU46 := Lib.hid hU46
          clear hU46
          rintro e w44 ⟨s47, s48, s49, s50, s51, rfl, ⟨hl52, hl53, hl54, hl55, hl56⟩, k45⟩
          obtain ⟨a57, c58, S59, rfl, -⟩ := hl52.out
          obtain ⟨a60, c61, S62, rfl, -⟩ := hl53.out
          obtain ⟨a63, c64, S65, rfl, -⟩ := hl54.out
          obtain ⟨a66, c67, S68, rfl, -⟩ := hl55.out
          obtain ⟨a69, c70, S71, rfl, -⟩ := hl56.out
          have Kk72 := Lib.hid k45
          clear k45
          have Hhl52 : Hid (LiesQ w44 (Par w V0.heap.size [] P) U46.a.kids _) := par_give hl52 (Below.size (kept_trans Kk14.out (kept_trans Kk20.out (kept_trans Kk27.out (kept_trans Kk33.out Kk43.out))))) (xlt_nil _)
          have Hhl53 : Hid (LiesQ w44 (Par w V0.heap.size [] P) U46.b.kids _) := par_give hl53 (Below.size (kept_trans Kk14.out (kept_trans Kk20.out (kept_trans Kk27.out (kept_trans Kk33.out Kk43.out))))) (xlt_nil _)
          have Hhl54 : Hid (LiesQ w44 (Par w V0.heap.size [] P) U46.x.kids _) := par_give hl54 (Below.size (kept_trans Kk14.out (kept_trans Kk20.out (kept_trans Kk27.out (kept_trans Kk33.out Kk43.out))))) (xlt_nil _)
          have Hhl55 : Hid (LiesQ w44 (Par w V0.heap.size [] P) U46.y.kids _) := par_give hl55 (Below.size (kept_trans Kk14.out (kept_trans Kk20.out (kept_trans Kk27.out (kept_trans Kk33.out Kk43.out))))) (xlt_nil _)
          have Hhl56 : Hid (LiesQ w44 (Par w V0.heap.size [] P) U46.h.kids _) := par_give hl56 (Below.size (kept_trans Kk14.out (kept_trans Kk20.out (kept_trans Kk27.out (kept_trans Kk33.out Kk43.out))))) (xlt_nil _)
          clear hl52 hl53 hl54 hl55 hl56
          clear hHeld
          refine hK.out _ _ ?_ (fun hHeld => ?_)
          · (try dsimp only)
            exact sees_kept _ (kept_trans Kk33.out (kept_trans Kk43.out Kk72.out))
          clear hK K
          (try simp only [Act.put, List.setIfInBounds_toArray, List.set_cons_zero, List.set_cons_succ])
          refine wpAnyH_ready (rs := [14]) (by kernel_rfl) (by simp) ?_
          refine AllReadyH.cons (o := hofr3_14) rfl (fun K hK => ?_) ?_
          · unfold hofr3_14
            refine step_store_part rfl 51 (.tmp 10) (.tmp 33) rfl (w.heap.size + 4) 0 #[.int .i64 U46.i, .int .i64 U46.a.k, .int .i64 U46.a.i, .int .i64 U46.a.j, .int .i64 U46.a.n, (.slice a57 U46.a.kids.length c58), .int .i64 U46.b.k, .int .i64 U46.b.i, .int .i64 U46.b.j, .int .i64 U46.b.n, (.slice a60 U46.b.kids.length c61), .int .i64 U46.x.k, .int .i64 U46.x.i, .int .i64 U46.x.j, .int .i64 U46.x.n, (.slice a63 U46.x.kids.length c64), .int .i64 U46.y.k, .int .i64 U46.y.i, .int .i64 U46.y.j, .int .i64 U46.y.n, (.slice a66 U46.y.kids.length c67), .int .i64 U46.h.k, .int .i64 U46.h.i, .int .i64 U46.h.j, .int .i64 U46.h.n, (.slice a69 U46.h.kids.length c70)] rfl rfl 51 (by kernel_rfl) (row_ok rfl) _ #[.int .i64 U46.i, .int .i64 U46.a.k, .int .i64 U46.a.i, .int .i64 U46.a.j, .int .i64 U46.a.n, (.slice a57 U46.a.kids.length c58), .int .i64 U46.b.k, .int .i64 U46.b.i, .int .i64 U46.b.j, .int .i64 U46.b.n, (.slice a60 U46.b.kids.length c61), .int .i64 U46.x.k, .int .i64 U46.x.i, .int .i64 U46.x.j, .int .i64 U46.x.n, (.slice a63 U46.x.kids.length c64), .int .i64 U46.y.k, .int .i64 U46.y.i, .int .i64 U46.y.j, .int .i64 U46.y.n, (.slice a66 U46.y.kids.length c67), .int .i64 U46.h.k, .int .i64 U46.h.i, .int .i64 U46.h.j, .int .i64 U46.h.n, (.slice a69 U46.h.kids.length c70)] (blk_at Hx5.out (kept_trans Kk14.out (kept_trans Kk20.out (kept_trans Kk27.out (kept_trans Kk33.out (kept_trans Kk43.out Kk72.out)))))) rfl (Nat.le_of_ble_eq_true rfl) ?_
            intro W73 hW73
            clear hHeld
            refine hK.out _ _ ?_ (fun hHeld => ?_)
            · (try dsimp only)
              exact sees_set (kept_trans Kk33.out (kept_trans Kk43.out Kk72.out)) hW73
            clear hK K
            (try simp only [Act.put])
            refine wpAnyH_done (by kernel_rfl) ?_ _
            clear hHeld
            go_wp2_with fail
            refine bodyPost_ret (results_cell_row rfl _ _ (w.heap.size + 4) 51 _ _ dh rfl (blk_same (blk_at Hx5.out (kept_trans Kk14.out (kept_trans Kk20.out (kept_trans Kk27.out (kept_trans Kk33.out (kept_trans Kk43.out Kk72.out)))))) hW73) dh1 (by cases dh <;> first | rfl | exact dh2) (by kernel_rfl)) rfl ?_
            rw [show heOf i a x y e = U46 from by unfold heOf; rw [Hhb18.out]; rw [← HU46.out]; rw [← HU42.out]; (try rfl)]
            exact ⟨_, _, _, _, _, rfl, ⟨par_end (par_row' Hhl52.out hW73 (by omega) (by have := Z0.out; omega)) (by have := Z0.out; omega), par_end (par_row' Hhl53.out hW73 (by omega) (by have := Z0.out; omega)) (by have := Z0.out; omega), par_end (par_row' Hhl54.out hW73 (by omega) (by have := Z0.out; omega)) (by have := Z0.out; omega), par_end (par_row' Hhl55.out hW73 (by omega) (by have := Z0.out; omega)) (by have := Z0.out; omega), par_end (par_row' Hhl56.out hW73 (by omega) (by have := Z0.out; omega)) (by have := Z0.out; omega)⟩, kept_set (kept_trans Kk8.out (kept_trans Kk14.out (kept_trans Kk20.out (kept_trans Kk27.out (kept_trans Kk33.out (kept_trans Kk43.out Kk72.out)))))) hW73 (by omega)⟩
          exact AllReadyH.nil
        exact AllReadyH.nil
      exact AllReadyH.nil
    exact AllReadyH.nil

def hmovedr3_0 : Oper := { dst := some 20, op := Go.Op.move (Go.Operand.tmp 0), type := 3, pos := "het.go:103", after := #[], guard := none }
def hmovedr3_1 : Oper := { dst := some 21, op := Go.Op.load 32 (Go.Operand.tmp 6), type := 32, pos := "het.go:103", after := #[], guard := none }
def hmovedr3_2 : Oper := { dst := some 22, op := Go.Op.load 32 (Go.Operand.tmp 7), type := 32, pos := "het.go:103", after := #[], guard := none }
def hmovedr3_3 : Oper := { dst := some 23, op := Go.Op.load 32 (Go.Operand.tmp 9), type := 32, pos := "het.go:103", after := #[], guard := none }
def hmovedr3_4 : Oper := { dst := some 24, op := Go.Op.move (Go.Operand.tmp 0), type := 3, pos := "het.go:103", after := #[], guard := none }
def hmovedr3_5 : Oper := { dst := some 25, op := Go.Op.load 32 (Go.Operand.tmp 6), type := 32, pos := "het.go:103", after := #[], guard := none }
def hmovedr3_6 : Oper := { dst := some 26, op := Go.Op.load 32 (Go.Operand.tmp 7), type := 32, pos := "het.go:103", after := #[], guard := none }
def hmovedr3_7 : Oper := { dst := some 27, op := Go.Op.load 32 (Go.Operand.tmp 8), type := 32, pos := "het.go:103", after := #[], guard := none }
def hmovedr3_8 : Oper := { dst := some 28, op := Go.Op.load 32 (Go.Operand.tmp 9), type := 32, pos := "het.go:103", after := #[], guard := none }
def hmovedr3_9 : Oper := { dst := some 29, op := Go.Op.buildSlice 30 4 #[(0, Go.Operand.tmp 25), (1, Go.Operand.tmp 26), (2, Go.Operand.tmp 27), (3, Go.Operand.tmp 28)], type := 30, pos := "het.go:103", after := #[{ on := 5, ground := Go.Ground.data }, { on := 6, ground := Go.Ground.data }, { on := 7, ground := Go.Ground.data }, { on := 8, ground := Go.Ground.data }], guard := none }
def hmovedr3_10 : Oper := { dst := some 30, op := Go.Op.call { callee := Go.Callee.value (Go.Operand.func 108), args := #[Go.Operand.const (Go.Value.int Go.IntKind.i64 5), Go.Operand.tmp 24, Go.Operand.tmp 29], argTypes := #[3, 3, 30] }, type := 32, pos := "het.go:103", after := #[{ on := 4, ground := Go.Ground.data }, { on := 9, ground := Go.Ground.data }], guard := none }
def hmovedr3_11 : Oper := { dst := some 31, op := Go.Op.move (Go.Operand.tmp 0), type := 3, pos := "het.go:103", after := #[], guard := none }
def hmovedr3_12 : Oper := { dst := some 32, op := Go.Op.load 32 (Go.Operand.tmp 6), type := 32, pos := "het.go:103", after := #[], guard := none }
def hmovedr3_13 : Oper := { dst := some 33, op := Go.Op.load 32 (Go.Operand.tmp 7), type := 32, pos := "het.go:103", after := #[], guard := none }
def hmovedr3_14 : Oper := { dst := some 34, op := Go.Op.load 32 (Go.Operand.tmp 8), type := 32, pos := "het.go:103", after := #[], guard := none }
def hmovedr3_15 : Oper := { dst := some 35, op := Go.Op.load 32 (Go.Operand.tmp 9), type := 32, pos := "het.go:103", after := #[], guard := none }
def hmovedr3_16 : Oper := { dst := some 36, op := Go.Op.buildSlice 30 4 #[(0, Go.Operand.tmp 32), (1, Go.Operand.tmp 33), (2, Go.Operand.tmp 34), (3, Go.Operand.tmp 35)], type := 30, pos := "het.go:103", after := #[{ on := 12, ground := Go.Ground.data }, { on := 13, ground := Go.Ground.data }, { on := 14, ground := Go.Ground.data }, { on := 15, ground := Go.Ground.data }], guard := none }
def hmovedr3_17 : Oper := { dst := some 37, op := Go.Op.call { callee := Go.Callee.value (Go.Operand.func 108), args := #[Go.Operand.const (Go.Value.int Go.IntKind.i64 8), Go.Operand.tmp 31, Go.Operand.tmp 36], argTypes := #[3, 3, 30] }, type := 32, pos := "het.go:103", after := #[{ on := 11, ground := Go.Ground.data }, { on := 16, ground := Go.Ground.data }, { on := 10, ground := Go.Ground.chain }], guard := none }
def hmovedr3_18 : Oper := { dst := some 38, op := Go.Op.build 51 #[(0, Go.Operand.tmp 20), (1, Go.Operand.tmp 21), (2, Go.Operand.tmp 22), (3, Go.Operand.tmp 23), (4, Go.Operand.tmp 30), (5, Go.Operand.tmp 37)], type := 51, pos := "het.go:103", after := #[{ on := 0, ground := Go.Ground.data }, { on := 1, ground := Go.Ground.data }, { on := 2, ground := Go.Ground.data }, { on := 3, ground := Go.Ground.data }, { on := 10, ground := Go.Ground.data }, { on := 17, ground := Go.Ground.data }], guard := none }
def hmovedr3_19 : Oper := { dst := some 39, op := Go.Op.call { callee := Go.Callee.value (Go.Operand.func 111), args := #[Go.Operand.tmp 38], argTypes := #[51] }, type := 51, pos := "het.go:103", after := #[{ on := 18, ground := Go.Ground.data }, { on := 17, ground := Go.Ground.chain }], guard := none }
def hmovedr3_20 : Oper := { dst := none, op := Go.Op.store 51 (Go.Operand.tmp 10) (Go.Operand.tmp 39), type := 0, pos := "het.go:103", after := #[{ on := 19, ground := Go.Ground.data }, { on := 19, ground := Go.Ground.chain }, { on := 0, ground := Go.Ground.phase }, { on := 1, ground := Go.Ground.phase }, { on := 2, ground := Go.Ground.phase }, { on := 3, ground := Go.Ground.phase }, { on := 4, ground := Go.Ground.phase }, { on := 5, ground := Go.Ground.phase }, { on := 6, ground := Go.Ground.phase }, { on := 7, ground := Go.Ground.phase }, { on := 8, ground := Go.Ground.phase }, { on := 9, ground := Go.Ground.phase }, { on := 10, ground := Go.Ground.phase }, { on := 11, ground := Go.Ground.phase }, { on := 12, ground := Go.Ground.phase }, { on := 13, ground := Go.Ground.phase }, { on := 14, ground := Go.Ground.phase }, { on := 15, ground := Go.Ground.phase }, { on := 16, ground := Go.Ground.phase }, { on := 17, ground := Go.Ground.phase }, { on := 18, ground := Go.Ground.phase }, { on := 19, ground := Go.Ground.phase }], guard := none }
set_option maxRecDepth 20000 in
set_option maxHeartbeats 4000000 in
theorem hmoved_any (i : Int) (a : Tm) (b : Tm) (p : Tm) (x : Tm) (P : Nat → Prop) (w : World) (sa : Value) (sb : Value) (sp : Value) (sx : Value) (hri : I64 i) (hfa : a.fine) (hla : LiesQ w P a.kids sa) (hfb : b.fine) (hlb : LiesQ w P b.kids sb) (hfp : p.fine) (hlp : LiesQ w P p.kids sp) (hfx : x.fine) (hlx : LiesQ w P x.kids sx) : Calls Try.prog 47 #[.int .i64 i, tv a sa, tv b sb, tv p sp, tv x sx] w (GivesHP P (heMoved i a b p x) w) := by
  have Ri := Lib.hid hri
  clear hri
  have Ga := Lib.hid hfa
  clear hfa
  obtain ⟨aa, ca, Sa, rfl, -⟩ := hla.out
  have Gb := Lib.hid hfb
  clear hfb
  obtain ⟨ab, cb, Sb, rfl, -⟩ := hlb.out
  have Gp := Lib.hid hfp
  clear hfp
  obtain ⟨ap, cp, Sp, rfl, -⟩ := hlp.out
  have Gx := Lib.hid hfx
  clear hfx
  obtain ⟨ax, cx, Sx, rfl, -⟩ := hlx.out
  obtain ⟨du, hu1, hu2⟩ := under_term
  obtain ⟨dh, dh1, dh2⟩ := under_of 51 (by kernel_rfl)
  unfold tv
  go_enter Try.func47, Try.ntmps47
  go_upto_region 1 with fail
  refine at_code (fun V0 hV0 => ?_)
  obtain ⟨k6, x1, x2, x3, x4, x5, z7⟩ := alloc5 hV0
  have Kk8 := Lib.hid k6
  clear k6
  have Hx1 := Lib.hid x1
  have Hx2 := Lib.hid x2
  have Hx3 := Lib.hid x3
  have Hx4 := Lib.hid x4
  have Hx5 := Lib.hid x5
  have Z0 := Lib.hid z7
  clear z7 x1 x2 x3 x4 x5 hV0
  have HLa : Hid (LiesQ V0 (Par w V0.heap.size [] P) a.kids _) := (par_in _ _ hla).later Kk8.out
  clear hla
  have HLb : Hid (LiesQ V0 (Par w V0.heap.size [] P) b.kids _) := (par_in _ _ hlb).later Kk8.out
  clear hlb
  have HLp : Hid (LiesQ V0 (Par w V0.heap.size [] P) p.kids _) := (par_in _ _ hlp).later Kk8.out
  clear hlp
  have HLx : Hid (LiesQ V0 (Par w V0.heap.size [] P) x.kids _) := (par_in _ _ hlx).later Kk8.out
  clear hlx
  have kvV0 : Sees V0 (w.heap.size + 4) V0 := sees_kept _ (kept_refl _)
  go_wp2_with (refine stop_load 32 (.tmp 6) rfl ?_)
  intro _
  refine wpList_load_part (w.heap.size) 0 32 (.tmp 6) #[.int .i64 a.k, .int .i64 a.i, .int .i64 a.j, .int .i64 a.n, (.slice aa a.kids.length ca)] du Hx1.out (by rfl) rfl (by rfl) (by rfl) hu1 (by cases du <;> first | rfl | exact hu2) size_term ?_
  go_wp2_with (refine stop_load 32 (.tmp 7) rfl ?_)
  intro _
  refine wpList_load_part (w.heap.size + 1) 0 32 (.tmp 7) #[.int .i64 b.k, .int .i64 b.i, .int .i64 b.j, .int .i64 b.n, (.slice ab b.kids.length cb)] du Hx2.out (by rfl) rfl (by rfl) (by rfl) hu1 (by cases du <;> first | rfl | exact hu2) size_term ?_
  go_wp2_with (refine stop_load 32 (.tmp 8) rfl ?_)
  intro _
  refine wpList_load_part (w.heap.size + 2) 0 32 (.tmp 8) #[.int .i64 p.k, .int .i64 p.i, .int .i64 p.j, .int .i64 p.n, (.slice ap p.kids.length cp)] du Hx3.out (by rfl) rfl (by rfl) (by rfl) hu1 (by cases du <;> first | rfl | exact hu2) size_term ?_
  go_wp2_with (refine stop_load 32 (.tmp 9) rfl ?_)
  intro _
  refine wpList_load_part (w.heap.size + 3) 0 32 (.tmp 9) #[.int .i64 x.k, .int .i64 x.i, .int .i64 x.j, .int .i64 x.n, (.slice ax x.kids.length cx)] du Hx4.out (by rfl) rfl (by rfl) (by rfl) hu1 (by cases du <;> first | rfl | exact hu2) size_term ?_
  go_wp2_with fail
  refine at_world (fun W10 hW10 => ?_)
  clear kvV0
  obtain ⟨k12, x11, z13⟩ := alloc1 hW10
  have Kk14 := Lib.hid k12
  clear k12
  have Hx11 := Lib.hid x11
  have Hz13 := Lib.hid z13
  clear x11 z13 hW10
  have HR15 : Hid (LiesQ W10 (Par w V0.heap.size [] P) [a, b, p, x] (.slice (some ⟨V0.heap.size, 0, none⟩) 4 4)) := q_row [(a, (.slice aa a.kids.length ca)), (b, (.slice ab b.kids.length cb)), (p, (.slice ap p.kids.length cp)), (x, (.slice ax x.kids.length cx))] _ rfl Hx11.out (par_new (Nat.le_refl _) (xlt_nil _) (Nat.le_refl _)) (fun p hp => by
    simp only [List.mem_cons, List.not_mem_nil, or_false] at hp
    rcases hp with rfl | rfl | rfl | rfl
    · exact ⟨Ga.out, (HLa.out.later Kk14.out)⟩
    · exact ⟨Gb.out, (HLb.out.later Kk14.out)⟩
    · exact ⟨Gp.out, (HLp.out.later Kk14.out)⟩
    · exact ⟨Gx.out, (HLx.out.later Kk14.out)⟩) (Nat.le_of_ble_eq_true rfl)
  refine (hright_any i [a, b, p, x] _ _ HR15.out.lies).mono ?_
  obtain ⟨rb19, hb18⟩ : ∃ qb, heR2 i [a, b, p, x] = qb := ⟨_, rfl⟩
  rw [hb18]
  have Hhb18 := Lib.hid hb18
  clear hb18
  rintro e w16 ⟨rfl, k17⟩
  have Kk20 := Lib.hid k17
  clear k17
  cases rb19 with
  | false =>
    have kvV0 : Sees V0 (w.heap.size + 4) w16 := sees_kept _ (kept_trans Kk14.out Kk20.out)
    go_wp2_with (refine stop_store 51 (.tmp 10) (.tmp 19) rfl ?_)
    intro _
    refine wpList_store_part_n (by rfl) 51 (.tmp 10) (.tmp 19) rfl (w.heap.size + 4) 0 #[.int .i64 0, .int .i64 0, .int .i64 0, .int .i64 0, .int .i64 0, .slice none 0 0, .int .i64 0, .int .i64 0, .int .i64 0, .int .i64 0, .slice none 0 0, .int .i64 0, .int .i64 0, .int .i64 0, .int .i64 0, .slice none 0 0, .int .i64 0, .int .i64 0, .int .i64 0, .int .i64 0, .slice none 0 0, .int .i64 0, .int .i64 0, .int .i64 0, .int .i64 0, .slice none 0 0] (by rfl) (by rfl) 51 (by kernel_rfl) (row_ok rfl) ?_
    intro W21 hW21
    clear kvV0
    subst hW21
    refine ⟨_, #[.int .i64 0, .int .i64 0, .int .i64 0, .int .i64 0, .int .i64 0, .slice none 0 0, .int .i64 0, .int .i64 0, .int .i64 0, .int .i64 0, .slice none 0 0, .int .i64 0, .int .i64 0, .int .i64 0, .int .i64 0, .slice none 0 0, .int .i64 0, .int .i64 0, .int .i64 0, .int .i64 0, .slice none 0 0, .int .i64 0, .int .i64 0, .int .i64 0, .int .i64 0, .slice none 0 0], (blk_at Hx5.out (kept_trans Kk14.out Kk20.out)), rfl, Nat.le_of_ble_eq_true rfl, ?_⟩
    intro W22 hW22
    go_wp2_with fail
    refine bodyPost_ret (results_cell_row rfl _ _ (w.heap.size + 4) 51 _ _ dh rfl (blk_same (blk_at Hx5.out (kept_trans Kk14.out Kk20.out)) hW22) dh1 (by cases dh <;> first | rfl | exact dh2) (by kernel_rfl)) rfl ?_
    rw [show heMoved i a b p x = (⟨0, (.mk 0 0 0 0 []), (.mk 0 0 0 0 []), (.mk 0 0 0 0 []), (.mk 0 0 0 0 []), (.mk 0 0 0 0 [])⟩ : He) from by unfold heMoved; rw [Hhb18.out]; (try rfl)]
    exact ⟨_, _, _, _, _, rfl, ⟨par_end (par_row' (liesQ_nil w16 (Par w V0.heap.size [] P)) hW22 (by omega) (by have := Z0.out; omega)) (by have := Z0.out; omega), par_end (par_row' (liesQ_nil w16 (Par w V0.heap.size [] P)) hW22 (by omega) (by have := Z0.out; omega)) (by have := Z0.out; omega), par_end (par_row' (liesQ_nil w16 (Par w V0.heap.size [] P)) hW22 (by omega) (by have := Z0.out; omega)) (by have := Z0.out; omega), par_end (par_row' (liesQ_nil w16 (Par w V0.heap.size [] P)) hW22 (by omega) (by have := Z0.out; omega)) (by have := Z0.out; omega), par_end (par_row' (liesQ_nil w16 (Par w V0.heap.size [] P)) hW22 (by omega) (by have := Z0.out; omega)) (by have := Z0.out; omega)⟩, kept_set (kept_trans Kk8.out (kept_trans Kk14.out Kk20.out)) hW22 (by omega)⟩
  | true =>
    have ew23 : IntKind.i64.wrap (i + 1) = i + 1 := IntWalk.i64_in _ (by have := levN_true (heR2_lev Hhb18.out); omega)
    have kvV0 : Sees V0 (w.heap.size + 4) w16 := sees_kept _ (kept_trans Kk14.out Kk20.out)
    go_wp2_with fail
    clear kvV0
    obtain ⟨W24, h25⟩ : ∃ x, World.drew w16 = x := ⟨_, rfl⟩
    have k26 : Kept w16 W24 := by rw [← h25]; exact kept_drew (kept_refl _)
    have Kk27 := Lib.hid k26
    clear k26
    refine wp_region_held_drew (S := Sees W24 (w.heap.size + 4)) (by kernel_rfl) ?_ (fun hHeld => ?_)
    · (try dsimp only)
      rw [h25]
      exact sees_kept _ (kept_refl _)
    rw [h25] at hHeld ⊢
    clear h25
    refine take_at 0 20 hmovedr3_0 (v := ?_) (Or.inl ⟨by rfl, ?_⟩) ?_
    rotate_left 1
    · ((intro w hSw; (try dsimp only at hSw); unfold hmovedr3_0; go_simp) <;> with_reducible rfl)
    (try simp only [Act.put, List.setIfInBounds_toArray, List.set_cons_zero, List.set_cons_succ])
    refine take_at 1 21 hmovedr3_1 (yields_part (w.heap.size) 0 32 (.tmp 6) #[.int .i64 a.k, .int .i64 a.i, .int .i64 a.j, .int .i64 a.n, (.slice aa a.kids.length ca)] du (fun _ h => sees_blk Hx1.out (by have := Z0.out; omega) (sees_of (kept_trans Kk14.out (kept_trans Kk20.out Kk27.out)) h)) (by rfl) rfl (by rfl) (by rfl) hu1 (by cases du <;> first | rfl | exact hu2) size_term) ?_
    (try simp only [Act.put, List.setIfInBounds_toArray, List.set_cons_zero, List.set_cons_succ])
    refine take_at 2 22 hmovedr3_2 (yields_part (w.heap.size + 1) 0 32 (.tmp 7) #[.int .i64 b.k, .int .i64 b.i, .int .i64 b.j, .int .i64 b.n, (.slice ab b.kids.length cb)] du (fun _ h => sees_blk Hx2.out (by have := Z0.out; omega) (sees_of (kept_trans Kk14.out (kept_trans Kk20.out Kk27.out)) h)) (by rfl) rfl (by rfl) (by rfl) hu1 (by cases du <;> first | rfl | exact hu2) size_term) ?_
    (try simp only [Act.put, List.setIfInBounds_toArray, List.set_cons_zero, List.set_cons_succ])
    refine take_at 3 23 hmovedr3_3 (yields_part (w.heap.size + 3) 0 32 (.tmp 9) #[.int .i64 x.k, .int .i64 x.i, .int .i64 x.j, .int .i64 x.n, (.slice ax x.kids.length cx)] du (fun _ h => sees_blk Hx4.out (by have := Z0.out; omega) (sees_of (kept_trans Kk14.out (kept_trans Kk20.out Kk27.out)) h)) (by rfl) rfl (by rfl) (by rfl) hu1 (by cases du <;> first | rfl | exact hu2) size_term) ?_
    (try simp only [Act.put, List.setIfInBounds_toArray, List.set_cons_zero, List.set_cons_succ])
    refine take_at 4 24 hmovedr3_4 (v := ?_) (Or.inl ⟨by rfl, ?_⟩) ?_
    rotate_left 1
    · ((intro w hSw; (try dsimp only at hSw); unfold hmovedr3_4; go_simp) <;> with_reducible rfl)
    (try simp only [Act.put, List.setIfInBounds_toArray, List.set_cons_zero, List.set_cons_succ])
    refine take_at 5 25 hmovedr3_5 (yields_part (w.heap.size) 0 32 (.tmp 6) #[.int .i64 a.k, .int .i64 a.i, .int .i64 a.j, .int .i64 a.n, (.slice aa a.kids.length ca)] du (fun _ h => sees_blk Hx1.out (by have := Z0.out; omega) (sees_of (kept_trans Kk14.out (kept_trans Kk20.out Kk27.out)) h)) (by rfl) rfl (by rfl) (by rfl) hu1 (by cases du <;> first | rfl | exact hu2) size_term) ?_
    (try simp only [Act.put, List.setIfInBounds_toArray, List.set_cons_zero, List.set_cons_succ])
    refine take_at 6 26 hmovedr3_6 (yields_part (w.heap.size + 1) 0 32 (.tmp 7) #[.int .i64 b.k, .int .i64 b.i, .int .i64 b.j, .int .i64 b.n, (.slice ab b.kids.length cb)] du (fun _ h => sees_blk Hx2.out (by have := Z0.out; omega) (sees_of (kept_trans Kk14.out (kept_trans Kk20.out Kk27.out)) h)) (by rfl) rfl (by rfl) (by rfl) hu1 (by cases du <;> first | rfl | exact hu2) size_term) ?_
    (try simp only [Act.put, List.setIfInBounds_toArray, List.set_cons_zero, List.set_cons_succ])
    refine take_at 7 27 hmovedr3_7 (yields_part (w.heap.size + 2) 0 32 (.tmp 8) #[.int .i64 p.k, .int .i64 p.i, .int .i64 p.j, .int .i64 p.n, (.slice ap p.kids.length cp)] du (fun _ h => sees_blk Hx3.out (by have := Z0.out; omega) (sees_of (kept_trans Kk14.out (kept_trans Kk20.out Kk27.out)) h)) (by rfl) rfl (by rfl) (by rfl) hu1 (by cases du <;> first | rfl | exact hu2) size_term) ?_
    (try simp only [Act.put, List.setIfInBounds_toArray, List.set_cons_zero, List.set_cons_succ])
    refine take_at 8 28 hmovedr3_8 (yields_part (w.heap.size + 3) 0 32 (.tmp 9) #[.int .i64 x.k, .int .i64 x.i, .int .i64 x.j, .int .i64 x.n, (.slice ax x.kids.length cx)] du (fun _ h => sees_blk Hx4.out (by have := Z0.out; omega) (sees_of (kept_trans Kk14.out (kept_trans Kk20.out Kk27.out)) h)) (by rfl) rfl (by rfl) (by rfl) hu1 (by cases du <;> first | rfl | exact hu2) size_term) ?_
    (try simp only [Act.put, List.setIfInBounds_toArray, List.set_cons_zero, List.set_cons_succ])
    refine take_at 11 31 hmovedr3_11 (v := ?_) (Or.inl ⟨by rfl, ?_⟩) ?_
    rotate_left 1
    · ((intro w hSw; (try dsimp only at hSw); unfold hmovedr3_11; go_simp) <;> with_reducible rfl)
    (try simp only [Act.put, List.setIfInBounds_toArray, List.set_cons_zero, List.set_cons_succ])
    refine take_at 12 32 hmovedr3_12 (yields_part (w.heap.size) 0 32 (.tmp 6) #[.int .i64 a.k, .int .i64 a.i, .int .i64 a.j, .int .i64 a.n, (.slice aa a.kids.length ca)] du (fun _ h => sees_blk Hx1.out (by have := Z0.out; omega) (sees_of (kept_trans Kk14.out (kept_trans Kk20.out Kk27.out)) h)) (by rfl) rfl (by rfl) (by rfl) hu1 (by cases du <;> first | rfl | exact hu2) size_term) ?_
    (try simp only [Act.put, List.setIfInBounds_toArray, List.set_cons_zero, List.set_cons_succ])
    refine take_at 13 33 hmovedr3_13 (yields_part (w.heap.size + 1) 0 32 (.tmp 7) #[.int .i64 b.k, .int .i64 b.i, .int .i64 b.j, .int .i64 b.n, (.slice ab b.kids.length cb)] du (fun _ h => sees_blk Hx2.out (by have := Z0.out; omega) (sees_of (kept_trans Kk14.out (kept_trans Kk20.out Kk27.out)) h)) (by rfl) rfl (by rfl) (by rfl) hu1 (by cases du <;> first | rfl | exact hu2) size_term) ?_
    (try simp only [Act.put, List.setIfInBounds_toArray, List.set_cons_zero, List.set_cons_succ])
    refine take_at 14 34 hmovedr3_14 (yields_part (w.heap.size + 2) 0 32 (.tmp 8) #[.int .i64 p.k, .int .i64 p.i, .int .i64 p.j, .int .i64 p.n, (.slice ap p.kids.length cp)] du (fun _ h => sees_blk Hx3.out (by have := Z0.out; omega) (sees_of (kept_trans Kk14.out (kept_trans Kk20.out Kk27.out)) h)) (by rfl) rfl (by rfl) (by rfl) hu1 (by cases du <;> first | rfl | exact hu2) size_term) ?_
    (try simp only [Act.put, List.setIfInBounds_toArray, List.set_cons_zero, List.set_cons_succ])
    refine take_at 15 35 hmovedr3_15 (yields_part (w.heap.size + 3) 0 32 (.tmp 9) #[.int .i64 x.k, .int .i64 x.i, .int .i64 x.j, .int .i64 x.n, (.slice ax x.kids.length cx)] du (fun _ h => sees_blk Hx4.out (by have := Z0.out; omega) (sees_of (kept_trans Kk14.out (kept_trans Kk20.out Kk27.out)) h)) (by rfl) rfl (by rfl) (by rfl) hu1 (by cases du <;> first | rfl | exact hu2) size_term) ?_
    (try simp only [Act.put, List.setIfInBounds_toArray, List.set_cons_zero, List.set_cons_succ])
    refine wpAnyH_ready (rs := [9, 16]) (by kernel_rfl) (by simp) ?_
    refine AllReadyH.cons (o := hmovedr3_9) rfl (fun K hK => ?_) ?_
    · unfold hmovedr3_9
      go_simp
      refine at_K (fun W29 hW29 => ?_)
      obtain ⟨k31, x30, z32⟩ := alloc1 hW29
      have Kk33 := Lib.hid k31
      clear k31
      have Hx30 := Lib.hid x30
      have Hz32 := Lib.hid z32
      clear x30 z32 hW29
      have HR34 : Hid (LiesQ W29 (Par w V0.heap.size [] P) [a, b, p, x] (.slice (some ⟨W24.heap.size, 0, none⟩) 4 4)) := q_row [(a, (.slice aa a.kids.length ca)), (b, (.slice ab b.kids.length cb)), (p, (.slice ap p.kids.length cp)), (x, (.slice ax x.kids.length cx))] _ rfl Hx30.out (par_new (Below.size (kept_trans Kk14.out (kept_trans Kk20.out Kk27.out))) (xlt_nil _) (Nat.le_refl _)) (fun p hp => by
        simp only [List.mem_cons, List.not_mem_nil, or_false] at hp
        rcases hp with rfl | rfl | rfl | rfl
        · exact ⟨Ga.out, (HLa.out.later (kept_trans Kk14.out (kept_trans Kk20.out (kept_trans Kk27.out Kk33.out))))⟩
        · exact ⟨Gb.out, (HLb.out.later (kept_trans Kk14.out (kept_trans Kk20.out (kept_trans Kk27.out Kk33.out))))⟩
        · exact ⟨Gp.out, (HLp.out.later (kept_trans Kk14.out (kept_trans Kk20.out (kept_trans Kk27.out Kk33.out))))⟩
        · exact ⟨Gx.out, (HLx.out.later (kept_trans Kk14.out (kept_trans Kk20.out (kept_trans Kk27.out Kk33.out))))⟩) (Nat.le_of_ble_eq_true rfl)
      clear hHeld
      refine hK.out _ _ ?_ (fun hHeld => ?_)
      · (try dsimp only)
        exact sees_kept _ Kk33.out
      clear hK K
      (try simp only [Act.put, List.setIfInBounds_toArray, List.set_cons_zero, List.set_cons_succ])
      refine wpAnyH_ready (rs := [10, 16]) (by kernel_rfl) (by simp) ?_
      refine AllReadyH.cons (o := hmovedr3_10) rfl (fun K hK => ?_) ?_
      · unfold hmovedr3_10
        go_simp
        refine (huse_any 5 i [a, b, p, x] (Par w V0.heap.size [] P) _ _ (show I64 5 from by unfold I64; decide) Ri.out HR34.out (fun x hx => by
          simp only [List.mem_cons, List.not_mem_nil, or_false] at hx
          rcases hx with rfl | rfl | rfl | rfl
          · exact (heR2_pl Hhb18.out _ (by simp))
          · exact (heR2_pl Hhb18.out _ (by simp))
          · exact (heR2_pl Hhb18.out _ (by simp))
          · exact (heR2_pl Hhb18.out _ (by simp))) (Nat.le_of_ble_eq_true rfl)).mono ?_
        obtain ⟨U42, hU42⟩ : ∃ qu, useT 5 i 0 [a, b, p, x] = qu := ⟨_, rfl⟩
        rw [hU42]
        have HU42 := Lib.hid hU42
        clear hU42
        rintro e w35 ⟨s37, rfl, hl38, k36⟩
        obtain ⟨a39, c40, S41, rfl, -⟩ := hl38.out
        have Kk43 := Lib.hid k36
        clear k36
        have Hhl38 : Hid (LiesQ w35 (Par w V0.heap.size [] P) U42.kids _) := par_give hl38 (Below.size (kept_trans Kk14.out (kept_trans Kk20.out (kept_trans Kk27.out Kk33.out)))) (xlt_nil _)
        clear hl38
        clear hHeld
        refine hK.out _ _ ?_ (fun hHeld => ?_)
        · (try dsimp only)
          exact sees_kept _ (kept_trans Kk33.out Kk43.out)
        clear hK K
        (try simp only [Act.put, List.setIfInBounds_toArray, List.set_cons_zero, List.set_cons_succ])
        refine wpAnyH_ready (rs := [16]) (by kernel_rfl) (by simp) ?_
        refine AllReadyH.cons (o := hmovedr3_16) rfl (fun K hK => ?_) ?_
        · unfold hmovedr3_16
          go_simp
          refine at_K (fun W45 hW45 => ?_)
          obtain ⟨k47, x46, z48⟩ := alloc1 hW45
          have Kk49 := Lib.hid k47
          clear k47
          have Hx46 := Lib.hid x46
          have Hz48 := Lib.hid z48
          clear x46 z48 hW45
          have HR50 : Hid (LiesQ W45 (Par w V0.heap.size [] P) [a, b, p, x] (.slice (some ⟨w35.heap.size, 0, none⟩) 4 4)) := q_row [(a, (.slice aa a.kids.length ca)), (b, (.slice ab b.kids.length cb)), (p, (.slice ap p.kids.length cp)), (x, (.slice ax x.kids.length cx))] _ rfl Hx46.out (par_new (Below.size (kept_trans Kk14.out (kept_trans Kk20.out (kept_trans Kk27.out (kept_trans Kk33.out Kk43.out))))) (xlt_nil _) (Nat.le_refl _)) (fun p hp => by
            simp only [List.mem_cons, List.not_mem_nil, or_false] at hp
            rcases hp with rfl | rfl | rfl | rfl
            · exact ⟨Ga.out, (HLa.out.later (kept_trans Kk14.out (kept_trans Kk20.out (kept_trans Kk27.out (kept_trans Kk33.out (kept_trans Kk43.out Kk49.out))))))⟩
            · exact ⟨Gb.out, (HLb.out.later (kept_trans Kk14.out (kept_trans Kk20.out (kept_trans Kk27.out (kept_trans Kk33.out (kept_trans Kk43.out Kk49.out))))))⟩
            · exact ⟨Gp.out, (HLp.out.later (kept_trans Kk14.out (kept_trans Kk20.out (kept_trans Kk27.out (kept_trans Kk33.out (kept_trans Kk43.out Kk49.out))))))⟩
            · exact ⟨Gx.out, (HLx.out.later (kept_trans Kk14.out (kept_trans Kk20.out (kept_trans Kk27.out (kept_trans Kk33.out (kept_trans Kk43.out Kk49.out))))))⟩) (Nat.le_of_ble_eq_true rfl)
          clear hHeld
          refine hK.out _ _ ?_ (fun hHeld => ?_)
          · (try dsimp only)
            exact sees_kept _ (kept_trans Kk33.out (kept_trans Kk43.out Kk49.out))
          clear hK K
          (try simp only [Act.put, List.setIfInBounds_toArray, List.set_cons_zero, List.set_cons_succ])
          refine wpAnyH_ready (rs := [17]) (by kernel_rfl) (by simp) ?_
          refine AllReadyH.cons (o := hmovedr3_17) rfl (fun K hK => ?_) ?_
          · unfold hmovedr3_17
            go_simp
            refine (huse_any 8 i [a, b, p, x] (Par w V0.heap.size [] P) _ _ (show I64 8 from by unfold I64; decide) Ri.out HR50.out (fun x hx => by
              simp only [List.mem_cons, List.not_mem_nil, or_false] at hx
              rcases hx with rfl | rfl | rfl | rfl
              · exact (heR2_pl Hhb18.out _ (by simp))
              · exact (heR2_pl Hhb18.out _ (by simp))
              · exact (heR2_pl Hhb18.out _ (by simp))
              · exact (heR2_pl Hhb18.out _ (by simp))) (Nat.le_of_ble_eq_true rfl)).mono ?_
            obtain ⟨U58, hU58⟩ : ∃ qu, useT 8 i 0 [a, b, p, x] = qu := ⟨_, rfl⟩
            rw [hU58]
            have HU58 := Lib.hid hU58
            clear hU58
            rintro e w51 ⟨s53, rfl, hl54, k52⟩
            obtain ⟨a55, c56, S57, rfl, -⟩ := hl54.out
            have Kk59 := Lib.hid k52
            clear k52
            have Hhl54 : Hid (LiesQ w51 (Par w V0.heap.size [] P) U58.kids _) := par_give hl54 (Below.size (kept_trans Kk14.out (kept_trans Kk20.out (kept_trans Kk27.out (kept_trans Kk33.out (kept_trans Kk43.out Kk49.out)))))) (xlt_nil _)
            clear hl54
            clear hHeld
            refine hK.out _ _ ?_ (fun hHeld => ?_)
            · (try dsimp only)
              exact sees_kept _ (kept_trans Kk33.out (kept_trans Kk43.out (kept_trans Kk49.out Kk59.out)))
            clear hK K
            (try simp only [Act.put, List.setIfInBounds_toArray, List.set_cons_zero, List.set_cons_succ])
            refine take_at 18 38 hmovedr3_18 (v := ?_) (Or.inl ⟨by rfl, ?_⟩) ?_
            rotate_left 1
            · ((intro w hSw; (try dsimp only at hSw); unfold hmovedr3_18; go_simp) <;> with_reducible rfl)
            (try simp only [Act.put, List.setIfInBounds_toArray, List.set_cons_zero, List.set_cons_succ])
            refine wpAnyH_ready (rs := [19]) (by kernel_rfl) (by simp) ?_
            refine AllReadyH.cons (o := hmovedr3_19) rfl (fun K hK => ?_) ?_
            · unfold hmovedr3_19
              go_simp
              refine (hfresh_any (⟨i, a, b, x, U42, U58⟩ : He) (Par w V0.heap.size [] P) _ (.slice aa a.kids.length ca) (.slice ab b.kids.length cb) (.slice ax x.kids.length cx) (.slice a39 U42.kids.length c40) (.slice a55 U58.kids.length c56) ⟨Ri.out, Ga.out, Gb.out, Gx.out, (by rw [← HU42.out]; exact (use_fine (show I64 5 from by unfold I64; decide) Ri.out (by unfold I64; decide))), (by rw [← HU58.out]; exact (use_fine (show I64 8 from by unfold I64; decide) Ri.out (by unfold I64; decide)))⟩ ⟨(HLa.out.later (kept_trans Kk14.out (kept_trans Kk20.out (kept_trans Kk27.out (kept_trans Kk33.out (kept_trans Kk43.out (kept_trans Kk49.out Kk59.out))))))), (HLb.out.later (kept_trans Kk14.out (kept_trans Kk20.out (kept_trans Kk27.out (kept_trans Kk33.out (kept_trans Kk43.out (kept_trans Kk49.out Kk59.out))))))), (HLx.out.later (kept_trans Kk14.out (kept_trans Kk20.out (kept_trans Kk27.out (kept_trans Kk33.out (kept_trans Kk43.out (kept_trans Kk49.out Kk59.out))))))), (Hhl38.out.later (kept_trans Kk49.out Kk59.out)), Hhl54.out⟩ (heR2_pl Hhb18.out _ (by simp)) (heR2_pl Hhb18.out _ (by simp)) (heR2_pl Hhb18.out _ (by simp)) (by rw [← HU42.out]; exact (use_plain (by rfl) (lev_level (heR2_lev Hhb18.out) (by decide)) (by rfl) (fun x hx => by
                simp only [List.mem_cons, List.not_mem_nil, or_false] at hx
                rcases hx with rfl | rfl | rfl | rfl
                · exact (heR2_pl Hhb18.out _ (by simp))
                · exact (heR2_pl Hhb18.out _ (by simp))
                · exact (heR2_pl Hhb18.out _ (by simp))
                · exact (heR2_pl Hhb18.out _ (by simp)))))).mono ?_
              obtain ⟨U62, hU62⟩ : ∃ qu, (⟨i, a, b, x, U42, U58⟩ : He) = qu := ⟨_, rfl⟩
              rw [hU62]
              have HU62 := Lib.hid hU62
              clear hU62
              rintro e w60 ⟨s63, s64, s65, s66, s67, rfl, ⟨hl68, hl69, hl70, hl71, hl72⟩, k61⟩
              obtain ⟨a73, c74, S75, rfl, -⟩ := hl68.out
              obtain ⟨a76, c77, S78, rfl, -⟩ := hl69.out
              obtain ⟨a79, c80, S81, rfl, -⟩ := hl70.out
              obtain ⟨a82, c83, S84, rfl, -⟩ := hl71.out
              obtain ⟨a85, c86, S87, rfl, -⟩ := hl72.out
              have Kk88 := Lib.hid k61
              clear k61
              have Hhl68 : Hid (LiesQ w60 (Par w V0.heap.size [] P) U62.a.kids _) := par_give hl68 (Below.size (kept_trans Kk14.out (kept_trans Kk20.out (kept_trans Kk27.out (kept_trans Kk33.out (kept_trans Kk43.out (kept_trans Kk49.out Kk59.out))))))) (xlt_nil _)
              have Hhl69 : Hid (LiesQ w60 (Par w V0.heap.size [] P) U62.b.kids _) := par_give hl69 (Below.size (kept_trans Kk14.out (kept_trans Kk20.out (kept_trans Kk27.out (kept_trans Kk33.out (kept_trans Kk43.out (kept_trans Kk49.out Kk59.out))))))) (xlt_nil _)
              have Hhl70 : Hid (LiesQ w60 (Par w V0.heap.size [] P) U62.x.kids _) := par_give hl70 (Below.size (kept_trans Kk14.out (kept_trans Kk20.out (kept_trans Kk27.out (kept_trans Kk33.out (kept_trans Kk43.out (kept_trans Kk49.out Kk59.out))))))) (xlt_nil _)
              have Hhl71 : Hid (LiesQ w60 (Par w V0.heap.size [] P) U62.y.kids _) := par_give hl71 (Below.size (kept_trans Kk14.out (kept_trans Kk20.out (kept_trans Kk27.out (kept_trans Kk33.out (kept_trans Kk43.out (kept_trans Kk49.out Kk59.out))))))) (xlt_nil _)
              have Hhl72 : Hid (LiesQ w60 (Par w V0.heap.size [] P) U62.h.kids _) := par_give hl72 (Below.size (kept_trans Kk14.out (kept_trans Kk20.out (kept_trans Kk27.out (kept_trans Kk33.out (kept_trans Kk43.out (kept_trans Kk49.out Kk59.out))))))) (xlt_nil _)
              clear hl68 hl69 hl70 hl71 hl72
              clear hHeld
              refine hK.out _ _ ?_ (fun hHeld => ?_)
              · (try dsimp only)
                exact sees_kept _ (kept_trans Kk33.out (kept_trans Kk43.out (kept_trans Kk49.out (kept_trans Kk59.out Kk88.out))))
              clear hK K
              (try simp only [Act.put, List.setIfInBounds_toArray, List.set_cons_zero, List.set_cons_succ])
              refine wpAnyH_ready (rs := [20]) (by kernel_rfl) (by simp) ?_
              refine AllReadyH.cons (o := hmovedr3_20) rfl (fun K hK => ?_) ?_
              · unfold hmovedr3_20
                refine step_store_part rfl 51 (.tmp 10) (.tmp 39) rfl (w.heap.size + 4) 0 #[.int .i64 U62.i, .int .i64 U62.a.k, .int .i64 U62.a.i, .int .i64 U62.a.j, .int .i64 U62.a.n, (.slice a73 U62.a.kids.length c74), .int .i64 U62.b.k, .int .i64 U62.b.i, .int .i64 U62.b.j, .int .i64 U62.b.n, (.slice a76 U62.b.kids.length c77), .int .i64 U62.x.k, .int .i64 U62.x.i, .int .i64 U62.x.j, .int .i64 U62.x.n, (.slice a79 U62.x.kids.length c80), .int .i64 U62.y.k, .int .i64 U62.y.i, .int .i64 U62.y.j, .int .i64 U62.y.n, (.slice a82 U62.y.kids.length c83), .int .i64 U62.h.k, .int .i64 U62.h.i, .int .i64 U62.h.j, .int .i64 U62.h.n, (.slice a85 U62.h.kids.length c86)] rfl rfl 51 (by kernel_rfl) (row_ok rfl) _ #[.int .i64 U62.i, .int .i64 U62.a.k, .int .i64 U62.a.i, .int .i64 U62.a.j, .int .i64 U62.a.n, (.slice a73 U62.a.kids.length c74), .int .i64 U62.b.k, .int .i64 U62.b.i, .int .i64 U62.b.j, .int .i64 U62.b.n, (.slice a76 U62.b.kids.length c77), .int .i64 U62.x.k, .int .i64 U62.x.i, .int .i64 U62.x.j, .int .i64 U62.x.n, (.slice a79 U62.x.kids.length c80), .int .i64 U62.y.k, .int .i64 U62.y.i, .int .i64 U62.y.j, .int .i64 U62.y.n, (.slice a82 U62.y.kids.length c83), .int .i64 U62.h.k, .int .i64 U62.h.i, .int .i64 U62.h.j, .int .i64 U62.h.n, (.slice a85 U62.h.kids.length c86)] (blk_at Hx5.out (kept_trans Kk14.out (kept_trans Kk20.out (kept_trans Kk27.out (kept_trans Kk33.out (kept_trans Kk43.out (kept_trans Kk49.out (kept_trans Kk59.out Kk88.out)))))))) rfl (Nat.le_of_ble_eq_true rfl) ?_
                intro W89 hW89
                clear hHeld
                refine hK.out _ _ ?_ (fun hHeld => ?_)
                · (try dsimp only)
                  exact sees_set (kept_trans Kk33.out (kept_trans Kk43.out (kept_trans Kk49.out (kept_trans Kk59.out Kk88.out)))) hW89
                clear hK K
                (try simp only [Act.put])
                refine wpAnyH_done (by kernel_rfl) ?_ _
                clear hHeld
                go_wp2_with fail
                refine bodyPost_ret (results_cell_row rfl _ _ (w.heap.size + 4) 51 _ _ dh rfl (blk_same (blk_at Hx5.out (kept_trans Kk14.out (kept_trans Kk20.out (kept_trans Kk27.out (kept_trans Kk33.out (kept_trans Kk43.out (kept_trans Kk49.out (kept_trans Kk59.out Kk88.out)))))))) hW89) dh1 (by cases dh <;> first | rfl | exact dh2) (by kernel_rfl)) rfl ?_
                rw [show heMoved i a b p x = U62 from by unfold heMoved; rw [Hhb18.out]; rw [← HU62.out]; rw [← HU58.out]; rw [← HU42.out]; (try rfl)]
                exact ⟨_, _, _, _, _, rfl, ⟨par_end (par_row' Hhl68.out hW89 (by omega) (by have := Z0.out; omega)) (by have := Z0.out; omega), par_end (par_row' Hhl69.out hW89 (by omega) (by have := Z0.out; omega)) (by have := Z0.out; omega), par_end (par_row' Hhl70.out hW89 (by omega) (by have := Z0.out; omega)) (by have := Z0.out; omega), par_end (par_row' Hhl71.out hW89 (by omega) (by have := Z0.out; omega)) (by have := Z0.out; omega), par_end (par_row' Hhl72.out hW89 (by omega) (by have := Z0.out; omega)) (by have := Z0.out; omega)⟩, kept_set (kept_trans Kk8.out (kept_trans Kk14.out (kept_trans Kk20.out (kept_trans Kk27.out (kept_trans Kk33.out (kept_trans Kk43.out (kept_trans Kk49.out (kept_trans Kk59.out Kk88.out)))))))) hW89 (by omega)⟩
              exact AllReadyH.nil
            exact AllReadyH.nil
          exact AllReadyH.nil
        exact AllReadyH.nil
      refine AllReadyH.cons (o := hmovedr3_16) rfl (fun K hK => ?_) ?_
      · unfold hmovedr3_16
        go_simp
        refine at_K (fun W91 hW91 => ?_)
        obtain ⟨k93, x92, z94⟩ := alloc1 hW91
        have Kk95 := Lib.hid k93
        clear k93
        have Hx92 := Lib.hid x92
        have Hz94 := Lib.hid z94
        clear x92 z94 hW91
        have HR96 : Hid (LiesQ W91 (Par w V0.heap.size [] P) [a, b, p, x] (.slice (some ⟨W29.heap.size, 0, none⟩) 4 4)) := q_row [(a, (.slice aa a.kids.length ca)), (b, (.slice ab b.kids.length cb)), (p, (.slice ap p.kids.length cp)), (x, (.slice ax x.kids.length cx))] _ rfl Hx92.out (par_new (Below.size (kept_trans Kk14.out (kept_trans Kk20.out (kept_trans Kk27.out Kk33.out)))) (xlt_nil _) (Nat.le_refl _)) (fun p hp => by
          simp only [List.mem_cons, List.not_mem_nil, or_false] at hp
          rcases hp with rfl | rfl | rfl | rfl
          · exact ⟨Ga.out, (HLa.out.later (kept_trans Kk14.out (kept_trans Kk20.out (kept_trans Kk27.out (kept_trans Kk33.out Kk95.out)))))⟩
          · exact ⟨Gb.out, (HLb.out.later (kept_trans Kk14.out (kept_trans Kk20.out (kept_trans Kk27.out (kept_trans Kk33.out Kk95.out)))))⟩
          · exact ⟨Gp.out, (HLp.out.later (kept_trans Kk14.out (kept_trans Kk20.out (kept_trans Kk27.out (kept_trans Kk33.out Kk95.out)))))⟩
          · exact ⟨Gx.out, (HLx.out.later (kept_trans Kk14.out (kept_trans Kk20.out (kept_trans Kk27.out (kept_trans Kk33.out Kk95.out)))))⟩) (Nat.le_of_ble_eq_true rfl)
        clear hHeld
        refine hK.out _ _ ?_ (fun hHeld => ?_)
        · (try dsimp only)
          exact sees_kept _ (kept_trans Kk33.out Kk95.out)
        clear hK K
        (try simp only [Act.put, List.setIfInBounds_toArray, List.set_cons_zero, List.set_cons_succ])
        refine wpAnyH_ready (rs := [10]) (by kernel_rfl) (by simp) ?_
        refine AllReadyH.cons (o := hmovedr3_10) rfl (fun K hK => ?_) ?_
        · unfold hmovedr3_10
          go_simp
          refine (huse_any 5 i [a, b, p, x] (Par w V0.heap.size [] P) _ _ (show I64 5 from by unfold I64; decide) Ri.out (HR34.out.later Kk95.out) (fun x hx => by
            simp only [List.mem_cons, List.not_mem_nil, or_false] at hx
            rcases hx with rfl | rfl | rfl | rfl
            · exact (heR2_pl Hhb18.out _ (by simp))
            · exact (heR2_pl Hhb18.out _ (by simp))
            · exact (heR2_pl Hhb18.out _ (by simp))
            · exact (heR2_pl Hhb18.out _ (by simp))) (Nat.le_of_ble_eq_true rfl)).mono ?_
          obtain ⟨U104, hU104⟩ : ∃ qu, useT 5 i 0 [a, b, p, x] = qu := ⟨_, rfl⟩
          rw [hU104]
          have HU104 := Lib.hid hU104
          clear hU104
          rintro e w97 ⟨s99, rfl, hl100, k98⟩
          obtain ⟨a101, c102, S103, rfl, -⟩ := hl100.out
          have Kk105 := Lib.hid k98
          clear k98
          have Hhl100 : Hid (LiesQ w97 (Par w V0.heap.size [] P) U104.kids _) := par_give hl100 (Below.size (kept_trans Kk14.out (kept_trans Kk20.out (kept_trans Kk27.out (kept_trans Kk33.out Kk95.out))))) (xlt_nil _)
          clear hl100
          clear hHeld
          refine hK.out _ _ ?_ (fun hHeld => ?_)
          · (try dsimp only)
            exact sees_kept _ (kept_trans Kk33.out (kept_trans Kk95.out Kk105.out))
          clear hK K
          (try simp only [Act.put, List.setIfInBounds_toArray, List.set_cons_zero, List.set_cons_succ])
          refine wpAnyH_ready (rs := [17]) (by kernel_rfl) (by simp) ?_
          refine AllReadyH.cons (o := hmovedr3_17) rfl (fun K hK => ?_) ?_
          · unfold hmovedr3_17
            go_simp
            refine (huse_any 8 i [a, b, p, x] (Par w V0.heap.size [] P) _ _ (show I64 8 from by unfold I64; decide) Ri.out (HR96.out.later Kk105.out) (fun x hx => by
              simp only [List.mem_cons, List.not_mem_nil, or_false] at hx
              rcases hx with rfl | rfl | rfl | rfl
              · exact (heR2_pl Hhb18.out _ (by simp))
              · exact (heR2_pl Hhb18.out _ (by simp))
              · exact (heR2_pl Hhb18.out _ (by simp))
              · exact (heR2_pl Hhb18.out _ (by simp))) (Nat.le_of_ble_eq_true rfl)).mono ?_
            obtain ⟨U113, hU113⟩ : ∃ qu, useT 8 i 0 [a, b, p, x] = qu := ⟨_, rfl⟩
            rw [hU113]
            have HU113 := Lib.hid hU113
            clear hU113
            rintro e w106 ⟨s108, rfl, hl109, k107⟩
            obtain ⟨a110, c111, S112, rfl, -⟩ := hl109.out
            have Kk114 := Lib.hid k107
            clear k107
            have Hhl109 : Hid (LiesQ w106 (Par w V0.heap.size [] P) U113.kids _) := par_give hl109 (Below.size (kept_trans Kk14.out (kept_trans Kk20.out (kept_trans Kk27.out (kept_trans Kk33.out (kept_trans Kk95.out Kk105.out)))))) (xlt_nil _)
            clear hl109
            clear hHeld
            refine hK.out _ _ ?_ (fun hHeld => ?_)
            · (try dsimp only)
              exact sees_kept _ (kept_trans Kk33.out (kept_trans Kk95.out (kept_trans Kk105.out Kk114.out)))
            clear hK K
            (try simp only [Act.put, List.setIfInBounds_toArray, List.set_cons_zero, List.set_cons_succ])
            refine take_at 18 38 hmovedr3_18 (v := ?_) (Or.inl ⟨by rfl, ?_⟩) ?_
            rotate_left 1
            · ((intro w hSw; (try dsimp only at hSw); unfold hmovedr3_18; go_simp) <;> with_reducible rfl)
            (try simp only [Act.put, List.setIfInBounds_toArray, List.set_cons_zero, List.set_cons_succ])
            refine wpAnyH_ready (rs := [19]) (by kernel_rfl) (by simp) ?_
            refine AllReadyH.cons (o := hmovedr3_19) rfl (fun K hK => ?_) ?_
            · unfold hmovedr3_19
              go_simp
              refine (hfresh_any (⟨i, a, b, x, U104, U113⟩ : He) (Par w V0.heap.size [] P) _ (.slice aa a.kids.length ca) (.slice ab b.kids.length cb) (.slice ax x.kids.length cx) (.slice a101 U104.kids.length c102) (.slice a110 U113.kids.length c111) ⟨Ri.out, Ga.out, Gb.out, Gx.out, (by rw [← HU104.out]; exact (use_fine (show I64 5 from by unfold I64; decide) Ri.out (by unfold I64; decide))), (by rw [← HU113.out]; exact (use_fine (show I64 8 from by unfold I64; decide) Ri.out (by unfold I64; decide)))⟩ ⟨(HLa.out.later (kept_trans Kk14.out (kept_trans Kk20.out (kept_trans Kk27.out (kept_trans Kk33.out (kept_trans Kk95.out (kept_trans Kk105.out Kk114.out))))))), (HLb.out.later (kept_trans Kk14.out (kept_trans Kk20.out (kept_trans Kk27.out (kept_trans Kk33.out (kept_trans Kk95.out (kept_trans Kk105.out Kk114.out))))))), (HLx.out.later (kept_trans Kk14.out (kept_trans Kk20.out (kept_trans Kk27.out (kept_trans Kk33.out (kept_trans Kk95.out (kept_trans Kk105.out Kk114.out))))))), (Hhl100.out.later Kk114.out), Hhl109.out⟩ (heR2_pl Hhb18.out _ (by simp)) (heR2_pl Hhb18.out _ (by simp)) (heR2_pl Hhb18.out _ (by simp)) (by rw [← HU104.out]; exact (use_plain (by rfl) (lev_level (heR2_lev Hhb18.out) (by decide)) (by rfl) (fun x hx => by
                simp only [List.mem_cons, List.not_mem_nil, or_false] at hx
                rcases hx with rfl | rfl | rfl | rfl
                · exact (heR2_pl Hhb18.out _ (by simp))
                · exact (heR2_pl Hhb18.out _ (by simp))
                · exact (heR2_pl Hhb18.out _ (by simp))
                · exact (heR2_pl Hhb18.out _ (by simp)))))).mono ?_
              obtain ⟨U117, hU117⟩ : ∃ qu, (⟨i, a, b, x, U104, U113⟩ : He) = qu := ⟨_, rfl⟩
              rw [hU117]
              have HU117 := Lib.hid hU117
              clear hU117
              rintro e w115 ⟨s118, s119, s120, s121, s122, rfl, ⟨hl123, hl124, hl125, hl126, hl127⟩, k116⟩
              obtain ⟨a128, c129, S130, rfl, -⟩ := hl123.out
              obtain ⟨a131, c132, S133, rfl, -⟩ := hl124.out
              obtain ⟨a134, c135, S136, rfl, -⟩ := hl125.out
              obtain ⟨a137, c138, S139, rfl, -⟩ := hl126.out
              obtain ⟨a140, c141, S142, rfl, -⟩ := hl127.out
              have Kk143 := Lib.hid k116
              clear k116
              have Hhl123 : Hid (LiesQ w115 (Par w V0.heap.size [] P) U117.a.kids _) := par_give hl123 (Below.size (kept_trans Kk14.out (kept_trans Kk20.out (kept_trans Kk27.out (kept_trans Kk33.out (kept_trans Kk95.out (kept_trans Kk105.out Kk114.out))))))) (xlt_nil _)
              have Hhl124 : Hid (LiesQ w115 (Par w V0.heap.size [] P) U117.b.kids _) := par_give hl124 (Below.size (kept_trans Kk14.out (kept_trans Kk20.out (kept_trans Kk27.out (kept_trans Kk33.out (kept_trans Kk95.out (kept_trans Kk105.out Kk114.out))))))) (xlt_nil _)
              have Hhl125 : Hid (LiesQ w115 (Par w V0.heap.size [] P) U117.x.kids _) := par_give hl125 (Below.size (kept_trans Kk14.out (kept_trans Kk20.out (kept_trans Kk27.out (kept_trans Kk33.out (kept_trans Kk95.out (kept_trans Kk105.out Kk114.out))))))) (xlt_nil _)
              have Hhl126 : Hid (LiesQ w115 (Par w V0.heap.size [] P) U117.y.kids _) := par_give hl126 (Below.size (kept_trans Kk14.out (kept_trans Kk20.out (kept_trans Kk27.out (kept_trans Kk33.out (kept_trans Kk95.out (kept_trans Kk105.out Kk114.out))))))) (xlt_nil _)
              have Hhl127 : Hid (LiesQ w115 (Par w V0.heap.size [] P) U117.h.kids _) := par_give hl127 (Below.size (kept_trans Kk14.out (kept_trans Kk20.out (kept_trans Kk27.out (kept_trans Kk33.out (kept_trans Kk95.out (kept_trans Kk105.out Kk114.out))))))) (xlt_nil _)
              clear hl123 hl124 hl125 hl126 hl127
              clear hHeld
              refine hK.out _ _ ?_ (fun hHeld => ?_)
              · (try dsimp only)
                exact sees_kept _ (kept_trans Kk33.out (kept_trans Kk95.out (kept_trans Kk105.out (kept_trans Kk114.out Kk143.out))))
              clear hK K
              (try simp only [Act.put, List.setIfInBounds_toArray, List.set_cons_zero, List.set_cons_succ])
              refine wpAnyH_ready (rs := [20]) (by kernel_rfl) (by simp) ?_
              refine AllReadyH.cons (o := hmovedr3_20) rfl (fun K hK => ?_) ?_
              · unfold hmovedr3_20
                refine step_store_part rfl 51 (.tmp 10) (.tmp 39) rfl (w.heap.size + 4) 0 #[.int .i64 U117.i, .int .i64 U117.a.k, .int .i64 U117.a.i, .int .i64 U117.a.j, .int .i64 U117.a.n, (.slice a128 U117.a.kids.length c129), .int .i64 U117.b.k, .int .i64 U117.b.i, .int .i64 U117.b.j, .int .i64 U117.b.n, (.slice a131 U117.b.kids.length c132), .int .i64 U117.x.k, .int .i64 U117.x.i, .int .i64 U117.x.j, .int .i64 U117.x.n, (.slice a134 U117.x.kids.length c135), .int .i64 U117.y.k, .int .i64 U117.y.i, .int .i64 U117.y.j, .int .i64 U117.y.n, (.slice a137 U117.y.kids.length c138), .int .i64 U117.h.k, .int .i64 U117.h.i, .int .i64 U117.h.j, .int .i64 U117.h.n, (.slice a140 U117.h.kids.length c141)] rfl rfl 51 (by kernel_rfl) (row_ok rfl) _ #[.int .i64 U117.i, .int .i64 U117.a.k, .int .i64 U117.a.i, .int .i64 U117.a.j, .int .i64 U117.a.n, (.slice a128 U117.a.kids.length c129), .int .i64 U117.b.k, .int .i64 U117.b.i, .int .i64 U117.b.j, .int .i64 U117.b.n, (.slice a131 U117.b.kids.length c132), .int .i64 U117.x.k, .int .i64 U117.x.i, .int .i64 U117.x.j, .int .i64 U117.x.n, (.slice a134 U117.x.kids.length c135), .int .i64 U117.y.k, .int .i64 U117.y.i, .int .i64 U117.y.j, .int .i64 U117.y.n, (.slice a137 U117.y.kids.length c138), .int .i64 U117.h.k, .int .i64 U117.h.i, .int .i64 U117.h.j, .int .i64 U117.h.n, (.slice a140 U117.h.kids.length c141)] (blk_at Hx5.out (kept_trans Kk14.out (kept_trans Kk20.out (kept_trans Kk27.out (kept_trans Kk33.out (kept_trans Kk95.out (kept_trans Kk105.out (kept_trans Kk114.out Kk143.out)))))))) rfl (Nat.le_of_ble_eq_true rfl) ?_
                intro W144 hW144
                clear hHeld
                refine hK.out _ _ ?_ (fun hHeld => ?_)
                · (try dsimp only)
                  exact sees_set (kept_trans Kk33.out (kept_trans Kk95.out (kept_trans Kk105.out (kept_trans Kk114.out Kk143.out)))) hW144
                clear hK K
                (try simp only [Act.put])
                refine wpAnyH_done (by kernel_rfl) ?_ _
                clear hHeld
                go_wp2_with fail
                refine bodyPost_ret (results_cell_row rfl _ _ (w.heap.size + 4) 51 _ _ dh rfl (blk_same (blk_at Hx5.out (kept_trans Kk14.out (kept_trans Kk20.out (kept_trans Kk27.out (kept_trans Kk33.out (kept_trans Kk95.out (kept_trans Kk105.out (kept_trans Kk114.out Kk143.out)))))))) hW144) dh1 (by cases dh <;> first | rfl | exact dh2) (by kernel_rfl)) rfl ?_
                rw [show heMoved i a b p x = U117 from by unfold heMoved; rw [Hhb18.out]; rw [← HU117.out]; rw [← HU113.out]; rw [← HU104.out]; (try rfl)]
                exact ⟨_, _, _, _, _, rfl, ⟨par_end (par_row' Hhl123.out hW144 (by omega) (by have := Z0.out; omega)) (by have := Z0.out; omega), par_end (par_row' Hhl124.out hW144 (by omega) (by have := Z0.out; omega)) (by have := Z0.out; omega), par_end (par_row' Hhl125.out hW144 (by omega) (by have := Z0.out; omega)) (by have := Z0.out; omega), par_end (par_row' Hhl126.out hW144 (by omega) (by have := Z0.out; omega)) (by have := Z0.out; omega), par_end (par_row' Hhl127.out hW144 (by omega) (by have := Z0.out; omega)) (by have := Z0.out; omega)⟩, kept_set (kept_trans Kk8.out (kept_trans Kk14.out (kept_trans Kk20.out (kept_trans Kk27.out (kept_trans Kk33.out (kept_trans Kk95.out (kept_trans Kk105.out (kept_trans Kk114.out Kk143.out)))))))) hW144 (by omega)⟩
              exact AllReadyH.nil
            exact AllReadyH.nil
          exact AllReadyH.nil
        exact AllReadyH.nil
      exact AllReadyH.nil
    refine AllReadyH.cons (o := hmovedr3_16) rfl (fun K hK => ?_) ?_
    · unfold hmovedr3_16
      go_simp
      refine at_K (fun W146 hW146 => ?_)
      obtain ⟨k148, x147, z149⟩ := alloc1 hW146
      have Kk150 := Lib.hid k148
      clear k148
      have Hx147 := Lib.hid x147
      have Hz149 := Lib.hid z149
      clear x147 z149 hW146
      have HR151 : Hid (LiesQ W146 (Par w V0.heap.size [] P) [a, b, p, x] (.slice (some ⟨W24.heap.size, 0, none⟩) 4 4)) := q_row [(a, (.slice aa a.kids.length ca)), (b, (.slice ab b.kids.length cb)), (p, (.slice ap p.kids.length cp)), (x, (.slice ax x.kids.length cx))] _ rfl Hx147.out (par_new (Below.size (kept_trans Kk14.out (kept_trans Kk20.out Kk27.out))) (xlt_nil _) (Nat.le_refl _)) (fun p hp => by
        simp only [List.mem_cons, List.not_mem_nil, or_false] at hp
        rcases hp with rfl | rfl | rfl | rfl
        · exact ⟨Ga.out, (HLa.out.later (kept_trans Kk14.out (kept_trans Kk20.out (kept_trans Kk27.out Kk150.out))))⟩
        · exact ⟨Gb.out, (HLb.out.later (kept_trans Kk14.out (kept_trans Kk20.out (kept_trans Kk27.out Kk150.out))))⟩
        · exact ⟨Gp.out, (HLp.out.later (kept_trans Kk14.out (kept_trans Kk20.out (kept_trans Kk27.out Kk150.out))))⟩
        · exact ⟨Gx.out, (HLx.out.later (kept_trans Kk14.out (kept_trans Kk20.out (kept_trans Kk27.out Kk150.out))))⟩) (Nat.le_of_ble_eq_true rfl)
      clear hHeld
      refine hK.out _ _ ?_ (fun hHeld => ?_)
      · (try dsimp only)
        exact sees_kept _ Kk150.out
      clear hK K
      (try simp only [Act.put, List.setIfInBounds_toArray, List.set_cons_zero, List.set_cons_succ])
      refine wpAnyH_ready (rs := [9]) (by kernel_rfl) (by simp) ?_
      refine AllReadyH.cons (o := hmovedr3_9) rfl (fun K hK => ?_) ?_
      · unfold hmovedr3_9
        go_simp
        refine at_K (fun W153 hW153 => ?_)
        obtain ⟨k155, x154, z156⟩ := alloc1 hW153
        have Kk157 := Lib.hid k155
        clear k155
        have Hx154 := Lib.hid x154
        have Hz156 := Lib.hid z156
        clear x154 z156 hW153
        have HR158 : Hid (LiesQ W153 (Par w V0.heap.size [] P) [a, b, p, x] (.slice (some ⟨W146.heap.size, 0, none⟩) 4 4)) := q_row [(a, (.slice aa a.kids.length ca)), (b, (.slice ab b.kids.length cb)), (p, (.slice ap p.kids.length cp)), (x, (.slice ax x.kids.length cx))] _ rfl Hx154.out (par_new (Below.size (kept_trans Kk14.out (kept_trans Kk20.out (kept_trans Kk27.out Kk150.out)))) (xlt_nil _) (Nat.le_refl _)) (fun p hp => by
          simp only [List.mem_cons, List.not_mem_nil, or_false] at hp
          rcases hp with rfl | rfl | rfl | rfl
          · exact ⟨Ga.out, (HLa.out.later (kept_trans Kk14.out (kept_trans Kk20.out (kept_trans Kk27.out (kept_trans Kk150.out Kk157.out)))))⟩
          · exact ⟨Gb.out, (HLb.out.later (kept_trans Kk14.out (kept_trans Kk20.out (kept_trans Kk27.out (kept_trans Kk150.out Kk157.out)))))⟩
          · exact ⟨Gp.out, (HLp.out.later (kept_trans Kk14.out (kept_trans Kk20.out (kept_trans Kk27.out (kept_trans Kk150.out Kk157.out)))))⟩
          · exact ⟨Gx.out, (HLx.out.later (kept_trans Kk14.out (kept_trans Kk20.out (kept_trans Kk27.out (kept_trans Kk150.out Kk157.out)))))⟩) (Nat.le_of_ble_eq_true rfl)
        clear hHeld
        refine hK.out _ _ ?_ (fun hHeld => ?_)
        · (try dsimp only)
          exact sees_kept _ (kept_trans Kk150.out Kk157.out)
        clear hK K
        (try simp only [Act.put, List.setIfInBounds_toArray, List.set_cons_zero, List.set_cons_succ])
        refine wpAnyH_ready (rs := [10]) (by kernel_rfl) (by simp) ?_
        refine AllReadyH.cons (o := hmovedr3_10) rfl (fun K hK => ?_) ?_
        · unfold hmovedr3_10
          go_simp
          refine (huse_any 5 i [a, b, p, x] (Par w V0.heap.size [] P) _ _ (show I64 5 from by unfold I64; decide) Ri.out HR158.out (fun x hx => by
            simp only [List.mem_cons, List.not_mem_nil, or_false] at hx
            rcases hx with rfl | rfl | rfl | rfl
            · exact (heR2_pl Hhb18.out _ (by simp))
            · exact (heR2_pl Hhb18.out _ (by simp))
            · exact (heR2_pl Hhb18.out _ (by simp))
            · exact (heR2_pl Hhb18.out _ (by simp))) (Nat.le_of_ble_eq_true rfl)).mono ?_
          obtain ⟨U166, hU166⟩ : ∃ qu, useT 5 i 0 [a, b, p, x] = qu := ⟨_, rfl⟩
          rw [hU166]
          have HU166 := Lib.hid hU166
          clear hU166
          rintro e w159 ⟨s161, rfl, hl162, k160⟩
          obtain ⟨a163, c164, S165, rfl, -⟩ := hl162.out
          have Kk167 := Lib.hid k160
          clear k160
          have Hhl162 : Hid (LiesQ w159 (Par w V0.heap.size [] P) U166.kids _) := par_give hl162 (Below.size (kept_trans Kk14.out (kept_trans Kk20.out (kept_trans Kk27.out (kept_trans Kk150.out Kk157.out))))) (xlt_nil _)
          clear hl162
          clear hHeld
          refine hK.out _ _ ?_ (fun hHeld => ?_)
          · (try dsimp only)
            exact sees_kept _ (kept_trans Kk150.out (kept_trans Kk157.out Kk167.out))
          clear hK K
          (try simp only [Act.put, List.setIfInBounds_toArray, List.set_cons_zero, List.set_cons_succ])
          refine wpAnyH_ready (rs := [17]) (by kernel_rfl) (by simp) ?_
          refine AllReadyH.cons (o := hmovedr3_17) rfl (fun K hK => ?_) ?_
          · unfold hmovedr3_17
            go_simp
            refine (huse_any 8 i [a, b, p, x] (Par w V0.heap.size [] P) _ _ (show I64 8 from by unfold I64; decide) Ri.out (HR151.out.later (kept_trans Kk157.out Kk167.out)) (fun x hx => by
              simp only [List.mem_cons, List.not_mem_nil, or_false] at hx
              rcases hx with rfl | rfl | rfl | rfl
              · exact (heR2_pl Hhb18.out _ (by simp))
              · exact (heR2_pl Hhb18.out _ (by simp))
              · exact (heR2_pl Hhb18.out _ (by simp))
              · exact (heR2_pl Hhb18.out _ (by simp))) (Nat.le_of_ble_eq_true rfl)).mono ?_
            obtain ⟨U175, hU175⟩ : ∃ qu, useT 8 i 0 [a, b, p, x] = qu := ⟨_, rfl⟩
            rw [hU175]
            have HU175 := Lib.hid hU175
            clear hU175
            rintro e w168 ⟨s170, rfl, hl171, k169⟩
            obtain ⟨a172, c173, S174, rfl, -⟩ := hl171.out
            have Kk176 := Lib.hid k169
            clear k169
            have Hhl171 : Hid (LiesQ w168 (Par w V0.heap.size [] P) U175.kids _) := par_give hl171 (Below.size (kept_trans Kk14.out (kept_trans Kk20.out (kept_trans Kk27.out (kept_trans Kk150.out (kept_trans Kk157.out Kk167.out)))))) (xlt_nil _)
            clear hl171
            clear hHeld
            refine hK.out _ _ ?_ (fun hHeld => ?_)
            · (try dsimp only)
              exact sees_kept _ (kept_trans Kk150.out (kept_trans Kk157.out (kept_trans Kk167.out Kk176.out)))
            clear hK K
            (try simp only [Act.put, List.setIfInBounds_toArray, List.set_cons_zero, List.set_cons_succ])
            refine take_at 18 38 hmovedr3_18 (v := ?_) (Or.inl ⟨by rfl, ?_⟩) ?_
            rotate_left 1
            · ((intro w hSw; (try dsimp only at hSw); unfold hmovedr3_18; go_simp) <;> with_reducible rfl)
            (try simp only [Act.put, List.setIfInBounds_toArray, List.set_cons_zero, List.set_cons_succ])
            refine wpAnyH_ready (rs := [19]) (by kernel_rfl) (by simp) ?_
            refine AllReadyH.cons (o := hmovedr3_19) rfl (fun K hK => ?_) ?_
            · unfold hmovedr3_19
              go_simp
              refine (hfresh_any (⟨i, a, b, x, U166, U175⟩ : He) (Par w V0.heap.size [] P) _ (.slice aa a.kids.length ca) (.slice ab b.kids.length cb) (.slice ax x.kids.length cx) (.slice a163 U166.kids.length c164) (.slice a172 U175.kids.length c173) ⟨Ri.out, Ga.out, Gb.out, Gx.out, (by rw [← HU166.out]; exact (use_fine (show I64 5 from by unfold I64; decide) Ri.out (by unfold I64; decide))), (by rw [← HU175.out]; exact (use_fine (show I64 8 from by unfold I64; decide) Ri.out (by unfold I64; decide)))⟩ ⟨(HLa.out.later (kept_trans Kk14.out (kept_trans Kk20.out (kept_trans Kk27.out (kept_trans Kk150.out (kept_trans Kk157.out (kept_trans Kk167.out Kk176.out))))))), (HLb.out.later (kept_trans Kk14.out (kept_trans Kk20.out (kept_trans Kk27.out (kept_trans Kk150.out (kept_trans Kk157.out (kept_trans Kk167.out Kk176.out))))))), (HLx.out.later (kept_trans Kk14.out (kept_trans Kk20.out (kept_trans Kk27.out (kept_trans Kk150.out (kept_trans Kk157.out (kept_trans Kk167.out Kk176.out))))))), (Hhl162.out.later Kk176.out), Hhl171.out⟩ (heR2_pl Hhb18.out _ (by simp)) (heR2_pl Hhb18.out _ (by simp)) (heR2_pl Hhb18.out _ (by simp)) (by rw [← HU166.out]; exact (use_plain (by rfl) (lev_level (heR2_lev Hhb18.out) (by decide)) (by rfl) (fun x hx => by
                simp only [List.mem_cons, List.not_mem_nil, or_false] at hx
                rcases hx with rfl | rfl | rfl | rfl
                · exact (heR2_pl Hhb18.out _ (by simp))
                · exact (heR2_pl Hhb18.out _ (by simp))
                · exact (heR2_pl Hhb18.out _ (by simp))
                · exact (heR2_pl Hhb18.out _ (by simp)))))).mono ?_
              obtain ⟨U179, hU179⟩ : ∃ qu, (⟨i, a, b, x, U166, U175⟩ : He) = qu := ⟨_, rfl⟩
              rw [hU179]
              have HU179 := Lib.hid hU179
              clear hU179
              rintro e w177 ⟨s180, s181, s182, s183, s184, rfl, ⟨hl185, hl186, hl187, hl188, hl189⟩, k178⟩
              obtain ⟨a190, c191, S192, rfl, -⟩ := hl185.out
              obtain ⟨a193, c194, S195, rfl, -⟩ := hl186.out
              obtain ⟨a196, c197, S198, rfl, -⟩ := hl187.out
              obtain ⟨a199, c200, S201, rfl, -⟩ := hl188.out
              obtain ⟨a202, c203, S204, rfl, -⟩ := hl189.out
              have Kk205 := Lib.hid k178
              clear k178
              have Hhl185 : Hid (LiesQ w177 (Par w V0.heap.size [] P) U179.a.kids _) := par_give hl185 (Below.size (kept_trans Kk14.out (kept_trans Kk20.out (kept_trans Kk27.out (kept_trans Kk150.out (kept_trans Kk157.out (kept_trans Kk167.out Kk176.out))))))) (xlt_nil _)
              have Hhl186 : Hid (LiesQ w177 (Par w V0.heap.size [] P) U179.b.kids _) := par_give hl186 (Below.size (kept_trans Kk14.out (kept_trans Kk20.out (kept_trans Kk27.out (kept_trans Kk150.out (kept_trans Kk157.out (kept_trans Kk167.out Kk176.out))))))) (xlt_nil _)
              have Hhl187 : Hid (LiesQ w177 (Par w V0.heap.size [] P) U179.x.kids _) := par_give hl187 (Below.size (kept_trans Kk14.out (kept_trans Kk20.out (kept_trans Kk27.out (kept_trans Kk150.out (kept_trans Kk157.out (kept_trans Kk167.out Kk176.out))))))) (xlt_nil _)
              have Hhl188 : Hid (LiesQ w177 (Par w V0.heap.size [] P) U179.y.kids _) := par_give hl188 (Below.size (kept_trans Kk14.out (kept_trans Kk20.out (kept_trans Kk27.out (kept_trans Kk150.out (kept_trans Kk157.out (kept_trans Kk167.out Kk176.out))))))) (xlt_nil _)
              have Hhl189 : Hid (LiesQ w177 (Par w V0.heap.size [] P) U179.h.kids _) := par_give hl189 (Below.size (kept_trans Kk14.out (kept_trans Kk20.out (kept_trans Kk27.out (kept_trans Kk150.out (kept_trans Kk157.out (kept_trans Kk167.out Kk176.out))))))) (xlt_nil _)
              clear hl185 hl186 hl187 hl188 hl189
              clear hHeld
              refine hK.out _ _ ?_ (fun hHeld => ?_)
              · (try dsimp only)
                exact sees_kept _ (kept_trans Kk150.out (kept_trans Kk157.out (kept_trans Kk167.out (kept_trans Kk176.out Kk205.out))))
              clear hK K
              (try simp only [Act.put, List.setIfInBounds_toArray, List.set_cons_zero, List.set_cons_succ])
              refine wpAnyH_ready (rs := [20]) (by kernel_rfl) (by simp) ?_
              refine AllReadyH.cons (o := hmovedr3_20) rfl (fun K hK => ?_) ?_
              · unfold hmovedr3_20
                refine step_store_part rfl 51 (.tmp 10) (.tmp 39) rfl (w.heap.size + 4) 0 #[.int .i64 U179.i, .int .i64 U179.a.k, .int .i64 U179.a.i, .int .i64 U179.a.j, .int .i64 U179.a.n, (.slice a190 U179.a.kids.length c191), .int .i64 U179.b.k, .int .i64 U179.b.i, .int .i64 U179.b.j, .int .i64 U179.b.n, (.slice a193 U179.b.kids.length c194), .int .i64 U179.x.k, .int .i64 U179.x.i, .int .i64 U179.x.j, .int .i64 U179.x.n, (.slice a196 U179.x.kids.length c197), .int .i64 U179.y.k, .int .i64 U179.y.i, .int .i64 U179.y.j, .int .i64 U179.y.n, (.slice a199 U179.y.kids.length c200), .int .i64 U179.h.k, .int .i64 U179.h.i, .int .i64 U179.h.j, .int .i64 U179.h.n, (.slice a202 U179.h.kids.length c203)] rfl rfl 51 (by kernel_rfl) (row_ok rfl) _ #[.int .i64 U179.i, .int .i64 U179.a.k, .int .i64 U179.a.i, .int .i64 U179.a.j, .int .i64 U179.a.n, (.slice a190 U179.a.kids.length c191), .int .i64 U179.b.k, .int .i64 U179.b.i, .int .i64 U179.b.j, .int .i64 U179.b.n, (.slice a193 U179.b.kids.length c194), .int .i64 U179.x.k, .int .i64 U179.x.i, .int .i64 U179.x.j, .int .i64 U179.x.n, (.slice a196 U179.x.kids.length c197), .int .i64 U179.y.k, .int .i64 U179.y.i, .int .i64 U179.y.j, .int .i64 U179.y.n, (.slice a199 U179.y.kids.length c200), .int .i64 U179.h.k, .int .i64 U179.h.i, .int .i64 U179.h.j, .int .i64 U179.h.n, (.slice a202 U179.h.kids.length c203)] (blk_at Hx5.out (kept_trans Kk14.out (kept_trans Kk20.out (kept_trans Kk27.out (kept_trans Kk150.out (kept_trans Kk157.out (kept_trans Kk167.out (kept_trans Kk176.out Kk205.out)))))))) rfl (Nat.le_of_ble_eq_true rfl) ?_
                intro W206 hW206
                clear hHeld
                refine hK.out _ _ ?_ (fun hHeld => ?_)
                · (try dsimp only)
                  exact sees_set (kept_trans Kk150.out (kept_trans Kk157.out (kept_trans Kk167.out (kept_trans Kk176.out Kk205.out)))) hW206
                clear hK K
                (try simp only [Act.put])
                refine wpAnyH_done (by kernel_rfl) ?_ _
                clear hHeld
                go_wp2_with fail
                refine bodyPost_ret (results_cell_row rfl _ _ (w.heap.size + 4) 51 _ _ dh rfl (blk_same (blk_at Hx5.out (kept_trans Kk14.out (kept_trans Kk20.out (kept_trans Kk27.out (kept_trans Kk150.out (kept_trans Kk157.out (kept_trans Kk167.out (kept_trans Kk176.out Kk205.out)))))))) hW206) dh1 (by cases dh <;> first | rfl | exact dh2) (by kernel_rfl)) rfl ?_
                rw [show heMoved i a b p x = U179 from by unfold heMoved; rw [Hhb18.out]; rw [← HU179.out]; rw [← HU175.out]; rw [← HU166.out]; (try rfl)]
                exact ⟨_, _, _, _, _, rfl, ⟨par_end (par_row' Hhl185.out hW206 (by omega) (by have := Z0.out; omega)) (by have := Z0.out; omega), par_end (par_row' Hhl186.out hW206 (by omega) (by have := Z0.out; omega)) (by have := Z0.out; omega), par_end (par_row' Hhl187.out hW206 (by omega) (by have := Z0.out; omega)) (by have := Z0.out; omega), par_end (par_row' Hhl188.out hW206 (by omega) (by have := Z0.out; omega)) (by have := Z0.out; omega), par_end (par_row' Hhl189.out hW206 (by omega) (by have := Z0.out; omega)) (by have := Z0.out; omega)⟩, kept_set (kept_trans Kk8.out (kept_trans Kk14.out (kept_trans Kk20.out (kept_trans Kk27.out (kept_trans Kk150.out (kept_trans Kk157.out (kept_trans Kk167.out (kept_trans Kk176.out Kk205.out)))))))) hW206 (by omega)⟩
              exact AllReadyH.nil
            exact AllReadyH.nil
          exact AllReadyH.nil
        exact AllReadyH.nil
      exact AllReadyH.nil
    exact AllReadyH.nil

end Go.Proofs.Ytkdceahmknhojaa

namespace Go.Proofs.Ytkdceahmknhojaa
open Go.RowKit

theorem five_nodes {w : World} {N : Nat} {a b x y h : Tm} {v : Value} (H : LiesQ w (Far 0 N) [a, b, x, y, h] v) : ∃ (g o cap : Nat) (sa sb sx sy sh : Value), v = .slice (some ⟨g, o, none⟩) 5 cap ∧ N ≤ g ∧ g < w.heap.size ∧
    Node w g o a sa ∧ Node w g (o + 5) b sb ∧ Node w g (o + 10) x sx ∧ Node w g (o + 15) y sy ∧ Node w g (o + 20) h sh ∧
    LiesQ w (Far 0 N) a.kids sa ∧ LiesQ w (Far 0 N) b.kids sb ∧ LiesQ w (Far 0 N) x.kids sx ∧ LiesQ w (Far 0 N) y.kids sy ∧ LiesQ w (Far 0 N) h.kids sh := by
  obtain ⟨ad, cap, S, rfl, hc, hm, hf, hn, hk⟩ := H.out
  obtain ⟨g, o, rfl, hp, h0⟩ := hn 0 (by simp)
  have nd : ∀ i (hi : i < 5), Node w g (o + i * 5) ([a, b, x, y, h][i]'(by simpa using hi)) (S i) := fun i hi => by
    obtain ⟨g', o', e, -, hx⟩ := hn i (by simpa using hi)
    cases e
    exact hx
  refine ⟨g, o, cap, S 0, S 1, S 2, S 3, S 4, rfl, by rcases hp with hp | hp; omega; exact hp, h0.lt, ?_, ?_, ?_, ?_, ?_, hk 0 (by simp), hk 1 (by simp), hk 2 (by simp), hk 3 (by simp), hk 4 (by simp)⟩
  · simpa using nd 0 (by decide)
  · simpa using nd 1 (by decide)
  · simpa using nd 2 (by decide)
  · simpa using nd 3 (by decide)
  · simpa using nd 4 (by decide)
theorem row_cells {V : World} {g o r : Nat} {t : Tm} {s : Value} (h : Node V g o t s) (hne : g ≠ r) :
    (∀ w', Sees V r w' → w'.cell? ⟨g, o, none⟩ = some (.int .i64 t.k)) ∧ (∀ w', Sees V r w' → w'.cell? ⟨g, o + 1, none⟩ = some (.int .i64 t.i)) ∧ (∀ w', Sees V r w' → w'.cell? ⟨g, o + 2, none⟩ = some (.int .i64 t.j)) ∧ (∀ w', Sees V r w' → w'.cell? ⟨g, o + 3, none⟩ = some (.int .i64 t.n)) ∧ (∀ w', Sees V r w' → w'.cell? ⟨g, o + 4, none⟩ = some s) := by
  have k : ∀ w', Sees V r w' → Node w' g o t s := fun w' hs => h.same (hs g h.lt hne)
  exact ⟨fun w' hs => (k w' hs).c0, fun w' hs => (k w' hs).c1, fun w' hs => (k w' hs).c2, fun w' hs => (k w' hs).c3, fun w' hs => (k w' hs).c4⟩

def rLiftr12_0 : Oper := { dst := some 48, op := Go.Op.fieldAddr 45 (Go.Operand.tmp 2) 0, type := 0, pos := "ref.go:130", after := #[], guard := none }
def rLiftr12_1 : Oper := { dst := some 49, op := Go.Op.load 3 (Go.Operand.tmp 48), type := 3, pos := "ref.go:130", after := #[{ on := 0, ground := Go.Ground.data }], guard := none }
def rLiftr12_2 : Oper := { dst := some 50, op := Go.Op.move (Go.Operand.tmp 6), type := 30, pos := "ref.go:130", after := #[], guard := none }
def rLiftr12_3 : Oper := { dst := some 51, op := Go.Op.indexAddr 30 (Go.Operand.tmp 50) (Go.Operand.const (Go.Value.int Go.IntKind.i64 0)), type := 0, pos := "ref.go:130", after := #[{ on := 2, ground := Go.Ground.data }], guard := none }
def rLiftr12_4 : Oper := { dst := some 52, op := Go.Op.load 32 (Go.Operand.tmp 51), type := 32, pos := "ref.go:130", after := #[{ on := 3, ground := Go.Ground.data }], guard := none }
def rLiftr12_5 : Oper := { dst := some 53, op := Go.Op.move (Go.Operand.tmp 6), type := 30, pos := "ref.go:130", after := #[], guard := none }
def rLiftr12_6 : Oper := { dst := some 54, op := Go.Op.indexAddr 30 (Go.Operand.tmp 53) (Go.Operand.const (Go.Value.int Go.IntKind.i64 1)), type := 0, pos := "ref.go:130", after := #[{ on := 5, ground := Go.Ground.data }], guard := none }
def rLiftr12_7 : Oper := { dst := some 55, op := Go.Op.load 32 (Go.Operand.tmp 54), type := 32, pos := "ref.go:130", after := #[{ on := 6, ground := Go.Ground.data }], guard := none }
def rLiftr12_8 : Oper := { dst := some 56, op := Go.Op.move (Go.Operand.tmp 6), type := 30, pos := "ref.go:130", after := #[], guard := none }
def rLiftr12_9 : Oper := { dst := some 57, op := Go.Op.indexAddr 30 (Go.Operand.tmp 56) (Go.Operand.const (Go.Value.int Go.IntKind.i64 2)), type := 0, pos := "ref.go:130", after := #[{ on := 8, ground := Go.Ground.data }], guard := none }
def rLiftr12_10 : Oper := { dst := some 58, op := Go.Op.load 32 (Go.Operand.tmp 57), type := 32, pos := "ref.go:130", after := #[{ on := 9, ground := Go.Ground.data }], guard := none }
def rLiftr12_11 : Oper := { dst := some 59, op := Go.Op.move (Go.Operand.tmp 6), type := 30, pos := "ref.go:130", after := #[], guard := none }
def rLiftr12_12 : Oper := { dst := some 60, op := Go.Op.indexAddr 30 (Go.Operand.tmp 59) (Go.Operand.const (Go.Value.int Go.IntKind.i64 3)), type := 0, pos := "ref.go:130", after := #[{ on := 11, ground := Go.Ground.data }], guard := none }
def rLiftr12_13 : Oper := { dst := some 61, op := Go.Op.load 32 (Go.Operand.tmp 60), type := 32, pos := "ref.go:130", after := #[{ on := 12, ground := Go.Ground.data }], guard := none }
def rLiftr12_14 : Oper := { dst := some 62, op := Go.Op.move (Go.Operand.tmp 6), type := 30, pos := "ref.go:130", after := #[], guard := none }
def rLiftr12_15 : Oper := { dst := some 63, op := Go.Op.indexAddr 30 (Go.Operand.tmp 62) (Go.Operand.const (Go.Value.int Go.IntKind.i64 4)), type := 0, pos := "ref.go:130", after := #[{ on := 14, ground := Go.Ground.data }], guard := none }
def rLiftr12_16 : Oper := { dst := some 64, op := Go.Op.load 32 (Go.Operand.tmp 63), type := 32, pos := "ref.go:130", after := #[{ on := 15, ground := Go.Ground.data }], guard := none }
def rLiftr12_17 : Oper := { dst := some 65, op := Go.Op.build 45 #[(0, Go.Operand.tmp 49), (1, Go.Operand.tmp 52), (2, Go.Operand.tmp 55), (3, Go.Operand.tmp 58), (4, Go.Operand.tmp 61), (5, Go.Operand.tmp 64)], type := 45, pos := "ref.go:130", after := #[{ on := 1, ground := Go.Ground.data }, { on := 4, ground := Go.Ground.data }, { on := 7, ground := Go.Ground.data }, { on := 10, ground := Go.Ground.data }, { on := 13, ground := Go.Ground.data }, { on := 16, ground := Go.Ground.data }], guard := none }
def rLiftr12_18 : Oper := { dst := none, op := Go.Op.store 45 (Go.Operand.tmp 4) (Go.Operand.tmp 65), type := 0, pos := "ref.go:130", after := #[{ on := 17, ground := Go.Ground.data }, { on := 0, ground := Go.Ground.phase }, { on := 1, ground := Go.Ground.phase }, { on := 2, ground := Go.Ground.phase }, { on := 3, ground := Go.Ground.phase }, { on := 4, ground := Go.Ground.phase }, { on := 5, ground := Go.Ground.phase }, { on := 6, ground := Go.Ground.phase }, { on := 7, ground := Go.Ground.phase }, { on := 8, ground := Go.Ground.phase }, { on := 9, ground := Go.Ground.phase }, { on := 10, ground := Go.Ground.phase }, { on := 11, ground := Go.Ground.phase }, { on := 12, ground := Go.Ground.phase }, { on := 13, ground := Go.Ground.phase }, { on := 14, ground := Go.Ground.phase }, { on := 15, ground := Go.Ground.phase }, { on := 16, ground := Go.Ground.phase }, { on := 17, ground := Go.Ground.phase }], guard := none }
set_option maxRecDepth 20000 in
set_option maxHeartbeats 4000000 in
theorem rLift_any (k : Int) (h : He) (P : Nat → Prop) (w : World) (sha : Value) (shb : Value) (shx : Value) (shy : Value) (shh : Value) (hfh : h.fine) (hlh : HQ w P h sha shb shx shy shh) (hrk : I64 k) (hd : ∀ x ∈ [h.a, h.b, h.x, h.y, h.h], x.deep ≤ 100000) : Calls Try.prog 42 #[hv h sha shb shx shy shh, .int .i64 k] w (GivesHP P (heLift h k) w) := by
  have Gh := Lib.hid hfh
  clear hfh
  obtain ⟨hlha, hlhb, hlhx, hlhy, hlhh⟩ := hlh
  obtain ⟨aha, cha, Sha, rfl, -⟩ := hlha.out
  obtain ⟨ahb, chb, Shb, rfl, -⟩ := hlhb.out
  obtain ⟨ahx, chx, Shx, rfl, -⟩ := hlhx.out
  obtain ⟨ahy, chy, Shy, rfl, -⟩ := hlhy.out
  obtain ⟨ahh, chh, Shh, rfl, -⟩ := hlhh.out
  have Rk := Lib.hid hrk
  clear hrk
  have HD := Lib.hid hd
  clear hd
  obtain ⟨du, hu1, hu2⟩ := under_term
  obtain ⟨dr, dr1, dr2⟩ := under_of 45 (by kernel_rfl)
  unfold hv
  go_enter Try.func42, Try.ntmps42
  go_upto_region 1 with fail
  refine at_code (fun V0 hV0 => ?_)
  obtain ⟨k3, x1, x2, z4⟩ := alloc2 hV0
  have Kk5 := Lib.hid k3
  clear k3
  have Hx1 := Lib.hid x1
  have Hx2 := Lib.hid x2
  have Z0 := Lib.hid z4
  clear z4 x1 x2 hV0
  have HLha : Hid (LiesQ V0 (Par w V0.heap.size [] P) h.a.kids _) := (par_in _ _ hlha).later Kk5.out
  clear hlha
  have HLhb : Hid (LiesQ V0 (Par w V0.heap.size [] P) h.b.kids _) := (par_in _ _ hlhb).later Kk5.out
  clear hlhb
  have HLhx : Hid (LiesQ V0 (Par w V0.heap.size [] P) h.x.kids _) := (par_in _ _ hlhx).later Kk5.out
  clear hlhx
  have HLhy : Hid (LiesQ V0 (Par w V0.heap.size [] P) h.y.kids _) := (par_in _ _ hlhy).later Kk5.out
  clear hlhy
  have HLhh : Hid (LiesQ V0 (Par w V0.heap.size [] P) h.h.kids _) := (par_in _ _ hlhh).later Kk5.out
  clear hlhh
  have ld6 := part_cell (r := (w.heap.size + 1)) Hx1.out (by have := Z0.out; omega) 0 (.int .i64 h.i) rfl
  have kvV0 : Sees V0 (w.heap.size + 1) V0 := sees_kept _ (kept_refl _)
  go_wp2_with (refine stop_load 45 (.tmp 2) rfl ?_)
  intro _
  refine wpList_load_part (w.heap.size) 0 45 (.tmp 2) #[.int .i64 h.i, .int .i64 h.a.k, .int .i64 h.a.i, .int .i64 h.a.j, .int .i64 h.a.n, (.slice aha h.a.kids.length cha), .int .i64 h.b.k, .int .i64 h.b.i, .int .i64 h.b.j, .int .i64 h.b.n, (.slice ahb h.b.kids.length chb), .int .i64 h.x.k, .int .i64 h.x.i, .int .i64 h.x.j, .int .i64 h.x.n, (.slice ahx h.x.kids.length chx), .int .i64 h.y.k, .int .i64 h.y.i, .int .i64 h.y.j, .int .i64 h.y.n, (.slice ahy h.y.kids.length chy), .int .i64 h.h.k, .int .i64 h.h.i, .int .i64 h.h.j, .int .i64 h.h.n, (.slice ahh h.h.kids.length chh)] dr Hx1.out (by rfl) rfl (by rfl) (by rfl) dr1 (by cases dr <;> first | rfl | exact dr2) (by kernel_rfl) ?_
  go_wp2_with fail
  clear kvV0
  refine (rRight_any h (Par w V0.heap.size [] P) _ (.slice aha h.a.kids.length cha) (.slice ahb h.b.kids.length chb) (.slice ahx h.x.kids.length chx) (.slice ahy h.y.kids.length chy) (.slice ahh h.h.kids.length chh) ⟨Gh.out.1, Gh.out.2.1, Gh.out.2.2.1, Gh.out.2.2.2.1, Gh.out.2.2.2.2.1, Gh.out.2.2.2.2.2⟩ ⟨HLha.out, HLhb.out, HLhx.out, HLhy.out, HLhh.out⟩).mono ?_
  obtain ⟨rb10, hb9⟩ : ∃ qb, heR h = qb := ⟨_, rfl⟩
  rw [hb9]
  have Hhb9 := Lib.hid hb9
  clear hb9
  rintro e w7 ⟨rfl, k8⟩
  have Kk11 := Lib.hid k8
  clear k8
  cases rb10 with
  | false =>
    have kvV0 : Sees V0 (w.heap.size + 1) w7 := sees_kept _ Kk11.out
    go_wp2_with (refine stop_store 45 (.tmp 4) (.tmp 16) rfl ?_)
    intro _
    refine wpList_store_part_n (by rfl) 45 (.tmp 4) (.tmp 16) rfl (w.heap.size + 1) 0 #[.int .i64 0, .int .i64 0, .int .i64 0, .int .i64 0, .int .i64 0, .slice none 0 0, .int .i64 0, .int .i64 0, .int .i64 0, .int .i64 0, .slice none 0 0, .int .i64 0, .int .i64 0, .int .i64 0, .int .i64 0, .slice none 0 0, .int .i64 0, .int .i64 0, .int .i64 0, .int .i64 0, .slice none 0 0, .int .i64 0, .int .i64 0, .int .i64 0, .int .i64 0, .slice none 0 0] (by rfl) (by rfl) 45 (by kernel_rfl) (row_ok rfl) ?_
    intro W12 hW12
    clear kvV0
    subst hW12
    refine ⟨_, #[.int .i64 0, .int .i64 0, .int .i64 0, .int .i64 0, .int .i64 0, .slice none 0 0, .int .i64 0, .int .i64 0, .int .i64 0, .int .i64 0, .slice none 0 0, .int .i64 0, .int .i64 0, .int .i64 0, .int .i64 0, .slice none 0 0, .int .i64 0, .int .i64 0, .int .i64 0, .int .i64 0, .slice none 0 0, .int .i64 0, .int .i64 0, .int .i64 0, .int .i64 0, .slice none 0 0], (blk_at Hx2.out Kk11.out), rfl, Nat.le_of_ble_eq_true rfl, ?_⟩
    intro W13 hW13
    go_wp2_with fail
    refine bodyPost_ret (results_cell_row rfl _ _ (w.heap.size + 1) 45 _ _ dr rfl (blk_same (blk_at Hx2.out Kk11.out) hW13) dr1 (by cases dr <;> first | rfl | exact dr2) (by kernel_rfl)) rfl ?_
    rw [show heLift h k = He.zero from by unfold heLift; rw [Hhb9.out]; (try rfl)]
    exact ⟨_, _, _, _, _, rfl, ⟨par_end (par_row' (liesQ_nil w7 (Par w V0.heap.size [] P)) hW13 (by omega) (by have := Z0.out; omega)) (by have := Z0.out; omega), par_end (par_row' (liesQ_nil w7 (Par w V0.heap.size [] P)) hW13 (by omega) (by have := Z0.out; omega)) (by have := Z0.out; omega), par_end (par_row' (liesQ_nil w7 (Par w V0.heap.size [] P)) hW13 (by omega) (by have := Z0.out; omega)) (by have := Z0.out; omega), par_end (par_row' (liesQ_nil w7 (Par w V0.heap.size [] P)) hW13 (by omega) (by have := Z0.out; omega)) (by have := Z0.out; omega), par_end (par_row' (liesQ_nil w7 (Par w V0.heap.size [] P)) hW13 (by omega) (by have := Z0.out; omega)) (by have := Z0.out; omega)⟩, kept_set (kept_trans Kk5.out Kk11.out) hW13 (by omega)⟩
  | true =>
    have ew14 : IntKind.i64.wrap (h.i + 1) = h.i + 1 := IntWalk.i64_in _ (by have := levN_true (heR_lev Hhb9.out); omega)
    have kvV0 : Sees V0 (w.heap.size + 1) w7 := sees_kept _ Kk11.out
    by_cases c15 : k < 0
    · have ec15 : decide (k < 0) = true := decide_eq_true c15
      have Ec15 := Lib.hid ec15
      have Hc15 := Lib.hid c15
      clear c15
      go_wp2_with (refine stop_store 45 (.tmp 4) (.tmp 16) rfl ?_)
      intro _
      refine wpList_store_part_n (by rfl) 45 (.tmp 4) (.tmp 16) rfl (w.heap.size + 1) 0 #[.int .i64 0, .int .i64 0, .int .i64 0, .int .i64 0, .int .i64 0, .slice none 0 0, .int .i64 0, .int .i64 0, .int .i64 0, .int .i64 0, .slice none 0 0, .int .i64 0, .int .i64 0, .int .i64 0, .int .i64 0, .slice none 0 0, .int .i64 0, .int .i64 0, .int .i64 0, .int .i64 0, .slice none 0 0, .int .i64 0, .int .i64 0, .int .i64 0, .int .i64 0, .slice none 0 0] (by rfl) (by rfl) 45 (by kernel_rfl) (row_ok rfl) ?_
      intro W16 hW16
      clear kvV0
      subst hW16
      refine ⟨_, #[.int .i64 0, .int .i64 0, .int .i64 0, .int .i64 0, .int .i64 0, .slice none 0 0, .int .i64 0, .int .i64 0, .int .i64 0, .int .i64 0, .slice none 0 0, .int .i64 0, .int .i64 0, .int .i64 0, .int .i64 0, .slice none 0 0, .int .i64 0, .int .i64 0, .int .i64 0, .int .i64 0, .slice none 0 0, .int .i64 0, .int .i64 0, .int .i64 0, .int .i64 0, .slice none 0 0], (blk_at Hx2.out Kk11.out), rfl, Nat.le_of_ble_eq_true rfl, ?_⟩
      intro W17 hW17
      go_wp2_with fail
      refine bodyPost_ret (results_cell_row rfl _ _ (w.heap.size + 1) 45 _ _ dr rfl (blk_same (blk_at Hx2.out Kk11.out) hW17) dr1 (by cases dr <;> first | rfl | exact dr2) (by kernel_rfl)) rfl ?_
      rw [show heLift h k = He.zero from heLift_neg h (of_decide_eq_true Ec15.out)]
      exact ⟨_, _, _, _, _, rfl, ⟨par_end (par_row' (liesQ_nil w7 (Par w V0.heap.size [] P)) hW17 (by omega) (by have := Z0.out; omega)) (by have := Z0.out; omega), par_end (par_row' (liesQ_nil w7 (Par w V0.heap.size [] P)) hW17 (by omega) (by have := Z0.out; omega)) (by have := Z0.out; omega), par_end (par_row' (liesQ_nil w7 (Par w V0.heap.size [] P)) hW17 (by omega) (by have := Z0.out; omega)) (by have := Z0.out; omega), par_end (par_row' (liesQ_nil w7 (Par w V0.heap.size [] P)) hW17 (by omega) (by have := Z0.out; omega)) (by have := Z0.out; omega), par_end (par_row' (liesQ_nil w7 (Par w V0.heap.size [] P)) hW17 (by omega) (by have := Z0.out; omega)) (by have := Z0.out; omega)⟩, kept_set (kept_trans Kk5.out Kk11.out) hW17 (by omega)⟩
    · have ec15 : decide (k < 0) = false := decide_eq_false c15
      have Ec15 := Lib.hid ec15
      have Hc15 := Lib.hid c15
      clear c15
      go_wp2_with (refine stop_load 32 (.tmp 17) rfl ?_)
      intro _
      refine wpList_load_part (w.heap.size) 1 32 (.tmp 17) #[.int .i64 h.a.k, .int .i64 h.a.i, .int .i64 h.a.j, .int .i64 h.a.n, (.slice aha h.a.kids.length cha)] du (blk_at Hx1.out Kk11.out) (by rfl) rfl (by rfl) (by rfl) hu1 (by cases du <;> first | rfl | exact hu2) size_term ?_
      go_wp2_with (refine stop_load 32 (.tmp 19) rfl ?_)
      intro _
      refine wpList_load_part (w.heap.size) 6 32 (.tmp 19) #[.int .i64 h.b.k, .int .i64 h.b.i, .int .i64 h.b.j, .int .i64 h.b.n, (.slice ahb h.b.kids.length chb)] du (blk_at Hx1.out Kk11.out) (by rfl) rfl (by rfl) (by rfl) hu1 (by cases du <;> first | rfl | exact hu2) size_term ?_
      go_wp2_with (refine stop_load 32 (.tmp 21) rfl ?_)
      intro _
      refine wpList_load_part (w.heap.size) 11 32 (.tmp 21) #[.int .i64 h.x.k, .int .i64 h.x.i, .int .i64 h.x.j, .int .i64 h.x.n, (.slice ahx h.x.kids.length chx)] du (blk_at Hx1.out Kk11.out) (by rfl) rfl (by rfl) (by rfl) hu1 (by cases du <;> first | rfl | exact hu2) size_term ?_
      go_wp2_with (refine stop_load 32 (.tmp 23) rfl ?_)
      intro _
      refine wpList_load_part (w.heap.size) 16 32 (.tmp 23) #[.int .i64 h.y.k, .int .i64 h.y.i, .int .i64 h.y.j, .int .i64 h.y.n, (.slice ahy h.y.kids.length chy)] du (blk_at Hx1.out Kk11.out) (by rfl) rfl (by rfl) (by rfl) hu1 (by cases du <;> first | rfl | exact hu2) size_term ?_
      go_wp2_with (refine stop_load 32 (.tmp 25) rfl ?_)
      intro _
      refine wpList_load_part (w.heap.size) 21 32 (.tmp 25) #[.int .i64 h.h.k, .int .i64 h.h.i, .int .i64 h.h.j, .int .i64 h.h.n, (.slice ahh h.h.kids.length chh)] du (blk_at Hx1.out Kk11.out) (by rfl) rfl (by rfl) (by rfl) hu1 (by cases du <;> first | rfl | exact hu2) size_term ?_
      go_wp2_with fail
      refine at_code (fun W19 hW19 => ?_)
      clear kvV0
      obtain ⟨k21, x20, z22⟩ := alloc1 hW19
      have Kk23 := Lib.hid k21
      clear k21
      have Hx20 := Lib.hid x20
      have Hz22 := Lib.hid z22
      clear x20 z22 hW19
      have HR24 : Hid (LiesQ W19 (Par w V0.heap.size [] P) [h.a, h.b, h.x, h.y, h.h] (.slice (some ⟨w7.heap.size, 0, none⟩) 5 5)) := q_row [(h.a, (.slice aha h.a.kids.length cha)), (h.b, (.slice ahb h.b.kids.length chb)), (h.x, (.slice ahx h.x.kids.length chx)), (h.y, (.slice ahy h.y.kids.length chy)), (h.h, (.slice ahh h.h.kids.length chh))] _ rfl Hx20.out (par_new (Below.size Kk11.out) (xlt_nil _) (Nat.le_refl _)) (fun p hp => by
        simp only [List.mem_cons, List.not_mem_nil, or_false] at hp
        rcases hp with rfl | rfl | rfl | rfl | rfl
        · exact ⟨Gh.out.2.1, (HLha.out.later (kept_trans Kk11.out Kk23.out))⟩
        · exact ⟨Gh.out.2.2.1, (HLhb.out.later (kept_trans Kk11.out Kk23.out))⟩
        · exact ⟨Gh.out.2.2.2.1, (HLhx.out.later (kept_trans Kk11.out Kk23.out))⟩
        · exact ⟨Gh.out.2.2.2.2.1, (HLhy.out.later (kept_trans Kk11.out Kk23.out))⟩
        · exact ⟨Gh.out.2.2.2.2.2, (HLhh.out.later (kept_trans Kk11.out Kk23.out))⟩) (Nat.le_of_ble_eq_true rfl)
      obtain ⟨l, hll⟩ : ∃ l, [h.a, h.b, h.x, h.y, h.h] = l := ⟨_, rfl⟩
      obtain ⟨aL, haL⟩ : ∃ x : Option Addr, some ⟨w7.heap.size, 0, none⟩ = x := ⟨_, rfl⟩
      have HLR : Hid (LiesQ W19 (Par w V0.heap.size [] P) l (.slice aL 5 5)) := by show LiesQ _ _ _ _; rw [← hll, ← haL]; exact HR24.out
      rw [haL]
      clear haL
      have HL5 : Hid (l.length = 5) := by show _ = _; rw [← hll]; rfl
      have HLF : Hid (∀ t ∈ l, t.deep ≤ 100000) := by rw [← hll]; exact HD.out
      have HLP : Hid (∀ t ∈ l, t.plainB = true) := by rw [← hll]; exact heR_pl Hhb9.out
      obtain ⟨aL', cL, SL, eL, -, -, -, hn, hk5⟩ := HLR.out.out
      have HN := Lib.hid hn
      have HKK := Lib.hid hk5
      have HLL := Lib.hid hll
      obtain ⟨i0, hi, hz0, hz1, hz2⟩ := info_parts info_term
      have HI := Lib.hid (And.intro hi (And.intro hz0 (And.intro hz1 hz2)))
      clear hn hk5 hll hi hz0 hz1 hz2
      injection eL with eL1 eL2 eL3
      subst eL1
      clear eL2 eL3
      go_loopw [6, 7] (fun v iv wr => ∃ (q : Nat) (ps : List (Tm × Value)) (vv : Value), vv = v ∧ q ≤ 5 ∧ iv = .int .i64 q ∧ Hid (ps.map (·.1) = (l.take q).map (fun t => t.liftB k 0)) ∧ Hid (∀ t ∈ l.take q, (t.liftB k 0).k ≠ 0) ∧ MadeQ 0 W19.heap.size W19.heap.size wr vv ps ∧ Kept W19 wr) (fun _ iv _ => 5 - (intOf iv).toNat)
      case atStart => exact ⟨0, [], _, rfl, Nat.zero_le _, rfl, rfl, (fun t h => by cases h), madeQ_nil _ _ _ _, kept_refl _⟩
      case round =>
        obtain ⟨q, ps, vv, rfl, hq5, rfl, hps0, hnz0, hmade, hb⟩ := hrel
        have HPS := Lib.hid hps0.out
        have HNZ := Lib.hid hnz0.out
        have HMD := Lib.hid hmade
        have HB := Lib.hid hb
        have HPL : Hid (ps.length = q) := by
          show _ = _
          have := congrArg List.length HPS.out
          have h5 := HL5.out
          simp at this
          omega
        clear hps0 hnz0 hmade hb
        by_cases hlt : q < 5
        · have e5 : decide ((q : Int) < 5) = true := decide_eq_true (by omega)
          have hlq : q < l.length := by rw [HL5.out]; exact hlt
          obtain ⟨b, o, rfl, -, hx⟩ := HN.out q hlq
          obtain ⟨c0, c1, c2, c3, c4⟩ := hx.below HB.out hx.lt
          have hq := HKK.out q hlq
          obtain ⟨a', cap', S', hS, -⟩ := hq.out
          rw [hS] at c4 hq
          have HQ := Lib.hid (hq.later HB.out)
          have HM := Lib.hid (List.getElem_mem hlq)
          clear hq
          go_wp2_with fail
          refine (reflift_any l[q] k 0 _ _ HQ.out.lies Rk.out (by unfold I64; decide) (HLF.out _ HM.out)).mono ?_
          obtain ⟨U, hU⟩ : ∃ U, (l[q]).liftB k 0 = U := ⟨_, rfl⟩
          have HFU : Hid U.fine := by show U.fine; rw [← hU]; exact lift_fine k (HLP.out _ HM.out)
          rw [hU]
          have HU := Lib.hid hU
          clear hU
          rintro e w2 ⟨s2, rfl, hl2, hb2⟩
          obtain ⟨a2, cap2, rfl, -, -⟩ := hl2.out
          have HL2 := Lib.hid hl2.q
          have HB2 := Lib.hid hb2
          clear hl2 hb2 c0 c1 c2 c3 c4 hx
          have hs2 := Below.size HB2.out
          have hs1 := Below.size HB.out
          by_cases hz : U.k = 0
          · have ez : (U.k == 0) = true := by rw [beq_iff_eq]; exact hz
            have HSP : Hid (heLift h k = He.zero) := by
              show _ = _
              rw [heLift_kinds k Hhb9.out, HLL.out]
              refine if_neg (fun hall => ?_)
              have := List.all_eq_true.1 hall _ HM.out
              rw [HU.out, hz] at this
              exact absurd this (by decide)
            clear hz
            go_wp2_with (refine stop_store 45 (.tmp 4) (.tmp 43) rfl ?_)
            intro _
            refine wpList_store_part_n (by rfl) 45 (.tmp 4) (.tmp 43) rfl (w.heap.size + 1) 0 #[.int .i64 0, .int .i64 0, .int .i64 0, .int .i64 0, .int .i64 0, .slice none 0 0, .int .i64 0, .int .i64 0, .int .i64 0, .int .i64 0, .slice none 0 0, .int .i64 0, .int .i64 0, .int .i64 0, .int .i64 0, .slice none 0 0, .int .i64 0, .int .i64 0, .int .i64 0, .int .i64 0, .slice none 0 0, .int .i64 0, .int .i64 0, .int .i64 0, .int .i64 0, .slice none 0 0] (by rfl) (by rfl) 45 (by kernel_rfl) (row_ok rfl) ?_
            intro Wa hWa
            obtain ⟨ka, -, za⟩ := alloc1 hWa
            clear hWa
            have HBA := Lib.hid (kept_trans (kept_trans HB.out HB2.out) ka)
            refine ⟨_, #[.int .i64 0, .int .i64 0, .int .i64 0, .int .i64 0, .int .i64 0, .slice none 0 0, .int .i64 0, .int .i64 0, .int .i64 0, .int .i64 0, .slice none 0 0, .int .i64 0, .int .i64 0, .int .i64 0, .int .i64 0, .slice none 0 0, .int .i64 0, .int .i64 0, .int .i64 0, .int .i64 0, .slice none 0 0, .int .i64 0, .int .i64 0, .int .i64 0, .int .i64 0, .slice none 0 0], blk_at Hx2.out (kept_trans (kept_trans Kk11.out Kk23.out) HBA.out), rfl, Nat.le_of_ble_eq_true rfl, ?_⟩
            intro Wb hWb
            go_wp2_with fail
            (try simp only [Exit.inBlock, Exit.then])
            refine bodyPost_ret (results_cell_row rfl _ _ (w.heap.size + 1) 45 _ _ dr rfl (blk_same (blk_at Hx2.out (kept_trans (kept_trans Kk11.out Kk23.out) HBA.out)) hWb) dr1 (by cases dr <;> first | rfl | exact dr2) (by kernel_rfl)) rfl ?_
            rw [HSP.out]
            exact ⟨_, _, _, _, _, rfl, ⟨liesQ_nil _ _, liesQ_nil _ _, liesQ_nil _ _, liesQ_nil _ _, liesQ_nil _ _⟩, kept_set (kept_trans (kept_trans Kk5.out (kept_trans Kk11.out Kk23.out)) HBA.out) hWb (by omega)⟩
          · have ez : (U.k == 0) = false := by rw [beq_eq_false_iff_ne]; exact hz
            have HNK := Lib.hid hz
            clear hz
            go_wp2_with (at_builtin; refine wpList_append_lies _ rfl _ _ 30 rfl W19.heap.size 32 i0 _ 5 56 (by kernel_rfl) HI.out.1 HI.out.2.1 HI.out.2.2.1 HI.out.2.2.2 rfl (by decide) _ ps.length (cells5 ps) rfl (madeQ_later (madeQ_later (madeQ_later HMD.out HB2.out) (kept_new _ _)) (kept_new _ _)).own ⟨w2.heap.size + 1, 0, none⟩ 1 1 (cells5 [(U, .slice a2 U.kids.length cap2)]) rfl rfl ?news ?one (by decide) ?max ?bytes ?base _ rfl ?next)
            case news => exact news_new2 _ _ _ _ _
            case one => intro v hv; simp [cells5] at hv; rcases hv with rfl | rfl | rfl | rfl | rfl <;> rfl
            case max => have := HPL.out; unfold maxLen; omega
            case bytes => have := HPL.out; omega
            case base => simp; omega
            case next =>
              intro g cap3 w3 hown hgrow hat _
              have hmd := madeQ_push HMD.out (Nat.zero_le _) (Nat.le_refl _) hs1 HFU.out (below_call HB2.out (kept_new w2 (.cells #[.int .i64 U.k, .int .i64 U.i, .int .i64 U.j, .int .i64 U.n, .slice a2 U.kids.length cap2] 32)) hs2) ((HL2.out.later (kept_new w2 _)).wide (fun b hb => Or.inr hb.1)) _ hown hgrow (by simpa using hat)
              have hkE : Kept W19 w3 := Below.grown (kept_trans (kept_trans (kept_trans HB.out HB2.out) (kept_new _ _)) (kept_new _ _)) hgrow (by simp; omega) (madeQ_above HMD.out)
              clear hown hgrow hat
              have HMD2 := Lib.hid hmd
              clear hmd
              go_wp2_with fail
              go_roundw
              case rel =>
                refine ⟨q + 1, ps ++ [(U, .slice a2 U.kids.length cap2)], _, rfl, hlt, by go_num, ?_, ?_, HMD2.out, hkE⟩
                · show _ = _
                  rw [List.map_append, HPS.out, List.take_succ_eq_append_getElem hlq, List.map_append]
                  simp [HU.out]
                · intro t ht
                  rw [List.take_succ_eq_append_getElem hlq] at ht
                  rcases List.mem_append.1 ht with ht | ht
                  · exact HNZ.out t ht
                  · rw [List.mem_singleton.1 ht, HU.out]; exact HNK.out
              case measure => simp [intOf]; omega
        · have e5 : decide ((q : Int) < 5) = false := decide_eq_false (by omega)
          obtain rfl : q = 5 := by omega
          have hml := madeQ_lies HMD.out (Nat.le_refl _)
          have HSP : Hid (heLift h k = heUp h k) := by
            show _ = _
            rw [heLift_kinds k Hhb9.out, HLL.out]
            refine if_pos (List.all_eq_true.2 (fun t ht => ?_))
            have := HNZ.out t (by rw [List.take_of_length_le (by rw [HL5.out]; exact Nat.le_refl _)]; exact ht)
            simpa using this
          rw [HPS.out, List.take_of_length_le (by rw [HL5.out]; exact Nat.le_refl _), ← HLL.out] at hml
          simp only [List.map_cons, List.map_nil] at hml
          obtain ⟨Ua, hUa⟩ : ∃ q, h.a.liftB k 0 = q := ⟨_, rfl⟩
          have HFUa : Hid (Ua.fine) := by show Ua.fine; rw [← hUa]; exact lift_fine k (heR_pl Hhb9.out _ (by simp))
          obtain ⟨Ub, hUb⟩ : ∃ q, h.b.liftB k 0 = q := ⟨_, rfl⟩
          have HFUb : Hid (Ub.fine) := by show Ub.fine; rw [← hUb]; exact lift_fine k (heR_pl Hhb9.out _ (by simp))
          obtain ⟨Ux, hUx⟩ : ∃ q, h.x.liftB k 0 = q := ⟨_, rfl⟩
          have HFUx : Hid (Ux.fine) := by show Ux.fine; rw [← hUx]; exact lift_fine k (heR_pl Hhb9.out _ (by simp))
          obtain ⟨Uy, hUy⟩ : ∃ q, h.y.liftB k 0 = q := ⟨_, rfl⟩
          have HFUy : Hid (Uy.fine) := by show Uy.fine; rw [← hUy]; exact lift_fine k (heR_pl Hhb9.out _ (by simp))
          obtain ⟨Uh, hUh⟩ : ∃ q, h.h.liftB k 0 = q := ⟨_, rfl⟩
          have HFUh : Hid (Uh.fine) := by show Uh.fine; rw [← hUh]; exact lift_fine k (heR_pl Hhb9.out _ (by simp))
          rw [hUa, hUb, hUx, hUy, hUh] at hml
          have HSQ : Hid (heLift h k = ⟨h.i, Ua, Ub, Ux, Uy, Uh⟩) := by show _ = _; rw [HSP.out]; unfold heUp; rw [hUa, hUb, hUx, hUy, hUh]
          clear hUa hUb hUx hUy hUh
          obtain ⟨gL, oL, capL, Sa, Sb, Sx, Sy, Sh, rfl, gF, gLt, na, nb, nx, ny, nh, lka, lkb, lkx, lky, lkh⟩ := five_nodes hml
          clear hml HMD
          have hb := HB.out
          have Kk27 := Lib.hid hb
          clear hb
          obtain ⟨aka, cka, Ska, rfl, -⟩ := lka.out
          have HKa : Hid (LiesQ wr (Par w V0.heap.size [] P) Ua.kids _) := lka.wide (fun b hb => Or.inr ⟨Nat.le_trans (Below.size (kept_trans Kk11.out Kk23.out)) (hb.elim (fun h => absurd h (Nat.not_lt_zero _)) id), by simp⟩)
          clear lka
          obtain ⟨akb, ckb, Skb, rfl, -⟩ := lkb.out
          have HKb : Hid (LiesQ wr (Par w V0.heap.size [] P) Ub.kids _) := lkb.wide (fun b hb => Or.inr ⟨Nat.le_trans (Below.size (kept_trans Kk11.out Kk23.out)) (hb.elim (fun h => absurd h (Nat.not_lt_zero _)) id), by simp⟩)
          clear lkb
          obtain ⟨akx, ckx, Skx, rfl, -⟩ := lkx.out
          have HKx : Hid (LiesQ wr (Par w V0.heap.size [] P) Ux.kids _) := lkx.wide (fun b hb => Or.inr ⟨Nat.le_trans (Below.size (kept_trans Kk11.out Kk23.out)) (hb.elim (fun h => absurd h (Nat.not_lt_zero _)) id), by simp⟩)
          clear lkx
          obtain ⟨aky, cky, Sky, rfl, -⟩ := lky.out
          have HKy : Hid (LiesQ wr (Par w V0.heap.size [] P) Uy.kids _) := lky.wide (fun b hb => Or.inr ⟨Nat.le_trans (Below.size (kept_trans Kk11.out Kk23.out)) (hb.elim (fun h => absurd h (Nat.not_lt_zero _)) id), by simp⟩)
          clear lky
          obtain ⟨akh, ckh, Skh, rfl, -⟩ := lkh.out
          have HKh : Hid (LiesQ wr (Par w V0.heap.size [] P) Uh.kids _) := lkh.wide (fun b hb => Or.inr ⟨Nat.le_trans (Below.size (kept_trans Kk11.out Kk23.out)) (hb.elim (fun h => absurd h (Nat.not_lt_zero _)) id), by simp⟩)
          clear lkh
          have qa := row_cells (r := (w.heap.size + 1)) na (by have := gF; have := Below.size (kept_trans Kk11.out Kk23.out); have := Z0.out; omega)
          obtain ⟨qaa, qba, qca, qda, qea⟩ := qa
          clear na
          have qb := row_cells (r := (w.heap.size + 1)) nb (by have := gF; have := Below.size (kept_trans Kk11.out Kk23.out); have := Z0.out; omega)
          obtain ⟨qab, qbb, qcb, qdb, qeb⟩ := qb
          clear nb
          have qx := row_cells (r := (w.heap.size + 1)) nx (by have := gF; have := Below.size (kept_trans Kk11.out Kk23.out); have := Z0.out; omega)
          obtain ⟨qax, qbx, qcx, qdx, qex⟩ := qx
          clear nx
          have qy := row_cells (r := (w.heap.size + 1)) ny (by have := gF; have := Below.size (kept_trans Kk11.out Kk23.out); have := Z0.out; omega)
          obtain ⟨qay, qby, qcy, qdy, qey⟩ := qy
          clear ny
          have qh := row_cells (r := (w.heap.size + 1)) nh (by have := gF; have := Below.size (kept_trans Kk11.out Kk23.out); have := Z0.out; omega)
          obtain ⟨qah, qbh, qch, qdh, qeh⟩ := qh
          clear nh
          have kvV0 : Sees V0 (w.heap.size + 1) wr := sees_kept _ (kept_trans Kk11.out (kept_trans Kk23.out Kk27.out))
          have kvwr : Sees wr (w.heap.size + 1) wr := sees_kept _ (kept_refl _)
          go_wp2_with fail
          clear kvV0
          clear kvwr
          obtain ⟨W28, h29⟩ : ∃ x, World.drew wr = x := ⟨_, rfl⟩
          have k30 : Kept wr W28 := by rw [← h29]; exact kept_drew (kept_refl _)
          have Kk31 := Lib.hid k30
          clear k30
          refine wp_region_held_drew (S := Sees W28 (w.heap.size + 1)) (by kernel_rfl) ?_ (fun hHeld => ?_)
          · (try dsimp only)
            rw [h29]
            exact sees_kept _ (kept_refl _)
          rw [h29] at hHeld ⊢
          clear h29
          refine take_at 0 48 rLiftr12_0 (v := ?_) (Or.inl ⟨by rfl, ?_⟩) ?_
          rotate_left 1
          · ((intro w hSw; (try dsimp only at hSw); unfold rLiftr12_0; go_simp) <;> with_reducible rfl)
          (try simp only [Act.put, List.setIfInBounds_toArray, List.set_cons_zero, List.set_cons_succ])
          refine take_at 1 49 rLiftr12_1 (v := ?_) (Or.inl ⟨by rfl, ?_⟩) ?_
          rotate_left 1
          · ((intro w hSw; (try dsimp only at hSw); have qV0 := sees_of (kept_trans Kk11.out (kept_trans Kk23.out (kept_trans Kk27.out Kk31.out))) hSw; have qwr := sees_of Kk31.out hSw; unfold rLiftr12_1; go_simp) <;> with_reducible rfl)
          (try simp only [Act.put, List.setIfInBounds_toArray, List.set_cons_zero, List.set_cons_succ])
          refine take_at 2 50 rLiftr12_2 (v := ?_) (Or.inl ⟨by rfl, ?_⟩) ?_
          rotate_left 1
          · ((intro w hSw; (try dsimp only at hSw); unfold rLiftr12_2; go_simp) <;> with_reducible rfl)
          (try simp only [Act.put, List.setIfInBounds_toArray, List.set_cons_zero, List.set_cons_succ])
          refine take_at 3 51 rLiftr12_3 (v := ?_) (Or.inl ⟨by rfl, ?_⟩) ?_
          rotate_left 1
          · ((intro w hSw; (try dsimp only at hSw); unfold rLiftr12_3; go_simp) <;> with_reducible rfl)
          (try simp only [Act.put, List.setIfInBounds_toArray, List.set_cons_zero, List.set_cons_succ])
          refine take_at 4 52 rLiftr12_4 (v := ?_) (Or.inl ⟨by rfl, ?_⟩) ?_
          rotate_left 1
          · ((intro w hSw; (try dsimp only at hSw); have qV0 := sees_of (kept_trans Kk11.out (kept_trans Kk23.out (kept_trans Kk27.out Kk31.out))) hSw; have qwr := sees_of Kk31.out hSw; unfold rLiftr12_4; go_simp) <;> with_reducible rfl)
          (try simp only [Act.put, List.setIfInBounds_toArray, List.set_cons_zero, List.set_cons_succ])
          refine take_at 5 53 rLiftr12_5 (v := ?_) (Or.inl ⟨by rfl, ?_⟩) ?_
          rotate_left 1
          · ((intro w hSw; (try dsimp only at hSw); unfold rLiftr12_5; go_simp) <;> with_reducible rfl)
          (try simp only [Act.put, List.setIfInBounds_toArray, List.set_cons_zero, List.set_cons_succ])
          refine take_at 6 54 rLiftr12_6 (v := ?_) (Or.inl ⟨by rfl, ?_⟩) ?_
          rotate_left 1
          · ((intro w hSw; (try dsimp only at hSw); unfold rLiftr12_6; go_simp) <;> with_reducible rfl)
          (try simp only [Act.put, List.setIfInBounds_toArray, List.set_cons_zero, List.set_cons_succ])
          refine take_at 7 55 rLiftr12_7 (v := ?_) (Or.inl ⟨by rfl, ?_⟩) ?_
          rotate_left 1
          · ((intro w hSw; (try dsimp only at hSw); have qV0 := sees_of (kept_trans Kk11.out (kept_trans Kk23.out (kept_trans Kk27.out Kk31.out))) hSw; have qwr := sees_of Kk31.out hSw; unfold rLiftr12_7; go_simp) <;> with_reducible rfl)
          (try simp only [Act.put, List.setIfInBounds_toArray, List.set_cons_zero, List.set_cons_succ])
          refine take_at 8 56 rLiftr12_8 (v := ?_) (Or.inl ⟨by rfl, ?_⟩) ?_
          rotate_left 1
          · ((intro w hSw; (try dsimp only at hSw); unfold rLiftr12_8; go_simp) <;> with_reducible rfl)
          (try simp only [Act.put, List.setIfInBounds_toArray, List.set_cons_zero, List.set_cons_succ])
          refine take_at 9 57 rLiftr12_9 (v := ?_) (Or.inl ⟨by rfl, ?_⟩) ?_
          rotate_left 1
          · ((intro w hSw; (try dsimp only at hSw); unfold rLiftr12_9; go_simp) <;> with_reducible rfl)
          (try simp only [Act.put, List.setIfInBounds_toArray, List.set_cons_zero, List.set_cons_succ])
          refine take_at 10 58 rLiftr12_10 (v := ?_) (Or.inl ⟨by rfl, ?_⟩) ?_
          rotate_left 1
          · ((intro w hSw; (try dsimp only at hSw); have qV0 := sees_of (kept_trans Kk11.out (kept_trans Kk23.out (kept_trans Kk27.out Kk31.out))) hSw; have qwr := sees_of Kk31.out hSw; unfold rLiftr12_10; go_simp) <;> with_reducible rfl)
          (try simp only [Act.put, List.setIfInBounds_toArray, List.set_cons_zero, List.set_cons_succ])
          refine take_at 11 59 rLiftr12_11 (v := ?_) (Or.inl ⟨by rfl, ?_⟩) ?_
          rotate_left 1
          · ((intro w hSw; (try dsimp only at hSw); unfold rLiftr12_11; go_simp) <;> with_reducible rfl)
          (try simp only [Act.put, List.setIfInBounds_toArray, List.set_cons_zero, List.set_cons_succ])
          refine take_at 12 60 rLiftr12_12 (v := ?_) (Or.inl ⟨by rfl, ?_⟩) ?_
          rotate_left 1
          · ((intro w hSw; (try dsimp only at hSw); unfold rLiftr12_12; go_simp) <;> with_reducible rfl)
          (try simp only [Act.put, List.setIfInBounds_toArray, List.set_cons_zero, List.set_cons_succ])
          refine take_at 13 61 rLiftr12_13 (v := ?_) (Or.inl ⟨by rfl, ?_⟩) ?_
          rotate_left 1
          · ((intro w hSw; (try dsimp only at hSw); have qV0 := sees_of (kept_trans Kk11.out (kept_trans Kk23.out (kept_trans Kk27.out Kk31.out))) hSw; have qwr := sees_of Kk31.out hSw; unfold rLiftr12_13; go_simp) <;> with_reducible rfl)
          (try simp only [Act.put, List.setIfInBounds_toArray, List.set_cons_zero, List.set_cons_succ])
          refine take_at 14 62 rLiftr12_14 (v := ?_) (Or.inl ⟨by rfl, ?_⟩) ?_
          rotate_left 1
          · ((intro w hSw; (try dsimp only at hSw); unfold rLiftr12_14; go_simp) <;> with_reducible rfl)
          (try simp only [Act.put, List.setIfInBounds_toArray, List.set_cons_zero, List.set_cons_succ])
          refine take_at 15 63 rLiftr12_15 (v := ?_) (Or.inl ⟨by rfl, ?_⟩) ?_
          rotate_left 1
          · ((intro w hSw; (try dsimp only at hSw); unfold rLiftr12_15; go_simp) <;> with_reducible rfl)
          (try simp only [Act.put, List.setIfInBounds_toArray, List.set_cons_zero, List.set_cons_succ])
          refine take_at 16 64 rLiftr12_16 (v := ?_) (Or.inl ⟨by rfl, ?_⟩) ?_
          rotate_left 1
          · ((intro w hSw; (try dsimp only at hSw); have qV0 := sees_of (kept_trans Kk11.out (kept_trans Kk23.out (kept_trans Kk27.out Kk31.out))) hSw; have qwr := sees_of Kk31.out hSw; unfold rLiftr12_16; go_simp) <;> with_reducible rfl)
          (try simp only [Act.put, List.setIfInBounds_toArray, List.set_cons_zero, List.set_cons_succ])
          refine take_at 17 65 rLiftr12_17 (v := ?_) (Or.inl ⟨by rfl, ?_⟩) ?_
          rotate_left 1
          · ((intro w hSw; (try dsimp only at hSw); unfold rLiftr12_17; go_simp) <;> with_reducible rfl)
          (try simp only [Act.put, List.setIfInBounds_toArray, List.set_cons_zero, List.set_cons_succ])
          refine wpAnyH_ready (rs := [18]) (by kernel_rfl) (by simp) ?_
          refine AllReadyH.cons (o := rLiftr12_18) rfl (fun K hK => ?_) ?_
          · unfold rLiftr12_18
            refine step_store_part rfl 45 (.tmp 4) (.tmp 65) rfl (w.heap.size + 1) 0 #[.int .i64 h.i, .int .i64 Ua.k, .int .i64 Ua.i, .int .i64 Ua.j, .int .i64 Ua.n, (.slice aka Ua.kids.length cka), .int .i64 Ub.k, .int .i64 Ub.i, .int .i64 Ub.j, .int .i64 Ub.n, (.slice akb Ub.kids.length ckb), .int .i64 Ux.k, .int .i64 Ux.i, .int .i64 Ux.j, .int .i64 Ux.n, (.slice akx Ux.kids.length ckx), .int .i64 Uy.k, .int .i64 Uy.i, .int .i64 Uy.j, .int .i64 Uy.n, (.slice aky Uy.kids.length cky), .int .i64 Uh.k, .int .i64 Uh.i, .int .i64 Uh.j, .int .i64 Uh.n, (.slice akh Uh.kids.length ckh)] rfl rfl 45 (by kernel_rfl) (row_ok rfl) _ #[.int .i64 h.i, .int .i64 Ua.k, .int .i64 Ua.i, .int .i64 Ua.j, .int .i64 Ua.n, (.slice aka Ua.kids.length cka), .int .i64 Ub.k, .int .i64 Ub.i, .int .i64 Ub.j, .int .i64 Ub.n, (.slice akb Ub.kids.length ckb), .int .i64 Ux.k, .int .i64 Ux.i, .int .i64 Ux.j, .int .i64 Ux.n, (.slice akx Ux.kids.length ckx), .int .i64 Uy.k, .int .i64 Uy.i, .int .i64 Uy.j, .int .i64 Uy.n, (.slice aky Uy.kids.length cky), .int .i64 Uh.k, .int .i64 Uh.i, .int .i64 Uh.j, .int .i64 Uh.n, (.slice akh Uh.kids.length ckh)] (blk_at Hx2.out (kept_trans Kk11.out (kept_trans Kk23.out (kept_trans Kk27.out Kk31.out)))) rfl (Nat.le_of_ble_eq_true rfl) ?_
            intro W32 hW32
            clear hHeld
            refine hK.out _ _ ?_ (fun hHeld => ?_)
            · (try dsimp only)
              exact sees_set (kept_refl _) hW32
            clear hK K
            (try simp only [Act.put])
            refine wpAnyH_done (by kernel_rfl) ?_ _
            clear hHeld
            go_wp2_with fail
            refine bodyPost_ret (results_cell_row rfl _ _ (w.heap.size + 1) 45 _ _ dr rfl (blk_same (blk_at Hx2.out (kept_trans Kk11.out (kept_trans Kk23.out (kept_trans Kk27.out Kk31.out)))) hW32) dr1 (by cases dr <;> first | rfl | exact dr2) (by kernel_rfl)) rfl ?_
            rw [HSQ.out]
            exact ⟨_, _, _, _, _, rfl, ⟨par_end (par_row' (HKa.out.later Kk31.out) hW32 (by omega) (by have := Z0.out; omega)) (by have := Z0.out; omega), par_end (par_row' (HKb.out.later Kk31.out) hW32 (by omega) (by have := Z0.out; omega)) (by have := Z0.out; omega), par_end (par_row' (HKx.out.later Kk31.out) hW32 (by omega) (by have := Z0.out; omega)) (by have := Z0.out; omega), par_end (par_row' (HKy.out.later Kk31.out) hW32 (by omega) (by have := Z0.out; omega)) (by have := Z0.out; omega), par_end (par_row' (HKh.out.later Kk31.out) hW32 (by omega) (by have := Z0.out; omega)) (by have := Z0.out; omega)⟩, kept_set (kept_trans Kk5.out (kept_trans Kk11.out (kept_trans Kk23.out (kept_trans Kk27.out Kk31.out)))) hW32 (by omega)⟩
          exact AllReadyH.nil

end Go.Proofs.Ytkdceahmknhojaa

namespace Go.Proofs.Ytkdceahmknhojaa
open Go.RowKit

def SeesN (V : World) (_ : Nat) (w' : World) : Prop := ∀ k, k < V.heap.size → w'.heap[k]? = V.heap[k]?
theorem seesN_kept {V W : World} (g : Nat) (h : Kept V W) : SeesN V g W := fun k hk => Below.block h k hk
theorem seesN_of {V W w' : World} {g : Nat} (h : Kept V W) (hs : SeesN W g w') : SeesN V g w' := fun k hk => (hs k (Nat.lt_of_lt_of_le hk (Below.size h))).trans (Below.block h k hk)
theorem partN_cell {V : World} {r g : Nat} {C : Array Value} {T : TypeId} {fr : Nat × Nat} (h : V.heap[g]? = some (.cells C T fr)) (_ : True) (o : Nat) (v : Value) (hv : C[o]? = some v) : ∀ w', SeesN V r w' → w'.cell? ⟨g, o, none⟩ = some v := fun w' hk => by
  have hb : w'.heap[g]? = some (.cells C T fr) := (hk g (block_lt h)).trans h
  rw [cell_of_row w' g o C T fr hb]; exact hv
theorem seesN_blk {V w' : World} {r g : Nat} {o : Obj} (h : V.heap[g]? = some o) (_ : True) (hs : SeesN V r w') : w'.heap[g]? = some o := (hs g (block_lt h)).trans h
theorem field_term0 (a b c d e : Value) (w : World) : (Instr.field 32 (.agg #[a, b, c, d, e]) 0).run Try.prog w = .ok a w := by kernel_rfl
theorem field_term3 (a b c d e : Value) (w : World) : (Instr.field 32 (.agg #[a, b, c, d, e]) 3).run Try.prog w = .ok d w := by kernel_rfl
end Go.Proofs.Ytkdceahmknhojaa

namespace Go.Proofs.Ytkdceahmknhojaa
open Go.RowKit

theorem var_plain {i : Int} (h : 0 ≤ i) (h2 : i ≤ 1000000) : (varT i).plainB = true := by
  rw [Tm.plainB_eq]; unfold varT
  simp [Tm.nodeB, mk_k, mk_i, mk_j, mk_n, mk_kids, kidsN, numbersN, plains, h]
  exact decide_eq_true (by omega)
theorem wk_r : heR2 0 [varT 0, varT 1] = true := by
  unfold heR2 plainL
  simp [var0_plain, var_plain (i := 1) (by decide) (by decide), levN]
theorem wk_self : heSelf 0 (varT 0) (varT 1) = (⟨0, varT 0, varT 0, varT 1, varT 1, nodeT 21 [pointsT 0, pointT 0 (varT 0) (varT 1)]⟩ : He) := by unfold heSelf; rw [if_pos wk_r]
theorem wk_plain : (nodeT 21 [pointsT 0, pointT 0 (varT 0) (varT 1)]).plainB = true := by
  have e1 : (pointsT 0).plainB = true := points_plain (by decide)
  have e2 : (pointT 0 (varT 0) (varT 1)).plainB = true := point_plain (by decide) var0_plain (var_plain (by decide) (by decide))
  rw [Tm.plainB_eq]; unfold nodeT
  simp [Tm.nodeB, mk_k, mk_i, mk_j, mk_n, mk_kids, kidsN, numbersN, plains, e1, e2]
theorem wk_type : heType (⟨0, varT 0, varT 0, varT 1, varT 1, nodeT 21 [pointsT 0, pointT 0 (varT 0) (varT 1)]⟩ : He) = useT 6 0 0 [varT 0, varT 0, varT 1, varT 1] := by
  unfold heType
  rw [if_pos]
  unfold heR heR2 plainL
  simp [var0_plain, var_plain (i := 1) (by decide) (by decide), levN, wk_plain]
theorem wk_p2 : pointsB 2 = pointsT 2 := by unfold pointsB heR2 plainL; rw [if_pos (by simp [levN])]
theorem wk_p999 : pointsB 999 = .zero := by unfold pointsB heR2 plainL; rw [if_neg (by simp [levN])]
theorem wk_fine : He.fine (⟨0, varT 0, varT 0, varT 1, varT 1, nodeT 21 [pointsT 0, pointT 0 (varT 0) (varT 1)]⟩ : He) := ⟨by unfold I64; decide, right_fine (plain_right var0_plain), right_fine (plain_right var0_plain), right_fine (plain_right (var_plain (by decide) (by decide))), right_fine (plain_right (var_plain (by decide) (by decide))), right_fine (plain_right wk_plain)⟩

set_option maxRecDepth 20000 in
set_option maxHeartbeats 4000000 in
theorem wakes23_any (w : World) : Calls Try.prog 35 #[] w fun e w' => e = .returned (.bool true) ∧ Kept w w' := by
  obtain ⟨dh, dh1, dh2⟩ := under_of 51 (by kernel_rfl)
  go_enter Try.func35, Try.ntmps35
  go_upto_region 1 with fail
  refine at_code (fun V0 hV0 => ?_)
  have k1 : Kept w V0 := by rw [← hV0]; exact kept_refl _
  have Z0 : Hid (V0.heap.size = w.heap.size + 0) := by show _ = _; rw [← hV0]; rfl
  clear hV0
  have Kk3 := Lib.hid k1
  clear k1
  have kvV0 : SeesN V0 V0.heap.size V0 := seesN_kept _ (kept_refl _)
  go_wp2_with fail
  clear kvV0
  refine (lv_any 0 (Par w V0.heap.size [] (fun _ => False)) _ (show I64 0 from by unfold I64; decide)).mono ?_
  obtain ⟨U11, hU11⟩ : ∃ qu, varT 0 = qu := ⟨_, rfl⟩
  rw [hU11]
  have HU11 := Lib.hid hU11
  clear hU11
  rintro e w4 ⟨s6, rfl, hl7, k5⟩
  obtain ⟨a8, c9, S10, rfl, -⟩ := hl7.out
  have Kk12 := Lib.hid k5
  clear k5
  have Hhl7 : Hid (LiesQ w4 (Par w V0.heap.size [] (fun _ => False)) U11.kids _) := par_give hl7 (Nat.le_refl _) (xlt_nil _)
  clear hl7
  have kvV0 : SeesN V0 V0.heap.size w4 := seesN_kept _ Kk12.out
  go_wp2_with fail
  clear kvV0
  refine (lv_any 1 (Par w V0.heap.size [] (fun _ => False)) _ (show I64 1 from by unfold I64; decide)).mono ?_
  obtain ⟨U20, hU20⟩ : ∃ qu, varT 1 = qu := ⟨_, rfl⟩
  rw [hU20]
  have HU20 := Lib.hid hU20
  clear hU20
  rintro e w13 ⟨s15, rfl, hl16, k14⟩
  obtain ⟨a17, c18, S19, rfl, -⟩ := hl16.out
  have Kk21 := Lib.hid k14
  clear k14
  have Hhl16 : Hid (LiesQ w13 (Par w V0.heap.size [] (fun _ => False)) U20.kids _) := par_give hl16 (Below.size Kk12.out) (xlt_nil _)
  clear hl16
  have kvV0 : SeesN V0 V0.heap.size w13 := seesN_kept _ (kept_trans Kk12.out Kk21.out)
  go_wp2_with fail
  clear kvV0
  have hq24 := hself_any 0 U11 U20 (Par w V0.heap.size [] (fun _ => False)) w13 (.slice a8 U11.kids.length c9) (.slice a17 U20.kids.length c18) (show I64 0 from by unfold I64; decide) (by rw [← HU11.out]; exact (var_fine (show I64 0 from by unfold I64; decide))) (Hhl7.out.later Kk21.out) (by rw [← HU20.out]; exact (var_fine (show I64 1 from by unfold I64; decide))) Hhl16.out
  rw [show heSelf 0 U11 U20 = (⟨0, varT 0, varT 0, varT 1, varT 1, nodeT 21 [pointsT 0, pointT 0 (varT 0) (varT 1)]⟩ : He) from by rw [← HU11.out, ← HU20.out]; exact wk_self] at hq24
  refine hq24.mono ?_
  clear hq24
  obtain ⟨U25, hU25⟩ : ∃ qu, (⟨0, varT 0, varT 0, varT 1, varT 1, nodeT 21 [pointsT 0, pointT 0 (varT 0) (varT 1)]⟩ : He) = qu := ⟨_, rfl⟩
  rw [hU25]
  have HU25 := Lib.hid hU25
  clear hU25
  rintro e w22 ⟨s26, s27, s28, s29, s30, rfl, ⟨hl31, hl32, hl33, hl34, hl35⟩, k23⟩
  obtain ⟨a36, c37, S38, rfl, -⟩ := hl31.out
  obtain ⟨a39, c40, S41, rfl, -⟩ := hl32.out
  obtain ⟨a42, c43, S44, rfl, -⟩ := hl33.out
  obtain ⟨a45, c46, S47, rfl, -⟩ := hl34.out
  obtain ⟨a48, c49, S50, rfl, -⟩ := hl35.out
  have Kk51 := Lib.hid k23
  clear k23
  have Hhl31 : Hid (LiesQ w22 (Par w V0.heap.size [] (fun _ => False)) U25.a.kids _) := par_give hl31 (Below.size (kept_trans Kk12.out Kk21.out)) (xlt_nil _)
  have Hhl32 : Hid (LiesQ w22 (Par w V0.heap.size [] (fun _ => False)) U25.b.kids _) := par_give hl32 (Below.size (kept_trans Kk12.out Kk21.out)) (xlt_nil _)
  have Hhl33 : Hid (LiesQ w22 (Par w V0.heap.size [] (fun _ => False)) U25.x.kids _) := par_give hl33 (Below.size (kept_trans Kk12.out Kk21.out)) (xlt_nil _)
  have Hhl34 : Hid (LiesQ w22 (Par w V0.heap.size [] (fun _ => False)) U25.y.kids _) := par_give hl34 (Below.size (kept_trans Kk12.out Kk21.out)) (xlt_nil _)
  have Hhl35 : Hid (LiesQ w22 (Par w V0.heap.size [] (fun _ => False)) U25.h.kids _) := par_give hl35 (Below.size (kept_trans Kk12.out Kk21.out)) (xlt_nil _)
  clear hl31 hl32 hl33 hl34 hl35
  have kf52 : (U25.h.k == 21) = true := by rw [← HU25.out]; first | rfl | decide
  have kvV0 : SeesN V0 V0.heap.size w22 := seesN_kept _ (kept_trans Kk12.out (kept_trans Kk21.out Kk51.out))
  go_wp2_with (refine stop_store 51 (.tmp 1) (.tmp 4) rfl ?_)
  intro _
  refine wpList_store_part_n (by rfl) 51 (.tmp 1) (.tmp 4) rfl (w22.heap.size) 0 #[.int .i64 U25.i, .int .i64 U25.a.k, .int .i64 U25.a.i, .int .i64 U25.a.j, .int .i64 U25.a.n, (.slice a36 U25.a.kids.length c37), .int .i64 U25.b.k, .int .i64 U25.b.i, .int .i64 U25.b.j, .int .i64 U25.b.n, (.slice a39 U25.b.kids.length c40), .int .i64 U25.x.k, .int .i64 U25.x.i, .int .i64 U25.x.j, .int .i64 U25.x.n, (.slice a42 U25.x.kids.length c43), .int .i64 U25.y.k, .int .i64 U25.y.i, .int .i64 U25.y.j, .int .i64 U25.y.n, (.slice a45 U25.y.kids.length c46), .int .i64 U25.h.k, .int .i64 U25.h.i, .int .i64 U25.h.j, .int .i64 U25.h.n, (.slice a48 U25.h.kids.length c49)] (by rfl) (by rfl) 51 (by kernel_rfl) (row_ok rfl) ?_
  intro W53 hW53
  clear kvV0
  obtain ⟨k56, x55, z57⟩ := alloc1 hW53
  have Kk58 := Lib.hid k56
  clear k56
  have Hx55 := Lib.hid x55
  have Hz57 := Lib.hid z57
  clear x55 z57 hW53
  have HG59 : Hid (V0.heap.size ≤ w22.heap.size) := (Below.size (kept_trans Kk12.out (kept_trans Kk21.out Kk51.out)))
  have XL60 := Lib.hid (xlt_more (xlt_nil _) Kk58.out (by have := Hz57.out; omega))
  have HL61 : Hid (LiesQ W53 (Par w V0.heap.size (w22.heap.size :: []) (fun _ => False)) U11.kids _) := (par_more (Hhl7.out.later (kept_trans Kk21.out Kk51.out))).later Kk58.out
  have HL62 : Hid (LiesQ W53 (Par w V0.heap.size (w22.heap.size :: []) (fun _ => False)) U20.kids _) := (par_more (Hhl16.out.later Kk51.out)).later Kk58.out
  have HL63 : Hid (LiesQ W53 (Par w V0.heap.size (w22.heap.size :: []) (fun _ => False)) U25.a.kids _) := (par_more Hhl31.out).later Kk58.out
  have HL64 : Hid (LiesQ W53 (Par w V0.heap.size (w22.heap.size :: []) (fun _ => False)) U25.b.kids _) := (par_more Hhl32.out).later Kk58.out
  have HL65 : Hid (LiesQ W53 (Par w V0.heap.size (w22.heap.size :: []) (fun _ => False)) U25.x.kids _) := (par_more Hhl33.out).later Kk58.out
  have HL66 : Hid (LiesQ W53 (Par w V0.heap.size (w22.heap.size :: []) (fun _ => False)) U25.y.kids _) := (par_more Hhl34.out).later Kk58.out
  have HL67 : Hid (LiesQ W53 (Par w V0.heap.size (w22.heap.size :: []) (fun _ => False)) U25.h.kids _) := (par_more Hhl35.out).later Kk58.out
  refine ⟨_, #[.int .i64 U25.i, .int .i64 U25.a.k, .int .i64 U25.a.i, .int .i64 U25.a.j, .int .i64 U25.a.n, (.slice a36 U25.a.kids.length c37), .int .i64 U25.b.k, .int .i64 U25.b.i, .int .i64 U25.b.j, .int .i64 U25.b.n, (.slice a39 U25.b.kids.length c40), .int .i64 U25.x.k, .int .i64 U25.x.i, .int .i64 U25.x.j, .int .i64 U25.x.n, (.slice a42 U25.x.kids.length c43), .int .i64 U25.y.k, .int .i64 U25.y.i, .int .i64 U25.y.j, .int .i64 U25.y.n, (.slice a45 U25.y.kids.length c46), .int .i64 U25.h.k, .int .i64 U25.h.i, .int .i64 U25.h.j, .int .i64 U25.h.n, (.slice a48 U25.h.kids.length c49)], Hx55.out, rfl, Nat.le_of_ble_eq_true rfl, ?_⟩
  intro W54 hW54
  have KB68 := Lib.hid (kept_set (kept_trans Kk3.out (kept_trans Kk12.out (kept_trans Kk21.out (kept_trans Kk51.out Kk58.out)))) hW54 (by have := HG59.out; have := Z0.out; omega))
  have KB69 := Lib.hid (kept_set (kept_trans Kk12.out (kept_trans Kk21.out (kept_trans Kk51.out Kk58.out))) hW54 HG59.out)
  have HL70 : Hid (LiesQ W54 (Par w V0.heap.size (w22.heap.size :: []) (fun _ => False)) U11.kids _) := par_set HL61.out hW54 (List.mem_cons_self ..) (by have := HG59.out; have := Z0.out; omega)
  have HL71 : Hid (LiesQ W54 (Par w V0.heap.size (w22.heap.size :: []) (fun _ => False)) U20.kids _) := par_set HL62.out hW54 (List.mem_cons_self ..) (by have := HG59.out; have := Z0.out; omega)
  have HL72 : Hid (LiesQ W54 (Par w V0.heap.size (w22.heap.size :: []) (fun _ => False)) U25.a.kids _) := par_set HL63.out hW54 (List.mem_cons_self ..) (by have := HG59.out; have := Z0.out; omega)
  have HL73 : Hid (LiesQ W54 (Par w V0.heap.size (w22.heap.size :: []) (fun _ => False)) U25.b.kids _) := par_set HL64.out hW54 (List.mem_cons_self ..) (by have := HG59.out; have := Z0.out; omega)
  have HL74 : Hid (LiesQ W54 (Par w V0.heap.size (w22.heap.size :: []) (fun _ => False)) U25.x.kids _) := par_set HL65.out hW54 (List.mem_cons_self ..) (by have := HG59.out; have := Z0.out; omega)
  have HL75 : Hid (LiesQ W54 (Par w V0.heap.size (w22.heap.size :: []) (fun _ => False)) U25.y.kids _) := par_set HL66.out hW54 (List.mem_cons_self ..) (by have := HG59.out; have := Z0.out; omega)
  have HL76 : Hid (LiesQ W54 (Par w V0.heap.size (w22.heap.size :: []) (fun _ => False)) U25.h.kids _) := par_set HL67.out hW54 (List.mem_cons_self ..) (by have := HG59.out; have := Z0.out; omega)
  have XL77 := Lib.hid (xlt_set XL60.out hW54)
  have HX78 := Lib.hid (blk_same Hx55.out hW54)
  clear hW54
  have ld79 := partN_cell (r := V0.heap.size) HX78.out trivial 21 (.int .i64 U25.h.k) rfl
  have kvV0 : SeesN V0 V0.heap.size W54 := seesN_kept _ KB69.out
  have kvW54 : SeesN W54 V0.heap.size W54 := seesN_kept _ (kept_refl _)
  go_wp2_with (refine stop_load 51 (.tmp 1) rfl ?_)
  intro _
  refine wpList_load_part (w22.heap.size) 0 51 (.tmp 1) #[.int .i64 U25.i, .int .i64 U25.a.k, .int .i64 U25.a.i, .int .i64 U25.a.j, .int .i64 U25.a.n, (.slice a36 U25.a.kids.length c37), .int .i64 U25.b.k, .int .i64 U25.b.i, .int .i64 U25.b.j, .int .i64 U25.b.n, (.slice a39 U25.b.kids.length c40), .int .i64 U25.x.k, .int .i64 U25.x.i, .int .i64 U25.x.j, .int .i64 U25.x.n, (.slice a42 U25.x.kids.length c43), .int .i64 U25.y.k, .int .i64 U25.y.i, .int .i64 U25.y.j, .int .i64 U25.y.n, (.slice a45 U25.y.kids.length c46), .int .i64 U25.h.k, .int .i64 U25.h.i, .int .i64 U25.h.j, .int .i64 U25.h.n, (.slice a48 U25.h.kids.length c49)] dh HX78.out (by rfl) rfl (by rfl) (by rfl) dh1 (by cases dh <;> first | rfl | exact dh2) (by kernel_rfl) ?_
  go_wp2_with fail
  clear kvV0
  clear kvW54
  have hq82 := htype_any U25 (Par w V0.heap.size (w22.heap.size :: []) (fun _ => False)) W54 (.slice a36 U25.a.kids.length c37) (.slice a39 U25.b.kids.length c40) (.slice a42 U25.x.kids.length c43) (.slice a45 U25.y.kids.length c46) (.slice a48 U25.h.kids.length c49) ⟨(by rw [← HU25.out]; exact (wk_fine).1), (by rw [← HU25.out]; exact (wk_fine).2.1), (by rw [← HU25.out]; exact (wk_fine).2.2.1), (by rw [← HU25.out]; exact (wk_fine).2.2.2.1), (by rw [← HU25.out]; exact (wk_fine).2.2.2.2.1), (by rw [← HU25.out]; exact (wk_fine).2.2.2.2.2)⟩ ⟨HL72.out, HL73.out, HL74.out, HL75.out, HL76.out⟩
  rw [show heType U25 = useT 6 0 0 [varT 0, varT 0, varT 1, varT 1] from by rw [← HU25.out]; exact wk_type] at hq82
  refine hq82.mono ?_
  clear hq82
  obtain ⟨U88, hU88⟩ : ∃ qu, useT 6 0 0 [varT 0, varT 0, varT 1, varT 1] = qu := ⟨_, rfl⟩
  rw [hU88]
  have HU88 := Lib.hid hU88
  clear hU88
  rintro e w80 ⟨s83, rfl, hl84, k81⟩
  obtain ⟨a85, c86, S87, rfl, -⟩ := hl84.out
  have Kk89 := Lib.hid k81
  clear k81
  have Hhl84 : Hid (LiesQ w80 (Par w V0.heap.size (w22.heap.size :: []) (fun _ => False)) U88.kids _) := par_give hl84 (Below.size KB69.out) XL77.out
  clear hl84
  (try unfold tv)
  have fd90 : ∀ w', (Instr.field 32 (.agg #[.int .i64 U88.k, .int .i64 U88.i, .int .i64 U88.j, .int .i64 U88.n, (.slice a85 U88.kids.length c86)]) 3).run Try.prog w' = .ok (.int .i64 U88.n) w' := fun w' => field_term3 (.int .i64 U88.k) (.int .i64 U88.i) (.int .i64 U88.j) (.int .i64 U88.n) (.slice a85 U88.kids.length c86) w'
  have kf91 : (U88.n == 6) = true := by rw [← HU88.out]; first | rfl | decide
  have kvV0 : SeesN V0 V0.heap.size w80 := seesN_kept _ (kept_trans KB69.out Kk89.out)
  have kvW54 : SeesN W54 V0.heap.size w80 := seesN_kept _ Kk89.out
  go_wp2_with fail
  clear kvV0
  clear kvW54
  have hq94 := hPoints_any 2 (Par w V0.heap.size (w22.heap.size :: []) (fun _ => False)) w80 (show I64 2 from by unfold I64; decide)
  rw [wk_p2] at hq94
  refine hq94.mono ?_
  clear hq94
  obtain ⟨U100, hU100⟩ : ∃ qu, pointsT 2 = qu := ⟨_, rfl⟩
  rw [hU100]
  have HU100 := Lib.hid hU100
  clear hU100
  rintro e w92 ⟨s95, rfl, hl96, k93⟩
  obtain ⟨a97, c98, S99, rfl, -⟩ := hl96.out
  have Kk101 := Lib.hid k93
  clear k93
  have Hhl96 : Hid (LiesQ w92 (Par w V0.heap.size (w22.heap.size :: []) (fun _ => False)) U100.kids _) := par_give hl96 (Below.size (kept_trans KB69.out Kk89.out)) (xlt_later XL77.out Kk89.out)
  clear hl96
  (try unfold tv)
  have fd102 : ∀ w', (Instr.field 32 (.agg #[.int .i64 U100.k, .int .i64 U100.i, .int .i64 U100.j, .int .i64 U100.n, (.slice a97 U100.kids.length c98)]) 0).run Try.prog w' = .ok (.int .i64 U100.k) w' := fun w' => field_term0 (.int .i64 U100.k) (.int .i64 U100.i) (.int .i64 U100.j) (.int .i64 U100.n) (.slice a97 U100.kids.length c98) w'
  have kf103 : (U100.k == 16) = true := by rw [← HU100.out]; first | rfl | decide
  have kvV0 : SeesN V0 V0.heap.size w92 := seesN_kept _ (kept_trans KB69.out (kept_trans Kk89.out Kk101.out))
  have kvW54 : SeesN W54 V0.heap.size w92 := seesN_kept _ (kept_trans Kk89.out Kk101.out)
  go_wp2_with fail
  clear kvV0
  clear kvW54
  have hq106 := hPoints_any 999 (Par w V0.heap.size (w22.heap.size :: []) (fun _ => False)) w92 (show I64 999 from by unfold I64; decide)
  rw [wk_p999] at hq106
  refine hq106.mono ?_
  clear hq106
  rintro e w104 ⟨s107, rfl, hl108, k105⟩
  obtain ⟨a109, c110, S111, rfl, -⟩ := hl108.out
  have Kk112 := Lib.hid k105
  clear k105
  have Hhl108 : Hid (LiesQ w104 (Par w V0.heap.size (w22.heap.size :: []) (fun _ => False)) Tm.zero.kids _) := par_give hl108 (Below.size (kept_trans KB69.out (kept_trans Kk89.out Kk101.out))) (xlt_later XL77.out (kept_trans Kk89.out Kk101.out))
  clear hl108
  (try unfold tv)
  have fd113 : ∀ w', (Instr.field 32 (.agg #[.int .i64 Tm.zero.k, .int .i64 Tm.zero.i, .int .i64 Tm.zero.j, .int .i64 Tm.zero.n, (.slice a109 Tm.zero.kids.length c110)]) 0).run Try.prog w' = .ok (.int .i64 Tm.zero.k) w' := fun w' => field_term0 (.int .i64 Tm.zero.k) (.int .i64 Tm.zero.i) (.int .i64 Tm.zero.j) (.int .i64 Tm.zero.n) (.slice a109 Tm.zero.kids.length c110) w'
  have kf114 : (Tm.zero.k == 0) = true := by first | rfl | decide
  have kvV0 : SeesN V0 V0.heap.size w104 := seesN_kept _ (kept_trans KB69.out (kept_trans Kk89.out (kept_trans Kk101.out Kk112.out)))
  have kvW54 : SeesN W54 V0.heap.size w104 := seesN_kept _ (kept_trans Kk89.out (kept_trans Kk101.out Kk112.out))
  go_wp2
  go_ret
  exact ⟨rfl, (kept_trans KB68.out (kept_trans Kk89.out (kept_trans Kk101.out Kk112.out)))⟩

end Go.Proofs.Ytkdceahmknhojaa
