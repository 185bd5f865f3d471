/-
  Facts and contracts that the proof of ShapeWays uses.
-/
import Derived.Test.YtgododpkbiaacaaGreatRows
import Derived.WalkKit
import Derived.Lib.Hide
import Derived.KernelRfl
import Derived.Deep.RegionWith
import Derived.Deep.RegionHeld3
import Derived.Deep.AppendLies
import Derived.Laws.Rows
import Derived.Laws.IdiomCopy
import Derived.Deep.Slices
import Derived.Lib.QuietBelow
import Derived.StillTailTactics
import Derived.BigQuiet
import Derived.IntWalk
import Derived.OwnWalk
import Derived.Deep.RegionLaw
import Derived.Deep.QuietTactic
import Derived.Deep.LoopGhost
import Derived.Deep.DeepCutAuto
import Derived.OrdersHeld
import Derived.Deep.MidRow
import Derived.Laws.Tables
import Derived.Laws.CopyOwn
import Derived.Laws.CopyRow
import Derived.Deep.RegionHeld
import Derived.Lib.MinMax
import Derived.ProofKit
import Derived.OpenShut
import Derived.Carry
import Derived.ChangeSlices
import Derived.JoinedOf
import Derived.Test.YtgododpkbiaacaaGreatShapeWaysQ7
namespace Go.Proofs.YtgododpkbiaacaaGreat
open Go.RowKit

set_option maxRecDepth 20000 in
set_option maxHeartbeats 4000000 in
theorem rPoints_any (i : Int) (P : Nat → Prop) (w : World) (hri : I64 i) : Calls Tryz.prog 54 #[.int .i64 i] w (GivesP P (pointsB i) w) := by
  have Ri := Lib.hid hri
  clear hri
  obtain ⟨du, hu1, hu2⟩ := under_term
  go_enter Tryz.func54, Tryz.ntmps54
  go_upto_region 1 with fail
  refine at_code (fun V0 hV0 => ?_)
  obtain ⟨k2, x1, z3⟩ := alloc1 hV0
  have Kk4 := Lib.hid k2
  clear k2
  have Hx1 := Lib.hid x1
  have Z0 := Lib.hid z3
  clear z3 x1 hV0
  have kvV0 : Sees V0 (w.heap.size) V0 := sees_kept _ (kept_refl _)
  go_wp2_with fail
  clear kvV0
  refine (rlevel_any i 2 _ Ri.out (show I64 2 from by unfold I64; decide) (by decide) (by decide)).mono ?_
  obtain ⟨rb8, hb7⟩ : ∃ qb, levN 2 i = qb := ⟨_, rfl⟩
  rw [hb7]
  have Hhb7 := Lib.hid hb7
  clear hb7
  rintro e w5 ⟨rfl, k6⟩
  have Kk9 := Lib.hid k6
  clear k6
  cases rb8 with
  | false =>
    have kvV0 : Sees V0 (w.heap.size) w5 := sees_kept _ Kk9.out
    go_wp2_with (refine stop_store 25 (.tmp 2) (.tmp 6) rfl ?_)
    intro _
    refine wpList_store_part_n (by rfl) 25 (.tmp 2) (.tmp 6) rfl (w.heap.size) 0 #[.int .i64 0, .int .i64 0, .int .i64 0, .int .i64 0, .slice none 0 0] (by rfl) (by rfl) 25 size_term (row_ok rfl) ?_
    intro W10 hW10
    clear kvV0
    subst hW10
    refine ⟨_, #[.int .i64 0, .int .i64 0, .int .i64 0, .int .i64 0, .slice none 0 0], (blk_at Hx1.out Kk9.out), rfl, Nat.le_of_ble_eq_true rfl, ?_⟩
    intro W11 hW11
    go_wp2_with fail
    refine bodyPost_ret (results_cell_row rfl _ _ (w.heap.size) 25 _ _ du rfl (blk_same (blk_at Hx1.out Kk9.out) hW11) hu1 (by cases du <;> first | rfl | exact hu2) size_term) rfl ?_
    rw [show pointsB i = (Tm.mk 0 0 0 0 []) from by unfold pointsB heR2; rw [Hhb7.out]; (try rfl)]
    exact ⟨_, rfl, par_end (par_row' (liesQ_nil w5 (Par w V0.heap.size [] P)) hW11 (by omega) (by have := Z0.out; omega)) (by have := Z0.out; omega), kept_set (kept_trans Kk4.out Kk9.out) hW11 (by omega)⟩
  | true =>
    have ew12 : IntKind.i64.wrap (i + 1) = i + 1 := IntWalk.i64_in _ (by have := levN_true ( Hhb7.out); omega)
    have kvV0 : Sees V0 (w.heap.size) w5 := sees_kept _ Kk9.out
    go_wp2_with fail
    clear kvV0
    refine (rsort_any i (Par w V0.heap.size [] P) _ Ri.out).mono ?_
    obtain ⟨U20, hU20⟩ : ∃ qu, sortT i = qu := ⟨_, rfl⟩
    rw [hU20]
    have HU20 := Lib.hid hU20
    clear hU20
    rintro e w13 ⟨s15, rfl, hl16, k14⟩
    obtain ⟨a17, c18, S19, rfl, -⟩ := hl16.out
    have Kk21 := Lib.hid k14
    clear k14
    have Hhl16 : Hid (LiesQ w13 (Par w V0.heap.size [] P) U20.kids _) := par_give hl16 (Below.size Kk9.out) (xlt_nil _)
    clear hl16
    have kvV0 : Sees V0 (w.heap.size) w13 := sees_kept _ (kept_trans Kk9.out Kk21.out)
    go_wp2_with fail
    clear kvV0
    refine (rv_any 0 (Par w V0.heap.size [] P) _ (show I64 0 from by unfold I64; decide)).mono ?_
    obtain ⟨U29, hU29⟩ : ∃ qu, varT 0 = qu := ⟨_, rfl⟩
    rw [hU29]
    have HU29 := Lib.hid hU29
    clear hU29
    rintro e w22 ⟨s24, rfl, hl25, k23⟩
    obtain ⟨a26, c27, S28, rfl, -⟩ := hl25.out
    have Kk30 := Lib.hid k23
    clear k23
    have Hhl25 : Hid (LiesQ w22 (Par w V0.heap.size [] P) U29.kids _) := par_give hl25 (Below.size (kept_trans Kk9.out Kk21.out)) (xlt_nil _)
    clear hl25
    have kvV0 : Sees V0 (w.heap.size) w22 := sees_kept _ (kept_trans Kk9.out (kept_trans Kk21.out Kk30.out))
    go_wp2_with fail
    refine at_world (fun W32 hW32 => ?_)
    clear kvV0
    obtain ⟨k34, x33, z35⟩ := alloc1 hW32
    have Kk36 := Lib.hid k34
    clear k34
    have Hx33 := Lib.hid x33
    have Hz35 := Lib.hid z35
    clear x33 z35 hW32
    have HR37 : Hid (LiesQ W32 (Par w V0.heap.size [] P) [U20, U29] (.slice (some ⟨w22.heap.size, 0, none⟩) 2 2)) := q_row [(U20, (.slice a17 U20.kids.length c18)), (U29, (.slice a26 U29.kids.length c27))] _ rfl Hx33.out (par_new (Below.size (kept_trans Kk9.out (kept_trans Kk21.out Kk30.out))) (xlt_nil _) (Nat.le_refl _)) (fun p hp => by
      simp only [List.mem_cons, List.not_mem_nil, or_false] at hp
      rcases hp with rfl | rfl
      · exact ⟨(by rw [← HU20.out]; exact (sort_fine Ri.out)), (Hhl16.out.later (kept_trans Kk30.out Kk36.out))⟩
      · exact ⟨(by rw [← HU29.out]; exact (var_fine (show I64 0 from by unfold I64; decide))), (Hhl25.out.later Kk36.out)⟩) (Nat.le_of_ble_eq_true rfl)
    refine (rnode_any 16 [U20, U29] (Par w V0.heap.size [] P) _ _ (show I64 16 from by unfold I64; decide) HR37.out (Nat.le_of_ble_eq_true rfl)).mono ?_
    obtain ⟨U45, hU45⟩ : ∃ qu, nodeT 16 [U20, U29] = qu := ⟨_, rfl⟩
    rw [hU45]
    have HU45 := Lib.hid hU45
    clear hU45
    rintro e w38 ⟨s40, rfl, hl41, k39⟩
    obtain ⟨a42, c43, S44, rfl, -⟩ := hl41.out
    have Kk46 := Lib.hid k39
    clear k39
    have Hhl41 : Hid (LiesQ w38 (Par w V0.heap.size [] P) U45.kids _) := par_give hl41 (Below.size (kept_trans Kk9.out (kept_trans Kk21.out (kept_trans Kk30.out Kk36.out)))) (xlt_nil _)
    clear hl41
    have kvV0 : Sees V0 (w.heap.size) w38 := sees_kept _ (kept_trans Kk9.out (kept_trans Kk21.out (kept_trans Kk30.out (kept_trans Kk36.out Kk46.out))))
    go_wp2_with (refine stop_store 25 (.tmp 2) (.tmp 11) rfl ?_)
    intro _
    refine wpList_store_part_n (by rfl) 25 (.tmp 2) (.tmp 11) rfl (w.heap.size) 0 #[.int .i64 U45.k, .int .i64 U45.i, .int .i64 U45.j, .int .i64 U45.n, (.slice a42 U45.kids.length c43)] (by rfl) (by rfl) 25 size_term (row_ok rfl) ?_
    intro W47 hW47
    clear kvV0
    subst hW47
    refine ⟨_, #[.int .i64 U45.k, .int .i64 U45.i, .int .i64 U45.j, .int .i64 U45.n, (.slice a42 U45.kids.length c43)], (blk_at Hx1.out (kept_trans Kk9.out (kept_trans Kk21.out (kept_trans Kk30.out (kept_trans Kk36.out Kk46.out))))), rfl, Nat.le_of_ble_eq_true rfl, ?_⟩
    intro W48 hW48
    go_wp2_with fail
    refine bodyPost_ret (results_cell_row rfl _ _ (w.heap.size) 25 _ _ du rfl (blk_same (blk_at Hx1.out (kept_trans Kk9.out (kept_trans Kk21.out (kept_trans Kk30.out (kept_trans Kk36.out Kk46.out))))) hW48) hu1 (by cases du <;> first | rfl | exact hu2) size_term) rfl ?_
    rw [show pointsB i = U45 from by unfold pointsB heR2; rw [Hhb7.out]; rw [← HU45.out]; rw [← HU29.out]; rw [← HU20.out]; (try rfl)]
    exact ⟨_, rfl, par_end (par_row' Hhl41.out hW48 (by omega) (by have := Z0.out; omega)) (by have := Z0.out; omega), kept_set (kept_trans Kk4.out (kept_trans Kk9.out (kept_trans Kk21.out (kept_trans Kk30.out (kept_trans Kk36.out Kk46.out))))) hW48 (by omega)⟩

def rPointr3_0 : Oper := { dst := some 18, op := Go.Op.move (Go.Operand.tmp 0), type := 3, pos := "ref.go:64", after := #[], guard := none }
def rPointr3_1 : Oper := { dst := some 19, op := Go.Op.call { callee := Go.Callee.value (Go.Operand.func 74), args := #[Go.Operand.tmp 18], argTypes := #[3] }, type := 25, pos := "ref.go:64", after := #[{ on := 0, ground := Go.Ground.data }], guard := none }
def rPointr3_2 : Oper := { dst := some 20, op := Go.Op.call { callee := Go.Callee.value (Go.Operand.func 75), args := #[Go.Operand.const (Go.Value.int Go.IntKind.i64 0)], argTypes := #[3] }, type := 25, pos := "ref.go:64", after := #[{ on := 1, ground := Go.Ground.chain }], guard := none }
def rPointr3_3 : Oper := { dst := some 21, op := Go.Op.load 25 (Go.Operand.tmp 4), type := 25, pos := "ref.go:64", after := #[], guard := none }
def rPointr3_4 : Oper := { dst := some 22, op := Go.Op.load 25 (Go.Operand.tmp 5), type := 25, pos := "ref.go:64", after := #[], guard := none }
def rPointr3_5 : Oper := { dst := some 23, op := Go.Op.buildSlice 23 4 #[(0, Go.Operand.tmp 19), (1, Go.Operand.tmp 20), (2, Go.Operand.tmp 21), (3, Go.Operand.tmp 22)], type := 23, pos := "ref.go:64", after := #[{ on := 1, ground := Go.Ground.data }, { on := 2, ground := Go.Ground.data }, { on := 3, ground := Go.Ground.data }, { on := 4, ground := Go.Ground.data }], guard := none }
def rPointr3_6 : Oper := { dst := some 24, op := Go.Op.call { callee := Go.Callee.value (Go.Operand.func 53), args := #[Go.Operand.const (Go.Value.int Go.IntKind.i64 17), Go.Operand.tmp 23], argTypes := #[3, 23] }, type := 25, pos := "ref.go:64", after := #[{ on := 5, ground := Go.Ground.data }, { on := 2, ground := Go.Ground.chain }], guard := none }
def rPointr3_7 : Oper := { dst := none, op := Go.Op.store 25 (Go.Operand.tmp 6) (Go.Operand.tmp 24), type := 0, pos := "ref.go:64", after := #[{ on := 6, ground := Go.Ground.data }, { on := 6, ground := Go.Ground.chain }, { on := 0, ground := Go.Ground.phase }, { on := 1, ground := Go.Ground.phase }, { on := 2, ground := Go.Ground.phase }, { on := 3, ground := Go.Ground.phase }, { on := 4, ground := Go.Ground.phase }, { on := 5, ground := Go.Ground.phase }, { on := 6, ground := Go.Ground.phase }], guard := none }
set_option maxRecDepth 20000 in
set_option maxHeartbeats 4000000 in
theorem rPoint_any (i : Int) (a : Tm) (x : Tm) (P : Nat → Prop) (w : World) (sa : Value) (sx : Value) (hri : I64 i) (hfa : a.fine) (hla : LiesQ w P a.kids sa) (hfx : x.fine) (hlx : LiesQ w P x.kids sx) : Calls Tryz.prog 55 #[.int .i64 i, tv a sa, tv x sx] w (GivesP P (pointB i a x) w) := by
  have Ri := Lib.hid hri
  clear hri
  have Ga := Lib.hid hfa
  clear hfa
  obtain ⟨aa, ca, Sa, rfl, -⟩ := hla.out
  have Gx := Lib.hid hfx
  clear hfx
  obtain ⟨ax, cx, Sx, rfl, -⟩ := hlx.out
  obtain ⟨du, hu1, hu2⟩ := under_term
  unfold tv
  go_enter Tryz.func55, Tryz.ntmps55
  go_upto_region 1 with fail
  refine at_code (fun V0 hV0 => ?_)
  obtain ⟨k4, x1, x2, x3, z5⟩ := alloc3 hV0
  have Kk6 := Lib.hid k4
  clear k4
  have Hx1 := Lib.hid x1
  have Hx2 := Lib.hid x2
  have Hx3 := Lib.hid x3
  have Z0 := Lib.hid z5
  clear z5 x1 x2 x3 hV0
  have HLa : Hid (LiesQ V0 (Par w V0.heap.size [] P) a.kids _) := (par_in _ _ hla).later Kk6.out
  clear hla
  have HLx : Hid (LiesQ V0 (Par w V0.heap.size [] P) x.kids _) := (par_in _ _ hlx).later Kk6.out
  clear hlx
  have kvV0 : Sees V0 (w.heap.size + 2) V0 := sees_kept _ (kept_refl _)
  go_wp2_with fail
  clear kvV0
  refine (rlevel_any i 2 _ Ri.out (show I64 2 from by unfold I64; decide) (by decide) (by decide)).mono ?_
  obtain ⟨rb10, hb9⟩ : ∃ qb, levN 2 i = qb := ⟨_, rfl⟩
  rw [hb9]
  have Hhb9 := Lib.hid hb9
  clear hb9
  rintro e w7 ⟨rfl, k8⟩
  have Kk11 := Lib.hid k8
  clear k8
  cases rb10 with
  | false =>
    have kvV0 : Sees V0 (w.heap.size + 2) w7 := sees_kept _ Kk11.out
    go_wp2_with (refine stop_store 25 (.tmp 6) (.tmp 17) rfl ?_)
    intro _
    refine wpList_store_part_n (by rfl) 25 (.tmp 6) (.tmp 17) rfl (w.heap.size + 2) 0 #[.int .i64 0, .int .i64 0, .int .i64 0, .int .i64 0, .slice none 0 0] (by rfl) (by rfl) 25 size_term (row_ok rfl) ?_
    intro W12 hW12
    clear kvV0
    subst hW12
    refine ⟨_, #[.int .i64 0, .int .i64 0, .int .i64 0, .int .i64 0, .slice none 0 0], (blk_at Hx3.out Kk11.out), rfl, Nat.le_of_ble_eq_true rfl, ?_⟩
    intro W13 hW13
    go_wp2_with fail
    refine bodyPost_ret (results_cell_row rfl _ _ (w.heap.size + 2) 25 _ _ du rfl (blk_same (blk_at Hx3.out Kk11.out) hW13) hu1 (by cases du <;> first | rfl | exact hu2) size_term) rfl ?_
    rw [show pointB i a x = (Tm.mk 0 0 0 0 []) from by unfold pointB heR2; rw [Hhb9.out]; (try rfl)]
    exact ⟨_, rfl, par_end (par_row' (liesQ_nil w7 (Par w V0.heap.size [] P)) hW13 (by omega) (by have := Z0.out; omega)) (by have := Z0.out; omega), kept_set (kept_trans Kk6.out Kk11.out) hW13 (by omega)⟩
  | true =>
    have ew14 : IntKind.i64.wrap (i + 1) = i + 1 := IntWalk.i64_in _ (by have := levN_true ( Hhb9.out); omega)
    have kvV0 : Sees V0 (w.heap.size + 2) w7 := sees_kept _ Kk11.out
    go_wp2_with (refine stop_load 25 (.tmp 4) rfl ?_)
    intro _
    refine wpList_load_part (w.heap.size) 0 25 (.tmp 4) #[.int .i64 a.k, .int .i64 a.i, .int .i64 a.j, .int .i64 a.n, (.slice aa a.kids.length ca)] du (blk_at Hx1.out Kk11.out) (by rfl) rfl (by rfl) (by rfl) hu1 (by cases du <;> first | rfl | exact hu2) size_term ?_
    go_wp2_with (refine stop_load 25 (.tmp 5) rfl ?_)
    intro _
    refine wpList_load_part (w.heap.size + 1) 0 25 (.tmp 5) #[.int .i64 x.k, .int .i64 x.i, .int .i64 x.j, .int .i64 x.n, (.slice ax x.kids.length cx)] du (blk_at Hx2.out Kk11.out) (by rfl) rfl (by rfl) (by rfl) hu1 (by cases du <;> first | rfl | exact hu2) size_term ?_
    go_wp2_with fail
    refine at_world (fun W16 hW16 => ?_)
    clear kvV0
    obtain ⟨k18, x17, z19⟩ := alloc1 hW16
    have Kk20 := Lib.hid k18
    clear k18
    have Hx17 := Lib.hid x17
    have Hz19 := Lib.hid z19
    clear x17 z19 hW16
    have HR21 : Hid (LiesQ W16 (Par w V0.heap.size [] P) [a, x] (.slice (some ⟨w7.heap.size, 0, none⟩) 2 2)) := q_row [(a, (.slice aa a.kids.length ca)), (x, (.slice ax x.kids.length cx))] _ rfl Hx17.out (par_new (Below.size Kk11.out) (xlt_nil _) (Nat.le_refl _)) (fun p hp => by
      simp only [List.mem_cons, List.not_mem_nil, or_false] at hp
      rcases hp with rfl | rfl
      · exact ⟨Ga.out, (HLa.out.later (kept_trans Kk11.out Kk20.out))⟩
      · exact ⟨Gx.out, (HLx.out.later (kept_trans Kk11.out Kk20.out))⟩) (Nat.le_of_ble_eq_true rfl)
    refine (rplain_any [a, x] _ _ HR21.out.lies).mono ?_
    obtain ⟨rb25, hb24⟩ : ∃ qb, plainL [a, x] = qb := ⟨_, rfl⟩
    rw [hb24]
    have Hhb24 := Lib.hid hb24
    clear hb24
    rintro e w22 ⟨rfl, k23⟩
    have Kk26 := Lib.hid k23
    clear k23
    cases rb25 with
    | false =>
      have kvV0 : Sees V0 (w.heap.size + 2) w22 := sees_kept _ (kept_trans Kk11.out (kept_trans Kk20.out Kk26.out))
      go_wp2_with (refine stop_store 25 (.tmp 6) (.tmp 17) rfl ?_)
      intro _
      refine wpList_store_part_n (by rfl) 25 (.tmp 6) (.tmp 17) rfl (w.heap.size + 2) 0 #[.int .i64 0, .int .i64 0, .int .i64 0, .int .i64 0, .slice none 0 0] (by rfl) (by rfl) 25 size_term (row_ok rfl) ?_
      intro W27 hW27
      clear kvV0
      subst hW27
      refine ⟨_, #[.int .i64 0, .int .i64 0, .int .i64 0, .int .i64 0, .slice none 0 0], (blk_at Hx3.out (kept_trans Kk11.out (kept_trans Kk20.out Kk26.out))), rfl, Nat.le_of_ble_eq_true rfl, ?_⟩
      intro W28 hW28
      go_wp2_with fail
      refine bodyPost_ret (results_cell_row rfl _ _ (w.heap.size + 2) 25 _ _ du rfl (blk_same (blk_at Hx3.out (kept_trans Kk11.out (kept_trans Kk20.out Kk26.out))) hW28) hu1 (by cases du <;> first | rfl | exact hu2) size_term) rfl ?_
      rw [show pointB i a x = (Tm.mk 0 0 0 0 []) from by unfold pointB heR2; rw [Hhb9.out, Hhb24.out]; (try rfl)]
      exact ⟨_, rfl, par_end (par_row' (liesQ_nil w22 (Par w V0.heap.size [] P)) hW28 (by omega) (by have := Z0.out; omega)) (by have := Z0.out; omega), kept_set (kept_trans Kk6.out (kept_trans Kk11.out (kept_trans Kk20.out Kk26.out))) hW28 (by omega)⟩
    | true =>
      have kvV0 : Sees V0 (w.heap.size + 2) w22 := sees_kept _ (kept_trans Kk11.out (kept_trans Kk20.out Kk26.out))
      go_wp2_with fail
      clear kvV0
      obtain ⟨W29, h30⟩ : ∃ x, World.drew w22 = x := ⟨_, rfl⟩
      have k31 : Kept w22 W29 := by rw [← h30]; exact kept_drew (kept_refl _)
      have Kk32 := Lib.hid k31
      clear k31
      refine wp_region_held_drew (S := Sees W29 (w.heap.size + 2)) (by kernel_rfl) ?_ (fun hHeld => ?_)
      · (try dsimp only)
        rw [h30]
        exact sees_kept _ (kept_refl _)
      rw [h30] at hHeld ⊢
      clear h30
      refine take_at 0 18 rPointr3_0 (v := ?_) (Or.inl ⟨by rfl, ?_⟩) ?_
      rotate_left 1
      · ((intro w hSw; (try dsimp only at hSw); unfold rPointr3_0; go_simp) <;> with_reducible rfl)
      (try simp only [Act.put, List.setIfInBounds_toArray, List.set_cons_zero, List.set_cons_succ])
      refine take_at 3 21 rPointr3_3 (yields_part (w.heap.size) 0 25 (.tmp 4) #[.int .i64 a.k, .int .i64 a.i, .int .i64 a.j, .int .i64 a.n, (.slice aa a.kids.length ca)] du (fun _ h => sees_blk Hx1.out (by have := Z0.out; omega) (sees_of (kept_trans Kk11.out (kept_trans Kk20.out (kept_trans Kk26.out Kk32.out))) h)) (by rfl) rfl (by rfl) (by rfl) hu1 (by cases du <;> first | rfl | exact hu2) size_term) ?_
      (try simp only [Act.put, List.setIfInBounds_toArray, List.set_cons_zero, List.set_cons_succ])
      refine take_at 4 22 rPointr3_4 (yields_part (w.heap.size + 1) 0 25 (.tmp 5) #[.int .i64 x.k, .int .i64 x.i, .int .i64 x.j, .int .i64 x.n, (.slice ax x.kids.length cx)] du (fun _ h => sees_blk Hx2.out (by have := Z0.out; omega) (sees_of (kept_trans Kk11.out (kept_trans Kk20.out (kept_trans Kk26.out Kk32.out))) h)) (by rfl) rfl (by rfl) (by rfl) hu1 (by cases du <;> first | rfl | exact hu2) size_term) ?_
      (try simp only [Act.put, List.setIfInBounds_toArray, List.set_cons_zero, List.set_cons_succ])
      refine wpAnyH_ready (rs := [1]) (by kernel_rfl) (by simp) ?_
      refine AllReadyH.cons (o := rPointr3_1) rfl (fun K hK => ?_) ?_
      · unfold rPointr3_1
        go_simp
        refine (rsort_any i (Par w V0.heap.size [] P) _ Ri.out).mono ?_
        obtain ⟨U40, hU40⟩ : ∃ qu, sortT i = qu := ⟨_, rfl⟩
        rw [hU40]
        have HU40 := Lib.hid hU40
        clear hU40
        rintro e w33 ⟨s35, rfl, hl36, k34⟩
        obtain ⟨a37, c38, S39, rfl, -⟩ := hl36.out
        have Kk41 := Lib.hid k34
        clear k34
        have Hhl36 : Hid (LiesQ w33 (Par w V0.heap.size [] P) U40.kids _) := par_give hl36 (Below.size (kept_trans Kk11.out (kept_trans Kk20.out (kept_trans Kk26.out Kk32.out)))) (xlt_nil _)
        clear hl36
        clear hHeld
        refine hK.out _ _ ?_ (fun hHeld => ?_)
        · (try dsimp only)
          exact sees_kept _ Kk41.out
        clear hK K
        (try simp only [Act.put, List.setIfInBounds_toArray, List.set_cons_zero, List.set_cons_succ])
        refine wpAnyH_ready (rs := [2]) (by kernel_rfl) (by simp) ?_
        refine AllReadyH.cons (o := rPointr3_2) rfl (fun K hK => ?_) ?_
        · unfold rPointr3_2
          go_simp
          refine (rv_any 0 (Par w V0.heap.size [] P) _ (show I64 0 from by unfold I64; decide)).mono ?_
          obtain ⟨U49, hU49⟩ : ∃ qu, varT 0 = qu := ⟨_, rfl⟩
          rw [hU49]
          have HU49 := Lib.hid hU49
          clear hU49
          rintro e w42 ⟨s44, rfl, hl45, k43⟩
          obtain ⟨a46, c47, S48, rfl, -⟩ := hl45.out
          have Kk50 := Lib.hid k43
          clear k43
          have Hhl45 : Hid (LiesQ w42 (Par w V0.heap.size [] P) U49.kids _) := par_give hl45 (Below.size (kept_trans Kk11.out (kept_trans Kk20.out (kept_trans Kk26.out (kept_trans Kk32.out Kk41.out))))) (xlt_nil _)
          clear hl45
          clear hHeld
          refine hK.out _ _ ?_ (fun hHeld => ?_)
          · (try dsimp only)
            exact sees_kept _ (kept_trans Kk41.out Kk50.out)
          clear hK K
          (try simp only [Act.put, List.setIfInBounds_toArray, List.set_cons_zero, List.set_cons_succ])
          refine wpAnyH_ready (rs := [5]) (by kernel_rfl) (by simp) ?_
          refine AllReadyH.cons (o := rPointr3_5) rfl (fun K hK => ?_) ?_
          · unfold rPointr3_5
            go_simp
            refine at_K (fun W52 hW52 => ?_)
            obtain ⟨k54, x53, z55⟩ := alloc1 hW52
            have Kk56 := Lib.hid k54
            clear k54
            have Hx53 := Lib.hid x53
            have Hz55 := Lib.hid z55
            clear x53 z55 hW52
            have HR57 : Hid (LiesQ W52 (Par w V0.heap.size [] P) [U40, U49, a, x] (.slice (some ⟨w42.heap.size, 0, none⟩) 4 4)) := q_row [(U40, (.slice a37 U40.kids.length c38)), (U49, (.slice a46 U49.kids.length c47)), (a, (.slice aa a.kids.length ca)), (x, (.slice ax x.kids.length cx))] _ rfl Hx53.out (par_new (Below.size (kept_trans Kk11.out (kept_trans Kk20.out (kept_trans Kk26.out (kept_trans Kk32.out (kept_trans Kk41.out Kk50.out)))))) (xlt_nil _) (Nat.le_refl _)) (fun p hp => by
              simp only [List.mem_cons, List.not_mem_nil, or_false] at hp
              rcases hp with rfl | rfl | rfl | rfl
              · exact ⟨(by rw [← HU40.out]; exact (sort_fine Ri.out)), (Hhl36.out.later (kept_trans Kk50.out Kk56.out))⟩
              · exact ⟨(by rw [← HU49.out]; exact (var_fine (show I64 0 from by unfold I64; decide))), (Hhl45.out.later Kk56.out)⟩
              · exact ⟨Ga.out, (HLa.out.later (kept_trans Kk11.out (kept_trans Kk20.out (kept_trans Kk26.out (kept_trans Kk32.out (kept_trans Kk41.out (kept_trans Kk50.out Kk56.out)))))))⟩
              · exact ⟨Gx.out, (HLx.out.later (kept_trans Kk11.out (kept_trans Kk20.out (kept_trans Kk26.out (kept_trans Kk32.out (kept_trans Kk41.out (kept_trans Kk50.out Kk56.out)))))))⟩) (Nat.le_of_ble_eq_true rfl)
            clear hHeld
            refine hK.out _ _ ?_ (fun hHeld => ?_)
            · (try dsimp only)
              exact sees_kept _ (kept_trans Kk41.out (kept_trans Kk50.out Kk56.out))
            clear hK K
            (try simp only [Act.put, List.setIfInBounds_toArray, List.set_cons_zero, List.set_cons_succ])
            refine wpAnyH_ready (rs := [6]) (by kernel_rfl) (by simp) ?_
            refine AllReadyH.cons (o := rPointr3_6) rfl (fun K hK => ?_) ?_
            · unfold rPointr3_6
              go_simp
              refine (rnode_any 17 [U40, U49, a, x] (Par w V0.heap.size [] P) _ _ (show I64 17 from by unfold I64; decide) HR57.out (Nat.le_of_ble_eq_true rfl)).mono ?_
              obtain ⟨U65, hU65⟩ : ∃ qu, nodeT 17 [U40, U49, a, x] = qu := ⟨_, rfl⟩
              rw [hU65]
              have HU65 := Lib.hid hU65
              clear hU65
              rintro e w58 ⟨s60, rfl, hl61, k59⟩
              obtain ⟨a62, c63, S64, rfl, -⟩ := hl61.out
              have Kk66 := Lib.hid k59
              clear k59
              have Hhl61 : Hid (LiesQ w58 (Par w V0.heap.size [] P) U65.kids _) := par_give hl61 (Below.size (kept_trans Kk11.out (kept_trans Kk20.out (kept_trans Kk26.out (kept_trans Kk32.out (kept_trans Kk41.out (kept_trans Kk50.out Kk56.out))))))) (xlt_nil _)
              clear hl61
              clear hHeld
              refine hK.out _ _ ?_ (fun hHeld => ?_)
              · (try dsimp only)
                exact sees_kept _ (kept_trans Kk41.out (kept_trans Kk50.out (kept_trans Kk56.out Kk66.out)))
              clear hK K
              (try simp only [Act.put, List.setIfInBounds_toArray, List.set_cons_zero, List.set_cons_succ])
              refine wpAnyH_ready (rs := [7]) (by kernel_rfl) (by simp) ?_
              refine AllReadyH.cons (o := rPointr3_7) rfl (fun K hK => ?_) ?_
              · unfold rPointr3_7
                refine step_store_part rfl 25 (.tmp 6) (.tmp 24) rfl (w.heap.size + 2) 0 #[.int .i64 U65.k, .int .i64 U65.i, .int .i64 U65.j, .int .i64 U65.n, (.slice a62 U65.kids.length c63)] rfl rfl 25 size_term (row_ok rfl) _ #[.int .i64 U65.k, .int .i64 U65.i, .int .i64 U65.j, .int .i64 U65.n, (.slice a62 U65.kids.length c63)] (blk_at Hx3.out (kept_trans Kk11.out (kept_trans Kk20.out (kept_trans Kk26.out (kept_trans Kk32.out (kept_trans Kk41.out (kept_trans Kk50.out (kept_trans Kk56.out Kk66.out)))))))) rfl (Nat.le_of_ble_eq_true rfl) ?_
                intro W67 hW67
                clear hHeld
                refine hK.out _ _ ?_ (fun hHeld => ?_)
                · (try dsimp only)
                  exact sees_set (kept_trans Kk41.out (kept_trans Kk50.out (kept_trans Kk56.out Kk66.out))) hW67
                clear hK K
                (try simp only [Act.put])
                refine wpAnyH_done (by kernel_rfl) ?_ _
                clear hHeld
                go_wp2_with fail
                refine bodyPost_ret (results_cell_row rfl _ _ (w.heap.size + 2) 25 _ _ du rfl (blk_same (blk_at Hx3.out (kept_trans Kk11.out (kept_trans Kk20.out (kept_trans Kk26.out (kept_trans Kk32.out (kept_trans Kk41.out (kept_trans Kk50.out (kept_trans Kk56.out Kk66.out)))))))) hW67) hu1 (by cases du <;> first | rfl | exact hu2) size_term) rfl ?_
                rw [show pointB i a x = U65 from by unfold pointB heR2; rw [Hhb9.out, Hhb24.out]; rw [← HU65.out]; rw [← HU49.out]; rw [← HU40.out]; (try rfl)]
                exact ⟨_, rfl, par_end (par_row' Hhl61.out hW67 (by omega) (by have := Z0.out; omega)) (by have := Z0.out; omega), kept_set (kept_trans Kk6.out (kept_trans Kk11.out (kept_trans Kk20.out (kept_trans Kk26.out (kept_trans Kk32.out (kept_trans Kk41.out (kept_trans Kk50.out (kept_trans Kk56.out Kk66.out)))))))) hW67 (by omega)⟩
              exact AllReadyH.nil
            exact AllReadyH.nil
          exact AllReadyH.nil
        exact AllReadyH.nil
      exact AllReadyH.nil

def rSelfr3_0 : Oper := { dst := some 18, op := Go.Op.move (Go.Operand.tmp 0), type := 3, pos := "ref.go:84", after := #[], guard := none }
def rSelfr3_1 : Oper := { dst := some 19, op := Go.Op.load 25 (Go.Operand.tmp 4), type := 25, pos := "ref.go:84", after := #[], guard := none }
def rSelfr3_2 : Oper := { dst := some 20, op := Go.Op.load 25 (Go.Operand.tmp 4), type := 25, pos := "ref.go:84", after := #[], guard := none }
def rSelfr3_3 : Oper := { dst := some 21, op := Go.Op.load 25 (Go.Operand.tmp 5), type := 25, pos := "ref.go:84", after := #[], guard := none }
def rSelfr3_4 : Oper := { dst := some 22, op := Go.Op.load 25 (Go.Operand.tmp 5), type := 25, pos := "ref.go:84", after := #[], guard := none }
def rSelfr3_5 : Oper := { dst := some 23, op := Go.Op.move (Go.Operand.tmp 0), type := 3, pos := "ref.go:84", after := #[], guard := none }
def rSelfr3_6 : Oper := { dst := some 24, op := Go.Op.call { callee := Go.Callee.value (Go.Operand.func 54), args := #[Go.Operand.tmp 23], argTypes := #[3] }, type := 25, pos := "ref.go:84", after := #[{ on := 5, ground := Go.Ground.data }], guard := none }
def rSelfr3_7 : Oper := { dst := some 25, op := Go.Op.move (Go.Operand.tmp 0), type := 3, pos := "ref.go:84", after := #[], guard := none }
def rSelfr3_8 : Oper := { dst := some 26, op := Go.Op.load 25 (Go.Operand.tmp 4), type := 25, pos := "ref.go:84", after := #[], guard := none }
def rSelfr3_9 : Oper := { dst := some 27, op := Go.Op.load 25 (Go.Operand.tmp 5), type := 25, pos := "ref.go:84", after := #[], guard := none }
def rSelfr3_10 : Oper := { dst := some 28, op := Go.Op.call { callee := Go.Callee.value (Go.Operand.func 55), args := #[Go.Operand.tmp 25, Go.Operand.tmp 26, Go.Operand.tmp 27], argTypes := #[3, 25, 25] }, type := 25, pos := "ref.go:84", after := #[{ on := 7, ground := Go.Ground.data }, { on := 8, ground := Go.Ground.data }, { on := 9, ground := Go.Ground.data }, { on := 6, ground := Go.Ground.chain }], guard := none }
def rSelfr3_11 : Oper := { dst := some 29, op := Go.Op.buildSlice 23 2 #[(0, Go.Operand.tmp 24), (1, Go.Operand.tmp 28)], type := 23, pos := "ref.go:84", after := #[{ on := 6, ground := Go.Ground.data }, { on := 10, ground := Go.Ground.data }], guard := none }
def rSelfr3_12 : Oper := { dst := some 30, op := Go.Op.call { callee := Go.Callee.value (Go.Operand.func 53), args := #[Go.Operand.const (Go.Value.int Go.IntKind.i64 21), Go.Operand.tmp 29], argTypes := #[3, 23] }, type := 25, pos := "ref.go:84", after := #[{ on := 11, ground := Go.Ground.data }, { on := 10, ground := Go.Ground.chain }], guard := none }
def rSelfr3_13 : Oper := { dst := some 31, op := Go.Op.build 35 #[(0, Go.Operand.tmp 18), (1, Go.Operand.tmp 19), (2, Go.Operand.tmp 20), (3, Go.Operand.tmp 21), (4, Go.Operand.tmp 22), (5, Go.Operand.tmp 30)], type := 35, pos := "ref.go:84", after := #[{ on := 0, ground := Go.Ground.data }, { on := 1, ground := Go.Ground.data }, { on := 2, ground := Go.Ground.data }, { on := 3, ground := Go.Ground.data }, { on := 4, ground := Go.Ground.data }, { on := 12, ground := Go.Ground.data }], guard := none }
def rSelfr3_14 : Oper := { dst := none, op := Go.Op.store 35 (Go.Operand.tmp 6) (Go.Operand.tmp 31), type := 0, pos := "ref.go:84", after := #[{ on := 13, ground := Go.Ground.data }, { on := 12, ground := Go.Ground.chain }, { on := 0, ground := Go.Ground.phase }, { on := 1, ground := Go.Ground.phase }, { on := 2, ground := Go.Ground.phase }, { on := 3, ground := Go.Ground.phase }, { on := 4, ground := Go.Ground.phase }, { on := 5, ground := Go.Ground.phase }, { on := 6, ground := Go.Ground.phase }, { on := 7, ground := Go.Ground.phase }, { on := 8, ground := Go.Ground.phase }, { on := 9, ground := Go.Ground.phase }, { on := 10, ground := Go.Ground.phase }, { on := 11, ground := Go.Ground.phase }, { on := 12, ground := Go.Ground.phase }, { on := 13, ground := Go.Ground.phase }], guard := none }
set_option maxRecDepth 20000 in
set_option maxHeartbeats 4000000 in
theorem rSelf_any (i : Int) (a : Tm) (x : Tm) (P : Nat → Prop) (w : World) (sa : Value) (sx : Value) (hri : I64 i) (hfa : a.fine) (hla : LiesQ w P a.kids sa) (hfx : x.fine) (hlx : LiesQ w P x.kids sx) : Calls Tryz.prog 25 #[.int .i64 i, tv a sa, tv x sx] w (GivesHP P (heSelf i a x) w) := by
  have Ri := Lib.hid hri
  clear hri
  have Ga := Lib.hid hfa
  clear hfa
  obtain ⟨aa, ca, Sa, rfl, -⟩ := hla.out
  have Gx := Lib.hid hfx
  clear hfx
  obtain ⟨ax, cx, Sx, rfl, -⟩ := hlx.out
  obtain ⟨du, hu1, hu2⟩ := under_term
  obtain ⟨dr, dr1, dr2⟩ := under_of 35 (by kernel_rfl)
  unfold tv
  go_enter Tryz.func25, Tryz.ntmps25
  go_upto_region 1 with fail
  refine at_code (fun V0 hV0 => ?_)
  obtain ⟨k4, x1, x2, x3, z5⟩ := alloc3 hV0
  have Kk6 := Lib.hid k4
  clear k4
  have Hx1 := Lib.hid x1
  have Hx2 := Lib.hid x2
  have Hx3 := Lib.hid x3
  have Z0 := Lib.hid z5
  clear z5 x1 x2 x3 hV0
  have HLa : Hid (LiesQ V0 (Par w V0.heap.size [] P) a.kids _) := (par_in _ _ hla).later Kk6.out
  clear hla
  have HLx : Hid (LiesQ V0 (Par w V0.heap.size [] P) x.kids _) := (par_in _ _ hlx).later Kk6.out
  clear hlx
  have kvV0 : Sees V0 (w.heap.size + 2) V0 := sees_kept _ (kept_refl _)
  go_wp2_with fail
  clear kvV0
  refine (rlevel_any i 2 _ Ri.out (show I64 2 from by unfold I64; decide) (by decide) (by decide)).mono ?_
  obtain ⟨rb10, hb9⟩ : ∃ qb, levN 2 i = qb := ⟨_, rfl⟩
  rw [hb9]
  have Hhb9 := Lib.hid hb9
  clear hb9
  rintro e w7 ⟨rfl, k8⟩
  have Kk11 := Lib.hid k8
  clear k8
  cases rb10 with
  | false =>
    have kvV0 : Sees V0 (w.heap.size + 2) w7 := sees_kept _ Kk11.out
    go_wp2_with (refine stop_store 35 (.tmp 6) (.tmp 17) rfl ?_)
    intro _
    refine wpList_store_part_n (by rfl) 35 (.tmp 6) (.tmp 17) rfl (w.heap.size + 2) 0 #[.int .i64 0, .int .i64 0, .int .i64 0, .int .i64 0, .int .i64 0, .slice none 0 0, .int .i64 0, .int .i64 0, .int .i64 0, .int .i64 0, .slice none 0 0, .int .i64 0, .int .i64 0, .int .i64 0, .int .i64 0, .slice none 0 0, .int .i64 0, .int .i64 0, .int .i64 0, .int .i64 0, .slice none 0 0, .int .i64 0, .int .i64 0, .int .i64 0, .int .i64 0, .slice none 0 0] (by rfl) (by rfl) 35 (by kernel_rfl) (row_ok rfl) ?_
    intro W12 hW12
    clear kvV0
    subst hW12
    refine ⟨_, #[.int .i64 0, .int .i64 0, .int .i64 0, .int .i64 0, .int .i64 0, .slice none 0 0, .int .i64 0, .int .i64 0, .int .i64 0, .int .i64 0, .slice none 0 0, .int .i64 0, .int .i64 0, .int .i64 0, .int .i64 0, .slice none 0 0, .int .i64 0, .int .i64 0, .int .i64 0, .int .i64 0, .slice none 0 0, .int .i64 0, .int .i64 0, .int .i64 0, .int .i64 0, .slice none 0 0], (blk_at Hx3.out Kk11.out), rfl, Nat.le_of_ble_eq_true rfl, ?_⟩
    intro W13 hW13
    go_wp2_with fail
    refine bodyPost_ret (results_cell_row rfl _ _ (w.heap.size + 2) 35 _ _ dr rfl (blk_same (blk_at Hx3.out Kk11.out) hW13) dr1 (by cases dr <;> first | rfl | exact dr2) (by kernel_rfl)) rfl ?_
    rw [show heSelf i a x = (⟨0, (.mk 0 0 0 0 []), (.mk 0 0 0 0 []), (.mk 0 0 0 0 []), (.mk 0 0 0 0 []), (.mk 0 0 0 0 [])⟩ : He) from by unfold heSelf heR2; rw [Hhb9.out]; (try rfl)]
    exact ⟨_, _, _, _, _, rfl, ⟨par_end (par_row' (liesQ_nil w7 (Par w V0.heap.size [] P)) hW13 (by omega) (by have := Z0.out; omega)) (by have := Z0.out; omega), par_end (par_row' (liesQ_nil w7 (Par w V0.heap.size [] P)) hW13 (by omega) (by have := Z0.out; omega)) (by have := Z0.out; omega), par_end (par_row' (liesQ_nil w7 (Par w V0.heap.size [] P)) hW13 (by omega) (by have := Z0.out; omega)) (by have := Z0.out; omega), par_end (par_row' (liesQ_nil w7 (Par w V0.heap.size [] P)) hW13 (by omega) (by have := Z0.out; omega)) (by have := Z0.out; omega), par_end (par_row' (liesQ_nil w7 (Par w V0.heap.size [] P)) hW13 (by omega) (by have := Z0.out; omega)) (by have := Z0.out; omega)⟩, kept_set (kept_trans Kk6.out Kk11.out) hW13 (by omega)⟩
  | true =>
    have ew14 : IntKind.i64.wrap (i + 1) = i + 1 := IntWalk.i64_in _ (by have := levN_true ( Hhb9.out); omega)
    have kvV0 : Sees V0 (w.heap.size + 2) w7 := sees_kept _ Kk11.out
    go_wp2_with (refine stop_load 25 (.tmp 4) rfl ?_)
    intro _
    refine wpList_load_part (w.heap.size) 0 25 (.tmp 4) #[.int .i64 a.k, .int .i64 a.i, .int .i64 a.j, .int .i64 a.n, (.slice aa a.kids.length ca)] du (blk_at Hx1.out Kk11.out) (by rfl) rfl (by rfl) (by rfl) hu1 (by cases du <;> first | rfl | exact hu2) size_term ?_
    go_wp2_with (refine stop_load 25 (.tmp 5) rfl ?_)
    intro _
    refine wpList_load_part (w.heap.size + 1) 0 25 (.tmp 5) #[.int .i64 x.k, .int .i64 x.i, .int .i64 x.j, .int .i64 x.n, (.slice ax x.kids.length cx)] du (blk_at Hx2.out Kk11.out) (by rfl) rfl (by rfl) (by rfl) hu1 (by cases du <;> first | rfl | exact hu2) size_term ?_
    go_wp2_with fail
    refine at_world (fun W16 hW16 => ?_)
    clear kvV0
    obtain ⟨k18, x17, z19⟩ := alloc1 hW16
    have Kk20 := Lib.hid k18
    clear k18
    have Hx17 := Lib.hid x17
    have Hz19 := Lib.hid z19
    clear x17 z19 hW16
    have HR21 : Hid (LiesQ W16 (Par w V0.heap.size [] P) [a, x] (.slice (some ⟨w7.heap.size, 0, none⟩) 2 2)) := q_row [(a, (.slice aa a.kids.length ca)), (x, (.slice ax x.kids.length cx))] _ rfl Hx17.out (par_new (Below.size Kk11.out) (xlt_nil _) (Nat.le_refl _)) (fun p hp => by
      simp only [List.mem_cons, List.not_mem_nil, or_false] at hp
      rcases hp with rfl | rfl
      · exact ⟨Ga.out, (HLa.out.later (kept_trans Kk11.out Kk20.out))⟩
      · exact ⟨Gx.out, (HLx.out.later (kept_trans Kk11.out Kk20.out))⟩) (Nat.le_of_ble_eq_true rfl)
    refine (rplain_any [a, x] _ _ HR21.out.lies).mono ?_
    obtain ⟨rb25, hb24⟩ : ∃ qb, plainL [a, x] = qb := ⟨_, rfl⟩
    rw [hb24]
    have Hhb24 := Lib.hid hb24
    clear hb24
    rintro e w22 ⟨rfl, k23⟩
    have Kk26 := Lib.hid k23
    clear k23
    cases rb25 with
    | false =>
      have kvV0 : Sees V0 (w.heap.size + 2) w22 := sees_kept _ (kept_trans Kk11.out (kept_trans Kk20.out Kk26.out))
      go_wp2_with (refine stop_store 35 (.tmp 6) (.tmp 17) rfl ?_)
      intro _
      refine wpList_store_part_n (by rfl) 35 (.tmp 6) (.tmp 17) rfl (w.heap.size + 2) 0 #[.int .i64 0, .int .i64 0, .int .i64 0, .int .i64 0, .int .i64 0, .slice none 0 0, .int .i64 0, .int .i64 0, .int .i64 0, .int .i64 0, .slice none 0 0, .int .i64 0, .int .i64 0, .int .i64 0, .int .i64 0, .slice none 0 0, .int .i64 0, .int .i64 0, .int .i64 0, .int .i64 0, .slice none 0 0, .int .i64 0, .int .i64 0, .int .i64 0, .int .i64 0, .slice none 0 0] (by rfl) (by rfl) 35 (by kernel_rfl) (row_ok rfl) ?_
      intro W27 hW27
      clear kvV0
      subst hW27
      refine ⟨_, #[.int .i64 0, .int .i64 0, .int .i64 0, .int .i64 0, .int .i64 0, .slice none 0 0, .int .i64 0, .int .i64 0, .int .i64 0, .int .i64 0, .slice none 0 0, .int .i64 0, .int .i64 0, .int .i64 0, .int .i64 0, .slice none 0 0, .int .i64 0, .int .i64 0, .int .i64 0, .int .i64 0, .slice none 0 0, .int .i64 0, .int .i64 0, .int .i64 0, .int .i64 0, .slice none 0 0], (blk_at Hx3.out (kept_trans Kk11.out (kept_trans Kk20.out Kk26.out))), rfl, Nat.le_of_ble_eq_true rfl, ?_⟩
      intro W28 hW28
      go_wp2_with fail
      refine bodyPost_ret (results_cell_row rfl _ _ (w.heap.size + 2) 35 _ _ dr rfl (blk_same (blk_at Hx3.out (kept_trans Kk11.out (kept_trans Kk20.out Kk26.out))) hW28) dr1 (by cases dr <;> first | rfl | exact dr2) (by kernel_rfl)) rfl ?_
      rw [show heSelf i a x = (⟨0, (.mk 0 0 0 0 []), (.mk 0 0 0 0 []), (.mk 0 0 0 0 []), (.mk 0 0 0 0 []), (.mk 0 0 0 0 [])⟩ : He) from by unfold heSelf heR2; rw [Hhb9.out, Hhb24.out]; (try rfl)]
      exact ⟨_, _, _, _, _, rfl, ⟨par_end (par_row' (liesQ_nil w22 (Par w V0.heap.size [] P)) hW28 (by omega) (by have := Z0.out; omega)) (by have := Z0.out; omega), par_end (par_row' (liesQ_nil w22 (Par w V0.heap.size [] P)) hW28 (by omega) (by have := Z0.out; omega)) (by have := Z0.out; omega), par_end (par_row' (liesQ_nil w22 (Par w V0.heap.size [] P)) hW28 (by omega) (by have := Z0.out; omega)) (by have := Z0.out; omega), par_end (par_row' (liesQ_nil w22 (Par w V0.heap.size [] P)) hW28 (by omega) (by have := Z0.out; omega)) (by have := Z0.out; omega), par_end (par_row' (liesQ_nil w22 (Par w V0.heap.size [] P)) hW28 (by omega) (by have := Z0.out; omega)) (by have := Z0.out; omega)⟩, kept_set (kept_trans Kk6.out (kept_trans Kk11.out (kept_trans Kk20.out Kk26.out))) hW28 (by omega)⟩
    | true =>
      have kvV0 : Sees V0 (w.heap.size + 2) w22 := sees_kept _ (kept_trans Kk11.out (kept_trans Kk20.out Kk26.out))
      go_wp2_with fail
      clear kvV0
      obtain ⟨W29, h30⟩ : ∃ x, World.drew w22 = x := ⟨_, rfl⟩
      have k31 : Kept w22 W29 := by rw [← h30]; exact kept_drew (kept_refl _)
      have Kk32 := Lib.hid k31
      clear k31
      refine wp_region_held_drew (S := Sees W29 (w.heap.size + 2)) (by kernel_rfl) ?_ (fun hHeld => ?_)
      · (try dsimp only)
        rw [h30]
        exact sees_kept _ (kept_refl _)
      rw [h30] at hHeld ⊢
      clear h30
      refine take_at 0 18 rSelfr3_0 (v := ?_) (Or.inl ⟨by rfl, ?_⟩) ?_
      rotate_left 1
      · ((intro w hSw; (try dsimp only at hSw); unfold rSelfr3_0; go_simp) <;> with_reducible rfl)
      (try simp only [Act.put, List.setIfInBounds_toArray, List.set_cons_zero, List.set_cons_succ])
      refine take_at 1 19 rSelfr3_1 (yields_part (w.heap.size) 0 25 (.tmp 4) #[.int .i64 a.k, .int .i64 a.i, .int .i64 a.j, .int .i64 a.n, (.slice aa a.kids.length ca)] du (fun _ h => sees_blk Hx1.out (by have := Z0.out; omega) (sees_of (kept_trans Kk11.out (kept_trans Kk20.out (kept_trans Kk26.out Kk32.out))) h)) (by rfl) rfl (by rfl) (by rfl) hu1 (by cases du <;> first | rfl | exact hu2) size_term) ?_
      (try simp only [Act.put, List.setIfInBounds_toArray, List.set_cons_zero, List.set_cons_succ])
      refine take_at 2 20 rSelfr3_2 (yields_part (w.heap.size) 0 25 (.tmp 4) #[.int .i64 a.k, .int .i64 a.i, .int .i64 a.j, .int .i64 a.n, (.slice aa a.kids.length ca)] du (fun _ h => sees_blk Hx1.out (by have := Z0.out; omega) (sees_of (kept_trans Kk11.out (kept_trans Kk20.out (kept_trans Kk26.out Kk32.out))) h)) (by rfl) rfl (by rfl) (by rfl) hu1 (by cases du <;> first | rfl | exact hu2) size_term) ?_
      (try simp only [Act.put, List.setIfInBounds_toArray, List.set_cons_zero, List.set_cons_succ])
      refine take_at 3 21 rSelfr3_3 (yields_part (w.heap.size + 1) 0 25 (.tmp 5) #[.int .i64 x.k, .int .i64 x.i, .int .i64 x.j, .int .i64 x.n, (.slice ax x.kids.length cx)] du (fun _ h => sees_blk Hx2.out (by have := Z0.out; omega) (sees_of (kept_trans Kk11.out (kept_trans Kk20.out (kept_trans Kk26.out Kk32.out))) h)) (by rfl) rfl (by rfl) (by rfl) hu1 (by cases du <;> first | rfl | exact hu2) size_term) ?_
      (try simp only [Act.put, List.setIfInBounds_toArray, List.set_cons_zero, List.set_cons_succ])
      refine take_at 4 22 rSelfr3_4 (yields_part (w.heap.size + 1) 0 25 (.tmp 5) #[.int .i64 x.k, .int .i64 x.i, .int .i64 x.j, .int .i64 x.n, (.slice ax x.kids.length cx)] du (fun _ h => sees_blk Hx2.out (by have := Z0.out; omega) (sees_of (kept_trans Kk11.out (kept_trans Kk20.out (kept_trans Kk26.out Kk32.out))) h)) (by rfl) rfl (by rfl) (by rfl) hu1 (by cases du <;> first | rfl | exact hu2) size_term) ?_
      (try simp only [Act.put, List.setIfInBounds_toArray, List.set_cons_zero, List.set_cons_succ])
      refine take_at 5 23 rSelfr3_5 (v := ?_) (Or.inl ⟨by rfl, ?_⟩) ?_
      rotate_left 1
      · ((intro w hSw; (try dsimp only at hSw); unfold rSelfr3_5; go_simp) <;> with_reducible rfl)
      (try simp only [Act.put, List.setIfInBounds_toArray, List.set_cons_zero, List.set_cons_succ])
      refine take_at 7 25 rSelfr3_7 (v := ?_) (Or.inl ⟨by rfl, ?_⟩) ?_
      rotate_left 1
      · ((intro w hSw; (try dsimp only at hSw); unfold rSelfr3_7; go_simp) <;> with_reducible rfl)
      (try simp only [Act.put, List.setIfInBounds_toArray, List.set_cons_zero, List.set_cons_succ])
      refine take_at 8 26 rSelfr3_8 (yields_part (w.heap.size) 0 25 (.tmp 4) #[.int .i64 a.k, .int .i64 a.i, .int .i64 a.j, .int .i64 a.n, (.slice aa a.kids.length ca)] du (fun _ h => sees_blk Hx1.out (by have := Z0.out; omega) (sees_of (kept_trans Kk11.out (kept_trans Kk20.out (kept_trans Kk26.out Kk32.out))) h)) (by rfl) rfl (by rfl) (by rfl) hu1 (by cases du <;> first | rfl | exact hu2) size_term) ?_
      (try simp only [Act.put, List.setIfInBounds_toArray, List.set_cons_zero, List.set_cons_succ])
      refine take_at 9 27 rSelfr3_9 (yields_part (w.heap.size + 1) 0 25 (.tmp 5) #[.int .i64 x.k, .int .i64 x.i, .int .i64 x.j, .int .i64 x.n, (.slice ax x.kids.length cx)] du (fun _ h => sees_blk Hx2.out (by have := Z0.out; omega) (sees_of (kept_trans Kk11.out (kept_trans Kk20.out (kept_trans Kk26.out Kk32.out))) h)) (by rfl) rfl (by rfl) (by rfl) hu1 (by cases du <;> first | rfl | exact hu2) size_term) ?_
      (try simp only [Act.put, List.setIfInBounds_toArray, List.set_cons_zero, List.set_cons_succ])
      refine wpAnyH_ready (rs := [6]) (by kernel_rfl) (by simp) ?_
      refine AllReadyH.cons (o := rSelfr3_6) rfl (fun K hK => ?_) ?_
      · unfold rSelfr3_6
        go_simp
        refine ((rPoints_any i (Par w V0.heap.size [] P) _ Ri.out).mono (fun _ _ h => by rw [points_good ( Hhb9.out)] at h; exact h)).mono ?_
        obtain ⟨U40, hU40⟩ : ∃ qu, pointsT i = qu := ⟨_, rfl⟩
        rw [hU40]
        have HU40 := Lib.hid hU40
        clear hU40
        rintro e w33 ⟨s35, rfl, hl36, k34⟩
        obtain ⟨a37, c38, S39, rfl, -⟩ := hl36.out
        have Kk41 := Lib.hid k34
        clear k34
        have Hhl36 : Hid (LiesQ w33 (Par w V0.heap.size [] P) U40.kids _) := par_give hl36 (Below.size (kept_trans Kk11.out (kept_trans Kk20.out (kept_trans Kk26.out Kk32.out)))) (xlt_nil _)
        clear hl36
        clear hHeld
        refine hK.out _ _ ?_ (fun hHeld => ?_)
        · (try dsimp only)
          exact sees_kept _ Kk41.out
        clear hK K
        (try simp only [Act.put, List.setIfInBounds_toArray, List.set_cons_zero, List.set_cons_succ])
        refine wpAnyH_ready (rs := [10]) (by kernel_rfl) (by simp) ?_
        refine AllReadyH.cons (o := rSelfr3_10) rfl (fun K hK => ?_) ?_
        · unfold rSelfr3_10
          go_simp
          refine ((rPoint_any i a x (Par w V0.heap.size [] P) _ (.slice aa a.kids.length ca) (.slice ax x.kids.length cx) Ri.out Ga.out (HLa.out.later (kept_trans Kk11.out (kept_trans Kk20.out (kept_trans Kk26.out (kept_trans Kk32.out Kk41.out))))) Gx.out (HLx.out.later (kept_trans Kk11.out (kept_trans Kk20.out (kept_trans Kk26.out (kept_trans Kk32.out Kk41.out)))))).mono (fun _ _ h => by rw [point_good ( Hhb9.out) (plainL_iff.1 Hhb24.out _ (by simp)) (plainL_iff.1 Hhb24.out _ (by simp))] at h; exact h)).mono ?_
          obtain ⟨U49, hU49⟩ : ∃ qu, pointT i a x = qu := ⟨_, rfl⟩
          rw [hU49]
          have HU49 := Lib.hid hU49
          clear hU49
          rintro e w42 ⟨s44, rfl, hl45, k43⟩
          obtain ⟨a46, c47, S48, rfl, -⟩ := hl45.out
          have Kk50 := Lib.hid k43
          clear k43
          have Hhl45 : Hid (LiesQ w42 (Par w V0.heap.size [] P) U49.kids _) := par_give hl45 (Below.size (kept_trans Kk11.out (kept_trans Kk20.out (kept_trans Kk26.out (kept_trans Kk32.out Kk41.out))))) (xlt_nil _)
          clear hl45
          clear hHeld
          refine hK.out _ _ ?_ (fun hHeld => ?_)
          · (try dsimp only)
            exact sees_kept _ (kept_trans Kk41.out Kk50.out)
          clear hK K
          (try simp only [Act.put, List.setIfInBounds_toArray, List.set_cons_zero, List.set_cons_succ])
          refine wpAnyH_ready (rs := [11]) (by kernel_rfl) (by simp) ?_
          refine AllReadyH.cons (o := rSelfr3_11) rfl (fun K hK => ?_) ?_
          · unfold rSelfr3_11
            go_simp
            refine at_K (fun W52 hW52 => ?_)
            obtain ⟨k54, x53, z55⟩ := alloc1 hW52
            have Kk56 := Lib.hid k54
            clear k54
            have Hx53 := Lib.hid x53
            have Hz55 := Lib.hid z55
            clear x53 z55 hW52
            have HR57 : Hid (LiesQ W52 (Par w V0.heap.size [] P) [U40, U49] (.slice (some ⟨w42.heap.size, 0, none⟩) 2 2)) := q_row [(U40, (.slice a37 U40.kids.length c38)), (U49, (.slice a46 U49.kids.length c47))] _ rfl Hx53.out (par_new (Below.size (kept_trans Kk11.out (kept_trans Kk20.out (kept_trans Kk26.out (kept_trans Kk32.out (kept_trans Kk41.out Kk50.out)))))) (xlt_nil _) (Nat.le_refl _)) (fun p hp => by
              simp only [List.mem_cons, List.not_mem_nil, or_false] at hp
              rcases hp with rfl | rfl
              · exact ⟨(by rw [← HU40.out]; exact (right_fine (plain_right (points_plain ( Hhb9.out))))), (Hhl36.out.later (kept_trans Kk50.out Kk56.out))⟩
              · exact ⟨(by rw [← HU49.out]; exact (right_fine (plain_right (point_plain ( Hhb9.out) (plainL_iff.1 Hhb24.out _ (by simp)) (plainL_iff.1 Hhb24.out _ (by simp)))))), (Hhl45.out.later Kk56.out)⟩) (Nat.le_of_ble_eq_true rfl)
            clear hHeld
            refine hK.out _ _ ?_ (fun hHeld => ?_)
            · (try dsimp only)
              exact sees_kept _ (kept_trans Kk41.out (kept_trans Kk50.out Kk56.out))
            clear hK K
            (try simp only [Act.put, List.setIfInBounds_toArray, List.set_cons_zero, List.set_cons_succ])
            refine wpAnyH_ready (rs := [12]) (by kernel_rfl) (by simp) ?_
            refine AllReadyH.cons (o := rSelfr3_12) rfl (fun K hK => ?_) ?_
            · unfold rSelfr3_12
              go_simp
              refine (rnode_any 21 [U40, U49] (Par w V0.heap.size [] P) _ _ (show I64 21 from by unfold I64; decide) HR57.out (Nat.le_of_ble_eq_true rfl)).mono ?_
              obtain ⟨U65, hU65⟩ : ∃ qu, nodeT 21 [U40, U49] = qu := ⟨_, rfl⟩
              rw [hU65]
              have HU65 := Lib.hid hU65
              clear hU65
              rintro e w58 ⟨s60, rfl, hl61, k59⟩
              obtain ⟨a62, c63, S64, rfl, -⟩ := hl61.out
              have Kk66 := Lib.hid k59
              clear k59
              have Hhl61 : Hid (LiesQ w58 (Par w V0.heap.size [] P) U65.kids _) := par_give hl61 (Below.size (kept_trans Kk11.out (kept_trans Kk20.out (kept_trans Kk26.out (kept_trans Kk32.out (kept_trans Kk41.out (kept_trans Kk50.out Kk56.out))))))) (xlt_nil _)
              clear hl61
              clear hHeld
              refine hK.out _ _ ?_ (fun hHeld => ?_)
              · (try dsimp only)
                exact sees_kept _ (kept_trans Kk41.out (kept_trans Kk50.out (kept_trans Kk56.out Kk66.out)))
              clear hK K
              (try simp only [Act.put, List.setIfInBounds_toArray, List.set_cons_zero, List.set_cons_succ])
              refine take_at 13 31 rSelfr3_13 (v := ?_) (Or.inl ⟨by rfl, ?_⟩) ?_
              rotate_left 1
              · ((intro w hSw; (try dsimp only at hSw); unfold rSelfr3_13; go_simp) <;> with_reducible rfl)
              (try simp only [Act.put, List.setIfInBounds_toArray, List.set_cons_zero, List.set_cons_succ])
              refine wpAnyH_ready (rs := [14]) (by kernel_rfl) (by simp) ?_
              refine AllReadyH.cons (o := rSelfr3_14) rfl (fun K hK => ?_) ?_
              · unfold rSelfr3_14
                refine step_store_part rfl 35 (.tmp 6) (.tmp 31) rfl (w.heap.size + 2) 0 #[.int .i64 i, .int .i64 a.k, .int .i64 a.i, .int .i64 a.j, .int .i64 a.n, (.slice aa a.kids.length ca), .int .i64 a.k, .int .i64 a.i, .int .i64 a.j, .int .i64 a.n, (.slice aa a.kids.length ca), .int .i64 x.k, .int .i64 x.i, .int .i64 x.j, .int .i64 x.n, (.slice ax x.kids.length cx), .int .i64 x.k, .int .i64 x.i, .int .i64 x.j, .int .i64 x.n, (.slice ax x.kids.length cx), .int .i64 U65.k, .int .i64 U65.i, .int .i64 U65.j, .int .i64 U65.n, (.slice a62 U65.kids.length c63)] rfl rfl 35 (by kernel_rfl) (row_ok rfl) _ #[.int .i64 i, .int .i64 a.k, .int .i64 a.i, .int .i64 a.j, .int .i64 a.n, (.slice aa a.kids.length ca), .int .i64 a.k, .int .i64 a.i, .int .i64 a.j, .int .i64 a.n, (.slice aa a.kids.length ca), .int .i64 x.k, .int .i64 x.i, .int .i64 x.j, .int .i64 x.n, (.slice ax x.kids.length cx), .int .i64 x.k, .int .i64 x.i, .int .i64 x.j, .int .i64 x.n, (.slice ax x.kids.length cx), .int .i64 U65.k, .int .i64 U65.i, .int .i64 U65.j, .int .i64 U65.n, (.slice a62 U65.kids.length c63)] (blk_at Hx3.out (kept_trans Kk11.out (kept_trans Kk20.out (kept_trans Kk26.out (kept_trans Kk32.out (kept_trans Kk41.out (kept_trans Kk50.out (kept_trans Kk56.out Kk66.out)))))))) rfl (Nat.le_of_ble_eq_true rfl) ?_
                intro W67 hW67
                clear hHeld
                refine hK.out _ _ ?_ (fun hHeld => ?_)
                · (try dsimp only)
                  exact sees_set (kept_trans Kk41.out (kept_trans Kk50.out (kept_trans Kk56.out Kk66.out))) hW67
                clear hK K
                (try simp only [Act.put])
                refine wpAnyH_done (by kernel_rfl) ?_ _
                clear hHeld
                go_wp2_with fail
                refine bodyPost_ret (results_cell_row rfl _ _ (w.heap.size + 2) 35 _ _ dr rfl (blk_same (blk_at Hx3.out (kept_trans Kk11.out (kept_trans Kk20.out (kept_trans Kk26.out (kept_trans Kk32.out (kept_trans Kk41.out (kept_trans Kk50.out (kept_trans Kk56.out Kk66.out)))))))) hW67) dr1 (by cases dr <;> first | rfl | exact dr2) (by kernel_rfl)) rfl ?_
                rw [show heSelf i a x = (⟨i, a, a, x, x, U65⟩ : He) from by unfold heSelf heR2; rw [Hhb9.out, Hhb24.out]; rw [← HU65.out]; rw [← HU49.out]; rw [← HU40.out]; (try rfl)]
                exact ⟨_, _, _, _, _, rfl, ⟨par_end (par_row' (HLa.out.later (kept_trans Kk11.out (kept_trans Kk20.out (kept_trans Kk26.out (kept_trans Kk32.out (kept_trans Kk41.out (kept_trans Kk50.out (kept_trans Kk56.out Kk66.out)))))))) hW67 (by omega) (by have := Z0.out; omega)) (by have := Z0.out; omega), par_end (par_row' (HLa.out.later (kept_trans Kk11.out (kept_trans Kk20.out (kept_trans Kk26.out (kept_trans Kk32.out (kept_trans Kk41.out (kept_trans Kk50.out (kept_trans Kk56.out Kk66.out)))))))) hW67 (by omega) (by have := Z0.out; omega)) (by have := Z0.out; omega), par_end (par_row' (HLx.out.later (kept_trans Kk11.out (kept_trans Kk20.out (kept_trans Kk26.out (kept_trans Kk32.out (kept_trans Kk41.out (kept_trans Kk50.out (kept_trans Kk56.out Kk66.out)))))))) hW67 (by omega) (by have := Z0.out; omega)) (by have := Z0.out; omega), par_end (par_row' (HLx.out.later (kept_trans Kk11.out (kept_trans Kk20.out (kept_trans Kk26.out (kept_trans Kk32.out (kept_trans Kk41.out (kept_trans Kk50.out (kept_trans Kk56.out Kk66.out)))))))) hW67 (by omega) (by have := Z0.out; omega)) (by have := Z0.out; omega), par_end (par_row' Hhl61.out hW67 (by omega) (by have := Z0.out; omega)) (by have := Z0.out; omega)⟩, kept_set (kept_trans Kk6.out (kept_trans Kk11.out (kept_trans Kk20.out (kept_trans Kk26.out (kept_trans Kk32.out (kept_trans Kk41.out (kept_trans Kk50.out (kept_trans Kk56.out Kk66.out)))))))) hW67 (by omega)⟩
              exact AllReadyH.nil
            exact AllReadyH.nil
          exact AllReadyH.nil
        exact AllReadyH.nil
      exact AllReadyH.nil

end Go.Proofs.YtgododpkbiaacaaGreat

namespace Go.Proofs.YtgododpkbiaacaaGreat
open Go.RowKit

set_option maxRecDepth 20000 in
set_option maxHeartbeats 4000000 in
theorem rv25_any (i : Int) (P : Nat → Prop) (w : World) (hri : I64 i) : Calls Tryz.prog 27 #[.int .i64 i] w (GivesP P (varT i) w) := by
  have Ri := Lib.hid hri
  clear hri
  obtain ⟨du, hu1, hu2⟩ := under_term
  go_enter Tryz.func27, Tryz.ntmps27
  go_upto_region 1 with fail
  refine at_code (fun V0 hV0 => ?_)
  obtain ⟨k2, x1, z3⟩ := alloc1 hV0
  have Kk4 := Lib.hid k2
  clear k2
  have Hx1 := Lib.hid x1
  have Z0 := Lib.hid z3
  clear z3 x1 hV0
  have kvV0 : Sees V0 (w.heap.size) V0 := sees_kept _ (kept_refl _)
  go_wp2_with (refine stop_store 25 (.tmp 2) (.tmp 4) rfl ?_)
  intro _
  refine wpList_store_part_n (by rfl) 25 (.tmp 2) (.tmp 4) rfl (w.heap.size) 0 #[.int .i64 2, .int .i64 i, .int .i64 0, .int .i64 0, .slice none 0 0] (by rfl) (by rfl) 25 size_term (row_ok rfl) ?_
  intro W5 hW5
  clear kvV0
  subst hW5
  refine ⟨_, #[.int .i64 2, .int .i64 i, .int .i64 0, .int .i64 0, .slice none 0 0], Hx1.out, rfl, Nat.le_of_ble_eq_true rfl, ?_⟩
  intro W6 hW6
  go_wp2_with fail
  refine bodyPost_ret (results_cell_row rfl _ _ (w.heap.size) 25 _ _ du rfl (blk_same Hx1.out hW6) hu1 (by cases du <;> first | rfl | exact hu2) size_term) rfl ?_
  exact ⟨_, rfl, par_end (par_row' (liesQ_nil V0 (Par w V0.heap.size [] P)) hW6 (by omega) (by have := Z0.out; omega)) (by have := Z0.out; omega), kept_set Kk4.out hW6 (by omega)⟩

set_option maxRecDepth 20000 in
set_option maxHeartbeats 4000000 in
theorem refhead_any (t : Tm) (P : Nat → Prop) (w : World) (s : Value) (hlq : LiesQ w P t.kids s) : Calls Tryz.prog 10 #[tv t s] w (GivesP P t.headB w) := by
  obtain ⟨du, hu1, hu2⟩ := under_term
  have hl := hlq.lies
  have hp0 := pair_start w t s
  obtain ⟨a0, cap0, S0, rfl, -⟩ := hl.out
  have HL := Lib.hid hl
  have HLQ := Lib.hid hlq
  have HP0 := Lib.hid hp0
  clear hl hp0 hlq
  unfold tv
  go_enter Tryz.func10, Tryz.ntmps10
  cases hm : t.markedB with
  | false =>
    have HR := Lib.hid (show t.headB = Tm.zero by unfold Tm.headB; rw [if_neg (by rw [hm]; decide)])
    go_wp2_with fail
    refine (refmarked_any t _ _ (HL.out.keep HP0.out.under)).mono ?_
    rw [hm]
    rintro e w2 ⟨rfl, hb2⟩
    have HP2 := Lib.hid (HP0.out.call hb2)
    clear hb2
    obtain ⟨z0, z1, z2, z3, z4⟩ := five_cells HP2.out.res
    obtain ⟨f0, f1, f2, f3, f4⟩ := five_free HP2.out.res
    go_wp2
    refine bodyPost_ret (results_cell_row rfl _ _ (w.heap.size + 1) _ _ _ du rfl (five_set HP2.out.res) hu1 (by cases du <;> first | rfl | exact hu2) size_term) rfl ?_
    rw [HR.out]
    exact ⟨.slice none 0 0, rfl, liesQ_nil _ _, below_five HP2.out.under (by omega) _ _ _ _ _⟩
  | true =>
    have HR := Lib.hid (show t.headB = t.und by unfold Tm.headB; rw [if_pos hm])
    have HM := Lib.hid hm
    go_wp2_with fail
    refine (refmarked_any t _ _ (HL.out.keep HP0.out.under)).mono ?_
    rw [hm]
    rintro e w2 ⟨rfl, hb2⟩
    have HP2 := Lib.hid (HP0.out.call hb2)
    clear hb2 hm
    obtain ⟨d0, d1, d2, d3, d4⟩ := five_cells HP2.out.box
    go_wp2_with fail
    go_loopg [] t.size (fun g wr => ∃ (x : Tm) (sx : Value), g = x.size ∧ Pair w x sx wr ∧ LiesQ w P x.kids sx ∧ x.markedB = true ∧ Hid (x.und = t.und))
    case atStart => exact ⟨t, _, rfl, HP2.out, HLQ.out, HM.out, rfl⟩
    case round =>
      clear d0 d1 d2 d3 d4
      obtain ⟨x, sx, hg, hp, hlx, hmx, hux⟩ := hrel
      have HG := Lib.hid hg
      obtain ⟨ax, cx, Sx, rfl, hcx, hmaxx, -, hn, hkk⟩ := hlx.out
      have HLX := Lib.hid hlx
      unfold maxLen at hmaxx
      clear hlx
      obtain ⟨d0, d1, d2, d3, d4⟩ := five_cells hp.box
      obtain ⟨e0, e1, e2, e3, e4⟩ := five_free hp.box
      by_cases hk : x.k = 12
      · have ek : (x.k == 12) = true := by simpa using hk
        obtain ⟨a, b, p, y, hkids, -, -, -, hy⟩ := marked_tr hmx hk
        have hund := und_tr hk hkids
        have hsz : y.size < x.size := by rw [x.size_eq, hkids]; simp only [sizes]; omega
        have h3 : 3 < x.kids.length := by rw [hkids]; show 3 < 4; omega
        have hy3 : x.kids[3] = y := by simp [hkids]
        obtain ⟨b', o, rfl, -, hx⟩ := hn 3 h3
        have hly := hkk 3 h3
        rw [hy3] at hx hly
        obtain ⟨ay, cy, Sy, hSy, -⟩ := hly.out
        rw [hSy] at hly hx
        obtain ⟨c0, c1, c2, c3, c4⟩ : Node _ b' (o + 15) y (.slice ay y.kids.length cy) := hx.below hp.under hx.lt
        have HY := Lib.hid (And.intro hly (And.intro hy (hund.symm.trans hux.out)))
        have HSZ := Lib.hid hsz
        have HP := Lib.hid hp
        clear hg hmx hund hk hkids hn hkk hly hSy hx hy hsz hux HLX hy3
        go_wp2
        go_roundg y.size
        case measure => rw [HG.out]; exact HSZ.out
        case rel => exact ⟨y, _, rfl, HP.out.put y _, HY.out.1, HY.out.2.1, HY.out.2.2⟩
      · have ek : (x.k == 12) = false := by simpa using hk
        have hxu : x = t.und := by rw [← hux.out, und_other hk]
        have HXU := Lib.hid hxu
        have HP := Lib.hid hp
        clear hg hux hxu hk hmx hn hkk hp
        have hsr : w.heap.size + 1 < _ := (Array.getElem?_eq_some_iff.1 HP.out.res).1
        obtain ⟨z0, z1, z2, z3, z4⟩ := five_cells HP.out.res
        obtain ⟨f0, f1, f2, f3, f4⟩ := five_free HP.out.res
        clear e0 e1 e2 e3 e4
        go_wp2
        refine bodyPost_ret (results_cell_row rfl _ _ (w.heap.size + 1) _ _ _ du rfl (five_set HP.out.res) hu1 (by cases du <;> first | rfl | exact hu2) size_term) rfl ?_
        rw [HR.out, ← HXU.out]
        exact ⟨_, rfl, (HLX.out.later (below_five HP.out.under (by omega) _ _ _ _ _)).wide (fun _ h => Or.inl h), below_five HP.out.under (by omega) _ _ _ _ _⟩
theorem newsH (w : World) (p : He × Sl) (T : TypeId) : ∀ j u, (cells26 [p])[j]? = some u → (w.alloc (.cells (hcells p).toArray T)).cell? ((⟨w.heap.size, 0, none⟩ : Addr).add j) = some u := by
  have e : cells26 [p] = hcells p := by simp [cells26]
  rw [e]
  have := World.news_of_block (alloc_new w (.cells (hcells p).toArray T))
  intro j u h
  exact this j u (by simpa using h)
theorem oneH (p : He × Sl) (ha : p.2.a.oneCell' = true) (hb : p.2.b.oneCell' = true) (hx : p.2.x.oneCell' = true) (hy : p.2.y.oneCell' = true) (hh : p.2.h.oneCell' = true) : ∀ u ∈ cells26 [p], u.oneCell' = true := by
  have e : cells26 [p] = hcells p := by simp [cells26]
  rw [e, ← List.all_eq_true]
  simp only [hcells, List.all_cons, List.all_nil, ha, hb, hx, hy, hh]
  rfl
theorem info_rhet : (Tryz.prog.info? 35).map (fun i => (i.zero, i.size, i.bytes)) = some (some (.agg #[.int .i64 0, .int .i64 0, .int .i64 0, .int .i64 0, .int .i64 0, .slice none 0 0, .int .i64 0, .int .i64 0, .int .i64 0, .int .i64 0, .slice none 0 0, .int .i64 0, .int .i64 0, .int .i64 0, .int .i64 0, .slice none 0 0, .int .i64 0, .int .i64 0, .int .i64 0, .int .i64 0, .slice none 0 0, .int .i64 0, .int .i64 0, .int .i64 0, .int .i64 0, .slice none 0 0]), 26, 288) := by kernel_rfl
/-- The page's own way: from the other end. -/
theorem waysL_at {l : List En} {q n : Nat} (hq : q < l.length) (hn : q = l.length - 1 - n) (hnl : n < l.length) : (waysL l)[q]'(by rw [waysL_length]; exact hq) = heSelf (l[q]).i (((l[q]).a.liftB ((n : Int) + 1) 0).stripB) (.mk 2 (n : Int) 0 0 []) := by
  rw [waysL_get l q hq]
  have e : (l.length : Int) - 1 - (q : Int) = (n : Int) := by omega
  rw [e]

set_option maxRecDepth 20000 in
set_option maxHeartbeats 4000000 in
theorem refways_any (l : List En) (w : World) (s : Value) (hl : LiesE w l s) (hlen : l.length ≤ 100000) (hd : ∀ u ∈ l, u.a.deep ≤ 100000) : Calls Tryz.prog 7 #[s] w (GivesR 35 (waysB l) w) := by
  obtain ⟨a, cap, S, rfl, hc, hmx, hf, hn, hk⟩ := hl.out
  unfold maxLen at hmx
  obtain ⟨i0, hi, hz0, hz1, hz2⟩ := info_parts info_rhet
  have HI := Lib.hid (And.intro hi (And.intro hz0 (And.intro hz1 hz2)))
  have HLE := Lib.hid hl
  have HFF := Lib.hid hf
  have HDD := Lib.hid hd
  clear hn hk hl hf hi hz0 hz1 hz2 hd
  have eW : IntKind.i64.wrap ((l.length : Int) - 1) = (l.length : Int) - 1 := IntWalk.i64_in _ (by omega)
  go_enter Tryz.func7, Tryz.ntmps7
  go_wp2
  go_loopw [3, 4] (fun v iv wr => ∃ (q : Nat) (K : Int) (ps : List (He × Sl)) (vv : Value), vv = v ∧ q ≤ l.length ∧ iv = .int .i64 K ∧ Hid (K = (l.length : Int) - 1 - (q : Int)) ∧ Hid (0 < q → (rightC l && lowC 996 l) = true) ∧ Hid (ps.map (·.1) = (waysL l).take q) ∧ MadeH 35 w.heap.size wr v ps ∧ Kept w wr) (fun _ iv _ => ((intOf iv) + 1).toNat)
  case atStart => exact ⟨0, _, [], _, rfl, Nat.zero_le _, rfl, by show _ = _; simp, fun h => absurd h (by omega), by simp [Hid], madeH_nil _ _ _, kept_refl _⟩
  case round =>
    obtain ⟨q, K, ps, vv, rfl, hq, rfl, hK, hpos, hps, hmade, hb⟩ := hrel
    have HMD0 := Lib.hid hmade
    clear hmade
    by_cases h0 : 0 ≤ K
    · have e0 : decide (0 ≤ K) = true := decide_eq_true h0
      have hlt : q < l.length := by have := hK.out; omega
      obtain ⟨n, rfl⟩ : ∃ n : Nat, K = (n : Int) := ⟨K.toNat, by omega⟩
      have hnl : n < l.length := by have := hK.out; omega
      have hqn : q = l.length - 1 - n := by have := hK.out; omega
      have HPL := Lib.hid (show ps.length = q by have := congrArg List.length hps.out; rw [List.length_map, List.length_take, waysL_length] at this; omega)
      go_wp2_with fail
      refine (reflow_any l _ _ (HLE.out.keep hb)).mono ?_
      cases hr : (rightC l && lowC 996 l) with
      | false =>
        have HR := Lib.hid hr
        rintro ee w1 ⟨rfl, hb1⟩
        have hbb := kept_trans hb hb1
        have hq0 : q = 0 := by
          rcases Nat.eq_zero_or_pos q with h | h
          · exact h
          · have := hpos.out h; rw [hr] at this; cases this
        have hps0 : ps = [] := List.eq_nil_of_length_eq_zero (by have := HPL.out; omega)
        have hres := madeH_lies (madeH_later HMD0.out hb1)
        have HNIL := Lib.hid (show waysB l = [] by unfold waysB; rw [if_neg (by intro h; rw [h.1, h.2] at hr; cases hr)])
        rw [hps0] at hres
        clear hb1 hb hr
        go_wp2
        go_ret
        exact ⟨_, rfl, by rw [HNIL.out]; exact hres, hbb⟩
      | true =>
        have HR := Lib.hid hr
        rintro ee w1 ⟨rfl, hb1⟩
        have HB1 := Lib.hid (kept_trans hb hb1)
        have HM1 := Lib.hid (madeH_later HMD0.out hb1)
        have HRC := Lib.hid (show rightC l = true by cases h : rightC l with | true => rfl | false => rw [h] at hr; cases hr)
        clear hb1 hb hr
        obtain ⟨T1, hT1⟩ : ∃ T1, (l[l.length - 1 - n]'(by omega)).a.liftB ((n : Int) + 1) 0 = T1 := ⟨_, rfl⟩
        obtain ⟨I, hI⟩ : ∃ I, (l[l.length - 1 - n]'(by omega)).i = I := ⟨_, rfl⟩
        obtain ⟨T2, hT2⟩ : ∃ T2, T1.stripB = T2 := ⟨_, rfl⟩
        obtain ⟨U, hU⟩ : ∃ U, heSelf I T2 (.mk 2 (n : Int) 0 0 []) = U := ⟨_, rfl⟩
        have HIF := Lib.hid (show I64 I by rw [← hI]; exact (HFF.out _ (List.getElem_mem _)).2)
        have HF2 := Lib.hid (show T2.fine by rw [← hT2]; exact strip_fineW _)
        have HIN := Lib.hid (show I64 (n : Int) by unfold I64; omega)
        have HFV := Lib.hid (show (Tm.mk 2 (n : Int) 0 0 []).fine from mk_fine (by unfold I64; decide) HIN.out (by unfold I64; decide) (by unfold I64; decide))
        have HFI := Lib.hid (show U.fine by rw [← hU]; exact heSelf_fine HIF.out HF2.out HFV.out)
        have HUE := Lib.hid (show (waysL l)[q]'(by rw [waysL_length]; exact hlt) = U by subst hqn; rw [waysL_at hlt rfl hnl, ← hU, ← hT2, ← hT1, ← hI])
        have HAT := Lib.hid (show AtIs l (n : Int) T1 I true from Or.inl ⟨rfl, n, hnl, rfl, HRC.out, hT1.symm, hI.symm⟩)
        have HT2 := Lib.hid hT2
        have HU := Lib.hid hU
        have HKK := Lib.hid hK.out
        have HPS := Lib.hid hps.out
        clear hT1 hI hT2 hU hK hps hpos
        go_wp2_with fail
        refine (refctxat_any l (n : Int) _ _ T1 I true (HLE.out.keep HB1.out) HAT.out hlen HDD.out).mono ?_
        rintro ee w2 ⟨s1, rfl, hl1, hb2⟩
        obtain ⟨a1, cap1, rfl, -, -⟩ := hl1.out
        have HB2 := Lib.hid (kept_trans HB1.out hb2)
        have HM2 := Lib.hid (madeH_later HM1.out hb2)
        have HO2 := Lib.hid (fun b (h : w1.heap.size ≤ b) => madeH_block HM1.out h)
        have HL1 : Hid (LiesQ w2 (fun b => vv.ownBlock ≠ some b) T1.kids _) := hl1.q.wide (fun b hb => HO2.out b hb.1)
        clear hl1 hb2
        unfold tv
        go_wp2_with fail
        have hk3 : Kept w2 (w2.alloc (.cells #[.int .i64 T1.k, .int .i64 T1.i, .int .i64 T1.j, .int .i64 T1.n, .slice a1 T1.kids.length cap1] 25)) := kept_new _ _
        have HL1' : Hid (LiesQ (w2.alloc (.cells #[.int .i64 T1.k, .int .i64 T1.i, .int .i64 T1.j, .int .i64 T1.n, .slice a1 T1.kids.length cap1] 25)) (fun b => vv.ownBlock ≠ some b ∧ b < (w2.alloc (.cells #[.int .i64 T1.k, .int .i64 T1.i, .int .i64 T1.j, .int .i64 T1.n, .slice a1 T1.kids.length cap1] 25)).heap.size) T1.kids (.slice a1 T1.kids.length cap1)) := (HL1.out.keep (fun b _ hlt => Below.block hk3 b hlt) (fun b hb hlt => ⟨hb, Nat.lt_of_lt_of_le hlt (Below.size hk3)⟩))
        have HB3 := Lib.hid (kept_trans HB2.out hk3)
        have HM3 := Lib.hid (madeH_later HM2.out hk3)
        clear hk3
        refine (refStripS_anyV T1 _ _ _ (fun b hb => hb.2) HL1'.out).mono ?_
        rw [HT2.out]
        rintro ee w4 ⟨s2, rfl, hl2, hb4⟩
        obtain ⟨a2, cap2, S2, rfl, -⟩ := hl2.out
        have HB4 := Lib.hid (kept_trans HB3.out hb4)
        have HM4 := Lib.hid (madeH_later HM3.out hb4)
        have HL2 : Hid (LiesQ w4 (fun b => vv.ownBlock ≠ some b) T2.kids _) := hl2.wide (fun b hb => by rcases hb with hb | hb; exact hb.1; exact madeH_block HM3.out hb)
        clear hl2 hb4
        go_wp2_with fail
        refine (rv25_any (n : Int) (fun b => vv.ownBlock ≠ some b) _ HIN.out).mono ?_
        rintro ee w5 ⟨s3, rfl, hl3, hb5⟩
        obtain ⟨a3, cap3, S3, rfl, -⟩ := hl3.out
        have HB5 := Lib.hid (kept_trans HB4.out hb5)
        have HM5 := Lib.hid (madeH_later HM4.out hb5)
        have HL3 : Hid (LiesQ w5 (fun b => vv.ownBlock ≠ some b) (varT (n : Int)).kids _) := hl3.wide (fun b hb => by rcases hb with hb | hb; exact hb; exact madeH_block HM4.out hb)
        have HL4 := Lib.hid (HL2.out.later hb5)
        clear hl3 hb5
        go_wp2_with fail
        refine (rSelf_any I T2 (varT (n : Int)) (fun b => vv.ownBlock ≠ some b) _ _ _ HIF.out HF2.out HL4.out HFV.out HL3.out).mono ?_
        rw [show heSelf I T2 (varT (n : Int)) = U from HU.out]
        rintro ee w6 ⟨va, vb, vx, vy, vh, rfl, ⟨la, lb, lx, ly, lh⟩, hb6⟩
        obtain ⟨pa, qa, Sa, rfl, -⟩ := la.out
        obtain ⟨pb, qb, Sb, rfl, -⟩ := lb.out
        obtain ⟨px, qx, Sx, rfl, -⟩ := lx.out
        obtain ⟨py, qy, Sy, rfl, -⟩ := ly.out
        obtain ⟨ph, qh, Sh, rfl, -⟩ := lh.out
        have HB6 := Lib.hid (kept_trans HB5.out hb6)
        have HM6 := Lib.hid (madeH_later (madeH_later HM5.out hb6) (kept_new _ (.cells #[.int .i64 U.i, .int .i64 U.a.k, .int .i64 U.a.i, .int .i64 U.a.j, .int .i64 U.a.n, .slice pa U.a.kids.length qa, .int .i64 U.b.k, .int .i64 U.b.i, .int .i64 U.b.j, .int .i64 U.b.n, .slice pb U.b.kids.length qb, .int .i64 U.x.k, .int .i64 U.x.i, .int .i64 U.x.j, .int .i64 U.x.n, .slice px U.x.kids.length qx, .int .i64 U.y.k, .int .i64 U.y.i, .int .i64 U.y.j, .int .i64 U.y.n, .slice py U.y.kids.length qy, .int .i64 U.h.k, .int .i64 U.h.i, .int .i64 U.h.j, .int .i64 U.h.n, .slice ph U.h.kids.length qh] 35)))
        have HL6 : Hid (HQ (w6.alloc (.cells #[.int .i64 U.i, .int .i64 U.a.k, .int .i64 U.a.i, .int .i64 U.a.j, .int .i64 U.a.n, .slice pa U.a.kids.length qa, .int .i64 U.b.k, .int .i64 U.b.i, .int .i64 U.b.j, .int .i64 U.b.n, .slice pb U.b.kids.length qb, .int .i64 U.x.k, .int .i64 U.x.i, .int .i64 U.x.j, .int .i64 U.x.n, .slice px U.x.kids.length qx, .int .i64 U.y.k, .int .i64 U.y.i, .int .i64 U.y.j, .int .i64 U.y.n, .slice py U.y.kids.length qy, .int .i64 U.h.k, .int .i64 U.h.i, .int .i64 U.h.j, .int .i64 U.h.n, .slice ph U.h.kids.length qh] 35)) (fun b => vv.ownBlock ≠ some b) U _ _ _ _ _) := HQ.keep (⟨la, lb, lx, ly, lh⟩ : HQ _ _ U _ _ _ _ _) (fun b _ hlt => Below.block (kept_new _ _) b hlt) (fun b hb _ => by rcases hb with hb | hb; exact hb; exact madeH_block HM5.out hb)
        have hk6 := HB6.out
        clear la lb lx ly lh hb6
        unfold hv
        go_wp2_with (at_builtin; refine wpList_append_lies _ rfl (.tmp 26) (.tmp 33) 29 rfl w.heap.size 35 i0 _ 26 288 (by kernel_rfl) HI.out.1 HI.out.2.1 HI.out.2.2.1 HI.out.2.2.2 rfl (by decide) _ ps.length (cells26 ps) rfl HM6.out.own ⟨w6.heap.size, 0, none⟩ 1 1 (cells26 [(U, ⟨.slice pa U.a.kids.length qa, .slice pb U.b.kids.length qb, .slice px U.x.kids.length qx, .slice py U.y.kids.length qy, .slice ph U.h.kids.length qh⟩)]) rfl rfl ?news ?one (by decide) ?max ?bytes ?base _ rfl ?next)
        case news => exact newsH _ (U, ⟨.slice pa U.a.kids.length qa, .slice pb U.b.kids.length qb, .slice px U.x.kids.length qx, .slice py U.y.kids.length qy, .slice ph U.h.kids.length qh⟩) _
        case one => exact oneH (U, ⟨.slice pa U.a.kids.length qa, .slice pb U.b.kids.length qb, .slice px U.x.kids.length qx, .slice py U.y.kids.length qy, .slice ph U.h.kids.length qh⟩) rfl rfl rfl rfl rfl
        case max => have := HPL.out; unfold maxLen; omega
        case bytes => have := HPL.out; omega
        case base => have := Below.size hk6; simp; omega
        case next =>
          intro g cap9 w9 hown hgrow hat hlt9
          have hmq := madeH_step HM6.out (p := (U, ⟨.slice pa U.a.kids.length qa, .slice pb U.b.kids.length qb, .slice px U.x.kids.length qx, .slice py U.y.kids.length qy, .slice ph U.h.kids.length qh⟩)) HFI.out HL6.out hown hgrow (by simpa using hat)
          have hkE : Kept w w9 := Below.grown (Below.alloc hk6 (Below.size hk6) _) hgrow (by have := Below.size hk6; simp; omega) (madeH_above HM6.out)
          have eW2 : IntKind.i64.wrap ((n : Int) - 1) = (n : Int) - 1 := IntWalk.i64_in _ (by omega)
          clear hown hgrow hat hlt9
          go_wp2_with fail
          go_roundw
          case rel => exact ⟨q + 1, (n : Int) - 1, ps ++ [(U, ⟨.slice pa U.a.kids.length qa, .slice pb U.b.kids.length qb, .slice px U.x.kids.length qx, .slice py U.y.kids.length qy, .slice ph U.h.kids.length qh⟩)], _, rfl, hlt, by go_num, by show _ = _; have := HKK.out; push_cast; omega, fun _ => HR.out, by show _ = _; rw [List.map_append, HPS.out, List.map_cons, List.map_nil, ← HUE.out, List.take_append_getElem (by rw [waysL_length]; exact hlt)], hmq, hkE⟩
          case measure => simp [intOf]
    · have e0 : decide (0 ≤ K) = false := decide_eq_false h0
      obtain rfl : q = l.length := by have := hK.out; omega
      have hres := madeH_lies HMD0.out
      have hb0 := hb
      clear hb
      go_wp2_with fail
      go_ret
      refine ⟨_, rfl, ?_, hb0⟩
      have hps' := hps.out
      rw [List.take_of_length_le (by rw [waysL_length]; exact Nat.le_refl _)] at hps'
      rw [hps'] at hres
      unfold waysB
      by_cases hr : rightC l = true ∧ lowC 996 l = true
      · rw [if_pos hr]; exact hres
      · rw [if_neg hr]
        have h0 : l = [] := by
          rcases Nat.eq_zero_or_pos l.length with h | h
          · exact List.eq_nil_of_length_eq_zero h
          · have := hpos.out h; rw [Bool.and_eq_true] at this; exact absurd this hr
        subst h0
        exact hres
end Go.Proofs.YtgododpkbiaacaaGreat
