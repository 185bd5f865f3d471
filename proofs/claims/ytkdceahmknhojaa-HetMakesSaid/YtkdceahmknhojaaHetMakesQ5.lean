/-
  Facts and contracts that the proof of HetMakes uses.
-/
import Derived.Test.YtkdceahmknhojaaRows
import Derived.WalkKit
import Derived.Lib.Hide
import Derived.KernelRfl
import Derived.Deep.RegionWith
import Derived.Deep.RegionHeld3
import Derived.Deep.AppendLies
import Derived.Laws.Rows
import Derived.Laws.IdiomCopy
import Derived.Deep.Slices
import Derived.Lib.QuietBelow
import Derived.StillTailTactics
import Derived.BigQuiet
import Derived.IntWalk
import Derived.OwnWalk
import Derived.Deep.RegionLaw
import Derived.Deep.QuietTactic
import Derived.Deep.LoopGhost
import Derived.Deep.DeepCutAuto
import Derived.Deep.MidRow
import Derived.OrdersHeld
import Derived.Laws.Tables
import Derived.Laws.CopyOwn
import Derived.Laws.CopyRow
import Derived.Deep.RegionHeld
import Derived.ProofKit
import Derived.OpenShut
import Derived.Carry
import Derived.ChangeSlices
import Derived.JoinedOf
import Derived.Test.YtkdceahmknhojaaHetMakesQ4
namespace Go.Proofs.Ytkdceahmknhojaa
open Go.RowKit

set_option maxRecDepth 20000 in
set_option maxHeartbeats 4000000 in
theorem rPoints_any (i : Int) (P : Nat → Prop) (w : World) (hri : I64 i) : Calls Try.prog 31 #[.int .i64 i] w (GivesP P (pointsB i) w) := by
  have Ri := Lib.hid hri
  clear hri
  obtain ⟨du, hu1, hu2⟩ := under_term
  go_enter Try.func31, Try.ntmps31
  go_upto_region 1 with fail
  refine at_code (fun V0 hV0 => ?_)
  obtain ⟨k2, x1, z3⟩ := alloc1 hV0
  have Kk4 := Lib.hid k2
  clear k2
  have Hx1 := Lib.hid x1
  have Z0 := Lib.hid z3
  clear z3 x1 hV0
  have kvV0 : Sees V0 (w.heap.size) V0 := sees_kept _ (kept_refl _)
  go_wp2_with fail
  clear kvV0
  refine (rlevel_any i 2 _ Ri.out (show I64 2 from by unfold I64; decide) (by decide) (by decide)).mono ?_
  obtain ⟨rb8, hb7⟩ : ∃ qb, levN 2 i = qb := ⟨_, rfl⟩
  rw [hb7]
  have Hhb7 := Lib.hid hb7
  clear hb7
  rintro e w5 ⟨rfl, k6⟩
  have Kk9 := Lib.hid k6
  clear k6
  cases rb8 with
  | false =>
    have kvV0 : Sees V0 (w.heap.size) w5 := sees_kept _ Kk9.out
    go_wp2_with (refine stop_store 32 (.tmp 2) (.tmp 6) rfl ?_)
    intro _
    refine wpList_store_part_n (by rfl) 32 (.tmp 2) (.tmp 6) rfl (w.heap.size) 0 #[.int .i64 0, .int .i64 0, .int .i64 0, .int .i64 0, .slice none 0 0] (by rfl) (by rfl) 32 size_term (row_ok rfl) ?_
    intro W10 hW10
    clear kvV0
    subst hW10
    refine ⟨_, #[.int .i64 0, .int .i64 0, .int .i64 0, .int .i64 0, .slice none 0 0], (blk_at Hx1.out Kk9.out), rfl, Nat.le_of_ble_eq_true rfl, ?_⟩
    intro W11 hW11
    go_wp2_with fail
    refine bodyPost_ret (results_cell_row rfl _ _ (w.heap.size) 32 _ _ du rfl (blk_same (blk_at Hx1.out Kk9.out) hW11) hu1 (by cases du <;> first | rfl | exact hu2) size_term) rfl ?_
    rw [show pointsB i = (Tm.mk 0 0 0 0 []) from by unfold pointsB heR2; rw [Hhb7.out]; (try rfl)]
    exact ⟨_, rfl, par_end (par_row' (liesQ_nil w5 (Par w V0.heap.size [] P)) hW11 (by omega) (by have := Z0.out; omega)) (by have := Z0.out; omega), kept_set (kept_trans Kk4.out Kk9.out) hW11 (by omega)⟩
  | true =>
    have ew12 : IntKind.i64.wrap (i + 1) = i + 1 := IntWalk.i64_in _ (by have := levN_true ( Hhb7.out); omega)
    have kvV0 : Sees V0 (w.heap.size) w5 := sees_kept _ Kk9.out
    go_wp2_with fail
    clear kvV0
    refine (rsort_any i (Par w V0.heap.size [] P) _ Ri.out).mono ?_
    obtain ⟨U20, hU20⟩ : ∃ qu, sortT i = qu := ⟨_, rfl⟩
    rw [hU20]
    have HU20 := Lib.hid hU20
    clear hU20
    rintro e w13 ⟨s15, rfl, hl16, k14⟩
    obtain ⟨a17, c18, S19, rfl, -⟩ := hl16.out
    have Kk21 := Lib.hid k14
    clear k14
    have Hhl16 : Hid (LiesQ w13 (Par w V0.heap.size [] P) U20.kids _) := par_give hl16 (Below.size Kk9.out) (xlt_nil _)
    clear hl16
    have kvV0 : Sees V0 (w.heap.size) w13 := sees_kept _ (kept_trans Kk9.out Kk21.out)
    go_wp2_with fail
    clear kvV0
    refine (rv_any 0 (Par w V0.heap.size [] P) _ (show I64 0 from by unfold I64; decide)).mono ?_
    obtain ⟨U29, hU29⟩ : ∃ qu, varT 0 = qu := ⟨_, rfl⟩
    rw [hU29]
    have HU29 := Lib.hid hU29
    clear hU29
    rintro e w22 ⟨s24, rfl, hl25, k23⟩
    obtain ⟨a26, c27, S28, rfl, -⟩ := hl25.out
    have Kk30 := Lib.hid k23
    clear k23
    have Hhl25 : Hid (LiesQ w22 (Par w V0.heap.size [] P) U29.kids _) := par_give hl25 (Below.size (kept_trans Kk9.out Kk21.out)) (xlt_nil _)
    clear hl25
    have kvV0 : Sees V0 (w.heap.size) w22 := sees_kept _ (kept_trans Kk9.out (kept_trans Kk21.out Kk30.out))
    go_wp2_with fail
    refine at_world (fun W32 hW32 => ?_)
    clear kvV0
    obtain ⟨k34, x33, z35⟩ := alloc1 hW32
    have Kk36 := Lib.hid k34
    clear k34
    have Hx33 := Lib.hid x33
    have Hz35 := Lib.hid z35
    clear x33 z35 hW32
    have HR37 : Hid (LiesQ W32 (Par w V0.heap.size [] P) [U20, U29] (.slice (some ⟨w22.heap.size, 0, none⟩) 2 2)) := q_row [(U20, (.slice a17 U20.kids.length c18)), (U29, (.slice a26 U29.kids.length c27))] _ rfl Hx33.out (par_new (Below.size (kept_trans Kk9.out (kept_trans Kk21.out Kk30.out))) (xlt_nil _) (Nat.le_refl _)) (fun p hp => by
      simp only [List.mem_cons, List.not_mem_nil, or_false] at hp
      rcases hp with rfl | rfl
      · exact ⟨(by rw [← HU20.out]; exact (sort_fine Ri.out)), (Hhl16.out.later (kept_trans Kk30.out Kk36.out))⟩
      · exact ⟨(by rw [← HU29.out]; exact (var_fine (show I64 0 from by unfold I64; decide))), (Hhl25.out.later Kk36.out)⟩) (Nat.le_of_ble_eq_true rfl)
    refine (rnode_any 16 [U20, U29] (Par w V0.heap.size [] P) _ _ (show I64 16 from by unfold I64; decide) HR37.out (Nat.le_of_ble_eq_true rfl)).mono ?_
    obtain ⟨U45, hU45⟩ : ∃ qu, nodeT 16 [U20, U29] = qu := ⟨_, rfl⟩
    rw [hU45]
    have HU45 := Lib.hid hU45
    clear hU45
    rintro e w38 ⟨s40, rfl, hl41, k39⟩
    obtain ⟨a42, c43, S44, rfl, -⟩ := hl41.out
    have Kk46 := Lib.hid k39
    clear k39
    have Hhl41 : Hid (LiesQ w38 (Par w V0.heap.size [] P) U45.kids _) := par_give hl41 (Below.size (kept_trans Kk9.out (kept_trans Kk21.out (kept_trans Kk30.out Kk36.out)))) (xlt_nil _)
    clear hl41
    have kvV0 : Sees V0 (w.heap.size) w38 := sees_kept _ (kept_trans Kk9.out (kept_trans Kk21.out (kept_trans Kk30.out (kept_trans Kk36.out Kk46.out))))
    go_wp2_with (refine stop_store 32 (.tmp 2) (.tmp 11) rfl ?_)
    intro _
    refine wpList_store_part_n (by rfl) 32 (.tmp 2) (.tmp 11) rfl (w.heap.size) 0 #[.int .i64 U45.k, .int .i64 U45.i, .int .i64 U45.j, .int .i64 U45.n, (.slice a42 U45.kids.length c43)] (by rfl) (by rfl) 32 size_term (row_ok rfl) ?_
    intro W47 hW47
    clear kvV0
    subst hW47
    refine ⟨_, #[.int .i64 U45.k, .int .i64 U45.i, .int .i64 U45.j, .int .i64 U45.n, (.slice a42 U45.kids.length c43)], (blk_at Hx1.out (kept_trans Kk9.out (kept_trans Kk21.out (kept_trans Kk30.out (kept_trans Kk36.out Kk46.out))))), rfl, Nat.le_of_ble_eq_true rfl, ?_⟩
    intro W48 hW48
    go_wp2_with fail
    refine bodyPost_ret (results_cell_row rfl _ _ (w.heap.size) 32 _ _ du rfl (blk_same (blk_at Hx1.out (kept_trans Kk9.out (kept_trans Kk21.out (kept_trans Kk30.out (kept_trans Kk36.out Kk46.out))))) hW48) hu1 (by cases du <;> first | rfl | exact hu2) size_term) rfl ?_
    rw [show pointsB i = U45 from by unfold pointsB heR2; rw [Hhb7.out]; rw [← HU45.out]; rw [← HU29.out]; rw [← HU20.out]; (try rfl)]
    exact ⟨_, rfl, par_end (par_row' Hhl41.out hW48 (by omega) (by have := Z0.out; omega)) (by have := Z0.out; omega), kept_set (kept_trans Kk4.out (kept_trans Kk9.out (kept_trans Kk21.out (kept_trans Kk30.out (kept_trans Kk36.out Kk46.out))))) hW48 (by omega)⟩

def rPointr3_0 : Oper := { dst := some 18, op := Go.Op.move (Go.Operand.tmp 0), type := 3, pos := "ref.go:64", after := #[], guard := none }
def rPointr3_1 : Oper := { dst := some 19, op := Go.Op.call { callee := Go.Callee.value (Go.Operand.func 104), args := #[Go.Operand.tmp 18], argTypes := #[3] }, type := 32, pos := "ref.go:64", after := #[{ on := 0, ground := Go.Ground.data }], guard := none }
def rPointr3_2 : Oper := { dst := some 20, op := Go.Op.call { callee := Go.Callee.value (Go.Operand.func 105), args := #[Go.Operand.const (Go.Value.int Go.IntKind.i64 0)], argTypes := #[3] }, type := 32, pos := "ref.go:64", after := #[{ on := 1, ground := Go.Ground.chain }], guard := none }
def rPointr3_3 : Oper := { dst := some 21, op := Go.Op.load 32 (Go.Operand.tmp 4), type := 32, pos := "ref.go:64", after := #[], guard := none }
def rPointr3_4 : Oper := { dst := some 22, op := Go.Op.load 32 (Go.Operand.tmp 5), type := 32, pos := "ref.go:64", after := #[], guard := none }
def rPointr3_5 : Oper := { dst := some 23, op := Go.Op.buildSlice 30 4 #[(0, Go.Operand.tmp 19), (1, Go.Operand.tmp 20), (2, Go.Operand.tmp 21), (3, Go.Operand.tmp 22)], type := 30, pos := "ref.go:64", after := #[{ on := 1, ground := Go.Ground.data }, { on := 2, ground := Go.Ground.data }, { on := 3, ground := Go.Ground.data }, { on := 4, ground := Go.Ground.data }], guard := none }
def rPointr3_6 : Oper := { dst := some 24, op := Go.Op.call { callee := Go.Callee.value (Go.Operand.func 103), args := #[Go.Operand.const (Go.Value.int Go.IntKind.i64 17), Go.Operand.tmp 23], argTypes := #[3, 30] }, type := 32, pos := "ref.go:64", after := #[{ on := 5, ground := Go.Ground.data }, { on := 2, ground := Go.Ground.chain }], guard := none }
def rPointr3_7 : Oper := { dst := none, op := Go.Op.store 32 (Go.Operand.tmp 6) (Go.Operand.tmp 24), type := 0, pos := "ref.go:64", after := #[{ on := 6, ground := Go.Ground.data }, { on := 6, ground := Go.Ground.chain }, { on := 0, ground := Go.Ground.phase }, { on := 1, ground := Go.Ground.phase }, { on := 2, ground := Go.Ground.phase }, { on := 3, ground := Go.Ground.phase }, { on := 4, ground := Go.Ground.phase }, { on := 5, ground := Go.Ground.phase }, { on := 6, ground := Go.Ground.phase }], guard := none }
set_option maxRecDepth 20000 in
set_option maxHeartbeats 4000000 in
theorem rPoint_any (i : Int) (a : Tm) (x : Tm) (P : Nat → Prop) (w : World) (sa : Value) (sx : Value) (hri : I64 i) (hfa : a.fine) (hla : LiesQ w P a.kids sa) (hfx : x.fine) (hlx : LiesQ w P x.kids sx) : Calls Try.prog 29 #[.int .i64 i, tv a sa, tv x sx] w (GivesP P (pointB i a x) w) := by
  have Ri := Lib.hid hri
  clear hri
  have Ga := Lib.hid hfa
  clear hfa
  obtain ⟨aa, ca, Sa, rfl, -⟩ := hla.out
  have Gx := Lib.hid hfx
  clear hfx
  obtain ⟨ax, cx, Sx, rfl, -⟩ := hlx.out
  obtain ⟨du, hu1, hu2⟩ := under_term
  unfold tv
  go_enter Try.func29, Try.ntmps29
  go_upto_region 1 with fail
  refine at_code (fun V0 hV0 => ?_)
  obtain ⟨k4, x1, x2, x3, z5⟩ := alloc3 hV0
  have Kk6 := Lib.hid k4
  clear k4
  have Hx1 := Lib.hid x1
  have Hx2 := Lib.hid x2
  have Hx3 := Lib.hid x3
  have Z0 := Lib.hid z5
  clear z5 x1 x2 x3 hV0
  have HLa : Hid (LiesQ V0 (Par w V0.heap.size [] P) a.kids _) := (par_in _ _ hla).later Kk6.out
  clear hla
  have HLx : Hid (LiesQ V0 (Par w V0.heap.size [] P) x.kids _) := (par_in _ _ hlx).later Kk6.out
  clear hlx
  have kvV0 : Sees V0 (w.heap.size + 2) V0 := sees_kept _ (kept_refl _)
  go_wp2_with fail
  clear kvV0
  refine (rlevel_any i 2 _ Ri.out (show I64 2 from by unfold I64; decide) (by decide) (by decide)).mono ?_
  obtain ⟨rb10, hb9⟩ : ∃ qb, levN 2 i = qb := ⟨_, rfl⟩
  rw [hb9]
  have Hhb9 := Lib.hid hb9
  clear hb9
  rintro e w7 ⟨rfl, k8⟩
  have Kk11 := Lib.hid k8
  clear k8
  cases rb10 with
  | false =>
    have kvV0 : Sees V0 (w.heap.size + 2) w7 := sees_kept _ Kk11.out
    go_wp2_with (refine stop_store 32 (.tmp 6) (.tmp 17) rfl ?_)
    intro _
    refine wpList_store_part_n (by rfl) 32 (.tmp 6) (.tmp 17) rfl (w.heap.size + 2) 0 #[.int .i64 0, .int .i64 0, .int .i64 0, .int .i64 0, .slice none 0 0] (by rfl) (by rfl) 32 size_term (row_ok rfl) ?_
    intro W12 hW12
    clear kvV0
    subst hW12
    refine ⟨_, #[.int .i64 0, .int .i64 0, .int .i64 0, .int .i64 0, .slice none 0 0], (blk_at Hx3.out Kk11.out), rfl, Nat.le_of_ble_eq_true rfl, ?_⟩
    intro W13 hW13
    go_wp2_with fail
    refine bodyPost_ret (results_cell_row rfl _ _ (w.heap.size + 2) 32 _ _ du rfl (blk_same (blk_at Hx3.out Kk11.out) hW13) hu1 (by cases du <;> first | rfl | exact hu2) size_term) rfl ?_
    rw [show pointB i a x = (Tm.mk 0 0 0 0 []) from by unfold pointB heR2; rw [Hhb9.out]; (try rfl)]
    exact ⟨_, rfl, par_end (par_row' (liesQ_nil w7 (Par w V0.heap.size [] P)) hW13 (by omega) (by have := Z0.out; omega)) (by have := Z0.out; omega), kept_set (kept_trans Kk6.out Kk11.out) hW13 (by omega)⟩
  | true =>
    have ew14 : IntKind.i64.wrap (i + 1) = i + 1 := IntWalk.i64_in _ (by have := levN_true ( Hhb9.out); omega)
    have kvV0 : Sees V0 (w.heap.size + 2) w7 := sees_kept _ Kk11.out
    go_wp2_with (refine stop_load 32 (.tmp 4) rfl ?_)
    intro _
    refine wpList_load_part (w.heap.size) 0 32 (.tmp 4) #[.int .i64 a.k, .int .i64 a.i, .int .i64 a.j, .int .i64 a.n, (.slice aa a.kids.length ca)] du (blk_at Hx1.out Kk11.out) (by rfl) rfl (by rfl) (by rfl) hu1 (by cases du <;> first | rfl | exact hu2) size_term ?_
    go_wp2_with (refine stop_load 32 (.tmp 5) rfl ?_)
    intro _
    refine wpList_load_part (w.heap.size + 1) 0 32 (.tmp 5) #[.int .i64 x.k, .int .i64 x.i, .int .i64 x.j, .int .i64 x.n, (.slice ax x.kids.length cx)] du (blk_at Hx2.out Kk11.out) (by rfl) rfl (by rfl) (by rfl) hu1 (by cases du <;> first | rfl | exact hu2) size_term ?_
    go_wp2_with fail
    refine at_world (fun W16 hW16 => ?_)
    clear kvV0
    obtain ⟨k18, x17, z19⟩ := alloc1 hW16
    have Kk20 := Lib.hid k18
    clear k18
    have Hx17 := Lib.hid x17
    have Hz19 := Lib.hid z19
    clear x17 z19 hW16
    have HR21 : Hid (LiesQ W16 (Par w V0.heap.size [] P) [a, x] (.slice (some ⟨w7.heap.size, 0, none⟩) 2 2)) := q_row [(a, (.slice aa a.kids.length ca)), (x, (.slice ax x.kids.length cx))] _ rfl Hx17.out (par_new (Below.size Kk11.out) (xlt_nil _) (Nat.le_refl _)) (fun p hp => by
      simp only [List.mem_cons, List.not_mem_nil, or_false] at hp
      rcases hp with rfl | rfl
      · exact ⟨Ga.out, (HLa.out.later (kept_trans Kk11.out Kk20.out))⟩
      · exact ⟨Gx.out, (HLx.out.later (kept_trans Kk11.out Kk20.out))⟩) (Nat.le_of_ble_eq_true rfl)
    refine (rplain_any [a, x] _ _ HR21.out.lies).mono ?_
    obtain ⟨rb25, hb24⟩ : ∃ qb, plainL [a, x] = qb := ⟨_, rfl⟩
    rw [hb24]
    have Hhb24 := Lib.hid hb24
    clear hb24
    rintro e w22 ⟨rfl, k23⟩
    have Kk26 := Lib.hid k23
    clear k23
    cases rb25 with
    | false =>
      have kvV0 : Sees V0 (w.heap.size + 2) w22 := sees_kept _ (kept_trans Kk11.out (kept_trans Kk20.out Kk26.out))
      go_wp2_with (refine stop_store 32 (.tmp 6) (.tmp 17) rfl ?_)
      intro _
      refine wpList_store_part_n (by rfl) 32 (.tmp 6) (.tmp 17) rfl (w.heap.size + 2) 0 #[.int .i64 0, .int .i64 0, .int .i64 0, .int .i64 0, .slice none 0 0] (by rfl) (by rfl) 32 size_term (row_ok rfl) ?_
      intro W27 hW27
      clear kvV0
      subst hW27
      refine ⟨_, #[.int .i64 0, .int .i64 0, .int .i64 0, .int .i64 0, .slice none 0 0], (blk_at Hx3.out (kept_trans Kk11.out (kept_trans Kk20.out Kk26.out))), rfl, Nat.le_of_ble_eq_true rfl, ?_⟩
      intro W28 hW28
      go_wp2_with fail
      refine bodyPost_ret (results_cell_row rfl _ _ (w.heap.size + 2) 32 _ _ du rfl (blk_same (blk_at Hx3.out (kept_trans Kk11.out (kept_trans Kk20.out Kk26.out))) hW28) hu1 (by cases du <;> first | rfl | exact hu2) size_term) rfl ?_
      rw [show pointB i a x = (Tm.mk 0 0 0 0 []) from by unfold pointB heR2; rw [Hhb9.out, Hhb24.out]; (try rfl)]
      exact ⟨_, rfl, par_end (par_row' (liesQ_nil w22 (Par w V0.heap.size [] P)) hW28 (by omega) (by have := Z0.out; omega)) (by have := Z0.out; omega), kept_set (kept_trans Kk6.out (kept_trans Kk11.out (kept_trans Kk20.out Kk26.out))) hW28 (by omega)⟩
    | true =>
      have kvV0 : Sees V0 (w.heap.size + 2) w22 := sees_kept _ (kept_trans Kk11.out (kept_trans Kk20.out Kk26.out))
      go_wp2_with fail
      clear kvV0
      obtain ⟨W29, h30⟩ : ∃ x, World.drew w22 = x := ⟨_, rfl⟩
      have k31 : Kept w22 W29 := by rw [← h30]; exact kept_drew (kept_refl _)
      have Kk32 := Lib.hid k31
      clear k31
      refine wp_region_held_drew (S := Sees W29 (w.heap.size + 2)) (by kernel_rfl) ?_ (fun hHeld => ?_)
      · (try dsimp only)
        rw [h30]
        exact sees_kept _ (kept_refl _)
      rw [h30] at hHeld ⊢
      clear h30
      refine take_at 0 18 rPointr3_0 (v := ?_) (Or.inl ⟨by rfl, ?_⟩) ?_
      rotate_left 1
      · ((intro w hSw; (try dsimp only at hSw); unfold rPointr3_0; go_simp) <;> with_reducible rfl)
      (try simp only [Act.put, List.setIfInBounds_toArray, List.set_cons_zero, List.set_cons_succ])
      refine take_at 3 21 rPointr3_3 (yields_part (w.heap.size) 0 32 (.tmp 4) #[.int .i64 a.k, .int .i64 a.i, .int .i64 a.j, .int .i64 a.n, (.slice aa a.kids.length ca)] du (fun _ h => sees_blk Hx1.out (by have := Z0.out; omega) (sees_of (kept_trans Kk11.out (kept_trans Kk20.out (kept_trans Kk26.out Kk32.out))) h)) (by rfl) rfl (by rfl) (by rfl) hu1 (by cases du <;> first | rfl | exact hu2) size_term) ?_
      (try simp only [Act.put, List.setIfInBounds_toArray, List.set_cons_zero, List.set_cons_succ])
      refine take_at 4 22 rPointr3_4 (yields_part (w.heap.size + 1) 0 32 (.tmp 5) #[.int .i64 x.k, .int .i64 x.i, .int .i64 x.j, .int .i64 x.n, (.slice ax x.kids.length cx)] du (fun _ h => sees_blk Hx2.out (by have := Z0.out; omega) (sees_of (kept_trans Kk11.out (kept_trans Kk20.out (kept_trans Kk26.out Kk32.out))) h)) (by rfl) rfl (by rfl) (by rfl) hu1 (by cases du <;> first | rfl | exact hu2) size_term) ?_
      (try simp only [Act.put, List.setIfInBounds_toArray, List.set_cons_zero, List.set_cons_succ])
      refine wpAnyH_ready (rs := [1]) (by kernel_rfl) (by simp) ?_
      refine AllReadyH.cons (o := rPointr3_1) rfl (fun K hK => ?_) ?_
      · unfold rPointr3_1
        go_simp
        refine (rsort_any i (Par w V0.heap.size [] P) _ Ri.out).mono ?_
        obtain ⟨U40, hU40⟩ : ∃ qu, sortT i = qu := ⟨_, rfl⟩
        rw [hU40]
        have HU40 := Lib.hid hU40
        clear hU40
        rintro e w33 ⟨s35, rfl, hl36, k34⟩
        obtain ⟨a37, c38, S39, rfl, -⟩ := hl36.out
        have Kk41 := Lib.hid k34
        clear k34
        have Hhl36 : Hid (LiesQ w33 (Par w V0.heap.size [] P) U40.kids _) := par_give hl36 (Below.size (kept_trans Kk11.out (kept_trans Kk20.out (kept_trans Kk26.out Kk32.out)))) (xlt_nil _)
        clear hl36
        clear hHeld
        refine hK.out _ _ ?_ (fun hHeld => ?_)
        · (try dsimp only)
          exact sees_kept _ Kk41.out
        clear hK K
        (try simp only [Act.put, List.setIfInBounds_toArray, List.set_cons_zero, List.set_cons_succ])
        refine wpAnyH_ready (rs := [2]) (by kernel_rfl) (by simp) ?_
        refine AllReadyH.cons (o := rPointr3_2) rfl (fun K hK => ?_) ?_
        · unfold rPointr3_2
          go_simp
          refine (rv_any 0 (Par w V0.heap.size [] P) _ (show I64 0 from by unfold I64; decide)).mono ?_
          obtain ⟨U49, hU49⟩ : ∃ qu, varT 0 = qu := ⟨_, rfl⟩
          rw [hU49]
          have HU49 := Lib.hid hU49
          clear hU49
          rintro e w42 ⟨s44, rfl, hl45, k43⟩
          obtain ⟨a46, c47, S48, rfl, -⟩ := hl45.out
          have Kk50 := Lib.hid k43
          clear k43
          have Hhl45 : Hid (LiesQ w42 (Par w V0.heap.size [] P) U49.kids _) := par_give hl45 (Below.size (kept_trans Kk11.out (kept_trans Kk20.out (kept_trans Kk26.out (kept_trans Kk32.out Kk41.out))))) (xlt_nil _)
          clear hl45
          clear hHeld
          refine hK.out _ _ ?_ (fun hHeld => ?_)
          · (try dsimp only)
            exact sees_kept _ (kept_trans Kk41.out Kk50.out)
          clear hK K
          (try simp only [Act.put, List.setIfInBounds_toArray, List.set_cons_zero, List.set_cons_succ])
          refine wpAnyH_ready (rs := [5]) (by kernel_rfl) (by simp) ?_
          refine AllReadyH.cons (o := rPointr3_5) rfl (fun K hK => ?_) ?_
          · unfold rPointr3_5
            go_simp
            refine at_K (fun W52 hW52 => ?_)
            obtain ⟨k54, x53, z55⟩ := alloc1 hW52
            have Kk56 := Lib.hid k54
            clear k54
            have Hx53 := Lib.hid x53
            have Hz55 := Lib.hid z55
            clear x53 z55 hW52
            have HR57 : Hid (LiesQ W52 (Par w V0.heap.size [] P) [U40, U49, a, x] (.slice (some ⟨w42.heap.size, 0, none⟩) 4 4)) := q_row [(U40, (.slice a37 U40.kids.length c38)), (U49, (.slice a46 U49.kids.length c47)), (a, (.slice aa a.kids.length ca)), (x, (.slice ax x.kids.length cx))] _ rfl Hx53.out (par_new (Below.size (kept_trans Kk11.out (kept_trans Kk20.out (kept_trans Kk26.out (kept_trans Kk32.out (kept_trans Kk41.out Kk50.out)))))) (xlt_nil _) (Nat.le_refl _)) (fun p hp => by
              simp only [List.mem_cons, List.not_mem_nil, or_false] at hp
              rcases hp with rfl | rfl | rfl | rfl
              · exact ⟨(by rw [← HU40.out]; exact (sort_fine Ri.out)), (Hhl36.out.later (kept_trans Kk50.out Kk56.out))⟩
              · exact ⟨(by rw [← HU49.out]; exact (var_fine (show I64 0 from by unfold I64; decide))), (Hhl45.out.later Kk56.out)⟩
              · exact ⟨Ga.out, (HLa.out.later (kept_trans Kk11.out (kept_trans Kk20.out (kept_trans Kk26.out (kept_trans Kk32.out (kept_trans Kk41.out (kept_trans Kk50.out Kk56.out)))))))⟩
              · exact ⟨Gx.out, (HLx.out.later (kept_trans Kk11.out (kept_trans Kk20.out (kept_trans Kk26.out (kept_trans Kk32.out (kept_trans Kk41.out (kept_trans Kk50.out Kk56.out)))))))⟩) (Nat.le_of_ble_eq_true rfl)
            clear hHeld
            refine hK.out _ _ ?_ (fun hHeld => ?_)
            · (try dsimp only)
              exact sees_kept _ (kept_trans Kk41.out (kept_trans Kk50.out Kk56.out))
            clear hK K
            (try simp only [Act.put, List.setIfInBounds_toArray, List.set_cons_zero, List.set_cons_succ])
            refine wpAnyH_ready (rs := [6]) (by kernel_rfl) (by simp) ?_
            refine AllReadyH.cons (o := rPointr3_6) rfl (fun K hK => ?_) ?_
            · unfold rPointr3_6
              go_simp
              refine (rnode_any 17 [U40, U49, a, x] (Par w V0.heap.size [] P) _ _ (show I64 17 from by unfold I64; decide) HR57.out (Nat.le_of_ble_eq_true rfl)).mono ?_
              obtain ⟨U65, hU65⟩ : ∃ qu, nodeT 17 [U40, U49, a, x] = qu := ⟨_, rfl⟩
              rw [hU65]
              have HU65 := Lib.hid hU65
              clear hU65
              rintro e w58 ⟨s60, rfl, hl61, k59⟩
              obtain ⟨a62, c63, S64, rfl, -⟩ := hl61.out
              have Kk66 := Lib.hid k59
              clear k59
              have Hhl61 : Hid (LiesQ w58 (Par w V0.heap.size [] P) U65.kids _) := par_give hl61 (Below.size (kept_trans Kk11.out (kept_trans Kk20.out (kept_trans Kk26.out (kept_trans Kk32.out (kept_trans Kk41.out (kept_trans Kk50.out Kk56.out))))))) (xlt_nil _)
              clear hl61
              clear hHeld
              refine hK.out _ _ ?_ (fun hHeld => ?_)
              · (try dsimp only)
                exact sees_kept _ (kept_trans Kk41.out (kept_trans Kk50.out (kept_trans Kk56.out Kk66.out)))
              clear hK K
              (try simp only [Act.put, List.setIfInBounds_toArray, List.set_cons_zero, List.set_cons_succ])
              refine wpAnyH_ready (rs := [7]) (by kernel_rfl) (by simp) ?_
              refine AllReadyH.cons (o := rPointr3_7) rfl (fun K hK => ?_) ?_
              · unfold rPointr3_7
                refine step_store_part rfl 32 (.tmp 6) (.tmp 24) rfl (w.heap.size + 2) 0 #[.int .i64 U65.k, .int .i64 U65.i, .int .i64 U65.j, .int .i64 U65.n, (.slice a62 U65.kids.length c63)] rfl rfl 32 size_term (row_ok rfl) _ #[.int .i64 U65.k, .int .i64 U65.i, .int .i64 U65.j, .int .i64 U65.n, (.slice a62 U65.kids.length c63)] (blk_at Hx3.out (kept_trans Kk11.out (kept_trans Kk20.out (kept_trans Kk26.out (kept_trans Kk32.out (kept_trans Kk41.out (kept_trans Kk50.out (kept_trans Kk56.out Kk66.out)))))))) rfl (Nat.le_of_ble_eq_true rfl) ?_
                intro W67 hW67
                clear hHeld
                refine hK.out _ _ ?_ (fun hHeld => ?_)
                · (try dsimp only)
                  exact sees_set (kept_trans Kk41.out (kept_trans Kk50.out (kept_trans Kk56.out Kk66.out))) hW67
                clear hK K
                (try simp only [Act.put])
                refine wpAnyH_done (by kernel_rfl) ?_ _
                clear hHeld
                go_wp2_with fail
                refine bodyPost_ret (results_cell_row rfl _ _ (w.heap.size + 2) 32 _ _ du rfl (blk_same (blk_at Hx3.out (kept_trans Kk11.out (kept_trans Kk20.out (kept_trans Kk26.out (kept_trans Kk32.out (kept_trans Kk41.out (kept_trans Kk50.out (kept_trans Kk56.out Kk66.out)))))))) hW67) hu1 (by cases du <;> first | rfl | exact hu2) size_term) rfl ?_
                rw [show pointB i a x = U65 from by unfold pointB heR2; rw [Hhb9.out, Hhb24.out]; rw [← HU65.out]; rw [← HU49.out]; rw [← HU40.out]; (try rfl)]
                exact ⟨_, rfl, par_end (par_row' Hhl61.out hW67 (by omega) (by have := Z0.out; omega)) (by have := Z0.out; omega), kept_set (kept_trans Kk6.out (kept_trans Kk11.out (kept_trans Kk20.out (kept_trans Kk26.out (kept_trans Kk32.out (kept_trans Kk41.out (kept_trans Kk50.out (kept_trans Kk56.out Kk66.out)))))))) hW67 (by omega)⟩
              exact AllReadyH.nil
            exact AllReadyH.nil
          exact AllReadyH.nil
        exact AllReadyH.nil
      exact AllReadyH.nil

set_option maxRecDepth 20000 in
set_option maxHeartbeats 4000000 in
theorem rEq_any (h : He) (P : Nat → Prop) (w : World) (sha : Value) (shb : Value) (shx : Value) (shy : Value) (shh : Value) (hfh : h.fine) (hlh : HQ w P h sha shb shx shy shh) : Calls Try.prog 40 #[hv h sha shb shx shy shh] w (GivesP P (heEq h) w) := by
  have Gh := Lib.hid hfh
  clear hfh
  obtain ⟨hlha, hlhb, hlhx, hlhy, hlhh⟩ := hlh
  obtain ⟨aha, cha, Sha, rfl, -⟩ := hlha.out
  obtain ⟨ahb, chb, Shb, rfl, -⟩ := hlhb.out
  obtain ⟨ahx, chx, Shx, rfl, -⟩ := hlhx.out
  obtain ⟨ahy, chy, Shy, rfl, -⟩ := hlhy.out
  obtain ⟨ahh, chh, Shh, rfl, -⟩ := hlhh.out
  obtain ⟨du, hu1, hu2⟩ := under_term
  obtain ⟨dr, dr1, dr2⟩ := under_of 45 (by kernel_rfl)
  unfold hv
  go_enter Try.func40, Try.ntmps40
  go_upto_region 1 with fail
  refine at_code (fun V0 hV0 => ?_)
  obtain ⟨k3, x1, x2, z4⟩ := alloc2 hV0
  have Kk5 := Lib.hid k3
  clear k3
  have Hx1 := Lib.hid x1
  have Hx2 := Lib.hid x2
  have Z0 := Lib.hid z4
  clear z4 x1 x2 hV0
  have HLha : Hid (LiesQ V0 (Par w V0.heap.size [] P) h.a.kids _) := (par_in _ _ hlha).later Kk5.out
  clear hlha
  have HLhb : Hid (LiesQ V0 (Par w V0.heap.size [] P) h.b.kids _) := (par_in _ _ hlhb).later Kk5.out
  clear hlhb
  have HLhx : Hid (LiesQ V0 (Par w V0.heap.size [] P) h.x.kids _) := (par_in _ _ hlhx).later Kk5.out
  clear hlhx
  have HLhy : Hid (LiesQ V0 (Par w V0.heap.size [] P) h.y.kids _) := (par_in _ _ hlhy).later Kk5.out
  clear hlhy
  have HLhh : Hid (LiesQ V0 (Par w V0.heap.size [] P) h.h.kids _) := (par_in _ _ hlhh).later Kk5.out
  clear hlhh
  have ld6 := part_cell (r := (w.heap.size + 1)) Hx1.out (by have := Z0.out; omega) 0 (.int .i64 h.i) rfl
  have kvV0 : Sees V0 (w.heap.size + 1) V0 := sees_kept _ (kept_refl _)
  go_wp2_with (refine stop_load 45 (.tmp 1) rfl ?_)
  intro _
  refine wpList_load_part (w.heap.size) 0 45 (.tmp 1) #[.int .i64 h.i, .int .i64 h.a.k, .int .i64 h.a.i, .int .i64 h.a.j, .int .i64 h.a.n, (.slice aha h.a.kids.length cha), .int .i64 h.b.k, .int .i64 h.b.i, .int .i64 h.b.j, .int .i64 h.b.n, (.slice ahb h.b.kids.length chb), .int .i64 h.x.k, .int .i64 h.x.i, .int .i64 h.x.j, .int .i64 h.x.n, (.slice ahx h.x.kids.length chx), .int .i64 h.y.k, .int .i64 h.y.i, .int .i64 h.y.j, .int .i64 h.y.n, (.slice ahy h.y.kids.length chy), .int .i64 h.h.k, .int .i64 h.h.i, .int .i64 h.h.j, .int .i64 h.h.n, (.slice ahh h.h.kids.length chh)] dr Hx1.out (by rfl) rfl (by rfl) (by rfl) dr1 (by cases dr <;> first | rfl | exact dr2) (by kernel_rfl) ?_
  go_wp2_with fail
  clear kvV0
  refine (rRight_any h (Par w V0.heap.size [] P) _ (.slice aha h.a.kids.length cha) (.slice ahb h.b.kids.length chb) (.slice ahx h.x.kids.length chx) (.slice ahy h.y.kids.length chy) (.slice ahh h.h.kids.length chh) ⟨Gh.out.1, Gh.out.2.1, Gh.out.2.2.1, Gh.out.2.2.2.1, Gh.out.2.2.2.2.1, Gh.out.2.2.2.2.2⟩ ⟨HLha.out, HLhb.out, HLhx.out, HLhy.out, HLhh.out⟩).mono ?_
  obtain ⟨rb10, hb9⟩ : ∃ qb, heR h = qb := ⟨_, rfl⟩
  rw [hb9]
  have Hhb9 := Lib.hid hb9
  clear hb9
  rintro e w7 ⟨rfl, k8⟩
  have Kk11 := Lib.hid k8
  clear k8
  cases rb10 with
  | false =>
    have kvV0 : Sees V0 (w.heap.size + 1) w7 := sees_kept _ Kk11.out
    go_wp2_with (refine stop_store 32 (.tmp 2) (.tmp 6) rfl ?_)
    intro _
    refine wpList_store_part_n (by rfl) 32 (.tmp 2) (.tmp 6) rfl (w.heap.size + 1) 0 #[.int .i64 0, .int .i64 0, .int .i64 0, .int .i64 0, .slice none 0 0] (by rfl) (by rfl) 32 size_term (row_ok rfl) ?_
    intro W12 hW12
    clear kvV0
    subst hW12
    refine ⟨_, #[.int .i64 0, .int .i64 0, .int .i64 0, .int .i64 0, .slice none 0 0], (blk_at Hx2.out Kk11.out), rfl, Nat.le_of_ble_eq_true rfl, ?_⟩
    intro W13 hW13
    go_wp2_with fail
    refine bodyPost_ret (results_cell_row rfl _ _ (w.heap.size + 1) 32 _ _ du rfl (blk_same (blk_at Hx2.out Kk11.out) hW13) hu1 (by cases du <;> first | rfl | exact hu2) size_term) rfl ?_
    rw [show heEq h = (Tm.mk 0 0 0 0 []) from by unfold heEq; rw [Hhb9.out]; (try rfl)]
    exact ⟨_, rfl, par_end (par_row' (liesQ_nil w7 (Par w V0.heap.size [] P)) hW13 (by omega) (by have := Z0.out; omega)) (by have := Z0.out; omega), kept_set (kept_trans Kk5.out Kk11.out) hW13 (by omega)⟩
  | true =>
    have ew14 : IntKind.i64.wrap (h.i + 1) = h.i + 1 := IntWalk.i64_in _ (by have := levN_true (heR_lev Hhb9.out); omega)
    have kvV0 : Sees V0 (w.heap.size + 1) w7 := sees_kept _ Kk11.out
    go_wp2_with (refine stop_load 32 (.tmp 9) rfl ?_)
    intro _
    refine wpList_load_part (w.heap.size) 1 32 (.tmp 9) #[.int .i64 h.a.k, .int .i64 h.a.i, .int .i64 h.a.j, .int .i64 h.a.n, (.slice aha h.a.kids.length cha)] du (blk_at Hx1.out Kk11.out) (by rfl) rfl (by rfl) (by rfl) hu1 (by cases du <;> first | rfl | exact hu2) size_term ?_
    go_wp2_with (refine stop_load 32 (.tmp 11) rfl ?_)
    intro _
    refine wpList_load_part (w.heap.size) 11 32 (.tmp 11) #[.int .i64 h.x.k, .int .i64 h.x.i, .int .i64 h.x.j, .int .i64 h.x.n, (.slice ahx h.x.kids.length chx)] du (blk_at Hx1.out Kk11.out) (by rfl) rfl (by rfl) (by rfl) hu1 (by cases du <;> first | rfl | exact hu2) size_term ?_
    go_wp2_with (refine stop_load 32 (.tmp 13) rfl ?_)
    intro _
    refine wpList_load_part (w.heap.size) 16 32 (.tmp 13) #[.int .i64 h.y.k, .int .i64 h.y.i, .int .i64 h.y.j, .int .i64 h.y.n, (.slice ahy h.y.kids.length chy)] du (blk_at Hx1.out Kk11.out) (by rfl) rfl (by rfl) (by rfl) hu1 (by cases du <;> first | rfl | exact hu2) size_term ?_
    go_wp2_with (refine stop_load 32 (.tmp 15) rfl ?_)
    intro _
    refine wpList_load_part (w.heap.size) 21 32 (.tmp 15) #[.int .i64 h.h.k, .int .i64 h.h.i, .int .i64 h.h.j, .int .i64 h.h.n, (.slice ahh h.h.kids.length chh)] du (blk_at Hx1.out Kk11.out) (by rfl) rfl (by rfl) (by rfl) hu1 (by cases du <;> first | rfl | exact hu2) size_term ?_
    go_wp2_with fail
    refine at_world (fun W16 hW16 => ?_)
    clear kvV0
    obtain ⟨k18, x17, z19⟩ := alloc1 hW16
    have Kk20 := Lib.hid k18
    clear k18
    have Hx17 := Lib.hid x17
    have Hz19 := Lib.hid z19
    clear x17 z19 hW16
    have HR21 : Hid (LiesQ W16 (Par w V0.heap.size [] P) [h.a, h.x, h.y, h.h] (.slice (some ⟨w7.heap.size, 0, none⟩) 4 4)) := q_row [(h.a, (.slice aha h.a.kids.length cha)), (h.x, (.slice ahx h.x.kids.length chx)), (h.y, (.slice ahy h.y.kids.length chy)), (h.h, (.slice ahh h.h.kids.length chh))] _ rfl Hx17.out (par_new (Below.size Kk11.out) (xlt_nil _) (Nat.le_refl _)) (fun p hp => by
      simp only [List.mem_cons, List.not_mem_nil, or_false] at hp
      rcases hp with rfl | rfl | rfl | rfl
      · exact ⟨Gh.out.2.1, (HLha.out.later (kept_trans Kk11.out Kk20.out))⟩
      · exact ⟨Gh.out.2.2.2.1, (HLhx.out.later (kept_trans Kk11.out Kk20.out))⟩
      · exact ⟨Gh.out.2.2.2.2.1, (HLhy.out.later (kept_trans Kk11.out Kk20.out))⟩
      · exact ⟨Gh.out.2.2.2.2.2, (HLhh.out.later (kept_trans Kk11.out Kk20.out))⟩) (Nat.le_of_ble_eq_true rfl)
    refine (ruse_any 10 h.i 0 [h.a, h.x, h.y, h.h] (Par w V0.heap.size [] P) _ _ (show I64 10 from by unfold I64; decide) Gh.out.1 (show I64 0 from by unfold I64; decide) HR21.out (Nat.le_of_ble_eq_true rfl)).mono ?_
    obtain ⟨U29, hU29⟩ : ∃ qu, useT 10 h.i 0 [h.a, h.x, h.y, h.h] = qu := ⟨_, rfl⟩
    rw [hU29]
    have HU29 := Lib.hid hU29
    clear hU29
    rintro e w22 ⟨s24, rfl, hl25, k23⟩
    obtain ⟨a26, c27, S28, rfl, -⟩ := hl25.out
    have Kk30 := Lib.hid k23
    clear k23
    have Hhl25 : Hid (LiesQ w22 (Par w V0.heap.size [] P) U29.kids _) := par_give hl25 (Below.size (kept_trans Kk11.out Kk20.out)) (xlt_nil _)
    clear hl25
    have kvV0 : Sees V0 (w.heap.size + 1) w22 := sees_kept _ (kept_trans Kk11.out (kept_trans Kk20.out Kk30.out))
    go_wp2_with (refine stop_store 32 (.tmp 2) (.tmp 18) rfl ?_)
    intro _
    refine wpList_store_part_n (by rfl) 32 (.tmp 2) (.tmp 18) rfl (w.heap.size + 1) 0 #[.int .i64 U29.k, .int .i64 U29.i, .int .i64 U29.j, .int .i64 U29.n, (.slice a26 U29.kids.length c27)] (by rfl) (by rfl) 32 size_term (row_ok rfl) ?_
    intro W31 hW31
    clear kvV0
    subst hW31
    refine ⟨_, #[.int .i64 U29.k, .int .i64 U29.i, .int .i64 U29.j, .int .i64 U29.n, (.slice a26 U29.kids.length c27)], (blk_at Hx2.out (kept_trans Kk11.out (kept_trans Kk20.out Kk30.out))), rfl, Nat.le_of_ble_eq_true rfl, ?_⟩
    intro W32 hW32
    go_wp2_with fail
    refine bodyPost_ret (results_cell_row rfl _ _ (w.heap.size + 1) 32 _ _ du rfl (blk_same (blk_at Hx2.out (kept_trans Kk11.out (kept_trans Kk20.out Kk30.out))) hW32) hu1 (by cases du <;> first | rfl | exact hu2) size_term) rfl ?_
    rw [show heEq h = U29 from by unfold heEq; rw [Hhb9.out]; rw [← HU29.out]; (try rfl)]
    exact ⟨_, rfl, par_end (par_row' Hhl25.out hW32 (by omega) (by have := Z0.out; omega)) (by have := Z0.out; omega), kept_set (kept_trans Kk5.out (kept_trans Kk11.out (kept_trans Kk20.out Kk30.out))) hW32 (by omega)⟩

def rSelfr3_0 : Oper := { dst := some 18, op := Go.Op.move (Go.Operand.tmp 0), type := 3, pos := "ref.go:84", after := #[], guard := none }
def rSelfr3_1 : Oper := { dst := some 19, op := Go.Op.load 32 (Go.Operand.tmp 4), type := 32, pos := "ref.go:84", after := #[], guard := none }
def rSelfr3_2 : Oper := { dst := some 20, op := Go.Op.load 32 (Go.Operand.tmp 4), type := 32, pos := "ref.go:84", after := #[], guard := none }
def rSelfr3_3 : Oper := { dst := some 21, op := Go.Op.load 32 (Go.Operand.tmp 5), type := 32, pos := "ref.go:84", after := #[], guard := none }
def rSelfr3_4 : Oper := { dst := some 22, op := Go.Op.load 32 (Go.Operand.tmp 5), type := 32, pos := "ref.go:84", after := #[], guard := none }
def rSelfr3_5 : Oper := { dst := some 23, op := Go.Op.move (Go.Operand.tmp 0), type := 3, pos := "ref.go:84", after := #[], guard := none }
def rSelfr3_6 : Oper := { dst := some 24, op := Go.Op.call { callee := Go.Callee.value (Go.Operand.func 31), args := #[Go.Operand.tmp 23], argTypes := #[3] }, type := 32, pos := "ref.go:84", after := #[{ on := 5, ground := Go.Ground.data }], guard := none }
def rSelfr3_7 : Oper := { dst := some 25, op := Go.Op.move (Go.Operand.tmp 0), type := 3, pos := "ref.go:84", after := #[], guard := none }
def rSelfr3_8 : Oper := { dst := some 26, op := Go.Op.load 32 (Go.Operand.tmp 4), type := 32, pos := "ref.go:84", after := #[], guard := none }
def rSelfr3_9 : Oper := { dst := some 27, op := Go.Op.load 32 (Go.Operand.tmp 5), type := 32, pos := "ref.go:84", after := #[], guard := none }
def rSelfr3_10 : Oper := { dst := some 28, op := Go.Op.call { callee := Go.Callee.value (Go.Operand.func 29), args := #[Go.Operand.tmp 25, Go.Operand.tmp 26, Go.Operand.tmp 27], argTypes := #[3, 32, 32] }, type := 32, pos := "ref.go:84", after := #[{ on := 7, ground := Go.Ground.data }, { on := 8, ground := Go.Ground.data }, { on := 9, ground := Go.Ground.data }, { on := 6, ground := Go.Ground.chain }], guard := none }
def rSelfr3_11 : Oper := { dst := some 29, op := Go.Op.buildSlice 30 2 #[(0, Go.Operand.tmp 24), (1, Go.Operand.tmp 28)], type := 30, pos := "ref.go:84", after := #[{ on := 6, ground := Go.Ground.data }, { on := 10, ground := Go.Ground.data }], guard := none }
def rSelfr3_12 : Oper := { dst := some 30, op := Go.Op.call { callee := Go.Callee.value (Go.Operand.func 103), args := #[Go.Operand.const (Go.Value.int Go.IntKind.i64 21), Go.Operand.tmp 29], argTypes := #[3, 30] }, type := 32, pos := "ref.go:84", after := #[{ on := 11, ground := Go.Ground.data }, { on := 10, ground := Go.Ground.chain }], guard := none }
def rSelfr3_13 : Oper := { dst := some 31, op := Go.Op.build 45 #[(0, Go.Operand.tmp 18), (1, Go.Operand.tmp 19), (2, Go.Operand.tmp 20), (3, Go.Operand.tmp 21), (4, Go.Operand.tmp 22), (5, Go.Operand.tmp 30)], type := 45, pos := "ref.go:84", after := #[{ on := 0, ground := Go.Ground.data }, { on := 1, ground := Go.Ground.data }, { on := 2, ground := Go.Ground.data }, { on := 3, ground := Go.Ground.data }, { on := 4, ground := Go.Ground.data }, { on := 12, ground := Go.Ground.data }], guard := none }
def rSelfr3_14 : Oper := { dst := none, op := Go.Op.store 45 (Go.Operand.tmp 6) (Go.Operand.tmp 31), type := 0, pos := "ref.go:84", after := #[{ on := 13, ground := Go.Ground.data }, { on := 12, ground := Go.Ground.chain }, { on := 0, ground := Go.Ground.phase }, { on := 1, ground := Go.Ground.phase }, { on := 2, ground := Go.Ground.phase }, { on := 3, ground := Go.Ground.phase }, { on := 4, ground := Go.Ground.phase }, { on := 5, ground := Go.Ground.phase }, { on := 6, ground := Go.Ground.phase }, { on := 7, ground := Go.Ground.phase }, { on := 8, ground := Go.Ground.phase }, { on := 9, ground := Go.Ground.phase }, { on := 10, ground := Go.Ground.phase }, { on := 11, ground := Go.Ground.phase }, { on := 12, ground := Go.Ground.phase }, { on := 13, ground := Go.Ground.phase }], guard := none }
set_option maxRecDepth 20000 in
set_option maxHeartbeats 4000000 in
theorem rSelf_any (i : Int) (a : Tm) (x : Tm) (P : Nat → Prop) (w : World) (sa : Value) (sx : Value) (hri : I64 i) (hfa : a.fine) (hla : LiesQ w P a.kids sa) (hfx : x.fine) (hlx : LiesQ w P x.kids sx) : Calls Try.prog 44 #[.int .i64 i, tv a sa, tv x sx] w (GivesHP P (heSelf i a x) w) := by
  have Ri := Lib.hid hri
  clear hri
  have Ga := Lib.hid hfa
  clear hfa
  obtain ⟨aa, ca, Sa, rfl, -⟩ := hla.out
  have Gx := Lib.hid hfx
  clear hfx
  obtain ⟨ax, cx, Sx, rfl, -⟩ := hlx.out
  obtain ⟨du, hu1, hu2⟩ := under_term
  obtain ⟨dr, dr1, dr2⟩ := under_of 45 (by kernel_rfl)
  unfold tv
  go_enter Try.func44, Try.ntmps44
  go_upto_region 1 with fail
  refine at_code (fun V0 hV0 => ?_)
  obtain ⟨k4, x1, x2, x3, z5⟩ := alloc3 hV0
  have Kk6 := Lib.hid k4
  clear k4
  have Hx1 := Lib.hid x1
  have Hx2 := Lib.hid x2
  have Hx3 := Lib.hid x3
  have Z0 := Lib.hid z5
  clear z5 x1 x2 x3 hV0
  have HLa : Hid (LiesQ V0 (Par w V0.heap.size [] P) a.kids _) := (par_in _ _ hla).later Kk6.out
  clear hla
  have HLx : Hid (LiesQ V0 (Par w V0.heap.size [] P) x.kids _) := (par_in _ _ hlx).later Kk6.out
  clear hlx
  have kvV0 : Sees V0 (w.heap.size + 2) V0 := sees_kept _ (kept_refl _)
  go_wp2_with fail
  clear kvV0
  refine (rlevel_any i 2 _ Ri.out (show I64 2 from by unfold I64; decide) (by decide) (by decide)).mono ?_
  obtain ⟨rb10, hb9⟩ : ∃ qb, levN 2 i = qb := ⟨_, rfl⟩
  rw [hb9]
  have Hhb9 := Lib.hid hb9
  clear hb9
  rintro e w7 ⟨rfl, k8⟩
  have Kk11 := Lib.hid k8
  clear k8
  cases rb10 with
  | false =>
    have kvV0 : Sees V0 (w.heap.size + 2) w7 := sees_kept _ Kk11.out
    go_wp2_with (refine stop_store 45 (.tmp 6) (.tmp 17) rfl ?_)
    intro _
    refine wpList_store_part_n (by rfl) 45 (.tmp 6) (.tmp 17) rfl (w.heap.size + 2) 0 #[.int .i64 0, .int .i64 0, .int .i64 0, .int .i64 0, .int .i64 0, .slice none 0 0, .int .i64 0, .int .i64 0, .int .i64 0, .int .i64 0, .slice none 0 0, .int .i64 0, .int .i64 0, .int .i64 0, .int .i64 0, .slice none 0 0, .int .i64 0, .int .i64 0, .int .i64 0, .int .i64 0, .slice none 0 0, .int .i64 0, .int .i64 0, .int .i64 0, .int .i64 0, .slice none 0 0] (by rfl) (by rfl) 45 (by kernel_rfl) (row_ok rfl) ?_
    intro W12 hW12
    clear kvV0
    subst hW12
    refine ⟨_, #[.int .i64 0, .int .i64 0, .int .i64 0, .int .i64 0, .int .i64 0, .slice none 0 0, .int .i64 0, .int .i64 0, .int .i64 0, .int .i64 0, .slice none 0 0, .int .i64 0, .int .i64 0, .int .i64 0, .int .i64 0, .slice none 0 0, .int .i64 0, .int .i64 0, .int .i64 0, .int .i64 0, .slice none 0 0, .int .i64 0, .int .i64 0, .int .i64 0, .int .i64 0, .slice none 0 0], (blk_at Hx3.out Kk11.out), rfl, Nat.le_of_ble_eq_true rfl, ?_⟩
    intro W13 hW13
    go_wp2_with fail
    refine bodyPost_ret (results_cell_row rfl _ _ (w.heap.size + 2) 45 _ _ dr rfl (blk_same (blk_at Hx3.out Kk11.out) hW13) dr1 (by cases dr <;> first | rfl | exact dr2) (by kernel_rfl)) rfl ?_
    rw [show heSelf i a x = (⟨0, (.mk 0 0 0 0 []), (.mk 0 0 0 0 []), (.mk 0 0 0 0 []), (.mk 0 0 0 0 []), (.mk 0 0 0 0 [])⟩ : He) from by unfold heSelf heR2; rw [Hhb9.out]; (try rfl)]
    exact ⟨_, _, _, _, _, rfl, ⟨par_end (par_row' (liesQ_nil w7 (Par w V0.heap.size [] P)) hW13 (by omega) (by have := Z0.out; omega)) (by have := Z0.out; omega), par_end (par_row' (liesQ_nil w7 (Par w V0.heap.size [] P)) hW13 (by omega) (by have := Z0.out; omega)) (by have := Z0.out; omega), par_end (par_row' (liesQ_nil w7 (Par w V0.heap.size [] P)) hW13 (by omega) (by have := Z0.out; omega)) (by have := Z0.out; omega), par_end (par_row' (liesQ_nil w7 (Par w V0.heap.size [] P)) hW13 (by omega) (by have := Z0.out; omega)) (by have := Z0.out; omega), par_end (par_row' (liesQ_nil w7 (Par w V0.heap.size [] P)) hW13 (by omega) (by have := Z0.out; omega)) (by have := Z0.out; omega)⟩, kept_set (kept_trans Kk6.out Kk11.out) hW13 (by omega)⟩
  | true =>
    have ew14 : IntKind.i64.wrap (i + 1) = i + 1 := IntWalk.i64_in _ (by have := levN_true ( Hhb9.out); omega)
    have kvV0 : Sees V0 (w.heap.size + 2) w7 := sees_kept _ Kk11.out
    go_wp2_with (refine stop_load 32 (.tmp 4) rfl ?_)
    intro _
    refine wpList_load_part (w.heap.size) 0 32 (.tmp 4) #[.int .i64 a.k, .int .i64 a.i, .int .i64 a.j, .int .i64 a.n, (.slice aa a.kids.length ca)] du (blk_at Hx1.out Kk11.out) (by rfl) rfl (by rfl) (by rfl) hu1 (by cases du <;> first | rfl | exact hu2) size_term ?_
    go_wp2_with (refine stop_load 32 (.tmp 5) rfl ?_)
    intro _
    refine wpList_load_part (w.heap.size + 1) 0 32 (.tmp 5) #[.int .i64 x.k, .int .i64 x.i, .int .i64 x.j, .int .i64 x.n, (.slice ax x.kids.length cx)] du (blk_at Hx2.out Kk11.out) (by rfl) rfl (by rfl) (by rfl) hu1 (by cases du <;> first | rfl | exact hu2) size_term ?_
    go_wp2_with fail
    refine at_world (fun W16 hW16 => ?_)
    clear kvV0
    obtain ⟨k18, x17, z19⟩ := alloc1 hW16
    have Kk20 := Lib.hid k18
    clear k18
    have Hx17 := Lib.hid x17
    have Hz19 := Lib.hid z19
    clear x17 z19 hW16
    have HR21 : Hid (LiesQ W16 (Par w V0.heap.size [] P) [a, x] (.slice (some ⟨w7.heap.size, 0, none⟩) 2 2)) := q_row [(a, (.slice aa a.kids.length ca)), (x, (.slice ax x.kids.length cx))] _ rfl Hx17.out (par_new (Below.size Kk11.out) (xlt_nil _) (Nat.le_refl _)) (fun p hp => by
      simp only [List.mem_cons, List.not_mem_nil, or_false] at hp
      rcases hp with rfl | rfl
      · exact ⟨Ga.out, (HLa.out.later (kept_trans Kk11.out Kk20.out))⟩
      · exact ⟨Gx.out, (HLx.out.later (kept_trans Kk11.out Kk20.out))⟩) (Nat.le_of_ble_eq_true rfl)
    refine (rplain_any [a, x] _ _ HR21.out.lies).mono ?_
    obtain ⟨rb25, hb24⟩ : ∃ qb, plainL [a, x] = qb := ⟨_, rfl⟩
    rw [hb24]
    have Hhb24 := Lib.hid hb24
    clear hb24
    rintro e w22 ⟨rfl, k23⟩
    have Kk26 := Lib.hid k23
    clear k23
    cases rb25 with
    | false =>
      have kvV0 : Sees V0 (w.heap.size + 2) w22 := sees_kept _ (kept_trans Kk11.out (kept_trans Kk20.out Kk26.out))
      go_wp2_with (refine stop_store 45 (.tmp 6) (.tmp 17) rfl ?_)
      intro _
      refine wpList_store_part_n (by rfl) 45 (.tmp 6) (.tmp 17) rfl (w.heap.size + 2) 0 #[.int .i64 0, .int .i64 0, .int .i64 0, .int .i64 0, .int .i64 0, .slice none 0 0, .int .i64 0, .int .i64 0, .int .i64 0, .int .i64 0, .slice none 0 0, .int .i64 0, .int .i64 0, .int .i64 0, .int .i64 0, .slice none 0 0, .int .i64 0, .int .i64 0, .int .i64 0, .int .i64 0, .slice none 0 0, .int .i64 0, .int .i64 0, .int .i64 0, .int .i64 0, .slice none 0 0] (by rfl) (by rfl) 45 (by kernel_rfl) (row_ok rfl) ?_
      intro W27 hW27
      clear kvV0
      subst hW27
      refine ⟨_, #[.int .i64 0, .int .i64 0, .int .i64 0, .int .i64 0, .int .i64 0, .slice none 0 0, .int .i64 0, .int .i64 0, .int .i64 0, .int .i64 0, .slice none 0 0, .int .i64 0, .int .i64 0, .int .i64 0, .int .i64 0, .slice none 0 0, .int .i64 0, .int .i64 0, .int .i64 0, .int .i64 0, .slice none 0 0, .int .i64 0, .int .i64 0, .int .i64 0, .int .i64 0, .slice none 0 0], (blk_at Hx3.out (kept_trans Kk11.out (kept_trans Kk20.out Kk26.out))), rfl, Nat.le_of_ble_eq_true rfl, ?_⟩
      intro W28 hW28
      go_wp2_with fail
      refine bodyPost_ret (results_cell_row rfl _ _ (w.heap.size + 2) 45 _ _ dr rfl (blk_same (blk_at Hx3.out (kept_trans Kk11.out (kept_trans Kk20.out Kk26.out))) hW28) dr1 (by cases dr <;> first | rfl | exact dr2) (by kernel_rfl)) rfl ?_
      rw [show heSelf i a x = (⟨0, (.mk 0 0 0 0 []), (.mk 0 0 0 0 []), (.mk 0 0 0 0 []), (.mk 0 0 0 0 []), (.mk 0 0 0 0 [])⟩ : He) from by unfold heSelf heR2; rw [Hhb9.out, Hhb24.out]; (try rfl)]
      exact ⟨_, _, _, _, _, rfl, ⟨par_end (par_row' (liesQ_nil w22 (Par w V0.heap.size [] P)) hW28 (by omega) (by have := Z0.out; omega)) (by have := Z0.out; omega), par_end (par_row' (liesQ_nil w22 (Par w V0.heap.size [] P)) hW28 (by omega) (by have := Z0.out; omega)) (by have := Z0.out; omega), par_end (par_row' (liesQ_nil w22 (Par w V0.heap.size [] P)) hW28 (by omega) (by have := Z0.out; omega)) (by have := Z0.out; omega), par_end (par_row' (liesQ_nil w22 (Par w V0.heap.size [] P)) hW28 (by omega) (by have := Z0.out; omega)) (by have := Z0.out; omega), par_end (par_row' (liesQ_nil w22 (Par w V0.heap.size [] P)) hW28 (by omega) (by have := Z0.out; omega)) (by have := Z0.out; omega)⟩, kept_set (kept_trans Kk6.out (kept_trans Kk11.out (kept_trans Kk20.out Kk26.out))) hW28 (by omega)⟩
    | true =>
      have kvV0 : Sees V0 (w.heap.size + 2) w22 := sees_kept _ (kept_trans Kk11.out (kept_trans Kk20.out Kk26.out))
      go_wp2_with fail
      clear kvV0
      obtain ⟨W29, h30⟩ : ∃ x, World.drew w22 = x := ⟨_, rfl⟩
      have k31 : Kept w22 W29 := by rw [← h30]; exact kept_drew (kept_refl _)
      have Kk32 := Lib.hid k31
      clear k31
      refine wp_region_held_drew (S := Sees W29 (w.heap.size + 2)) (by kernel_rfl) ?_ (fun hHeld => ?_)
      · (try dsimp only)
        rw [h30]
        exact sees_kept _ (kept_refl _)
      rw [h30] at hHeld ⊢
      clear h30
      refine take_at 0 18 rSelfr3_0 (v := ?_) (Or.inl ⟨by rfl, ?_⟩) ?_
      rotate_left 1
      · ((intro w hSw; (try dsimp only at hSw); unfold rSelfr3_0; go_simp) <;> with_reducible rfl)
      (try simp only [Act.put, List.setIfInBounds_toArray, List.set_cons_zero, List.set_cons_succ])
      refine take_at 1 19 rSelfr3_1 (yields_part (w.heap.size) 0 32 (.tmp 4) #[.int .i64 a.k, .int .i64 a.i, .int .i64 a.j, .int .i64 a.n, (.slice aa a.kids.length ca)] du (fun _ h => sees_blk Hx1.out (by have := Z0.out; omega) (sees_of (kept_trans Kk11.out (kept_trans Kk20.out (kept_trans Kk26.out Kk32.out))) h)) (by rfl) rfl (by rfl) (by rfl) hu1 (by cases du <;> first | rfl | exact hu2) size_term) ?_
      (try simp only [Act.put, List.setIfInBounds_toArray, List.set_cons_zero, List.set_cons_succ])
      refine take_at 2 20 rSelfr3_2 (yields_part (w.heap.size) 0 32 (.tmp 4) #[.int .i64 a.k, .int .i64 a.i, .int .i64 a.j, .int .i64 a.n, (.slice aa a.kids.length ca)] du (fun _ h => sees_blk Hx1.out (by have := Z0.out; omega) (sees_of (kept_trans Kk11.out (kept_trans Kk20.out (kept_trans Kk26.out Kk32.out))) h)) (by rfl) rfl (by rfl) (by rfl) hu1 (by cases du <;> first | rfl | exact hu2) size_term) ?_
      (try simp only [Act.put, List.setIfInBounds_toArray, List.set_cons_zero, List.set_cons_succ])
      refine take_at 3 21 rSelfr3_3 (yields_part (w.heap.size + 1) 0 32 (.tmp 5) #[.int .i64 x.k, .int .i64 x.i, .int .i64 x.j, .int .i64 x.n, (.slice ax x.kids.length cx)] du (fun _ h => sees_blk Hx2.out (by have := Z0.out; omega) (sees_of (kept_trans Kk11.out (kept_trans Kk20.out (kept_trans Kk26.out Kk32.out))) h)) (by rfl) rfl (by rfl) (by rfl) hu1 (by cases du <;> first | rfl | exact hu2) size_term) ?_
      (try simp only [Act.put, List.setIfInBounds_toArray, List.set_cons_zero, List.set_cons_succ])
      refine take_at 4 22 rSelfr3_4 (yields_part (w.heap.size + 1) 0 32 (.tmp 5) #[.int .i64 x.k, .int .i64 x.i, .int .i64 x.j, .int .i64 x.n, (.slice ax x.kids.length cx)] du (fun _ h => sees_blk Hx2.out (by have := Z0.out; omega) (sees_of (kept_trans Kk11.out (kept_trans Kk20.out (kept_trans Kk26.out Kk32.out))) h)) (by rfl) rfl (by rfl) (by rfl) hu1 (by cases du <;> first | rfl | exact hu2) size_term) ?_
      (try simp only [Act.put, List.setIfInBounds_toArray, List.set_cons_zero, List.set_cons_succ])
      refine take_at 5 23 rSelfr3_5 (v := ?_) (Or.inl ⟨by rfl, ?_⟩) ?_
      rotate_left 1
      · ((intro w hSw; (try dsimp only at hSw); unfold rSelfr3_5; go_simp) <;> with_reducible rfl)
      (try simp only [Act.put, List.setIfInBounds_toArray, List.set_cons_zero, List.set_cons_succ])
      refine take_at 7 25 rSelfr3_7 (v := ?_) (Or.inl ⟨by rfl, ?_⟩) ?_
      rotate_left 1
      · ((intro w hSw; (try dsimp only at hSw); unfold rSelfr3_7; go_simp) <;> with_reducible rfl)
      (try simp only [Act.put, List.setIfInBounds_toArray, List.set_cons_zero, List.set_cons_succ])
      refine take_at 8 26 rSelfr3_8 (yields_part (w.heap.size) 0 32 (.tmp 4) #[.int .i64 a.k, .int .i64 a.i, .int .i64 a.j, .int .i64 a.n, (.slice aa a.kids.length ca)] du (fun _ h => sees_blk Hx1.out (by have := Z0.out; omega) (sees_of (kept_trans Kk11.out (kept_trans Kk20.out (kept_trans Kk26.out Kk32.out))) h)) (by rfl) rfl (by rfl) (by rfl) hu1 (by cases du <;> first | rfl | exact hu2) size_term) ?_
      (try simp only [Act.put, List.setIfInBounds_toArray, List.set_cons_zero, List.set_cons_succ])
      refine take_at 9 27 rSelfr3_9 (yields_part (w.heap.size + 1) 0 32 (.tmp 5) #[.int .i64 x.k, .int .i64 x.i, .int .i64 x.j, .int .i64 x.n, (.slice ax x.kids.length cx)] du (fun _ h => sees_blk Hx2.out (by have := Z0.out; omega) (sees_of (kept_trans Kk11.out (kept_trans Kk20.out (kept_trans Kk26.out Kk32.out))) h)) (by rfl) rfl (by rfl) (by rfl) hu1 (by cases du <;> first | rfl | exact hu2) size_term) ?_
      (try simp only [Act.put, List.setIfInBounds_toArray, List.set_cons_zero, List.set_cons_succ])
      refine wpAnyH_ready (rs := [6]) (by kernel_rfl) (by simp) ?_
      refine AllReadyH.cons (o := rSelfr3_6) rfl (fun K hK => ?_) ?_
      · unfold rSelfr3_6
        go_simp
        refine ((rPoints_any i (Par w V0.heap.size [] P) _ Ri.out).mono (fun _ _ h => by rw [points_good ( Hhb9.out)] at h; exact h)).mono ?_
        obtain ⟨U40, hU40⟩ : ∃ qu, pointsT i = qu := ⟨_, rfl⟩
        rw [hU40]
        have HU40 := Lib.hid hU40
        clear hU40
        rintro e w33 ⟨s35, rfl, hl36, k34⟩
        obtain ⟨a37, c38, S39, rfl, -⟩ := hl36.out
        have Kk41 := Lib.hid k34
        clear k34
        have Hhl36 : Hid (LiesQ w33 (Par w V0.heap.size [] P) U40.kids _) := par_give hl36 (Below.size (kept_trans Kk11.out (kept_trans Kk20.out (kept_trans Kk26.out Kk32.out)))) (xlt_nil _)
        clear hl36
        clear hHeld
        refine hK.out _ _ ?_ (fun hHeld => ?_)
        · (try dsimp only)
          exact sees_kept _ Kk41.out
        clear hK K
        (try simp only [Act.put, List.setIfInBounds_toArray, List.set_cons_zero, List.set_cons_succ])
        refine wpAnyH_ready (rs := [10]) (by kernel_rfl) (by simp) ?_
        refine AllReadyH.cons (o := rSelfr3_10) rfl (fun K hK => ?_) ?_
        · unfold rSelfr3_10
          go_simp
          refine ((rPoint_any i a x (Par w V0.heap.size [] P) _ (.slice aa a.kids.length ca) (.slice ax x.kids.length cx) Ri.out Ga.out (HLa.out.later (kept_trans Kk11.out (kept_trans Kk20.out (kept_trans Kk26.out (kept_trans Kk32.out Kk41.out))))) Gx.out (HLx.out.later (kept_trans Kk11.out (kept_trans Kk20.out (kept_trans Kk26.out (kept_trans Kk32.out Kk41.out)))))).mono (fun _ _ h => by rw [point_good ( Hhb9.out) (plainL_iff.1 Hhb24.out _ (by simp)) (plainL_iff.1 Hhb24.out _ (by simp))] at h; exact h)).mono ?_
          obtain ⟨U49, hU49⟩ : ∃ qu, pointT i a x = qu := ⟨_, rfl⟩
          rw [hU49]
          have HU49 := Lib.hid hU49
          clear hU49
          rintro e w42 ⟨s44, rfl, hl45, k43⟩
          obtain ⟨a46, c47, S48, rfl, -⟩ := hl45.out
          have Kk50 := Lib.hid k43
          clear k43
          have Hhl45 : Hid (LiesQ w42 (Par w V0.heap.size [] P) U49.kids _) := par_give hl45 (Below.size (kept_trans Kk11.out (kept_trans Kk20.out (kept_trans Kk26.out (kept_trans Kk32.out Kk41.out))))) (xlt_nil _)
          clear hl45
          clear hHeld
          refine hK.out _ _ ?_ (fun hHeld => ?_)
          · (try dsimp only)
            exact sees_kept _ (kept_trans Kk41.out Kk50.out)
          clear hK K
          (try simp only [Act.put, List.setIfInBounds_toArray, List.set_cons_zero, List.set_cons_succ])
          refine wpAnyH_ready (rs := [11]) (by kernel_rfl) (by simp) ?_
          refine AllReadyH.cons (o := rSelfr3_11) rfl (fun K hK => ?_) ?_
          · unfold rSelfr3_11
            go_simp
            refine at_K (fun W52 hW52 => ?_)
            obtain ⟨k54, x53, z55⟩ := alloc1 hW52
            have Kk56 := Lib.hid k54
            clear k54
            have Hx53 := Lib.hid x53
            have Hz55 := Lib.hid z55
            clear x53 z55 hW52
            have HR57 : Hid (LiesQ W52 (Par w V0.heap.size [] P) [U40, U49] (.slice (some ⟨w42.heap.size, 0, none⟩) 2 2)) := q_row [(U40, (.slice a37 U40.kids.length c38)), (U49, (.slice a46 U49.kids.length c47))] _ rfl Hx53.out (par_new (Below.size (kept_trans Kk11.out (kept_trans Kk20.out (kept_trans Kk26.out (kept_trans Kk32.out (kept_trans Kk41.out Kk50.out)))))) (xlt_nil _) (Nat.le_refl _)) (fun p hp => by
              simp only [List.mem_cons, List.not_mem_nil, or_false] at hp
              rcases hp with rfl | rfl
              · exact ⟨(by rw [← HU40.out]; exact (right_fine (plain_right (points_plain ( Hhb9.out))))), (Hhl36.out.later (kept_trans Kk50.out Kk56.out))⟩
              · exact ⟨(by rw [← HU49.out]; exact (right_fine (plain_right (point_plain ( Hhb9.out) (plainL_iff.1 Hhb24.out _ (by simp)) (plainL_iff.1 Hhb24.out _ (by simp)))))), (Hhl45.out.later Kk56.out)⟩) (Nat.le_of_ble_eq_true rfl)
            clear hHeld
            refine hK.out _ _ ?_ (fun hHeld => ?_)
            · (try dsimp only)
              exact sees_kept _ (kept_trans Kk41.out (kept_trans Kk50.out Kk56.out))
            clear hK K
            (try simp only [Act.put, List.setIfInBounds_toArray, List.set_cons_zero, List.set_cons_succ])
            refine wpAnyH_ready (rs := [12]) (by kernel_rfl) (by simp) ?_
            refine AllReadyH.cons (o := rSelfr3_12) rfl (fun K hK => ?_) ?_
            · unfold rSelfr3_12
              go_simp
              refine (rnode_any 21 [U40, U49] (Par w V0.heap.size [] P) _ _ (show I64 21 from by unfold I64; decide) HR57.out (Nat.le_of_ble_eq_true rfl)).mono ?_
              obtain ⟨U65, hU65⟩ : ∃ qu, nodeT 21 [U40, U49] = qu := ⟨_, rfl⟩
              rw [hU65]
              have HU65 := Lib.hid hU65
              clear hU65
              rintro e w58 ⟨s60, rfl, hl61, k59⟩
              obtain ⟨a62, c63, S64, rfl, -⟩ := hl61.out
              have Kk66 := Lib.hid k59
              clear k59
              have Hhl61 : Hid (LiesQ w58 (Par w V0.heap.size [] P) U65.kids _) := par_give hl61 (Below.size (kept_trans Kk11.out (kept_trans Kk20.out (kept_trans Kk26.out (kept_trans Kk32.out (kept_trans Kk41.out (kept_trans Kk50.out Kk56.out))))))) (xlt_nil _)
              clear hl61
              clear hHeld
              refine hK.out _ _ ?_ (fun hHeld => ?_)
              · (try dsimp only)
                exact sees_kept _ (kept_trans Kk41.out (kept_trans Kk50.out (kept_trans Kk56.out Kk66.out)))
              clear hK K
              (try simp only [Act.put, List.setIfInBounds_toArray, List.set_cons_zero, List.set_cons_succ])
              refine take_at 13 31 rSelfr3_13 (v := ?_) (Or.inl ⟨by rfl, ?_⟩) ?_
              rotate_left 1
              · ((intro w hSw; (try dsimp only at hSw); unfold rSelfr3_13; go_simp) <;> with_reducible rfl)
              (try simp only [Act.put, List.setIfInBounds_toArray, List.set_cons_zero, List.set_cons_succ])
              refine wpAnyH_ready (rs := [14]) (by kernel_rfl) (by simp) ?_
              refine AllReadyH.cons (o := rSelfr3_14) rfl (fun K hK => ?_) ?_
              · unfold rSelfr3_14
                refine step_store_part rfl 45 (.tmp 6) (.tmp 31) rfl (w.heap.size + 2) 0 #[.int .i64 i, .int .i64 a.k, .int .i64 a.i, .int .i64 a.j, .int .i64 a.n, (.slice aa a.kids.length ca), .int .i64 a.k, .int .i64 a.i, .int .i64 a.j, .int .i64 a.n, (.slice aa a.kids.length ca), .int .i64 x.k, .int .i64 x.i, .int .i64 x.j, .int .i64 x.n, (.slice ax x.kids.length cx), .int .i64 x.k, .int .i64 x.i, .int .i64 x.j, .int .i64 x.n, (.slice ax x.kids.length cx), .int .i64 U65.k, .int .i64 U65.i, .int .i64 U65.j, .int .i64 U65.n, (.slice a62 U65.kids.length c63)] rfl rfl 45 (by kernel_rfl) (row_ok rfl) _ #[.int .i64 i, .int .i64 a.k, .int .i64 a.i, .int .i64 a.j, .int .i64 a.n, (.slice aa a.kids.length ca), .int .i64 a.k, .int .i64 a.i, .int .i64 a.j, .int .i64 a.n, (.slice aa a.kids.length ca), .int .i64 x.k, .int .i64 x.i, .int .i64 x.j, .int .i64 x.n, (.slice ax x.kids.length cx), .int .i64 x.k, .int .i64 x.i, .int .i64 x.j, .int .i64 x.n, (.slice ax x.kids.length cx), .int .i64 U65.k, .int .i64 U65.i, .int .i64 U65.j, .int .i64 U65.n, (.slice a62 U65.kids.length c63)] (blk_at Hx3.out (kept_trans Kk11.out (kept_trans Kk20.out (kept_trans Kk26.out (kept_trans Kk32.out (kept_trans Kk41.out (kept_trans Kk50.out (kept_trans Kk56.out Kk66.out)))))))) rfl (Nat.le_of_ble_eq_true rfl) ?_
                intro W67 hW67
                clear hHeld
                refine hK.out _ _ ?_ (fun hHeld => ?_)
                · (try dsimp only)
                  exact sees_set (kept_trans Kk41.out (kept_trans Kk50.out (kept_trans Kk56.out Kk66.out))) hW67
                clear hK K
                (try simp only [Act.put])
                refine wpAnyH_done (by kernel_rfl) ?_ _
                clear hHeld
                go_wp2_with fail
                refine bodyPost_ret (results_cell_row rfl _ _ (w.heap.size + 2) 45 _ _ dr rfl (blk_same (blk_at Hx3.out (kept_trans Kk11.out (kept_trans Kk20.out (kept_trans Kk26.out (kept_trans Kk32.out (kept_trans Kk41.out (kept_trans Kk50.out (kept_trans Kk56.out Kk66.out)))))))) hW67) dr1 (by cases dr <;> first | rfl | exact dr2) (by kernel_rfl)) rfl ?_
                rw [show heSelf i a x = (⟨i, a, a, x, x, U65⟩ : He) from by unfold heSelf heR2; rw [Hhb9.out, Hhb24.out]; rw [← HU65.out]; rw [← HU49.out]; rw [← HU40.out]; (try rfl)]
                exact ⟨_, _, _, _, _, rfl, ⟨par_end (par_row' (HLa.out.later (kept_trans Kk11.out (kept_trans Kk20.out (kept_trans Kk26.out (kept_trans Kk32.out (kept_trans Kk41.out (kept_trans Kk50.out (kept_trans Kk56.out Kk66.out)))))))) hW67 (by omega) (by have := Z0.out; omega)) (by have := Z0.out; omega), par_end (par_row' (HLa.out.later (kept_trans Kk11.out (kept_trans Kk20.out (kept_trans Kk26.out (kept_trans Kk32.out (kept_trans Kk41.out (kept_trans Kk50.out (kept_trans Kk56.out Kk66.out)))))))) hW67 (by omega) (by have := Z0.out; omega)) (by have := Z0.out; omega), par_end (par_row' (HLx.out.later (kept_trans Kk11.out (kept_trans Kk20.out (kept_trans Kk26.out (kept_trans Kk32.out (kept_trans Kk41.out (kept_trans Kk50.out (kept_trans Kk56.out Kk66.out)))))))) hW67 (by omega) (by have := Z0.out; omega)) (by have := Z0.out; omega), par_end (par_row' (HLx.out.later (kept_trans Kk11.out (kept_trans Kk20.out (kept_trans Kk26.out (kept_trans Kk32.out (kept_trans Kk41.out (kept_trans Kk50.out (kept_trans Kk56.out Kk66.out)))))))) hW67 (by omega) (by have := Z0.out; omega)) (by have := Z0.out; omega), par_end (par_row' Hhl61.out hW67 (by omega) (by have := Z0.out; omega)) (by have := Z0.out; omega)⟩, kept_set (kept_trans Kk6.out (kept_trans Kk11.out (kept_trans Kk20.out (kept_trans Kk26.out (kept_trans Kk32.out (kept_trans Kk41.out (kept_trans Kk50.out (kept_trans Kk56.out Kk66.out)))))))) hW67 (by omega)⟩
              exact AllReadyH.nil
            exact AllReadyH.nil
          exact AllReadyH.nil
        exact AllReadyH.nil
      exact AllReadyH.nil

def rTurnr3_0 : Oper := { dst := some 7, op := Go.Op.fieldAddr 45 (Go.Operand.tmp 1) 0, type := 0, pos := "ref.go:90", after := #[], guard := none }
def rTurnr3_1 : Oper := { dst := some 8, op := Go.Op.load 3 (Go.Operand.tmp 7), type := 3, pos := "ref.go:90", after := #[{ on := 0, ground := Go.Ground.data }], guard := none }
def rTurnr3_2 : Oper := { dst := some 9, op := Go.Op.fieldAddr 45 (Go.Operand.tmp 1) 2, type := 0, pos := "ref.go:90", after := #[], guard := none }
def rTurnr3_3 : Oper := { dst := some 10, op := Go.Op.load 32 (Go.Operand.tmp 9), type := 32, pos := "ref.go:90", after := #[{ on := 2, ground := Go.Ground.data }], guard := none }
def rTurnr3_4 : Oper := { dst := some 11, op := Go.Op.fieldAddr 45 (Go.Operand.tmp 1) 1, type := 0, pos := "ref.go:90", after := #[], guard := none }
def rTurnr3_5 : Oper := { dst := some 12, op := Go.Op.load 32 (Go.Operand.tmp 11), type := 32, pos := "ref.go:90", after := #[{ on := 4, ground := Go.Ground.data }], guard := none }
def rTurnr3_6 : Oper := { dst := some 13, op := Go.Op.fieldAddr 45 (Go.Operand.tmp 1) 4, type := 0, pos := "ref.go:90", after := #[], guard := none }
def rTurnr3_7 : Oper := { dst := some 14, op := Go.Op.load 32 (Go.Operand.tmp 13), type := 32, pos := "ref.go:90", after := #[{ on := 6, ground := Go.Ground.data }], guard := none }
def rTurnr3_8 : Oper := { dst := some 15, op := Go.Op.fieldAddr 45 (Go.Operand.tmp 1) 3, type := 0, pos := "ref.go:90", after := #[], guard := none }
def rTurnr3_9 : Oper := { dst := some 16, op := Go.Op.load 32 (Go.Operand.tmp 15), type := 32, pos := "ref.go:90", after := #[{ on := 8, ground := Go.Ground.data }], guard := none }
def rTurnr3_10 : Oper := { dst := some 17, op := Go.Op.fieldAddr 45 (Go.Operand.tmp 1) 0, type := 0, pos := "ref.go:90", after := #[], guard := none }
def rTurnr3_11 : Oper := { dst := some 18, op := Go.Op.load 3 (Go.Operand.tmp 17), type := 3, pos := "ref.go:90", after := #[{ on := 10, ground := Go.Ground.data }], guard := none }
def rTurnr3_12 : Oper := { dst := some 19, op := Go.Op.binOp Go.BinOp.add 3 (Go.Operand.tmp 18) (Go.Operand.const (Go.Value.int Go.IntKind.i64 1)) 3, type := 3, pos := "ref.go:90", after := #[{ on := 11, ground := Go.Ground.data }], guard := none }
def rTurnr3_13 : Oper := { dst := some 20, op := Go.Op.fieldAddr 45 (Go.Operand.tmp 1) 0, type := 0, pos := "ref.go:90", after := #[], guard := none }
def rTurnr3_14 : Oper := { dst := some 21, op := Go.Op.load 3 (Go.Operand.tmp 20), type := 3, pos := "ref.go:90", after := #[{ on := 13, ground := Go.Ground.data }], guard := none }
def rTurnr3_15 : Oper := { dst := some 22, op := Go.Op.call { callee := Go.Callee.value (Go.Operand.func 31), args := #[Go.Operand.tmp 21], argTypes := #[3] }, type := 32, pos := "ref.go:90", after := #[{ on := 14, ground := Go.Ground.data }], guard := none }
def rTurnr3_16 : Oper := { dst := some 23, op := Go.Op.fieldAddr 45 (Go.Operand.tmp 1) 0, type := 0, pos := "ref.go:90", after := #[], guard := none }
def rTurnr3_17 : Oper := { dst := some 24, op := Go.Op.load 3 (Go.Operand.tmp 23), type := 3, pos := "ref.go:90", after := #[{ on := 16, ground := Go.Ground.data }], guard := none }
def rTurnr3_18 : Oper := { dst := some 25, op := Go.Op.fieldAddr 45 (Go.Operand.tmp 1) 1, type := 0, pos := "ref.go:90", after := #[], guard := none }
def rTurnr3_19 : Oper := { dst := some 26, op := Go.Op.load 32 (Go.Operand.tmp 25), type := 32, pos := "ref.go:90", after := #[{ on := 18, ground := Go.Ground.data }], guard := none }
def rTurnr3_20 : Oper := { dst := some 27, op := Go.Op.fieldAddr 45 (Go.Operand.tmp 1) 3, type := 0, pos := "ref.go:90", after := #[], guard := none }
def rTurnr3_21 : Oper := { dst := some 28, op := Go.Op.load 32 (Go.Operand.tmp 27), type := 32, pos := "ref.go:90", after := #[{ on := 20, ground := Go.Ground.data }], guard := none }
def rTurnr3_22 : Oper := { dst := some 29, op := Go.Op.call { callee := Go.Callee.value (Go.Operand.func 29), args := #[Go.Operand.tmp 24, Go.Operand.tmp 26, Go.Operand.tmp 28], argTypes := #[3, 32, 32] }, type := 32, pos := "ref.go:90", after := #[{ on := 17, ground := Go.Ground.data }, { on := 19, ground := Go.Ground.data }, { on := 21, ground := Go.Ground.data }, { on := 15, ground := Go.Ground.chain }], guard := none }
def rTurnr3_23 : Oper := { dst := some 30, op := Go.Op.fieldAddr 45 (Go.Operand.tmp 1) 0, type := 0, pos := "ref.go:90", after := #[], guard := none }
def rTurnr3_24 : Oper := { dst := some 31, op := Go.Op.load 3 (Go.Operand.tmp 30), type := 3, pos := "ref.go:90", after := #[{ on := 23, ground := Go.Ground.data }], guard := none }
def rTurnr3_25 : Oper := { dst := some 32, op := Go.Op.fieldAddr 45 (Go.Operand.tmp 1) 2, type := 0, pos := "ref.go:90", after := #[], guard := none }
def rTurnr3_26 : Oper := { dst := some 33, op := Go.Op.load 32 (Go.Operand.tmp 32), type := 32, pos := "ref.go:90", after := #[{ on := 25, ground := Go.Ground.data }], guard := none }
def rTurnr3_27 : Oper := { dst := some 34, op := Go.Op.fieldAddr 45 (Go.Operand.tmp 1) 4, type := 0, pos := "ref.go:90", after := #[], guard := none }
def rTurnr3_28 : Oper := { dst := some 35, op := Go.Op.load 32 (Go.Operand.tmp 34), type := 32, pos := "ref.go:90", after := #[{ on := 27, ground := Go.Ground.data }], guard := none }
def rTurnr3_29 : Oper := { dst := some 36, op := Go.Op.call { callee := Go.Callee.value (Go.Operand.func 29), args := #[Go.Operand.tmp 31, Go.Operand.tmp 33, Go.Operand.tmp 35], argTypes := #[3, 32, 32] }, type := 32, pos := "ref.go:90", after := #[{ on := 24, ground := Go.Ground.data }, { on := 26, ground := Go.Ground.data }, { on := 28, ground := Go.Ground.data }, { on := 22, ground := Go.Ground.chain }], guard := none }
def rTurnr3_30 : Oper := { dst := some 37, op := Go.Op.fieldAddr 45 (Go.Operand.tmp 1) 5, type := 0, pos := "ref.go:90", after := #[], guard := none }
def rTurnr3_31 : Oper := { dst := some 38, op := Go.Op.load 32 (Go.Operand.tmp 37), type := 32, pos := "ref.go:90", after := #[{ on := 30, ground := Go.Ground.data }], guard := none }
def rTurnr3_32 : Oper := { dst := some 39, op := Go.Op.buildSlice 30 4 #[(0, Go.Operand.tmp 22), (1, Go.Operand.tmp 29), (2, Go.Operand.tmp 36), (3, Go.Operand.tmp 38)], type := 30, pos := "ref.go:90", after := #[{ on := 15, ground := Go.Ground.data }, { on := 22, ground := Go.Ground.data }, { on := 29, ground := Go.Ground.data }, { on := 31, ground := Go.Ground.data }], guard := none }
def rTurnr3_33 : Oper := { dst := some 40, op := Go.Op.call { callee := Go.Callee.value (Go.Operand.func 109), args := #[Go.Operand.const (Go.Value.int Go.IntKind.i64 3), Go.Operand.tmp 19, Go.Operand.const (Go.Value.int Go.IntKind.i64 0), Go.Operand.tmp 39], argTypes := #[3, 3, 3, 30] }, type := 32, pos := "ref.go:90", after := #[{ on := 12, ground := Go.Ground.data }, { on := 32, ground := Go.Ground.data }, { on := 29, ground := Go.Ground.chain }], guard := none }
def rTurnr3_34 : Oper := { dst := some 41, op := Go.Op.build 45 #[(0, Go.Operand.tmp 8), (1, Go.Operand.tmp 10), (2, Go.Operand.tmp 12), (3, Go.Operand.tmp 14), (4, Go.Operand.tmp 16), (5, Go.Operand.tmp 40)], type := 45, pos := "ref.go:90", after := #[{ on := 1, ground := Go.Ground.data }, { on := 3, ground := Go.Ground.data }, { on := 5, ground := Go.Ground.data }, { on := 7, ground := Go.Ground.data }, { on := 9, ground := Go.Ground.data }, { on := 33, ground := Go.Ground.data }], guard := none }
def rTurnr3_35 : Oper := { dst := none, op := Go.Op.store 45 (Go.Operand.tmp 2) (Go.Operand.tmp 41), type := 0, pos := "ref.go:90", after := #[{ on := 34, ground := Go.Ground.data }, { on := 33, ground := Go.Ground.chain }, { on := 0, ground := Go.Ground.phase }, { on := 1, ground := Go.Ground.phase }, { on := 2, ground := Go.Ground.phase }, { on := 3, ground := Go.Ground.phase }, { on := 4, ground := Go.Ground.phase }, { on := 5, ground := Go.Ground.phase }, { on := 6, ground := Go.Ground.phase }, { on := 7, ground := Go.Ground.phase }, { on := 8, ground := Go.Ground.phase }, { on := 9, ground := Go.Ground.phase }, { on := 10, ground := Go.Ground.phase }, { on := 11, ground := Go.Ground.phase }, { on := 12, ground := Go.Ground.phase }, { on := 13, ground := Go.Ground.phase }, { on := 14, ground := Go.Ground.phase }, { on := 15, ground := Go.Ground.phase }, { on := 16, ground := Go.Ground.phase }, { on := 17, ground := Go.Ground.phase }, { on := 18, ground := Go.Ground.phase }, { on := 19, ground := Go.Ground.phase }, { on := 20, ground := Go.Ground.phase }, { on := 21, ground := Go.Ground.phase }, { on := 22, ground := Go.Ground.phase }, { on := 23, ground := Go.Ground.phase }, { on := 24, ground := Go.Ground.phase }, { on := 25, ground := Go.Ground.phase }, { on := 26, ground := Go.Ground.phase }, { on := 27, ground := Go.Ground.phase }, { on := 28, ground := Go.Ground.phase }, { on := 29, ground := Go.Ground.phase }, { on := 30, ground := Go.Ground.phase }, { on := 31, ground := Go.Ground.phase }, { on := 32, ground := Go.Ground.phase }, { on := 33, ground := Go.Ground.phase }, { on := 34, ground := Go.Ground.phase }], guard := none }
set_option maxRecDepth 20000 in
set_option maxHeartbeats 4000000 in
theorem rTurn_any (h : He) (P : Nat → Prop) (w : World) (sha : Value) (shb : Value) (shx : Value) (shy : Value) (shh : Value) (hfh : h.fine) (hlh : HQ w P h sha shb shx shy shh) : Calls Try.prog 38 #[hv h sha shb shx shy shh] w (GivesHP P (heTurn h) w) := by
  have Gh := Lib.hid hfh
  clear hfh
  obtain ⟨hlha, hlhb, hlhx, hlhy, hlhh⟩ := hlh
  obtain ⟨aha, cha, Sha, rfl, -⟩ := hlha.out
  obtain ⟨ahb, chb, Shb, rfl, -⟩ := hlhb.out
  obtain ⟨ahx, chx, Shx, rfl, -⟩ := hlhx.out
  obtain ⟨ahy, chy, Shy, rfl, -⟩ := hlhy.out
  obtain ⟨ahh, chh, Shh, rfl, -⟩ := hlhh.out
  obtain ⟨du, hu1, hu2⟩ := under_term
  obtain ⟨dr, dr1, dr2⟩ := under_of 45 (by kernel_rfl)
  unfold hv
  go_enter Try.func38, Try.ntmps38
  go_upto_region 1 with fail
  refine at_code (fun V0 hV0 => ?_)
  obtain ⟨k3, x1, x2, z4⟩ := alloc2 hV0
  have Kk5 := Lib.hid k3
  clear k3
  have Hx1 := Lib.hid x1
  have Hx2 := Lib.hid x2
  have Z0 := Lib.hid z4
  clear z4 x1 x2 hV0
  have HLha : Hid (LiesQ V0 (Par w V0.heap.size [] P) h.a.kids _) := (par_in _ _ hlha).later Kk5.out
  clear hlha
  have HLhb : Hid (LiesQ V0 (Par w V0.heap.size [] P) h.b.kids _) := (par_in _ _ hlhb).later Kk5.out
  clear hlhb
  have HLhx : Hid (LiesQ V0 (Par w V0.heap.size [] P) h.x.kids _) := (par_in _ _ hlhx).later Kk5.out
  clear hlhx
  have HLhy : Hid (LiesQ V0 (Par w V0.heap.size [] P) h.y.kids _) := (par_in _ _ hlhy).later Kk5.out
  clear hlhy
  have HLhh : Hid (LiesQ V0 (Par w V0.heap.size [] P) h.h.kids _) := (par_in _ _ hlhh).later Kk5.out
  clear hlhh
  have ld6 := part_cell (r := (w.heap.size + 1)) Hx1.out (by have := Z0.out; omega) 0 (.int .i64 h.i) rfl
  have kvV0 : Sees V0 (w.heap.size + 1) V0 := sees_kept _ (kept_refl _)
  go_wp2_with (refine stop_load 45 (.tmp 1) rfl ?_)
  intro _
  refine wpList_load_part (w.heap.size) 0 45 (.tmp 1) #[.int .i64 h.i, .int .i64 h.a.k, .int .i64 h.a.i, .int .i64 h.a.j, .int .i64 h.a.n, (.slice aha h.a.kids.length cha), .int .i64 h.b.k, .int .i64 h.b.i, .int .i64 h.b.j, .int .i64 h.b.n, (.slice ahb h.b.kids.length chb), .int .i64 h.x.k, .int .i64 h.x.i, .int .i64 h.x.j, .int .i64 h.x.n, (.slice ahx h.x.kids.length chx), .int .i64 h.y.k, .int .i64 h.y.i, .int .i64 h.y.j, .int .i64 h.y.n, (.slice ahy h.y.kids.length chy), .int .i64 h.h.k, .int .i64 h.h.i, .int .i64 h.h.j, .int .i64 h.h.n, (.slice ahh h.h.kids.length chh)] dr Hx1.out (by rfl) rfl (by rfl) (by rfl) dr1 (by cases dr <;> first | rfl | exact dr2) (by kernel_rfl) ?_
  go_wp2_with fail
  clear kvV0
  refine (rRight_any h (Par w V0.heap.size [] P) _ (.slice aha h.a.kids.length cha) (.slice ahb h.b.kids.length chb) (.slice ahx h.x.kids.length chx) (.slice ahy h.y.kids.length chy) (.slice ahh h.h.kids.length chh) ⟨Gh.out.1, Gh.out.2.1, Gh.out.2.2.1, Gh.out.2.2.2.1, Gh.out.2.2.2.2.1, Gh.out.2.2.2.2.2⟩ ⟨HLha.out, HLhb.out, HLhx.out, HLhy.out, HLhh.out⟩).mono ?_
  obtain ⟨rb10, hb9⟩ : ∃ qb, heR h = qb := ⟨_, rfl⟩
  rw [hb9]
  have Hhb9 := Lib.hid hb9
  clear hb9
  rintro e w7 ⟨rfl, k8⟩
  have Kk11 := Lib.hid k8
  clear k8
  cases rb10 with
  | false =>
    have kvV0 : Sees V0 (w.heap.size + 1) w7 := sees_kept _ Kk11.out
    go_wp2_with (refine stop_store 45 (.tmp 2) (.tmp 6) rfl ?_)
    intro _
    refine wpList_store_part_n (by rfl) 45 (.tmp 2) (.tmp 6) rfl (w.heap.size + 1) 0 #[.int .i64 0, .int .i64 0, .int .i64 0, .int .i64 0, .int .i64 0, .slice none 0 0, .int .i64 0, .int .i64 0, .int .i64 0, .int .i64 0, .slice none 0 0, .int .i64 0, .int .i64 0, .int .i64 0, .int .i64 0, .slice none 0 0, .int .i64 0, .int .i64 0, .int .i64 0, .int .i64 0, .slice none 0 0, .int .i64 0, .int .i64 0, .int .i64 0, .int .i64 0, .slice none 0 0] (by rfl) (by rfl) 45 (by kernel_rfl) (row_ok rfl) ?_
    intro W12 hW12
    clear kvV0
    subst hW12
    refine ⟨_, #[.int .i64 0, .int .i64 0, .int .i64 0, .int .i64 0, .int .i64 0, .slice none 0 0, .int .i64 0, .int .i64 0, .int .i64 0, .int .i64 0, .slice none 0 0, .int .i64 0, .int .i64 0, .int .i64 0, .int .i64 0, .slice none 0 0, .int .i64 0, .int .i64 0, .int .i64 0, .int .i64 0, .slice none 0 0, .int .i64 0, .int .i64 0, .int .i64 0, .int .i64 0, .slice none 0 0], (blk_at Hx2.out Kk11.out), rfl, Nat.le_of_ble_eq_true rfl, ?_⟩
    intro W13 hW13
    go_wp2_with fail
    refine bodyPost_ret (results_cell_row rfl _ _ (w.heap.size + 1) 45 _ _ dr rfl (blk_same (blk_at Hx2.out Kk11.out) hW13) dr1 (by cases dr <;> first | rfl | exact dr2) (by kernel_rfl)) rfl ?_
    rw [show heTurn h = (⟨0, (.mk 0 0 0 0 []), (.mk 0 0 0 0 []), (.mk 0 0 0 0 []), (.mk 0 0 0 0 []), (.mk 0 0 0 0 [])⟩ : He) from by unfold heTurn; rw [Hhb9.out]; (try rfl)]
    exact ⟨_, _, _, _, _, rfl, ⟨par_end (par_row' (liesQ_nil w7 (Par w V0.heap.size [] P)) hW13 (by omega) (by have := Z0.out; omega)) (by have := Z0.out; omega), par_end (par_row' (liesQ_nil w7 (Par w V0.heap.size [] P)) hW13 (by omega) (by have := Z0.out; omega)) (by have := Z0.out; omega), par_end (par_row' (liesQ_nil w7 (Par w V0.heap.size [] P)) hW13 (by omega) (by have := Z0.out; omega)) (by have := Z0.out; omega), par_end (par_row' (liesQ_nil w7 (Par w V0.heap.size [] P)) hW13 (by omega) (by have := Z0.out; omega)) (by have := Z0.out; omega), par_end (par_row' (liesQ_nil w7 (Par w V0.heap.size [] P)) hW13 (by omega) (by have := Z0.out; omega)) (by have := Z0.out; omega)⟩, kept_set (kept_trans Kk5.out Kk11.out) hW13 (by omega)⟩
  | true =>
    have ew14 : IntKind.i64.wrap (h.i + 1) = h.i + 1 := IntWalk.i64_in _ (by have := levN_true (heR_lev Hhb9.out); omega)
    have kvV0 : Sees V0 (w.heap.size + 1) w7 := sees_kept _ Kk11.out
    go_wp2_with fail
    clear kvV0
    obtain ⟨W15, h16⟩ : ∃ x, World.drew w7 = x := ⟨_, rfl⟩
    have k17 : Kept w7 W15 := by rw [← h16]; exact kept_drew (kept_refl _)
    have Kk18 := Lib.hid k17
    clear k17
    refine wp_region_held_drew (S := Sees W15 (w.heap.size + 1)) (by kernel_rfl) ?_ (fun hHeld => ?_)
    · (try dsimp only)
      rw [h16]
      exact sees_kept _ (kept_refl _)
    rw [h16] at hHeld ⊢
    clear h16
    refine take_at 0 7 rTurnr3_0 (v := ?_) (Or.inl ⟨by rfl, ?_⟩) ?_
    rotate_left 1
    · ((intro w hSw; (try dsimp only at hSw); unfold rTurnr3_0; go_simp) <;> with_reducible rfl)
    (try simp only [Act.put, List.setIfInBounds_toArray, List.set_cons_zero, List.set_cons_succ])
    refine take_at 1 8 rTurnr3_1 (v := ?_) (Or.inl ⟨by rfl, ?_⟩) ?_
    rotate_left 1
    · ((intro w hSw; (try dsimp only at hSw); have qV0 := sees_of (kept_trans Kk11.out Kk18.out) hSw; unfold rTurnr3_1; go_simp) <;> with_reducible rfl)
    (try simp only [Act.put, List.setIfInBounds_toArray, List.set_cons_zero, List.set_cons_succ])
    refine take_at 2 9 rTurnr3_2 (v := ?_) (Or.inl ⟨by rfl, ?_⟩) ?_
    rotate_left 1
    · ((intro w hSw; (try dsimp only at hSw); unfold rTurnr3_2; go_simp) <;> with_reducible rfl)
    (try simp only [Act.put, List.setIfInBounds_toArray, List.set_cons_zero, List.set_cons_succ])
    refine take_at 3 10 rTurnr3_3 (yields_part (w.heap.size) 6 32 (.tmp 9) #[.int .i64 h.b.k, .int .i64 h.b.i, .int .i64 h.b.j, .int .i64 h.b.n, (.slice ahb h.b.kids.length chb)] du (fun _ h => sees_blk Hx1.out (by have := Z0.out; omega) (sees_of (kept_trans Kk11.out Kk18.out) h)) (by rfl) rfl (by rfl) (by rfl) hu1 (by cases du <;> first | rfl | exact hu2) size_term) ?_
    (try simp only [Act.put, List.setIfInBounds_toArray, List.set_cons_zero, List.set_cons_succ])
    refine take_at 4 11 rTurnr3_4 (v := ?_) (Or.inl ⟨by rfl, ?_⟩) ?_
    rotate_left 1
    · ((intro w hSw; (try dsimp only at hSw); unfold rTurnr3_4; go_simp) <;> with_reducible rfl)
    (try simp only [Act.put, List.setIfInBounds_toArray, List.set_cons_zero, List.set_cons_succ])
    refine take_at 5 12 rTurnr3_5 (yields_part (w.heap.size) 1 32 (.tmp 11) #[.int .i64 h.a.k, .int .i64 h.a.i, .int .i64 h.a.j, .int .i64 h.a.n, (.slice aha h.a.kids.length cha)] du (fun _ h => sees_blk Hx1.out (by have := Z0.out; omega) (sees_of (kept_trans Kk11.out Kk18.out) h)) (by rfl) rfl (by rfl) (by rfl) hu1 (by cases du <;> first | rfl | exact hu2) size_term) ?_
    (try simp only [Act.put, List.setIfInBounds_toArray, List.set_cons_zero, List.set_cons_succ])
    refine take_at 6 13 rTurnr3_6 (v := ?_) (Or.inl ⟨by rfl, ?_⟩) ?_
    rotate_left 1
    · ((intro w hSw; (try dsimp only at hSw); unfold rTurnr3_6; go_simp) <;> with_reducible rfl)
    (try simp only [Act.put, List.setIfInBounds_toArray, List.set_cons_zero, List.set_cons_succ])
    refine take_at 7 14 rTurnr3_7 (yields_part (w.heap.size) 16 32 (.tmp 13) #[.int .i64 h.y.k, .int .i64 h.y.i, .int .i64 h.y.j, .int .i64 h.y.n, (.slice ahy h.y.kids.length chy)] du (fun _ h => sees_blk Hx1.out (by have := Z0.out; omega) (sees_of (kept_trans Kk11.out Kk18.out) h)) (by rfl) rfl (by rfl) (by rfl) hu1 (by cases du <;> first | rfl | exact hu2) size_term) ?_
    (try simp only [Act.put, List.setIfInBounds_toArray, List.set_cons_zero, List.set_cons_succ])
    refine take_at 8 15 rTurnr3_8 (v := ?_) (Or.inl ⟨by rfl, ?_⟩) ?_
    rotate_left 1
    · ((intro w hSw; (try dsimp only at hSw); unfold rTurnr3_8; go_simp) <;> with_reducible rfl)
    (try simp only [Act.put, List.setIfInBounds_toArray, List.set_cons_zero, List.set_cons_succ])
    refine take_at 9 16 rTurnr3_9 (yields_part (w.heap.size) 11 32 (.tmp 15) #[.int .i64 h.x.k, .int .i64 h.x.i, .int .i64 h.x.j, .int .i64 h.x.n, (.slice ahx h.x.kids.length chx)] du (fun _ h => sees_blk Hx1.out (by have := Z0.out; omega) (sees_of (kept_trans Kk11.out Kk18.out) h)) (by rfl) rfl (by rfl) (by rfl) hu1 (by cases du <;> first | rfl | exact hu2) size_term) ?_
    (try simp only [Act.put, List.setIfInBounds_toArray, List.set_cons_zero, List.set_cons_succ])
    refine take_at 10 17 rTurnr3_10 (v := ?_) (Or.inl ⟨by rfl, ?_⟩) ?_
    rotate_left 1
    · ((intro w hSw; (try dsimp only at hSw); unfold rTurnr3_10; go_simp) <;> with_reducible rfl)
    (try simp only [Act.put, List.setIfInBounds_toArray, List.set_cons_zero, List.set_cons_succ])
    refine take_at 11 18 rTurnr3_11 (v := ?_) (Or.inl ⟨by rfl, ?_⟩) ?_
    rotate_left 1
    · ((intro w hSw; (try dsimp only at hSw); have qV0 := sees_of (kept_trans Kk11.out Kk18.out) hSw; unfold rTurnr3_11; go_simp) <;> with_reducible rfl)
    (try simp only [Act.put, List.setIfInBounds_toArray, List.set_cons_zero, List.set_cons_succ])
    refine take_at 12 19 rTurnr3_12 (v := ?_) (Or.inl ⟨by rfl, ?_⟩) ?_
    rotate_left 1
    · ((intro w hSw; (try dsimp only at hSw); unfold rTurnr3_12; go_simp) <;> with_reducible rfl)
    (try simp only [Act.put, List.setIfInBounds_toArray, List.set_cons_zero, List.set_cons_succ])
    refine take_at 13 20 rTurnr3_13 (v := ?_) (Or.inl ⟨by rfl, ?_⟩) ?_
    rotate_left 1
    · ((intro w hSw; (try dsimp only at hSw); unfold rTurnr3_13; go_simp) <;> with_reducible rfl)
    (try simp only [Act.put, List.setIfInBounds_toArray, List.set_cons_zero, List.set_cons_succ])
    refine take_at 14 21 rTurnr3_14 (v := ?_) (Or.inl ⟨by rfl, ?_⟩) ?_
    rotate_left 1
    · ((intro w hSw; (try dsimp only at hSw); have qV0 := sees_of (kept_trans Kk11.out Kk18.out) hSw; unfold rTurnr3_14; go_simp) <;> with_reducible rfl)
    (try simp only [Act.put, List.setIfInBounds_toArray, List.set_cons_zero, List.set_cons_succ])
    refine take_at 16 23 rTurnr3_16 (v := ?_) (Or.inl ⟨by rfl, ?_⟩) ?_
    rotate_left 1
    · ((intro w hSw; (try dsimp only at hSw); unfold rTurnr3_16; go_simp) <;> with_reducible rfl)
    (try simp only [Act.put, List.setIfInBounds_toArray, List.set_cons_zero, List.set_cons_succ])
    refine take_at 17 24 rTurnr3_17 (v := ?_) (Or.inl ⟨by rfl, ?_⟩) ?_
    rotate_left 1
    · ((intro w hSw; (try dsimp only at hSw); have qV0 := sees_of (kept_trans Kk11.out Kk18.out) hSw; unfold rTurnr3_17; go_simp) <;> with_reducible rfl)
    (try simp only [Act.put, List.setIfInBounds_toArray, List.set_cons_zero, List.set_cons_succ])
    refine take_at 18 25 rTurnr3_18 (v := ?_) (Or.inl ⟨by rfl, ?_⟩) ?_
    rotate_left 1
    · ((intro w hSw; (try dsimp only at hSw); unfold rTurnr3_18; go_simp) <;> with_reducible rfl)
    (try simp only [Act.put, List.setIfInBounds_toArray, List.set_cons_zero, List.set_cons_succ])
    refine take_at 19 26 rTurnr3_19 (yields_part (w.heap.size) 1 32 (.tmp 25) #[.int .i64 h.a.k, .int .i64 h.a.i, .int .i64 h.a.j, .int .i64 h.a.n, (.slice aha h.a.kids.length cha)] du (fun _ h => sees_blk Hx1.out (by have := Z0.out; omega) (sees_of (kept_trans Kk11.out Kk18.out) h)) (by rfl) rfl (by rfl) (by rfl) hu1 (by cases du <;> first | rfl | exact hu2) size_term) ?_
    (try simp only [Act.put, List.setIfInBounds_toArray, List.set_cons_zero, List.set_cons_succ])
    refine take_at 20 27 rTurnr3_20 (v := ?_) (Or.inl ⟨by rfl, ?_⟩) ?_
    rotate_left 1
    · ((intro w hSw; (try dsimp only at hSw); unfold rTurnr3_20; go_simp) <;> with_reducible rfl)
    (try simp only [Act.put, List.setIfInBounds_toArray, List.set_cons_zero, List.set_cons_succ])
    refine take_at 21 28 rTurnr3_21 (yields_part (w.heap.size) 11 32 (.tmp 27) #[.int .i64 h.x.k, .int .i64 h.x.i, .int .i64 h.x.j, .int .i64 h.x.n, (.slice ahx h.x.kids.length chx)] du (fun _ h => sees_blk Hx1.out (by have := Z0.out; omega) (sees_of (kept_trans Kk11.out Kk18.out) h)) (by rfl) rfl (by rfl) (by rfl) hu1 (by cases du <;> first | rfl | exact hu2) size_term) ?_
    (try simp only [Act.put, List.setIfInBounds_toArray, List.set_cons_zero, List.set_cons_succ])
    refine take_at 23 30 rTurnr3_23 (v := ?_) (Or.inl ⟨by rfl, ?_⟩) ?_
    rotate_left 1
    · ((intro w hSw; (try dsimp only at hSw); unfold rTurnr3_23; go_simp) <;> with_reducible rfl)
    (try simp only [Act.put, List.setIfInBounds_toArray, List.set_cons_zero, List.set_cons_succ])
    refine take_at 24 31 rTurnr3_24 (v := ?_) (Or.inl ⟨by rfl, ?_⟩) ?_
    rotate_left 1
    · ((intro w hSw; (try dsimp only at hSw); have qV0 := sees_of (kept_trans Kk11.out Kk18.out) hSw; unfold rTurnr3_24; go_simp) <;> with_reducible rfl)
    (try simp only [Act.put, List.setIfInBounds_toArray, List.set_cons_zero, List.set_cons_succ])
    refine take_at 25 32 rTurnr3_25 (v := ?_) (Or.inl ⟨by rfl, ?_⟩) ?_
    rotate_left 1
    · ((intro w hSw; (try dsimp only at hSw); unfold rTurnr3_25; go_simp) <;> with_reducible rfl)
    (try simp only [Act.put, List.setIfInBounds_toArray, List.set_cons_zero, List.set_cons_succ])
    refine take_at 26 33 rTurnr3_26 (yields_part (w.heap.size) 6 32 (.tmp 32) #[.int .i64 h.b.k, .int .i64 h.b.i, .int .i64 h.b.j, .int .i64 h.b.n, (.slice ahb h.b.kids.length chb)] du (fun _ h => sees_blk Hx1.out (by have := Z0.out; omega) (sees_of (kept_trans Kk11.out Kk18.out) h)) (by rfl) rfl (by rfl) (by rfl) hu1 (by cases du <;> first | rfl | exact hu2) size_term) ?_
    (try simp only [Act.put, List.setIfInBounds_toArray, List.set_cons_zero, List.set_cons_succ])
    refine take_at 27 34 rTurnr3_27 (v := ?_) (Or.inl ⟨by rfl, ?_⟩) ?_
    rotate_left 1
    · ((intro w hSw; (try dsimp only at hSw); unfold rTurnr3_27; go_simp) <;> with_reducible rfl)
    (try simp only [Act.put, List.setIfInBounds_toArray, List.set_cons_zero, List.set_cons_succ])
    refine take_at 28 35 rTurnr3_28 (yields_part (w.heap.size) 16 32 (.tmp 34) #[.int .i64 h.y.k, .int .i64 h.y.i, .int .i64 h.y.j, .int .i64 h.y.n, (.slice ahy h.y.kids.length chy)] du (fun _ h => sees_blk Hx1.out (by have := Z0.out; omega) (sees_of (kept_trans Kk11.out Kk18.out) h)) (by rfl) rfl (by rfl) (by rfl) hu1 (by cases du <;> first | rfl | exact hu2) size_term) ?_
    (try simp only [Act.put, List.setIfInBounds_toArray, List.set_cons_zero, List.set_cons_succ])
    refine take_at 30 37 rTurnr3_30 (v := ?_) (Or.inl ⟨by rfl, ?_⟩) ?_
    rotate_left 1
    · ((intro w hSw; (try dsimp only at hSw); unfold rTurnr3_30; go_simp) <;> with_reducible rfl)
    (try simp only [Act.put, List.setIfInBounds_toArray, List.set_cons_zero, List.set_cons_succ])
    refine take_at 31 38 rTurnr3_31 (yields_part (w.heap.size) 21 32 (.tmp 37) #[.int .i64 h.h.k, .int .i64 h.h.i, .int .i64 h.h.j, .int .i64 h.h.n, (.slice ahh h.h.kids.length chh)] du (fun _ h => sees_blk Hx1.out (by have := Z0.out; omega) (sees_of (kept_trans Kk11.out Kk18.out) h)) (by rfl) rfl (by rfl) (by rfl) hu1 (by cases du <;> first | rfl | exact hu2) size_term) ?_
    (try simp only [Act.put, List.setIfInBounds_toArray, List.set_cons_zero, List.set_cons_succ])
    refine wpAnyH_ready (rs := [15]) (by kernel_rfl) (by simp) ?_
    refine AllReadyH.cons (o := rTurnr3_15) rfl (fun K hK => ?_) ?_
    · unfold rTurnr3_15
      go_simp
      refine ((rPoints_any h.i (Par w V0.heap.size [] P) _ Gh.out.1).mono (fun _ _ h => by rw [points_good (heR_lev Hhb9.out)] at h; exact h)).mono ?_
      obtain ⟨U26, hU26⟩ : ∃ qu, pointsT h.i = qu := ⟨_, rfl⟩
      rw [hU26]
      have HU26 := Lib.hid hU26
      clear hU26
      rintro e w19 ⟨s21, rfl, hl22, k20⟩
      obtain ⟨a23, c24, S25, rfl, -⟩ := hl22.out
      have Kk27 := Lib.hid k20
      clear k20
      have Hhl22 : Hid (LiesQ w19 (Par w V0.heap.size [] P) U26.kids _) := par_give hl22 (Below.size (kept_trans Kk11.out Kk18.out)) (xlt_nil _)
      clear hl22
      clear hHeld
      refine hK.out _ _ ?_ (fun hHeld => ?_)
      · (try dsimp only)
        exact sees_kept _ Kk27.out
      clear hK K
      (try simp only [Act.put, List.setIfInBounds_toArray, List.set_cons_zero, List.set_cons_succ])
      refine wpAnyH_ready (rs := [22]) (by kernel_rfl) (by simp) ?_
      refine AllReadyH.cons (o := rTurnr3_22) rfl (fun K hK => ?_) ?_
      · unfold rTurnr3_22
        go_simp
        refine ((rPoint_any h.i h.a h.x (Par w V0.heap.size [] P) _ (.slice aha h.a.kids.length cha) (.slice ahx h.x.kids.length chx) Gh.out.1 Gh.out.2.1 (HLha.out.later (kept_trans Kk11.out (kept_trans Kk18.out Kk27.out))) Gh.out.2.2.2.1 (HLhx.out.later (kept_trans Kk11.out (kept_trans Kk18.out Kk27.out)))).mono (fun _ _ h => by rw [point_good (heR_lev Hhb9.out) (heR_pl Hhb9.out _ (by simp)) (heR_pl Hhb9.out _ (by simp))] at h; exact h)).mono ?_
        obtain ⟨U35, hU35⟩ : ∃ qu, pointT h.i h.a h.x = qu := ⟨_, rfl⟩
        rw [hU35]
        have HU35 := Lib.hid hU35
        clear hU35
        rintro e w28 ⟨s30, rfl, hl31, k29⟩
        obtain ⟨a32, c33, S34, rfl, -⟩ := hl31.out
        have Kk36 := Lib.hid k29
        clear k29
        have Hhl31 : Hid (LiesQ w28 (Par w V0.heap.size [] P) U35.kids _) := par_give hl31 (Below.size (kept_trans Kk11.out (kept_trans Kk18.out Kk27.out))) (xlt_nil _)
        clear hl31
        clear hHeld
        refine hK.out _ _ ?_ (fun hHeld => ?_)
        · (try dsimp only)
          exact sees_kept _ (kept_trans Kk27.out Kk36.out)
        clear hK K
        (try simp only [Act.put, List.setIfInBounds_toArray, List.set_cons_zero, List.set_cons_succ])
        refine wpAnyH_ready (rs := [29]) (by kernel_rfl) (by simp) ?_
        refine AllReadyH.cons (o := rTurnr3_29) rfl (fun K hK => ?_) ?_
        · unfold rTurnr3_29
          go_simp
          refine ((rPoint_any h.i h.b h.y (Par w V0.heap.size [] P) _ (.slice ahb h.b.kids.length chb) (.slice ahy h.y.kids.length chy) Gh.out.1 Gh.out.2.2.1 (HLhb.out.later (kept_trans Kk11.out (kept_trans Kk18.out (kept_trans Kk27.out Kk36.out)))) Gh.out.2.2.2.2.1 (HLhy.out.later (kept_trans Kk11.out (kept_trans Kk18.out (kept_trans Kk27.out Kk36.out))))).mono (fun _ _ h => by rw [point_good (heR_lev Hhb9.out) (heR_pl Hhb9.out _ (by simp)) (heR_pl Hhb9.out _ (by simp))] at h; exact h)).mono ?_
          obtain ⟨U44, hU44⟩ : ∃ qu, pointT h.i h.b h.y = qu := ⟨_, rfl⟩
          rw [hU44]
          have HU44 := Lib.hid hU44
          clear hU44
          rintro e w37 ⟨s39, rfl, hl40, k38⟩
          obtain ⟨a41, c42, S43, rfl, -⟩ := hl40.out
          have Kk45 := Lib.hid k38
          clear k38
          have Hhl40 : Hid (LiesQ w37 (Par w V0.heap.size [] P) U44.kids _) := par_give hl40 (Below.size (kept_trans Kk11.out (kept_trans Kk18.out (kept_trans Kk27.out Kk36.out)))) (xlt_nil _)
          clear hl40
          clear hHeld
          refine hK.out _ _ ?_ (fun hHeld => ?_)
          · (try dsimp only)
            exact sees_kept _ (kept_trans Kk27.out (kept_trans Kk36.out Kk45.out))
          clear hK K
          (try simp only [Act.put, List.setIfInBounds_toArray, List.set_cons_zero, List.set_cons_succ])
          refine wpAnyH_ready (rs := [32]) (by kernel_rfl) (by simp) ?_
          refine AllReadyH.cons (o := rTurnr3_32) rfl (fun K hK => ?_) ?_
          · unfold rTurnr3_32
            go_simp
            refine at_K (fun W47 hW47 => ?_)
            obtain ⟨k49, x48, z50⟩ := alloc1 hW47
            have Kk51 := Lib.hid k49
            clear k49
            have Hx48 := Lib.hid x48
            have Hz50 := Lib.hid z50
            clear x48 z50 hW47
            have HR52 : Hid (LiesQ W47 (Par w V0.heap.size [] P) [U26, U35, U44, h.h] (.slice (some ⟨w37.heap.size, 0, none⟩) 4 4)) := q_row [(U26, (.slice a23 U26.kids.length c24)), (U35, (.slice a32 U35.kids.length c33)), (U44, (.slice a41 U44.kids.length c42)), (h.h, (.slice ahh h.h.kids.length chh))] _ rfl Hx48.out (par_new (Below.size (kept_trans Kk11.out (kept_trans Kk18.out (kept_trans Kk27.out (kept_trans Kk36.out Kk45.out))))) (xlt_nil _) (Nat.le_refl _)) (fun p hp => by
              simp only [List.mem_cons, List.not_mem_nil, or_false] at hp
              rcases hp with rfl | rfl | rfl | rfl
              · exact ⟨(by rw [← HU26.out]; exact (right_fine (plain_right (points_plain (heR_lev Hhb9.out))))), (Hhl22.out.later (kept_trans Kk36.out (kept_trans Kk45.out Kk51.out)))⟩
              · exact ⟨(by rw [← HU35.out]; exact (right_fine (plain_right (point_plain (heR_lev Hhb9.out) (heR_pl Hhb9.out _ (by simp)) (heR_pl Hhb9.out _ (by simp)))))), (Hhl31.out.later (kept_trans Kk45.out Kk51.out))⟩
              · exact ⟨(by rw [← HU44.out]; exact (right_fine (plain_right (point_plain (heR_lev Hhb9.out) (heR_pl Hhb9.out _ (by simp)) (heR_pl Hhb9.out _ (by simp)))))), (Hhl40.out.later Kk51.out)⟩
              · exact ⟨Gh.out.2.2.2.2.2, (HLhh.out.later (kept_trans Kk11.out (kept_trans Kk18.out (kept_trans Kk27.out (kept_trans Kk36.out (kept_trans Kk45.out Kk51.out))))))⟩) (Nat.le_of_ble_eq_true rfl)
            clear hHeld
            refine hK.out _ _ ?_ (fun hHeld => ?_)
            · (try dsimp only)
              exact sees_kept _ (kept_trans Kk27.out (kept_trans Kk36.out (kept_trans Kk45.out Kk51.out)))
            clear hK K
            (try simp only [Act.put, List.setIfInBounds_toArray, List.set_cons_zero, List.set_cons_succ])
            refine wpAnyH_ready (rs := [33]) (by kernel_rfl) (by simp) ?_
            refine AllReadyH.cons (o := rTurnr3_33) rfl (fun K hK => ?_) ?_
            · unfold rTurnr3_33
              go_simp
              refine (ruse_any 3 (h.i + 1) 0 [U26, U35, U44, h.h] (Par w V0.heap.size [] P) _ _ (show I64 3 from by unfold I64; decide) (lev_succ (heR_lev Hhb9.out) (by decide)) (show I64 0 from by unfold I64; decide) HR52.out (Nat.le_of_ble_eq_true rfl)).mono ?_
              obtain ⟨U60, hU60⟩ : ∃ qu, useT 3 (h.i + 1) 0 [U26, U35, U44, h.h] = qu := ⟨_, rfl⟩
              rw [hU60]
              have HU60 := Lib.hid hU60
              clear hU60
              rintro e w53 ⟨s55, rfl, hl56, k54⟩
              obtain ⟨a57, c58, S59, rfl, -⟩ := hl56.out
              have Kk61 := Lib.hid k54
              clear k54
              have Hhl56 : Hid (LiesQ w53 (Par w V0.heap.size [] P) U60.kids _) := par_give hl56 (Below.size (kept_trans Kk11.out (kept_trans Kk18.out (kept_trans Kk27.out (kept_trans Kk36.out (kept_trans Kk45.out Kk51.out)))))) (xlt_nil _)
              clear hl56
              clear hHeld
              refine hK.out _ _ ?_ (fun hHeld => ?_)
              · (try dsimp only)
                exact sees_kept _ (kept_trans Kk27.out (kept_trans Kk36.out (kept_trans Kk45.out (kept_trans Kk51.out Kk61.out))))
              clear hK K
              (try simp only [Act.put, List.setIfInBounds_toArray, List.set_cons_zero, List.set_cons_succ])
              refine take_at 34 41 rTurnr3_34 (v := ?_) (Or.inl ⟨by rfl, ?_⟩) ?_
              rotate_left 1
              · ((intro w hSw; (try dsimp only at hSw); unfold rTurnr3_34; go_simp) <;> with_reducible rfl)
              (try simp only [Act.put, List.setIfInBounds_toArray, List.set_cons_zero, List.set_cons_succ])
              refine wpAnyH_ready (rs := [35]) (by kernel_rfl) (by simp) ?_
              refine AllReadyH.cons (o := rTurnr3_35) rfl (fun K hK => ?_) ?_
              · unfold rTurnr3_35
                refine step_store_part rfl 45 (.tmp 2) (.tmp 41) rfl (w.heap.size + 1) 0 #[.int .i64 h.i, .int .i64 h.b.k, .int .i64 h.b.i, .int .i64 h.b.j, .int .i64 h.b.n, (.slice ahb h.b.kids.length chb), .int .i64 h.a.k, .int .i64 h.a.i, .int .i64 h.a.j, .int .i64 h.a.n, (.slice aha h.a.kids.length cha), .int .i64 h.y.k, .int .i64 h.y.i, .int .i64 h.y.j, .int .i64 h.y.n, (.slice ahy h.y.kids.length chy), .int .i64 h.x.k, .int .i64 h.x.i, .int .i64 h.x.j, .int .i64 h.x.n, (.slice ahx h.x.kids.length chx), .int .i64 U60.k, .int .i64 U60.i, .int .i64 U60.j, .int .i64 U60.n, (.slice a57 U60.kids.length c58)] rfl rfl 45 (by kernel_rfl) (row_ok rfl) _ #[.int .i64 h.i, .int .i64 h.b.k, .int .i64 h.b.i, .int .i64 h.b.j, .int .i64 h.b.n, (.slice ahb h.b.kids.length chb), .int .i64 h.a.k, .int .i64 h.a.i, .int .i64 h.a.j, .int .i64 h.a.n, (.slice aha h.a.kids.length cha), .int .i64 h.y.k, .int .i64 h.y.i, .int .i64 h.y.j, .int .i64 h.y.n, (.slice ahy h.y.kids.length chy), .int .i64 h.x.k, .int .i64 h.x.i, .int .i64 h.x.j, .int .i64 h.x.n, (.slice ahx h.x.kids.length chx), .int .i64 U60.k, .int .i64 U60.i, .int .i64 U60.j, .int .i64 U60.n, (.slice a57 U60.kids.length c58)] (blk_at Hx2.out (kept_trans Kk11.out (kept_trans Kk18.out (kept_trans Kk27.out (kept_trans Kk36.out (kept_trans Kk45.out (kept_trans Kk51.out Kk61.out))))))) rfl (Nat.le_of_ble_eq_true rfl) ?_
                intro W62 hW62
                clear hHeld
                refine hK.out _ _ ?_ (fun hHeld => ?_)
                · (try dsimp only)
                  exact sees_set (kept_trans Kk27.out (kept_trans Kk36.out (kept_trans Kk45.out (kept_trans Kk51.out Kk61.out)))) hW62
                clear hK K
                (try simp only [Act.put])
                refine wpAnyH_done (by kernel_rfl) ?_ _
                clear hHeld
                go_wp2_with fail
                refine bodyPost_ret (results_cell_row rfl _ _ (w.heap.size + 1) 45 _ _ dr rfl (blk_same (blk_at Hx2.out (kept_trans Kk11.out (kept_trans Kk18.out (kept_trans Kk27.out (kept_trans Kk36.out (kept_trans Kk45.out (kept_trans Kk51.out Kk61.out))))))) hW62) dr1 (by cases dr <;> first | rfl | exact dr2) (by kernel_rfl)) rfl ?_
                rw [show heTurn h = (⟨h.i, h.b, h.a, h.y, h.x, U60⟩ : He) from by unfold heTurn; rw [Hhb9.out]; rw [← HU60.out]; rw [← HU44.out]; rw [← HU35.out]; rw [← HU26.out]; (try rfl)]
                exact ⟨_, _, _, _, _, rfl, ⟨par_end (par_row' (HLhb.out.later (kept_trans Kk11.out (kept_trans Kk18.out (kept_trans Kk27.out (kept_trans Kk36.out (kept_trans Kk45.out (kept_trans Kk51.out Kk61.out))))))) hW62 (by omega) (by have := Z0.out; omega)) (by have := Z0.out; omega), par_end (par_row' (HLha.out.later (kept_trans Kk11.out (kept_trans Kk18.out (kept_trans Kk27.out (kept_trans Kk36.out (kept_trans Kk45.out (kept_trans Kk51.out Kk61.out))))))) hW62 (by omega) (by have := Z0.out; omega)) (by have := Z0.out; omega), par_end (par_row' (HLhy.out.later (kept_trans Kk11.out (kept_trans Kk18.out (kept_trans Kk27.out (kept_trans Kk36.out (kept_trans Kk45.out (kept_trans Kk51.out Kk61.out))))))) hW62 (by omega) (by have := Z0.out; omega)) (by have := Z0.out; omega), par_end (par_row' (HLhx.out.later (kept_trans Kk11.out (kept_trans Kk18.out (kept_trans Kk27.out (kept_trans Kk36.out (kept_trans Kk45.out (kept_trans Kk51.out Kk61.out))))))) hW62 (by omega) (by have := Z0.out; omega)) (by have := Z0.out; omega), par_end (par_row' Hhl56.out hW62 (by omega) (by have := Z0.out; omega)) (by have := Z0.out; omega)⟩, kept_set (kept_trans Kk5.out (kept_trans Kk11.out (kept_trans Kk18.out (kept_trans Kk27.out (kept_trans Kk36.out (kept_trans Kk45.out (kept_trans Kk51.out Kk61.out))))))) hW62 (by omega)⟩
              exact AllReadyH.nil
            exact AllReadyH.nil
          exact AllReadyH.nil
        exact AllReadyH.nil
      exact AllReadyH.nil
    exact AllReadyH.nil

def rOfr3_0 : Oper := { dst := some 24, op := Go.Op.move (Go.Operand.tmp 0), type := 3, pos := "ref.go:109", after := #[], guard := none }
def rOfr3_1 : Oper := { dst := some 25, op := Go.Op.load 32 (Go.Operand.tmp 6), type := 32, pos := "ref.go:109", after := #[], guard := none }
def rOfr3_2 : Oper := { dst := some 26, op := Go.Op.load 32 (Go.Operand.tmp 6), type := 32, pos := "ref.go:109", after := #[], guard := none }
def rOfr3_3 : Oper := { dst := some 27, op := Go.Op.load 32 (Go.Operand.tmp 7), type := 32, pos := "ref.go:109", after := #[], guard := none }
def rOfr3_4 : Oper := { dst := some 28, op := Go.Op.load 32 (Go.Operand.tmp 8), type := 32, pos := "ref.go:109", after := #[], guard := none }
def rOfr3_5 : Oper := { dst := some 29, op := Go.Op.move (Go.Operand.tmp 0), type := 3, pos := "ref.go:109", after := #[], guard := none }
def rOfr3_6 : Oper := { dst := some 30, op := Go.Op.load 32 (Go.Operand.tmp 6), type := 32, pos := "ref.go:109", after := #[], guard := none }
def rOfr3_7 : Oper := { dst := some 31, op := Go.Op.load 32 (Go.Operand.tmp 7), type := 32, pos := "ref.go:109", after := #[], guard := none }
def rOfr3_8 : Oper := { dst := some 32, op := Go.Op.load 32 (Go.Operand.tmp 8), type := 32, pos := "ref.go:109", after := #[], guard := none }
def rOfr3_9 : Oper := { dst := some 33, op := Go.Op.load 32 (Go.Operand.tmp 9), type := 32, pos := "ref.go:109", after := #[], guard := none }
def rOfr3_10 : Oper := { dst := some 34, op := Go.Op.buildSlice 30 4 #[(0, Go.Operand.tmp 30), (1, Go.Operand.tmp 31), (2, Go.Operand.tmp 32), (3, Go.Operand.tmp 33)], type := 30, pos := "ref.go:109", after := #[{ on := 6, ground := Go.Ground.data }, { on := 7, ground := Go.Ground.data }, { on := 8, ground := Go.Ground.data }, { on := 9, ground := Go.Ground.data }], guard := none }
def rOfr3_11 : Oper := { dst := some 35, op := Go.Op.call { callee := Go.Callee.value (Go.Operand.func 109), args := #[Go.Operand.const (Go.Value.int Go.IntKind.i64 11), Go.Operand.tmp 29, Go.Operand.const (Go.Value.int Go.IntKind.i64 0), Go.Operand.tmp 34], argTypes := #[3, 3, 3, 30] }, type := 32, pos := "ref.go:109", after := #[{ on := 5, ground := Go.Ground.data }, { on := 10, ground := Go.Ground.data }], guard := none }
def rOfr3_12 : Oper := { dst := some 36, op := Go.Op.build 45 #[(0, Go.Operand.tmp 24), (1, Go.Operand.tmp 25), (2, Go.Operand.tmp 26), (3, Go.Operand.tmp 27), (4, Go.Operand.tmp 28), (5, Go.Operand.tmp 35)], type := 45, pos := "ref.go:109", after := #[{ on := 0, ground := Go.Ground.data }, { on := 1, ground := Go.Ground.data }, { on := 2, ground := Go.Ground.data }, { on := 3, ground := Go.Ground.data }, { on := 4, ground := Go.Ground.data }, { on := 11, ground := Go.Ground.data }], guard := none }
def rOfr3_13 : Oper := { dst := none, op := Go.Op.store 45 (Go.Operand.tmp 10) (Go.Operand.tmp 36), type := 0, pos := "ref.go:109", after := #[{ on := 12, ground := Go.Ground.data }, { on := 11, ground := Go.Ground.chain }, { on := 0, ground := Go.Ground.phase }, { on := 1, ground := Go.Ground.phase }, { on := 2, ground := Go.Ground.phase }, { on := 3, ground := Go.Ground.phase }, { on := 4, ground := Go.Ground.phase }, { on := 5, ground := Go.Ground.phase }, { on := 6, ground := Go.Ground.phase }, { on := 7, ground := Go.Ground.phase }, { on := 8, ground := Go.Ground.phase }, { on := 9, ground := Go.Ground.phase }, { on := 10, ground := Go.Ground.phase }, { on := 11, ground := Go.Ground.phase }, { on := 12, ground := Go.Ground.phase }], guard := none }
set_option maxRecDepth 20000 in
set_option maxHeartbeats 4000000 in
theorem rOf_any (i : Int) (a : Tm) (x : Tm) (y : Tm) (e : Tm) (P : Nat → Prop) (w : World) (sa : Value) (sx : Value) (sy : Value) (se : Value) (hri : I64 i) (hfa : a.fine) (hla : LiesQ w P a.kids sa) (hfx : x.fine) (hlx : LiesQ w P x.kids sx) (hfy : y.fine) (hly : LiesQ w P y.kids sy) (hfe : e.fine) (hle : LiesQ w P e.kids se) : Calls Try.prog 46 #[.int .i64 i, tv a sa, tv x sx, tv y sy, tv e se] w (GivesHP P (heOf i a x y e) w) := by
  have Ri := Lib.hid hri
  clear hri
  have Ga := Lib.hid hfa
  clear hfa
  obtain ⟨aa, ca, Sa, rfl, -⟩ := hla.out
  have Gx := Lib.hid hfx
  clear hfx
  obtain ⟨ax, cx, Sx, rfl, -⟩ := hlx.out
  have Gy := Lib.hid hfy
  clear hfy
  obtain ⟨ay, cy, Sy, rfl, -⟩ := hly.out
  have Ge := Lib.hid hfe
  clear hfe
  obtain ⟨ae, ce, Se, rfl, -⟩ := hle.out
  obtain ⟨du, hu1, hu2⟩ := under_term
  obtain ⟨dr, dr1, dr2⟩ := under_of 45 (by kernel_rfl)
  unfold tv
  go_enter Try.func46, Try.ntmps46
  go_upto_region 1 with fail
  refine at_code (fun V0 hV0 => ?_)
  obtain ⟨k6, x1, x2, x3, x4, x5, z7⟩ := alloc5 hV0
  have Kk8 := Lib.hid k6
  clear k6
  have Hx1 := Lib.hid x1
  have Hx2 := Lib.hid x2
  have Hx3 := Lib.hid x3
  have Hx4 := Lib.hid x4
  have Hx5 := Lib.hid x5
  have Z0 := Lib.hid z7
  clear z7 x1 x2 x3 x4 x5 hV0
  have HLa : Hid (LiesQ V0 (Par w V0.heap.size [] P) a.kids _) := (par_in _ _ hla).later Kk8.out
  clear hla
  have HLx : Hid (LiesQ V0 (Par w V0.heap.size [] P) x.kids _) := (par_in _ _ hlx).later Kk8.out
  clear hlx
  have HLy : Hid (LiesQ V0 (Par w V0.heap.size [] P) y.kids _) := (par_in _ _ hly).later Kk8.out
  clear hly
  have HLe : Hid (LiesQ V0 (Par w V0.heap.size [] P) e.kids _) := (par_in _ _ hle).later Kk8.out
  clear hle
  have kvV0 : Sees V0 (w.heap.size + 4) V0 := sees_kept _ (kept_refl _)
  go_wp2_with fail
  clear kvV0
  refine (rlevel_any i 2 _ Ri.out (show I64 2 from by unfold I64; decide) (by decide) (by decide)).mono ?_
  obtain ⟨rb12, hb11⟩ : ∃ qb, levN 2 i = qb := ⟨_, rfl⟩
  rw [hb11]
  have Hhb11 := Lib.hid hb11
  clear hb11
  rintro e w9 ⟨rfl, k10⟩
  have Kk13 := Lib.hid k10
  clear k10
  cases rb12 with
  | false =>
    have kvV0 : Sees V0 (w.heap.size + 4) w9 := sees_kept _ Kk13.out
    go_wp2_with (refine stop_store 45 (.tmp 10) (.tmp 23) rfl ?_)
    intro _
    refine wpList_store_part_n (by rfl) 45 (.tmp 10) (.tmp 23) rfl (w.heap.size + 4) 0 #[.int .i64 0, .int .i64 0, .int .i64 0, .int .i64 0, .int .i64 0, .slice none 0 0, .int .i64 0, .int .i64 0, .int .i64 0, .int .i64 0, .slice none 0 0, .int .i64 0, .int .i64 0, .int .i64 0, .int .i64 0, .slice none 0 0, .int .i64 0, .int .i64 0, .int .i64 0, .int .i64 0, .slice none 0 0, .int .i64 0, .int .i64 0, .int .i64 0, .int .i64 0, .slice none 0 0] (by rfl) (by rfl) 45 (by kernel_rfl) (row_ok rfl) ?_
    intro W14 hW14
    clear kvV0
    subst hW14
    refine ⟨_, #[.int .i64 0, .int .i64 0, .int .i64 0, .int .i64 0, .int .i64 0, .slice none 0 0, .int .i64 0, .int .i64 0, .int .i64 0, .int .i64 0, .slice none 0 0, .int .i64 0, .int .i64 0, .int .i64 0, .int .i64 0, .slice none 0 0, .int .i64 0, .int .i64 0, .int .i64 0, .int .i64 0, .slice none 0 0, .int .i64 0, .int .i64 0, .int .i64 0, .int .i64 0, .slice none 0 0], (blk_at Hx5.out Kk13.out), rfl, Nat.le_of_ble_eq_true rfl, ?_⟩
    intro W15 hW15
    go_wp2_with fail
    refine bodyPost_ret (results_cell_row rfl _ _ (w.heap.size + 4) 45 _ _ dr rfl (blk_same (blk_at Hx5.out Kk13.out) hW15) dr1 (by cases dr <;> first | rfl | exact dr2) (by kernel_rfl)) rfl ?_
    rw [show heOf i a x y e = (⟨0, (.mk 0 0 0 0 []), (.mk 0 0 0 0 []), (.mk 0 0 0 0 []), (.mk 0 0 0 0 []), (.mk 0 0 0 0 [])⟩ : He) from by unfold heOf heR2; rw [Hhb11.out]; (try rfl)]
    exact ⟨_, _, _, _, _, rfl, ⟨par_end (par_row' (liesQ_nil w9 (Par w V0.heap.size [] P)) hW15 (by omega) (by have := Z0.out; omega)) (by have := Z0.out; omega), par_end (par_row' (liesQ_nil w9 (Par w V0.heap.size [] P)) hW15 (by omega) (by have := Z0.out; omega)) (by have := Z0.out; omega), par_end (par_row' (liesQ_nil w9 (Par w V0.heap.size [] P)) hW15 (by omega) (by have := Z0.out; omega)) (by have := Z0.out; omega), par_end (par_row' (liesQ_nil w9 (Par w V0.heap.size [] P)) hW15 (by omega) (by have := Z0.out; omega)) (by have := Z0.out; omega), par_end (par_row' (liesQ_nil w9 (Par w V0.heap.size [] P)) hW15 (by omega) (by have := Z0.out; omega)) (by have := Z0.out; omega)⟩, kept_set (kept_trans Kk8.out Kk13.out) hW15 (by omega)⟩
  | true =>
    have ew16 : IntKind.i64.wrap (i + 1) = i + 1 := IntWalk.i64_in _ (by have := levN_true ( Hhb11.out); omega)
    have kvV0 : Sees V0 (w.heap.size + 4) w9 := sees_kept _ Kk13.out
    go_wp2_with (refine stop_load 32 (.tmp 6) rfl ?_)
    intro _
    refine wpList_load_part (w.heap.size) 0 32 (.tmp 6) #[.int .i64 a.k, .int .i64 a.i, .int .i64 a.j, .int .i64 a.n, (.slice aa a.kids.length ca)] du (blk_at Hx1.out Kk13.out) (by rfl) rfl (by rfl) (by rfl) hu1 (by cases du <;> first | rfl | exact hu2) size_term ?_
    go_wp2_with (refine stop_load 32 (.tmp 7) rfl ?_)
    intro _
    refine wpList_load_part (w.heap.size + 1) 0 32 (.tmp 7) #[.int .i64 x.k, .int .i64 x.i, .int .i64 x.j, .int .i64 x.n, (.slice ax x.kids.length cx)] du (blk_at Hx2.out Kk13.out) (by rfl) rfl (by rfl) (by rfl) hu1 (by cases du <;> first | rfl | exact hu2) size_term ?_
    go_wp2_with (refine stop_load 32 (.tmp 8) rfl ?_)
    intro _
    refine wpList_load_part (w.heap.size + 2) 0 32 (.tmp 8) #[.int .i64 y.k, .int .i64 y.i, .int .i64 y.j, .int .i64 y.n, (.slice ay y.kids.length cy)] du (blk_at Hx3.out Kk13.out) (by rfl) rfl (by rfl) (by rfl) hu1 (by cases du <;> first | rfl | exact hu2) size_term ?_
    go_wp2_with (refine stop_load 32 (.tmp 9) rfl ?_)
    intro _
    refine wpList_load_part (w.heap.size + 3) 0 32 (.tmp 9) #[.int .i64 e.k, .int .i64 e.i, .int .i64 e.j, .int .i64 e.n, (.slice ae e.kids.length ce)] du (blk_at Hx4.out Kk13.out) (by rfl) rfl (by rfl) (by rfl) hu1 (by cases du <;> first | rfl | exact hu2) size_term ?_
    go_wp2_with fail
    refine at_world (fun W18 hW18 => ?_)
    clear kvV0
    obtain ⟨k20, x19, z21⟩ := alloc1 hW18
    have Kk22 := Lib.hid k20
    clear k20
    have Hx19 := Lib.hid x19
    have Hz21 := Lib.hid z21
    clear x19 z21 hW18
    have HR23 : Hid (LiesQ W18 (Par w V0.heap.size [] P) [a, x, y, e] (.slice (some ⟨w9.heap.size, 0, none⟩) 4 4)) := q_row [(a, (.slice aa a.kids.length ca)), (x, (.slice ax x.kids.length cx)), (y, (.slice ay y.kids.length cy)), (e, (.slice ae e.kids.length ce))] _ rfl Hx19.out (par_new (Below.size Kk13.out) (xlt_nil _) (Nat.le_refl _)) (fun p hp => by
      simp only [List.mem_cons, List.not_mem_nil, or_false] at hp
      rcases hp with rfl | rfl | rfl | rfl
      · exact ⟨Ga.out, (HLa.out.later (kept_trans Kk13.out Kk22.out))⟩
      · exact ⟨Gx.out, (HLx.out.later (kept_trans Kk13.out Kk22.out))⟩
      · exact ⟨Gy.out, (HLy.out.later (kept_trans Kk13.out Kk22.out))⟩
      · exact ⟨Ge.out, (HLe.out.later (kept_trans Kk13.out Kk22.out))⟩) (Nat.le_of_ble_eq_true rfl)
    refine (rplain_any [a, x, y, e] _ _ HR23.out.lies).mono ?_
    obtain ⟨rb27, hb26⟩ : ∃ qb, plainL [a, x, y, e] = qb := ⟨_, rfl⟩
    rw [hb26]
    have Hhb26 := Lib.hid hb26
    clear hb26
    rintro e w24 ⟨rfl, k25⟩
    have Kk28 := Lib.hid k25
    clear k25
    cases rb27 with
    | false =>
      have kvV0 : Sees V0 (w.heap.size + 4) w24 := sees_kept _ (kept_trans Kk13.out (kept_trans Kk22.out Kk28.out))
      go_wp2_with (refine stop_store 45 (.tmp 10) (.tmp 23) rfl ?_)
      intro _
      refine wpList_store_part_n (by rfl) 45 (.tmp 10) (.tmp 23) rfl (w.heap.size + 4) 0 #[.int .i64 0, .int .i64 0, .int .i64 0, .int .i64 0, .int .i64 0, .slice none 0 0, .int .i64 0, .int .i64 0, .int .i64 0, .int .i64 0, .slice none 0 0, .int .i64 0, .int .i64 0, .int .i64 0, .int .i64 0, .slice none 0 0, .int .i64 0, .int .i64 0, .int .i64 0, .int .i64 0, .slice none 0 0, .int .i64 0, .int .i64 0, .int .i64 0, .int .i64 0, .slice none 0 0] (by rfl) (by rfl) 45 (by kernel_rfl) (row_ok rfl) ?_
      intro W29 hW29
      clear kvV0
      subst hW29
      refine ⟨_, #[.int .i64 0, .int .i64 0, .int .i64 0, .int .i64 0, .int .i64 0, .slice none 0 0, .int .i64 0, .int .i64 0, .int .i64 0, .int .i64 0, .slice none 0 0, .int .i64 0, .int .i64 0, .int .i64 0, .int .i64 0, .slice none 0 0, .int .i64 0, .int .i64 0, .int .i64 0, .int .i64 0, .slice none 0 0, .int .i64 0, .int .i64 0, .int .i64 0, .int .i64 0, .slice none 0 0], (blk_at Hx5.out (kept_trans Kk13.out (kept_trans Kk22.out Kk28.out))), rfl, Nat.le_of_ble_eq_true rfl, ?_⟩
      intro W30 hW30
      go_wp2_with fail
      refine bodyPost_ret (results_cell_row rfl _ _ (w.heap.size + 4) 45 _ _ dr rfl (blk_same (blk_at Hx5.out (kept_trans Kk13.out (kept_trans Kk22.out Kk28.out))) hW30) dr1 (by cases dr <;> first | rfl | exact dr2) (by kernel_rfl)) rfl ?_
      rw [show heOf i a x y e = (⟨0, (.mk 0 0 0 0 []), (.mk 0 0 0 0 []), (.mk 0 0 0 0 []), (.mk 0 0 0 0 []), (.mk 0 0 0 0 [])⟩ : He) from by unfold heOf heR2; rw [Hhb11.out, Hhb26.out]; (try rfl)]
      exact ⟨_, _, _, _, _, rfl, ⟨par_end (par_row' (liesQ_nil w24 (Par w V0.heap.size [] P)) hW30 (by omega) (by have := Z0.out; omega)) (by have := Z0.out; omega), par_end (par_row' (liesQ_nil w24 (Par w V0.heap.size [] P)) hW30 (by omega) (by have := Z0.out; omega)) (by have := Z0.out; omega), par_end (par_row' (liesQ_nil w24 (Par w V0.heap.size [] P)) hW30 (by omega) (by have := Z0.out; omega)) (by have := Z0.out; omega), par_end (par_row' (liesQ_nil w24 (Par w V0.heap.size [] P)) hW30 (by omega) (by have := Z0.out; omega)) (by have := Z0.out; omega), par_end (par_row' (liesQ_nil w24 (Par w V0.heap.size [] P)) hW30 (by omega) (by have := Z0.out; omega)) (by have := Z0.out; omega)⟩, kept_set (kept_trans Kk8.out (kept_trans Kk13.out (kept_trans Kk22.out Kk28.out))) hW30 (by omega)⟩
    | true =>
      have kvV0 : Sees V0 (w.heap.size + 4) w24 := sees_kept _ (kept_trans Kk13.out (kept_trans Kk22.out Kk28.out))
      go_wp2_with fail
      clear kvV0
      obtain ⟨W31, h32⟩ : ∃ x, World.drew w24 = x := ⟨_, rfl⟩
      have k33 : Kept w24 W31 := by rw [← h32]; exact kept_drew (kept_refl _)
      have Kk34 := Lib.hid k33
      clear k33
      refine wp_region_held_drew (S := Sees W31 (w.heap.size + 4)) (by kernel_rfl) ?_ (fun hHeld => ?_)
      · (try dsimp only)
        rw [h32]
        exact sees_kept _ (kept_refl _)
      rw [h32] at hHeld ⊢
      clear h32
      refine take_at 0 24 rOfr3_0 (v := ?_) (Or.inl ⟨by rfl, ?_⟩) ?_
      rotate_left 1
      · ((intro w hSw; (try dsimp only at hSw); unfold rOfr3_0; go_simp) <;> with_reducible rfl)
      (try simp only [Act.put, List.setIfInBounds_toArray, List.set_cons_zero, List.set_cons_succ])
      refine take_at 1 25 rOfr3_1 (yields_part (w.heap.size) 0 32 (.tmp 6) #[.int .i64 a.k, .int .i64 a.i, .int .i64 a.j, .int .i64 a.n, (.slice aa a.kids.length ca)] du (fun _ h => sees_blk Hx1.out (by have := Z0.out; omega) (sees_of (kept_trans Kk13.out (kept_trans Kk22.out (kept_trans Kk28.out Kk34.out))) h)) (by rfl) rfl (by rfl) (by rfl) hu1 (by cases du <;> first | rfl | exact hu2) size_term) ?_
      (try simp only [Act.put, List.setIfInBounds_toArray, List.set_cons_zero, List.set_cons_succ])
      refine take_at 2 26 rOfr3_2 (yields_part (w.heap.size) 0 32 (.tmp 6) #[.int .i64 a.k, .int .i64 a.i, .int .i64 a.j, .int .i64 a.n, (.slice aa a.kids.length ca)] du (fun _ h => sees_blk Hx1.out (by have := Z0.out; omega) (sees_of (kept_trans Kk13.out (kept_trans Kk22.out (kept_trans Kk28.out Kk34.out))) h)) (by rfl) rfl (by rfl) (by rfl) hu1 (by cases du <;> first | rfl | exact hu2) size_term) ?_
      (try simp only [Act.put, List.setIfInBounds_toArray, List.set_cons_zero, List.set_cons_succ])
      refine take_at 3 27 rOfr3_3 (yields_part (w.heap.size + 1) 0 32 (.tmp 7) #[.int .i64 x.k, .int .i64 x.i, .int .i64 x.j, .int .i64 x.n, (.slice ax x.kids.length cx)] du (fun _ h => sees_blk Hx2.out (by have := Z0.out; omega) (sees_of (kept_trans Kk13.out (kept_trans Kk22.out (kept_trans Kk28.out Kk34.out))) h)) (by rfl) rfl (by rfl) (by rfl) hu1 (by cases du <;> first | rfl | exact hu2) size_term) ?_
      (try simp only [Act.put, List.setIfInBounds_toArray, List.set_cons_zero, List.set_cons_succ])
      refine take_at 4 28 rOfr3_4 (yields_part (w.heap.size + 2) 0 32 (.tmp 8) #[.int .i64 y.k, .int .i64 y.i, .int .i64 y.j, .int .i64 y.n, (.slice ay y.kids.length cy)] du (fun _ h => sees_blk Hx3.out (by have := Z0.out; omega) (sees_of (kept_trans Kk13.out (kept_trans Kk22.out (kept_trans Kk28.out Kk34.out))) h)) (by rfl) rfl (by rfl) (by rfl) hu1 (by cases du <;> first | rfl | exact hu2) size_term) ?_
      (try simp only [Act.put, List.setIfInBounds_toArray, List.set_cons_zero, List.set_cons_succ])
      refine take_at 5 29 rOfr3_5 (v := ?_) (Or.inl ⟨by rfl, ?_⟩) ?_
      rotate_left 1
      · ((intro w hSw; (try dsimp only at hSw); unfold rOfr3_5; go_simp) <;> with_reducible rfl)
      (try simp only [Act.put, List.setIfInBounds_toArray, List.set_cons_zero, List.set_cons_succ])
      refine take_at 6 30 rOfr3_6 (yields_part (w.heap.size) 0 32 (.tmp 6) #[.int .i64 a.k, .int .i64 a.i, .int .i64 a.j, .int .i64 a.n, (.slice aa a.kids.length ca)] du (fun _ h => sees_blk Hx1.out (by have := Z0.out; omega) (sees_of (kept_trans Kk13.out (kept_trans Kk22.out (kept_trans Kk28.out Kk34.out))) h)) (by rfl) rfl (by rfl) (by rfl) hu1 (by cases du <;> first | rfl | exact hu2) size_term) ?_
      (try simp only [Act.put, List.setIfInBounds_toArray, List.set_cons_zero, List.set_cons_succ])
      refine take_at 7 31 rOfr3_7 (yields_part (w.heap.size + 1) 0 32 (.tmp 7) #[.int .i64 x.k, .int .i64 x.i, .int .i64 x.j, .int .i64 x.n, (.slice ax x.kids.length cx)] du (fun _ h => sees_blk Hx2.out (by have := Z0.out; omega) (sees_of (kept_trans Kk13.out (kept_trans Kk22.out (kept_trans Kk28.out Kk34.out))) h)) (by rfl) rfl (by rfl) (by rfl) hu1 (by cases du <;> first | rfl | exact hu2) size_term) ?_
      (try simp only [Act.put, List.setIfInBounds_toArray, List.set_cons_zero, List.set_cons_succ])
      refine take_at 8 32 rOfr3_8 (yields_part (w.heap.size + 2) 0 32 (.tmp 8) #[.int .i64 y.k, .int .i64 y.i, .int .i64 y.j, .int .i64 y.n, (.slice ay y.kids.length cy)] du (fun _ h => sees_blk Hx3.out (by have := Z0.out; omega) (sees_of (kept_trans Kk13.out (kept_trans Kk22.out (kept_trans Kk28.out Kk34.out))) h)) (by rfl) rfl (by rfl) (by rfl) hu1 (by cases du <;> first | rfl | exact hu2) size_term) ?_
      (try simp only [Act.put, List.setIfInBounds_toArray, List.set_cons_zero, List.set_cons_succ])
      refine take_at 9 33 rOfr3_9 (yields_part (w.heap.size + 3) 0 32 (.tmp 9) #[.int .i64 e.k, .int .i64 e.i, .int .i64 e.j, .int .i64 e.n, (.slice ae e.kids.length ce)] du (fun _ h => sees_blk Hx4.out (by have := Z0.out; omega) (sees_of (kept_trans Kk13.out (kept_trans Kk22.out (kept_trans Kk28.out Kk34.out))) h)) (by rfl) rfl (by rfl) (by rfl) hu1 (by cases du <;> first | rfl | exact hu2) size_term) ?_
      (try simp only [Act.put, List.setIfInBounds_toArray, List.set_cons_zero, List.set_cons_succ])
      refine wpAnyH_ready (rs := [10]) (by kernel_rfl) (by simp) ?_
      refine AllReadyH.cons (o := rOfr3_10) rfl (fun K hK => ?_) ?_
      · unfold rOfr3_10
        go_simp
        refine at_K (fun W36 hW36 => ?_)
        obtain ⟨k38, x37, z39⟩ := alloc1 hW36
        have Kk40 := Lib.hid k38
        clear k38
        have Hx37 := Lib.hid x37
        have Hz39 := Lib.hid z39
        clear x37 z39 hW36
        have HR41 : Hid (LiesQ W36 (Par w V0.heap.size [] P) [a, x, y, e] (.slice (some ⟨W31.heap.size, 0, none⟩) 4 4)) := q_row [(a, (.slice aa a.kids.length ca)), (x, (.slice ax x.kids.length cx)), (y, (.slice ay y.kids.length cy)), (e, (.slice ae e.kids.length ce))] _ rfl Hx37.out (par_new (Below.size (kept_trans Kk13.out (kept_trans Kk22.out (kept_trans Kk28.out Kk34.out)))) (xlt_nil _) (Nat.le_refl _)) (fun p hp => by
          simp only [List.mem_cons, List.not_mem_nil, or_false] at hp
          rcases hp with rfl | rfl | rfl | rfl
          · exact ⟨Ga.out, (HLa.out.later (kept_trans Kk13.out (kept_trans Kk22.out (kept_trans Kk28.out (kept_trans Kk34.out Kk40.out)))))⟩
          · exact ⟨Gx.out, (HLx.out.later (kept_trans Kk13.out (kept_trans Kk22.out (kept_trans Kk28.out (kept_trans Kk34.out Kk40.out)))))⟩
          · exact ⟨Gy.out, (HLy.out.later (kept_trans Kk13.out (kept_trans Kk22.out (kept_trans Kk28.out (kept_trans Kk34.out Kk40.out)))))⟩
          · exact ⟨Ge.out, (HLe.out.later (kept_trans Kk13.out (kept_trans Kk22.out (kept_trans Kk28.out (kept_trans Kk34.out Kk40.out)))))⟩) (Nat.le_of_ble_eq_true rfl)
        clear hHeld
        refine hK.out _ _ ?_ (fun hHeld => ?_)
        · (try dsimp only)
          exact sees_kept _ Kk40.out
        clear hK K
        (try simp only [Act.put, List.setIfInBounds_toArray, List.set_cons_zero, List.set_cons_succ])
        refine wpAnyH_ready (rs := [11]) (by kernel_rfl) (by simp) ?_
        refine AllReadyH.cons (o := rOfr3_11) rfl (fun K hK => ?_) ?_
        · unfold rOfr3_11
          go_simp
          refine (ruse_any 11 i 0 [a, x, y, e] (Par w V0.heap.size [] P) _ _ (show I64 11 from by unfold I64; decide) Ri.out (show I64 0 from by unfold I64; decide) HR41.out (Nat.le_of_ble_eq_true rfl)).mono ?_
          obtain ⟨U49, hU49⟩ : ∃ qu, useT 11 i 0 [a, x, y, e] = qu := ⟨_, rfl⟩
          rw [hU49]
          have HU49 := Lib.hid hU49
          clear hU49
          rintro e w42 ⟨s44, rfl, hl45, k43⟩
          obtain ⟨a46, c47, S48, rfl, -⟩ := hl45.out
          have Kk50 := Lib.hid k43
          clear k43
          have Hhl45 : Hid (LiesQ w42 (Par w V0.heap.size [] P) U49.kids _) := par_give hl45 (Below.size (kept_trans Kk13.out (kept_trans Kk22.out (kept_trans Kk28.out (kept_trans Kk34.out Kk40.out))))) (xlt_nil _)
          clear hl45
          clear hHeld
          refine hK.out _ _ ?_ (fun hHeld => ?_)
          · (try dsimp only)
            exact sees_kept _ (kept_trans Kk40.out Kk50.out)
          clear hK K
          (try simp only [Act.put, List.setIfInBounds_toArray, List.set_cons_zero, List.set_cons_succ])
          refine take_at 12 36 rOfr3_12 (v := ?_) (Or.inl ⟨by rfl, ?_⟩) ?_
          rotate_left 1
          · ((intro w hSw; (try dsimp only at hSw); unfold rOfr3_12; go_simp) <;> with_reducible rfl)
          (try simp only [Act.put, List.setIfInBounds_toArray, List.set_cons_zero, List.set_cons_succ])
          refine wpAnyH_ready (rs := [13]) (by kernel_rfl) (by simp) ?_
          refine AllReadyH.cons (o := rOfr3_13) rfl (fun K hK => ?_) ?_
          · unfold rOfr3_13
            refine step_store_part rfl 45 (.tmp 10) (.tmp 36) rfl (w.heap.size + 4) 0 #[.int .i64 i, .int .i64 a.k, .int .i64 a.i, .int .i64 a.j, .int .i64 a.n, (.slice aa a.kids.length ca), .int .i64 a.k, .int .i64 a.i, .int .i64 a.j, .int .i64 a.n, (.slice aa a.kids.length ca), .int .i64 x.k, .int .i64 x.i, .int .i64 x.j, .int .i64 x.n, (.slice ax x.kids.length cx), .int .i64 y.k, .int .i64 y.i, .int .i64 y.j, .int .i64 y.n, (.slice ay y.kids.length cy), .int .i64 U49.k, .int .i64 U49.i, .int .i64 U49.j, .int .i64 U49.n, (.slice a46 U49.kids.length c47)] rfl rfl 45 (by kernel_rfl) (row_ok rfl) _ #[.int .i64 i, .int .i64 a.k, .int .i64 a.i, .int .i64 a.j, .int .i64 a.n, (.slice aa a.kids.length ca), .int .i64 a.k, .int .i64 a.i, .int .i64 a.j, .int .i64 a.n, (.slice aa a.kids.length ca), .int .i64 x.k, .int .i64 x.i, .int .i64 x.j, .int .i64 x.n, (.slice ax x.kids.length cx), .int .i64 y.k, .int .i64 y.i, .int .i64 y.j, .int .i64 y.n, (.slice ay y.kids.length cy), .int .i64 U49.k, .int .i64 U49.i, .int .i64 U49.j, .int .i64 U49.n, (.slice a46 U49.kids.length c47)] (blk_at Hx5.out (kept_trans Kk13.out (kept_trans Kk22.out (kept_trans Kk28.out (kept_trans Kk34.out (kept_trans Kk40.out Kk50.out)))))) rfl (Nat.le_of_ble_eq_true rfl) ?_
            intro W51 hW51
            clear hHeld
            refine hK.out _ _ ?_ (fun hHeld => ?_)
            · (try dsimp only)
              exact sees_set (kept_trans Kk40.out Kk50.out) hW51
            clear hK K
            (try simp only [Act.put])
            refine wpAnyH_done (by kernel_rfl) ?_ _
            clear hHeld
            go_wp2_with fail
            refine bodyPost_ret (results_cell_row rfl _ _ (w.heap.size + 4) 45 _ _ dr rfl (blk_same (blk_at Hx5.out (kept_trans Kk13.out (kept_trans Kk22.out (kept_trans Kk28.out (kept_trans Kk34.out (kept_trans Kk40.out Kk50.out)))))) hW51) dr1 (by cases dr <;> first | rfl | exact dr2) (by kernel_rfl)) rfl ?_
            rw [show heOf i a x y e = (⟨i, a, a, x, y, U49⟩ : He) from by unfold heOf heR2; rw [Hhb11.out, Hhb26.out]; rw [← HU49.out]; (try rfl)]
            exact ⟨_, _, _, _, _, rfl, ⟨par_end (par_row' (HLa.out.later (kept_trans Kk13.out (kept_trans Kk22.out (kept_trans Kk28.out (kept_trans Kk34.out (kept_trans Kk40.out Kk50.out)))))) hW51 (by omega) (by have := Z0.out; omega)) (by have := Z0.out; omega), par_end (par_row' (HLa.out.later (kept_trans Kk13.out (kept_trans Kk22.out (kept_trans Kk28.out (kept_trans Kk34.out (kept_trans Kk40.out Kk50.out)))))) hW51 (by omega) (by have := Z0.out; omega)) (by have := Z0.out; omega), par_end (par_row' (HLx.out.later (kept_trans Kk13.out (kept_trans Kk22.out (kept_trans Kk28.out (kept_trans Kk34.out (kept_trans Kk40.out Kk50.out)))))) hW51 (by omega) (by have := Z0.out; omega)) (by have := Z0.out; omega), par_end (par_row' (HLy.out.later (kept_trans Kk13.out (kept_trans Kk22.out (kept_trans Kk28.out (kept_trans Kk34.out (kept_trans Kk40.out Kk50.out)))))) hW51 (by omega) (by have := Z0.out; omega)) (by have := Z0.out; omega), par_end (par_row' Hhl45.out hW51 (by omega) (by have := Z0.out; omega)) (by have := Z0.out; omega)⟩, kept_set (kept_trans Kk8.out (kept_trans Kk13.out (kept_trans Kk22.out (kept_trans Kk28.out (kept_trans Kk34.out (kept_trans Kk40.out Kk50.out)))))) hW51 (by omega)⟩
          exact AllReadyH.nil
        exact AllReadyH.nil
      exact AllReadyH.nil

def rMovedr3_0 : Oper := { dst := some 24, op := Go.Op.move (Go.Operand.tmp 0), type := 3, pos := "ref.go:115", after := #[], guard := none }
def rMovedr3_1 : Oper := { dst := some 25, op := Go.Op.load 32 (Go.Operand.tmp 6), type := 32, pos := "ref.go:115", after := #[], guard := none }
def rMovedr3_2 : Oper := { dst := some 26, op := Go.Op.load 32 (Go.Operand.tmp 7), type := 32, pos := "ref.go:115", after := #[], guard := none }
def rMovedr3_3 : Oper := { dst := some 27, op := Go.Op.load 32 (Go.Operand.tmp 9), type := 32, pos := "ref.go:115", after := #[], guard := none }
def rMovedr3_4 : Oper := { dst := some 28, op := Go.Op.move (Go.Operand.tmp 0), type := 3, pos := "ref.go:115", after := #[], guard := none }
def rMovedr3_5 : Oper := { dst := some 29, op := Go.Op.load 32 (Go.Operand.tmp 6), type := 32, pos := "ref.go:115", after := #[], guard := none }
def rMovedr3_6 : Oper := { dst := some 30, op := Go.Op.load 32 (Go.Operand.tmp 7), type := 32, pos := "ref.go:115", after := #[], guard := none }
def rMovedr3_7 : Oper := { dst := some 31, op := Go.Op.load 32 (Go.Operand.tmp 8), type := 32, pos := "ref.go:115", after := #[], guard := none }
def rMovedr3_8 : Oper := { dst := some 32, op := Go.Op.load 32 (Go.Operand.tmp 9), type := 32, pos := "ref.go:115", after := #[], guard := none }
def rMovedr3_9 : Oper := { dst := some 33, op := Go.Op.buildSlice 30 4 #[(0, Go.Operand.tmp 29), (1, Go.Operand.tmp 30), (2, Go.Operand.tmp 31), (3, Go.Operand.tmp 32)], type := 30, pos := "ref.go:115", after := #[{ on := 5, ground := Go.Ground.data }, { on := 6, ground := Go.Ground.data }, { on := 7, ground := Go.Ground.data }, { on := 8, ground := Go.Ground.data }], guard := none }
def rMovedr3_10 : Oper := { dst := some 34, op := Go.Op.call { callee := Go.Callee.value (Go.Operand.func 109), args := #[Go.Operand.const (Go.Value.int Go.IntKind.i64 5), Go.Operand.tmp 28, Go.Operand.const (Go.Value.int Go.IntKind.i64 0), Go.Operand.tmp 33], argTypes := #[3, 3, 3, 30] }, type := 32, pos := "ref.go:115", after := #[{ on := 4, ground := Go.Ground.data }, { on := 9, ground := Go.Ground.data }], guard := none }
def rMovedr3_11 : Oper := { dst := some 35, op := Go.Op.move (Go.Operand.tmp 0), type := 3, pos := "ref.go:115", after := #[], guard := none }
def rMovedr3_12 : Oper := { dst := some 36, op := Go.Op.load 32 (Go.Operand.tmp 6), type := 32, pos := "ref.go:115", after := #[], guard := none }
def rMovedr3_13 : Oper := { dst := some 37, op := Go.Op.load 32 (Go.Operand.tmp 7), type := 32, pos := "ref.go:115", after := #[], guard := none }
def rMovedr3_14 : Oper := { dst := some 38, op := Go.Op.load 32 (Go.Operand.tmp 8), type := 32, pos := "ref.go:115", after := #[], guard := none }
def rMovedr3_15 : Oper := { dst := some 39, op := Go.Op.load 32 (Go.Operand.tmp 9), type := 32, pos := "ref.go:115", after := #[], guard := none }
def rMovedr3_16 : Oper := { dst := some 40, op := Go.Op.buildSlice 30 4 #[(0, Go.Operand.tmp 36), (1, Go.Operand.tmp 37), (2, Go.Operand.tmp 38), (3, Go.Operand.tmp 39)], type := 30, pos := "ref.go:115", after := #[{ on := 12, ground := Go.Ground.data }, { on := 13, ground := Go.Ground.data }, { on := 14, ground := Go.Ground.data }, { on := 15, ground := Go.Ground.data }], guard := none }
def rMovedr3_17 : Oper := { dst := some 41, op := Go.Op.call { callee := Go.Callee.value (Go.Operand.func 109), args := #[Go.Operand.const (Go.Value.int Go.IntKind.i64 8), Go.Operand.tmp 35, Go.Operand.const (Go.Value.int Go.IntKind.i64 0), Go.Operand.tmp 40], argTypes := #[3, 3, 3, 30] }, type := 32, pos := "ref.go:115", after := #[{ on := 11, ground := Go.Ground.data }, { on := 16, ground := Go.Ground.data }, { on := 10, ground := Go.Ground.chain }], guard := none }
def rMovedr3_18 : Oper := { dst := some 42, op := Go.Op.build 45 #[(0, Go.Operand.tmp 24), (1, Go.Operand.tmp 25), (2, Go.Operand.tmp 26), (3, Go.Operand.tmp 27), (4, Go.Operand.tmp 34), (5, Go.Operand.tmp 41)], type := 45, pos := "ref.go:115", after := #[{ on := 0, ground := Go.Ground.data }, { on := 1, ground := Go.Ground.data }, { on := 2, ground := Go.Ground.data }, { on := 3, ground := Go.Ground.data }, { on := 10, ground := Go.Ground.data }, { on := 17, ground := Go.Ground.data }], guard := none }
def rMovedr3_19 : Oper := { dst := none, op := Go.Op.store 45 (Go.Operand.tmp 10) (Go.Operand.tmp 42), type := 0, pos := "ref.go:115", after := #[{ on := 18, ground := Go.Ground.data }, { on := 17, ground := Go.Ground.chain }, { on := 0, ground := Go.Ground.phase }, { on := 1, ground := Go.Ground.phase }, { on := 2, ground := Go.Ground.phase }, { on := 3, ground := Go.Ground.phase }, { on := 4, ground := Go.Ground.phase }, { on := 5, ground := Go.Ground.phase }, { on := 6, ground := Go.Ground.phase }, { on := 7, ground := Go.Ground.phase }, { on := 8, ground := Go.Ground.phase }, { on := 9, ground := Go.Ground.phase }, { on := 10, ground := Go.Ground.phase }, { on := 11, ground := Go.Ground.phase }, { on := 12, ground := Go.Ground.phase }, { on := 13, ground := Go.Ground.phase }, { on := 14, ground := Go.Ground.phase }, { on := 15, ground := Go.Ground.phase }, { on := 16, ground := Go.Ground.phase }, { on := 17, ground := Go.Ground.phase }, { on := 18, ground := Go.Ground.phase }], guard := none }
set_option maxRecDepth 20000 in
set_option maxHeartbeats 4000000 in
theorem rMoved_any (i : Int) (a : Tm) (b : Tm) (p : Tm) (x : Tm) (P : Nat → Prop) (w : World) (sa : Value) (sb : Value) (sp : Value) (sx : Value) (hri : I64 i) (hfa : a.fine) (hla : LiesQ w P a.kids sa) (hfb : b.fine) (hlb : LiesQ w P b.kids sb) (hfp : p.fine) (hlp : LiesQ w P p.kids sp) (hfx : x.fine) (hlx : LiesQ w P x.kids sx) : Calls Try.prog 48 #[.int .i64 i, tv a sa, tv b sb, tv p sp, tv x sx] w (GivesHP P (heMoved i a b p x) w) := by
  have Ri := Lib.hid hri
  clear hri
  have Ga := Lib.hid hfa
  clear hfa
  obtain ⟨aa, ca, Sa, rfl, -⟩ := hla.out
  have Gb := Lib.hid hfb
  clear hfb
  obtain ⟨ab, cb, Sb, rfl, -⟩ := hlb.out
  have Gp := Lib.hid hfp
  clear hfp
  obtain ⟨ap, cp, Sp, rfl, -⟩ := hlp.out
  have Gx := Lib.hid hfx
  clear hfx
  obtain ⟨ax, cx, Sx, rfl, -⟩ := hlx.out
  obtain ⟨du, hu1, hu2⟩ := under_term
  obtain ⟨dr, dr1, dr2⟩ := under_of 45 (by kernel_rfl)
  unfold tv
  go_enter Try.func48, Try.ntmps48
  go_upto_region 1 with fail
  refine at_code (fun V0 hV0 => ?_)
  obtain ⟨k6, x1, x2, x3, x4, x5, z7⟩ := alloc5 hV0
  have Kk8 := Lib.hid k6
  clear k6
  have Hx1 := Lib.hid x1
  have Hx2 := Lib.hid x2
  have Hx3 := Lib.hid x3
  have Hx4 := Lib.hid x4
  have Hx5 := Lib.hid x5
  have Z0 := Lib.hid z7
  clear z7 x1 x2 x3 x4 x5 hV0
  have HLa : Hid (LiesQ V0 (Par w V0.heap.size [] P) a.kids _) := (par_in _ _ hla).later Kk8.out
  clear hla
  have HLb : Hid (LiesQ V0 (Par w V0.heap.size [] P) b.kids _) := (par_in _ _ hlb).later Kk8.out
  clear hlb
  have HLp : Hid (LiesQ V0 (Par w V0.heap.size [] P) p.kids _) := (par_in _ _ hlp).later Kk8.out
  clear hlp
  have HLx : Hid (LiesQ V0 (Par w V0.heap.size [] P) x.kids _) := (par_in _ _ hlx).later Kk8.out
  clear hlx
  have kvV0 : Sees V0 (w.heap.size + 4) V0 := sees_kept _ (kept_refl _)
  go_wp2_with fail
  clear kvV0
  refine (rlevel_any i 2 _ Ri.out (show I64 2 from by unfold I64; decide) (by decide) (by decide)).mono ?_
  obtain ⟨rb12, hb11⟩ : ∃ qb, levN 2 i = qb := ⟨_, rfl⟩
  rw [hb11]
  have Hhb11 := Lib.hid hb11
  clear hb11
  rintro e w9 ⟨rfl, k10⟩
  have Kk13 := Lib.hid k10
  clear k10
  cases rb12 with
  | false =>
    have kvV0 : Sees V0 (w.heap.size + 4) w9 := sees_kept _ Kk13.out
    go_wp2_with (refine stop_store 45 (.tmp 10) (.tmp 23) rfl ?_)
    intro _
    refine wpList_store_part_n (by rfl) 45 (.tmp 10) (.tmp 23) rfl (w.heap.size + 4) 0 #[.int .i64 0, .int .i64 0, .int .i64 0, .int .i64 0, .int .i64 0, .slice none 0 0, .int .i64 0, .int .i64 0, .int .i64 0, .int .i64 0, .slice none 0 0, .int .i64 0, .int .i64 0, .int .i64 0, .int .i64 0, .slice none 0 0, .int .i64 0, .int .i64 0, .int .i64 0, .int .i64 0, .slice none 0 0, .int .i64 0, .int .i64 0, .int .i64 0, .int .i64 0, .slice none 0 0] (by rfl) (by rfl) 45 (by kernel_rfl) (row_ok rfl) ?_
    intro W14 hW14
    clear kvV0
    subst hW14
    refine ⟨_, #[.int .i64 0, .int .i64 0, .int .i64 0, .int .i64 0, .int .i64 0, .slice none 0 0, .int .i64 0, .int .i64 0, .int .i64 0, .int .i64 0, .slice none 0 0, .int .i64 0, .int .i64 0, .int .i64 0, .int .i64 0, .slice none 0 0, .int .i64 0, .int .i64 0, .int .i64 0, .int .i64 0, .slice none 0 0, .int .i64 0, .int .i64 0, .int .i64 0, .int .i64 0, .slice none 0 0], (blk_at Hx5.out Kk13.out), rfl, Nat.le_of_ble_eq_true rfl, ?_⟩
    intro W15 hW15
    go_wp2_with fail
    refine bodyPost_ret (results_cell_row rfl _ _ (w.heap.size + 4) 45 _ _ dr rfl (blk_same (blk_at Hx5.out Kk13.out) hW15) dr1 (by cases dr <;> first | rfl | exact dr2) (by kernel_rfl)) rfl ?_
    rw [show heMoved i a b p x = (⟨0, (.mk 0 0 0 0 []), (.mk 0 0 0 0 []), (.mk 0 0 0 0 []), (.mk 0 0 0 0 []), (.mk 0 0 0 0 [])⟩ : He) from by unfold heMoved heR2; rw [Hhb11.out]; (try rfl)]
    exact ⟨_, _, _, _, _, rfl, ⟨par_end (par_row' (liesQ_nil w9 (Par w V0.heap.size [] P)) hW15 (by omega) (by have := Z0.out; omega)) (by have := Z0.out; omega), par_end (par_row' (liesQ_nil w9 (Par w V0.heap.size [] P)) hW15 (by omega) (by have := Z0.out; omega)) (by have := Z0.out; omega), par_end (par_row' (liesQ_nil w9 (Par w V0.heap.size [] P)) hW15 (by omega) (by have := Z0.out; omega)) (by have := Z0.out; omega), par_end (par_row' (liesQ_nil w9 (Par w V0.heap.size [] P)) hW15 (by omega) (by have := Z0.out; omega)) (by have := Z0.out; omega), par_end (par_row' (liesQ_nil w9 (Par w V0.heap.size [] P)) hW15 (by omega) (by have := Z0.out; omega)) (by have := Z0.out; omega)⟩, kept_set (kept_trans Kk8.out Kk13.out) hW15 (by omega)⟩
  | true =>
    have ew16 : IntKind.i64.wrap (i + 1) = i + 1 := IntWalk.i64_in _ (by have := levN_true ( Hhb11.out); omega)
    have kvV0 : Sees V0 (w.heap.size + 4) w9 := sees_kept _ Kk13.out
    go_wp2_with (refine stop_load 32 (.tmp 6) rfl ?_)
    intro _
    refine wpList_load_part (w.heap.size) 0 32 (.tmp 6) #[.int .i64 a.k, .int .i64 a.i, .int .i64 a.j, .int .i64 a.n, (.slice aa a.kids.length ca)] du (blk_at Hx1.out Kk13.out) (by rfl) rfl (by rfl) (by rfl) hu1 (by cases du <;> first | rfl | exact hu2) size_term ?_
    go_wp2_with (refine stop_load 32 (.tmp 7) rfl ?_)
    intro _
    refine wpList_load_part (w.heap.size + 1) 0 32 (.tmp 7) #[.int .i64 b.k, .int .i64 b.i, .int .i64 b.j, .int .i64 b.n, (.slice ab b.kids.length cb)] du (blk_at Hx2.out Kk13.out) (by rfl) rfl (by rfl) (by rfl) hu1 (by cases du <;> first | rfl | exact hu2) size_term ?_
    go_wp2_with (refine stop_load 32 (.tmp 8) rfl ?_)
    intro _
    refine wpList_load_part (w.heap.size + 2) 0 32 (.tmp 8) #[.int .i64 p.k, .int .i64 p.i, .int .i64 p.j, .int .i64 p.n, (.slice ap p.kids.length cp)] du (blk_at Hx3.out Kk13.out) (by rfl) rfl (by rfl) (by rfl) hu1 (by cases du <;> first | rfl | exact hu2) size_term ?_
    go_wp2_with (refine stop_load 32 (.tmp 9) rfl ?_)
    intro _
    refine wpList_load_part (w.heap.size + 3) 0 32 (.tmp 9) #[.int .i64 x.k, .int .i64 x.i, .int .i64 x.j, .int .i64 x.n, (.slice ax x.kids.length cx)] du (blk_at Hx4.out Kk13.out) (by rfl) rfl (by rfl) (by rfl) hu1 (by cases du <;> first | rfl | exact hu2) size_term ?_
    go_wp2_with fail
    refine at_world (fun W18 hW18 => ?_)
    clear kvV0
    obtain ⟨k20, x19, z21⟩ := alloc1 hW18
    have Kk22 := Lib.hid k20
    clear k20
    have Hx19 := Lib.hid x19
    have Hz21 := Lib.hid z21
    clear x19 z21 hW18
    have HR23 : Hid (LiesQ W18 (Par w V0.heap.size [] P) [a, b, p, x] (.slice (some ⟨w9.heap.size, 0, none⟩) 4 4)) := q_row [(a, (.slice aa a.kids.length ca)), (b, (.slice ab b.kids.length cb)), (p, (.slice ap p.kids.length cp)), (x, (.slice ax x.kids.length cx))] _ rfl Hx19.out (par_new (Below.size Kk13.out) (xlt_nil _) (Nat.le_refl _)) (fun p hp => by
      simp only [List.mem_cons, List.not_mem_nil, or_false] at hp
      rcases hp with rfl | rfl | rfl | rfl
      · exact ⟨Ga.out, (HLa.out.later (kept_trans Kk13.out Kk22.out))⟩
      · exact ⟨Gb.out, (HLb.out.later (kept_trans Kk13.out Kk22.out))⟩
      · exact ⟨Gp.out, (HLp.out.later (kept_trans Kk13.out Kk22.out))⟩
      · exact ⟨Gx.out, (HLx.out.later (kept_trans Kk13.out Kk22.out))⟩) (Nat.le_of_ble_eq_true rfl)
    refine (rplain_any [a, b, p, x] _ _ HR23.out.lies).mono ?_
    obtain ⟨rb27, hb26⟩ : ∃ qb, plainL [a, b, p, x] = qb := ⟨_, rfl⟩
    rw [hb26]
    have Hhb26 := Lib.hid hb26
    clear hb26
    rintro e w24 ⟨rfl, k25⟩
    have Kk28 := Lib.hid k25
    clear k25
    cases rb27 with
    | false =>
      have kvV0 : Sees V0 (w.heap.size + 4) w24 := sees_kept _ (kept_trans Kk13.out (kept_trans Kk22.out Kk28.out))
      go_wp2_with (refine stop_store 45 (.tmp 10) (.tmp 23) rfl ?_)
      intro _
      refine wpList_store_part_n (by rfl) 45 (.tmp 10) (.tmp 23) rfl (w.heap.size + 4) 0 #[.int .i64 0, .int .i64 0, .int .i64 0, .int .i64 0, .int .i64 0, .slice none 0 0, .int .i64 0, .int .i64 0, .int .i64 0, .int .i64 0, .slice none 0 0, .int .i64 0, .int .i64 0, .int .i64 0, .int .i64 0, .slice none 0 0, .int .i64 0, .int .i64 0, .int .i64 0, .int .i64 0, .slice none 0 0, .int .i64 0, .int .i64 0, .int .i64 0, .int .i64 0, .slice none 0 0] (by rfl) (by rfl) 45 (by kernel_rfl) (row_ok rfl) ?_
      intro W29 hW29
      clear kvV0
      subst hW29
      refine ⟨_, #[.int .i64 0, .int .i64 0, .int .i64 0, .int .i64 0, .int .i64 0, .slice none 0 0, .int .i64 0, .int .i64 0, .int .i64 0, .int .i64 0, .slice none 0 0, .int .i64 0, .int .i64 0, .int .i64 0, .int .i64 0, .slice none 0 0, .int .i64 0, .int .i64 0, .int .i64 0, .int .i64 0, .slice none 0 0, .int .i64 0, .int .i64 0, .int .i64 0, .int .i64 0, .slice none 0 0], (blk_at Hx5.out (kept_trans Kk13.out (kept_trans Kk22.out Kk28.out))), rfl, Nat.le_of_ble_eq_true rfl, ?_⟩
      intro W30 hW30
      go_wp2_with fail
      refine bodyPost_ret (results_cell_row rfl _ _ (w.heap.size + 4) 45 _ _ dr rfl (blk_same (blk_at Hx5.out (kept_trans Kk13.out (kept_trans Kk22.out Kk28.out))) hW30) dr1 (by cases dr <;> first | rfl | exact dr2) (by kernel_rfl)) rfl ?_
      rw [show heMoved i a b p x = (⟨0, (.mk 0 0 0 0 []), (.mk 0 0 0 0 []), (.mk 0 0 0 0 []), (.mk 0 0 0 0 []), (.mk 0 0 0 0 [])⟩ : He) from by unfold heMoved heR2; rw [Hhb11.out, Hhb26.out]; (try rfl)]
      exact ⟨_, _, _, _, _, rfl, ⟨par_end (par_row' (liesQ_nil w24 (Par w V0.heap.size [] P)) hW30 (by omega) (by have := Z0.out; omega)) (by have := Z0.out; omega), par_end (par_row' (liesQ_nil w24 (Par w V0.heap.size [] P)) hW30 (by omega) (by have := Z0.out; omega)) (by have := Z0.out; omega), par_end (par_row' (liesQ_nil w24 (Par w V0.heap.size [] P)) hW30 (by omega) (by have := Z0.out; omega)) (by have := Z0.out; omega), par_end (par_row' (liesQ_nil w24 (Par w V0.heap.size [] P)) hW30 (by omega) (by have := Z0.out; omega)) (by have := Z0.out; omega), par_end (par_row' (liesQ_nil w24 (Par w V0.heap.size [] P)) hW30 (by omega) (by have := Z0.out; omega)) (by have := Z0.out; omega)⟩, kept_set (kept_trans Kk8.out (kept_trans Kk13.out (kept_trans Kk22.out Kk28.out))) hW30 (by omega)⟩
    | true =>
      have kvV0 : Sees V0 (w.heap.size + 4) w24 := sees_kept _ (kept_trans Kk13.out (kept_trans Kk22.out Kk28.out))
      go_wp2_with fail
      clear kvV0
      obtain ⟨W31, h32⟩ : ∃ x, World.drew w24 = x := ⟨_, rfl⟩
      have k33 : Kept w24 W31 := by rw [← h32]; exact kept_drew (kept_refl _)
      have Kk34 := Lib.hid k33
      clear k33
      refine wp_region_held_drew (S := Sees W31 (w.heap.size + 4)) (by kernel_rfl) ?_ (fun hHeld => ?_)
      · (try dsimp only)
        rw [h32]
        exact sees_kept _ (kept_refl _)
      rw [h32] at hHeld ⊢
      clear h32
      refine take_at 0 24 rMovedr3_0 (v := ?_) (Or.inl ⟨by rfl, ?_⟩) ?_
      rotate_left 1
      · ((intro w hSw; (try dsimp only at hSw); unfold rMovedr3_0; go_simp) <;> with_reducible rfl)
      (try simp only [Act.put, List.setIfInBounds_toArray, List.set_cons_zero, List.set_cons_succ])
      refine take_at 1 25 rMovedr3_1 (yields_part (w.heap.size) 0 32 (.tmp 6) #[.int .i64 a.k, .int .i64 a.i, .int .i64 a.j, .int .i64 a.n, (.slice aa a.kids.length ca)] du (fun _ h => sees_blk Hx1.out (by have := Z0.out; omega) (sees_of (kept_trans Kk13.out (kept_trans Kk22.out (kept_trans Kk28.out Kk34.out))) h)) (by rfl) rfl (by rfl) (by rfl) hu1 (by cases du <;> first | rfl | exact hu2) size_term) ?_
      (try simp only [Act.put, List.setIfInBounds_toArray, List.set_cons_zero, List.set_cons_succ])
      refine take_at 2 26 rMovedr3_2 (yields_part (w.heap.size + 1) 0 32 (.tmp 7) #[.int .i64 b.k, .int .i64 b.i, .int .i64 b.j, .int .i64 b.n, (.slice ab b.kids.length cb)] du (fun _ h => sees_blk Hx2.out (by have := Z0.out; omega) (sees_of (kept_trans Kk13.out (kept_trans Kk22.out (kept_trans Kk28.out Kk34.out))) h)) (by rfl) rfl (by rfl) (by rfl) hu1 (by cases du <;> first | rfl | exact hu2) size_term) ?_
      (try simp only [Act.put, List.setIfInBounds_toArray, List.set_cons_zero, List.set_cons_succ])
      refine take_at 3 27 rMovedr3_3 (yields_part (w.heap.size + 3) 0 32 (.tmp 9) #[.int .i64 x.k, .int .i64 x.i, .int .i64 x.j, .int .i64 x.n, (.slice ax x.kids.length cx)] du (fun _ h => sees_blk Hx4.out (by have := Z0.out; omega) (sees_of (kept_trans Kk13.out (kept_trans Kk22.out (kept_trans Kk28.out Kk34.out))) h)) (by rfl) rfl (by rfl) (by rfl) hu1 (by cases du <;> first | rfl | exact hu2) size_term) ?_
      (try simp only [Act.put, List.setIfInBounds_toArray, List.set_cons_zero, List.set_cons_succ])
      refine take_at 4 28 rMovedr3_4 (v := ?_) (Or.inl ⟨by rfl, ?_⟩) ?_
      rotate_left 1
      · ((intro w hSw; (try dsimp only at hSw); unfold rMovedr3_4; go_simp) <;> with_reducible rfl)
      (try simp only [Act.put, List.setIfInBounds_toArray, List.set_cons_zero, List.set_cons_succ])
      refine take_at 5 29 rMovedr3_5 (yields_part (w.heap.size) 0 32 (.tmp 6) #[.int .i64 a.k, .int .i64 a.i, .int .i64 a.j, .int .i64 a.n, (.slice aa a.kids.length ca)] du (fun _ h => sees_blk Hx1.out (by have := Z0.out; omega) (sees_of (kept_trans Kk13.out (kept_trans Kk22.out (kept_trans Kk28.out Kk34.out))) h)) (by rfl) rfl (by rfl) (by rfl) hu1 (by cases du <;> first | rfl | exact hu2) size_term) ?_
      (try simp only [Act.put, List.setIfInBounds_toArray, List.set_cons_zero, List.set_cons_succ])
      refine take_at 6 30 rMovedr3_6 (yields_part (w.heap.size + 1) 0 32 (.tmp 7) #[.int .i64 b.k, .int .i64 b.i, .int .i64 b.j, .int .i64 b.n, (.slice ab b.kids.length cb)] du (fun _ h => sees_blk Hx2.out (by have := Z0.out; omega) (sees_of (kept_trans Kk13.out (kept_trans Kk22.out (kept_trans Kk28.out Kk34.out))) h)) (by rfl) rfl (by rfl) (by rfl) hu1 (by cases du <;> first | rfl | exact hu2) size_term) ?_
      (try simp only [Act.put, List.setIfInBounds_toArray, List.set_cons_zero, List.set_cons_succ])
      refine take_at 7 31 rMovedr3_7 (yields_part (w.heap.size + 2) 0 32 (.tmp 8) #[.int .i64 p.k, .int .i64 p.i, .int .i64 p.j, .int .i64 p.n, (.slice ap p.kids.length cp)] du (fun _ h => sees_blk Hx3.out (by have := Z0.out; omega) (sees_of (kept_trans Kk13.out (kept_trans Kk22.out (kept_trans Kk28.out Kk34.out))) h)) (by rfl) rfl (by rfl) (by rfl) hu1 (by cases du <;> first | rfl | exact hu2) size_term) ?_
      (try simp only [Act.put, List.setIfInBounds_toArray, List.set_cons_zero, List.set_cons_succ])
      refine take_at 8 32 rMovedr3_8 (yields_part (w.heap.size + 3) 0 32 (.tmp 9) #[.int .i64 x.k, .int .i64 x.i, .int .i64 x.j, .int .i64 x.n, (.slice ax x.kids.length cx)] du (fun _ h => sees_blk Hx4.out (by have := Z0.out; omega) (sees_of (kept_trans Kk13.out (kept_trans Kk22.out (kept_trans Kk28.out Kk34.out))) h)) (by rfl) rfl (by rfl) (by rfl) hu1 (by cases du <;> first | rfl | exact hu2) size_term) ?_
      (try simp only [Act.put, List.setIfInBounds_toArray, List.set_cons_zero, List.set_cons_succ])
      refine take_at 11 35 rMovedr3_11 (v := ?_) (Or.inl ⟨by rfl, ?_⟩) ?_
      rotate_left 1
      · ((intro w hSw; (try dsimp only at hSw); unfold rMovedr3_11; go_simp) <;> with_reducible rfl)
      (try simp only [Act.put, List.setIfInBounds_toArray, List.set_cons_zero, List.set_cons_succ])
      refine take_at 12 36 rMovedr3_12 (yields_part (w.heap.size) 0 32 (.tmp 6) #[.int .i64 a.k, .int .i64 a.i, .int .i64 a.j, .int .i64 a.n, (.slice aa a.kids.length ca)] du (fun _ h => sees_blk Hx1.out (by have := Z0.out; omega) (sees_of (kept_trans Kk13.out (kept_trans Kk22.out (kept_trans Kk28.out Kk34.out))) h)) (by rfl) rfl (by rfl) (by rfl) hu1 (by cases du <;> first | rfl | exact hu2) size_term) ?_
      (try simp only [Act.put, List.setIfInBounds_toArray, List.set_cons_zero, List.set_cons_succ])
      refine take_at 13 37 rMovedr3_13 (yields_part (w.heap.size + 1) 0 32 (.tmp 7) #[.int .i64 b.k, .int .i64 b.i, .int .i64 b.j, .int .i64 b.n, (.slice ab b.kids.length cb)] du (fun _ h => sees_blk Hx2.out (by have := Z0.out; omega) (sees_of (kept_trans Kk13.out (kept_trans Kk22.out (kept_trans Kk28.out Kk34.out))) h)) (by rfl) rfl (by rfl) (by rfl) hu1 (by cases du <;> first | rfl | exact hu2) size_term) ?_
      (try simp only [Act.put, List.setIfInBounds_toArray, List.set_cons_zero, List.set_cons_succ])
      refine take_at 14 38 rMovedr3_14 (yields_part (w.heap.size + 2) 0 32 (.tmp 8) #[.int .i64 p.k, .int .i64 p.i, .int .i64 p.j, .int .i64 p.n, (.slice ap p.kids.length cp)] du (fun _ h => sees_blk Hx3.out (by have := Z0.out; omega) (sees_of (kept_trans Kk13.out (kept_trans Kk22.out (kept_trans Kk28.out Kk34.out))) h)) (by rfl) rfl (by rfl) (by rfl) hu1 (by cases du <;> first | rfl | exact hu2) size_term) ?_
      (try simp only [Act.put, List.setIfInBounds_toArray, List.set_cons_zero, List.set_cons_succ])
      refine take_at 15 39 rMovedr3_15 (yields_part (w.heap.size + 3) 0 32 (.tmp 9) #[.int .i64 x.k, .int .i64 x.i, .int .i64 x.j, .int .i64 x.n, (.slice ax x.kids.length cx)] du (fun _ h => sees_blk Hx4.out (by have := Z0.out; omega) (sees_of (kept_trans Kk13.out (kept_trans Kk22.out (kept_trans Kk28.out Kk34.out))) h)) (by rfl) rfl (by rfl) (by rfl) hu1 (by cases du <;> first | rfl | exact hu2) size_term) ?_
      (try simp only [Act.put, List.setIfInBounds_toArray, List.set_cons_zero, List.set_cons_succ])
      refine wpAnyH_ready (rs := [9, 16]) (by kernel_rfl) (by simp) ?_
      refine AllReadyH.cons (o := rMovedr3_9) rfl (fun K hK => ?_) ?_
      · unfold rMovedr3_9
        go_simp
        refine at_K (fun W36 hW36 => ?_)
        obtain ⟨k38, x37, z39⟩ := alloc1 hW36
        have Kk40 := Lib.hid k38
        clear k38
        have Hx37 := Lib.hid x37
        have Hz39 := Lib.hid z39
        clear x37 z39 hW36
        have HR41 : Hid (LiesQ W36 (Par w V0.heap.size [] P) [a, b, p, x] (.slice (some ⟨W31.heap.size, 0, none⟩) 4 4)) := q_row [(a, (.slice aa a.kids.length ca)), (b, (.slice ab b.kids.length cb)), (p, (.slice ap p.kids.length cp)), (x, (.slice ax x.kids.length cx))] _ rfl Hx37.out (par_new (Below.size (kept_trans Kk13.out (kept_trans Kk22.out (kept_trans Kk28.out Kk34.out)))) (xlt_nil _) (Nat.le_refl _)) (fun p hp => by
          simp only [List.mem_cons, List.not_mem_nil, or_false] at hp
          rcases hp with rfl | rfl | rfl | rfl
          · exact ⟨Ga.out, (HLa.out.later (kept_trans Kk13.out (kept_trans Kk22.out (kept_trans Kk28.out (kept_trans Kk34.out Kk40.out)))))⟩
          · exact ⟨Gb.out, (HLb.out.later (kept_trans Kk13.out (kept_trans Kk22.out (kept_trans Kk28.out (kept_trans Kk34.out Kk40.out)))))⟩
          · exact ⟨Gp.out, (HLp.out.later (kept_trans Kk13.out (kept_trans Kk22.out (kept_trans Kk28.out (kept_trans Kk34.out Kk40.out)))))⟩
          · exact ⟨Gx.out, (HLx.out.later (kept_trans Kk13.out (kept_trans Kk22.out (kept_trans Kk28.out (kept_trans Kk34.out Kk40.out)))))⟩) (Nat.le_of_ble_eq_true rfl)
        clear hHeld
        refine hK.out _ _ ?_ (fun hHeld => ?_)
        · (try dsimp only)
          exact sees_kept _ Kk40.out
        clear hK K
        (try simp only [Act.put, List.setIfInBounds_toArray, List.set_cons_zero, List.set_cons_succ])
        refine wpAnyH_ready (rs := [10, 16]) (by kernel_rfl) (by simp) ?_
        refine AllReadyH.cons (o := rMovedr3_10) rfl (fun K hK => ?_) ?_
        · unfold rMovedr3_10
          go_simp
          refine (ruse_any 5 i 0 [a, b, p, x] (Par w V0.heap.size [] P) _ _ (show I64 5 from by unfold I64; decide) Ri.out (show I64 0 from by unfold I64; decide) HR41.out (Nat.le_of_ble_eq_true rfl)).mono ?_
          obtain ⟨U49, hU49⟩ : ∃ qu, useT 5 i 0 [a, b, p, x] = qu := ⟨_, rfl⟩
          rw [hU49]
          have HU49 := Lib.hid hU49
          clear hU49
          rintro e w42 ⟨s44, rfl, hl45, k43⟩
          obtain ⟨a46, c47, S48, rfl, -⟩ := hl45.out
          have Kk50 := Lib.hid k43
          clear k43
          have Hhl45 : Hid (LiesQ w42 (Par w V0.heap.size [] P) U49.kids _) := par_give hl45 (Below.size (kept_trans Kk13.out (kept_trans Kk22.out (kept_trans Kk28.out (kept_trans Kk34.out Kk40.out))))) (xlt_nil _)
          clear hl45
          clear hHeld
          refine hK.out _ _ ?_ (fun hHeld => ?_)
          · (try dsimp only)
            exact sees_kept _ (kept_trans Kk40.out Kk50.out)
          clear hK K
          (try simp only [Act.put, List.setIfInBounds_toArray, List.set_cons_zero, List.set_cons_succ])
          refine wpAnyH_ready (rs := [16]) (by kernel_rfl) (by simp) ?_
          refine AllReadyH.cons (o := rMovedr3_16) rfl (fun K hK => ?_) ?_
          · unfold rMovedr3_16
            go_simp
            refine at_K (fun W52 hW52 => ?_)
            obtain ⟨k54, x53, z55⟩ := alloc1 hW52
            have Kk56 := Lib.hid k54
            clear k54
            have Hx53 := Lib.hid x53
            have Hz55 := Lib.hid z55
            clear x53 z55 hW52
            have HR57 : Hid (LiesQ W52 (Par w V0.heap.size [] P) [a, b, p, x] (.slice (some ⟨w42.heap.size, 0, none⟩) 4 4)) := q_row [(a, (.slice aa a.kids.length ca)), (b, (.slice ab b.kids.length cb)), (p, (.slice ap p.kids.length cp)), (x, (.slice ax x.kids.length cx))] _ rfl Hx53.out (par_new (Below.size (kept_trans Kk13.out (kept_trans Kk22.out (kept_trans Kk28.out (kept_trans Kk34.out (kept_trans Kk40.out Kk50.out)))))) (xlt_nil _) (Nat.le_refl _)) (fun p hp => by
              simp only [List.mem_cons, List.not_mem_nil, or_false] at hp
              rcases hp with rfl | rfl | rfl | rfl
              · exact ⟨Ga.out, (HLa.out.later (kept_trans Kk13.out (kept_trans Kk22.out (kept_trans Kk28.out (kept_trans Kk34.out (kept_trans Kk40.out (kept_trans Kk50.out Kk56.out)))))))⟩
              · exact ⟨Gb.out, (HLb.out.later (kept_trans Kk13.out (kept_trans Kk22.out (kept_trans Kk28.out (kept_trans Kk34.out (kept_trans Kk40.out (kept_trans Kk50.out Kk56.out)))))))⟩
              · exact ⟨Gp.out, (HLp.out.later (kept_trans Kk13.out (kept_trans Kk22.out (kept_trans Kk28.out (kept_trans Kk34.out (kept_trans Kk40.out (kept_trans Kk50.out Kk56.out)))))))⟩
              · exact ⟨Gx.out, (HLx.out.later (kept_trans Kk13.out (kept_trans Kk22.out (kept_trans Kk28.out (kept_trans Kk34.out (kept_trans Kk40.out (kept_trans Kk50.out Kk56.out)))))))⟩) (Nat.le_of_ble_eq_true rfl)
            clear hHeld
            refine hK.out _ _ ?_ (fun hHeld => ?_)
            · (try dsimp only)
              exact sees_kept _ (kept_trans Kk40.out (kept_trans Kk50.out Kk56.out))
            clear hK K
            (try simp only [Act.put, List.setIfInBounds_toArray, List.set_cons_zero, List.set_cons_succ])
            refine wpAnyH_ready (rs := [17]) (by kernel_rfl) (by simp) ?_
            refine AllReadyH.cons (o := rMovedr3_17) rfl (fun K hK => ?_) ?_
            · unfold rMovedr3_17
              go_simp
              refine (ruse_any 8 i 0 [a, b, p, x] (Par w V0.heap.size [] P) _ _ (show I64 8 from by unfold I64; decide) Ri.out (show I64 0 from by unfold I64; decide) HR57.out (Nat.le_of_ble_eq_true rfl)).mono ?_
              obtain ⟨U65, hU65⟩ : ∃ qu, useT 8 i 0 [a, b, p, x] = qu := ⟨_, rfl⟩
              rw [hU65]
              have HU65 := Lib.hid hU65
              clear hU65
              rintro e w58 ⟨s60, rfl, hl61, k59⟩
              obtain ⟨a62, c63, S64, rfl, -⟩ := hl61.out
              have Kk66 := Lib.hid k59
              clear k59
              have Hhl61 : Hid (LiesQ w58 (Par w V0.heap.size [] P) U65.kids _) := par_give hl61 (Below.size (kept_trans Kk13.out (kept_trans Kk22.out (kept_trans Kk28.out (kept_trans Kk34.out (kept_trans Kk40.out (kept_trans Kk50.out Kk56.out))))))) (xlt_nil _)
              clear hl61
              clear hHeld
              refine hK.out _ _ ?_ (fun hHeld => ?_)
              · (try dsimp only)
                exact sees_kept _ (kept_trans Kk40.out (kept_trans Kk50.out (kept_trans Kk56.out Kk66.out)))
              clear hK K
              (try simp only [Act.put, List.setIfInBounds_toArray, List.set_cons_zero, List.set_cons_succ])
              refine take_at 18 42 rMovedr3_18 (v := ?_) (Or.inl ⟨by rfl, ?_⟩) ?_
              rotate_left 1
              · ((intro w hSw; (try dsimp only at hSw); unfold rMovedr3_18; go_simp) <;> with_reducible rfl)
              (try simp only [Act.put, List.setIfInBounds_toArray, List.set_cons_zero, List.set_cons_succ])
              refine wpAnyH_ready (rs := [19]) (by kernel_rfl) (by simp) ?_
              refine AllReadyH.cons (o := rMovedr3_19) rfl (fun K hK => ?_) ?_
              · unfold rMovedr3_19
                refine step_store_part rfl 45 (.tmp 10) (.tmp 42) rfl (w.heap.size + 4) 0 #[.int .i64 i, .int .i64 a.k, .int .i64 a.i, .int .i64 a.j, .int .i64 a.n, (.slice aa a.kids.length ca), .int .i64 b.k, .int .i64 b.i, .int .i64 b.j, .int .i64 b.n, (.slice ab b.kids.length cb), .int .i64 x.k, .int .i64 x.i, .int .i64 x.j, .int .i64 x.n, (.slice ax x.kids.length cx), .int .i64 U49.k, .int .i64 U49.i, .int .i64 U49.j, .int .i64 U49.n, (.slice a46 U49.kids.length c47), .int .i64 U65.k, .int .i64 U65.i, .int .i64 U65.j, .int .i64 U65.n, (.slice a62 U65.kids.length c63)] rfl rfl 45 (by kernel_rfl) (row_ok rfl) _ #[.int .i64 i, .int .i64 a.k, .int .i64 a.i, .int .i64 a.j, .int .i64 a.n, (.slice aa a.kids.length ca), .int .i64 b.k, .int .i64 b.i, .int .i64 b.j, .int .i64 b.n, (.slice ab b.kids.length cb), .int .i64 x.k, .int .i64 x.i, .int .i64 x.j, .int .i64 x.n, (.slice ax x.kids.length cx), .int .i64 U49.k, .int .i64 U49.i, .int .i64 U49.j, .int .i64 U49.n, (.slice a46 U49.kids.length c47), .int .i64 U65.k, .int .i64 U65.i, .int .i64 U65.j, .int .i64 U65.n, (.slice a62 U65.kids.length c63)] (blk_at Hx5.out (kept_trans Kk13.out (kept_trans Kk22.out (kept_trans Kk28.out (kept_trans Kk34.out (kept_trans Kk40.out (kept_trans Kk50.out (kept_trans Kk56.out Kk66.out)))))))) rfl (Nat.le_of_ble_eq_true rfl) ?_
                intro W67 hW67
                clear hHeld
                refine hK.out _ _ ?_ (fun hHeld => ?_)
                · (try dsimp only)
                  exact sees_set (kept_trans Kk40.out (kept_trans Kk50.out (kept_trans Kk56.out Kk66.out))) hW67
                clear hK K
                (try simp only [Act.put])
                refine wpAnyH_done (by kernel_rfl) ?_ _
                clear hHeld
                go_wp2_with fail
                refine bodyPost_ret (results_cell_row rfl _ _ (w.heap.size + 4) 45 _ _ dr rfl (blk_same (blk_at Hx5.out (kept_trans Kk13.out (kept_trans Kk22.out (kept_trans Kk28.out (kept_trans Kk34.out (kept_trans Kk40.out (kept_trans Kk50.out (kept_trans Kk56.out Kk66.out)))))))) hW67) dr1 (by cases dr <;> first | rfl | exact dr2) (by kernel_rfl)) rfl ?_
                rw [show heMoved i a b p x = (⟨i, a, b, x, U49, U65⟩ : He) from by unfold heMoved heR2; rw [Hhb11.out, Hhb26.out]; rw [← HU65.out]; rw [← HU49.out]; (try rfl)]
                exact ⟨_, _, _, _, _, rfl, ⟨par_end (par_row' (HLa.out.later (kept_trans Kk13.out (kept_trans Kk22.out (kept_trans Kk28.out (kept_trans Kk34.out (kept_trans Kk40.out (kept_trans Kk50.out (kept_trans Kk56.out Kk66.out)))))))) hW67 (by omega) (by have := Z0.out; omega)) (by have := Z0.out; omega), par_end (par_row' (HLb.out.later (kept_trans Kk13.out (kept_trans Kk22.out (kept_trans Kk28.out (kept_trans Kk34.out (kept_trans Kk40.out (kept_trans Kk50.out (kept_trans Kk56.out Kk66.out)))))))) hW67 (by omega) (by have := Z0.out; omega)) (by have := Z0.out; omega), par_end (par_row' (HLx.out.later (kept_trans Kk13.out (kept_trans Kk22.out (kept_trans Kk28.out (kept_trans Kk34.out (kept_trans Kk40.out (kept_trans Kk50.out (kept_trans Kk56.out Kk66.out)))))))) hW67 (by omega) (by have := Z0.out; omega)) (by have := Z0.out; omega), par_end (par_row' (Hhl45.out.later (kept_trans Kk56.out Kk66.out)) hW67 (by omega) (by have := Z0.out; omega)) (by have := Z0.out; omega), par_end (par_row' Hhl61.out hW67 (by omega) (by have := Z0.out; omega)) (by have := Z0.out; omega)⟩, kept_set (kept_trans Kk8.out (kept_trans Kk13.out (kept_trans Kk22.out (kept_trans Kk28.out (kept_trans Kk34.out (kept_trans Kk40.out (kept_trans Kk50.out (kept_trans Kk56.out Kk66.out)))))))) hW67 (by omega)⟩
              exact AllReadyH.nil
            exact AllReadyH.nil
          exact AllReadyH.nil
        refine AllReadyH.cons (o := rMovedr3_16) rfl (fun K hK => ?_) ?_
        · unfold rMovedr3_16
          go_simp
          refine at_K (fun W69 hW69 => ?_)
          obtain ⟨k71, x70, z72⟩ := alloc1 hW69
          have Kk73 := Lib.hid k71
          clear k71
          have Hx70 := Lib.hid x70
          have Hz72 := Lib.hid z72
          clear x70 z72 hW69
          have HR74 : Hid (LiesQ W69 (Par w V0.heap.size [] P) [a, b, p, x] (.slice (some ⟨W36.heap.size, 0, none⟩) 4 4)) := q_row [(a, (.slice aa a.kids.length ca)), (b, (.slice ab b.kids.length cb)), (p, (.slice ap p.kids.length cp)), (x, (.slice ax x.kids.length cx))] _ rfl Hx70.out (par_new (Below.size (kept_trans Kk13.out (kept_trans Kk22.out (kept_trans Kk28.out (kept_trans Kk34.out Kk40.out))))) (xlt_nil _) (Nat.le_refl _)) (fun p hp => by
            simp only [List.mem_cons, List.not_mem_nil, or_false] at hp
            rcases hp with rfl | rfl | rfl | rfl
            · exact ⟨Ga.out, (HLa.out.later (kept_trans Kk13.out (kept_trans Kk22.out (kept_trans Kk28.out (kept_trans Kk34.out (kept_trans Kk40.out Kk73.out))))))⟩
            · exact ⟨Gb.out, (HLb.out.later (kept_trans Kk13.out (kept_trans Kk22.out (kept_trans Kk28.out (kept_trans Kk34.out (kept_trans Kk40.out Kk73.out))))))⟩
            · exact ⟨Gp.out, (HLp.out.later (kept_trans Kk13.out (kept_trans Kk22.out (kept_trans Kk28.out (kept_trans Kk34.out (kept_trans Kk40.out Kk73.out))))))⟩
            · exact ⟨Gx.out, (HLx.out.later (kept_trans Kk13.out (kept_trans Kk22.out (kept_trans Kk28.out (kept_trans Kk34.out (kept_trans Kk40.out Kk73.out))))))⟩) (Nat.le_of_ble_eq_true rfl)
          clear hHeld
          refine hK.out _ _ ?_ (fun hHeld => ?_)
          · (try dsimp only)
            exact sees_kept _ (kept_trans Kk40.out Kk73.out)
          clear hK K
          (try simp only [Act.put, List.setIfInBounds_toArray, List.set_cons_zero, List.set_cons_succ])
          refine wpAnyH_ready (rs := [10]) (by kernel_rfl) (by simp) ?_
          refine AllReadyH.cons (o := rMovedr3_10) rfl (fun K hK => ?_) ?_
          · unfold rMovedr3_10
            go_simp
            refine (ruse_any 5 i 0 [a, b, p, x] (Par w V0.heap.size [] P) _ _ (show I64 5 from by unfold I64; decide) Ri.out (show I64 0 from by unfold I64; decide) (HR41.out.later Kk73.out) (Nat.le_of_ble_eq_true rfl)).mono ?_
            obtain ⟨U82, hU82⟩ : ∃ qu, useT 5 i 0 [a, b, p, x] = qu := ⟨_, rfl⟩
            rw [hU82]
            have HU82 := Lib.hid hU82
            clear hU82
            rintro e w75 ⟨s77, rfl, hl78, k76⟩
            obtain ⟨a79, c80, S81, rfl, -⟩ := hl78.out
            have Kk83 := Lib.hid k76
            clear k76
            have Hhl78 : Hid (LiesQ w75 (Par w V0.heap.size [] P) U82.kids _) := par_give hl78 (Below.size (kept_trans Kk13.out (kept_trans Kk22.out (kept_trans Kk28.out (kept_trans Kk34.out (kept_trans Kk40.out Kk73.out)))))) (xlt_nil _)
            clear hl78
            clear hHeld
            refine hK.out _ _ ?_ (fun hHeld => ?_)
            · (try dsimp only)
              exact sees_kept _ (kept_trans Kk40.out (kept_trans Kk73.out Kk83.out))
            clear hK K
            (try simp only [Act.put, List.setIfInBounds_toArray, List.set_cons_zero, List.set_cons_succ])
            refine wpAnyH_ready (rs := [17]) (by kernel_rfl) (by simp) ?_
            refine AllReadyH.cons (o := rMovedr3_17) rfl (fun K hK => ?_) ?_
            · unfold rMovedr3_17
              go_simp
              refine (ruse_any 8 i 0 [a, b, p, x] (Par w V0.heap.size [] P) _ _ (show I64 8 from by unfold I64; decide) Ri.out (show I64 0 from by unfold I64; decide) (HR74.out.later Kk83.out) (Nat.le_of_ble_eq_true rfl)).mono ?_
              obtain ⟨U91, hU91⟩ : ∃ qu, useT 8 i 0 [a, b, p, x] = qu := ⟨_, rfl⟩
              rw [hU91]
              have HU91 := Lib.hid hU91
              clear hU91
              rintro e w84 ⟨s86, rfl, hl87, k85⟩
              obtain ⟨a88, c89, S90, rfl, -⟩ := hl87.out
              have Kk92 := Lib.hid k85
              clear k85
              have Hhl87 : Hid (LiesQ w84 (Par w V0.heap.size [] P) U91.kids _) := par_give hl87 (Below.size (kept_trans Kk13.out (kept_trans Kk22.out (kept_trans Kk28.out (kept_trans Kk34.out (kept_trans Kk40.out (kept_trans Kk73.out Kk83.out))))))) (xlt_nil _)
              clear hl87
              clear hHeld
              refine hK.out _ _ ?_ (fun hHeld => ?_)
              · (try dsimp only)
                exact sees_kept _ (kept_trans Kk40.out (kept_trans Kk73.out (kept_trans Kk83.out Kk92.out)))
              clear hK K
              (try simp only [Act.put, List.setIfInBounds_toArray, List.set_cons_zero, List.set_cons_succ])
              refine take_at 18 42 rMovedr3_18 (v := ?_) (Or.inl ⟨by rfl, ?_⟩) ?_
              rotate_left 1
              · ((intro w hSw; (try dsimp only at hSw); unfold rMovedr3_18; go_simp) <;> with_reducible rfl)
              (try simp only [Act.put, List.setIfInBounds_toArray, List.set_cons_zero, List.set_cons_succ])
              refine wpAnyH_ready (rs := [19]) (by kernel_rfl) (by simp) ?_
              refine AllReadyH.cons (o := rMovedr3_19) rfl (fun K hK => ?_) ?_
              · unfold rMovedr3_19
                refine step_store_part rfl 45 (.tmp 10) (.tmp 42) rfl (w.heap.size + 4) 0 #[.int .i64 i, .int .i64 a.k, .int .i64 a.i, .int .i64 a.j, .int .i64 a.n, (.slice aa a.kids.length ca), .int .i64 b.k, .int .i64 b.i, .int .i64 b.j, .int .i64 b.n, (.slice ab b.kids.length cb), .int .i64 x.k, .int .i64 x.i, .int .i64 x.j, .int .i64 x.n, (.slice ax x.kids.length cx), .int .i64 U82.k, .int .i64 U82.i, .int .i64 U82.j, .int .i64 U82.n, (.slice a79 U82.kids.length c80), .int .i64 U91.k, .int .i64 U91.i, .int .i64 U91.j, .int .i64 U91.n, (.slice a88 U91.kids.length c89)] rfl rfl 45 (by kernel_rfl) (row_ok rfl) _ #[.int .i64 i, .int .i64 a.k, .int .i64 a.i, .int .i64 a.j, .int .i64 a.n, (.slice aa a.kids.length ca), .int .i64 b.k, .int .i64 b.i, .int .i64 b.j, .int .i64 b.n, (.slice ab b.kids.length cb), .int .i64 x.k, .int .i64 x.i, .int .i64 x.j, .int .i64 x.n, (.slice ax x.kids.length cx), .int .i64 U82.k, .int .i64 U82.i, .int .i64 U82.j, .int .i64 U82.n, (.slice a79 U82.kids.length c80), .int .i64 U91.k, .int .i64 U91.i, .int .i64 U91.j, .int .i64 U91.n, (.slice a88 U91.kids.length c89)] (blk_at Hx5.out (kept_trans Kk13.out (kept_trans Kk22.out (kept_trans Kk28.out (kept_trans Kk34.out (kept_trans Kk40.out (kept_trans Kk73.out (kept_trans Kk83.out Kk92.out)))))))) rfl (Nat.le_of_ble_eq_true rfl) ?_
                intro W93 hW93
                clear hHeld
                refine hK.out _ _ ?_ (fun hHeld => ?_)
                · (try dsimp only)
                  exact sees_set (kept_trans Kk40.out (kept_trans Kk73.out (kept_trans Kk83.out Kk92.out))) hW93
                clear hK K
                (try simp only [Act.put])
                refine wpAnyH_done (by kernel_rfl) ?_ _
                clear hHeld
                go_wp2_with fail
                refine bodyPost_ret (results_cell_row rfl _ _ (w.heap.size + 4) 45 _ _ dr rfl (blk_same (blk_at Hx5.out (kept_trans Kk13.out (kept_trans Kk22.out (kept_trans Kk28.out (kept_trans Kk34.out (kept_trans Kk40.out (kept_trans Kk73.out (kept_trans Kk83.out Kk92.out)))))))) hW93) dr1 (by cases dr <;> first | rfl | exact dr2) (by kernel_rfl)) rfl ?_
                rw [show heMoved i a b p x = (⟨i, a, b, x, U82, U91⟩ : He) from by unfold heMoved heR2; rw [Hhb11.out, Hhb26.out]; rw [← HU91.out]; rw [← HU82.out]; (try rfl)]
                exact ⟨_, _, _, _, _, rfl, ⟨par_end (par_row' (HLa.out.later (kept_trans Kk13.out (kept_trans Kk22.out (kept_trans Kk28.out (kept_trans Kk34.out (kept_trans Kk40.out (kept_trans Kk73.out (kept_trans Kk83.out Kk92.out)))))))) hW93 (by omega) (by have := Z0.out; omega)) (by have := Z0.out; omega), par_end (par_row' (HLb.out.later (kept_trans Kk13.out (kept_trans Kk22.out (kept_trans Kk28.out (kept_trans Kk34.out (kept_trans Kk40.out (kept_trans Kk73.out (kept_trans Kk83.out Kk92.out)))))))) hW93 (by omega) (by have := Z0.out; omega)) (by have := Z0.out; omega), par_end (par_row' (HLx.out.later (kept_trans Kk13.out (kept_trans Kk22.out (kept_trans Kk28.out (kept_trans Kk34.out (kept_trans Kk40.out (kept_trans Kk73.out (kept_trans Kk83.out Kk92.out)))))))) hW93 (by omega) (by have := Z0.out; omega)) (by have := Z0.out; omega), par_end (par_row' (Hhl78.out.later Kk92.out) hW93 (by omega) (by have := Z0.out; omega)) (by have := Z0.out; omega), par_end (par_row' Hhl87.out hW93 (by omega) (by have := Z0.out; omega)) (by have := Z0.out; omega)⟩, kept_set (kept_trans Kk8.out (kept_trans Kk13.out (kept_trans Kk22.out (kept_trans Kk28.out (kept_trans Kk34.out (kept_trans Kk40.out (kept_trans Kk73.out (kept_trans Kk83.out Kk92.out)))))))) hW93 (by omega)⟩
              exact AllReadyH.nil
            exact AllReadyH.nil
          exact AllReadyH.nil
        exact AllReadyH.nil
      refine AllReadyH.cons (o := rMovedr3_16) rfl (fun K hK => ?_) ?_
      · unfold rMovedr3_16
        go_simp
        refine at_K (fun W95 hW95 => ?_)
        obtain ⟨k97, x96, z98⟩ := alloc1 hW95
        have Kk99 := Lib.hid k97
        clear k97
        have Hx96 := Lib.hid x96
        have Hz98 := Lib.hid z98
        clear x96 z98 hW95
        have HR100 : Hid (LiesQ W95 (Par w V0.heap.size [] P) [a, b, p, x] (.slice (some ⟨W31.heap.size, 0, none⟩) 4 4)) := q_row [(a, (.slice aa a.kids.length ca)), (b, (.slice ab b.kids.length cb)), (p, (.slice ap p.kids.length cp)), (x, (.slice ax x.kids.length cx))] _ rfl Hx96.out (par_new (Below.size (kept_trans Kk13.out (kept_trans Kk22.out (kept_trans Kk28.out Kk34.out)))) (xlt_nil _) (Nat.le_refl _)) (fun p hp => by
          simp only [List.mem_cons, List.not_mem_nil, or_false] at hp
          rcases hp with rfl | rfl | rfl | rfl
          · exact ⟨Ga.out, (HLa.out.later (kept_trans Kk13.out (kept_trans Kk22.out (kept_trans Kk28.out (kept_trans Kk34.out Kk99.out)))))⟩
          · exact ⟨Gb.out, (HLb.out.later (kept_trans Kk13.out (kept_trans Kk22.out (kept_trans Kk28.out (kept_trans Kk34.out Kk99.out)))))⟩
          · exact ⟨Gp.out, (HLp.out.later (kept_trans Kk13.out (kept_trans Kk22.out (kept_trans Kk28.out (kept_trans Kk34.out Kk99.out)))))⟩
          · exact ⟨Gx.out, (HLx.out.later (kept_trans Kk13.out (kept_trans Kk22.out (kept_trans Kk28.out (kept_trans Kk34.out Kk99.out)))))⟩) (Nat.le_of_ble_eq_true rfl)
        clear hHeld
        refine hK.out _ _ ?_ (fun hHeld => ?_)
        · (try dsimp only)
          exact sees_kept _ Kk99.out
        clear hK K
        (try simp only [Act.put, List.setIfInBounds_toArray, List.set_cons_zero, List.set_cons_succ])
        refine wpAnyH_ready (rs := [9]) (by kernel_rfl) (by simp) ?_
        refine AllReadyH.cons (o := rMovedr3_9) rfl (fun K hK => ?_) ?_
        · unfold rMovedr3_9
          go_simp
          refine at_K (fun W102 hW102 => ?_)
          obtain ⟨k104, x103, z105⟩ := alloc1 hW102
          have Kk106 := Lib.hid k104
          clear k104
          have Hx103 := Lib.hid x103
          have Hz105 := Lib.hid z105
          clear x103 z105 hW102
          have HR107 : Hid (LiesQ W102 (Par w V0.heap.size [] P) [a, b, p, x] (.slice (some ⟨W95.heap.size, 0, none⟩) 4 4)) := q_row [(a, (.slice aa a.kids.length ca)), (b, (.slice ab b.kids.length cb)), (p, (.slice ap p.kids.length cp)), (x, (.slice ax x.kids.length cx))] _ rfl Hx103.out (par_new (Below.size (kept_trans Kk13.out (kept_trans Kk22.out (kept_trans Kk28.out (kept_trans Kk34.out Kk99.out))))) (xlt_nil _) (Nat.le_refl _)) (fun p hp => by
            simp only [List.mem_cons, List.not_mem_nil, or_false] at hp
            rcases hp with rfl | rfl | rfl | rfl
            · exact ⟨Ga.out, (HLa.out.later (kept_trans Kk13.out (kept_trans Kk22.out (kept_trans Kk28.out (kept_trans Kk34.out (kept_trans Kk99.out Kk106.out))))))⟩
            · exact ⟨Gb.out, (HLb.out.later (kept_trans Kk13.out (kept_trans Kk22.out (kept_trans Kk28.out (kept_trans Kk34.out (kept_trans Kk99.out Kk106.out))))))⟩
            · exact ⟨Gp.out, (HLp.out.later (kept_trans Kk13.out (kept_trans Kk22.out (kept_trans Kk28.out (kept_trans Kk34.out (kept_trans Kk99.out Kk106.out))))))⟩
            · exact ⟨Gx.out, (HLx.out.later (kept_trans Kk13.out (kept_trans Kk22.out (kept_trans Kk28.out (kept_trans Kk34.out (kept_trans Kk99.out Kk106.out))))))⟩) (Nat.le_of_ble_eq_true rfl)
          clear hHeld
          refine hK.out _ _ ?_ (fun hHeld => ?_)
          · (try dsimp only)
            exact sees_kept _ (kept_trans Kk99.out Kk106.out)
          clear hK K
          (try simp only [Act.put, List.setIfInBounds_toArray, List.set_cons_zero, List.set_cons_succ])
          refine wpAnyH_ready (rs := [10]) (by kernel_rfl) (by simp) ?_
          refine AllReadyH.cons (o := rMovedr3_10) rfl (fun K hK => ?_) ?_
          · unfold rMovedr3_10
            go_simp
            refine (ruse_any 5 i 0 [a, b, p, x] (Par w V0.heap.size [] P) _ _ (show I64 5 from by unfold I64; decide) Ri.out (show I64 0 from by unfold I64; decide) HR107.out (Nat.le_of_ble_eq_true rfl)).mono ?_
            obtain ⟨U115, hU115⟩ : ∃ qu, useT 5 i 0 [a, b, p, x] = qu := ⟨_, rfl⟩
            rw [hU115]
            have HU115 := Lib.hid hU115
            clear hU115
            rintro e w108 ⟨s110, rfl, hl111, k109⟩
            obtain ⟨a112, c113, S114, rfl, -⟩ := hl111.out
            have Kk116 := Lib.hid k109
            clear k109
            have Hhl111 : Hid (LiesQ w108 (Par w V0.heap.size [] P) U115.kids _) := par_give hl111 (Below.size (kept_trans Kk13.out (kept_trans Kk22.out (kept_trans Kk28.out (kept_trans Kk34.out (kept_trans Kk99.out Kk106.out)))))) (xlt_nil _)
            clear hl111
            clear hHeld
            refine hK.out _ _ ?_ (fun hHeld => ?_)
            · (try dsimp only)
              exact sees_kept _ (kept_trans Kk99.out (kept_trans Kk106.out Kk116.out))
            clear hK K
            (try simp only [Act.put, List.setIfInBounds_toArray, List.set_cons_zero, List.set_cons_succ])
            refine wpAnyH_ready (rs := [17]) (by kernel_rfl) (by simp) ?_
            refine AllReadyH.cons (o := rMovedr3_17) rfl (fun K hK => ?_) ?_
            · unfold rMovedr3_17
              go_simp
              refine (ruse_any 8 i 0 [a, b, p, x] (Par w V0.heap.size [] P) _ _ (show I64 8 from by unfold I64; decide) Ri.out (show I64 0 from by unfold I64; decide) (HR100.out.later (kept_trans Kk106.out Kk116.out)) (Nat.le_of_ble_eq_true rfl)).mono ?_
              obtain ⟨U124, hU124⟩ : ∃ qu, useT 8 i 0 [a, b, p, x] = qu := ⟨_, rfl⟩
              rw [hU124]
              have HU124 := Lib.hid hU124
              clear hU124
              rintro e w117 ⟨s119, rfl, hl120, k118⟩
              obtain ⟨a121, c122, S123, rfl, -⟩ := hl120.out
              have Kk125 := Lib.hid k118
              clear k118
              have Hhl120 : Hid (LiesQ w117 (Par w V0.heap.size [] P) U124.kids _) := par_give hl120 (Below.size (kept_trans Kk13.out (kept_trans Kk22.out (kept_trans Kk28.out (kept_trans Kk34.out (kept_trans Kk99.out (kept_trans Kk106.out Kk116.out))))))) (xlt_nil _)
              clear hl120
              clear hHeld
              refine hK.out _ _ ?_ (fun hHeld => ?_)
              · (try dsimp only)
                exact sees_kept _ (kept_trans Kk99.out (kept_trans Kk106.out (kept_trans Kk116.out Kk125.out)))
              clear hK K
              (try simp only [Act.put, List.setIfInBounds_toArray, List.set_cons_zero, List.set_cons_succ])
              refine take_at 18 42 rMovedr3_18 (v := ?_) (Or.inl ⟨by rfl, ?_⟩) ?_
              rotate_left 1
              · ((intro w hSw; (try dsimp only at hSw); unfold rMovedr3_18; go_simp) <;> with_reducible rfl)
              (try simp only [Act.put, List.setIfInBounds_toArray, List.set_cons_zero, List.set_cons_succ])
              refine wpAnyH_ready (rs := [19]) (by kernel_rfl) (by simp) ?_
              refine AllReadyH.cons (o := rMovedr3_19) rfl (fun K hK => ?_) ?_
              · unfold rMovedr3_19
                refine step_store_part rfl 45 (.tmp 10) (.tmp 42) rfl (w.heap.size + 4) 0 #[.int .i64 i, .int .i64 a.k, .int .i64 a.i, .int .i64 a.j, .int .i64 a.n, (.slice aa a.kids.length ca), .int .i64 b.k, .int .i64 b.i, .int .i64 b.j, .int .i64 b.n, (.slice ab b.kids.length cb), .int .i64 x.k, .int .i64 x.i, .int .i64 x.j, .int .i64 x.n, (.slice ax x.kids.length cx), .int .i64 U115.k, .int .i64 U115.i, .int .i64 U115.j, .int .i64 U115.n, (.slice a112 U115.kids.length c113), .int .i64 U124.k, .int .i64 U124.i, .int .i64 U124.j, .int .i64 U124.n, (.slice a121 U124.kids.length c122)] rfl rfl 45 (by kernel_rfl) (row_ok rfl) _ #[.int .i64 i, .int .i64 a.k, .int .i64 a.i, .int .i64 a.j, .int .i64 a.n, (.slice aa a.kids.length ca), .int .i64 b.k, .int .i64 b.i, .int .i64 b.j, .int .i64 b.n, (.slice ab b.kids.length cb), .int .i64 x.k, .int .i64 x.i, .int .i64 x.j, .int .i64 x.n, (.slice ax x.kids.length cx), .int .i64 U115.k, .int .i64 U115.i, .int .i64 U115.j, .int .i64 U115.n, (.slice a112 U115.kids.length c113), .int .i64 U124.k, .int .i64 U124.i, .int .i64 U124.j, .int .i64 U124.n, (.slice a121 U124.kids.length c122)] (blk_at Hx5.out (kept_trans Kk13.out (kept_trans Kk22.out (kept_trans Kk28.out (kept_trans Kk34.out (kept_trans Kk99.out (kept_trans Kk106.out (kept_trans Kk116.out Kk125.out)))))))) rfl (Nat.le_of_ble_eq_true rfl) ?_
                intro W126 hW126
                clear hHeld
                refine hK.out _ _ ?_ (fun hHeld => ?_)
                · (try dsimp only)
                  exact sees_set (kept_trans Kk99.out (kept_trans Kk106.out (kept_trans Kk116.out Kk125.out))) hW126
                clear hK K
                (try simp only [Act.put])
                refine wpAnyH_done (by kernel_rfl) ?_ _
                clear hHeld
                go_wp2_with fail
                refine bodyPost_ret (results_cell_row rfl _ _ (w.heap.size + 4) 45 _ _ dr rfl (blk_same (blk_at Hx5.out (kept_trans Kk13.out (kept_trans Kk22.out (kept_trans Kk28.out (kept_trans Kk34.out (kept_trans Kk99.out (kept_trans Kk106.out (kept_trans Kk116.out Kk125.out)))))))) hW126) dr1 (by cases dr <;> first | rfl | exact dr2) (by kernel_rfl)) rfl ?_
                rw [show heMoved i a b p x = (⟨i, a, b, x, U115, U124⟩ : He) from by unfold heMoved heR2; rw [Hhb11.out, Hhb26.out]; rw [← HU124.out]; rw [← HU115.out]; (try rfl)]
                exact ⟨_, _, _, _, _, rfl, ⟨par_end (par_row' (HLa.out.later (kept_trans Kk13.out (kept_trans Kk22.out (kept_trans Kk28.out (kept_trans Kk34.out (kept_trans Kk99.out (kept_trans Kk106.out (kept_trans Kk116.out Kk125.out)))))))) hW126 (by omega) (by have := Z0.out; omega)) (by have := Z0.out; omega), par_end (par_row' (HLb.out.later (kept_trans Kk13.out (kept_trans Kk22.out (kept_trans Kk28.out (kept_trans Kk34.out (kept_trans Kk99.out (kept_trans Kk106.out (kept_trans Kk116.out Kk125.out)))))))) hW126 (by omega) (by have := Z0.out; omega)) (by have := Z0.out; omega), par_end (par_row' (HLx.out.later (kept_trans Kk13.out (kept_trans Kk22.out (kept_trans Kk28.out (kept_trans Kk34.out (kept_trans Kk99.out (kept_trans Kk106.out (kept_trans Kk116.out Kk125.out)))))))) hW126 (by omega) (by have := Z0.out; omega)) (by have := Z0.out; omega), par_end (par_row' (Hhl111.out.later Kk125.out) hW126 (by omega) (by have := Z0.out; omega)) (by have := Z0.out; omega), par_end (par_row' Hhl120.out hW126 (by omega) (by have := Z0.out; omega)) (by have := Z0.out; omega)⟩, kept_set (kept_trans Kk8.out (kept_trans Kk13.out (kept_trans Kk22.out (kept_trans Kk28.out (kept_trans Kk34.out (kept_trans Kk99.out (kept_trans Kk106.out (kept_trans Kk116.out Kk125.out)))))))) hW126 (by omega)⟩
              exact AllReadyH.nil
            exact AllReadyH.nil
          exact AllReadyH.nil
        exact AllReadyH.nil
      exact AllReadyH.nil

end Go.Proofs.Ytkdceahmknhojaa
