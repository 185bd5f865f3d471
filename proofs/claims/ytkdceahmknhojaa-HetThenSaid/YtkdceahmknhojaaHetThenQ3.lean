/-
  Facts and contracts that the proof of HetThen uses.
-/
import Derived.Test.YtkdceahmknhojaaRows
import Derived.WalkKit
import Derived.Lib.Hide
import Derived.KernelRfl
import Derived.Deep.RegionWith
import Derived.Deep.RegionHeld3
import Derived.Deep.AppendLies
import Derived.Laws.Rows
import Derived.Laws.IdiomCopy
import Derived.Deep.Slices
import Derived.Lib.QuietBelow
import Derived.StillTailTactics
import Derived.BigQuiet
import Derived.IntWalk
import Derived.OwnWalk
import Derived.Deep.RegionLaw
import Derived.Deep.QuietTactic
import Derived.Deep.LoopGhost
import Derived.Deep.DeepCutAuto
import Derived.Deep.MidRow
import Derived.OrdersHeld
import Derived.Laws.Tables
import Derived.Laws.CopyOwn
import Derived.Laws.CopyRow
import Derived.Deep.RegionHeld
import Derived.ProofKit
import Derived.OpenShut
import Derived.Carry
import Derived.ChangeSlices
import Derived.JoinedOf
import Derived.Test.YtkdceahmknhojaaHetThenQ2
namespace Go.Proofs.Ytkdceahmknhojaa
open Go.RowKit

set_option maxRecDepth 20000 in
set_option maxHeartbeats 4000000 in
theorem rPoints_any (i : Int) (P : Nat → Prop) (w : World) (hri : I64 i) : Calls Try.prog 31 #[.int .i64 i] w (GivesP P (pointsB i) w) := by
  have Ri := Lib.hid hri
  clear hri
  obtain ⟨du, hu1, hu2⟩ := under_term
  go_enter Try.func31, Try.ntmps31
  go_upto_region 1 with fail
  refine at_code (fun V0 hV0 => ?_)
  obtain ⟨k2, x1, z3⟩ := alloc1 hV0
  have Kk4 := Lib.hid k2
  clear k2
  have Hx1 := Lib.hid x1
  have Z0 := Lib.hid z3
  clear z3 x1 hV0
  have kvV0 : Sees V0 (w.heap.size) V0 := sees_kept _ (kept_refl _)
  go_wp2_with fail
  clear kvV0
  refine (rlevel_any i 2 _ Ri.out (show I64 2 from by unfold I64; decide) (by decide) (by decide)).mono ?_
  obtain ⟨rb8, hb7⟩ : ∃ qb, levN 2 i = qb := ⟨_, rfl⟩
  rw [hb7]
  have Hhb7 := Lib.hid hb7
  clear hb7
  rintro e w5 ⟨rfl, k6⟩
  have Kk9 := Lib.hid k6
  clear k6
  cases rb8 with
  | false =>
    have kvV0 : Sees V0 (w.heap.size) w5 := sees_kept _ Kk9.out
    go_wp2_with (refine stop_store 32 (.tmp 2) (.tmp 6) rfl ?_)
    intro _
    refine wpList_store_part_n (by rfl) 32 (.tmp 2) (.tmp 6) rfl (w.heap.size) 0 #[.int .i64 0, .int .i64 0, .int .i64 0, .int .i64 0, .slice none 0 0] (by rfl) (by rfl) 32 size_term (row_ok rfl) ?_
    intro W10 hW10
    clear kvV0
    subst hW10
    refine ⟨_, #[.int .i64 0, .int .i64 0, .int .i64 0, .int .i64 0, .slice none 0 0], (blk_at Hx1.out Kk9.out), rfl, Nat.le_of_ble_eq_true rfl, ?_⟩
    intro W11 hW11
    go_wp2_with fail
    refine bodyPost_ret (results_cell_row rfl _ _ (w.heap.size) 32 _ _ du rfl (blk_same (blk_at Hx1.out Kk9.out) hW11) hu1 (by cases du <;> first | rfl | exact hu2) size_term) rfl ?_
    rw [show pointsB i = (Tm.mk 0 0 0 0 []) from by unfold pointsB heR2; rw [Hhb7.out]; (try rfl)]
    exact ⟨_, rfl, par_end (par_row' (liesQ_nil w5 (Par w V0.heap.size [] P)) hW11 (by omega) (by have := Z0.out; omega)) (by have := Z0.out; omega), kept_set (kept_trans Kk4.out Kk9.out) hW11 (by omega)⟩
  | true =>
    have ew12 : IntKind.i64.wrap (i + 1) = i + 1 := IntWalk.i64_in _ (by have := levN_true ( Hhb7.out); omega)
    have kvV0 : Sees V0 (w.heap.size) w5 := sees_kept _ Kk9.out
    go_wp2_with fail
    clear kvV0
    refine (rsort_any i (Par w V0.heap.size [] P) _ Ri.out).mono ?_
    obtain ⟨U20, hU20⟩ : ∃ qu, sortT i = qu := ⟨_, rfl⟩
    rw [hU20]
    have HU20 := Lib.hid hU20
    clear hU20
    rintro e w13 ⟨s15, rfl, hl16, k14⟩
    obtain ⟨a17, c18, S19, rfl, -⟩ := hl16.out
    have Kk21 := Lib.hid k14
    clear k14
    have Hhl16 : Hid (LiesQ w13 (Par w V0.heap.size [] P) U20.kids _) := par_give hl16 (Below.size Kk9.out) (xlt_nil _)
    clear hl16
    have kvV0 : Sees V0 (w.heap.size) w13 := sees_kept _ (kept_trans Kk9.out Kk21.out)
    go_wp2_with fail
    clear kvV0
    refine (rv_any 0 (Par w V0.heap.size [] P) _ (show I64 0 from by unfold I64; decide)).mono ?_
    obtain ⟨U29, hU29⟩ : ∃ qu, varT 0 = qu := ⟨_, rfl⟩
    rw [hU29]
    have HU29 := Lib.hid hU29
    clear hU29
    rintro e w22 ⟨s24, rfl, hl25, k23⟩
    obtain ⟨a26, c27, S28, rfl, -⟩ := hl25.out
    have Kk30 := Lib.hid k23
    clear k23
    have Hhl25 : Hid (LiesQ w22 (Par w V0.heap.size [] P) U29.kids _) := par_give hl25 (Below.size (kept_trans Kk9.out Kk21.out)) (xlt_nil _)
    clear hl25
    have kvV0 : Sees V0 (w.heap.size) w22 := sees_kept _ (kept_trans Kk9.out (kept_trans Kk21.out Kk30.out))
    go_wp2_with fail
    refine at_world (fun W32 hW32 => ?_)
    clear kvV0
    obtain ⟨k34, x33, z35⟩ := alloc1 hW32
    have Kk36 := Lib.hid k34
    clear k34
    have Hx33 := Lib.hid x33
    have Hz35 := Lib.hid z35
    clear x33 z35 hW32
    have HR37 : Hid (LiesQ W32 (Par w V0.heap.size [] P) [U20, U29] (.slice (some ⟨w22.heap.size, 0, none⟩) 2 2)) := q_row [(U20, (.slice a17 U20.kids.length c18)), (U29, (.slice a26 U29.kids.length c27))] _ rfl Hx33.out (par_new (Below.size (kept_trans Kk9.out (kept_trans Kk21.out Kk30.out))) (xlt_nil _) (Nat.le_refl _)) (fun p hp => by
      simp only [List.mem_cons, List.not_mem_nil, or_false] at hp
      rcases hp with rfl | rfl
      · exact ⟨(by rw [← HU20.out]; exact (sort_fine Ri.out)), (Hhl16.out.later (kept_trans Kk30.out Kk36.out))⟩
      · exact ⟨(by rw [← HU29.out]; exact (var_fine (show I64 0 from by unfold I64; decide))), (Hhl25.out.later Kk36.out)⟩) (Nat.le_of_ble_eq_true rfl)
    refine (rnode_any 16 [U20, U29] (Par w V0.heap.size [] P) _ _ (show I64 16 from by unfold I64; decide) HR37.out (Nat.le_of_ble_eq_true rfl)).mono ?_
    obtain ⟨U45, hU45⟩ : ∃ qu, nodeT 16 [U20, U29] = qu := ⟨_, rfl⟩
    rw [hU45]
    have HU45 := Lib.hid hU45
    clear hU45
    rintro e w38 ⟨s40, rfl, hl41, k39⟩
    obtain ⟨a42, c43, S44, rfl, -⟩ := hl41.out
    have Kk46 := Lib.hid k39
    clear k39
    have Hhl41 : Hid (LiesQ w38 (Par w V0.heap.size [] P) U45.kids _) := par_give hl41 (Below.size (kept_trans Kk9.out (kept_trans Kk21.out (kept_trans Kk30.out Kk36.out)))) (xlt_nil _)
    clear hl41
    have kvV0 : Sees V0 (w.heap.size) w38 := sees_kept _ (kept_trans Kk9.out (kept_trans Kk21.out (kept_trans Kk30.out (kept_trans Kk36.out Kk46.out))))
    go_wp2_with (refine stop_store 32 (.tmp 2) (.tmp 11) rfl ?_)
    intro _
    refine wpList_store_part_n (by rfl) 32 (.tmp 2) (.tmp 11) rfl (w.heap.size) 0 #[.int .i64 U45.k, .int .i64 U45.i, .int .i64 U45.j, .int .i64 U45.n, (.slice a42 U45.kids.length c43)] (by rfl) (by rfl) 32 size_term (row_ok rfl) ?_
    intro W47 hW47
    clear kvV0
    subst hW47
    refine ⟨_, #[.int .i64 U45.k, .int .i64 U45.i, .int .i64 U45.j, .int .i64 U45.n, (.slice a42 U45.kids.length c43)], (blk_at Hx1.out (kept_trans Kk9.out (kept_trans Kk21.out (kept_trans Kk30.out (kept_trans Kk36.out Kk46.out))))), rfl, Nat.le_of_ble_eq_true rfl, ?_⟩
    intro W48 hW48
    go_wp2_with fail
    refine bodyPost_ret (results_cell_row rfl _ _ (w.heap.size) 32 _ _ du rfl (blk_same (blk_at Hx1.out (kept_trans Kk9.out (kept_trans Kk21.out (kept_trans Kk30.out (kept_trans Kk36.out Kk46.out))))) hW48) hu1 (by cases du <;> first | rfl | exact hu2) size_term) rfl ?_
    rw [show pointsB i = U45 from by unfold pointsB heR2; rw [Hhb7.out]; rw [← HU45.out]; rw [← HU29.out]; rw [← HU20.out]; (try rfl)]
    exact ⟨_, rfl, par_end (par_row' Hhl41.out hW48 (by omega) (by have := Z0.out; omega)) (by have := Z0.out; omega), kept_set (kept_trans Kk4.out (kept_trans Kk9.out (kept_trans Kk21.out (kept_trans Kk30.out (kept_trans Kk36.out Kk46.out))))) hW48 (by omega)⟩

def rPointr3_0 : Oper := { dst := some 18, op := Go.Op.move (Go.Operand.tmp 0), type := 3, pos := "ref.go:64", after := #[], guard := none }
def rPointr3_1 : Oper := { dst := some 19, op := Go.Op.call { callee := Go.Callee.value (Go.Operand.func 104), args := #[Go.Operand.tmp 18], argTypes := #[3] }, type := 32, pos := "ref.go:64", after := #[{ on := 0, ground := Go.Ground.data }], guard := none }
def rPointr3_2 : Oper := { dst := some 20, op := Go.Op.call { callee := Go.Callee.value (Go.Operand.func 105), args := #[Go.Operand.const (Go.Value.int Go.IntKind.i64 0)], argTypes := #[3] }, type := 32, pos := "ref.go:64", after := #[{ on := 1, ground := Go.Ground.chain }], guard := none }
def rPointr3_3 : Oper := { dst := some 21, op := Go.Op.load 32 (Go.Operand.tmp 4), type := 32, pos := "ref.go:64", after := #[], guard := none }
def rPointr3_4 : Oper := { dst := some 22, op := Go.Op.load 32 (Go.Operand.tmp 5), type := 32, pos := "ref.go:64", after := #[], guard := none }
def rPointr3_5 : Oper := { dst := some 23, op := Go.Op.buildSlice 30 4 #[(0, Go.Operand.tmp 19), (1, Go.Operand.tmp 20), (2, Go.Operand.tmp 21), (3, Go.Operand.tmp 22)], type := 30, pos := "ref.go:64", after := #[{ on := 1, ground := Go.Ground.data }, { on := 2, ground := Go.Ground.data }, { on := 3, ground := Go.Ground.data }, { on := 4, ground := Go.Ground.data }], guard := none }
def rPointr3_6 : Oper := { dst := some 24, op := Go.Op.call { callee := Go.Callee.value (Go.Operand.func 103), args := #[Go.Operand.const (Go.Value.int Go.IntKind.i64 17), Go.Operand.tmp 23], argTypes := #[3, 30] }, type := 32, pos := "ref.go:64", after := #[{ on := 5, ground := Go.Ground.data }, { on := 2, ground := Go.Ground.chain }], guard := none }
def rPointr3_7 : Oper := { dst := none, op := Go.Op.store 32 (Go.Operand.tmp 6) (Go.Operand.tmp 24), type := 0, pos := "ref.go:64", after := #[{ on := 6, ground := Go.Ground.data }, { on := 6, ground := Go.Ground.chain }, { on := 0, ground := Go.Ground.phase }, { on := 1, ground := Go.Ground.phase }, { on := 2, ground := Go.Ground.phase }, { on := 3, ground := Go.Ground.phase }, { on := 4, ground := Go.Ground.phase }, { on := 5, ground := Go.Ground.phase }, { on := 6, ground := Go.Ground.phase }], guard := none }
set_option maxRecDepth 20000 in
set_option maxHeartbeats 4000000 in
theorem rPoint_any (i : Int) (a : Tm) (x : Tm) (P : Nat → Prop) (w : World) (sa : Value) (sx : Value) (hri : I64 i) (hfa : a.fine) (hla : LiesQ w P a.kids sa) (hfx : x.fine) (hlx : LiesQ w P x.kids sx) : Calls Try.prog 29 #[.int .i64 i, tv a sa, tv x sx] w (GivesP P (pointB i a x) w) := by
  have Ri := Lib.hid hri
  clear hri
  have Ga := Lib.hid hfa
  clear hfa
  obtain ⟨aa, ca, Sa, rfl, -⟩ := hla.out
  have Gx := Lib.hid hfx
  clear hfx
  obtain ⟨ax, cx, Sx, rfl, -⟩ := hlx.out
  obtain ⟨du, hu1, hu2⟩ := under_term
  unfold tv
  go_enter Try.func29, Try.ntmps29
  go_upto_region 1 with fail
  refine at_code (fun V0 hV0 => ?_)
  obtain ⟨k4, x1, x2, x3, z5⟩ := alloc3 hV0
  have Kk6 := Lib.hid k4
  clear k4
  have Hx1 := Lib.hid x1
  have Hx2 := Lib.hid x2
  have Hx3 := Lib.hid x3
  have Z0 := Lib.hid z5
  clear z5 x1 x2 x3 hV0
  have HLa : Hid (LiesQ V0 (Par w V0.heap.size [] P) a.kids _) := (par_in _ _ hla).later Kk6.out
  clear hla
  have HLx : Hid (LiesQ V0 (Par w V0.heap.size [] P) x.kids _) := (par_in _ _ hlx).later Kk6.out
  clear hlx
  have kvV0 : Sees V0 (w.heap.size + 2) V0 := sees_kept _ (kept_refl _)
  go_wp2_with fail
  clear kvV0
  refine (rlevel_any i 2 _ Ri.out (show I64 2 from by unfold I64; decide) (by decide) (by decide)).mono ?_
  obtain ⟨rb10, hb9⟩ : ∃ qb, levN 2 i = qb := ⟨_, rfl⟩
  rw [hb9]
  have Hhb9 := Lib.hid hb9
  clear hb9
  rintro e w7 ⟨rfl, k8⟩
  have Kk11 := Lib.hid k8
  clear k8
  cases rb10 with
  | false =>
    have kvV0 : Sees V0 (w.heap.size + 2) w7 := sees_kept _ Kk11.out
    go_wp2_with (refine stop_store 32 (.tmp 6) (.tmp 17) rfl ?_)
    intro _
    refine wpList_store_part_n (by rfl) 32 (.tmp 6) (.tmp 17) rfl (w.heap.size + 2) 0 #[.int .i64 0, .int .i64 0, .int .i64 0, .int .i64 0, .slice none 0 0] (by rfl) (by rfl) 32 size_term (row_ok rfl) ?_
    intro W12 hW12
    clear kvV0
    subst hW12
    refine ⟨_, #[.int .i64 0, .int .i64 0, .int .i64 0, .int .i64 0, .slice none 0 0], (blk_at Hx3.out Kk11.out), rfl, Nat.le_of_ble_eq_true rfl, ?_⟩
    intro W13 hW13
    go_wp2_with fail
    refine bodyPost_ret (results_cell_row rfl _ _ (w.heap.size + 2) 32 _ _ du rfl (blk_same (blk_at Hx3.out Kk11.out) hW13) hu1 (by cases du <;> first | rfl | exact hu2) size_term) rfl ?_
    rw [show pointB i a x = (Tm.mk 0 0 0 0 []) from by unfold pointB heR2; rw [Hhb9.out]; (try rfl)]
    exact ⟨_, rfl, par_end (par_row' (liesQ_nil w7 (Par w V0.heap.size [] P)) hW13 (by omega) (by have := Z0.out; omega)) (by have := Z0.out; omega), kept_set (kept_trans Kk6.out Kk11.out) hW13 (by omega)⟩
  | true =>
    have ew14 : IntKind.i64.wrap (i + 1) = i + 1 := IntWalk.i64_in _ (by have := levN_true ( Hhb9.out); omega)
    have kvV0 : Sees V0 (w.heap.size + 2) w7 := sees_kept _ Kk11.out
    go_wp2_with (refine stop_load 32 (.tmp 4) rfl ?_)
    intro _
    refine wpList_load_part (w.heap.size) 0 32 (.tmp 4) #[.int .i64 a.k, .int .i64 a.i, .int .i64 a.j, .int .i64 a.n, (.slice aa a.kids.length ca)] du (blk_at Hx1.out Kk11.out) (by rfl) rfl (by rfl) (by rfl) hu1 (by cases du <;> first | rfl | exact hu2) size_term ?_
    go_wp2_with (refine stop_load 32 (.tmp 5) rfl ?_)
    intro _
    refine wpList_load_part (w.heap.size + 1) 0 32 (.tmp 5) #[.int .i64 x.k, .int .i64 x.i, .int .i64 x.j, .int .i64 x.n, (.slice ax x.kids.length cx)] du (blk_at Hx2.out Kk11.out) (by rfl) rfl (by rfl) (by rfl) hu1 (by cases du <;> first | rfl | exact hu2) size_term ?_
    go_wp2_with fail
    refine at_world (fun W16 hW16 => ?_)
    clear kvV0
    obtain ⟨k18, x17, z19⟩ := alloc1 hW16
    have Kk20 := Lib.hid k18
    clear k18
    have Hx17 := Lib.hid x17
    have Hz19 := Lib.hid z19
    clear x17 z19 hW16
    have HR21 : Hid (LiesQ W16 (Par w V0.heap.size [] P) [a, x] (.slice (some ⟨w7.heap.size, 0, none⟩) 2 2)) := q_row [(a, (.slice aa a.kids.length ca)), (x, (.slice ax x.kids.length cx))] _ rfl Hx17.out (par_new (Below.size Kk11.out) (xlt_nil _) (Nat.le_refl _)) (fun p hp => by
      simp only [List.mem_cons, List.not_mem_nil, or_false] at hp
      rcases hp with rfl | rfl
      · exact ⟨Ga.out, (HLa.out.later (kept_trans Kk11.out Kk20.out))⟩
      · exact ⟨Gx.out, (HLx.out.later (kept_trans Kk11.out Kk20.out))⟩) (Nat.le_of_ble_eq_true rfl)
    refine (rplain_any [a, x] _ _ HR21.out.lies).mono ?_
    obtain ⟨rb25, hb24⟩ : ∃ qb, plainL [a, x] = qb := ⟨_, rfl⟩
    rw [hb24]
    have Hhb24 := Lib.hid hb24
    clear hb24
    rintro e w22 ⟨rfl, k23⟩
    have Kk26 := Lib.hid k23
    clear k23
    cases rb25 with
    | false =>
      have kvV0 : Sees V0 (w.heap.size + 2) w22 := sees_kept _ (kept_trans Kk11.out (kept_trans Kk20.out Kk26.out))
      go_wp2_with (refine stop_store 32 (.tmp 6) (.tmp 17) rfl ?_)
      intro _
      refine wpList_store_part_n (by rfl) 32 (.tmp 6) (.tmp 17) rfl (w.heap.size + 2) 0 #[.int .i64 0, .int .i64 0, .int .i64 0, .int .i64 0, .slice none 0 0] (by rfl) (by rfl) 32 size_term (row_ok rfl) ?_
      intro W27 hW27
      clear kvV0
      subst hW27
      refine ⟨_, #[.int .i64 0, .int .i64 0, .int .i64 0, .int .i64 0, .slice none 0 0], (blk_at Hx3.out (kept_trans Kk11.out (kept_trans Kk20.out Kk26.out))), rfl, Nat.le_of_ble_eq_true rfl, ?_⟩
      intro W28 hW28
      go_wp2_with fail
      refine bodyPost_ret (results_cell_row rfl _ _ (w.heap.size + 2) 32 _ _ du rfl (blk_same (blk_at Hx3.out (kept_trans Kk11.out (kept_trans Kk20.out Kk26.out))) hW28) hu1 (by cases du <;> first | rfl | exact hu2) size_term) rfl ?_
      rw [show pointB i a x = (Tm.mk 0 0 0 0 []) from by unfold pointB heR2; rw [Hhb9.out, Hhb24.out]; (try rfl)]
      exact ⟨_, rfl, par_end (par_row' (liesQ_nil w22 (Par w V0.heap.size [] P)) hW28 (by omega) (by have := Z0.out; omega)) (by have := Z0.out; omega), kept_set (kept_trans Kk6.out (kept_trans Kk11.out (kept_trans Kk20.out Kk26.out))) hW28 (by omega)⟩
    | true =>
      have kvV0 : Sees V0 (w.heap.size + 2) w22 := sees_kept _ (kept_trans Kk11.out (kept_trans Kk20.out Kk26.out))
      go_wp2_with fail
      clear kvV0
      obtain ⟨W29, h30⟩ : ∃ x, World.drew w22 = x := ⟨_, rfl⟩
      have k31 : Kept w22 W29 := by rw [← h30]; exact kept_drew (kept_refl _)
      have Kk32 := Lib.hid k31
      clear k31
      refine wp_region_held_drew (S := Sees W29 (w.heap.size + 2)) (by kernel_rfl) ?_ (fun hHeld => ?_)
      · (try dsimp only)
        rw [h30]
        exact sees_kept _ (kept_refl _)
      rw [h30] at hHeld ⊢
      clear h30
      refine take_at 0 18 rPointr3_0 (v := ?_) (Or.inl ⟨by rfl, ?_⟩) ?_
      rotate_left 1
      · ((intro w hSw; (try dsimp only at hSw); unfold rPointr3_0; go_simp) <;> with_reducible rfl)
      (try simp only [Act.put, List.setIfInBounds_toArray, List.set_cons_zero, List.set_cons_succ])
      refine take_at 3 21 rPointr3_3 (yields_part (w.heap.size) 0 32 (.tmp 4) #[.int .i64 a.k, .int .i64 a.i, .int .i64 a.j, .int .i64 a.n, (.slice aa a.kids.length ca)] du (fun _ h => sees_blk Hx1.out (by have := Z0.out; omega) (sees_of (kept_trans Kk11.out (kept_trans Kk20.out (kept_trans Kk26.out Kk32.out))) h)) (by rfl) rfl (by rfl) (by rfl) hu1 (by cases du <;> first | rfl | exact hu2) size_term) ?_
      (try simp only [Act.put, List.setIfInBounds_toArray, List.set_cons_zero, List.set_cons_succ])
      refine take_at 4 22 rPointr3_4 (yields_part (w.heap.size + 1) 0 32 (.tmp 5) #[.int .i64 x.k, .int .i64 x.i, .int .i64 x.j, .int .i64 x.n, (.slice ax x.kids.length cx)] du (fun _ h => sees_blk Hx2.out (by have := Z0.out; omega) (sees_of (kept_trans Kk11.out (kept_trans Kk20.out (kept_trans Kk26.out Kk32.out))) h)) (by rfl) rfl (by rfl) (by rfl) hu1 (by cases du <;> first | rfl | exact hu2) size_term) ?_
      (try simp only [Act.put, List.setIfInBounds_toArray, List.set_cons_zero, List.set_cons_succ])
      refine wpAnyH_ready (rs := [1]) (by kernel_rfl) (by simp) ?_
      refine AllReadyH.cons (o := rPointr3_1) rfl (fun K hK => ?_) ?_
      · unfold rPointr3_1
        go_simp
        refine (rsort_any i (Par w V0.heap.size [] P) _ Ri.out).mono ?_
        obtain ⟨U40, hU40⟩ : ∃ qu, sortT i = qu := ⟨_, rfl⟩
        rw [hU40]
        have HU40 := Lib.hid hU40
        clear hU40
        rintro e w33 ⟨s35, rfl, hl36, k34⟩
        obtain ⟨a37, c38, S39, rfl, -⟩ := hl36.out
        have Kk41 := Lib.hid k34
        clear k34
        have Hhl36 : Hid (LiesQ w33 (Par w V0.heap.size [] P) U40.kids _) := par_give hl36 (Below.size (kept_trans Kk11.out (kept_trans Kk20.out (kept_trans Kk26.out Kk32.out)))) (xlt_nil _)
        clear hl36
        clear hHeld
        refine hK.out _ _ ?_ (fun hHeld => ?_)
        · (try dsimp only)
          exact sees_kept _ Kk41.out
        clear hK K
        (try simp only [Act.put, List.setIfInBounds_toArray, List.set_cons_zero, List.set_cons_succ])
        refine wpAnyH_ready (rs := [2]) (by kernel_rfl) (by simp) ?_
        refine AllReadyH.cons (o := rPointr3_2) rfl (fun K hK => ?_) ?_
        · unfold rPointr3_2
          go_simp
          refine (rv_any 0 (Par w V0.heap.size [] P) _ (show I64 0 from by unfold I64; decide)).mono ?_
          obtain ⟨U49, hU49⟩ : ∃ qu, varT 0 = qu := ⟨_, rfl⟩
          rw [hU49]
          have HU49 := Lib.hid hU49
          clear hU49
          rintro e w42 ⟨s44, rfl, hl45, k43⟩
          obtain ⟨a46, c47, S48, rfl, -⟩ := hl45.out
          have Kk50 := Lib.hid k43
          clear k43
          have Hhl45 : Hid (LiesQ w42 (Par w V0.heap.size [] P) U49.kids _) := par_give hl45 (Below.size (kept_trans Kk11.out (kept_trans Kk20.out (kept_trans Kk26.out (kept_trans Kk32.out Kk41.out))))) (xlt_nil _)
          clear hl45
          clear hHeld
          refine hK.out _ _ ?_ (fun hHeld => ?_)
          · (try dsimp only)
            exact sees_kept _ (kept_trans Kk41.out Kk50.out)
          clear hK K
          (try simp only [Act.put, List.setIfInBounds_toArray, List.set_cons_zero, List.set_cons_succ])
          refine wpAnyH_ready (rs := [5]) (by kernel_rfl) (by simp) ?_
          refine AllReadyH.cons (o := rPointr3_5) rfl (fun K hK => ?_) ?_
          · unfold rPointr3_5
            go_simp
            refine at_K (fun W52 hW52 => ?_)
            obtain ⟨k54, x53, z55⟩ := alloc1 hW52
            have Kk56 := Lib.hid k54
            clear k54
            have Hx53 := Lib.hid x53
            have Hz55 := Lib.hid z55
            clear x53 z55 hW52
            have HR57 : Hid (LiesQ W52 (Par w V0.heap.size [] P) [U40, U49, a, x] (.slice (some ⟨w42.heap.size, 0, none⟩) 4 4)) := q_row [(U40, (.slice a37 U40.kids.length c38)), (U49, (.slice a46 U49.kids.length c47)), (a, (.slice aa a.kids.length ca)), (x, (.slice ax x.kids.length cx))] _ rfl Hx53.out (par_new (Below.size (kept_trans Kk11.out (kept_trans Kk20.out (kept_trans Kk26.out (kept_trans Kk32.out (kept_trans Kk41.out Kk50.out)))))) (xlt_nil _) (Nat.le_refl _)) (fun p hp => by
              simp only [List.mem_cons, List.not_mem_nil, or_false] at hp
              rcases hp with rfl | rfl | rfl | rfl
              · exact ⟨(by rw [← HU40.out]; exact (sort_fine Ri.out)), (Hhl36.out.later (kept_trans Kk50.out Kk56.out))⟩
              · exact ⟨(by rw [← HU49.out]; exact (var_fine (show I64 0 from by unfold I64; decide))), (Hhl45.out.later Kk56.out)⟩
              · exact ⟨Ga.out, (HLa.out.later (kept_trans Kk11.out (kept_trans Kk20.out (kept_trans Kk26.out (kept_trans Kk32.out (kept_trans Kk41.out (kept_trans Kk50.out Kk56.out)))))))⟩
              · exact ⟨Gx.out, (HLx.out.later (kept_trans Kk11.out (kept_trans Kk20.out (kept_trans Kk26.out (kept_trans Kk32.out (kept_trans Kk41.out (kept_trans Kk50.out Kk56.out)))))))⟩) (Nat.le_of_ble_eq_true rfl)
            clear hHeld
            refine hK.out _ _ ?_ (fun hHeld => ?_)
            · (try dsimp only)
              exact sees_kept _ (kept_trans Kk41.out (kept_trans Kk50.out Kk56.out))
            clear hK K
            (try simp only [Act.put, List.setIfInBounds_toArray, List.set_cons_zero, List.set_cons_succ])
            refine wpAnyH_ready (rs := [6]) (by kernel_rfl) (by simp) ?_
            refine AllReadyH.cons (o := rPointr3_6) rfl (fun K hK => ?_) ?_
            · unfold rPointr3_6
              go_simp
              refine (rnode_any 17 [U40, U49, a, x] (Par w V0.heap.size [] P) _ _ (show I64 17 from by unfold I64; decide) HR57.out (Nat.le_of_ble_eq_true rfl)).mono ?_
              obtain ⟨U65, hU65⟩ : ∃ qu, nodeT 17 [U40, U49, a, x] = qu := ⟨_, rfl⟩
              rw [hU65]
              have HU65 := Lib.hid hU65
              clear hU65
              rintro e w58 ⟨s60, rfl, hl61, k59⟩
              obtain ⟨a62, c63, S64, rfl, -⟩ := hl61.out
              have Kk66 := Lib.hid k59
              clear k59
              have Hhl61 : Hid (LiesQ w58 (Par w V0.heap.size [] P) U65.kids _) := par_give hl61 (Below.size (kept_trans Kk11.out (kept_trans Kk20.out (kept_trans Kk26.out (kept_trans Kk32.out (kept_trans Kk41.out (kept_trans Kk50.out Kk56.out))))))) (xlt_nil _)
              clear hl61
              clear hHeld
              refine hK.out _ _ ?_ (fun hHeld => ?_)
              · (try dsimp only)
                exact sees_kept _ (kept_trans Kk41.out (kept_trans Kk50.out (kept_trans Kk56.out Kk66.out)))
              clear hK K
              (try simp only [Act.put, List.setIfInBounds_toArray, List.set_cons_zero, List.set_cons_succ])
              refine wpAnyH_ready (rs := [7]) (by kernel_rfl) (by simp) ?_
              refine AllReadyH.cons (o := rPointr3_7) rfl (fun K hK => ?_) ?_
              · unfold rPointr3_7
                refine step_store_part rfl 32 (.tmp 6) (.tmp 24) rfl (w.heap.size + 2) 0 #[.int .i64 U65.k, .int .i64 U65.i, .int .i64 U65.j, .int .i64 U65.n, (.slice a62 U65.kids.length c63)] rfl rfl 32 size_term (row_ok rfl) _ #[.int .i64 U65.k, .int .i64 U65.i, .int .i64 U65.j, .int .i64 U65.n, (.slice a62 U65.kids.length c63)] (blk_at Hx3.out (kept_trans Kk11.out (kept_trans Kk20.out (kept_trans Kk26.out (kept_trans Kk32.out (kept_trans Kk41.out (kept_trans Kk50.out (kept_trans Kk56.out Kk66.out)))))))) rfl (Nat.le_of_ble_eq_true rfl) ?_
                intro W67 hW67
                clear hHeld
                refine hK.out _ _ ?_ (fun hHeld => ?_)
                · (try dsimp only)
                  exact sees_set (kept_trans Kk41.out (kept_trans Kk50.out (kept_trans Kk56.out Kk66.out))) hW67
                clear hK K
                (try simp only [Act.put])
                refine wpAnyH_done (by kernel_rfl) ?_ _
                clear hHeld
                go_wp2_with fail
                refine bodyPost_ret (results_cell_row rfl _ _ (w.heap.size + 2) 32 _ _ du rfl (blk_same (blk_at Hx3.out (kept_trans Kk11.out (kept_trans Kk20.out (kept_trans Kk26.out (kept_trans Kk32.out (kept_trans Kk41.out (kept_trans Kk50.out (kept_trans Kk56.out Kk66.out)))))))) hW67) hu1 (by cases du <;> first | rfl | exact hu2) size_term) rfl ?_
                rw [show pointB i a x = U65 from by unfold pointB heR2; rw [Hhb9.out, Hhb24.out]; rw [← HU65.out]; rw [← HU49.out]; rw [← HU40.out]; (try rfl)]
                exact ⟨_, rfl, par_end (par_row' Hhl61.out hW67 (by omega) (by have := Z0.out; omega)) (by have := Z0.out; omega), kept_set (kept_trans Kk6.out (kept_trans Kk11.out (kept_trans Kk20.out (kept_trans Kk26.out (kept_trans Kk32.out (kept_trans Kk41.out (kept_trans Kk50.out (kept_trans Kk56.out Kk66.out)))))))) hW67 (by omega)⟩
              exact AllReadyH.nil
            exact AllReadyH.nil
          exact AllReadyH.nil
        exact AllReadyH.nil
      exact AllReadyH.nil

def rThenr4_0 : Oper := { dst := some 24, op := Go.Op.move (Go.Operand.tmp 5), type := 3, pos := "ref.go:97", after := #[], guard := none }
def rThenr4_1 : Oper := { dst := some 25, op := Go.Op.fieldAddr 45 (Go.Operand.tmp 2) 1, type := 0, pos := "ref.go:97", after := #[], guard := none }
def rThenr4_2 : Oper := { dst := some 26, op := Go.Op.load 32 (Go.Operand.tmp 25), type := 32, pos := "ref.go:97", after := #[{ on := 1, ground := Go.Ground.data }], guard := none }
def rThenr4_3 : Oper := { dst := some 27, op := Go.Op.fieldAddr 45 (Go.Operand.tmp 3) 2, type := 0, pos := "ref.go:97", after := #[], guard := none }
def rThenr4_4 : Oper := { dst := some 28, op := Go.Op.load 32 (Go.Operand.tmp 27), type := 32, pos := "ref.go:97", after := #[{ on := 3, ground := Go.Ground.data }], guard := none }
def rThenr4_5 : Oper := { dst := some 29, op := Go.Op.fieldAddr 45 (Go.Operand.tmp 2) 3, type := 0, pos := "ref.go:97", after := #[], guard := none }
def rThenr4_6 : Oper := { dst := some 30, op := Go.Op.load 32 (Go.Operand.tmp 29), type := 32, pos := "ref.go:97", after := #[{ on := 5, ground := Go.Ground.data }], guard := none }
def rThenr4_7 : Oper := { dst := some 31, op := Go.Op.fieldAddr 45 (Go.Operand.tmp 3) 4, type := 0, pos := "ref.go:97", after := #[], guard := none }
def rThenr4_8 : Oper := { dst := some 32, op := Go.Op.load 32 (Go.Operand.tmp 31), type := 32, pos := "ref.go:97", after := #[{ on := 7, ground := Go.Ground.data }], guard := none }
def rThenr4_9 : Oper := { dst := some 33, op := Go.Op.move (Go.Operand.tmp 5), type := 3, pos := "ref.go:97", after := #[], guard := none }
def rThenr4_10 : Oper := { dst := some 34, op := Go.Op.binOp Go.BinOp.add 3 (Go.Operand.tmp 33) (Go.Operand.const (Go.Value.int Go.IntKind.i64 1)) 3, type := 3, pos := "ref.go:97", after := #[{ on := 9, ground := Go.Ground.data }], guard := none }
def rThenr4_11 : Oper := { dst := some 35, op := Go.Op.move (Go.Operand.tmp 5), type := 3, pos := "ref.go:97", after := #[], guard := none }
def rThenr4_12 : Oper := { dst := some 36, op := Go.Op.call { callee := Go.Callee.value (Go.Operand.func 31), args := #[Go.Operand.tmp 35], argTypes := #[3] }, type := 32, pos := "ref.go:97", after := #[{ on := 11, ground := Go.Ground.data }], guard := none }
def rThenr4_13 : Oper := { dst := some 37, op := Go.Op.move (Go.Operand.tmp 5), type := 3, pos := "ref.go:97", after := #[], guard := none }
def rThenr4_14 : Oper := { dst := some 38, op := Go.Op.fieldAddr 45 (Go.Operand.tmp 2) 1, type := 0, pos := "ref.go:97", after := #[], guard := none }
def rThenr4_15 : Oper := { dst := some 39, op := Go.Op.load 32 (Go.Operand.tmp 38), type := 32, pos := "ref.go:97", after := #[{ on := 14, ground := Go.Ground.data }], guard := none }
def rThenr4_16 : Oper := { dst := some 40, op := Go.Op.fieldAddr 45 (Go.Operand.tmp 2) 3, type := 0, pos := "ref.go:97", after := #[], guard := none }
def rThenr4_17 : Oper := { dst := some 41, op := Go.Op.load 32 (Go.Operand.tmp 40), type := 32, pos := "ref.go:97", after := #[{ on := 16, ground := Go.Ground.data }], guard := none }
def rThenr4_18 : Oper := { dst := some 42, op := Go.Op.call { callee := Go.Callee.value (Go.Operand.func 29), args := #[Go.Operand.tmp 37, Go.Operand.tmp 39, Go.Operand.tmp 41], argTypes := #[3, 32, 32] }, type := 32, pos := "ref.go:97", after := #[{ on := 13, ground := Go.Ground.data }, { on := 15, ground := Go.Ground.data }, { on := 17, ground := Go.Ground.data }, { on := 12, ground := Go.Ground.chain }], guard := none }
def rThenr4_19 : Oper := { dst := some 43, op := Go.Op.move (Go.Operand.tmp 5), type := 3, pos := "ref.go:97", after := #[], guard := none }
def rThenr4_20 : Oper := { dst := some 44, op := Go.Op.fieldAddr 45 (Go.Operand.tmp 2) 2, type := 0, pos := "ref.go:97", after := #[], guard := none }
def rThenr4_21 : Oper := { dst := some 45, op := Go.Op.load 32 (Go.Operand.tmp 44), type := 32, pos := "ref.go:97", after := #[{ on := 20, ground := Go.Ground.data }], guard := none }
def rThenr4_22 : Oper := { dst := some 46, op := Go.Op.fieldAddr 45 (Go.Operand.tmp 2) 4, type := 0, pos := "ref.go:97", after := #[], guard := none }
def rThenr4_23 : Oper := { dst := some 47, op := Go.Op.load 32 (Go.Operand.tmp 46), type := 32, pos := "ref.go:97", after := #[{ on := 22, ground := Go.Ground.data }], guard := none }
def rThenr4_24 : Oper := { dst := some 48, op := Go.Op.call { callee := Go.Callee.value (Go.Operand.func 29), args := #[Go.Operand.tmp 43, Go.Operand.tmp 45, Go.Operand.tmp 47], argTypes := #[3, 32, 32] }, type := 32, pos := "ref.go:97", after := #[{ on := 19, ground := Go.Ground.data }, { on := 21, ground := Go.Ground.data }, { on := 23, ground := Go.Ground.data }, { on := 18, ground := Go.Ground.chain }], guard := none }
def rThenr4_25 : Oper := { dst := some 49, op := Go.Op.move (Go.Operand.tmp 5), type := 3, pos := "ref.go:97", after := #[], guard := none }
def rThenr4_26 : Oper := { dst := some 50, op := Go.Op.fieldAddr 45 (Go.Operand.tmp 3) 2, type := 0, pos := "ref.go:97", after := #[], guard := none }
def rThenr4_27 : Oper := { dst := some 51, op := Go.Op.load 32 (Go.Operand.tmp 50), type := 32, pos := "ref.go:97", after := #[{ on := 26, ground := Go.Ground.data }], guard := none }
def rThenr4_28 : Oper := { dst := some 52, op := Go.Op.fieldAddr 45 (Go.Operand.tmp 3) 4, type := 0, pos := "ref.go:97", after := #[], guard := none }
def rThenr4_29 : Oper := { dst := some 53, op := Go.Op.load 32 (Go.Operand.tmp 52), type := 32, pos := "ref.go:97", after := #[{ on := 28, ground := Go.Ground.data }], guard := none }
def rThenr4_30 : Oper := { dst := some 54, op := Go.Op.call { callee := Go.Callee.value (Go.Operand.func 29), args := #[Go.Operand.tmp 49, Go.Operand.tmp 51, Go.Operand.tmp 53], argTypes := #[3, 32, 32] }, type := 32, pos := "ref.go:97", after := #[{ on := 25, ground := Go.Ground.data }, { on := 27, ground := Go.Ground.data }, { on := 29, ground := Go.Ground.data }, { on := 24, ground := Go.Ground.chain }], guard := none }
def rThenr4_31 : Oper := { dst := some 55, op := Go.Op.fieldAddr 45 (Go.Operand.tmp 2) 5, type := 0, pos := "ref.go:97", after := #[], guard := none }
def rThenr4_32 : Oper := { dst := some 56, op := Go.Op.load 32 (Go.Operand.tmp 55), type := 32, pos := "ref.go:97", after := #[{ on := 31, ground := Go.Ground.data }], guard := none }
def rThenr4_33 : Oper := { dst := some 57, op := Go.Op.fieldAddr 45 (Go.Operand.tmp 3) 5, type := 0, pos := "ref.go:97", after := #[], guard := none }
def rThenr4_34 : Oper := { dst := some 58, op := Go.Op.load 32 (Go.Operand.tmp 57), type := 32, pos := "ref.go:97", after := #[{ on := 33, ground := Go.Ground.data }], guard := none }
def rThenr4_35 : Oper := { dst := some 59, op := Go.Op.buildSlice 30 6 #[(0, Go.Operand.tmp 36), (1, Go.Operand.tmp 42), (2, Go.Operand.tmp 48), (3, Go.Operand.tmp 54), (4, Go.Operand.tmp 56), (5, Go.Operand.tmp 58)], type := 30, pos := "ref.go:97", after := #[{ on := 12, ground := Go.Ground.data }, { on := 18, ground := Go.Ground.data }, { on := 24, ground := Go.Ground.data }, { on := 30, ground := Go.Ground.data }, { on := 32, ground := Go.Ground.data }, { on := 34, ground := Go.Ground.data }], guard := none }
def rThenr4_36 : Oper := { dst := some 60, op := Go.Op.call { callee := Go.Callee.value (Go.Operand.func 109), args := #[Go.Operand.const (Go.Value.int Go.IntKind.i64 4), Go.Operand.tmp 34, Go.Operand.const (Go.Value.int Go.IntKind.i64 0), Go.Operand.tmp 59], argTypes := #[3, 3, 3, 30] }, type := 32, pos := "ref.go:97", after := #[{ on := 10, ground := Go.Ground.data }, { on := 35, ground := Go.Ground.data }, { on := 30, ground := Go.Ground.chain }], guard := none }
def rThenr4_37 : Oper := { dst := some 61, op := Go.Op.build 45 #[(0, Go.Operand.tmp 24), (1, Go.Operand.tmp 26), (2, Go.Operand.tmp 28), (3, Go.Operand.tmp 30), (4, Go.Operand.tmp 32), (5, Go.Operand.tmp 60)], type := 45, pos := "ref.go:97", after := #[{ on := 0, ground := Go.Ground.data }, { on := 2, ground := Go.Ground.data }, { on := 4, ground := Go.Ground.data }, { on := 6, ground := Go.Ground.data }, { on := 8, ground := Go.Ground.data }, { on := 36, ground := Go.Ground.data }], guard := none }
def rThenr4_38 : Oper := { dst := none, op := Go.Op.store 45 (Go.Operand.tmp 4) (Go.Operand.tmp 61), type := 0, pos := "ref.go:97", after := #[{ on := 37, ground := Go.Ground.data }, { on := 36, ground := Go.Ground.chain }, { on := 0, ground := Go.Ground.phase }, { on := 1, ground := Go.Ground.phase }, { on := 2, ground := Go.Ground.phase }, { on := 3, ground := Go.Ground.phase }, { on := 4, ground := Go.Ground.phase }, { on := 5, ground := Go.Ground.phase }, { on := 6, ground := Go.Ground.phase }, { on := 7, ground := Go.Ground.phase }, { on := 8, ground := Go.Ground.phase }, { on := 9, ground := Go.Ground.phase }, { on := 10, ground := Go.Ground.phase }, { on := 11, ground := Go.Ground.phase }, { on := 12, ground := Go.Ground.phase }, { on := 13, ground := Go.Ground.phase }, { on := 14, ground := Go.Ground.phase }, { on := 15, ground := Go.Ground.phase }, { on := 16, ground := Go.Ground.phase }, { on := 17, ground := Go.Ground.phase }, { on := 18, ground := Go.Ground.phase }, { on := 19, ground := Go.Ground.phase }, { on := 20, ground := Go.Ground.phase }, { on := 21, ground := Go.Ground.phase }, { on := 22, ground := Go.Ground.phase }, { on := 23, ground := Go.Ground.phase }, { on := 24, ground := Go.Ground.phase }, { on := 25, ground := Go.Ground.phase }, { on := 26, ground := Go.Ground.phase }, { on := 27, ground := Go.Ground.phase }, { on := 28, ground := Go.Ground.phase }, { on := 29, ground := Go.Ground.phase }, { on := 30, ground := Go.Ground.phase }, { on := 31, ground := Go.Ground.phase }, { on := 32, ground := Go.Ground.phase }, { on := 33, ground := Go.Ground.phase }, { on := 34, ground := Go.Ground.phase }, { on := 35, ground := Go.Ground.phase }, { on := 36, ground := Go.Ground.phase }, { on := 37, ground := Go.Ground.phase }], guard := none }
set_option maxRecDepth 20000 in
set_option maxHeartbeats 4000000 in
theorem rThen_any (g : He) (h : He) (P : Nat → Prop) (w : World) (sga : Value) (sgb : Value) (sgx : Value) (sgy : Value) (sgh : Value) (sha : Value) (shb : Value) (shx : Value) (shy : Value) (shh : Value) (hfg : g.fine) (hlg : HQ w P g sga sgb sgx sgy sgh) (hfh : h.fine) (hlh : HQ w P h sha shb shx shy shh) : Calls Try.prog 50 #[hv g sga sgb sgx sgy sgh, hv h sha shb shx shy shh] w (GivesHP P (heThen g h) w) := by
  have Gg := Lib.hid hfg
  clear hfg
  obtain ⟨hlga, hlgb, hlgx, hlgy, hlgh⟩ := hlg
  obtain ⟨aga, cga, Sga, rfl, -⟩ := hlga.out
  obtain ⟨agb, cgb, Sgb, rfl, -⟩ := hlgb.out
  obtain ⟨agx, cgx, Sgx, rfl, -⟩ := hlgx.out
  obtain ⟨agy, cgy, Sgy, rfl, -⟩ := hlgy.out
  obtain ⟨agh, cgh, Sgh, rfl, -⟩ := hlgh.out
  have Gh := Lib.hid hfh
  clear hfh
  obtain ⟨hlha, hlhb, hlhx, hlhy, hlhh⟩ := hlh
  obtain ⟨aha, cha, Sha, rfl, -⟩ := hlha.out
  obtain ⟨ahb, chb, Shb, rfl, -⟩ := hlhb.out
  obtain ⟨ahx, chx, Shx, rfl, -⟩ := hlhx.out
  obtain ⟨ahy, chy, Shy, rfl, -⟩ := hlhy.out
  obtain ⟨ahh, chh, Shh, rfl, -⟩ := hlhh.out
  obtain ⟨du, hu1, hu2⟩ := under_term
  obtain ⟨dr, dr1, dr2⟩ := under_of 45 (by kernel_rfl)
  unfold hv
  go_enter Try.func50, Try.ntmps50
  go_upto_region 1 with fail
  refine at_code (fun V0 hV0 => ?_)
  obtain ⟨k4, x1, x2, x3, z5⟩ := alloc3 hV0
  have Kk6 := Lib.hid k4
  clear k4
  have Hx1 := Lib.hid x1
  have Hx2 := Lib.hid x2
  have Hx3 := Lib.hid x3
  have Z0 := Lib.hid z5
  clear z5 x1 x2 x3 hV0
  have HLga : Hid (LiesQ V0 (Par w V0.heap.size [] P) g.a.kids _) := (par_in _ _ hlga).later Kk6.out
  clear hlga
  have HLgb : Hid (LiesQ V0 (Par w V0.heap.size [] P) g.b.kids _) := (par_in _ _ hlgb).later Kk6.out
  clear hlgb
  have HLgx : Hid (LiesQ V0 (Par w V0.heap.size [] P) g.x.kids _) := (par_in _ _ hlgx).later Kk6.out
  clear hlgx
  have HLgy : Hid (LiesQ V0 (Par w V0.heap.size [] P) g.y.kids _) := (par_in _ _ hlgy).later Kk6.out
  clear hlgy
  have HLgh : Hid (LiesQ V0 (Par w V0.heap.size [] P) g.h.kids _) := (par_in _ _ hlgh).later Kk6.out
  clear hlgh
  have HLha : Hid (LiesQ V0 (Par w V0.heap.size [] P) h.a.kids _) := (par_in _ _ hlha).later Kk6.out
  clear hlha
  have HLhb : Hid (LiesQ V0 (Par w V0.heap.size [] P) h.b.kids _) := (par_in _ _ hlhb).later Kk6.out
  clear hlhb
  have HLhx : Hid (LiesQ V0 (Par w V0.heap.size [] P) h.x.kids _) := (par_in _ _ hlhx).later Kk6.out
  clear hlhx
  have HLhy : Hid (LiesQ V0 (Par w V0.heap.size [] P) h.y.kids _) := (par_in _ _ hlhy).later Kk6.out
  clear hlhy
  have HLhh : Hid (LiesQ V0 (Par w V0.heap.size [] P) h.h.kids _) := (par_in _ _ hlhh).later Kk6.out
  clear hlhh
  have ld7 := part_cell (r := (w.heap.size + 2)) Hx1.out (by have := Z0.out; omega) 0 (.int .i64 g.i) rfl
  have ld8 := part_cell (r := (w.heap.size + 2)) Hx2.out (by have := Z0.out; omega) 0 (.int .i64 h.i) rfl
  have kvV0 : Sees V0 (w.heap.size + 2) V0 := sees_kept _ (kept_refl _)
  go_wp2_with (refine stop_load 45 (.tmp 2) rfl ?_)
  intro _
  refine wpList_load_part (w.heap.size) 0 45 (.tmp 2) #[.int .i64 g.i, .int .i64 g.a.k, .int .i64 g.a.i, .int .i64 g.a.j, .int .i64 g.a.n, (.slice aga g.a.kids.length cga), .int .i64 g.b.k, .int .i64 g.b.i, .int .i64 g.b.j, .int .i64 g.b.n, (.slice agb g.b.kids.length cgb), .int .i64 g.x.k, .int .i64 g.x.i, .int .i64 g.x.j, .int .i64 g.x.n, (.slice agx g.x.kids.length cgx), .int .i64 g.y.k, .int .i64 g.y.i, .int .i64 g.y.j, .int .i64 g.y.n, (.slice agy g.y.kids.length cgy), .int .i64 g.h.k, .int .i64 g.h.i, .int .i64 g.h.j, .int .i64 g.h.n, (.slice agh g.h.kids.length cgh)] dr Hx1.out (by rfl) rfl (by rfl) (by rfl) dr1 (by cases dr <;> first | rfl | exact dr2) (by kernel_rfl) ?_
  go_wp2_with fail
  clear kvV0
  refine (rRight_any g (Par w V0.heap.size [] P) _ (.slice aga g.a.kids.length cga) (.slice agb g.b.kids.length cgb) (.slice agx g.x.kids.length cgx) (.slice agy g.y.kids.length cgy) (.slice agh g.h.kids.length cgh) ⟨Gg.out.1, Gg.out.2.1, Gg.out.2.2.1, Gg.out.2.2.2.1, Gg.out.2.2.2.2.1, Gg.out.2.2.2.2.2⟩ ⟨HLga.out, HLgb.out, HLgx.out, HLgy.out, HLgh.out⟩).mono ?_
  obtain ⟨rb12, hb11⟩ : ∃ qb, heR g = qb := ⟨_, rfl⟩
  rw [hb11]
  have Hhb11 := Lib.hid hb11
  clear hb11
  rintro e w9 ⟨rfl, k10⟩
  have Kk13 := Lib.hid k10
  clear k10
  cases rb12 with
  | false =>
    have kvV0 : Sees V0 (w.heap.size + 2) w9 := sees_kept _ Kk13.out
    go_wp2_with (refine stop_store 45 (.tmp 4) (.tmp 21) rfl ?_)
    intro _
    refine wpList_store_part_n (by rfl) 45 (.tmp 4) (.tmp 21) rfl (w.heap.size + 2) 0 #[.int .i64 0, .int .i64 0, .int .i64 0, .int .i64 0, .int .i64 0, .slice none 0 0, .int .i64 0, .int .i64 0, .int .i64 0, .int .i64 0, .slice none 0 0, .int .i64 0, .int .i64 0, .int .i64 0, .int .i64 0, .slice none 0 0, .int .i64 0, .int .i64 0, .int .i64 0, .int .i64 0, .slice none 0 0, .int .i64 0, .int .i64 0, .int .i64 0, .int .i64 0, .slice none 0 0] (by rfl) (by rfl) 45 (by kernel_rfl) (row_ok rfl) ?_
    intro W14 hW14
    clear kvV0
    subst hW14
    refine ⟨_, #[.int .i64 0, .int .i64 0, .int .i64 0, .int .i64 0, .int .i64 0, .slice none 0 0, .int .i64 0, .int .i64 0, .int .i64 0, .int .i64 0, .slice none 0 0, .int .i64 0, .int .i64 0, .int .i64 0, .int .i64 0, .slice none 0 0, .int .i64 0, .int .i64 0, .int .i64 0, .int .i64 0, .slice none 0 0, .int .i64 0, .int .i64 0, .int .i64 0, .int .i64 0, .slice none 0 0], (blk_at Hx3.out Kk13.out), rfl, Nat.le_of_ble_eq_true rfl, ?_⟩
    intro W15 hW15
    go_wp2_with fail
    refine bodyPost_ret (results_cell_row rfl _ _ (w.heap.size + 2) 45 _ _ dr rfl (blk_same (blk_at Hx3.out Kk13.out) hW15) dr1 (by cases dr <;> first | rfl | exact dr2) (by kernel_rfl)) rfl ?_
    rw [show heThen g h = (⟨0, (.mk 0 0 0 0 []), (.mk 0 0 0 0 []), (.mk 0 0 0 0 []), (.mk 0 0 0 0 []), (.mk 0 0 0 0 [])⟩ : He) from by unfold heThen; rw [Hhb11.out]; (try rfl)]
    exact ⟨_, _, _, _, _, rfl, ⟨par_end (par_row' (liesQ_nil w9 (Par w V0.heap.size [] P)) hW15 (by omega) (by have := Z0.out; omega)) (by have := Z0.out; omega), par_end (par_row' (liesQ_nil w9 (Par w V0.heap.size [] P)) hW15 (by omega) (by have := Z0.out; omega)) (by have := Z0.out; omega), par_end (par_row' (liesQ_nil w9 (Par w V0.heap.size [] P)) hW15 (by omega) (by have := Z0.out; omega)) (by have := Z0.out; omega), par_end (par_row' (liesQ_nil w9 (Par w V0.heap.size [] P)) hW15 (by omega) (by have := Z0.out; omega)) (by have := Z0.out; omega), par_end (par_row' (liesQ_nil w9 (Par w V0.heap.size [] P)) hW15 (by omega) (by have := Z0.out; omega)) (by have := Z0.out; omega)⟩, kept_set (kept_trans Kk6.out Kk13.out) hW15 (by omega)⟩
  | true =>
    have ew16 : IntKind.i64.wrap (g.i + 1) = g.i + 1 := IntWalk.i64_in _ (by have := levN_true (heR_lev Hhb11.out); omega)
    have kvV0 : Sees V0 (w.heap.size + 2) w9 := sees_kept _ Kk13.out
    go_wp2_with (refine stop_load 45 (.tmp 3) rfl ?_)
    intro _
    refine wpList_load_part (w.heap.size + 1) 0 45 (.tmp 3) #[.int .i64 h.i, .int .i64 h.a.k, .int .i64 h.a.i, .int .i64 h.a.j, .int .i64 h.a.n, (.slice aha h.a.kids.length cha), .int .i64 h.b.k, .int .i64 h.b.i, .int .i64 h.b.j, .int .i64 h.b.n, (.slice ahb h.b.kids.length chb), .int .i64 h.x.k, .int .i64 h.x.i, .int .i64 h.x.j, .int .i64 h.x.n, (.slice ahx h.x.kids.length chx), .int .i64 h.y.k, .int .i64 h.y.i, .int .i64 h.y.j, .int .i64 h.y.n, (.slice ahy h.y.kids.length chy), .int .i64 h.h.k, .int .i64 h.h.i, .int .i64 h.h.j, .int .i64 h.h.n, (.slice ahh h.h.kids.length chh)] dr (blk_at Hx2.out Kk13.out) (by rfl) rfl (by rfl) (by rfl) dr1 (by cases dr <;> first | rfl | exact dr2) (by kernel_rfl) ?_
    go_wp2_with fail
    clear kvV0
    refine (rRight_any h (Par w V0.heap.size [] P) _ (.slice aha h.a.kids.length cha) (.slice ahb h.b.kids.length chb) (.slice ahx h.x.kids.length chx) (.slice ahy h.y.kids.length chy) (.slice ahh h.h.kids.length chh) ⟨Gh.out.1, Gh.out.2.1, Gh.out.2.2.1, Gh.out.2.2.2.1, Gh.out.2.2.2.2.1, Gh.out.2.2.2.2.2⟩ ⟨(HLha.out.later Kk13.out), (HLhb.out.later Kk13.out), (HLhx.out.later Kk13.out), (HLhy.out.later Kk13.out), (HLhh.out.later Kk13.out)⟩).mono ?_
    obtain ⟨rb20, hb19⟩ : ∃ qb, heR h = qb := ⟨_, rfl⟩
    rw [hb19]
    have Hhb19 := Lib.hid hb19
    clear hb19
    rintro e w17 ⟨rfl, k18⟩
    have Kk21 := Lib.hid k18
    clear k18
    cases rb20 with
    | false =>
      have kvV0 : Sees V0 (w.heap.size + 2) w17 := sees_kept _ (kept_trans Kk13.out Kk21.out)
      go_wp2_with (refine stop_store 45 (.tmp 4) (.tmp 21) rfl ?_)
      intro _
      refine wpList_store_part_n (by rfl) 45 (.tmp 4) (.tmp 21) rfl (w.heap.size + 2) 0 #[.int .i64 0, .int .i64 0, .int .i64 0, .int .i64 0, .int .i64 0, .slice none 0 0, .int .i64 0, .int .i64 0, .int .i64 0, .int .i64 0, .slice none 0 0, .int .i64 0, .int .i64 0, .int .i64 0, .int .i64 0, .slice none 0 0, .int .i64 0, .int .i64 0, .int .i64 0, .int .i64 0, .slice none 0 0, .int .i64 0, .int .i64 0, .int .i64 0, .int .i64 0, .slice none 0 0] (by rfl) (by rfl) 45 (by kernel_rfl) (row_ok rfl) ?_
      intro W22 hW22
      clear kvV0
      subst hW22
      refine ⟨_, #[.int .i64 0, .int .i64 0, .int .i64 0, .int .i64 0, .int .i64 0, .slice none 0 0, .int .i64 0, .int .i64 0, .int .i64 0, .int .i64 0, .slice none 0 0, .int .i64 0, .int .i64 0, .int .i64 0, .int .i64 0, .slice none 0 0, .int .i64 0, .int .i64 0, .int .i64 0, .int .i64 0, .slice none 0 0, .int .i64 0, .int .i64 0, .int .i64 0, .int .i64 0, .slice none 0 0], (blk_at Hx3.out (kept_trans Kk13.out Kk21.out)), rfl, Nat.le_of_ble_eq_true rfl, ?_⟩
      intro W23 hW23
      go_wp2_with fail
      refine bodyPost_ret (results_cell_row rfl _ _ (w.heap.size + 2) 45 _ _ dr rfl (blk_same (blk_at Hx3.out (kept_trans Kk13.out Kk21.out)) hW23) dr1 (by cases dr <;> first | rfl | exact dr2) (by kernel_rfl)) rfl ?_
      rw [show heThen g h = (⟨0, (.mk 0 0 0 0 []), (.mk 0 0 0 0 []), (.mk 0 0 0 0 []), (.mk 0 0 0 0 []), (.mk 0 0 0 0 [])⟩ : He) from by unfold heThen; rw [Hhb11.out, Hhb19.out]; (try rfl)]
      exact ⟨_, _, _, _, _, rfl, ⟨par_end (par_row' (liesQ_nil w17 (Par w V0.heap.size [] P)) hW23 (by omega) (by have := Z0.out; omega)) (by have := Z0.out; omega), par_end (par_row' (liesQ_nil w17 (Par w V0.heap.size [] P)) hW23 (by omega) (by have := Z0.out; omega)) (by have := Z0.out; omega), par_end (par_row' (liesQ_nil w17 (Par w V0.heap.size [] P)) hW23 (by omega) (by have := Z0.out; omega)) (by have := Z0.out; omega), par_end (par_row' (liesQ_nil w17 (Par w V0.heap.size [] P)) hW23 (by omega) (by have := Z0.out; omega)) (by have := Z0.out; omega), par_end (par_row' (liesQ_nil w17 (Par w V0.heap.size [] P)) hW23 (by omega) (by have := Z0.out; omega)) (by have := Z0.out; omega)⟩, kept_set (kept_trans Kk6.out (kept_trans Kk13.out Kk21.out)) hW23 (by omega)⟩
    | true =>
      have ew24 : IntKind.i64.wrap (h.i + 1) = h.i + 1 := IntWalk.i64_in _ (by have := levN_true (heR_lev Hhb19.out); omega)
      have kvV0 : Sees V0 (w.heap.size + 2) w17 := sees_kept _ (kept_trans Kk13.out Kk21.out)
      by_cases c25 : g.i = h.i
      · have ec25 : (g.i == h.i) = true := beq_iff_eq.2 c25
        have fc25 : (g.i != h.i) = false := by rw [bne, ec25]; rfl
        have Ec25 := Lib.hid ec25
        have Hc25 := Lib.hid c25
        clear c25
        go_wp2_with fail
        clear kvV0
        obtain ⟨W26, h27⟩ : ∃ x, World.drew w17 = x := ⟨_, rfl⟩
        have k28 : Kept w17 W26 := by rw [← h27]; exact kept_drew (kept_refl _)
        have Kk29 := Lib.hid k28
        clear k28
        refine wp_region_held_drew (S := Sees W26 (w.heap.size + 2)) (by kernel_rfl) ?_ (fun hHeld => ?_)
        · (try dsimp only)
          rw [h27]
          exact sees_kept _ (kept_refl _)
        rw [h27] at hHeld ⊢
        clear h27
        refine take_at 0 24 rThenr4_0 (v := ?_) (Or.inl ⟨by rfl, ?_⟩) ?_
        rotate_left 1
        · ((intro w hSw; (try dsimp only at hSw); unfold rThenr4_0; go_simp) <;> with_reducible rfl)
        (try simp only [Act.put, List.setIfInBounds_toArray, List.set_cons_zero, List.set_cons_succ])
        refine take_at 1 25 rThenr4_1 (v := ?_) (Or.inl ⟨by rfl, ?_⟩) ?_
        rotate_left 1
        · ((intro w hSw; (try dsimp only at hSw); unfold rThenr4_1; go_simp) <;> with_reducible rfl)
        (try simp only [Act.put, List.setIfInBounds_toArray, List.set_cons_zero, List.set_cons_succ])
        refine take_at 2 26 rThenr4_2 (yields_part (w.heap.size) 1 32 (.tmp 25) #[.int .i64 g.a.k, .int .i64 g.a.i, .int .i64 g.a.j, .int .i64 g.a.n, (.slice aga g.a.kids.length cga)] du (fun _ h => sees_blk Hx1.out (by have := Z0.out; omega) (sees_of (kept_trans Kk13.out (kept_trans Kk21.out Kk29.out)) h)) (by rfl) rfl (by rfl) (by rfl) hu1 (by cases du <;> first | rfl | exact hu2) size_term) ?_
        (try simp only [Act.put, List.setIfInBounds_toArray, List.set_cons_zero, List.set_cons_succ])
        refine take_at 3 27 rThenr4_3 (v := ?_) (Or.inl ⟨by rfl, ?_⟩) ?_
        rotate_left 1
        · ((intro w hSw; (try dsimp only at hSw); unfold rThenr4_3; go_simp) <;> with_reducible rfl)
        (try simp only [Act.put, List.setIfInBounds_toArray, List.set_cons_zero, List.set_cons_succ])
        refine take_at 4 28 rThenr4_4 (yields_part (w.heap.size + 1) 6 32 (.tmp 27) #[.int .i64 h.b.k, .int .i64 h.b.i, .int .i64 h.b.j, .int .i64 h.b.n, (.slice ahb h.b.kids.length chb)] du (fun _ h => sees_blk Hx2.out (by have := Z0.out; omega) (sees_of (kept_trans Kk13.out (kept_trans Kk21.out Kk29.out)) h)) (by rfl) rfl (by rfl) (by rfl) hu1 (by cases du <;> first | rfl | exact hu2) size_term) ?_
        (try simp only [Act.put, List.setIfInBounds_toArray, List.set_cons_zero, List.set_cons_succ])
        refine take_at 5 29 rThenr4_5 (v := ?_) (Or.inl ⟨by rfl, ?_⟩) ?_
        rotate_left 1
        · ((intro w hSw; (try dsimp only at hSw); unfold rThenr4_5; go_simp) <;> with_reducible rfl)
        (try simp only [Act.put, List.setIfInBounds_toArray, List.set_cons_zero, List.set_cons_succ])
        refine take_at 6 30 rThenr4_6 (yields_part (w.heap.size) 11 32 (.tmp 29) #[.int .i64 g.x.k, .int .i64 g.x.i, .int .i64 g.x.j, .int .i64 g.x.n, (.slice agx g.x.kids.length cgx)] du (fun _ h => sees_blk Hx1.out (by have := Z0.out; omega) (sees_of (kept_trans Kk13.out (kept_trans Kk21.out Kk29.out)) h)) (by rfl) rfl (by rfl) (by rfl) hu1 (by cases du <;> first | rfl | exact hu2) size_term) ?_
        (try simp only [Act.put, List.setIfInBounds_toArray, List.set_cons_zero, List.set_cons_succ])
        refine take_at 7 31 rThenr4_7 (v := ?_) (Or.inl ⟨by rfl, ?_⟩) ?_
        rotate_left 1
        · ((intro w hSw; (try dsimp only at hSw); unfold rThenr4_7; go_simp) <;> with_reducible rfl)
        (try simp only [Act.put, List.setIfInBounds_toArray, List.set_cons_zero, List.set_cons_succ])
        refine take_at 8 32 rThenr4_8 (yields_part (w.heap.size + 1) 16 32 (.tmp 31) #[.int .i64 h.y.k, .int .i64 h.y.i, .int .i64 h.y.j, .int .i64 h.y.n, (.slice ahy h.y.kids.length chy)] du (fun _ h => sees_blk Hx2.out (by have := Z0.out; omega) (sees_of (kept_trans Kk13.out (kept_trans Kk21.out Kk29.out)) h)) (by rfl) rfl (by rfl) (by rfl) hu1 (by cases du <;> first | rfl | exact hu2) size_term) ?_
        (try simp only [Act.put, List.setIfInBounds_toArray, List.set_cons_zero, List.set_cons_succ])
        refine take_at 9 33 rThenr4_9 (v := ?_) (Or.inl ⟨by rfl, ?_⟩) ?_
        rotate_left 1
        · ((intro w hSw; (try dsimp only at hSw); unfold rThenr4_9; go_simp) <;> with_reducible rfl)
        (try simp only [Act.put, List.setIfInBounds_toArray, List.set_cons_zero, List.set_cons_succ])
        refine take_at 10 34 rThenr4_10 (v := ?_) (Or.inl ⟨by rfl, ?_⟩) ?_
        rotate_left 1
        · ((intro w hSw; (try dsimp only at hSw); unfold rThenr4_10; go_simp) <;> with_reducible rfl)
        (try simp only [Act.put, List.setIfInBounds_toArray, List.set_cons_zero, List.set_cons_succ])
        refine take_at 11 35 rThenr4_11 (v := ?_) (Or.inl ⟨by rfl, ?_⟩) ?_
        rotate_left 1
        · ((intro w hSw; (try dsimp only at hSw); unfold rThenr4_11; go_simp) <;> with_reducible rfl)
        (try simp only [Act.put, List.setIfInBounds_toArray, List.set_cons_zero, List.set_cons_succ])
        refine take_at 13 37 rThenr4_13 (v := ?_) (Or.inl ⟨by rfl, ?_⟩) ?_
        rotate_left 1
        · ((intro w hSw; (try dsimp only at hSw); unfold rThenr4_13; go_simp) <;> with_reducible rfl)
        (try simp only [Act.put, List.setIfInBounds_toArray, List.set_cons_zero, List.set_cons_succ])
        refine take_at 14 38 rThenr4_14 (v := ?_) (Or.inl ⟨by rfl, ?_⟩) ?_
        rotate_left 1
        · ((intro w hSw; (try dsimp only at hSw); unfold rThenr4_14; go_simp) <;> with_reducible rfl)
        (try simp only [Act.put, List.setIfInBounds_toArray, List.set_cons_zero, List.set_cons_succ])
        refine take_at 15 39 rThenr4_15 (yields_part (w.heap.size) 1 32 (.tmp 38) #[.int .i64 g.a.k, .int .i64 g.a.i, .int .i64 g.a.j, .int .i64 g.a.n, (.slice aga g.a.kids.length cga)] du (fun _ h => sees_blk Hx1.out (by have := Z0.out; omega) (sees_of (kept_trans Kk13.out (kept_trans Kk21.out Kk29.out)) h)) (by rfl) rfl (by rfl) (by rfl) hu1 (by cases du <;> first | rfl | exact hu2) size_term) ?_
        (try simp only [Act.put, List.setIfInBounds_toArray, List.set_cons_zero, List.set_cons_succ])
        refine take_at 16 40 rThenr4_16 (v := ?_) (Or.inl ⟨by rfl, ?_⟩) ?_
        rotate_left 1
        · ((intro w hSw; (try dsimp only at hSw); unfold rThenr4_16; go_simp) <;> with_reducible rfl)
        (try simp only [Act.put, List.setIfInBounds_toArray, List.set_cons_zero, List.set_cons_succ])
        refine take_at 17 41 rThenr4_17 (yields_part (w.heap.size) 11 32 (.tmp 40) #[.int .i64 g.x.k, .int .i64 g.x.i, .int .i64 g.x.j, .int .i64 g.x.n, (.slice agx g.x.kids.length cgx)] du (fun _ h => sees_blk Hx1.out (by have := Z0.out; omega) (sees_of (kept_trans Kk13.out (kept_trans Kk21.out Kk29.out)) h)) (by rfl) rfl (by rfl) (by rfl) hu1 (by cases du <;> first | rfl | exact hu2) size_term) ?_
        (try simp only [Act.put, List.setIfInBounds_toArray, List.set_cons_zero, List.set_cons_succ])
        refine take_at 19 43 rThenr4_19 (v := ?_) (Or.inl ⟨by rfl, ?_⟩) ?_
        rotate_left 1
        · ((intro w hSw; (try dsimp only at hSw); unfold rThenr4_19; go_simp) <;> with_reducible rfl)
        (try simp only [Act.put, List.setIfInBounds_toArray, List.set_cons_zero, List.set_cons_succ])
        refine take_at 20 44 rThenr4_20 (v := ?_) (Or.inl ⟨by rfl, ?_⟩) ?_
        rotate_left 1
        · ((intro w hSw; (try dsimp only at hSw); unfold rThenr4_20; go_simp) <;> with_reducible rfl)
        (try simp only [Act.put, List.setIfInBounds_toArray, List.set_cons_zero, List.set_cons_succ])
        refine take_at 21 45 rThenr4_21 (yields_part (w.heap.size) 6 32 (.tmp 44) #[.int .i64 g.b.k, .int .i64 g.b.i, .int .i64 g.b.j, .int .i64 g.b.n, (.slice agb g.b.kids.length cgb)] du (fun _ h => sees_blk Hx1.out (by have := Z0.out; omega) (sees_of (kept_trans Kk13.out (kept_trans Kk21.out Kk29.out)) h)) (by rfl) rfl (by rfl) (by rfl) hu1 (by cases du <;> first | rfl | exact hu2) size_term) ?_
        (try simp only [Act.put, List.setIfInBounds_toArray, List.set_cons_zero, List.set_cons_succ])
        refine take_at 22 46 rThenr4_22 (v := ?_) (Or.inl ⟨by rfl, ?_⟩) ?_
        rotate_left 1
        · ((intro w hSw; (try dsimp only at hSw); unfold rThenr4_22; go_simp) <;> with_reducible rfl)
        (try simp only [Act.put, List.setIfInBounds_toArray, List.set_cons_zero, List.set_cons_succ])
        refine take_at 23 47 rThenr4_23 (yields_part (w.heap.size) 16 32 (.tmp 46) #[.int .i64 g.y.k, .int .i64 g.y.i, .int .i64 g.y.j, .int .i64 g.y.n, (.slice agy g.y.kids.length cgy)] du (fun _ h => sees_blk Hx1.out (by have := Z0.out; omega) (sees_of (kept_trans Kk13.out (kept_trans Kk21.out Kk29.out)) h)) (by rfl) rfl (by rfl) (by rfl) hu1 (by cases du <;> first | rfl | exact hu2) size_term) ?_
        (try simp only [Act.put, List.setIfInBounds_toArray, List.set_cons_zero, List.set_cons_succ])
        refine take_at 25 49 rThenr4_25 (v := ?_) (Or.inl ⟨by rfl, ?_⟩) ?_
        rotate_left 1
        · ((intro w hSw; (try dsimp only at hSw); unfold rThenr4_25; go_simp) <;> with_reducible rfl)
        (try simp only [Act.put, List.setIfInBounds_toArray, List.set_cons_zero, List.set_cons_succ])
        refine take_at 26 50 rThenr4_26 (v := ?_) (Or.inl ⟨by rfl, ?_⟩) ?_
        rotate_left 1
        · ((intro w hSw; (try dsimp only at hSw); unfold rThenr4_26; go_simp) <;> with_reducible rfl)
        (try simp only [Act.put, List.setIfInBounds_toArray, List.set_cons_zero, List.set_cons_succ])
        refine take_at 27 51 rThenr4_27 (yields_part (w.heap.size + 1) 6 32 (.tmp 50) #[.int .i64 h.b.k, .int .i64 h.b.i, .int .i64 h.b.j, .int .i64 h.b.n, (.slice ahb h.b.kids.length chb)] du (fun _ h => sees_blk Hx2.out (by have := Z0.out; omega) (sees_of (kept_trans Kk13.out (kept_trans Kk21.out Kk29.out)) h)) (by rfl) rfl (by rfl) (by rfl) hu1 (by cases du <;> first | rfl | exact hu2) size_term) ?_
        (try simp only [Act.put, List.setIfInBounds_toArray, List.set_cons_zero, List.set_cons_succ])
        refine take_at 28 52 rThenr4_28 (v := ?_) (Or.inl ⟨by rfl, ?_⟩) ?_
        rotate_left 1
        · ((intro w hSw; (try dsimp only at hSw); unfold rThenr4_28; go_simp) <;> with_reducible rfl)
        (try simp only [Act.put, List.setIfInBounds_toArray, List.set_cons_zero, List.set_cons_succ])
        refine take_at 29 53 rThenr4_29 (yields_part (w.heap.size + 1) 16 32 (.tmp 52) #[.int .i64 h.y.k, .int .i64 h.y.i, .int .i64 h.y.j, .int .i64 h.y.n, (.slice ahy h.y.kids.length chy)] du (fun _ h => sees_blk Hx2.out (by have := Z0.out; omega) (sees_of (kept_trans Kk13.out (kept_trans Kk21.out Kk29.out)) h)) (by rfl) rfl (by rfl) (by rfl) hu1 (by cases du <;> first | rfl | exact hu2) size_term) ?_
        (try simp only [Act.put, List.setIfInBounds_toArray, List.set_cons_zero, List.set_cons_succ])
        refine take_at 31 55 rThenr4_31 (v := ?_) (Or.inl ⟨by rfl, ?_⟩) ?_
        rotate_left 1
        · ((intro w hSw; (try dsimp only at hSw); unfold rThenr4_31; go_simp) <;> with_reducible rfl)
        (try simp only [Act.put, List.setIfInBounds_toArray, List.set_cons_zero, List.set_cons_succ])
        refine take_at 32 56 rThenr4_32 (yields_part (w.heap.size) 21 32 (.tmp 55) #[.int .i64 g.h.k, .int .i64 g.h.i, .int .i64 g.h.j, .int .i64 g.h.n, (.slice agh g.h.kids.length cgh)] du (fun _ h => sees_blk Hx1.out (by have := Z0.out; omega) (sees_of (kept_trans Kk13.out (kept_trans Kk21.out Kk29.out)) h)) (by rfl) rfl (by rfl) (by rfl) hu1 (by cases du <;> first | rfl | exact hu2) size_term) ?_
        (try simp only [Act.put, List.setIfInBounds_toArray, List.set_cons_zero, List.set_cons_succ])
        refine take_at 33 57 rThenr4_33 (v := ?_) (Or.inl ⟨by rfl, ?_⟩) ?_
        rotate_left 1
        · ((intro w hSw; (try dsimp only at hSw); unfold rThenr4_33; go_simp) <;> with_reducible rfl)
        (try simp only [Act.put, List.setIfInBounds_toArray, List.set_cons_zero, List.set_cons_succ])
        refine take_at 34 58 rThenr4_34 (yields_part (w.heap.size + 1) 21 32 (.tmp 57) #[.int .i64 h.h.k, .int .i64 h.h.i, .int .i64 h.h.j, .int .i64 h.h.n, (.slice ahh h.h.kids.length chh)] du (fun _ h => sees_blk Hx2.out (by have := Z0.out; omega) (sees_of (kept_trans Kk13.out (kept_trans Kk21.out Kk29.out)) h)) (by rfl) rfl (by rfl) (by rfl) hu1 (by cases du <;> first | rfl | exact hu2) size_term) ?_
        (try simp only [Act.put, List.setIfInBounds_toArray, List.set_cons_zero, List.set_cons_succ])
        refine wpAnyH_ready (rs := [12]) (by kernel_rfl) (by simp) ?_
        refine AllReadyH.cons (o := rThenr4_12) rfl (fun K hK => ?_) ?_
        · unfold rThenr4_12
          go_simp
          refine ((rPoints_any g.i (Par w V0.heap.size [] P) _ Gg.out.1).mono (fun _ _ h => by rw [points_good (heR_lev Hhb11.out)] at h; exact h)).mono ?_
          obtain ⟨U37, hU37⟩ : ∃ qu, pointsT g.i = qu := ⟨_, rfl⟩
          rw [hU37]
          have HU37 := Lib.hid hU37
          clear hU37
          rintro e w30 ⟨s32, rfl, hl33, k31⟩
          obtain ⟨a34, c35, S36, rfl, -⟩ := hl33.out
          have Kk38 := Lib.hid k31
          clear k31
          have Hhl33 : Hid (LiesQ w30 (Par w V0.heap.size [] P) U37.kids _) := par_give hl33 (Below.size (kept_trans Kk13.out (kept_trans Kk21.out Kk29.out))) (xlt_nil _)
          clear hl33
          clear hHeld
          refine hK.out _ _ ?_ (fun hHeld => ?_)
          · (try dsimp only)
            exact sees_kept _ Kk38.out
          clear hK K
          (try simp only [Act.put, List.setIfInBounds_toArray, List.set_cons_zero, List.set_cons_succ])
          refine wpAnyH_ready (rs := [18]) (by kernel_rfl) (by simp) ?_
          refine AllReadyH.cons (o := rThenr4_18) rfl (fun K hK => ?_) ?_
          · unfold rThenr4_18
            go_simp
            refine ((rPoint_any g.i g.a g.x (Par w V0.heap.size [] P) _ (.slice aga g.a.kids.length cga) (.slice agx g.x.kids.length cgx) Gg.out.1 Gg.out.2.1 (HLga.out.later (kept_trans Kk13.out (kept_trans Kk21.out (kept_trans Kk29.out Kk38.out)))) Gg.out.2.2.2.1 (HLgx.out.later (kept_trans Kk13.out (kept_trans Kk21.out (kept_trans Kk29.out Kk38.out))))).mono (fun _ _ h => by rw [point_good (heR_lev Hhb11.out) (heR_pl Hhb11.out _ (by simp)) (heR_pl Hhb11.out _ (by simp))] at h; exact h)).mono ?_
            obtain ⟨U46, hU46⟩ : ∃ qu, pointT g.i g.a g.x = qu := ⟨_, rfl⟩
            rw [hU46]
            have HU46 := Lib.hid hU46
            clear hU46
            rintro e w39 ⟨s41, rfl, hl42, k40⟩
            obtain ⟨a43, c44, S45, rfl, -⟩ := hl42.out
            have Kk47 := Lib.hid k40
            clear k40
            have Hhl42 : Hid (LiesQ w39 (Par w V0.heap.size [] P) U46.kids _) := par_give hl42 (Below.size (kept_trans Kk13.out (kept_trans Kk21.out (kept_trans Kk29.out Kk38.out)))) (xlt_nil _)
            clear hl42
            clear hHeld
            refine hK.out _ _ ?_ (fun hHeld => ?_)
            · (try dsimp only)
              exact sees_kept _ (kept_trans Kk38.out Kk47.out)
            clear hK K
            (try simp only [Act.put, List.setIfInBounds_toArray, List.set_cons_zero, List.set_cons_succ])
            refine wpAnyH_ready (rs := [24]) (by kernel_rfl) (by simp) ?_
            refine AllReadyH.cons (o := rThenr4_24) rfl (fun K hK => ?_) ?_
            · unfold rThenr4_24
              go_simp
              refine ((rPoint_any g.i g.b g.y (Par w V0.heap.size [] P) _ (.slice agb g.b.kids.length cgb) (.slice agy g.y.kids.length cgy) Gg.out.1 Gg.out.2.2.1 (HLgb.out.later (kept_trans Kk13.out (kept_trans Kk21.out (kept_trans Kk29.out (kept_trans Kk38.out Kk47.out))))) Gg.out.2.2.2.2.1 (HLgy.out.later (kept_trans Kk13.out (kept_trans Kk21.out (kept_trans Kk29.out (kept_trans Kk38.out Kk47.out)))))).mono (fun _ _ h => by rw [point_good (heR_lev Hhb11.out) (heR_pl Hhb11.out _ (by simp)) (heR_pl Hhb11.out _ (by simp))] at h; exact h)).mono ?_
              obtain ⟨U55, hU55⟩ : ∃ qu, pointT g.i g.b g.y = qu := ⟨_, rfl⟩
              rw [hU55]
              have HU55 := Lib.hid hU55
              clear hU55
              rintro e w48 ⟨s50, rfl, hl51, k49⟩
              obtain ⟨a52, c53, S54, rfl, -⟩ := hl51.out
              have Kk56 := Lib.hid k49
              clear k49
              have Hhl51 : Hid (LiesQ w48 (Par w V0.heap.size [] P) U55.kids _) := par_give hl51 (Below.size (kept_trans Kk13.out (kept_trans Kk21.out (kept_trans Kk29.out (kept_trans Kk38.out Kk47.out))))) (xlt_nil _)
              clear hl51
              clear hHeld
              refine hK.out _ _ ?_ (fun hHeld => ?_)
              · (try dsimp only)
                exact sees_kept _ (kept_trans Kk38.out (kept_trans Kk47.out Kk56.out))
              clear hK K
              (try simp only [Act.put, List.setIfInBounds_toArray, List.set_cons_zero, List.set_cons_succ])
              refine wpAnyH_ready (rs := [30]) (by kernel_rfl) (by simp) ?_
              refine AllReadyH.cons (o := rThenr4_30) rfl (fun K hK => ?_) ?_
              · unfold rThenr4_30
                go_simp
                refine ((rPoint_any g.i h.b h.y (Par w V0.heap.size [] P) _ (.slice ahb h.b.kids.length chb) (.slice ahy h.y.kids.length chy) Gg.out.1 Gh.out.2.2.1 (HLhb.out.later (kept_trans Kk13.out (kept_trans Kk21.out (kept_trans Kk29.out (kept_trans Kk38.out (kept_trans Kk47.out Kk56.out)))))) Gh.out.2.2.2.2.1 (HLhy.out.later (kept_trans Kk13.out (kept_trans Kk21.out (kept_trans Kk29.out (kept_trans Kk38.out (kept_trans Kk47.out Kk56.out))))))).mono (fun _ _ h => by rw [point_good (heR_lev Hhb11.out) (heR_pl Hhb19.out _ (by simp)) (heR_pl Hhb19.out _ (by simp))] at h; exact h)).mono ?_
                obtain ⟨U64, hU64⟩ : ∃ qu, pointT g.i h.b h.y = qu := ⟨_, rfl⟩
                rw [hU64]
                have HU64 := Lib.hid hU64
                clear hU64
                rintro e w57 ⟨s59, rfl, hl60, k58⟩
                obtain ⟨a61, c62, S63, rfl, -⟩ := hl60.out
                have Kk65 := Lib.hid k58
                clear k58
                have Hhl60 : Hid (LiesQ w57 (Par w V0.heap.size [] P) U64.kids _) := par_give hl60 (Below.size (kept_trans Kk13.out (kept_trans Kk21.out (kept_trans Kk29.out (kept_trans Kk38.out (kept_trans Kk47.out Kk56.out)))))) (xlt_nil _)
                clear hl60
                clear hHeld
                refine hK.out _ _ ?_ (fun hHeld => ?_)
                · (try dsimp only)
                  exact sees_kept _ (kept_trans Kk38.out (kept_trans Kk47.out (kept_trans Kk56.out Kk65.out)))
                clear hK K
                (try simp only [Act.put, List.setIfInBounds_toArray, List.set_cons_zero, List.set_cons_succ])
                refine wpAnyH_ready (rs := [35]) (by kernel_rfl) (by simp) ?_
                refine AllReadyH.cons (o := rThenr4_35) rfl (fun K hK => ?_) ?_
                · unfold rThenr4_35
                  go_simp
                  refine at_K (fun W67 hW67 => ?_)
                  obtain ⟨k69, x68, z70⟩ := alloc1 hW67
                  have Kk71 := Lib.hid k69
                  clear k69
                  have Hx68 := Lib.hid x68
                  have Hz70 := Lib.hid z70
                  clear x68 z70 hW67
                  have HR72 : Hid (LiesQ W67 (Par w V0.heap.size [] P) [U37, U46, U55, U64, g.h, h.h] (.slice (some ⟨w57.heap.size, 0, none⟩) 6 6)) := q_row [(U37, (.slice a34 U37.kids.length c35)), (U46, (.slice a43 U46.kids.length c44)), (U55, (.slice a52 U55.kids.length c53)), (U64, (.slice a61 U64.kids.length c62)), (g.h, (.slice agh g.h.kids.length cgh)), (h.h, (.slice ahh h.h.kids.length chh))] _ rfl Hx68.out (par_new (Below.size (kept_trans Kk13.out (kept_trans Kk21.out (kept_trans Kk29.out (kept_trans Kk38.out (kept_trans Kk47.out (kept_trans Kk56.out Kk65.out))))))) (xlt_nil _) (Nat.le_refl _)) (fun p hp => by
                    simp only [List.mem_cons, List.not_mem_nil, or_false] at hp
                    rcases hp with rfl | rfl | rfl | rfl | rfl | rfl
                    · exact ⟨(by rw [← HU37.out]; exact (right_fine (plain_right (points_plain (heR_lev Hhb11.out))))), (Hhl33.out.later (kept_trans Kk47.out (kept_trans Kk56.out (kept_trans Kk65.out Kk71.out))))⟩
                    · exact ⟨(by rw [← HU46.out]; exact (right_fine (plain_right (point_plain (heR_lev Hhb11.out) (heR_pl Hhb11.out _ (by simp)) (heR_pl Hhb11.out _ (by simp)))))), (Hhl42.out.later (kept_trans Kk56.out (kept_trans Kk65.out Kk71.out)))⟩
                    · exact ⟨(by rw [← HU55.out]; exact (right_fine (plain_right (point_plain (heR_lev Hhb11.out) (heR_pl Hhb11.out _ (by simp)) (heR_pl Hhb11.out _ (by simp)))))), (Hhl51.out.later (kept_trans Kk65.out Kk71.out))⟩
                    · exact ⟨(by rw [← HU64.out]; exact (right_fine (plain_right (point_plain (heR_lev Hhb11.out) (heR_pl Hhb19.out _ (by simp)) (heR_pl Hhb19.out _ (by simp)))))), (Hhl60.out.later Kk71.out)⟩
                    · exact ⟨Gg.out.2.2.2.2.2, (HLgh.out.later (kept_trans Kk13.out (kept_trans Kk21.out (kept_trans Kk29.out (kept_trans Kk38.out (kept_trans Kk47.out (kept_trans Kk56.out (kept_trans Kk65.out Kk71.out))))))))⟩
                    · exact ⟨Gh.out.2.2.2.2.2, (HLhh.out.later (kept_trans Kk13.out (kept_trans Kk21.out (kept_trans Kk29.out (kept_trans Kk38.out (kept_trans Kk47.out (kept_trans Kk56.out (kept_trans Kk65.out Kk71.out))))))))⟩) (Nat.le_of_ble_eq_true rfl)
                  clear hHeld
                  refine hK.out _ _ ?_ (fun hHeld => ?_)
                  · (try dsimp only)
                    exact sees_kept _ (kept_trans Kk38.out (kept_trans Kk47.out (kept_trans Kk56.out (kept_trans Kk65.out Kk71.out))))
                  clear hK K
                  (try simp only [Act.put, List.setIfInBounds_toArray, List.set_cons_zero, List.set_cons_succ])
                  refine wpAnyH_ready (rs := [36]) (by kernel_rfl) (by simp) ?_
                  refine AllReadyH.cons (o := rThenr4_36) rfl (fun K hK => ?_) ?_
                  · unfold rThenr4_36
                    go_simp
                    refine (ruse_any 4 (g.i + 1) 0 [U37, U46, U55, U64, g.h, h.h] (Par w V0.heap.size [] P) _ _ (show I64 4 from by unfold I64; decide) (lev_succ (heR_lev Hhb11.out) (by decide)) (show I64 0 from by unfold I64; decide) HR72.out (Nat.le_of_ble_eq_true rfl)).mono ?_
                    obtain ⟨U80, hU80⟩ : ∃ qu, useT 4 (g.i + 1) 0 [U37, U46, U55, U64, g.h, h.h] = qu := ⟨_, rfl⟩
                    rw [hU80]
                    have HU80 := Lib.hid hU80
                    clear hU80
                    rintro e w73 ⟨s75, rfl, hl76, k74⟩
                    obtain ⟨a77, c78, S79, rfl, -⟩ := hl76.out
                    have Kk81 := Lib.hid k74
                    clear k74
                    have Hhl76 : Hid (LiesQ w73 (Par w V0.heap.size [] P) U80.kids _) := par_give hl76 (Below.size (kept_trans Kk13.out (kept_trans Kk21.out (kept_trans Kk29.out (kept_trans Kk38.out (kept_trans Kk47.out (kept_trans Kk56.out (kept_trans Kk65.out Kk71.out)))))))) (xlt_nil _)
                    clear hl76
                    clear hHeld
                    refine hK.out _ _ ?_ (fun hHeld => ?_)
                    · (try dsimp only)
                      exact sees_kept _ (kept_trans Kk38.out (kept_trans Kk47.out (kept_trans Kk56.out (kept_trans Kk65.out (kept_trans Kk71.out Kk81.out)))))
                    clear hK K
                    (try simp only [Act.put, List.setIfInBounds_toArray, List.set_cons_zero, List.set_cons_succ])
                    refine take_at 37 61 rThenr4_37 (v := ?_) (Or.inl ⟨by rfl, ?_⟩) ?_
                    rotate_left 1
                    · ((intro w hSw; (try dsimp only at hSw); unfold rThenr4_37; go_simp) <;> with_reducible rfl)
                    (try simp only [Act.put, List.setIfInBounds_toArray, List.set_cons_zero, List.set_cons_succ])
                    refine wpAnyH_ready (rs := [38]) (by kernel_rfl) (by simp) ?_
                    refine AllReadyH.cons (o := rThenr4_38) rfl (fun K hK => ?_) ?_
                    · unfold rThenr4_38
                      refine step_store_part rfl 45 (.tmp 4) (.tmp 61) rfl (w.heap.size + 2) 0 #[.int .i64 g.i, .int .i64 g.a.k, .int .i64 g.a.i, .int .i64 g.a.j, .int .i64 g.a.n, (.slice aga g.a.kids.length cga), .int .i64 h.b.k, .int .i64 h.b.i, .int .i64 h.b.j, .int .i64 h.b.n, (.slice ahb h.b.kids.length chb), .int .i64 g.x.k, .int .i64 g.x.i, .int .i64 g.x.j, .int .i64 g.x.n, (.slice agx g.x.kids.length cgx), .int .i64 h.y.k, .int .i64 h.y.i, .int .i64 h.y.j, .int .i64 h.y.n, (.slice ahy h.y.kids.length chy), .int .i64 U80.k, .int .i64 U80.i, .int .i64 U80.j, .int .i64 U80.n, (.slice a77 U80.kids.length c78)] rfl rfl 45 (by kernel_rfl) (row_ok rfl) _ #[.int .i64 g.i, .int .i64 g.a.k, .int .i64 g.a.i, .int .i64 g.a.j, .int .i64 g.a.n, (.slice aga g.a.kids.length cga), .int .i64 h.b.k, .int .i64 h.b.i, .int .i64 h.b.j, .int .i64 h.b.n, (.slice ahb h.b.kids.length chb), .int .i64 g.x.k, .int .i64 g.x.i, .int .i64 g.x.j, .int .i64 g.x.n, (.slice agx g.x.kids.length cgx), .int .i64 h.y.k, .int .i64 h.y.i, .int .i64 h.y.j, .int .i64 h.y.n, (.slice ahy h.y.kids.length chy), .int .i64 U80.k, .int .i64 U80.i, .int .i64 U80.j, .int .i64 U80.n, (.slice a77 U80.kids.length c78)] (blk_at Hx3.out (kept_trans Kk13.out (kept_trans Kk21.out (kept_trans Kk29.out (kept_trans Kk38.out (kept_trans Kk47.out (kept_trans Kk56.out (kept_trans Kk65.out (kept_trans Kk71.out Kk81.out))))))))) rfl (Nat.le_of_ble_eq_true rfl) ?_
                      intro W82 hW82
                      clear hHeld
                      refine hK.out _ _ ?_ (fun hHeld => ?_)
                      · (try dsimp only)
                        exact sees_set (kept_trans Kk38.out (kept_trans Kk47.out (kept_trans Kk56.out (kept_trans Kk65.out (kept_trans Kk71.out Kk81.out))))) hW82
                      clear hK K
                      (try simp only [Act.put])
                      refine wpAnyH_done (by kernel_rfl) ?_ _
                      clear hHeld
                      go_wp2_with fail
                      refine bodyPost_ret (results_cell_row rfl _ _ (w.heap.size + 2) 45 _ _ dr rfl (blk_same (blk_at Hx3.out (kept_trans Kk13.out (kept_trans Kk21.out (kept_trans Kk29.out (kept_trans Kk38.out (kept_trans Kk47.out (kept_trans Kk56.out (kept_trans Kk65.out (kept_trans Kk71.out Kk81.out))))))))) hW82) dr1 (by cases dr <;> first | rfl | exact dr2) (by kernel_rfl)) rfl ?_
                      rw [show heThen g h = (⟨g.i, g.a, h.b, g.x, h.y, U80⟩ : He) from by unfold heThen; rw [Hhb11.out, Hhb19.out, Ec25.out]; rw [← HU80.out]; rw [← HU64.out]; rw [← HU55.out]; rw [← HU46.out]; rw [← HU37.out]; (try rfl)]
                      exact ⟨_, _, _, _, _, rfl, ⟨par_end (par_row' (HLga.out.later (kept_trans Kk13.out (kept_trans Kk21.out (kept_trans Kk29.out (kept_trans Kk38.out (kept_trans Kk47.out (kept_trans Kk56.out (kept_trans Kk65.out (kept_trans Kk71.out Kk81.out))))))))) hW82 (by omega) (by have := Z0.out; omega)) (by have := Z0.out; omega), par_end (par_row' (HLhb.out.later (kept_trans Kk13.out (kept_trans Kk21.out (kept_trans Kk29.out (kept_trans Kk38.out (kept_trans Kk47.out (kept_trans Kk56.out (kept_trans Kk65.out (kept_trans Kk71.out Kk81.out))))))))) hW82 (by omega) (by have := Z0.out; omega)) (by have := Z0.out; omega), par_end (par_row' (HLgx.out.later (kept_trans Kk13.out (kept_trans Kk21.out (kept_trans Kk29.out (kept_trans Kk38.out (kept_trans Kk47.out (kept_trans Kk56.out (kept_trans Kk65.out (kept_trans Kk71.out Kk81.out))))))))) hW82 (by omega) (by have := Z0.out; omega)) (by have := Z0.out; omega), par_end (par_row' (HLhy.out.later (kept_trans Kk13.out (kept_trans Kk21.out (kept_trans Kk29.out (kept_trans Kk38.out (kept_trans Kk47.out (kept_trans Kk56.out (kept_trans Kk65.out (kept_trans Kk71.out Kk81.out))))))))) hW82 (by omega) (by have := Z0.out; omega)) (by have := Z0.out; omega), par_end (par_row' Hhl76.out hW82 (by omega) (by have := Z0.out; omega)) (by have := Z0.out; omega)⟩, kept_set (kept_trans Kk6.out (kept_trans Kk13.out (kept_trans Kk21.out (kept_trans Kk29.out (kept_trans Kk38.out (kept_trans Kk47.out (kept_trans Kk56.out (kept_trans Kk65.out (kept_trans Kk71.out Kk81.out))))))))) hW82 (by omega)⟩
                    exact AllReadyH.nil
                  exact AllReadyH.nil
                exact AllReadyH.nil
              exact AllReadyH.nil
            exact AllReadyH.nil
          exact AllReadyH.nil
        exact AllReadyH.nil
      · have ec25 : (g.i == h.i) = false := beq_eq_false_iff_ne.2 c25
        have fc25 : (g.i != h.i) = true := by rw [bne, ec25]; rfl
        have Ec25 := Lib.hid ec25
        have Hc25 := Lib.hid c25
        clear c25
        go_wp2_with (refine stop_store 45 (.tmp 4) (.tmp 21) rfl ?_)
        intro _
        refine wpList_store_part_n (by rfl) 45 (.tmp 4) (.tmp 21) rfl (w.heap.size + 2) 0 #[.int .i64 0, .int .i64 0, .int .i64 0, .int .i64 0, .int .i64 0, .slice none 0 0, .int .i64 0, .int .i64 0, .int .i64 0, .int .i64 0, .slice none 0 0, .int .i64 0, .int .i64 0, .int .i64 0, .int .i64 0, .slice none 0 0, .int .i64 0, .int .i64 0, .int .i64 0, .int .i64 0, .slice none 0 0, .int .i64 0, .int .i64 0, .int .i64 0, .int .i64 0, .slice none 0 0] (by rfl) (by rfl) 45 (by kernel_rfl) (row_ok rfl) ?_
        intro W83 hW83
        clear kvV0
        subst hW83
        refine ⟨_, #[.int .i64 0, .int .i64 0, .int .i64 0, .int .i64 0, .int .i64 0, .slice none 0 0, .int .i64 0, .int .i64 0, .int .i64 0, .int .i64 0, .slice none 0 0, .int .i64 0, .int .i64 0, .int .i64 0, .int .i64 0, .slice none 0 0, .int .i64 0, .int .i64 0, .int .i64 0, .int .i64 0, .slice none 0 0, .int .i64 0, .int .i64 0, .int .i64 0, .int .i64 0, .slice none 0 0], (blk_at Hx3.out (kept_trans Kk13.out Kk21.out)), rfl, Nat.le_of_ble_eq_true rfl, ?_⟩
        intro W84 hW84
        go_wp2_with fail
        refine bodyPost_ret (results_cell_row rfl _ _ (w.heap.size + 2) 45 _ _ dr rfl (blk_same (blk_at Hx3.out (kept_trans Kk13.out Kk21.out)) hW84) dr1 (by cases dr <;> first | rfl | exact dr2) (by kernel_rfl)) rfl ?_
        rw [show heThen g h = (⟨0, (.mk 0 0 0 0 []), (.mk 0 0 0 0 []), (.mk 0 0 0 0 []), (.mk 0 0 0 0 []), (.mk 0 0 0 0 [])⟩ : He) from by unfold heThen; rw [Hhb11.out, Hhb19.out, Ec25.out]; (try rfl)]
        exact ⟨_, _, _, _, _, rfl, ⟨par_end (par_row' (liesQ_nil w17 (Par w V0.heap.size [] P)) hW84 (by omega) (by have := Z0.out; omega)) (by have := Z0.out; omega), par_end (par_row' (liesQ_nil w17 (Par w V0.heap.size [] P)) hW84 (by omega) (by have := Z0.out; omega)) (by have := Z0.out; omega), par_end (par_row' (liesQ_nil w17 (Par w V0.heap.size [] P)) hW84 (by omega) (by have := Z0.out; omega)) (by have := Z0.out; omega), par_end (par_row' (liesQ_nil w17 (Par w V0.heap.size [] P)) hW84 (by omega) (by have := Z0.out; omega)) (by have := Z0.out; omega), par_end (par_row' (liesQ_nil w17 (Par w V0.heap.size [] P)) hW84 (by omega) (by have := Z0.out; omega)) (by have := Z0.out; omega)⟩, kept_set (kept_trans Kk6.out (kept_trans Kk13.out Kk21.out)) hW84 (by omega)⟩

end Go.Proofs.Ytkdceahmknhojaa
