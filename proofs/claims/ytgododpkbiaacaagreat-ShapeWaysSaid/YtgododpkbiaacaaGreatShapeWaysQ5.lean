/-
  Facts and contracts that the proof of ShapeWays uses.
-/
import Derived.Test.YtgododpkbiaacaaGreatRows
import Derived.WalkKit
import Derived.Lib.Hide
import Derived.KernelRfl
import Derived.Deep.RegionWith
import Derived.Deep.RegionHeld3
import Derived.Deep.AppendLies
import Derived.Laws.Rows
import Derived.Laws.IdiomCopy
import Derived.Deep.Slices
import Derived.Lib.QuietBelow
import Derived.StillTailTactics
import Derived.BigQuiet
import Derived.IntWalk
import Derived.OwnWalk
import Derived.Deep.RegionLaw
import Derived.Deep.QuietTactic
import Derived.Deep.LoopGhost
import Derived.Deep.DeepCutAuto
import Derived.OrdersHeld
import Derived.Deep.MidRow
import Derived.Laws.Tables
import Derived.Laws.CopyOwn
import Derived.Laws.CopyRow
import Derived.Deep.RegionHeld
import Derived.Lib.MinMax
import Derived.ProofKit
import Derived.OpenShut
import Derived.Carry
import Derived.ChangeSlices
import Derived.JoinedOf
import Derived.Test.YtgododpkbiaacaaGreatShapeWaysQ4
namespace Go.Proofs.YtgododpkbiaacaaGreat
open Go.RowKit

def hselfr3_0 : Oper := { dst := some 15, op := Go.Op.move (Go.Operand.tmp 0), type := 3, pos := "het.go:59", after := #[], guard := none }
def hselfr3_1 : Oper := { dst := some 16, op := Go.Op.call { callee := Go.Callee.value (Go.Operand.func 41), args := #[Go.Operand.tmp 15], argTypes := #[3] }, type := 25, pos := "het.go:59", after := #[{ on := 0, ground := Go.Ground.data }], guard := none }
def hselfr3_2 : Oper := { dst := some 17, op := Go.Op.move (Go.Operand.tmp 0), type := 3, pos := "het.go:59", after := #[], guard := none }
def hselfr3_3 : Oper := { dst := some 18, op := Go.Op.load 25 (Go.Operand.tmp 4), type := 25, pos := "het.go:59", after := #[], guard := none }
def hselfr3_4 : Oper := { dst := some 19, op := Go.Op.load 25 (Go.Operand.tmp 5), type := 25, pos := "het.go:59", after := #[], guard := none }
def hselfr3_5 : Oper := { dst := some 20, op := Go.Op.call { callee := Go.Callee.value (Go.Operand.func 42), args := #[Go.Operand.tmp 17, Go.Operand.tmp 18, Go.Operand.tmp 19], argTypes := #[3, 25, 25] }, type := 25, pos := "het.go:59", after := #[{ on := 2, ground := Go.Ground.data }, { on := 3, ground := Go.Ground.data }, { on := 4, ground := Go.Ground.data }, { on := 1, ground := Go.Ground.chain }], guard := none }
def hselfr3_6 : Oper := { dst := some 21, op := Go.Op.buildSlice 23 2 #[(0, Go.Operand.tmp 16), (1, Go.Operand.tmp 20)], type := 23, pos := "het.go:59", after := #[{ on := 1, ground := Go.Ground.data }, { on := 5, ground := Go.Ground.data }], guard := none }
def hselfr3_7 : Oper := { dst := some 22, op := Go.Op.build 25 #[(0, Go.Operand.const (Go.Value.int Go.IntKind.i64 21)), (4, Go.Operand.tmp 21)], type := 25, pos := "het.go:59", after := #[{ on := 6, ground := Go.Ground.data }], guard := none }
def hselfr3_8 : Oper := { dst := some 7, op := Go.Op.alloc 25, type := 0, pos := "het.go:59", after := #[], guard := none }
def hselfr3_9 : Oper := { dst := none, op := Go.Op.store 25 (Go.Operand.tmp 7) (Go.Operand.tmp 22), type := 0, pos := "het.go:59", after := #[{ on := 8, ground := Go.Ground.data }, { on := 7, ground := Go.Ground.data }, { on := 5, ground := Go.Ground.chain }, { on := 0, ground := Go.Ground.phase }, { on := 1, ground := Go.Ground.phase }, { on := 2, ground := Go.Ground.phase }, { on := 3, ground := Go.Ground.phase }, { on := 4, ground := Go.Ground.phase }, { on := 5, ground := Go.Ground.phase }, { on := 6, ground := Go.Ground.phase }, { on := 7, ground := Go.Ground.phase }, { on := 8, ground := Go.Ground.phase }], guard := none }
set_option maxRecDepth 20000 in
set_option maxHeartbeats 4000000 in
theorem hself_any (i : Int) (a : Tm) (x : Tm) (P : Nat → Prop) (w : World) (sa : Value) (sx : Value) (hri : I64 i) (hfa : a.fine) (hla : LiesQ w P a.kids sa) (hfx : x.fine) (hlx : LiesQ w P x.kids sx) : Calls Tryz.prog 20 #[.int .i64 i, tv a sa, tv x sx] w (GivesHP P (heSelf i a x) w) := by
  have Ri := Lib.hid hri
  clear hri
  have Ga := Lib.hid hfa
  clear hfa
  obtain ⟨aa, ca, Sa, rfl, -⟩ := hla.out
  have Gx := Lib.hid hfx
  clear hfx
  obtain ⟨ax, cx, Sx, rfl, -⟩ := hlx.out
  obtain ⟨du, hu1, hu2⟩ := under_term
  obtain ⟨dh, dh1, dh2⟩ := under_of 34 (by kernel_rfl)
  unfold tv
  go_enter Tryz.func20, Tryz.ntmps20
  go_upto_region 1 with fail
  refine at_code (fun V0 hV0 => ?_)
  obtain ⟨k4, x1, x2, x3, z5⟩ := alloc3 hV0
  have Kk6 := Lib.hid k4
  clear k4
  have Hx1 := Lib.hid x1
  have Hx2 := Lib.hid x2
  have Hx3 := Lib.hid x3
  have Z0 := Lib.hid z5
  clear z5 x1 x2 x3 hV0
  have HLa : Hid (LiesQ V0 (Par w V0.heap.size [] P) a.kids _) := (par_in _ _ hla).later Kk6.out
  clear hla
  have HLx : Hid (LiesQ V0 (Par w V0.heap.size [] P) x.kids _) := (par_in _ _ hlx).later Kk6.out
  clear hlx
  have kvV0 : Sees V0 (w.heap.size + 2) V0 := sees_kept _ (kept_refl _)
  go_wp2_with (refine stop_load 25 (.tmp 4) rfl ?_)
  intro _
  refine wpList_load_part (w.heap.size) 0 25 (.tmp 4) #[.int .i64 a.k, .int .i64 a.i, .int .i64 a.j, .int .i64 a.n, (.slice aa a.kids.length ca)] du Hx1.out (by rfl) rfl (by rfl) (by rfl) hu1 (by cases du <;> first | rfl | exact hu2) size_term ?_
  go_wp2_with (refine stop_load 25 (.tmp 5) rfl ?_)
  intro _
  refine wpList_load_part (w.heap.size + 1) 0 25 (.tmp 5) #[.int .i64 x.k, .int .i64 x.i, .int .i64 x.j, .int .i64 x.n, (.slice ax x.kids.length cx)] du Hx2.out (by rfl) rfl (by rfl) (by rfl) hu1 (by cases du <;> first | rfl | exact hu2) size_term ?_
  go_wp2_with fail
  refine at_world (fun W8 hW8 => ?_)
  clear kvV0
  obtain ⟨k10, x9, z11⟩ := alloc1 hW8
  have Kk12 := Lib.hid k10
  clear k10
  have Hx9 := Lib.hid x9
  have Hz11 := Lib.hid z11
  clear x9 z11 hW8
  have HR13 : Hid (LiesQ W8 (Par w V0.heap.size [] P) [a, x] (.slice (some ⟨V0.heap.size, 0, none⟩) 2 2)) := q_row [(a, (.slice aa a.kids.length ca)), (x, (.slice ax x.kids.length cx))] _ rfl Hx9.out (par_new (Nat.le_refl _) (xlt_nil _) (Nat.le_refl _)) (fun p hp => by
    simp only [List.mem_cons, List.not_mem_nil, or_false] at hp
    rcases hp with rfl | rfl
    · exact ⟨Ga.out, (HLa.out.later Kk12.out)⟩
    · exact ⟨Gx.out, (HLx.out.later Kk12.out)⟩) (Nat.le_of_ble_eq_true rfl)
  refine (hright_any i [a, x] _ _ HR13.out.lies).mono ?_
  obtain ⟨rb17, hb16⟩ : ∃ qb, heR2 i [a, x] = qb := ⟨_, rfl⟩
  rw [hb16]
  have Hhb16 := Lib.hid hb16
  clear hb16
  rintro e w14 ⟨rfl, k15⟩
  have Kk18 := Lib.hid k15
  clear k15
  cases rb17 with
  | false =>
    have kvV0 : Sees V0 (w.heap.size + 2) w14 := sees_kept _ (kept_trans Kk12.out Kk18.out)
    go_wp2_with (refine stop_store 34 (.tmp 6) (.tmp 14) rfl ?_)
    intro _
    refine wpList_store_part_n (by rfl) 34 (.tmp 6) (.tmp 14) rfl (w.heap.size + 2) 0 #[.int .i64 0, .int .i64 0, .int .i64 0, .int .i64 0, .int .i64 0, .slice none 0 0, .int .i64 0, .int .i64 0, .int .i64 0, .int .i64 0, .slice none 0 0, .int .i64 0, .int .i64 0, .int .i64 0, .int .i64 0, .slice none 0 0, .int .i64 0, .int .i64 0, .int .i64 0, .int .i64 0, .slice none 0 0, .int .i64 0, .int .i64 0, .int .i64 0, .int .i64 0, .slice none 0 0] (by rfl) (by rfl) 34 (by kernel_rfl) (row_ok rfl) ?_
    intro W19 hW19
    clear kvV0
    subst hW19
    refine ⟨_, #[.int .i64 0, .int .i64 0, .int .i64 0, .int .i64 0, .int .i64 0, .slice none 0 0, .int .i64 0, .int .i64 0, .int .i64 0, .int .i64 0, .slice none 0 0, .int .i64 0, .int .i64 0, .int .i64 0, .int .i64 0, .slice none 0 0, .int .i64 0, .int .i64 0, .int .i64 0, .int .i64 0, .slice none 0 0, .int .i64 0, .int .i64 0, .int .i64 0, .int .i64 0, .slice none 0 0], (blk_at Hx3.out (kept_trans Kk12.out Kk18.out)), rfl, Nat.le_of_ble_eq_true rfl, ?_⟩
    intro W20 hW20
    go_wp2_with fail
    refine bodyPost_ret (results_cell_row rfl _ _ (w.heap.size + 2) 34 _ _ dh rfl (blk_same (blk_at Hx3.out (kept_trans Kk12.out Kk18.out)) hW20) dh1 (by cases dh <;> first | rfl | exact dh2) (by kernel_rfl)) rfl ?_
    rw [show heSelf i a x = (⟨0, (.mk 0 0 0 0 []), (.mk 0 0 0 0 []), (.mk 0 0 0 0 []), (.mk 0 0 0 0 []), (.mk 0 0 0 0 [])⟩ : He) from by unfold heSelf; rw [Hhb16.out]; (try rfl)]
    exact ⟨_, _, _, _, _, rfl, ⟨par_end (par_row' (liesQ_nil w14 (Par w V0.heap.size [] P)) hW20 (by omega) (by have := Z0.out; omega)) (by have := Z0.out; omega), par_end (par_row' (liesQ_nil w14 (Par w V0.heap.size [] P)) hW20 (by omega) (by have := Z0.out; omega)) (by have := Z0.out; omega), par_end (par_row' (liesQ_nil w14 (Par w V0.heap.size [] P)) hW20 (by omega) (by have := Z0.out; omega)) (by have := Z0.out; omega), par_end (par_row' (liesQ_nil w14 (Par w V0.heap.size [] P)) hW20 (by omega) (by have := Z0.out; omega)) (by have := Z0.out; omega), par_end (par_row' (liesQ_nil w14 (Par w V0.heap.size [] P)) hW20 (by omega) (by have := Z0.out; omega)) (by have := Z0.out; omega)⟩, kept_set (kept_trans Kk6.out (kept_trans Kk12.out Kk18.out)) hW20 (by omega)⟩
  | true =>
    have ew21 : IntKind.i64.wrap (i + 1) = i + 1 := IntWalk.i64_in _ (by have := levN_true (heR2_lev Hhb16.out); omega)
    have kvV0 : Sees V0 (w.heap.size + 2) w14 := sees_kept _ (kept_trans Kk12.out Kk18.out)
    go_wp2_with fail
    clear kvV0
    obtain ⟨W22, h23⟩ : ∃ x, World.drew w14 = x := ⟨_, rfl⟩
    have k24 : Kept w14 W22 := by rw [← h23]; exact kept_drew (kept_refl _)
    have Kk25 := Lib.hid k24
    clear k24
    refine wp_region_held_drew (S := Sees W22 (w.heap.size + 2)) (by kernel_rfl) ?_ (fun hHeld => ?_)
    · (try dsimp only)
      rw [h23]
      exact sees_kept _ (kept_refl _)
    rw [h23] at hHeld ⊢
    clear h23
    refine take_at 0 15 hselfr3_0 (v := ?_) (Or.inl ⟨by rfl, ?_⟩) ?_
    rotate_left 1
    · ((intro w hSw; (try dsimp only at hSw); unfold hselfr3_0; go_simp) <;> with_reducible rfl)
    (try simp only [Act.put, List.setIfInBounds_toArray, List.set_cons_zero, List.set_cons_succ])
    refine take_at 2 17 hselfr3_2 (v := ?_) (Or.inl ⟨by rfl, ?_⟩) ?_
    rotate_left 1
    · ((intro w hSw; (try dsimp only at hSw); unfold hselfr3_2; go_simp) <;> with_reducible rfl)
    (try simp only [Act.put, List.setIfInBounds_toArray, List.set_cons_zero, List.set_cons_succ])
    refine take_at 3 18 hselfr3_3 (yields_part (w.heap.size) 0 25 (.tmp 4) #[.int .i64 a.k, .int .i64 a.i, .int .i64 a.j, .int .i64 a.n, (.slice aa a.kids.length ca)] du (fun _ h => sees_blk Hx1.out (by have := Z0.out; omega) (sees_of (kept_trans Kk12.out (kept_trans Kk18.out Kk25.out)) h)) (by rfl) rfl (by rfl) (by rfl) hu1 (by cases du <;> first | rfl | exact hu2) size_term) ?_
    (try simp only [Act.put, List.setIfInBounds_toArray, List.set_cons_zero, List.set_cons_succ])
    refine take_at 4 19 hselfr3_4 (yields_part (w.heap.size + 1) 0 25 (.tmp 5) #[.int .i64 x.k, .int .i64 x.i, .int .i64 x.j, .int .i64 x.n, (.slice ax x.kids.length cx)] du (fun _ h => sees_blk Hx2.out (by have := Z0.out; omega) (sees_of (kept_trans Kk12.out (kept_trans Kk18.out Kk25.out)) h)) (by rfl) rfl (by rfl) (by rfl) hu1 (by cases du <;> first | rfl | exact hu2) size_term) ?_
    (try simp only [Act.put, List.setIfInBounds_toArray, List.set_cons_zero, List.set_cons_succ])
    refine wpAnyH_ready (rs := [1, 8]) (by kernel_rfl) (by simp) ?_
    refine AllReadyH.cons (o := hselfr3_1) rfl (fun K hK => ?_) ?_
    · unfold hselfr3_1
      go_simp
      refine (hpoints_any i (Par w V0.heap.size [] P) _ Ri.out).mono ?_
      obtain ⟨U33, hU33⟩ : ∃ qu, pointsT i = qu := ⟨_, rfl⟩
      rw [hU33]
      have HU33 := Lib.hid hU33
      clear hU33
      rintro e w26 ⟨s28, rfl, hl29, k27⟩
      obtain ⟨a30, c31, S32, rfl, -⟩ := hl29.out
      have Kk34 := Lib.hid k27
      clear k27
      have Hhl29 : Hid (LiesQ w26 (Par w V0.heap.size [] P) U33.kids _) := par_give hl29 (Below.size (kept_trans Kk12.out (kept_trans Kk18.out Kk25.out))) (xlt_nil _)
      clear hl29
      clear hHeld
      refine hK.out _ _ ?_ (fun hHeld => ?_)
      · (try dsimp only)
        exact sees_kept _ Kk34.out
      clear hK K
      (try simp only [Act.put, List.setIfInBounds_toArray, List.set_cons_zero, List.set_cons_succ])
      refine wpAnyH_ready (rs := [5, 8]) (by kernel_rfl) (by simp) ?_
      refine AllReadyH.cons (o := hselfr3_5) rfl (fun K hK => ?_) ?_
      · unfold hselfr3_5
        go_simp
        refine (hpoint_any i a x (Par w V0.heap.size [] P) _ (.slice aa a.kids.length ca) (.slice ax x.kids.length cx) Ri.out Ga.out (HLa.out.later (kept_trans Kk12.out (kept_trans Kk18.out (kept_trans Kk25.out Kk34.out)))) Gx.out (HLx.out.later (kept_trans Kk12.out (kept_trans Kk18.out (kept_trans Kk25.out Kk34.out)))) (heR2_pl Hhb16.out _ (by simp)) (heR2_pl Hhb16.out _ (by simp))).mono ?_
        obtain ⟨U42, hU42⟩ : ∃ qu, pointT i a x = qu := ⟨_, rfl⟩
        rw [hU42]
        have HU42 := Lib.hid hU42
        clear hU42
        rintro e w35 ⟨s37, rfl, hl38, k36⟩
        obtain ⟨a39, c40, S41, rfl, -⟩ := hl38.out
        have Kk43 := Lib.hid k36
        clear k36
        have Hhl38 : Hid (LiesQ w35 (Par w V0.heap.size [] P) U42.kids _) := par_give hl38 (Below.size (kept_trans Kk12.out (kept_trans Kk18.out (kept_trans Kk25.out Kk34.out)))) (xlt_nil _)
        clear hl38
        clear hHeld
        refine hK.out _ _ ?_ (fun hHeld => ?_)
        · (try dsimp only)
          exact sees_kept _ (kept_trans Kk34.out Kk43.out)
        clear hK K
        (try simp only [Act.put, List.setIfInBounds_toArray, List.set_cons_zero, List.set_cons_succ])
        refine wpAnyH_ready (rs := [6, 8]) (by kernel_rfl) (by simp) ?_
        refine AllReadyH.cons (o := hselfr3_6) rfl (fun K hK => ?_) ?_
        · unfold hselfr3_6
          go_simp
          refine at_K (fun W45 hW45 => ?_)
          obtain ⟨k47, x46, z48⟩ := alloc1 hW45
          have Kk49 := Lib.hid k47
          clear k47
          have Hx46 := Lib.hid x46
          have Hz48 := Lib.hid z48
          clear x46 z48 hW45
          have HR50 : Hid (LiesQ W45 (Par w V0.heap.size [] P) [U33, U42] (.slice (some ⟨w35.heap.size, 0, none⟩) 2 2)) := q_row [(U33, (.slice a30 U33.kids.length c31)), (U42, (.slice a39 U42.kids.length c40))] _ rfl Hx46.out (par_new (Below.size (kept_trans Kk12.out (kept_trans Kk18.out (kept_trans Kk25.out (kept_trans Kk34.out Kk43.out))))) (xlt_nil _) (Nat.le_refl _)) (fun p hp => by
            simp only [List.mem_cons, List.not_mem_nil, or_false] at hp
            rcases hp with rfl | rfl
            · exact ⟨(by rw [← HU33.out]; exact (right_fine (plain_right (points_plain (heR2_lev Hhb16.out))))), (Hhl29.out.later (kept_trans Kk43.out Kk49.out))⟩
            · exact ⟨(by rw [← HU42.out]; exact (right_fine (plain_right (point_plain (heR2_lev Hhb16.out) (heR2_pl Hhb16.out _ (by simp)) (heR2_pl Hhb16.out _ (by simp)))))), (Hhl38.out.later Kk49.out)⟩) (Nat.le_of_ble_eq_true rfl)
          clear hHeld
          refine hK.out _ _ ?_ (fun hHeld => ?_)
          · (try dsimp only)
            exact sees_kept _ (kept_trans Kk34.out (kept_trans Kk43.out Kk49.out))
          clear hK K
          (try simp only [Act.put, List.setIfInBounds_toArray, List.set_cons_zero, List.set_cons_succ])
          refine take_at 7 22 hselfr3_7 (v := ?_) (Or.inl ⟨by rfl, ?_⟩) ?_
          rotate_left 1
          · ((intro w hSw; (try dsimp only at hSw); unfold hselfr3_7; go_simp) <;> with_reducible rfl)
          (try simp only [Act.put, List.setIfInBounds_toArray, List.set_cons_zero, List.set_cons_succ])
          refine wpAnyH_ready (rs := [8]) (by kernel_rfl) (by simp) ?_
          refine AllReadyH.cons (o := hselfr3_8) rfl (fun K hK => ?_) ?_
          · unfold hselfr3_8
            go_simp
            refine at_K (fun W51 hW51 => ?_)
            obtain ⟨k53, x52, z54⟩ := alloc1 hW51
            have Kk55 := Lib.hid k53
            clear k53
            have Hx52 := Lib.hid x52
            have Hz54 := Lib.hid z54
            clear x52 z54 hW51
            have HG56 : Hid (V0.heap.size ≤ W45.heap.size) := (Below.size (kept_trans Kk12.out (kept_trans Kk18.out (kept_trans Kk25.out (kept_trans Kk34.out (kept_trans Kk43.out Kk49.out))))))
            have XL57 := Lib.hid (xlt_more (xlt_nil _) Kk55.out (by have := Hz54.out; omega))
            have HL58 : Hid (LiesQ W51 (Par w V0.heap.size (W45.heap.size :: []) P) a.kids _) := (par_more (HLa.out.later (kept_trans Kk12.out (kept_trans Kk18.out (kept_trans Kk25.out (kept_trans Kk34.out (kept_trans Kk43.out Kk49.out))))))).later Kk55.out
            have HL59 : Hid (LiesQ W51 (Par w V0.heap.size (W45.heap.size :: []) P) x.kids _) := (par_more (HLx.out.later (kept_trans Kk12.out (kept_trans Kk18.out (kept_trans Kk25.out (kept_trans Kk34.out (kept_trans Kk43.out Kk49.out))))))).later Kk55.out
            have HL60 : Hid (LiesQ W51 (Par w V0.heap.size (W45.heap.size :: []) P) [a, x] _) := (par_more (HR13.out.later (kept_trans Kk18.out (kept_trans Kk25.out (kept_trans Kk34.out (kept_trans Kk43.out Kk49.out)))))).later Kk55.out
            have HL61 : Hid (LiesQ W51 (Par w V0.heap.size (W45.heap.size :: []) P) U33.kids _) := (par_more (Hhl29.out.later (kept_trans Kk43.out Kk49.out))).later Kk55.out
            have HL62 : Hid (LiesQ W51 (Par w V0.heap.size (W45.heap.size :: []) P) U42.kids _) := (par_more (Hhl38.out.later Kk49.out)).later Kk55.out
            have HL63 : Hid (LiesQ W51 (Par w V0.heap.size (W45.heap.size :: []) P) [U33, U42] _) := (par_more HR50.out).later Kk55.out
            clear hHeld
            refine hK.out _ _ ?_ (fun hHeld => ?_)
            · (try dsimp only)
              exact sees_kept _ (kept_trans Kk34.out (kept_trans Kk43.out (kept_trans Kk49.out Kk55.out)))
            clear hK K
            (try simp only [Act.put, List.setIfInBounds_toArray, List.set_cons_zero, List.set_cons_succ])
            refine wpAnyH_ready (rs := [9]) (by kernel_rfl) (by simp) ?_
            refine AllReadyH.cons (o := hselfr3_9) rfl (fun K hK => ?_) ?_
            · unfold hselfr3_9
              refine step_store_part rfl 25 (.tmp 7) (.tmp 22) rfl (W45.heap.size) 0 #[.int .i64 21, .int .i64 0, .int .i64 0, .int .i64 0, (.slice (some ⟨w35.heap.size, 0, none⟩) 2 2)] rfl rfl 25 size_term (row_ok rfl) _ #[.int .i64 21, .int .i64 0, .int .i64 0, .int .i64 0, (.slice (some ⟨w35.heap.size, 0, none⟩) 2 2)] Hx52.out rfl (Nat.le_of_ble_eq_true rfl) ?_
              intro W64 hW64
              have KB65 := Lib.hid (kept_set (kept_trans Kk6.out (kept_trans Kk12.out (kept_trans Kk18.out (kept_trans Kk25.out (kept_trans Kk34.out (kept_trans Kk43.out (kept_trans Kk49.out Kk55.out))))))) hW64 (by have := HG56.out; have := Z0.out; omega))
              have KB66 := Lib.hid (kept_set (kept_trans Kk12.out (kept_trans Kk18.out (kept_trans Kk25.out (kept_trans Kk34.out (kept_trans Kk43.out (kept_trans Kk49.out Kk55.out)))))) hW64 HG56.out)
              have KB67 := Lib.hid (kept_set (kept_trans Kk34.out (kept_trans Kk43.out (kept_trans Kk49.out Kk55.out))) hW64 (Below.size (kept_trans Kk34.out (kept_trans Kk43.out Kk49.out))))
              have HL68 : Hid (LiesQ W64 (Par w V0.heap.size (W45.heap.size :: []) P) a.kids _) := par_set HL58.out hW64 (List.mem_cons_self ..) (by have := HG56.out; have := Z0.out; omega)
              have HL69 : Hid (LiesQ W64 (Par w V0.heap.size (W45.heap.size :: []) P) x.kids _) := par_set HL59.out hW64 (List.mem_cons_self ..) (by have := HG56.out; have := Z0.out; omega)
              have HL70 : Hid (LiesQ W64 (Par w V0.heap.size (W45.heap.size :: []) P) [a, x] _) := par_set HL60.out hW64 (List.mem_cons_self ..) (by have := HG56.out; have := Z0.out; omega)
              have HL71 : Hid (LiesQ W64 (Par w V0.heap.size (W45.heap.size :: []) P) U33.kids _) := par_set HL61.out hW64 (List.mem_cons_self ..) (by have := HG56.out; have := Z0.out; omega)
              have HL72 : Hid (LiesQ W64 (Par w V0.heap.size (W45.heap.size :: []) P) U42.kids _) := par_set HL62.out hW64 (List.mem_cons_self ..) (by have := HG56.out; have := Z0.out; omega)
              have HL73 : Hid (LiesQ W64 (Par w V0.heap.size (W45.heap.size :: []) P) [U33, U42] _) := par_set HL63.out hW64 (List.mem_cons_self ..) (by have := HG56.out; have := Z0.out; omega)
              have XL74 := Lib.hid (xlt_set XL57.out hW64)
              have HX75 := Lib.hid (blk_same Hx52.out hW64)
              clear hW64
              clear hHeld
              refine hK.out _ _ ?_ (fun hHeld => ?_)
              · (try dsimp only)
                exact sees_kept _ KB67.out
              clear hK K
              (try simp only [Act.put])
              refine wpAnyH_done (by kernel_rfl) ?_ _
              clear hHeld
              have kvV0 : Sees V0 (w.heap.size + 2) W64 := sees_kept _ KB66.out
              have kvW64 : Sees W64 (w.heap.size + 2) W64 := sees_kept _ (kept_refl _)
              go_wp2_with (refine stop_load 25 (.tmp 4) rfl ?_)
              intro _
              refine wpList_load_part (w.heap.size) 0 25 (.tmp 4) #[.int .i64 a.k, .int .i64 a.i, .int .i64 a.j, .int .i64 a.n, (.slice aa a.kids.length ca)] du (blk_at Hx1.out KB66.out) (by rfl) rfl (by rfl) (by rfl) hu1 (by cases du <;> first | rfl | exact hu2) size_term ?_
              go_wp2_with (refine stop_load 25 (.tmp 4) rfl ?_)
              intro _
              refine wpList_load_part (w.heap.size) 0 25 (.tmp 4) #[.int .i64 a.k, .int .i64 a.i, .int .i64 a.j, .int .i64 a.n, (.slice aa a.kids.length ca)] du (blk_at Hx1.out KB66.out) (by rfl) rfl (by rfl) (by rfl) hu1 (by cases du <;> first | rfl | exact hu2) size_term ?_
              go_wp2_with (refine stop_load 25 (.tmp 5) rfl ?_)
              intro _
              refine wpList_load_part (w.heap.size + 1) 0 25 (.tmp 5) #[.int .i64 x.k, .int .i64 x.i, .int .i64 x.j, .int .i64 x.n, (.slice ax x.kids.length cx)] du (blk_at Hx2.out KB66.out) (by rfl) rfl (by rfl) (by rfl) hu1 (by cases du <;> first | rfl | exact hu2) size_term ?_
              go_wp2_with (refine stop_load 25 (.tmp 5) rfl ?_)
              intro _
              refine wpList_load_part (w.heap.size + 1) 0 25 (.tmp 5) #[.int .i64 x.k, .int .i64 x.i, .int .i64 x.j, .int .i64 x.n, (.slice ax x.kids.length cx)] du (blk_at Hx2.out KB66.out) (by rfl) rfl (by rfl) (by rfl) hu1 (by cases du <;> first | rfl | exact hu2) size_term ?_
              go_wp2_with (refine stop_load 25 (.tmp 7) rfl ?_)
              intro _
              refine wpList_load_part (W45.heap.size) 0 25 (.tmp 7) #[.int .i64 21, .int .i64 0, .int .i64 0, .int .i64 0, (.slice (some ⟨w35.heap.size, 0, none⟩) 2 2)] du HX75.out (by rfl) rfl (by rfl) (by rfl) hu1 (by cases du <;> first | rfl | exact hu2) size_term ?_
              go_wp2_with fail
              clear kvV0
              clear kvW64
              refine (hfresh_any (⟨i, a, a, x, x, (.mk 21 0 0 0 [U33, U42])⟩ : He) (Par w V0.heap.size (W45.heap.size :: []) P) _ (.slice aa a.kids.length ca) (.slice aa a.kids.length ca) (.slice ax x.kids.length cx) (.slice ax x.kids.length cx) (.slice (some ⟨w35.heap.size, 0, none⟩) 2 2) ⟨Ri.out, Ga.out, Ga.out, Gx.out, Gx.out, (mk_fine (show I64 21 from by unfold I64; decide) (show I64 0 from by unfold I64; decide) (show I64 0 from by unfold I64; decide) (show I64 0 from by unfold I64; decide))⟩ ⟨HL68.out, HL68.out, HL69.out, HL69.out, HL73.out⟩ (heR2_pl Hhb16.out _ (by simp)) (heR2_pl Hhb16.out _ (by simp)) (heR2_pl Hhb16.out _ (by simp)) (heR2_pl Hhb16.out _ (by simp))).mono ?_
              obtain ⟨U78, hU78⟩ : ∃ qu, (⟨i, a, a, x, x, (.mk 21 0 0 0 [U33, U42])⟩ : He) = qu := ⟨_, rfl⟩
              rw [hU78]
              have HU78 := Lib.hid hU78
              clear hU78
              rintro e w76 ⟨s79, s80, s81, s82, s83, rfl, ⟨hl84, hl85, hl86, hl87, hl88⟩, k77⟩
              obtain ⟨a89, c90, S91, rfl, -⟩ := hl84.out
              obtain ⟨a92, c93, S94, rfl, -⟩ := hl85.out
              obtain ⟨a95, c96, S97, rfl, -⟩ := hl86.out
              obtain ⟨a98, c99, S100, rfl, -⟩ := hl87.out
              obtain ⟨a101, c102, S103, rfl, -⟩ := hl88.out
              have Kk104 := Lib.hid k77
              clear k77
              have Hhl84 : Hid (LiesQ w76 (Par w V0.heap.size (W45.heap.size :: []) P) U78.a.kids _) := par_give hl84 (Below.size KB66.out) XL74.out
              have Hhl85 : Hid (LiesQ w76 (Par w V0.heap.size (W45.heap.size :: []) P) U78.b.kids _) := par_give hl85 (Below.size KB66.out) XL74.out
              have Hhl86 : Hid (LiesQ w76 (Par w V0.heap.size (W45.heap.size :: []) P) U78.x.kids _) := par_give hl86 (Below.size KB66.out) XL74.out
              have Hhl87 : Hid (LiesQ w76 (Par w V0.heap.size (W45.heap.size :: []) P) U78.y.kids _) := par_give hl87 (Below.size KB66.out) XL74.out
              have Hhl88 : Hid (LiesQ w76 (Par w V0.heap.size (W45.heap.size :: []) P) U78.h.kids _) := par_give hl88 (Below.size KB66.out) XL74.out
              clear hl84 hl85 hl86 hl87 hl88
              have kvV0 : Sees V0 (w.heap.size + 2) w76 := sees_kept _ (kept_trans KB66.out Kk104.out)
              have kvW64 : Sees W64 (w.heap.size + 2) w76 := sees_kept _ Kk104.out
              go_wp2_with (refine stop_store 34 (.tmp 6) (.tmp 30) rfl ?_)
              intro _
              refine wpList_store_part_n (by rfl) 34 (.tmp 6) (.tmp 30) rfl (w.heap.size + 2) 0 #[.int .i64 U78.i, .int .i64 U78.a.k, .int .i64 U78.a.i, .int .i64 U78.a.j, .int .i64 U78.a.n, (.slice a89 U78.a.kids.length c90), .int .i64 U78.b.k, .int .i64 U78.b.i, .int .i64 U78.b.j, .int .i64 U78.b.n, (.slice a92 U78.b.kids.length c93), .int .i64 U78.x.k, .int .i64 U78.x.i, .int .i64 U78.x.j, .int .i64 U78.x.n, (.slice a95 U78.x.kids.length c96), .int .i64 U78.y.k, .int .i64 U78.y.i, .int .i64 U78.y.j, .int .i64 U78.y.n, (.slice a98 U78.y.kids.length c99), .int .i64 U78.h.k, .int .i64 U78.h.i, .int .i64 U78.h.j, .int .i64 U78.h.n, (.slice a101 U78.h.kids.length c102)] (by rfl) (by rfl) 34 (by kernel_rfl) (row_ok rfl) ?_
              intro W105 hW105
              clear kvV0
              clear kvW64
              subst hW105
              refine ⟨_, #[.int .i64 U78.i, .int .i64 U78.a.k, .int .i64 U78.a.i, .int .i64 U78.a.j, .int .i64 U78.a.n, (.slice a89 U78.a.kids.length c90), .int .i64 U78.b.k, .int .i64 U78.b.i, .int .i64 U78.b.j, .int .i64 U78.b.n, (.slice a92 U78.b.kids.length c93), .int .i64 U78.x.k, .int .i64 U78.x.i, .int .i64 U78.x.j, .int .i64 U78.x.n, (.slice a95 U78.x.kids.length c96), .int .i64 U78.y.k, .int .i64 U78.y.i, .int .i64 U78.y.j, .int .i64 U78.y.n, (.slice a98 U78.y.kids.length c99), .int .i64 U78.h.k, .int .i64 U78.h.i, .int .i64 U78.h.j, .int .i64 U78.h.n, (.slice a101 U78.h.kids.length c102)], (blk_at Hx3.out (kept_trans KB66.out Kk104.out)), rfl, Nat.le_of_ble_eq_true rfl, ?_⟩
              intro W106 hW106
              go_wp2_with fail
              refine bodyPost_ret (results_cell_row rfl _ _ (w.heap.size + 2) 34 _ _ dh rfl (blk_same (blk_at Hx3.out (kept_trans KB66.out Kk104.out)) hW106) dh1 (by cases dh <;> first | rfl | exact dh2) (by kernel_rfl)) rfl ?_
              rw [show heSelf i a x = U78 from by unfold heSelf; rw [Hhb16.out]; rw [← HU78.out]; rw [← HU42.out]; rw [← HU33.out]; (try rfl)]
              exact ⟨_, _, _, _, _, rfl, ⟨par_end (par_row' Hhl84.out hW106 (by omega) (by have := Z0.out; omega)) (by have := Z0.out; omega), par_end (par_row' Hhl85.out hW106 (by omega) (by have := Z0.out; omega)) (by have := Z0.out; omega), par_end (par_row' Hhl86.out hW106 (by omega) (by have := Z0.out; omega)) (by have := Z0.out; omega), par_end (par_row' Hhl87.out hW106 (by omega) (by have := Z0.out; omega)) (by have := Z0.out; omega), par_end (par_row' Hhl88.out hW106 (by omega) (by have := Z0.out; omega)) (by have := Z0.out; omega)⟩, kept_set (kept_trans KB65.out Kk104.out) hW106 (by omega)⟩
            exact AllReadyH.nil
          exact AllReadyH.nil
        refine AllReadyH.cons (o := hselfr3_8) rfl (fun K hK => ?_) ?_
        · unfold hselfr3_8
          go_simp
          refine at_K (fun W107 hW107 => ?_)
          obtain ⟨k109, x108, z110⟩ := alloc1 hW107
          have Kk111 := Lib.hid k109
          clear k109
          have Hx108 := Lib.hid x108
          have Hz110 := Lib.hid z110
          clear x108 z110 hW107
          have HG112 : Hid (V0.heap.size ≤ w35.heap.size) := (Below.size (kept_trans Kk12.out (kept_trans Kk18.out (kept_trans Kk25.out (kept_trans Kk34.out Kk43.out)))))
          have XL113 := Lib.hid (xlt_more (xlt_nil _) Kk111.out (by have := Hz110.out; omega))
          have HL114 : Hid (LiesQ W107 (Par w V0.heap.size (w35.heap.size :: []) P) a.kids _) := (par_more (HLa.out.later (kept_trans Kk12.out (kept_trans Kk18.out (kept_trans Kk25.out (kept_trans Kk34.out Kk43.out)))))).later Kk111.out
          have HL115 : Hid (LiesQ W107 (Par w V0.heap.size (w35.heap.size :: []) P) x.kids _) := (par_more (HLx.out.later (kept_trans Kk12.out (kept_trans Kk18.out (kept_trans Kk25.out (kept_trans Kk34.out Kk43.out)))))).later Kk111.out
          have HL116 : Hid (LiesQ W107 (Par w V0.heap.size (w35.heap.size :: []) P) [a, x] _) := (par_more (HR13.out.later (kept_trans Kk18.out (kept_trans Kk25.out (kept_trans Kk34.out Kk43.out))))).later Kk111.out
          have HL117 : Hid (LiesQ W107 (Par w V0.heap.size (w35.heap.size :: []) P) U33.kids _) := (par_more (Hhl29.out.later Kk43.out)).later Kk111.out
          have HL118 : Hid (LiesQ W107 (Par w V0.heap.size (w35.heap.size :: []) P) U42.kids _) := (par_more Hhl38.out).later Kk111.out
          clear hHeld
          refine hK.out _ _ ?_ (fun hHeld => ?_)
          · (try dsimp only)
            exact sees_kept _ (kept_trans Kk34.out (kept_trans Kk43.out Kk111.out))
          clear hK K
          (try simp only [Act.put, List.setIfInBounds_toArray, List.set_cons_zero, List.set_cons_succ])
          refine wpAnyH_ready (rs := [6]) (by kernel_rfl) (by simp) ?_
          refine AllReadyH.cons (o := hselfr3_6) rfl (fun K hK => ?_) ?_
          · unfold hselfr3_6
            go_simp
            refine at_K (fun W120 hW120 => ?_)
            obtain ⟨k122, x121, z123⟩ := alloc1 hW120
            have Kk124 := Lib.hid k122
            clear k122
            have Hx121 := Lib.hid x121
            have Hz123 := Lib.hid z123
            clear x121 z123 hW120
            have HR125 : Hid (LiesQ W120 (Par w V0.heap.size (w35.heap.size :: []) P) [U33, U42] (.slice (some ⟨W107.heap.size, 0, none⟩) 2 2)) := q_row [(U33, (.slice a30 U33.kids.length c31)), (U42, (.slice a39 U42.kids.length c40))] _ rfl Hx121.out (par_new (Below.size (kept_trans Kk12.out (kept_trans Kk18.out (kept_trans Kk25.out (kept_trans Kk34.out (kept_trans Kk43.out Kk111.out)))))) XL113.out (Nat.le_refl _)) (fun p hp => by
              simp only [List.mem_cons, List.not_mem_nil, or_false] at hp
              rcases hp with rfl | rfl
              · exact ⟨(by rw [← HU33.out]; exact (right_fine (plain_right (points_plain (heR2_lev Hhb16.out))))), (HL117.out.later Kk124.out)⟩
              · exact ⟨(by rw [← HU42.out]; exact (right_fine (plain_right (point_plain (heR2_lev Hhb16.out) (heR2_pl Hhb16.out _ (by simp)) (heR2_pl Hhb16.out _ (by simp)))))), (HL118.out.later Kk124.out)⟩) (Nat.le_of_ble_eq_true rfl)
            clear hHeld
            refine hK.out _ _ ?_ (fun hHeld => ?_)
            · (try dsimp only)
              exact sees_kept _ (kept_trans Kk34.out (kept_trans Kk43.out (kept_trans Kk111.out Kk124.out)))
            clear hK K
            (try simp only [Act.put, List.setIfInBounds_toArray, List.set_cons_zero, List.set_cons_succ])
            refine take_at 7 22 hselfr3_7 (v := ?_) (Or.inl ⟨by rfl, ?_⟩) ?_
            rotate_left 1
            · ((intro w hSw; (try dsimp only at hSw); unfold hselfr3_7; go_simp) <;> with_reducible rfl)
            (try simp only [Act.put, List.setIfInBounds_toArray, List.set_cons_zero, List.set_cons_succ])
            refine wpAnyH_ready (rs := [9]) (by kernel_rfl) (by simp) ?_
            refine AllReadyH.cons (o := hselfr3_9) rfl (fun K hK => ?_) ?_
            · unfold hselfr3_9
              refine step_store_part rfl 25 (.tmp 7) (.tmp 22) rfl (w35.heap.size) 0 #[.int .i64 21, .int .i64 0, .int .i64 0, .int .i64 0, (.slice (some ⟨W107.heap.size, 0, none⟩) 2 2)] rfl rfl 25 size_term (row_ok rfl) _ #[.int .i64 21, .int .i64 0, .int .i64 0, .int .i64 0, (.slice (some ⟨W107.heap.size, 0, none⟩) 2 2)] (blk_at Hx108.out Kk124.out) rfl (Nat.le_of_ble_eq_true rfl) ?_
              intro W126 hW126
              have KB127 := Lib.hid (kept_set (kept_trans Kk6.out (kept_trans Kk12.out (kept_trans Kk18.out (kept_trans Kk25.out (kept_trans Kk34.out (kept_trans Kk43.out (kept_trans Kk111.out Kk124.out))))))) hW126 (by have := HG112.out; have := Z0.out; omega))
              have KB128 := Lib.hid (kept_set (kept_trans Kk12.out (kept_trans Kk18.out (kept_trans Kk25.out (kept_trans Kk34.out (kept_trans Kk43.out (kept_trans Kk111.out Kk124.out)))))) hW126 HG112.out)
              have KB129 := Lib.hid (kept_set (kept_trans Kk34.out (kept_trans Kk43.out (kept_trans Kk111.out Kk124.out))) hW126 (Below.size (kept_trans Kk34.out Kk43.out)))
              have HL130 : Hid (LiesQ W126 (Par w V0.heap.size (w35.heap.size :: []) P) a.kids _) := par_set (HL114.out.later Kk124.out) hW126 (List.mem_cons_self ..) (by have := HG112.out; have := Z0.out; omega)
              have HL131 : Hid (LiesQ W126 (Par w V0.heap.size (w35.heap.size :: []) P) x.kids _) := par_set (HL115.out.later Kk124.out) hW126 (List.mem_cons_self ..) (by have := HG112.out; have := Z0.out; omega)
              have HL132 : Hid (LiesQ W126 (Par w V0.heap.size (w35.heap.size :: []) P) [a, x] _) := par_set (HL116.out.later Kk124.out) hW126 (List.mem_cons_self ..) (by have := HG112.out; have := Z0.out; omega)
              have HL133 : Hid (LiesQ W126 (Par w V0.heap.size (w35.heap.size :: []) P) U33.kids _) := par_set (HL117.out.later Kk124.out) hW126 (List.mem_cons_self ..) (by have := HG112.out; have := Z0.out; omega)
              have HL134 : Hid (LiesQ W126 (Par w V0.heap.size (w35.heap.size :: []) P) U42.kids _) := par_set (HL118.out.later Kk124.out) hW126 (List.mem_cons_self ..) (by have := HG112.out; have := Z0.out; omega)
              have HL135 : Hid (LiesQ W126 (Par w V0.heap.size (w35.heap.size :: []) P) [U33, U42] _) := par_set HR125.out hW126 (List.mem_cons_self ..) (by have := HG112.out; have := Z0.out; omega)
              have XL136 := Lib.hid (xlt_set (xlt_later XL113.out Kk124.out) hW126)
              have HX137 := Lib.hid (blk_same (blk_at Hx108.out Kk124.out) hW126)
              clear hW126
              clear hHeld
              refine hK.out _ _ ?_ (fun hHeld => ?_)
              · (try dsimp only)
                exact sees_kept _ KB129.out
              clear hK K
              (try simp only [Act.put])
              refine wpAnyH_done (by kernel_rfl) ?_ _
              clear hHeld
              have kvV0 : Sees V0 (w.heap.size + 2) W126 := sees_kept _ KB128.out
              have kvW126 : Sees W126 (w.heap.size + 2) W126 := sees_kept _ (kept_refl _)
              go_wp2_with (refine stop_load 25 (.tmp 4) rfl ?_)
              intro _
              refine wpList_load_part (w.heap.size) 0 25 (.tmp 4) #[.int .i64 a.k, .int .i64 a.i, .int .i64 a.j, .int .i64 a.n, (.slice aa a.kids.length ca)] du (blk_at Hx1.out KB128.out) (by rfl) rfl (by rfl) (by rfl) hu1 (by cases du <;> first | rfl | exact hu2) size_term ?_
              go_wp2_with (refine stop_load 25 (.tmp 4) rfl ?_)
              intro _
              refine wpList_load_part (w.heap.size) 0 25 (.tmp 4) #[.int .i64 a.k, .int .i64 a.i, .int .i64 a.j, .int .i64 a.n, (.slice aa a.kids.length ca)] du (blk_at Hx1.out KB128.out) (by rfl) rfl (by rfl) (by rfl) hu1 (by cases du <;> first | rfl | exact hu2) size_term ?_
              go_wp2_with (refine stop_load 25 (.tmp 5) rfl ?_)
              intro _
              refine wpList_load_part (w.heap.size + 1) 0 25 (.tmp 5) #[.int .i64 x.k, .int .i64 x.i, .int .i64 x.j, .int .i64 x.n, (.slice ax x.kids.length cx)] du (blk_at Hx2.out KB128.out) (by rfl) rfl (by rfl) (by rfl) hu1 (by cases du <;> first | rfl | exact hu2) size_term ?_
              go_wp2_with (refine stop_load 25 (.tmp 5) rfl ?_)
              intro _
              refine wpList_load_part (w.heap.size + 1) 0 25 (.tmp 5) #[.int .i64 x.k, .int .i64 x.i, .int .i64 x.j, .int .i64 x.n, (.slice ax x.kids.length cx)] du (blk_at Hx2.out KB128.out) (by rfl) rfl (by rfl) (by rfl) hu1 (by cases du <;> first | rfl | exact hu2) size_term ?_
              go_wp2_with (refine stop_load 25 (.tmp 7) rfl ?_)
              intro _
              refine wpList_load_part (w35.heap.size) 0 25 (.tmp 7) #[.int .i64 21, .int .i64 0, .int .i64 0, .int .i64 0, (.slice (some ⟨W107.heap.size, 0, none⟩) 2 2)] du HX137.out (by rfl) rfl (by rfl) (by rfl) hu1 (by cases du <;> first | rfl | exact hu2) size_term ?_
              go_wp2_with fail
              clear kvV0
              clear kvW126
              refine (hfresh_any (⟨i, a, a, x, x, (.mk 21 0 0 0 [U33, U42])⟩ : He) (Par w V0.heap.size (w35.heap.size :: []) P) _ (.slice aa a.kids.length ca) (.slice aa a.kids.length ca) (.slice ax x.kids.length cx) (.slice ax x.kids.length cx) (.slice (some ⟨W107.heap.size, 0, none⟩) 2 2) ⟨Ri.out, Ga.out, Ga.out, Gx.out, Gx.out, (mk_fine (show I64 21 from by unfold I64; decide) (show I64 0 from by unfold I64; decide) (show I64 0 from by unfold I64; decide) (show I64 0 from by unfold I64; decide))⟩ ⟨HL130.out, HL130.out, HL131.out, HL131.out, HL135.out⟩ (heR2_pl Hhb16.out _ (by simp)) (heR2_pl Hhb16.out _ (by simp)) (heR2_pl Hhb16.out _ (by simp)) (heR2_pl Hhb16.out _ (by simp))).mono ?_
              obtain ⟨U140, hU140⟩ : ∃ qu, (⟨i, a, a, x, x, (.mk 21 0 0 0 [U33, U42])⟩ : He) = qu := ⟨_, rfl⟩
              rw [hU140]
              have HU140 := Lib.hid hU140
              clear hU140
              rintro e w138 ⟨s141, s142, s143, s144, s145, rfl, ⟨hl146, hl147, hl148, hl149, hl150⟩, k139⟩
              obtain ⟨a151, c152, S153, rfl, -⟩ := hl146.out
              obtain ⟨a154, c155, S156, rfl, -⟩ := hl147.out
              obtain ⟨a157, c158, S159, rfl, -⟩ := hl148.out
              obtain ⟨a160, c161, S162, rfl, -⟩ := hl149.out
              obtain ⟨a163, c164, S165, rfl, -⟩ := hl150.out
              have Kk166 := Lib.hid k139
              clear k139
              have Hhl146 : Hid (LiesQ w138 (Par w V0.heap.size (w35.heap.size :: []) P) U140.a.kids _) := par_give hl146 (Below.size KB128.out) XL136.out
              have Hhl147 : Hid (LiesQ w138 (Par w V0.heap.size (w35.heap.size :: []) P) U140.b.kids _) := par_give hl147 (Below.size KB128.out) XL136.out
              have Hhl148 : Hid (LiesQ w138 (Par w V0.heap.size (w35.heap.size :: []) P) U140.x.kids _) := par_give hl148 (Below.size KB128.out) XL136.out
              have Hhl149 : Hid (LiesQ w138 (Par w V0.heap.size (w35.heap.size :: []) P) U140.y.kids _) := par_give hl149 (Below.size KB128.out) XL136.out
              have Hhl150 : Hid (LiesQ w138 (Par w V0.heap.size (w35.heap.size :: []) P) U140.h.kids _) := par_give hl150 (Below.size KB128.out) XL136.out
              clear hl146 hl147 hl148 hl149 hl150
              have kvV0 : Sees V0 (w.heap.size + 2) w138 := sees_kept _ (kept_trans KB128.out Kk166.out)
              have kvW126 : Sees W126 (w.heap.size + 2) w138 := sees_kept _ Kk166.out
              go_wp2_with (refine stop_store 34 (.tmp 6) (.tmp 30) rfl ?_)
              intro _
              refine wpList_store_part_n (by rfl) 34 (.tmp 6) (.tmp 30) rfl (w.heap.size + 2) 0 #[.int .i64 U140.i, .int .i64 U140.a.k, .int .i64 U140.a.i, .int .i64 U140.a.j, .int .i64 U140.a.n, (.slice a151 U140.a.kids.length c152), .int .i64 U140.b.k, .int .i64 U140.b.i, .int .i64 U140.b.j, .int .i64 U140.b.n, (.slice a154 U140.b.kids.length c155), .int .i64 U140.x.k, .int .i64 U140.x.i, .int .i64 U140.x.j, .int .i64 U140.x.n, (.slice a157 U140.x.kids.length c158), .int .i64 U140.y.k, .int .i64 U140.y.i, .int .i64 U140.y.j, .int .i64 U140.y.n, (.slice a160 U140.y.kids.length c161), .int .i64 U140.h.k, .int .i64 U140.h.i, .int .i64 U140.h.j, .int .i64 U140.h.n, (.slice a163 U140.h.kids.length c164)] (by rfl) (by rfl) 34 (by kernel_rfl) (row_ok rfl) ?_
              intro W167 hW167
              clear kvV0
              clear kvW126
              subst hW167
              refine ⟨_, #[.int .i64 U140.i, .int .i64 U140.a.k, .int .i64 U140.a.i, .int .i64 U140.a.j, .int .i64 U140.a.n, (.slice a151 U140.a.kids.length c152), .int .i64 U140.b.k, .int .i64 U140.b.i, .int .i64 U140.b.j, .int .i64 U140.b.n, (.slice a154 U140.b.kids.length c155), .int .i64 U140.x.k, .int .i64 U140.x.i, .int .i64 U140.x.j, .int .i64 U140.x.n, (.slice a157 U140.x.kids.length c158), .int .i64 U140.y.k, .int .i64 U140.y.i, .int .i64 U140.y.j, .int .i64 U140.y.n, (.slice a160 U140.y.kids.length c161), .int .i64 U140.h.k, .int .i64 U140.h.i, .int .i64 U140.h.j, .int .i64 U140.h.n, (.slice a163 U140.h.kids.length c164)], (blk_at Hx3.out (kept_trans KB128.out Kk166.out)), rfl, Nat.le_of_ble_eq_true rfl, ?_⟩
              intro W168 hW168
              go_wp2_with fail
              refine bodyPost_ret (results_cell_row rfl _ _ (w.heap.size + 2) 34 _ _ dh rfl (blk_same (blk_at Hx3.out (kept_trans KB128.out Kk166.out)) hW168) dh1 (by cases dh <;> first | rfl | exact dh2) (by kernel_rfl)) rfl ?_
              rw [show heSelf i a x = U140 from by unfold heSelf; rw [Hhb16.out]; rw [← HU140.out]; rw [← HU42.out]; rw [← HU33.out]; (try rfl)]
              exact ⟨_, _, _, _, _, rfl, ⟨par_end (par_row' Hhl146.out hW168 (by omega) (by have := Z0.out; omega)) (by have := Z0.out; omega), par_end (par_row' Hhl147.out hW168 (by omega) (by have := Z0.out; omega)) (by have := Z0.out; omega), par_end (par_row' Hhl148.out hW168 (by omega) (by have := Z0.out; omega)) (by have := Z0.out; omega), par_end (par_row' Hhl149.out hW168 (by omega) (by have := Z0.out; omega)) (by have := Z0.out; omega), par_end (par_row' Hhl150.out hW168 (by omega) (by have := Z0.out; omega)) (by have := Z0.out; omega)⟩, kept_set (kept_trans KB127.out Kk166.out) hW168 (by omega)⟩
            exact AllReadyH.nil
          exact AllReadyH.nil
        exact AllReadyH.nil
      refine AllReadyH.cons (o := hselfr3_8) rfl (fun K hK => ?_) ?_
      · unfold hselfr3_8
        go_simp
        refine at_K (fun W169 hW169 => ?_)
        obtain ⟨k171, x170, z172⟩ := alloc1 hW169
        have Kk173 := Lib.hid k171
        clear k171
        have Hx170 := Lib.hid x170
        have Hz172 := Lib.hid z172
        clear x170 z172 hW169
        have HG174 : Hid (V0.heap.size ≤ w26.heap.size) := (Below.size (kept_trans Kk12.out (kept_trans Kk18.out (kept_trans Kk25.out Kk34.out))))
        have XL175 := Lib.hid (xlt_more (xlt_nil _) Kk173.out (by have := Hz172.out; omega))
        have HL176 : Hid (LiesQ W169 (Par w V0.heap.size (w26.heap.size :: []) P) a.kids _) := (par_more (HLa.out.later (kept_trans Kk12.out (kept_trans Kk18.out (kept_trans Kk25.out Kk34.out))))).later Kk173.out
        have HL177 : Hid (LiesQ W169 (Par w V0.heap.size (w26.heap.size :: []) P) x.kids _) := (par_more (HLx.out.later (kept_trans Kk12.out (kept_trans Kk18.out (kept_trans Kk25.out Kk34.out))))).later Kk173.out
        have HL178 : Hid (LiesQ W169 (Par w V0.heap.size (w26.heap.size :: []) P) [a, x] _) := (par_more (HR13.out.later (kept_trans Kk18.out (kept_trans Kk25.out Kk34.out)))).later Kk173.out
        have HL179 : Hid (LiesQ W169 (Par w V0.heap.size (w26.heap.size :: []) P) U33.kids _) := (par_more Hhl29.out).later Kk173.out
        clear hHeld
        refine hK.out _ _ ?_ (fun hHeld => ?_)
        · (try dsimp only)
          exact sees_kept _ (kept_trans Kk34.out Kk173.out)
        clear hK K
        (try simp only [Act.put, List.setIfInBounds_toArray, List.set_cons_zero, List.set_cons_succ])
        refine wpAnyH_ready (rs := [5]) (by kernel_rfl) (by simp) ?_
        refine AllReadyH.cons (o := hselfr3_5) rfl (fun K hK => ?_) ?_
        · unfold hselfr3_5
          go_simp
          refine (hpoint_any i a x (Par w V0.heap.size (w26.heap.size :: []) P) _ (.slice aa a.kids.length ca) (.slice ax x.kids.length cx) Ri.out Ga.out HL176.out Gx.out HL177.out (heR2_pl Hhb16.out _ (by simp)) (heR2_pl Hhb16.out _ (by simp))).mono ?_
          obtain ⟨U187, hU187⟩ : ∃ qu, pointT i a x = qu := ⟨_, rfl⟩
          rw [hU187]
          have HU187 := Lib.hid hU187
          clear hU187
          rintro e w180 ⟨s182, rfl, hl183, k181⟩
          obtain ⟨a184, c185, S186, rfl, -⟩ := hl183.out
          have Kk188 := Lib.hid k181
          clear k181
          have Hhl183 : Hid (LiesQ w180 (Par w V0.heap.size (w26.heap.size :: []) P) U187.kids _) := par_give hl183 (Below.size (kept_trans Kk12.out (kept_trans Kk18.out (kept_trans Kk25.out (kept_trans Kk34.out Kk173.out))))) XL175.out
          clear hl183
          clear hHeld
          refine hK.out _ _ ?_ (fun hHeld => ?_)
          · (try dsimp only)
            exact sees_kept _ (kept_trans Kk34.out (kept_trans Kk173.out Kk188.out))
          clear hK K
          (try simp only [Act.put, List.setIfInBounds_toArray, List.set_cons_zero, List.set_cons_succ])
          refine wpAnyH_ready (rs := [6]) (by kernel_rfl) (by simp) ?_
          refine AllReadyH.cons (o := hselfr3_6) rfl (fun K hK => ?_) ?_
          · unfold hselfr3_6
            go_simp
            refine at_K (fun W190 hW190 => ?_)
            obtain ⟨k192, x191, z193⟩ := alloc1 hW190
            have Kk194 := Lib.hid k192
            clear k192
            have Hx191 := Lib.hid x191
            have Hz193 := Lib.hid z193
            clear x191 z193 hW190
            have HR195 : Hid (LiesQ W190 (Par w V0.heap.size (w26.heap.size :: []) P) [U33, U187] (.slice (some ⟨w180.heap.size, 0, none⟩) 2 2)) := q_row [(U33, (.slice a30 U33.kids.length c31)), (U187, (.slice a184 U187.kids.length c185))] _ rfl Hx191.out (par_new (Below.size (kept_trans Kk12.out (kept_trans Kk18.out (kept_trans Kk25.out (kept_trans Kk34.out (kept_trans Kk173.out Kk188.out)))))) (xlt_later XL175.out Kk188.out) (Nat.le_refl _)) (fun p hp => by
              simp only [List.mem_cons, List.not_mem_nil, or_false] at hp
              rcases hp with rfl | rfl
              · exact ⟨(by rw [← HU33.out]; exact (right_fine (plain_right (points_plain (heR2_lev Hhb16.out))))), (HL179.out.later (kept_trans Kk188.out Kk194.out))⟩
              · exact ⟨(by rw [← HU187.out]; exact (right_fine (plain_right (point_plain (heR2_lev Hhb16.out) (heR2_pl Hhb16.out _ (by simp)) (heR2_pl Hhb16.out _ (by simp)))))), (Hhl183.out.later Kk194.out)⟩) (Nat.le_of_ble_eq_true rfl)
            clear hHeld
            refine hK.out _ _ ?_ (fun hHeld => ?_)
            · (try dsimp only)
              exact sees_kept _ (kept_trans Kk34.out (kept_trans Kk173.out (kept_trans Kk188.out Kk194.out)))
            clear hK K
            (try simp only [Act.put, List.setIfInBounds_toArray, List.set_cons_zero, List.set_cons_succ])
            refine take_at 7 22 hselfr3_7 (v := ?_) (Or.inl ⟨by rfl, ?_⟩) ?_
            rotate_left 1
            · ((intro w hSw; (try dsimp only at hSw); unfold hselfr3_7; go_simp) <;> with_reducible rfl)
            (try simp only [Act.put, List.setIfInBounds_toArray, List.set_cons_zero, List.set_cons_succ])
            refine wpAnyH_ready (rs := [9]) (by kernel_rfl) (by simp) ?_
            refine AllReadyH.cons (o := hselfr3_9) rfl (fun K hK => ?_) ?_
            · unfold hselfr3_9
              refine step_store_part rfl 25 (.tmp 7) (.tmp 22) rfl (w26.heap.size) 0 #[.int .i64 21, .int .i64 0, .int .i64 0, .int .i64 0, (.slice (some ⟨w180.heap.size, 0, none⟩) 2 2)] rfl rfl 25 size_term (row_ok rfl) _ #[.int .i64 21, .int .i64 0, .int .i64 0, .int .i64 0, (.slice (some ⟨w180.heap.size, 0, none⟩) 2 2)] (blk_at Hx170.out (kept_trans Kk188.out Kk194.out)) rfl (Nat.le_of_ble_eq_true rfl) ?_
              intro W196 hW196
              have KB197 := Lib.hid (kept_set (kept_trans Kk6.out (kept_trans Kk12.out (kept_trans Kk18.out (kept_trans Kk25.out (kept_trans Kk34.out (kept_trans Kk173.out (kept_trans Kk188.out Kk194.out))))))) hW196 (by have := HG174.out; have := Z0.out; omega))
              have KB198 := Lib.hid (kept_set (kept_trans Kk12.out (kept_trans Kk18.out (kept_trans Kk25.out (kept_trans Kk34.out (kept_trans Kk173.out (kept_trans Kk188.out Kk194.out)))))) hW196 HG174.out)
              have KB199 := Lib.hid (kept_set (kept_trans Kk34.out (kept_trans Kk173.out (kept_trans Kk188.out Kk194.out))) hW196 (Below.size Kk34.out))
              have HL200 : Hid (LiesQ W196 (Par w V0.heap.size (w26.heap.size :: []) P) a.kids _) := par_set (HL176.out.later (kept_trans Kk188.out Kk194.out)) hW196 (List.mem_cons_self ..) (by have := HG174.out; have := Z0.out; omega)
              have HL201 : Hid (LiesQ W196 (Par w V0.heap.size (w26.heap.size :: []) P) x.kids _) := par_set (HL177.out.later (kept_trans Kk188.out Kk194.out)) hW196 (List.mem_cons_self ..) (by have := HG174.out; have := Z0.out; omega)
              have HL202 : Hid (LiesQ W196 (Par w V0.heap.size (w26.heap.size :: []) P) [a, x] _) := par_set (HL178.out.later (kept_trans Kk188.out Kk194.out)) hW196 (List.mem_cons_self ..) (by have := HG174.out; have := Z0.out; omega)
              have HL203 : Hid (LiesQ W196 (Par w V0.heap.size (w26.heap.size :: []) P) U33.kids _) := par_set (HL179.out.later (kept_trans Kk188.out Kk194.out)) hW196 (List.mem_cons_self ..) (by have := HG174.out; have := Z0.out; omega)
              have HL204 : Hid (LiesQ W196 (Par w V0.heap.size (w26.heap.size :: []) P) U187.kids _) := par_set (Hhl183.out.later Kk194.out) hW196 (List.mem_cons_self ..) (by have := HG174.out; have := Z0.out; omega)
              have HL205 : Hid (LiesQ W196 (Par w V0.heap.size (w26.heap.size :: []) P) [U33, U187] _) := par_set HR195.out hW196 (List.mem_cons_self ..) (by have := HG174.out; have := Z0.out; omega)
              have XL206 := Lib.hid (xlt_set (xlt_later XL175.out (kept_trans Kk188.out Kk194.out)) hW196)
              have HX207 := Lib.hid (blk_same (blk_at Hx170.out (kept_trans Kk188.out Kk194.out)) hW196)
              clear hW196
              clear hHeld
              refine hK.out _ _ ?_ (fun hHeld => ?_)
              · (try dsimp only)
                exact sees_kept _ KB199.out
              clear hK K
              (try simp only [Act.put])
              refine wpAnyH_done (by kernel_rfl) ?_ _
              clear hHeld
              have kvV0 : Sees V0 (w.heap.size + 2) W196 := sees_kept _ KB198.out
              have kvW196 : Sees W196 (w.heap.size + 2) W196 := sees_kept _ (kept_refl _)
              go_wp2_with (refine stop_load 25 (.tmp 4) rfl ?_)
              intro _
              refine wpList_load_part (w.heap.size) 0 25 (.tmp 4) #[.int .i64 a.k, .int .i64 a.i, .int .i64 a.j, .int .i64 a.n, (.slice aa a.kids.length ca)] du (blk_at Hx1.out KB198.out) (by rfl) rfl (by rfl) (by rfl) hu1 (by cases du <;> first | rfl | exact hu2) size_term ?_
              go_wp2_with (refine stop_load 25 (.tmp 4) rfl ?_)
              intro _
              refine wpList_load_part (w.heap.size) 0 25 (.tmp 4) #[.int .i64 a.k, .int .i64 a.i, .int .i64 a.j, .int .i64 a.n, (.slice aa a.kids.length ca)] du (blk_at Hx1.out KB198.out) (by rfl) rfl (by rfl) (by rfl) hu1 (by cases du <;> first | rfl | exact hu2) size_term ?_
              go_wp2_with (refine stop_load 25 (.tmp 5) rfl ?_)
              intro _
              refine wpList_load_part (w.heap.size + 1) 0 25 (.tmp 5) #[.int .i64 x.k, .int .i64 x.i, .int .i64 x.j, .int .i64 x.n, (.slice ax x.kids.length cx)] du (blk_at Hx2.out KB198.out) (by rfl) rfl (by rfl) (by rfl) hu1 (by cases du <;> first | rfl | exact hu2) size_term ?_
              go_wp2_with (refine stop_load 25 (.tmp 5) rfl ?_)
              intro _
              refine wpList_load_part (w.heap.size + 1) 0 25 (.tmp 5) #[.int .i64 x.k, .int .i64 x.i, .int .i64 x.j, .int .i64 x.n, (.slice ax x.kids.length cx)] du (blk_at Hx2.out KB198.out) (by rfl) rfl (by rfl) (by rfl) hu1 (by cases du <;> first | rfl | exact hu2) size_term ?_
              go_wp2_with (refine stop_load 25 (.tmp 7) rfl ?_)
              intro _
              refine wpList_load_part (w26.heap.size) 0 25 (.tmp 7) #[.int .i64 21, .int .i64 0, .int .i64 0, .int .i64 0, (.slice (some ⟨w180.heap.size, 0, none⟩) 2 2)] du HX207.out (by rfl) rfl (by rfl) (by rfl) hu1 (by cases du <;> first | rfl | exact hu2) size_term ?_
              go_wp2_with fail
              clear kvV0
              clear kvW196
              refine (hfresh_any (⟨i, a, a, x, x, (.mk 21 0 0 0 [U33, U187])⟩ : He) (Par w V0.heap.size (w26.heap.size :: []) P) _ (.slice aa a.kids.length ca) (.slice aa a.kids.length ca) (.slice ax x.kids.length cx) (.slice ax x.kids.length cx) (.slice (some ⟨w180.heap.size, 0, none⟩) 2 2) ⟨Ri.out, Ga.out, Ga.out, Gx.out, Gx.out, (mk_fine (show I64 21 from by unfold I64; decide) (show I64 0 from by unfold I64; decide) (show I64 0 from by unfold I64; decide) (show I64 0 from by unfold I64; decide))⟩ ⟨HL200.out, HL200.out, HL201.out, HL201.out, HL205.out⟩ (heR2_pl Hhb16.out _ (by simp)) (heR2_pl Hhb16.out _ (by simp)) (heR2_pl Hhb16.out _ (by simp)) (heR2_pl Hhb16.out _ (by simp))).mono ?_
              obtain ⟨U210, hU210⟩ : ∃ qu, (⟨i, a, a, x, x, (.mk 21 0 0 0 [U33, U187])⟩ : He) = qu := ⟨_, rfl⟩
              rw [hU210]
              have HU210 := Lib.hid hU210
              clear hU210
              rintro e w208 ⟨s211, s212, s213, s214, s215, rfl, ⟨hl216, hl217, hl218, hl219, hl220⟩, k209⟩
              obtain ⟨a221, c222, S223, rfl, -⟩ := hl216.out
              obtain ⟨a224, c225, S226, rfl, -⟩ := hl217.out
              obtain ⟨a227, c228, S229, rfl, -⟩ := hl218.out
              obtain ⟨a230, c231, S232, rfl, -⟩ := hl219.out
              obtain ⟨a233, c234, S235, rfl, -⟩ := hl220.out
              have Kk236 := Lib.hid k209
              clear k209
              have Hhl216 : Hid (LiesQ w208 (Par w V0.heap.size (w26.heap.size :: []) P) U210.a.kids _) := par_give hl216 (Below.size KB198.out) XL206.out
              have Hhl217 : Hid (LiesQ w208 (Par w V0.heap.size (w26.heap.size :: []) P) U210.b.kids _) := par_give hl217 (Below.size KB198.out) XL206.out
              have Hhl218 : Hid (LiesQ w208 (Par w V0.heap.size (w26.heap.size :: []) P) U210.x.kids _) := par_give hl218 (Below.size KB198.out) XL206.out
              have Hhl219 : Hid (LiesQ w208 (Par w V0.heap.size (w26.heap.size :: []) P) U210.y.kids _) := par_give hl219 (Below.size KB198.out) XL206.out
              have Hhl220 : Hid (LiesQ w208 (Par w V0.heap.size (w26.heap.size :: []) P) U210.h.kids _) := par_give hl220 (Below.size KB198.out) XL206.out
              clear hl216 hl217 hl218 hl219 hl220
              have kvV0 : Sees V0 (w.heap.size + 2) w208 := sees_kept _ (kept_trans KB198.out Kk236.out)
              have kvW196 : Sees W196 (w.heap.size + 2) w208 := sees_kept _ Kk236.out
              go_wp2_with (refine stop_store 34 (.tmp 6) (.tmp 30) rfl ?_)
              intro _
              refine wpList_store_part_n (by rfl) 34 (.tmp 6) (.tmp 30) rfl (w.heap.size + 2) 0 #[.int .i64 U210.i, .int .i64 U210.a.k, .int .i64 U210.a.i, .int .i64 U210.a.j, .int .i64 U210.a.n, (.slice a221 U210.a.kids.length c222), .int .i64 U210.b.k, .int .i64 U210.b.i, .int .i64 U210.b.j, .int .i64 U210.b.n, (.slice a224 U210.b.kids.length c225), .int .i64 U210.x.k, .int .i64 U210.x.i, .int .i64 U210.x.j, .int .i64 U210.x.n, (.slice a227 U210.x.kids.length c228), .int .i64 U210.y.k, .int .i64 U210.y.i, .int .i64 U210.y.j, .int .i64 U210.y.n, (.slice a230 U210.y.kids.length c231), .int .i64 U210.h.k, .int .i64 U210.h.i, .int .i64 U210.h.j, .int .i64 U210.h.n, (.slice a233 U210.h.kids.length c234)] (by rfl) (by rfl) 34 (by kernel_rfl) (row_ok rfl) ?_
              intro W237 hW237
              clear kvV0
              clear kvW196
              subst hW237
              refine ⟨_, #[.int .i64 U210.i, .int .i64 U210.a.k, .int .i64 U210.a.i, .int .i64 U210.a.j, .int .i64 U210.a.n, (.slice a221 U210.a.kids.length c222), .int .i64 U210.b.k, .int .i64 U210.b.i, .int .i64 U210.b.j, .int .i64 U210.b.n, (.slice a224 U210.b.kids.length c225), .int .i64 U210.x.k, .int .i64 U210.x.i, .int .i64 U210.x.j, .int .i64 U210.x.n, (.slice a227 U210.x.kids.length c228), .int .i64 U210.y.k, .int .i64 U210.y.i, .int .i64 U210.y.j, .int .i64 U210.y.n, (.slice a230 U210.y.kids.length c231), .int .i64 U210.h.k, .int .i64 U210.h.i, .int .i64 U210.h.j, .int .i64 U210.h.n, (.slice a233 U210.h.kids.length c234)], (blk_at Hx3.out (kept_trans KB198.out Kk236.out)), rfl, Nat.le_of_ble_eq_true rfl, ?_⟩
              intro W238 hW238
              go_wp2_with fail
              refine bodyPost_ret (results_cell_row rfl _ _ (w.heap.size + 2) 34 _ _ dh rfl (blk_same (blk_at Hx3.out (kept_trans KB198.out Kk236.out)) hW238) dh1 (by cases dh <;> first | rfl | exact dh2) (by kernel_rfl)) rfl ?_
              rw [show heSelf i a x = U210 from by unfold heSelf; rw [Hhb16.out]; rw [← HU210.out]; rw [← HU187.out]; rw [← HU33.out]; (try rfl)]
              exact ⟨_, _, _, _, _, rfl, ⟨par_end (par_row' Hhl216.out hW238 (by omega) (by have := Z0.out; omega)) (by have := Z0.out; omega), par_end (par_row' Hhl217.out hW238 (by omega) (by have := Z0.out; omega)) (by have := Z0.out; omega), par_end (par_row' Hhl218.out hW238 (by omega) (by have := Z0.out; omega)) (by have := Z0.out; omega), par_end (par_row' Hhl219.out hW238 (by omega) (by have := Z0.out; omega)) (by have := Z0.out; omega), par_end (par_row' Hhl220.out hW238 (by omega) (by have := Z0.out; omega)) (by have := Z0.out; omega)⟩, kept_set (kept_trans KB197.out Kk236.out) hW238 (by omega)⟩
            exact AllReadyH.nil
          exact AllReadyH.nil
        exact AllReadyH.nil
      exact AllReadyH.nil
    refine AllReadyH.cons (o := hselfr3_8) rfl (fun K hK => ?_) ?_
    · unfold hselfr3_8
      go_simp
      refine at_K (fun W239 hW239 => ?_)
      obtain ⟨k241, x240, z242⟩ := alloc1 hW239
      have Kk243 := Lib.hid k241
      clear k241
      have Hx240 := Lib.hid x240
      have Hz242 := Lib.hid z242
      clear x240 z242 hW239
      have HG244 : Hid (V0.heap.size ≤ W22.heap.size) := (Below.size (kept_trans Kk12.out (kept_trans Kk18.out Kk25.out)))
      have XL245 := Lib.hid (xlt_more (xlt_nil _) Kk243.out (by have := Hz242.out; omega))
      have HL246 : Hid (LiesQ W239 (Par w V0.heap.size (W22.heap.size :: []) P) a.kids _) := (par_more (HLa.out.later (kept_trans Kk12.out (kept_trans Kk18.out Kk25.out)))).later Kk243.out
      have HL247 : Hid (LiesQ W239 (Par w V0.heap.size (W22.heap.size :: []) P) x.kids _) := (par_more (HLx.out.later (kept_trans Kk12.out (kept_trans Kk18.out Kk25.out)))).later Kk243.out
      have HL248 : Hid (LiesQ W239 (Par w V0.heap.size (W22.heap.size :: []) P) [a, x] _) := (par_more (HR13.out.later (kept_trans Kk18.out Kk25.out))).later Kk243.out
      clear hHeld
      refine hK.out _ _ ?_ (fun hHeld => ?_)
      · (try dsimp only)
        exact sees_kept _ Kk243.out
      clear hK K
      (try simp only [Act.put, List.setIfInBounds_toArray, List.set_cons_zero, List.set_cons_succ])
      refine wpAnyH_ready (rs := [1]) (by kernel_rfl) (by simp) ?_
      refine AllReadyH.cons (o := hselfr3_1) rfl (fun K hK => ?_) ?_
      · unfold hselfr3_1
        go_simp
        refine (hpoints_any i (Par w V0.heap.size (W22.heap.size :: []) P) _ Ri.out).mono ?_
        obtain ⟨U256, hU256⟩ : ∃ qu, pointsT i = qu := ⟨_, rfl⟩
        rw [hU256]
        have HU256 := Lib.hid hU256
        clear hU256
        rintro e w249 ⟨s251, rfl, hl252, k250⟩
        obtain ⟨a253, c254, S255, rfl, -⟩ := hl252.out
        have Kk257 := Lib.hid k250
        clear k250
        have Hhl252 : Hid (LiesQ w249 (Par w V0.heap.size (W22.heap.size :: []) P) U256.kids _) := par_give hl252 (Below.size (kept_trans Kk12.out (kept_trans Kk18.out (kept_trans Kk25.out Kk243.out)))) XL245.out
        clear hl252
        clear hHeld
        refine hK.out _ _ ?_ (fun hHeld => ?_)
        · (try dsimp only)
          exact sees_kept _ (kept_trans Kk243.out Kk257.out)
        clear hK K
        (try simp only [Act.put, List.setIfInBounds_toArray, List.set_cons_zero, List.set_cons_succ])
        refine wpAnyH_ready (rs := [5]) (by kernel_rfl) (by simp) ?_
        refine AllReadyH.cons (o := hselfr3_5) rfl (fun K hK => ?_) ?_
        · unfold hselfr3_5
          go_simp
          refine (hpoint_any i a x (Par w V0.heap.size (W22.heap.size :: []) P) _ (.slice aa a.kids.length ca) (.slice ax x.kids.length cx) Ri.out Ga.out (HL246.out.later Kk257.out) Gx.out (HL247.out.later Kk257.out) (heR2_pl Hhb16.out _ (by simp)) (heR2_pl Hhb16.out _ (by simp))).mono ?_
          obtain ⟨U265, hU265⟩ : ∃ qu, pointT i a x = qu := ⟨_, rfl⟩
          rw [hU265]
          have HU265 := Lib.hid hU265
          clear hU265
          rintro e w258 ⟨s260, rfl, hl261, k259⟩
          obtain ⟨a262, c263, S264, rfl, -⟩ := hl261.out
          have Kk266 := Lib.hid k259
          clear k259
          have Hhl261 : Hid (LiesQ w258 (Par w V0.heap.size (W22.heap.size :: []) P) U265.kids _) := par_give hl261 (Below.size (kept_trans Kk12.out (kept_trans Kk18.out (kept_trans Kk25.out (kept_trans Kk243.out Kk257.out))))) (xlt_later XL245.out Kk257.out)
          clear hl261
          clear hHeld
          refine hK.out _ _ ?_ (fun hHeld => ?_)
          · (try dsimp only)
            exact sees_kept _ (kept_trans Kk243.out (kept_trans Kk257.out Kk266.out))
          clear hK K
          (try simp only [Act.put, List.setIfInBounds_toArray, List.set_cons_zero, List.set_cons_succ])
          refine wpAnyH_ready (rs := [6]) (by kernel_rfl) (by simp) ?_
          refine AllReadyH.cons (o := hselfr3_6) rfl (fun K hK => ?_) ?_
          · unfold hselfr3_6
            go_simp
            refine at_K (fun W268 hW268 => ?_)
            obtain ⟨k270, x269, z271⟩ := alloc1 hW268
            have Kk272 := Lib.hid k270
            clear k270
            have Hx269 := Lib.hid x269
            have Hz271 := Lib.hid z271
            clear x269 z271 hW268
            have HR273 : Hid (LiesQ W268 (Par w V0.heap.size (W22.heap.size :: []) P) [U256, U265] (.slice (some ⟨w258.heap.size, 0, none⟩) 2 2)) := q_row [(U256, (.slice a253 U256.kids.length c254)), (U265, (.slice a262 U265.kids.length c263))] _ rfl Hx269.out (par_new (Below.size (kept_trans Kk12.out (kept_trans Kk18.out (kept_trans Kk25.out (kept_trans Kk243.out (kept_trans Kk257.out Kk266.out)))))) (xlt_later XL245.out (kept_trans Kk257.out Kk266.out)) (Nat.le_refl _)) (fun p hp => by
              simp only [List.mem_cons, List.not_mem_nil, or_false] at hp
              rcases hp with rfl | rfl
              · exact ⟨(by rw [← HU256.out]; exact (right_fine (plain_right (points_plain (heR2_lev Hhb16.out))))), (Hhl252.out.later (kept_trans Kk266.out Kk272.out))⟩
              · exact ⟨(by rw [← HU265.out]; exact (right_fine (plain_right (point_plain (heR2_lev Hhb16.out) (heR2_pl Hhb16.out _ (by simp)) (heR2_pl Hhb16.out _ (by simp)))))), (Hhl261.out.later Kk272.out)⟩) (Nat.le_of_ble_eq_true rfl)
            clear hHeld
            refine hK.out _ _ ?_ (fun hHeld => ?_)
            · (try dsimp only)
              exact sees_kept _ (kept_trans Kk243.out (kept_trans Kk257.out (kept_trans Kk266.out Kk272.out)))
            clear hK K
            (try simp only [Act.put, List.setIfInBounds_toArray, List.set_cons_zero, List.set_cons_succ])
            refine take_at 7 22 hselfr3_7 (v := ?_) (Or.inl ⟨by rfl, ?_⟩) ?_
            rotate_left 1
            · ((intro w hSw; (try dsimp only at hSw); unfold hselfr3_7; go_simp) <;> with_reducible rfl)
            (try simp only [Act.put, List.setIfInBounds_toArray, List.set_cons_zero, List.set_cons_succ])
            refine wpAnyH_ready (rs := [9]) (by kernel_rfl) (by simp) ?_
            refine AllReadyH.cons (o := hselfr3_9) rfl (fun K hK => ?_) ?_
            · unfold hselfr3_9
              refine step_store_part rfl 25 (.tmp 7) (.tmp 22) rfl (W22.heap.size) 0 #[.int .i64 21, .int .i64 0, .int .i64 0, .int .i64 0, (.slice (some ⟨w258.heap.size, 0, none⟩) 2 2)] rfl rfl 25 size_term (row_ok rfl) _ #[.int .i64 21, .int .i64 0, .int .i64 0, .int .i64 0, (.slice (some ⟨w258.heap.size, 0, none⟩) 2 2)] (blk_at Hx240.out (kept_trans Kk257.out (kept_trans Kk266.out Kk272.out))) rfl (Nat.le_of_ble_eq_true rfl) ?_
              intro W274 hW274
              have KB275 := Lib.hid (kept_set (kept_trans Kk6.out (kept_trans Kk12.out (kept_trans Kk18.out (kept_trans Kk25.out (kept_trans Kk243.out (kept_trans Kk257.out (kept_trans Kk266.out Kk272.out))))))) hW274 (by have := HG244.out; have := Z0.out; omega))
              have KB276 := Lib.hid (kept_set (kept_trans Kk12.out (kept_trans Kk18.out (kept_trans Kk25.out (kept_trans Kk243.out (kept_trans Kk257.out (kept_trans Kk266.out Kk272.out)))))) hW274 HG244.out)
              have KB277 := Lib.hid (kept_set (kept_trans Kk243.out (kept_trans Kk257.out (kept_trans Kk266.out Kk272.out))) hW274 (Below.size (kept_refl _)))
              have HL278 : Hid (LiesQ W274 (Par w V0.heap.size (W22.heap.size :: []) P) a.kids _) := par_set (HL246.out.later (kept_trans Kk257.out (kept_trans Kk266.out Kk272.out))) hW274 (List.mem_cons_self ..) (by have := HG244.out; have := Z0.out; omega)
              have HL279 : Hid (LiesQ W274 (Par w V0.heap.size (W22.heap.size :: []) P) x.kids _) := par_set (HL247.out.later (kept_trans Kk257.out (kept_trans Kk266.out Kk272.out))) hW274 (List.mem_cons_self ..) (by have := HG244.out; have := Z0.out; omega)
              have HL280 : Hid (LiesQ W274 (Par w V0.heap.size (W22.heap.size :: []) P) [a, x] _) := par_set (HL248.out.later (kept_trans Kk257.out (kept_trans Kk266.out Kk272.out))) hW274 (List.mem_cons_self ..) (by have := HG244.out; have := Z0.out; omega)
              have HL281 : Hid (LiesQ W274 (Par w V0.heap.size (W22.heap.size :: []) P) U256.kids _) := par_set (Hhl252.out.later (kept_trans Kk266.out Kk272.out)) hW274 (List.mem_cons_self ..) (by have := HG244.out; have := Z0.out; omega)
              have HL282 : Hid (LiesQ W274 (Par w V0.heap.size (W22.heap.size :: []) P) U265.kids _) := par_set (Hhl261.out.later Kk272.out) hW274 (List.mem_cons_self ..) (by have := HG244.out; have := Z0.out; omega)
              have HL283 : Hid (LiesQ W274 (Par w V0.heap.size (W22.heap.size :: []) P) [U256, U265] _) := par_set HR273.out hW274 (List.mem_cons_self ..) (by have := HG244.out; have := Z0.out; omega)
              have XL284 := Lib.hid (xlt_set (xlt_later XL245.out (kept_trans Kk257.out (kept_trans Kk266.out Kk272.out))) hW274)
              have HX285 := Lib.hid (blk_same (blk_at Hx240.out (kept_trans Kk257.out (kept_trans Kk266.out Kk272.out))) hW274)
              clear hW274
              clear hHeld
              refine hK.out _ _ ?_ (fun hHeld => ?_)
              · (try dsimp only)
                exact sees_kept _ KB277.out
              clear hK K
              (try simp only [Act.put])
              refine wpAnyH_done (by kernel_rfl) ?_ _
              clear hHeld
              have kvV0 : Sees V0 (w.heap.size + 2) W274 := sees_kept _ KB276.out
              have kvW274 : Sees W274 (w.heap.size + 2) W274 := sees_kept _ (kept_refl _)
              go_wp2_with (refine stop_load 25 (.tmp 4) rfl ?_)
              intro _
              refine wpList_load_part (w.heap.size) 0 25 (.tmp 4) #[.int .i64 a.k, .int .i64 a.i, .int .i64 a.j, .int .i64 a.n, (.slice aa a.kids.length ca)] du (blk_at Hx1.out KB276.out) (by rfl) rfl (by rfl) (by rfl) hu1 (by cases du <;> first | rfl | exact hu2) size_term ?_
              go_wp2_with (refine stop_load 25 (.tmp 4) rfl ?_)
              intro _
              refine wpList_load_part (w.heap.size) 0 25 (.tmp 4) #[.int .i64 a.k, .int .i64 a.i, .int .i64 a.j, .int .i64 a.n, (.slice aa a.kids.length ca)] du (blk_at Hx1.out KB276.out) (by rfl) rfl (by rfl) (by rfl) hu1 (by cases du <;> first | rfl | exact hu2) size_term ?_
              go_wp2_with (refine stop_load 25 (.tmp 5) rfl ?_)
              intro _
              refine wpList_load_part (w.heap.size + 1) 0 25 (.tmp 5) #[.int .i64 x.k, .int .i64 x.i, .int .i64 x.j, .int .i64 x.n, (.slice ax x.kids.length cx)] du (blk_at Hx2.out KB276.out) (by rfl) rfl (by rfl) (by rfl) hu1 (by cases du <;> first | rfl | exact hu2) size_term ?_
              go_wp2_with (refine stop_load 25 (.tmp 5) rfl ?_)
              intro _
              refine wpList_load_part (w.heap.size + 1) 0 25 (.tmp 5) #[.int .i64 x.k, .int .i64 x.i, .int .i64 x.j, .int .i64 x.n, (.slice ax x.kids.length cx)] du (blk_at Hx2.out KB276.out) (by rfl) rfl (by rfl) (by rfl) hu1 (by cases du <;> first | rfl | exact hu2) size_term ?_
              go_wp2_with (refine stop_load 25 (.tmp 7) rfl ?_)
              intro _
              refine wpList_load_part (W22.heap.size) 0 25 (.tmp 7) #[.int .i64 21, .int .i64 0, .int .i64 0, .int .i64 0, (.slice (some ⟨w258.heap.size, 0, none⟩) 2 2)] du HX285.out (by rfl) rfl (by rfl) (by rfl) hu1 (by cases du <;> first | rfl | exact hu2) size_term ?_
              go_wp2_with fail
              clear kvV0
              clear kvW274
              refine (hfresh_any (⟨i, a, a, x, x, (.mk 21 0 0 0 [U256, U265])⟩ : He) (Par w V0.heap.size (W22.heap.size :: []) P) _ (.slice aa a.kids.length ca) (.slice aa a.kids.length ca) (.slice ax x.kids.length cx) (.slice ax x.kids.length cx) (.slice (some ⟨w258.heap.size, 0, none⟩) 2 2) ⟨Ri.out, Ga.out, Ga.out, Gx.out, Gx.out, (mk_fine (show I64 21 from by unfold I64; decide) (show I64 0 from by unfold I64; decide) (show I64 0 from by unfold I64; decide) (show I64 0 from by unfold I64; decide))⟩ ⟨HL278.out, HL278.out, HL279.out, HL279.out, HL283.out⟩ (heR2_pl Hhb16.out _ (by simp)) (heR2_pl Hhb16.out _ (by simp)) (heR2_pl Hhb16.out _ (by simp)) (heR2_pl Hhb16.out _ (by simp))).mono ?_
              obtain ⟨U288, hU288⟩ : ∃ qu, (⟨i, a, a, x, x, (.mk 21 0 0 0 [U256, U265])⟩ : He) = qu := ⟨_, rfl⟩
              rw [hU288]
              have HU288 := Lib.hid hU288
              clear hU288
              rintro e w286 ⟨s289, s290, s291, s292, s293, rfl, ⟨hl294, hl295, hl296, hl297, hl298⟩, k287⟩
              obtain ⟨a299, c300, S301, rfl, -⟩ := hl294.out
              obtain ⟨a302, c303, S304, rfl, -⟩ := hl295.out
              obtain ⟨a305, c306, S307, rfl, -⟩ := hl296.out
              obtain ⟨a308, c309, S310, rfl, -⟩ := hl297.out
              obtain ⟨a311, c312, S313, rfl, -⟩ := hl298.out
              have Kk314 := Lib.hid k287
              clear k287
              have Hhl294 : Hid (LiesQ w286 (Par w V0.heap.size (W22.heap.size :: []) P) U288.a.kids _) := par_give hl294 (Below.size KB276.out) XL284.out
              have Hhl295 : Hid (LiesQ w286 (Par w V0.heap.size (W22.heap.size :: []) P) U288.b.kids _) := par_give hl295 (Below.size KB276.out) XL284.out
              have Hhl296 : Hid (LiesQ w286 (Par w V0.heap.size (W22.heap.size :: []) P) U288.x.kids _) := par_give hl296 (Below.size KB276.out) XL284.out
              have Hhl297 : Hid (LiesQ w286 (Par w V0.heap.size (W22.heap.size :: []) P) U288.y.kids _) := par_give hl297 (Below.size KB276.out) XL284.out
              have Hhl298 : Hid (LiesQ w286 (Par w V0.heap.size (W22.heap.size :: []) P) U288.h.kids _) := par_give hl298 (Below.size KB276.out) XL284.out
              clear hl294 hl295 hl296 hl297 hl298
              have kvV0 : Sees V0 (w.heap.size + 2) w286 := sees_kept _ (kept_trans KB276.out Kk314.out)
              have kvW274 : Sees W274 (w.heap.size + 2) w286 := sees_kept _ Kk314.out
              go_wp2_with (refine stop_store 34 (.tmp 6) (.tmp 30) rfl ?_)
              intro _
              refine wpList_store_part_n (by rfl) 34 (.tmp 6) (.tmp 30) rfl (w.heap.size + 2) 0 #[.int .i64 U288.i, .int .i64 U288.a.k, .int .i64 U288.a.i, .int .i64 U288.a.j, .int .i64 U288.a.n, (.slice a299 U288.a.kids.length c300), .int .i64 U288.b.k, .int .i64 U288.b.i, .int .i64 U288.b.j, .int .i64 U288.b.n, (.slice a302 U288.b.kids.length c303), .int .i64 U288.x.k, .int .i64 U288.x.i, .int .i64 U288.x.j, .int .i64 U288.x.n, (.slice a305 U288.x.kids.length c306), .int .i64 U288.y.k, .int .i64 U288.y.i, .int .i64 U288.y.j, .int .i64 U288.y.n, (.slice a308 U288.y.kids.length c309), .int .i64 U288.h.k, .int .i64 U288.h.i, .int .i64 U288.h.j, .int .i64 U288.h.n, (.slice a311 U288.h.kids.length c312)] (by rfl) (by rfl) 34 (by kernel_rfl) (row_ok rfl) ?_
              intro W315 hW315
              clear kvV0
              clear kvW274
              subst hW315
              refine ⟨_, #[.int .i64 U288.i, .int .i64 U288.a.k, .int .i64 U288.a.i, .int .i64 U288.a.j, .int .i64 U288.a.n, (.slice a299 U288.a.kids.length c300), .int .i64 U288.b.k, .int .i64 U288.b.i, .int .i64 U288.b.j, .int .i64 U288.b.n, (.slice a302 U288.b.kids.length c303), .int .i64 U288.x.k, .int .i64 U288.x.i, .int .i64 U288.x.j, .int .i64 U288.x.n, (.slice a305 U288.x.kids.length c306), .int .i64 U288.y.k, .int .i64 U288.y.i, .int .i64 U288.y.j, .int .i64 U288.y.n, (.slice a308 U288.y.kids.length c309), .int .i64 U288.h.k, .int .i64 U288.h.i, .int .i64 U288.h.j, .int .i64 U288.h.n, (.slice a311 U288.h.kids.length c312)], (blk_at Hx3.out (kept_trans KB276.out Kk314.out)), rfl, Nat.le_of_ble_eq_true rfl, ?_⟩
              intro W316 hW316
              go_wp2_with fail
              refine bodyPost_ret (results_cell_row rfl _ _ (w.heap.size + 2) 34 _ _ dh rfl (blk_same (blk_at Hx3.out (kept_trans KB276.out Kk314.out)) hW316) dh1 (by cases dh <;> first | rfl | exact dh2) (by kernel_rfl)) rfl ?_
              rw [show heSelf i a x = U288 from by unfold heSelf; rw [Hhb16.out]; rw [← HU288.out]; rw [← HU265.out]; rw [← HU256.out]; (try rfl)]
              exact ⟨_, _, _, _, _, rfl, ⟨par_end (par_row' Hhl294.out hW316 (by omega) (by have := Z0.out; omega)) (by have := Z0.out; omega), par_end (par_row' Hhl295.out hW316 (by omega) (by have := Z0.out; omega)) (by have := Z0.out; omega), par_end (par_row' Hhl296.out hW316 (by omega) (by have := Z0.out; omega)) (by have := Z0.out; omega), par_end (par_row' Hhl297.out hW316 (by omega) (by have := Z0.out; omega)) (by have := Z0.out; omega), par_end (par_row' Hhl298.out hW316 (by omega) (by have := Z0.out; omega)) (by have := Z0.out; omega)⟩, kept_set (kept_trans KB275.out Kk314.out) hW316 (by omega)⟩
            exact AllReadyH.nil
          exact AllReadyH.nil
        exact AllReadyH.nil
      exact AllReadyH.nil
    exact AllReadyH.nil

end Go.Proofs.YtgododpkbiaacaaGreat

namespace Go.Proofs.YtgododpkbiaacaaGreat
open Go.RowKit

theorem info_het : (Tryz.prog.info? 34).map (fun i => (i.zero, i.size, i.bytes)) = some (some (.agg #[.int .i64 0, .int .i64 0, .int .i64 0, .int .i64 0, .int .i64 0, .slice none 0 0, .int .i64 0, .int .i64 0, .int .i64 0, .int .i64 0, .slice none 0 0, .int .i64 0, .int .i64 0, .int .i64 0, .int .i64 0, .slice none 0 0, .int .i64 0, .int .i64 0, .int .i64 0, .int .i64 0, .slice none 0 0, .int .i64 0, .int .i64 0, .int .i64 0, .int .i64 0, .slice none 0 0]), 26, 288) := by kernel_rfl
theorem kept_grown {w w' : World} (h : w.grownBy w' none) : Kept w w' := (kept_refl w).grown h (Nat.le_refl _) (fun g h => by cases h)
theorem made_one {w' : World} {base g : Nat} {e : TypeId} {z : Value} (h : w'.ownsRow base e 26 (.slice (some ⟨g, 0, none⟩) 1 1) 1 (madeCells z.cells (1 * 26)).toList) (hz : z = .agg #[.int .i64 0, .int .i64 0, .int .i64 0, .int .i64 0, .int .i64 0, .slice none 0 0, .int .i64 0, .int .i64 0, .int .i64 0, .int .i64 0, .slice none 0 0, .int .i64 0, .int .i64 0, .int .i64 0, .int .i64 0, .slice none 0 0, .int .i64 0, .int .i64 0, .int .i64 0, .int .i64 0, .slice none 0 0, .int .i64 0, .int .i64 0, .int .i64 0, .int .i64 0, .slice none 0 0] := by rfl) : w'.heap[g]? = some (.cells #[.int .i64 0, .int .i64 0, .int .i64 0, .int .i64 0, .int .i64 0, .slice none 0 0, .int .i64 0, .int .i64 0, .int .i64 0, .int .i64 0, .slice none 0 0, .int .i64 0, .int .i64 0, .int .i64 0, .int .i64 0, .slice none 0 0, .int .i64 0, .int .i64 0, .int .i64 0, .int .i64 0, .slice none 0 0, .int .i64 0, .int .i64 0, .int .i64 0, .int .i64 0, .slice none 0 0] e (0, 0)) := by
  subst hz
  rcases h.2 with ⟨h, -⟩ | ⟨g', cap, cur, hv, -, hh, h1, h2, h3, h4⟩
  · cases h
  · injection hv with a b c
    injection a with a
    injection a with a
    subst a c
    rw [hh]
    have e : cur = #[.int .i64 0, .int .i64 0, .int .i64 0, .int .i64 0, .int .i64 0, .slice none 0 0, .int .i64 0, .int .i64 0, .int .i64 0, .int .i64 0, .slice none 0 0, .int .i64 0, .int .i64 0, .int .i64 0, .int .i64 0, .slice none 0 0, .int .i64 0, .int .i64 0, .int .i64 0, .int .i64 0, .slice none 0 0, .int .i64 0, .int .i64 0, .int .i64 0, .int .i64 0, .slice none 0 0] := by
      apply Array.toList_inj.1
      rw [← List.take_of_length_le (l := cur.toList) (i := 1 * 26) (by simp [h3]), h4]
      kernel_rfl
    rw [e]
theorem ents_one {w : World} {b : Nat} {x : Tm} {s : Value} {fr : Nat × Nat} (h : w.heap[b]? = some (.cells #[.int .i64 x.k, .int .i64 x.i, .int .i64 x.j, .int .i64 x.n, s, .int .i64 1] 45 fr)) (hf : x.fine) (hl : Lies w x.kids s) : LiesE w [⟨x, 1⟩] (.slice (some ⟨b, 0, none⟩) 1 1) := by
  refine ⟨some ⟨b, 0, none⟩, 1, fun _ => s, rfl, Nat.le_refl _, by unfold maxLen; decide, fun e he => ?_, fun i hi => ?_, fun i hi => ?_⟩
  · rw [List.mem_singleton.1 he]; exact ⟨hf, by show I64 1; unfold I64; decide⟩
  · obtain rfl : i = 0 := by simpa using hi
    refine ⟨b, 0, rfl, ?_⟩
    exact ⟨by rw [cell_of_row w b _ _ _ fr h]; rfl, by rw [cell_of_row w b _ _ _ fr h]; rfl, by rw [cell_of_row w b _ _ _ fr h]; rfl, by rw [cell_of_row w b _ _ _ fr h]; rfl, by rw [cell_of_row w b _ _ _ fr h]; rfl, by rw [cell_of_row w b _ _ _ fr h]; rfl⟩
  · obtain rfl : i = 0 := by simpa using hi
    exact hl
theorem w1_marked : (sortT 0).markedB = true := by rw [Tm.markedB_eq]; rfl
theorem w1_rightT : (sortT 0).rightB = true := marked_right w1_marked
theorem w1_free : (sortT 0).freeB ≤ 0 := by decide
theorem w1_right : rightC ([⟨sortT 0, 1⟩] : List En) = true := by
  unfold rightC rightE rightE
  simp [w1_marked, w1_free]
theorem w1_low : lowC 996 ([⟨sortT 0, 1⟩] : List En) = true := by decide
theorem w1_lift : (sortT 0).liftB 1 0 = sortT 0 := liftB_stays (by decide) w1_rightT (by decide)
theorem w1_strip : (sortT 0).stripB = sortT 0 := by rw [stripB_good w1_rightT]; rfl
theorem w1_self : heSelf 1 (sortT 0) (.mk 2 0 0 0 []) = (⟨1, sortT 0, sortT 0, varT 0, varT 0, nodeT 21 [pointsT 1, pointT 1 (sortT 0) (varT 0)]⟩ : He) := by
  unfold heSelf
  rw [if_pos]
  unfold heR2 plainL
  simp [sort_plain (i := 0) (by decide), (show (Tm.mk 2 0 0 0 []).plainB = true from var0_plain), levN]

def ways1r8_0 : Oper := { dst := some 30, op := Go.Op.move (Go.Operand.tmp 3), type := 27, pos := "shape.go:27", after := #[], guard := none }
def ways1r8_1 : Oper := { dst := some 31, op := Go.Op.move (Go.Operand.tmp 4), type := 3, pos := "shape.go:27", after := #[], guard := none }
def ways1r8_2 : Oper := { dst := some 32, op := Go.Op.fieldAddr 45 (Go.Operand.tmp 5) 1, type := 0, pos := "shape.go:27", after := #[], guard := none }
def ways1r8_3 : Oper := { dst := some 33, op := Go.Op.load 3 (Go.Operand.tmp 32), type := 3, pos := "shape.go:27", after := #[{ on := 2, ground := Go.Ground.data }], guard := none }
def ways1r8_4 : Oper := { dst := some 34, op := Go.Op.fieldAddr 45 (Go.Operand.tmp 5) 0, type := 0, pos := "shape.go:27", after := #[], guard := none }
def ways1r8_5 : Oper := { dst := some 35, op := Go.Op.load 25 (Go.Operand.tmp 34), type := 25, pos := "shape.go:27", after := #[{ on := 4, ground := Go.Ground.data }], guard := none }
def ways1r8_6 : Oper := { dst := some 36, op := Go.Op.move (Go.Operand.tmp 6), type := 3, pos := "shape.go:27", after := #[], guard := none }
def ways1r8_7 : Oper := { dst := some 37, op := Go.Op.binOp Go.BinOp.add 3 (Go.Operand.tmp 36) (Go.Operand.const (Go.Value.int Go.IntKind.i64 1)) 3, type := 3, pos := "shape.go:27", after := #[{ on := 6, ground := Go.Ground.data }], guard := none }
def ways1r8_8 : Oper := { dst := some 38, op := Go.Op.call { callee := Go.Callee.value (Go.Operand.func 22), args := #[Go.Operand.tmp 35, Go.Operand.tmp 37, Go.Operand.const (Go.Value.int Go.IntKind.i64 0)], argTypes := #[25, 3, 3] }, type := 25, pos := "shape.go:27", after := #[{ on := 5, ground := Go.Ground.data }, { on := 7, ground := Go.Ground.data }], guard := none }
def ways1r8_9 : Oper := { dst := some 39, op := Go.Op.call { callee := Go.Callee.value (Go.Operand.func 21), args := #[Go.Operand.tmp 38], argTypes := #[25] }, type := 25, pos := "shape.go:27", after := #[{ on := 8, ground := Go.Ground.data }, { on := 8, ground := Go.Ground.chain }], guard := none }
def ways1r8_10 : Oper := { dst := some 40, op := Go.Op.move (Go.Operand.tmp 6), type := 3, pos := "shape.go:27", after := #[], guard := none }
def ways1r8_11 : Oper := { dst := some 41, op := Go.Op.build 25 #[(0, Go.Operand.const (Go.Value.int Go.IntKind.i64 2)), (1, Go.Operand.tmp 40)], type := 25, pos := "shape.go:27", after := #[{ on := 10, ground := Go.Ground.data }], guard := none }
def ways1r8_12 : Oper := { dst := some 42, op := Go.Op.call { callee := Go.Callee.value (Go.Operand.func 20), args := #[Go.Operand.tmp 33, Go.Operand.tmp 39, Go.Operand.tmp 41], argTypes := #[3, 25, 25] }, type := 34, pos := "shape.go:27", after := #[{ on := 3, ground := Go.Ground.data }, { on := 9, ground := Go.Ground.data }, { on := 11, ground := Go.Ground.data }, { on := 9, ground := Go.Ground.chain }], guard := none }
def ways1r8_13 : Oper := { dst := some 43, op := Go.Op.indexAddr 27 (Go.Operand.tmp 30) (Go.Operand.tmp 31), type := 0, pos := "shape.go:27", after := #[{ on := 0, ground := Go.Ground.data }, { on := 1, ground := Go.Ground.data }, { on := 0, ground := Go.Ground.phase }, { on := 1, ground := Go.Ground.phase }, { on := 2, ground := Go.Ground.phase }, { on := 3, ground := Go.Ground.phase }, { on := 4, ground := Go.Ground.phase }, { on := 5, ground := Go.Ground.phase }, { on := 6, ground := Go.Ground.phase }, { on := 7, ground := Go.Ground.phase }, { on := 8, ground := Go.Ground.phase }, { on := 9, ground := Go.Ground.phase }, { on := 10, ground := Go.Ground.phase }, { on := 11, ground := Go.Ground.phase }, { on := 12, ground := Go.Ground.phase }], guard := none }
def ways1r8_14 : Oper := { dst := none, op := Go.Op.store 34 (Go.Operand.tmp 43) (Go.Operand.tmp 42), type := 0, pos := "shape.go:27", after := #[{ on := 13, ground := Go.Ground.data }, { on := 12, ground := Go.Ground.data }, { on := 12, ground := Go.Ground.chain }, { on := 0, ground := Go.Ground.phase }, { on := 1, ground := Go.Ground.phase }, { on := 2, ground := Go.Ground.phase }, { on := 3, ground := Go.Ground.phase }, { on := 4, ground := Go.Ground.phase }, { on := 5, ground := Go.Ground.phase }, { on := 6, ground := Go.Ground.phase }, { on := 7, ground := Go.Ground.phase }, { on := 8, ground := Go.Ground.phase }, { on := 9, ground := Go.Ground.phase }, { on := 10, ground := Go.Ground.phase }, { on := 11, ground := Go.Ground.phase }, { on := 12, ground := Go.Ground.phase }], guard := none }
set_option maxRecDepth 20000 in
set_option maxHeartbeats 4000000 in
theorem ways1_any (x : Tm) (P : Nat → Prop) (w : World) (b0 : Nat) (sx : Value) (hfx : x.fine) (hlx : LiesQ w P x.kids sx) (hb0 : w.heap[b0]? = some (.cells #[.int .i64 x.k, .int .i64 x.i, .int .i64 x.j, .int .i64 x.n, sx, .int .i64 1] 45 (0, 0))) (hx : x = sortT 0) : Calls Tryz.prog 6 #[.slice (some ⟨b0, 0, none⟩) 1 1] w fun e w' => ∃ (g cap : Nat) (D : Array Value) (fr : Nat × Nat), e = .returned (.slice (some ⟨g, 0, none⟩) 1 cap) ∧ w'.heap[g]? = some (.cells D 34 fr) ∧ D[0]? = some (.int .i64 1) ∧ D[11]? = some (.int .i64 2) ∧ w.heap.size ≤ g ∧ Kept w w' := by
  have Gx := Lib.hid hfx
  clear hfx
  obtain ⟨ax, cx, Sx, rfl, -⟩ := hlx.out
  have HB0 := Lib.hid hb0
  clear hb0
  have HX := Lib.hid hx
  clear hx
  obtain ⟨i0, hi, hz0, hz1, hz2⟩ := info_parts info_het
  have HI := Lib.hid (And.intro hi (And.intro hz0 (And.intro hz1 hz2)))
  clear hi hz0 hz1 hz2
  obtain ⟨de, de1, de2⟩ := under_of 45 (by kernel_rfl)
  obtain ⟨du, hu1, hu2⟩ := under_term
  go_enter Tryz.func6, Tryz.ntmps6
  go_upto_region 1 with fail
  refine at_code (fun V0 hV0 => ?_)
  have k1 : Kept w V0 := by rw [← hV0]; exact kept_refl _
  have Z0 : Hid (V0.heap.size = w.heap.size + 0) := by show _ = _; rw [← hV0]; rfl
  clear hV0
  have Kk3 := Lib.hid k1
  clear k1
  have HLx : Hid (LiesQ V0 (Par w V0.heap.size [] P) x.kids _) := (par_in _ _ hlx).later Kk3.out
  clear hlx
  have kvV0 : SeesN V0 V0.heap.size V0 := seesN_kept _ (kept_refl _)
  go_wp2_with fail
  clear kvV0
  have hq6 := ctxright_any ([⟨x, 1⟩] : List En) V0 _ (ents_one (blk_at HB0.out Kk3.out) Gx.out HLx.out.lies)
  rw [show rightC ([⟨x, 1⟩] : List En) = true from by rw [HX.out]; exact w1_right] at hq6
  refine hq6.mono ?_
  clear hq6
  rintro e w4 ⟨rfl, k5⟩
  have Kk7 := Lib.hid k5
  clear k5
  have kvV0 : SeesN V0 V0.heap.size w4 := seesN_kept _ Kk7.out
  go_wp2_with fail
  clear kvV0
  have hq10 := lowctx_any ([⟨x, 1⟩] : List En) 996 w4 _ (ents_one (blk_at HB0.out (kept_trans Kk3.out Kk7.out)) Gx.out (HLx.out.later Kk7.out).lies)
  rw [show lowC 996 ([⟨x, 1⟩] : List En) = true from by rw [HX.out]; exact w1_low] at hq10
  refine hq10.mono ?_
  clear hq10
  rintro e w8 ⟨rfl, k9⟩
  have Kk11 := Lib.hid k9
  clear k9
  have kvV0 : SeesN V0 V0.heap.size w8 := seesN_kept _ (kept_trans Kk7.out Kk11.out)
  go_wp2_with (at_make; refine wpList_make_full _ rfl _ _ 27 rfl w.heap.size 34 i0 _ 26 (by kernel_rfl) HI.out.1 HI.out.2.1 HI.out.2.2.1 _ _ _ _ 1 rfl rfl rfl rfl ?bytes ?max ?base ?next)
  case bytes => rw [HI.out.2.2.2]; decide
  case max => unfold maxLen; decide
  case base => exact Below.size (kept_trans Kk3.out (kept_trans Kk7.out Kk11.out))
  case next =>
  intro W12 hoW12 hgW12
  clear kvV0
  have k13 := kept_grown hgW12
  have Hx14 := Lib.hid (made_one hoW12)
  clear hgW12 hoW12
  have Kk15 := Lib.hid k13
  clear k13
  have HG16 : Hid (V0.heap.size ≤ w8.heap.size) := (Below.size (kept_trans Kk7.out Kk11.out))
  have XL17 : Hid (XLt (w8.heap.size :: []) W12) := (xlt_more (xlt_nil _) Kk15.out (block_lt Hx14.out))
  have kvV0 : SeesN V0 V0.heap.size W12 := seesN_kept _ (kept_trans Kk7.out (kept_trans Kk11.out Kk15.out))
  go_wp2_with fail
  clear kvV0
  go_loopw [20] (fun iv wr => (iv = .int .i64 0 ∧ wr = W12) ∨ (iv = .int .i64 1 ∧ ∃ C : Array Value, wr.heap[w8.heap.size]? = some (.cells C 34 (0, 0)) ∧ C[0]? = some (.int .i64 1) ∧ C[11]? = some (.int .i64 2) ∧ Kept w wr)) (fun iv _ => 1 - (intOf iv).toNat)
  case atStart => exact Or.inl ⟨rfl, rfl⟩
  case round =>
    rcases hrel with ⟨rfl, hwr⟩ | ⟨rfl, C, hC, hC0, hC1, hk⟩
    · rw [hwr]
      clear hwr
      have kvV0 : SeesN V0 V0.heap.size W12 := seesN_kept _ (kept_trans Kk7.out (kept_trans Kk11.out Kk15.out))
      go_wp2_with (refine stop_load 45 (.tmp 23) rfl ?_)
      intro _
      refine wpList_load_part (b0) 0 45 (.tmp 23) #[.int .i64 x.k, .int .i64 x.i, .int .i64 x.j, .int .i64 x.n, (.slice ax x.kids.length cx), .int .i64 1] de (blk_at HB0.out (kept_trans Kk3.out (kept_trans Kk7.out (kept_trans Kk11.out Kk15.out)))) (by rfl) rfl (by rfl) (by rfl) de1 (by cases de <;> first | rfl | exact de2) (by kernel_rfl) ?_
      go_wp2_with (refine stop_store 45 (.tmp 5) (.tmp 24) rfl ?_)
      intro _
      refine wpList_store_part_n (by rfl) 45 (.tmp 5) (.tmp 24) rfl (W12.heap.size) 0 #[.int .i64 x.k, .int .i64 x.i, .int .i64 x.j, .int .i64 x.n, (.slice ax x.kids.length cx), .int .i64 1] (by rfl) (by rfl) 45 (by kernel_rfl) (row_ok rfl) ?_
      intro W18 hW18
      clear kvV0
      obtain ⟨k21, x20, z22⟩ := alloc1 hW18
      have Kk23 := Lib.hid k21
      clear k21
      have Hx20 := Lib.hid x20
      have Hz22 := Lib.hid z22
      clear x20 z22 hW18
      have HG24 : Hid (V0.heap.size ≤ W12.heap.size) := (Below.size (kept_trans Kk7.out (kept_trans Kk11.out Kk15.out)))
      have AP25 : Hid (w8.heap.size < W12.heap.size) := block_lt Hx14.out
      have XL26 : Hid (XLt (W12.heap.size :: (w8.heap.size :: [])) W18) := (xlt_more XL17.out Kk23.out (by have := Hz22.out; omega))
      refine ⟨_, #[.int .i64 x.k, .int .i64 x.i, .int .i64 x.j, .int .i64 x.n, (.slice ax x.kids.length cx), .int .i64 1], Hx20.out, rfl, Nat.le_of_ble_eq_true rfl, ?_⟩
      intro W19 hW19
      have KB27 := Lib.hid (kept_set (kept_trans Kk3.out (kept_trans Kk7.out (kept_trans Kk11.out (kept_trans Kk15.out Kk23.out)))) hW19 (by have := HG24.out; have := Z0.out; omega))
      have KB28 := Lib.hid (kept_set (kept_trans Kk7.out (kept_trans Kk11.out (kept_trans Kk15.out Kk23.out))) hW19 HG24.out)
      have HL29 : Hid (LiesQ W19 (Par w V0.heap.size (W12.heap.size :: (w8.heap.size :: [])) P) x.kids _) := par_set (par_grow HLx.out (kept_trans Kk7.out (kept_trans Kk11.out (kept_trans Kk15.out Kk23.out))) (List.forall_mem_cons.2 ⟨(Or.inr (Nat.le_trans (Below.size (kept_trans Kk7.out (kept_trans Kk11.out Kk15.out))) (Nat.le_refl W12.heap.size))), (List.forall_mem_cons.2 ⟨(Or.inr (Nat.le_trans (Below.size (kept_trans Kk7.out Kk11.out)) (Nat.le_refl w8.heap.size))), (fun _ h => nomatch h)⟩)⟩)) hW19 (List.mem_cons_self ..) (by have := HG24.out; have := Z0.out; omega)
      have XL30 := Lib.hid (xlt_set XL26.out hW19)
      have HX31 := Lib.hid (blk_other (blk_at Hx14.out Kk23.out) hW19 (by have := AP25.out; omega))
      have HX32 := Lib.hid (blk_same Hx20.out hW19)
      clear hW19
      have ld33 := partN_cell (r := V0.heap.size) HX32.out trivial 5 (.int .i64 1) rfl
      have kvV0 : SeesN V0 V0.heap.size W19 := seesN_kept _ KB28.out
      have kvW19 : SeesN W19 V0.heap.size W19 := seesN_kept _ (kept_refl _)
      go_wp2_with fail
      clear kvV0
      clear kvW19
      obtain ⟨W34, h35⟩ : ∃ x, World.drew W19 = x := ⟨_, rfl⟩
      have k36 : Kept W19 W34 := by rw [← h35]; exact kept_drew (kept_refl _)
      have Kk37 := Lib.hid k36
      clear k36
      refine wp_region_X (S := SeesN W34 V0.heap.size) 14 (by kernel_rfl) ?_ (fun hHeld => ?_)
      · (try dsimp only)
        rw [h35]
        exact seesN_kept _ (kept_refl _)
      rw [h35] at hHeld ⊢
      clear h35
      refine takeX_any 0 30 ways1r8_0 (v := ?_) (Or.inl ⟨by rfl, ?_⟩) ?_ (fun _ => hHeld)
      rotate_left 1
      · ((intro w hSw; (try dsimp only at hSw); unfold ways1r8_0; go_simp) <;> with_reducible rfl)
      (try simp only [Act.put, List.setIfInBounds_toArray, List.set_cons_zero, List.set_cons_succ])
      refine takeX_any 1 31 ways1r8_1 (v := ?_) (Or.inl ⟨by rfl, ?_⟩) ?_ (fun _ => hHeld)
      rotate_left 1
      · ((intro w hSw; (try dsimp only at hSw); unfold ways1r8_1; go_simp) <;> with_reducible rfl)
      (try simp only [Act.put, List.setIfInBounds_toArray, List.set_cons_zero, List.set_cons_succ])
      refine takeX_any 2 32 ways1r8_2 (v := ?_) (Or.inl ⟨by rfl, ?_⟩) ?_ (fun _ => hHeld)
      rotate_left 1
      · ((intro w hSw; (try dsimp only at hSw); unfold ways1r8_2; go_simp) <;> with_reducible rfl)
      (try simp only [Act.put, List.setIfInBounds_toArray, List.set_cons_zero, List.set_cons_succ])
      refine takeX_at 3 33 ways1r8_3 (v := ?_) (Or.inl ⟨by rfl, ?_⟩) ?_
      rotate_left 1
      · ((intro w hSw; (try dsimp only at hSw); have qV0 := seesN_of (kept_trans KB28.out Kk37.out) hSw; have qW19 := seesN_of Kk37.out hSw; unfold ways1r8_3; go_simp) <;> with_reducible rfl)
      (try simp only [Act.put, List.setIfInBounds_toArray, List.set_cons_zero, List.set_cons_succ])
      refine takeX_any 4 34 ways1r8_4 (v := ?_) (Or.inl ⟨by rfl, ?_⟩) ?_ (fun _ => hHeld)
      rotate_left 1
      · ((intro w hSw; (try dsimp only at hSw); unfold ways1r8_4; go_simp) <;> with_reducible rfl)
      (try simp only [Act.put, List.setIfInBounds_toArray, List.set_cons_zero, List.set_cons_succ])
      refine takeX_at 5 35 ways1r8_5 (yields_part (W12.heap.size) 0 25 (.tmp 34) #[.int .i64 x.k, .int .i64 x.i, .int .i64 x.j, .int .i64 x.n, (.slice ax x.kids.length cx)] du (fun _ h => seesN_blk HX32.out trivial (seesN_of Kk37.out h)) (by rfl) rfl (by rfl) (by rfl) hu1 (by cases du <;> first | rfl | exact hu2) size_term) ?_
      (try simp only [Act.put, List.setIfInBounds_toArray, List.set_cons_zero, List.set_cons_succ])
      refine takeX_any 6 36 ways1r8_6 (v := ?_) (Or.inl ⟨by rfl, ?_⟩) ?_ (fun _ => hHeld)
      rotate_left 1
      · ((intro w hSw; (try dsimp only at hSw); unfold ways1r8_6; go_simp) <;> with_reducible rfl)
      (try simp only [Act.put, List.setIfInBounds_toArray, List.set_cons_zero, List.set_cons_succ])
      refine takeX_any 7 37 ways1r8_7 (v := ?_) (Or.inl ⟨by rfl, ?_⟩) ?_ (fun _ => hHeld)
      rotate_left 1
      · ((intro w hSw; (try dsimp only at hSw); unfold ways1r8_7; go_simp) <;> with_reducible rfl)
      (try simp only [Act.put, List.setIfInBounds_toArray, List.set_cons_zero, List.set_cons_succ])
      refine takeX_any 10 40 ways1r8_10 (v := ?_) (Or.inl ⟨by rfl, ?_⟩) ?_ (fun _ => hHeld)
      rotate_left 1
      · ((intro w hSw; (try dsimp only at hSw); unfold ways1r8_10; go_simp) <;> with_reducible rfl)
      (try simp only [Act.put, List.setIfInBounds_toArray, List.set_cons_zero, List.set_cons_succ])
      refine takeX_any 11 41 ways1r8_11 (v := ?_) (Or.inl ⟨by rfl, ?_⟩) ?_ (fun _ => hHeld)
      rotate_left 1
      · ((intro w hSw; (try dsimp only at hSw); unfold ways1r8_11; go_simp) <;> with_reducible rfl)
      (try simp only [Act.put, List.setIfInBounds_toArray, List.set_cons_zero, List.set_cons_succ])
      refine wpAnyX_ready (rs := [8]) (by kernel_rfl) (by simp) ?_
      refine AllReadyX.cons (o := ways1r8_8) rfl (fun K hK => ?_) ?_
      · unfold ways1r8_8
        go_simp
        have hq40 := (lift_any x 1 0 W34 ((.slice ax x.kids.length cx)) (HL29.out.later Kk37.out).lies (by unfold I64; decide) (by unfold I64; decide) (by rw [HX.out]; decide)).mono (fun _ _ h => h.givesP (P := (Par w V0.heap.size (W12.heap.size :: (w8.heap.size :: [])) P)))
        rw [show Tm.liftB x 1 0 = x from by rw [HX.out]; exact w1_lift] at hq40
        refine hq40.mono ?_
        clear hq40
        rintro e w38 ⟨s41, rfl, hl42, k39⟩
        obtain ⟨a43, c44, S45, rfl, -⟩ := hl42.out
        have Kk46 := Lib.hid k39
        clear k39
        have Hhl42 : Hid (LiesQ w38 (Par w V0.heap.size (W12.heap.size :: (w8.heap.size :: [])) P) x.kids _) := par_give hl42 (Below.size (kept_trans KB28.out Kk37.out)) (xlt_later XL30.out Kk37.out)
        clear hl42
        clear hHeld
        refine hK.out _ _ (fun _ => seesN_kept _ Kk46.out) (fun hHeld => ?_)
        replace hHeld := hHeld (by kernel_rfl)
        clear hK K
        (try simp only [Act.put, List.setIfInBounds_toArray, List.set_cons_zero, List.set_cons_succ])
        refine wpAnyX_ready (rs := [9]) (by kernel_rfl) (by simp) ?_
        refine AllReadyX.cons (o := ways1r8_9) rfl (fun K hK => ?_) ?_
        · unfold ways1r8_9
          go_simp
          have hq49 := (strip_any x w38 ((.slice a43 x.kids.length c44)) Hhl42.out.lies).mono (fun _ _ h => h.givesP (P := (Par w V0.heap.size (W12.heap.size :: (w8.heap.size :: [])) P)))
          rw [show Tm.stripB x = x from by rw [HX.out]; exact w1_strip] at hq49
          refine hq49.mono ?_
          clear hq49
          rintro e w47 ⟨s50, rfl, hl51, k48⟩
          obtain ⟨a52, c53, S54, rfl, -⟩ := hl51.out
          have Kk55 := Lib.hid k48
          clear k48
          have Hhl51 : Hid (LiesQ w47 (Par w V0.heap.size (W12.heap.size :: (w8.heap.size :: [])) P) x.kids _) := par_give hl51 (Below.size (kept_trans KB28.out (kept_trans Kk37.out Kk46.out))) (xlt_later XL30.out (kept_trans Kk37.out Kk46.out))
          clear hl51
          clear hHeld
          refine hK.out _ _ (fun _ => seesN_kept _ (kept_trans Kk46.out Kk55.out)) (fun hHeld => ?_)
          replace hHeld := hHeld (by kernel_rfl)
          clear hK K
          (try simp only [Act.put, List.setIfInBounds_toArray, List.set_cons_zero, List.set_cons_succ])
          refine wpAnyX_ready (rs := [12]) (by kernel_rfl) (by simp) ?_
          refine AllReadyX.cons (o := ways1r8_12) rfl (fun K hK => ?_) ?_
          · unfold ways1r8_12
            go_simp
            have hq58 := hself_any 1 x (.mk 2 0 0 0 []) (Par w V0.heap.size (W12.heap.size :: (w8.heap.size :: [])) P) w47 ((.slice a52 x.kids.length c53)) (.slice none 0 0) (by unfold I64; decide) Gx.out Hhl51.out (mk_fine (show I64 2 from by unfold I64; decide) (show I64 0 from by unfold I64; decide) (show I64 0 from by unfold I64; decide) (show I64 0 from by unfold I64; decide)) (liesQ_nil w47 (Par w V0.heap.size (W12.heap.size :: (w8.heap.size :: [])) P))
            rw [show heSelf 1 x (.mk 2 0 0 0 []) = (⟨1, sortT 0, sortT 0, varT 0, varT 0, nodeT 21 [pointsT 1, pointT 1 (sortT 0) (varT 0)]⟩ : He) from by rw [HX.out]; exact w1_self] at hq58
            refine hq58.mono ?_
            clear hq58
            obtain ⟨U59, hU59⟩ : ∃ qu, (⟨1, sortT 0, sortT 0, varT 0, varT 0, nodeT 21 [pointsT 1, pointT 1 (sortT 0) (varT 0)]⟩ : He) = qu := ⟨_, rfl⟩
            rw [hU59]
            have HU59 := Lib.hid hU59
            clear hU59
            rintro e w56 ⟨s60, s61, s62, s63, s64, rfl, ⟨hl65, hl66, hl67, hl68, hl69⟩, k57⟩
            obtain ⟨a70, c71, S72, rfl, -⟩ := hl65.out
            obtain ⟨a73, c74, S75, rfl, -⟩ := hl66.out
            obtain ⟨a76, c77, S78, rfl, -⟩ := hl67.out
            obtain ⟨a79, c80, S81, rfl, -⟩ := hl68.out
            obtain ⟨a82, c83, S84, rfl, -⟩ := hl69.out
            have Kk85 := Lib.hid k57
            clear k57
            have Hhl65 : Hid (LiesQ w56 (Par w V0.heap.size (W12.heap.size :: (w8.heap.size :: [])) P) U59.a.kids _) := par_give hl65 (Below.size (kept_trans KB28.out (kept_trans Kk37.out (kept_trans Kk46.out Kk55.out)))) (xlt_later XL30.out (kept_trans Kk37.out (kept_trans Kk46.out Kk55.out)))
            have Hhl66 : Hid (LiesQ w56 (Par w V0.heap.size (W12.heap.size :: (w8.heap.size :: [])) P) U59.b.kids _) := par_give hl66 (Below.size (kept_trans KB28.out (kept_trans Kk37.out (kept_trans Kk46.out Kk55.out)))) (xlt_later XL30.out (kept_trans Kk37.out (kept_trans Kk46.out Kk55.out)))
            have Hhl67 : Hid (LiesQ w56 (Par w V0.heap.size (W12.heap.size :: (w8.heap.size :: [])) P) U59.x.kids _) := par_give hl67 (Below.size (kept_trans KB28.out (kept_trans Kk37.out (kept_trans Kk46.out Kk55.out)))) (xlt_later XL30.out (kept_trans Kk37.out (kept_trans Kk46.out Kk55.out)))
            have Hhl68 : Hid (LiesQ w56 (Par w V0.heap.size (W12.heap.size :: (w8.heap.size :: [])) P) U59.y.kids _) := par_give hl68 (Below.size (kept_trans KB28.out (kept_trans Kk37.out (kept_trans Kk46.out Kk55.out)))) (xlt_later XL30.out (kept_trans Kk37.out (kept_trans Kk46.out Kk55.out)))
            have Hhl69 : Hid (LiesQ w56 (Par w V0.heap.size (W12.heap.size :: (w8.heap.size :: [])) P) U59.h.kids _) := par_give hl69 (Below.size (kept_trans KB28.out (kept_trans Kk37.out (kept_trans Kk46.out Kk55.out)))) (xlt_later XL30.out (kept_trans Kk37.out (kept_trans Kk46.out Kk55.out)))
            clear hl65 hl66 hl67 hl68 hl69
            clear hHeld
            refine hK.out _ _ (fun _ => seesN_kept _ (kept_trans Kk46.out (kept_trans Kk55.out Kk85.out))) (fun hHeld => ?_)
            replace hHeld := hHeld (by kernel_rfl)
            clear hK K
            (try simp only [Act.put, List.setIfInBounds_toArray, List.set_cons_zero, List.set_cons_succ])
            refine takeX_any 13 43 ways1r8_13 (v := ?_) (Or.inl ⟨by rfl, ?_⟩) ?_ (fun _ => hHeld)
            rotate_left 1
            · ((intro w hSw; (try dsimp only at hSw); unfold ways1r8_13; go_simp) <;> with_reducible rfl)
            (try simp only [Act.put, List.setIfInBounds_toArray, List.set_cons_zero, List.set_cons_succ])
            refine wpAnyX_ready (rs := [14]) (by kernel_rfl) (by simp) ?_
            refine AllReadyX.cons (o := ways1r8_14) rfl (fun K hK => ?_) ?_
            · unfold ways1r8_14
              refine step_store_part rfl 34 (.tmp 43) (.tmp 42) rfl (w8.heap.size) 0 #[.int .i64 U59.i, .int .i64 U59.a.k, .int .i64 U59.a.i, .int .i64 U59.a.j, .int .i64 U59.a.n, (.slice a70 U59.a.kids.length c71), .int .i64 U59.b.k, .int .i64 U59.b.i, .int .i64 U59.b.j, .int .i64 U59.b.n, (.slice a73 U59.b.kids.length c74), .int .i64 U59.x.k, .int .i64 U59.x.i, .int .i64 U59.x.j, .int .i64 U59.x.n, (.slice a76 U59.x.kids.length c77), .int .i64 U59.y.k, .int .i64 U59.y.i, .int .i64 U59.y.j, .int .i64 U59.y.n, (.slice a79 U59.y.kids.length c80), .int .i64 U59.h.k, .int .i64 U59.h.i, .int .i64 U59.h.j, .int .i64 U59.h.n, (.slice a82 U59.h.kids.length c83)] rfl rfl 34 (by kernel_rfl) (row_ok rfl) _ #[.int .i64 U59.i, .int .i64 U59.a.k, .int .i64 U59.a.i, .int .i64 U59.a.j, .int .i64 U59.a.n, (.slice a70 U59.a.kids.length c71), .int .i64 U59.b.k, .int .i64 U59.b.i, .int .i64 U59.b.j, .int .i64 U59.b.n, (.slice a73 U59.b.kids.length c74), .int .i64 U59.x.k, .int .i64 U59.x.i, .int .i64 U59.x.j, .int .i64 U59.x.n, (.slice a76 U59.x.kids.length c77), .int .i64 U59.y.k, .int .i64 U59.y.i, .int .i64 U59.y.j, .int .i64 U59.y.n, (.slice a79 U59.y.kids.length c80), .int .i64 U59.h.k, .int .i64 U59.h.i, .int .i64 U59.h.j, .int .i64 U59.h.n, (.slice a82 U59.h.kids.length c83)] (blk_at HX31.out (kept_trans Kk37.out (kept_trans Kk46.out (kept_trans Kk55.out Kk85.out)))) rfl (Nat.le_of_ble_eq_true rfl) ?_
              intro W86 hW86
              have KB87 := Lib.hid (kept_set (kept_trans KB27.out (kept_trans Kk37.out (kept_trans Kk46.out (kept_trans Kk55.out Kk85.out)))) hW86 (by have := HG16.out; have := Z0.out; omega))
              have KB88 := Lib.hid (kept_set (kept_trans KB28.out (kept_trans Kk37.out (kept_trans Kk46.out (kept_trans Kk55.out Kk85.out)))) hW86 HG16.out)
              have HL89 : Hid (LiesQ W86 (Par w V0.heap.size (W12.heap.size :: (w8.heap.size :: [])) P) x.kids _) := par_set (HL29.out.later (kept_trans Kk37.out (kept_trans Kk46.out (kept_trans Kk55.out Kk85.out)))) hW86 (List.mem_cons_of_mem _ (List.mem_cons_self ..)) (by have := HG16.out; have := Z0.out; omega)
              have HL90 : Hid (LiesQ W86 (Par w V0.heap.size (W12.heap.size :: (w8.heap.size :: [])) P) x.kids _) := par_set (Hhl42.out.later (kept_trans Kk55.out Kk85.out)) hW86 (List.mem_cons_of_mem _ (List.mem_cons_self ..)) (by have := HG16.out; have := Z0.out; omega)
              have HL91 : Hid (LiesQ W86 (Par w V0.heap.size (W12.heap.size :: (w8.heap.size :: [])) P) x.kids _) := par_set (Hhl51.out.later Kk85.out) hW86 (List.mem_cons_of_mem _ (List.mem_cons_self ..)) (by have := HG16.out; have := Z0.out; omega)
              have HL92 : Hid (LiesQ W86 (Par w V0.heap.size (W12.heap.size :: (w8.heap.size :: [])) P) U59.a.kids _) := par_set Hhl65.out hW86 (List.mem_cons_of_mem _ (List.mem_cons_self ..)) (by have := HG16.out; have := Z0.out; omega)
              have HL93 : Hid (LiesQ W86 (Par w V0.heap.size (W12.heap.size :: (w8.heap.size :: [])) P) U59.b.kids _) := par_set Hhl66.out hW86 (List.mem_cons_of_mem _ (List.mem_cons_self ..)) (by have := HG16.out; have := Z0.out; omega)
              have HL94 : Hid (LiesQ W86 (Par w V0.heap.size (W12.heap.size :: (w8.heap.size :: [])) P) U59.x.kids _) := par_set Hhl67.out hW86 (List.mem_cons_of_mem _ (List.mem_cons_self ..)) (by have := HG16.out; have := Z0.out; omega)
              have HL95 : Hid (LiesQ W86 (Par w V0.heap.size (W12.heap.size :: (w8.heap.size :: [])) P) U59.y.kids _) := par_set Hhl68.out hW86 (List.mem_cons_of_mem _ (List.mem_cons_self ..)) (by have := HG16.out; have := Z0.out; omega)
              have HL96 : Hid (LiesQ W86 (Par w V0.heap.size (W12.heap.size :: (w8.heap.size :: [])) P) U59.h.kids _) := par_set Hhl69.out hW86 (List.mem_cons_of_mem _ (List.mem_cons_self ..)) (by have := HG16.out; have := Z0.out; omega)
              have XL97 := Lib.hid (xlt_set (xlt_later XL30.out (kept_trans Kk37.out (kept_trans Kk46.out (kept_trans Kk55.out Kk85.out)))) hW86)
              have HX98 := Lib.hid (blk_same (blk_at HX31.out (kept_trans Kk37.out (kept_trans Kk46.out (kept_trans Kk55.out Kk85.out)))) hW86)
              have HX99 := Lib.hid (blk_other (blk_at HX32.out (kept_trans Kk37.out (kept_trans Kk46.out (kept_trans Kk55.out Kk85.out)))) hW86 (by have := AP25.out; omega))
              (try clear ld33)
              clear hW86
              have ld100 := partN_cell (r := V0.heap.size) HX99.out trivial 5 (.int .i64 1) rfl
              clear hHeld
              refine hK.out _ _ (fun h => Bool.noConfusion (show true = false from h)) (fun _ => ?_)
              clear hK K
              (try simp only [Act.put])
              refine wpAnyX_done (by kernel_rfl) ?_ _
              have kvV0 : SeesN V0 V0.heap.size W86 := seesN_kept _ KB88.out
              have kvW86 : SeesN W86 V0.heap.size W86 := seesN_kept _ (kept_refl _)
              go_wp2
              go_roundw
              case rel => exact Or.inr ⟨by first | rfl | go_num, _, HX98.out, (congrArg (fun z => some (Value.int .i64 z)) (by rw [← HU59.out] <;> rfl : U59.i = 1)), (congrArg (fun z => some (Value.int .i64 z)) (by rw [← HU59.out] <;> rfl : U59.x.k = 2)), KB87.out⟩
              case measure => simp [intOf]
            exact AllReadyX.nil
          exact AllReadyX.nil
        exact AllReadyX.nil
      exact AllReadyX.nil
    · go_wp2
      go_ret
      exact ⟨_, 1, C, (0, 0), rfl, hC, hC0, hC1, (Below.size (kept_trans Kk3.out (kept_trans Kk7.out Kk11.out))), hk⟩

end Go.Proofs.YtgododpkbiaacaaGreat

namespace Go.Proofs.YtgododpkbiaacaaGreat
open Go.RowKit

/-- A test that may be true; what it says if it is not. -/
def GivesG (p : Prop) (w : World) (e : Ending) (w' : World) : Prop := ∃ g : Bool, e = .returned (.bool g) ∧ (g = false → p) ∧ Kept w w'

end Go.Proofs.YtgododpkbiaacaaGreat

namespace Go.Proofs.YtgododpkbiaacaaGreat
open Go.RowKit

set_option maxHeartbeats 1000000 in
theorem greatsZ_any (l : List Tm) (M : Nat) (hM : M ≤ 10000) (w : World) (ls : Value) (hl : Lies w l ls) :
    Calls Tryz.prog 17 #[ls, .int .i64 (M : Int)] w (GivesG (l.length ≤ M ∧ ∀ u ∈ l, u.size ≤ 10000) w) := by
  obtain ⟨a, cap, S, rfl, hc, hm, -, hn, hk⟩ := hl.out
  unfold maxLen at hm
  have HN := Lib.hid hn
  have HK := Lib.hid hk
  clear hl hn hk
  go_enter Tryz.func17, Tryz.ntmps17
  by_cases hlen : M < l.length
  · have e1 : decide ((M : Int) < (l.length : Int)) = true := decide_eq_true (by omega)
    have e2 : decide (M < l.length) = true := decide_eq_true hlen
    go_wp2
    go_ret
    exact ⟨true, rfl, (fun h => by cases h), Below.refl _ _⟩
  have e1 : decide ((M : Int) < (l.length : Int)) = false := decide_eq_false (by omega)
  have e2 : decide (M < l.length) = false := decide_eq_false hlen
  go_wp2
  go_loopw [5, 6] (fun nv iv wr => ∃ (k : Nat) (n : Int), k ≤ l.length ∧ iv = .int .i64 k ∧ nv = .int .i64 n ∧ 0 ≤ n ∧ n ≤ (M : Int) + 1 ∧ Hid (n ≤ (M : Int) → ∀ j (h : j < l.length), j < k → (l[j]).size ≤ 10000) ∧ Kept w wr) (fun _ i _ => l.length - (intOf i).toNat)
  case atStart => exact ⟨0, 0, Nat.zero_le _, rfl, rfl, by omega, by omega, fun _ j _ h => by omega, kept_start _⟩
  case round =>
    obtain ⟨k, n, hk, rfl, rfl, hn1, hn2, hrel, hb⟩ := hrel
    by_cases hlt : k < l.length
    · by_cases hnm : n ≤ (M : Int)
      · obtain ⟨b, o, rfl, hx⟩ := HN.out k hlt
        obtain ⟨c0, c1, c2, c3, c4⟩ := hx.below hb hx.lt
        have hq := HK.out k hlt
        obtain ⟨a', cap', S', hS, -⟩ := hq.out
        rw [hS] at c4 hq
        have HQ := Lib.hid (hq.keep hb)
        clear hS hq
        go_wp2_with fail
        refine (weigh_any l[k] _ _ _ _ HQ.out (by omega) (by omega) (by omega) (by omega)).mono ?_
        rintro e w' ⟨r, rfl, hr1, hr2, hr3, hb'⟩
        have HR3 := Lib.hid hr3
        have HB' := kept_call hb hb'
        clear hb' hb hr3 c0 c1 c2 c3 c4
        go_wp2
        go_roundw
        case rel =>
          refine ⟨k + 1, n + r, by omega, by go_num, rfl, by omega, by omega, ?_, HB'⟩
          intro hle j hj hjk
          by_cases e : j = k
          · subst e
            obtain ⟨e4, -⟩ := HR3.out (by omega)
            omega
          · exact hrel.out hnm j hj (by omega)
        case measure => simp [intOf]; omega
      · go_wp2
        go_ret
        exact ⟨_, rfl, fun h => absurd h (by simp <;> omega), hb⟩
    · have : k = l.length := by omega
      subst this
      go_wp2
      all_goals go_ret
      all_goals
        refine ⟨_, rfl, fun h => ⟨by omega, fun u hu => ?_⟩, hb⟩
        have hle : n ≤ (M : Int) := by simpa using h
        obtain ⟨j, hj, rfl⟩ := List.getElem_of_mem hu
        have := hrel.out hle j hj hj
        omega
set_option maxRecDepth 20000 in
set_option maxHeartbeats 4000000 in
theorem lv6_any (i : Int) (P : Nat → Prop) (w : World) (hri : I64 i) : Calls Tryz.prog 31 #[.int .i64 i] w (GivesP P (varT i) w) := by
  have Ri := Lib.hid hri
  clear hri
  obtain ⟨du, hu1, hu2⟩ := under_term
  go_enter Tryz.func31, Tryz.ntmps31
  go_upto_region 1 with fail
  refine at_code (fun V0 hV0 => ?_)
  obtain ⟨k2, x1, z3⟩ := alloc1 hV0
  have Kk4 := Lib.hid k2
  clear k2
  have Hx1 := Lib.hid x1
  have Z0 := Lib.hid z3
  clear z3 x1 hV0
  have kvV0 : Sees V0 (w.heap.size) V0 := sees_kept _ (kept_refl _)
  go_wp2_with (refine stop_store 25 (.tmp 2) (.tmp 4) rfl ?_)
  intro _
  refine wpList_store_part_n (by rfl) 25 (.tmp 2) (.tmp 4) rfl (w.heap.size) 0 #[.int .i64 2, .int .i64 i, .int .i64 0, .int .i64 0, .slice none 0 0] (by rfl) (by rfl) 25 size_term (row_ok rfl) ?_
  intro W5 hW5
  clear kvV0
  subst hW5
  refine ⟨_, #[.int .i64 2, .int .i64 i, .int .i64 0, .int .i64 0, .slice none 0 0], Hx1.out, rfl, Nat.le_of_ble_eq_true rfl, ?_⟩
  intro W6 hW6
  go_wp2_with fail
  refine bodyPost_ret (results_cell_row rfl _ _ (w.heap.size) 25 _ _ du rfl (blk_same Hx1.out hW6) hu1 (by cases du <;> first | rfl | exact hu2) size_term) rfl ?_
  exact ⟨_, rfl, par_end (par_row' (liesQ_nil V0 (Par w V0.heap.size [] P)) hW6 (by omega) (by have := Z0.out; omega)) (by have := Z0.out; omega), kept_set Kk4.out hW6 (by omega)⟩

set_option maxRecDepth 20000 in
set_option maxHeartbeats 4000000 in
theorem ls6_any (i : Int) (P : Nat → Prop) (w : World) (hri : I64 i) : Calls Tryz.prog 30 #[.int .i64 i] w (GivesP P (sortT i) w) := by
  have Ri := Lib.hid hri
  clear hri
  obtain ⟨du, hu1, hu2⟩ := under_term
  go_enter Tryz.func30, Tryz.ntmps30
  go_upto_region 1 with fail
  refine at_code (fun V0 hV0 => ?_)
  obtain ⟨k2, x1, z3⟩ := alloc1 hV0
  have Kk4 := Lib.hid k2
  clear k2
  have Hx1 := Lib.hid x1
  have Z0 := Lib.hid z3
  clear z3 x1 hV0
  have kvV0 : Sees V0 (w.heap.size) V0 := sees_kept _ (kept_refl _)
  go_wp2_with (refine stop_store 25 (.tmp 2) (.tmp 4) rfl ?_)
  intro _
  refine wpList_store_part_n (by rfl) 25 (.tmp 2) (.tmp 4) rfl (w.heap.size) 0 #[.int .i64 1, .int .i64 i, .int .i64 0, .int .i64 0, .slice none 0 0] (by rfl) (by rfl) 25 size_term (row_ok rfl) ?_
  intro W5 hW5
  clear kvV0
  subst hW5
  refine ⟨_, #[.int .i64 1, .int .i64 i, .int .i64 0, .int .i64 0, .slice none 0 0], Hx1.out, rfl, Nat.le_of_ble_eq_true rfl, ?_⟩
  intro W6 hW6
  go_wp2_with fail
  refine bodyPost_ret (results_cell_row rfl _ _ (w.heap.size) 25 _ _ du rfl (blk_same Hx1.out hW6) hu1 (by cases du <;> first | rfl | exact hu2) size_term) rfl ?_
  exact ⟨_, rfl, par_end (par_row' (liesQ_nil V0 (Par w V0.heap.size [] P)) hW6 (by omega) (by have := Z0.out; omega)) (by have := Z0.out; omega), kept_set Kk4.out hW6 (by omega)⟩

end Go.Proofs.YtgododpkbiaacaaGreat
